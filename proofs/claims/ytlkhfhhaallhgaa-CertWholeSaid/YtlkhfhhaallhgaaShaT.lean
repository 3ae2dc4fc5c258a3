/- gavelref01's Sum: its loops as declarations of their own. -/
import Derived.Test.YtlkhfhhaallhgaaShaQ
import Derived.Test.YtlkhfhhaallhgaaRefW
import Derived.Deep.RegionHeld3
import Derived.Deep.CutRange
import Derived.Great.BuildSlice
import Derived.Outline
namespace Go.Proofs.Ytlkhfhhaallhgaa
set_option maxRecDepth 100000
open Go.RowKit
theorem words8_size : (Try.prog.info? 121).map (·.size) = some 8 := by kernel_rfl
theorem stopAt (n : Nat) {P : Program} {ops : Array Oper} {rest : List Oper} {op : Op} {ty : TypeId} {ps : String} {af : Array Edge} {gd : Option (Nat × Bool)} {a : Act} {w : World} {Q : Exit → Act → World → Prop} (h : Stop (wpList P ops Q (⟨some n, op, ty, ps, af, gd⟩ :: rest) a w)) : wpList P ops Q (⟨some n, op, ty, ps, af, gd⟩ :: rest) a w := h
theorem kay_len : kay.length = 64 := rfl
set_option maxRecDepth 100000 in
set_option maxHeartbeats 2000000 in
theorem rounds_any (w : World) : Calls Try.prog 62 #[] w fun e w' => e = .returned (.agg (kay.map i32).toArray) ∧ Fr [] w w' := by
  go_enter Try.func62, Try.ntmps62
  go_wp2_with (first
    | (refine wpList_store_box rfl 119 _ _ rfl _ 119 (kay.map i32) rfl rfl (by rw [words_size]; rfl) rfl (i32_one _) ?_
       intro wb hblk hfb
       have HB := Lib.hid hblk
       have HF := Lib.hid hfb
       clear hblk hfb))
  refine bodyPost_ret (v := .agg (kay.map i32).toArray) (results_cell_row Try.results62 _ _ w.heap.size 119 (kay.map i32).toArray _ _ rfl HB.out Try.underlying119 rfl (by rw [words_size]; rfl)) rfl ⟨rfl, ?_⟩
  exact HF.out
theorem turn_w (x m : Int) (h0 : 0 ≤ x) (h1 : 1 ≤ m) (h2 : m ≤ 31) (w : World) :
    Calls Try.prog 63 #[.int .u32 x, .int .u64 m] w fun e w' => e = .returned (.int .u32 (rot x m)) ∧ w = w' :=
  (turn_any x m h0 h1 h2 w).mono fun _ _ ⟨h1, h2⟩ => ⟨h1, h2.symm⟩
theorem wdAt_block (E : List UInt8) (s i : Nat) (hi : i < 16) : wdAt ((E.drop s).take 64) (4 * i) = wdAt E (s + 4 * i) := by
  unfold wdAt
  have h : ∀ j, j < 64 → ((E.drop s).take 64).getD j 0 = E.getD (s + j) 0 := fun j hj => by
    simp [List.getD, hj]
  rw [h _ (by omega), h _ (by omega), h _ (by omega), h _ (by omega)]
  rfl
theorem zeros_lt (n : Nat) : zeros n < 64 := by unfold zeros; omega

def loopsOf : Code → List Code
  | .loop c => c :: loopsOf c
  | .seq a b => loopsOf a ++ loopsOf b
  | .block _ c => loopsOf c
  | .scope c => loopsOf c
  | .cond _ a b => loopsOf a ++ loopsOf b
  | _ => []
/-- the loops of the document's Sum: paddings 0 and 1, blocks 2, words 3, schedule 4, rounds 5, sums 6, out 7 -/
noncomputable def refBody (k : Nat) : Code := ((Try.f49.body.map loopsOf).getD []).getD k .skip
end Go.Proofs.Ytlkhfhhaallhgaa
