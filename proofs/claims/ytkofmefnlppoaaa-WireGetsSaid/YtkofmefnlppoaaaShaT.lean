/- gavelref01's Sum: its loops as declarations of their own. -/
import Derived.Test.YtkofmefnlppoaaaShaQ
import Derived.Test.YtkofmefnlppoaaaRefW
import Derived.Deep.RegionHeld3
import Derived.Deep.CutRange
import Derived.Great.BuildSlice
import Derived.Outline
namespace Go.Proofs.Ytkofmefnlppoaaa
set_option maxRecDepth 100000
open Go.RowKit
theorem stopAt (n : Nat) {P : Program} {ops : Array Oper} {rest : List Oper} {op : Op} {ty : TypeId} {ps : String} {af : Array Edge} {gd : Option (Nat × Bool)} {a : Act} {w : World} {Q : Exit → Act → World → Prop} (h : Stop (wpList P ops Q (⟨some n, op, ty, ps, af, gd⟩ :: rest) a w)) : wpList P ops Q (⟨some n, op, ty, ps, af, gd⟩ :: rest) a w := h
theorem kay_len : kay.length = 64 := rfl
theorem wdAt_block (E : List UInt8) (s i : Nat) (hi : i < 16) : wdAt ((E.drop s).take 64) (4 * i) = wdAt E (s + 4 * i) := by
  unfold wdAt
  have h : ∀ j, j < 64 → ((E.drop s).take 64).getD j 0 = E.getD (s + j) 0 := fun j hj => by
    simp [List.getD, hj]
  rw [h _ (by omega), h _ (by omega), h _ (by omega), h _ (by omega)]
  rfl
theorem zeros_lt (n : Nat) : zeros n < 64 := by unfold zeros; omega

def loopsOf : Code → List Code
  | .loop c => c :: loopsOf c
  | .seq a b => loopsOf a ++ loopsOf b
  | .block _ c => loopsOf c
  | .scope c => loopsOf c
  | .cond _ a b => loopsOf a ++ loopsOf b
  | _ => []
end Go.Proofs.Ytkofmefnlppoaaa
