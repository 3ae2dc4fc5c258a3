/- The walk of WireApart: its small stamps and votes; the text of an ack. -/
import Derived.Test.YtjlmackfmmaknaaEqS
import Derived.Test.YtjlmackfmmaknaaWCf
import Derived.Test.YtjlmackfmmaknaaReg2
import Derived.IntWalk
import Derived.Deep.CutBlock
namespace Go.Proofs.Ytjlmackfmmaknaa
open Go.RowKit
set_option maxRecDepth 100000

def hh1 (u : UInt8) : List UInt8 := u :: List.replicate 31 0
def Wst.small (x : Wst) : Wst := ⟨x.r % 4, x.c % 3, x.s % 3, hh1 (x.h.getD 0 0 % 2), x.t % 3, 0, 0⟩
def Wvt.small (x : Wvt) : Wvt := ⟨1 + x.k % 2, x.e % 3, x.r % 3, x.p % 4, hh1 (x.h.getD 0 0 % 2), 0, 0⟩
theorem built_nm (c s : Int) : Try.prog.built 52 [(0, .int .i64 c), (1, .int .i64 s)] = some #[.int .i64 c, .int .i64 s] := by kernel_rfl
theorem built_h1 (u : UInt8) : Try.prog.built 54 [(0, by8 u)] = some ((hh1 u).map by8).toArray := by kernel_rfl
theorem built_st (r c s : Int) (u : UInt8) (t : Nat) : Try.prog.built 57 [(0, .int .i64 r), (1, .agg #[.int .i64 c, .int .i64 s]), (2, .agg ((hh1 u).map by8).toArray), (3, .int .u64 (t : Int))] = some (Wst.cells ⟨r, c, s, hh1 u, t, 0, 0⟩).toArray := by kernel_rfl
theorem built_vt (k e r p : Int) (u : UInt8) : Try.prog.built 59 [(0, .int .i64 k), (1, .int .i64 e), (2, .int .i64 r), (3, .int .i64 p), (4, .agg ((hh1 u).map by8).toArray)] = some (Wvt.cells ⟨k, e, r, p, hh1 u, 0, 0⟩).toArray := by kernel_rfl
theorem built_dn (r i : Int) : Try.prog.built 61 [(0, .int .i64 r), (1, .int .i64 i)] = some (Wdn.cells ⟨r, i, 0, 0⟩).toArray := by kernel_rfl
def zeroSt : Array Value := (Wst.cells ⟨0, 0, 0, List.replicate 32 0, 0, 0, 0⟩).toArray
def zeroVt : Array Value := (Wvt.cells ⟨0, 0, 0, 0, List.replicate 32 0, 0, 0⟩).toArray

set_option maxHeartbeats 1000000 in
theorem smallStamp_any (x : Wst) (hx : x.Ok) (w : World) :
    Calls Try.prog 23 #[x.val] w fun e w' => e = .returned x.small.val ∧ Fr [] w w' := by
  obtain ⟨wa, hwa⟩ : ∃ wa, wa = (w.alloc (Obj.cells x.cells.toArray 57)).alloc (Obj.cells zeroSt 57) := ⟨_, rfl⟩
  have hf0 : Fr [] w wa := by rw [hwa]; exact ((Fr.refl [] w).alloc _).alloc _
  have hb0 : Blk wa w.heap.size 57 x.cells.toArray := by rw [hwa]; exact blk_alloc (Blk.new _ _ _)
  have hb1 : Blk wa (w.heap.size + 1) 57 zeroSt := by
    have := Blk.new (w.alloc (Obj.cells x.cells.toArray 57)) 57 zeroSt
    rw [hwa]
    simpa using this
  have hat := Wst.at_of (o := 0) hb0.range hx.h
  have hu : wa.cell? ⟨w.heap.size, 3, none⟩ = some (by8 (x.h.getD 0 0)) := by
    have h0 : (x.h.map by8)[0]? = some (by8 (x.h.getD 0 0)) := by
      cases hc : x.h with
      | nil => have := hx.h; simp [hc] at this
      | cons y ys => simp
    have := hat.hash 0 _ h0
    simpa using this
  unfold by8 at hu
  have HU := Lib.hid hu
  have HAT := Lib.hid hat
  have HF0 := Lib.hid hf0
  have HB1 := Lib.hid hb1
  have HWA := Lib.hid hwa
  have HX := Lib.hid hx
  have hsm : x.small = ⟨x.r % 4, x.c % 3, x.s % 3, hh1 (x.h.getD 0 0 % 2), x.t % 3, 0, 0⟩ := rfl
  have hmod : ((x.h.getD 0 0).toNat : Int).tmod 2 = ((x.h.getD 0 0 % 2).toNat : Int) := by rw [Int.tmod_eq_emod_of_nonneg (by omega)]; simp [UInt8.toNat_mod]
  have htm : (x.t : Int).tmod 3 = ((x.t % 3 : Nat) : Int) := by rw [Int.tmod_eq_emod_of_nonneg (by omega)]; simp
  have HMOD := Lib.hid hmod
  have HTM := Lib.hid htm
  clear hmod htm
  clear hwa hf0 hb0 hb1 hat hu hx
  generalize x.h.getD 0 0 = u at *
  have HCS : Hid ((Wst.cells ⟨x.r % 4, x.c % 3, x.s % 3, hh1 (u % 2), x.t % 3, 0, 0⟩).length = 38) := Lib.hid (Wst.len rfl)
  have HONE := Lib.hid (all_oneCell_toArray (Wst.one ⟨x.r % 4, x.c % 3, x.s % 3, hh1 (u % 2), x.t % 3, 0, 0⟩))
  have HBS := Lib.hid (built_st (x.r % 4) (x.c % 3) (x.s % 3) (u % 2) (x.t % 3))
  rw [hsm]
  clear hsm
  unfold Wst.val
  generalize (Wst.cells ⟨x.r % 4, x.c % 3, x.s % 3, hh1 (u % 2), x.t % 3, 0, 0⟩) = CS at *
  generalize x.cells = C at *
  go_enter Try.func23, Try.ntmps23
  go_upto_region 1 with (fail)
  change Code.wp _ _ _ _ ((w.alloc (Obj.cells C.toArray 57)).alloc (Obj.cells zeroSt 57))
  rw [← HWA.out]
  refine wp_region_held_drew (S := Fr [w.heap.size + 1] wa) (by kernel_rfl) (Fr.drew (Fr.refl _ wa)) (fun hHeld => ?_)
  refine run_at (i := 0) (v := ?_) rfl (by kernel_rfl) (by rfl) (fun _ _ _ h => h) hHeld (fun w1 hw1 => ?_) ?_
  rotate_left 1
  · skip
    go_simp
    (try (first | with_reducible rfl | (apply And.intro <;> rfl)))
  simp only [Act.put, List.setIfInBounds_toArray, List.set_cons_zero, List.set_cons_succ]
  refine run_at (i := 1) (v := ?_) rfl (by kernel_rfl) (by rfl) (fun _ _ _ h => h) hHeld (fun w1 hw1 => ?_) ?_
  rotate_left 1
  · skip
    have hcw0 := hw1.cell (HAT.out.r) (by first | (simp; done) | exact HNS.out | exact HNW.out | (intro hm; have hlt := HSB.out _ hm; (try dsimp only at hlt); omega))
    go_simp
    (try (first | with_reducible rfl | (apply And.intro <;> rfl)))
  simp only [Act.put, List.setIfInBounds_toArray, List.set_cons_zero, List.set_cons_succ]
  refine run_at (i := 3) (v := ?_) rfl (by kernel_rfl) (by rfl) (fun _ _ _ h => h) hHeld (fun w1 hw1 => ?_) ?_
  rotate_left 1
  · skip
    go_simp
    (try (first | with_reducible rfl | (apply And.intro <;> rfl)))
  simp only [Act.put, List.setIfInBounds_toArray, List.set_cons_zero, List.set_cons_succ]
  refine run_at (i := 4) (v := ?_) rfl (by kernel_rfl) (by rfl) (fun _ _ _ h => h) hHeld (fun w1 hw1 => ?_) ?_
  rotate_left 1
  · skip
    go_simp
    (try (first | with_reducible rfl | (apply And.intro <;> rfl)))
  simp only [Act.put, List.setIfInBounds_toArray, List.set_cons_zero, List.set_cons_succ]
  refine run_at (i := 5) (v := ?_) rfl (by kernel_rfl) (by rfl) (fun _ _ _ h => h) hHeld (fun w1 hw1 => ?_) ?_
  rotate_left 1
  · skip
    have hcw0 := hw1.cell (HAT.out.c) (by first | (simp; done) | exact HNS.out | exact HNW.out | (intro hm; have hlt := HSB.out _ hm; (try dsimp only at hlt); omega))
    go_simp
    (try (first | with_reducible rfl | (apply And.intro <;> rfl)))
  simp only [Act.put, List.setIfInBounds_toArray, List.set_cons_zero, List.set_cons_succ]
  refine run_at (i := 7) (v := ?_) rfl (by kernel_rfl) (by rfl) (fun _ _ _ h => h) hHeld (fun w1 hw1 => ?_) ?_
  rotate_left 1
  · skip
    go_simp
    (try (first | with_reducible rfl | (apply And.intro <;> rfl)))
  simp only [Act.put, List.setIfInBounds_toArray, List.set_cons_zero, List.set_cons_succ]
  refine run_at (i := 8) (v := ?_) rfl (by kernel_rfl) (by rfl) (fun _ _ _ h => h) hHeld (fun w1 hw1 => ?_) ?_
  rotate_left 1
  · skip
    go_simp
    (try (first | with_reducible rfl | (apply And.intro <;> rfl)))
  simp only [Act.put, List.setIfInBounds_toArray, List.set_cons_zero, List.set_cons_succ]
  refine run_at (i := 9) (v := ?_) rfl (by kernel_rfl) (by rfl) (fun _ _ _ h => h) hHeld (fun w1 hw1 => ?_) ?_
  rotate_left 1
  · skip
    have hcw0 := hw1.cell (HAT.out.s) (by first | (simp; done) | exact HNS.out | exact HNW.out | (intro hm; have hlt := HSB.out _ hm; (try dsimp only at hlt); omega))
    go_simp
    (try (first | with_reducible rfl | (apply And.intro <;> rfl)))
  simp only [Act.put, List.setIfInBounds_toArray, List.set_cons_zero, List.set_cons_succ]
  refine run_at (i := 12) (v := ?_) rfl (by kernel_rfl) (by rfl) (fun _ _ _ h => h) hHeld (fun w1 hw1 => ?_) ?_
  rotate_left 1
  · skip
    go_simp
    (try (first | with_reducible rfl | (apply And.intro <;> rfl)))
  simp only [Act.put, List.setIfInBounds_toArray, List.set_cons_zero, List.set_cons_succ]
  refine run_at (i := 13) (v := ?_) rfl (by kernel_rfl) (by rfl) (fun _ _ _ h => h) hHeld (fun w1 hw1 => ?_) ?_
  rotate_left 1
  · skip
    go_simp
    (try (first | with_reducible rfl | (apply And.intro <;> rfl)))
  simp only [Act.put, List.setIfInBounds_toArray, List.set_cons_zero, List.set_cons_succ]
  refine run_at (i := 14) (v := ?_) rfl (by kernel_rfl) (by rfl) (fun _ _ _ h => h) hHeld (fun w1 hw1 => ?_) ?_
  rotate_left 1
  · skip
    have hcw0 := hw1.cell (HU.out) (by first | (simp; done) | exact HNS.out | exact HNW.out | (intro hm; have hlt := HSB.out _ hm; (try dsimp only at hlt); omega))
    go_simp
    (try (first | with_reducible rfl | (apply And.intro <;> rfl)))
  simp only [Act.put, List.setIfInBounds_toArray, List.set_cons_zero, List.set_cons_succ]
  refine run_at (i := 15) (v := ?_) rfl (by kernel_rfl) (by rfl) (fun _ _ _ h => h) hHeld (fun w1 hw1 => ?_) ?_
  rotate_left 1
  · skip
    go_simp
    (try (first | with_reducible rfl | (apply And.intro <;> rfl)))
  simp only [Act.put, List.setIfInBounds_toArray, List.set_cons_zero, List.set_cons_succ]
  rw [HMOD.out]
  refine build_at (i := 16) rfl (by kernel_rfl) (by rfl) _ _ rfl _ _ (built_h1 (u % 2)) rfl (fun _ _ _ h => h) hHeld ?_
  simp only [Act.put, List.setIfInBounds_toArray, List.set_cons_zero, List.set_cons_succ]
  refine run_at (i := 17) (v := ?_) rfl (by kernel_rfl) (by rfl) (fun _ _ _ h => h) hHeld (fun w1 hw1 => ?_) ?_
  rotate_left 1
  · skip
    go_simp
    (try (first | with_reducible rfl | (apply And.intro <;> rfl)))
  simp only [Act.put, List.setIfInBounds_toArray, List.set_cons_zero, List.set_cons_succ]
  refine run_at (i := 18) (v := ?_) rfl (by kernel_rfl) (by rfl) (fun _ _ _ h => h) hHeld (fun w1 hw1 => ?_) ?_
  rotate_left 1
  · skip
    have hcw0 := hw1.cell (HAT.out.t) (by first | (simp; done) | exact HNS.out | exact HNW.out | (intro hm; have hlt := HSB.out _ hm; (try dsimp only at hlt); omega))
    go_simp
    (try (first | with_reducible rfl | (apply And.intro <;> rfl)))
  simp only [Act.put, List.setIfInBounds_toArray, List.set_cons_zero, List.set_cons_succ]
  refine run_at (i := 19) (v := ?_) rfl (by kernel_rfl) (by rfl) (fun _ _ _ h => h) hHeld (fun w1 hw1 => ?_) ?_
  rotate_left 1
  · skip
    go_simp
    (try (first | with_reducible rfl | (apply And.intro <;> rfl)))
  simp only [Act.put, List.setIfInBounds_toArray, List.set_cons_zero, List.set_cons_succ]
  rw [HTM.out]
  refine call_at (i := 2) (f := ?_) (args := ?_) rfl (by kernel_rfl) (by rfl) ?_ ?_
  rotate_left 2
  · go_simp
    (try (first | with_reducible rfl | (apply And.intro <;> rfl)))
  refine (within_pos x.r 4 HX.out.r.1 HX.out.r.2 (by omega) (by omega) _).mono ?_
  rintro e w1 ⟨rfl, rfl⟩
  refine ⟨_, rfl, hHeld, fun hHeld => ?_⟩
  simp only [Act.put, List.setIfInBounds_toArray, List.set_cons_zero, List.set_cons_succ]
  refine call_at (i := 6) (f := ?_) (args := ?_) rfl (by kernel_rfl) (by rfl) ?_ ?_
  rotate_left 2
  · go_simp
    (try (first | with_reducible rfl | (apply And.intro <;> rfl)))
  refine (within_pos x.c 3 HX.out.c.1 HX.out.c.2 (by omega) (by omega) _).mono ?_
  rintro e w1 ⟨rfl, rfl⟩
  refine ⟨_, rfl, hHeld, fun hHeld => ?_⟩
  simp only [Act.put, List.setIfInBounds_toArray, List.set_cons_zero, List.set_cons_succ]
  refine call_at (i := 10) (f := ?_) (args := ?_) rfl (by kernel_rfl) (by rfl) ?_ ?_
  rotate_left 2
  · go_simp
    (try (first | with_reducible rfl | (apply And.intro <;> rfl)))
  refine (within_pos x.s 3 HX.out.s.1 HX.out.s.2 (by omega) (by omega) _).mono ?_
  rintro e w1 ⟨rfl, rfl⟩
  refine ⟨_, rfl, hHeld, fun hHeld => ?_⟩
  simp only [Act.put, List.setIfInBounds_toArray, List.set_cons_zero, List.set_cons_succ]
  refine build_at (i := 11) rfl (by kernel_rfl) (by rfl) _ _ rfl _ _ (built_nm (x.c % 3) (x.s % 3)) rfl (fun _ _ _ h => h) hHeld ?_
  simp only [Act.put, List.setIfInBounds_toArray, List.set_cons_zero, List.set_cons_succ]
  refine build_at (i := 20) rfl (by kernel_rfl) (by rfl) _ _ rfl _ _ (HBS.out) rfl (fun _ _ _ h => h) hHeld ?_
  simp only [Act.put, List.setIfInBounds_toArray, List.set_cons_zero, List.set_cons_succ]
  refine step_at (i := 21) rfl (by kernel_rfl) (by rfl) (fun K hK => ?_)
  refine wp_store_blk 57 _ _ rfl (w.heap.size + 1) CS.toArray rfl rfl 57 zeroSt (HB1.out.drew) (by rw [List.size_toArray, HCS.out]; kernel_rfl) ((show zeroSt.size = 38 from rfl).trans (by rw [List.size_toArray, HCS.out])) HONE.out ?_
  intro w6 hb6 hf6
  have hf7 : Fr [w.heap.size + 1] wa w6 := hHeld.trans hf6 (fun x hx _ => hx)
  refine hK.out _ _ hf7 (fun hHeld => ?_)
  clear hK K hf7
  simp only [Act.put, List.setIfInBounds_toArray, List.set_cons_zero, List.set_cons_succ]
  have HB6 := Lib.hid hb6
  have HF6 := Lib.hid (HF0.out.go hHeld (by simp))
  clear hb6 hf6
  refine wpAnyH_done (by kernel_rfl) ?_ _
  go_wp2
  exact bodyPost_ret (v := .agg CS.toArray) (results_cell_row Try.results23 _ _ (w.heap.size + 1) 57 CS.toArray _ _ rfl HB6.out Try.underlying57 rfl (by rw [List.size_toArray, HCS.out]; kernel_rfl)) rfl ⟨rfl, HF6.out⟩
-- votes
set_option maxHeartbeats 1000000 in
theorem smallVote_any (x : Wvt) (hx : x.Ok) (w : World) :
    Calls Try.prog 24 #[x.val] w fun e w' => e = .returned x.small.val ∧ Fr [] w w' := by
  obtain ⟨wa, hwa⟩ : ∃ wa, wa = (w.alloc (Obj.cells x.cells.toArray 59)).alloc (Obj.cells zeroVt 59) := ⟨_, rfl⟩
  have hf0 : Fr [] w wa := by rw [hwa]; exact ((Fr.refl [] w).alloc _).alloc _
  have hb0 : Blk wa w.heap.size 59 x.cells.toArray := by rw [hwa]; exact blk_alloc (Blk.new _ _ _)
  have hb1 : Blk wa (w.heap.size + 1) 59 zeroVt := by
    have := Blk.new (w.alloc (Obj.cells x.cells.toArray 59)) 59 zeroVt
    rw [hwa]
    simpa using this
  have hat := Wvt.at_of (o := 0) hb0.range hx.h
  have hu : wa.cell? ⟨w.heap.size, 4, none⟩ = some (by8 (x.h.getD 0 0)) := by
    have h0 : (x.h.map by8)[0]? = some (by8 (x.h.getD 0 0)) := by
      cases hc : x.h with
      | nil => have := hx.h; simp [hc] at this
      | cons y ys => simp
    have := hat.hash 0 _ h0
    simpa using this
  unfold by8 at hu
  have HU := Lib.hid hu
  have HAT := Lib.hid hat
  have HF0 := Lib.hid hf0
  have HB1 := Lib.hid hb1
  have HWA := Lib.hid hwa
  have HX := Lib.hid hx
  have hsm : x.small = ⟨1 + x.k % 2, x.e % 3, x.r % 3, x.p % 4, hh1 (x.h.getD 0 0 % 2), 0, 0⟩ := rfl
  have hmod : ((x.h.getD 0 0).toNat : Int).tmod 2 = ((x.h.getD 0 0 % 2).toNat : Int) := by rw [Int.tmod_eq_emod_of_nonneg (by omega)]; simp [UInt8.toNat_mod]
  have HMOD := Lib.hid hmod
  clear hmod
  clear hwa hf0 hb0 hb1 hat hu hx
  generalize x.h.getD 0 0 = u at *
  have HCS : Hid ((Wvt.cells ⟨1 + x.k % 2, x.e % 3, x.r % 3, x.p % 4, hh1 (u % 2), 0, 0⟩).length = 38) := Lib.hid (Wvt.len rfl)
  have HONE := Lib.hid (all_oneCell_toArray (Wvt.one ⟨1 + x.k % 2, x.e % 3, x.r % 3, x.p % 4, hh1 (u % 2), 0, 0⟩))
  have HBS := Lib.hid (built_vt (1 + x.k % 2) (x.e % 3) (x.r % 3) (x.p % 4) (u % 2))
  rw [hsm]
  clear hsm
  unfold Wvt.val
  generalize (Wvt.cells ⟨1 + x.k % 2, x.e % 3, x.r % 3, x.p % 4, hh1 (u % 2), 0, 0⟩) = CS at *
  generalize x.cells = C at *
  go_enter Try.func24, Try.ntmps24
  go_upto_region 1 with (fail)
  change Code.wp _ _ _ _ ((w.alloc (Obj.cells C.toArray 59)).alloc (Obj.cells zeroVt 59))
  rw [← HWA.out]
  refine wp_region_held_drew (S := Fr [w.heap.size + 1] wa) (by kernel_rfl) (Fr.drew (Fr.refl _ wa)) (fun hHeld => ?_)
  have hk0 : 0 ≤ x.k % 2 := Int.emod_nonneg _ (by omega)
  have hk1 : x.k % 2 < 2 := Int.emod_lt_of_pos _ (by omega)
  refine run_at (i := 0) (v := ?_) rfl (by kernel_rfl) (by rfl) (fun _ _ _ h => h) hHeld (fun w1 hw1 => ?_) ?_
  rotate_left 1
  · skip
    go_simp
    (try (first | with_reducible rfl | (apply And.intro <;> rfl)))
  simp only [Act.put, List.setIfInBounds_toArray, List.set_cons_zero, List.set_cons_succ]
  refine run_at (i := 1) (v := ?_) rfl (by kernel_rfl) (by rfl) (fun _ _ _ h => h) hHeld (fun w1 hw1 => ?_) ?_
  rotate_left 1
  · skip
    have hcw0 := hw1.cell (HAT.out.k) (by first | (simp; done) | exact HNS.out | exact HNW.out | (intro hm; have hlt := HSB.out _ hm; (try dsimp only at hlt); omega))
    go_simp
    (try (first | with_reducible rfl | (apply And.intro <;> rfl)))
  simp only [Act.put, List.setIfInBounds_toArray, List.set_cons_zero, List.set_cons_succ]
  refine run_at (i := 4) (v := ?_) rfl (by kernel_rfl) (by rfl) (fun _ _ _ h => h) hHeld (fun w1 hw1 => ?_) ?_
  rotate_left 1
  · skip
    go_simp
    (try (first | with_reducible rfl | (apply And.intro <;> rfl)))
  simp only [Act.put, List.setIfInBounds_toArray, List.set_cons_zero, List.set_cons_succ]
  refine run_at (i := 5) (v := ?_) rfl (by kernel_rfl) (by rfl) (fun _ _ _ h => h) hHeld (fun w1 hw1 => ?_) ?_
  rotate_left 1
  · skip
    have hcw0 := hw1.cell (HAT.out.e) (by first | (simp; done) | exact HNS.out | exact HNW.out | (intro hm; have hlt := HSB.out _ hm; (try dsimp only at hlt); omega))
    go_simp
    (try (first | with_reducible rfl | (apply And.intro <;> rfl)))
  simp only [Act.put, List.setIfInBounds_toArray, List.set_cons_zero, List.set_cons_succ]
  refine run_at (i := 7) (v := ?_) rfl (by kernel_rfl) (by rfl) (fun _ _ _ h => h) hHeld (fun w1 hw1 => ?_) ?_
  rotate_left 1
  · skip
    go_simp
    (try (first | with_reducible rfl | (apply And.intro <;> rfl)))
  simp only [Act.put, List.setIfInBounds_toArray, List.set_cons_zero, List.set_cons_succ]
  refine run_at (i := 8) (v := ?_) rfl (by kernel_rfl) (by rfl) (fun _ _ _ h => h) hHeld (fun w1 hw1 => ?_) ?_
  rotate_left 1
  · skip
    have hcw0 := hw1.cell (HAT.out.r) (by first | (simp; done) | exact HNS.out | exact HNW.out | (intro hm; have hlt := HSB.out _ hm; (try dsimp only at hlt); omega))
    go_simp
    (try (first | with_reducible rfl | (apply And.intro <;> rfl)))
  simp only [Act.put, List.setIfInBounds_toArray, List.set_cons_zero, List.set_cons_succ]
  refine run_at (i := 10) (v := ?_) rfl (by kernel_rfl) (by rfl) (fun _ _ _ h => h) hHeld (fun w1 hw1 => ?_) ?_
  rotate_left 1
  · skip
    go_simp
    (try (first | with_reducible rfl | (apply And.intro <;> rfl)))
  simp only [Act.put, List.setIfInBounds_toArray, List.set_cons_zero, List.set_cons_succ]
  refine run_at (i := 11) (v := ?_) rfl (by kernel_rfl) (by rfl) (fun _ _ _ h => h) hHeld (fun w1 hw1 => ?_) ?_
  rotate_left 1
  · skip
    have hcw0 := hw1.cell (HAT.out.p) (by first | (simp; done) | exact HNS.out | exact HNW.out | (intro hm; have hlt := HSB.out _ hm; (try dsimp only at hlt); omega))
    go_simp
    (try (first | with_reducible rfl | (apply And.intro <;> rfl)))
  simp only [Act.put, List.setIfInBounds_toArray, List.set_cons_zero, List.set_cons_succ]
  refine run_at (i := 13) (v := ?_) rfl (by kernel_rfl) (by rfl) (fun _ _ _ h => h) hHeld (fun w1 hw1 => ?_) ?_
  rotate_left 1
  · skip
    go_simp
    (try (first | with_reducible rfl | (apply And.intro <;> rfl)))
  simp only [Act.put, List.setIfInBounds_toArray, List.set_cons_zero, List.set_cons_succ]
  refine run_at (i := 14) (v := ?_) rfl (by kernel_rfl) (by rfl) (fun _ _ _ h => h) hHeld (fun w1 hw1 => ?_) ?_
  rotate_left 1
  · skip
    go_simp
    (try (first | with_reducible rfl | (apply And.intro <;> rfl)))
  simp only [Act.put, List.setIfInBounds_toArray, List.set_cons_zero, List.set_cons_succ]
  refine run_at (i := 15) (v := ?_) rfl (by kernel_rfl) (by rfl) (fun _ _ _ h => h) hHeld (fun w1 hw1 => ?_) ?_
  rotate_left 1
  · skip
    have hcw0 := hw1.cell (HU.out) (by first | (simp; done) | exact HNS.out | exact HNW.out | (intro hm; have hlt := HSB.out _ hm; (try dsimp only at hlt); omega))
    go_simp
    (try (first | with_reducible rfl | (apply And.intro <;> rfl)))
  simp only [Act.put, List.setIfInBounds_toArray, List.set_cons_zero, List.set_cons_succ]
  refine run_at (i := 16) (v := ?_) rfl (by kernel_rfl) (by rfl) (fun _ _ _ h => h) hHeld (fun w1 hw1 => ?_) ?_
  rotate_left 1
  · skip
    go_simp
    (try (first | with_reducible rfl | (apply And.intro <;> rfl)))
  simp only [Act.put, List.setIfInBounds_toArray, List.set_cons_zero, List.set_cons_succ]
  rw [HMOD.out]
  refine build_at (i := 17) rfl (by kernel_rfl) (by rfl) _ _ rfl _ _ (built_h1 (u % 2)) rfl (fun _ _ _ h => h) hHeld ?_
  simp only [Act.put, List.setIfInBounds_toArray, List.set_cons_zero, List.set_cons_succ]
  refine call_at (i := 2) (f := ?_) (args := ?_) rfl (by kernel_rfl) (by rfl) ?_ ?_
  rotate_left 2
  · go_simp
    (try (first | with_reducible rfl | (apply And.intro <;> rfl)))
  refine (within_pos x.k 2 HX.out.k.1 HX.out.k.2 (by omega) (by omega) _).mono ?_
  rintro e w1 ⟨rfl, rfl⟩
  refine ⟨_, rfl, hHeld, fun hHeld => ?_⟩
  simp only [Act.put, List.setIfInBounds_toArray, List.set_cons_zero, List.set_cons_succ]
  refine run_at (i := 3) (v := ?_) rfl (by kernel_rfl) (by rfl) (fun _ _ _ h => h) hHeld (fun w1 hw1 => ?_) ?_
  rotate_left 1
  · skip
    go_simp
    (try (first | with_reducible rfl | (apply And.intro <;> rfl)))
  simp only [Act.put, List.setIfInBounds_toArray, List.set_cons_zero, List.set_cons_succ]
  rw [IntWalk.i64_in _ ⟨by omega, by omega⟩]
  refine call_at (i := 6) (f := ?_) (args := ?_) rfl (by kernel_rfl) (by rfl) ?_ ?_
  rotate_left 2
  · go_simp
    (try (first | with_reducible rfl | (apply And.intro <;> rfl)))
  refine (within_pos x.e 3 HX.out.e.1 HX.out.e.2 (by omega) (by omega) _).mono ?_
  rintro e w1 ⟨rfl, rfl⟩
  refine ⟨_, rfl, hHeld, fun hHeld => ?_⟩
  simp only [Act.put, List.setIfInBounds_toArray, List.set_cons_zero, List.set_cons_succ]
  refine call_at (i := 9) (f := ?_) (args := ?_) rfl (by kernel_rfl) (by rfl) ?_ ?_
  rotate_left 2
  · go_simp
    (try (first | with_reducible rfl | (apply And.intro <;> rfl)))
  refine (within_pos x.r 3 HX.out.r.1 HX.out.r.2 (by omega) (by omega) _).mono ?_
  rintro e w1 ⟨rfl, rfl⟩
  refine ⟨_, rfl, hHeld, fun hHeld => ?_⟩
  simp only [Act.put, List.setIfInBounds_toArray, List.set_cons_zero, List.set_cons_succ]
  refine call_at (i := 12) (f := ?_) (args := ?_) rfl (by kernel_rfl) (by rfl) ?_ ?_
  rotate_left 2
  · go_simp
    (try (first | with_reducible rfl | (apply And.intro <;> rfl)))
  refine (within_pos x.p 4 HX.out.p.1 HX.out.p.2 (by omega) (by omega) _).mono ?_
  rintro e w1 ⟨rfl, rfl⟩
  refine ⟨_, rfl, hHeld, fun hHeld => ?_⟩
  simp only [Act.put, List.setIfInBounds_toArray, List.set_cons_zero, List.set_cons_succ]
  refine build_at (i := 18) rfl (by kernel_rfl) (by rfl) _ _ rfl _ _ (HBS.out) rfl (fun _ _ _ h => h) hHeld ?_
  simp only [Act.put, List.setIfInBounds_toArray, List.set_cons_zero, List.set_cons_succ]
  refine step_at (i := 19) rfl (by kernel_rfl) (by rfl) (fun K hK => ?_)
  refine wp_store_blk 59 _ _ rfl (w.heap.size + 1) CS.toArray rfl rfl 59 zeroVt (HB1.out.drew) (by rw [List.size_toArray, HCS.out]; kernel_rfl) ((show zeroVt.size = 38 from rfl).trans (by rw [List.size_toArray, HCS.out])) HONE.out ?_
  intro w6 hb6 hf6
  have hf7 : Fr [w.heap.size + 1] wa w6 := hHeld.trans hf6 (fun x hx _ => hx)
  refine hK.out _ _ hf7 (fun hHeld => ?_)
  clear hK K hf7
  simp only [Act.put, List.setIfInBounds_toArray, List.set_cons_zero, List.set_cons_succ]
  have HB6 := Lib.hid hb6
  have HF6 := Lib.hid (HF0.out.go hHeld (by simp))
  clear hb6 hf6
  refine wpAnyH_done (by kernel_rfl) ?_ _
  go_wp2
  exact bodyPost_ret (v := .agg CS.toArray) (results_cell_row Try.results24 _ _ (w.heap.size + 1) 59 CS.toArray _ _ rfl HB6.out Try.underlying59 rfl (by rw [List.size_toArray, HCS.out]; kernel_rfl)) rfl ⟨rfl, HF6.out⟩
def wAck : List UInt8 := [97, 99, 107]
def Wst.ack (x : Wst) : List UInt8 := enc wAck.length ++ wAck ++ x.bare
theorem Wst.ack_len {x : Wst} (hx : x.Ok) : x.ack.length ≤ 100 := by
  have b0 := Wst.bare_len hx
  have b1 := enc_ten (m := wAck.length) (by decide)
  have b2 : wAck.length = 3 := rfl
  simp only [Wst.ack, List.length_append]
  omega
set_option maxHeartbeats 1000000 in
theorem ackText_any (x : Wst) (hx : x.Ok) (w : World) :
    Calls Try.prog 28 #[x.val] w fun e w' => ∃ A c, e = .returned (.slice A x.ack.length c) ∧ NewB w w' A x.ack.length c x.ack := by
  obtain ⟨wa, hwa⟩ : ∃ wa, wa = w.alloc (Obj.cells x.cells.toArray 69) := ⟨_, rfl⟩
  have hf0 : Fr [] w wa := by rw [hwa]; exact (Fr.refl [] w).alloc _
  have hb0 : Blk wa w.heap.size 69 x.cells.toArray := by rw [hwa]; exact Blk.new _ _ _
  have HAT := Lib.hid (Wst.at_of (o := 0) hb0.range hx.h)
  have HTL := Lib.hid (Wst.ack_len hx)
  have HACK : Hid (x.ack = enc wAck.length ++ wAck ++ encI x.r ++ nmL x.c x.s ++ x.h ++ enc x.t) := Lib.hid (by simp [Wst.ack, Wst.bare, List.append_assoc])
  have HF0 := Lib.hid hf0
  have HWA := Lib.hid hwa
  have HX := Lib.hid hx
  have HL0 : Hid ((enc wAck.length ++ wAck).length ≤ 20) := Lib.hid (by have b1 := enc_ten (m := wAck.length) (by decide); have b2 : wAck.length = 3 := rfl; simp only [List.length_append]; omega)
  clear hwa hf0 hb0 hx
  unfold Wst.val
  generalize x.ack = T at *
  generalize hC : x.cells = C at *
  clear hC
  go_enter Try.func28, Try.ntmps28
  go_wp2
  rw [← HWA.out]
  refine wp_region_held_drew (S := Fr [] wa) (by kernel_rfl) (Fr.drew (Fr.refl _ wa)) (fun hHeld => ?_)
  refine run_at (i := 1) (v := ?_) rfl (by kernel_rfl) (by rfl) (fun _ _ _ h => h) hHeld (fun w1 hw1 => ?_) ?_
  rotate_left 1
  · skip
    go_simp
    (try (first | with_reducible rfl | (apply And.intro <;> rfl)))
  simp only [Act.put, List.setIfInBounds_toArray, List.set_cons_zero, List.set_cons_succ]
  refine run_at (i := 2) (v := ?_) rfl (by kernel_rfl) (by rfl) (fun _ _ _ h => h) hHeld (fun w1 hw1 => ?_) ?_
  rotate_left 1
  · skip
    have hcw0 := hw1.cell (HAT.out.r) (by first | (simp; done) | exact HNS.out | exact HNW.out | (intro hm; have hlt := HSB.out _ hm; (try dsimp only at hlt); omega))
    go_simp
    (try (first | with_reducible rfl | (apply And.intro <;> rfl)))
  simp only [Act.put, List.setIfInBounds_toArray, List.set_cons_zero, List.set_cons_succ]
  refine run_at (i := 4) (v := ?_) rfl (by kernel_rfl) (by rfl) (fun _ _ _ h => h) hHeld (fun w1 hw1 => ?_) ?_
  rotate_left 1
  · skip
    go_simp
    (try (first | with_reducible rfl | (apply And.intro <;> rfl)))
  simp only [Act.put, List.setIfInBounds_toArray, List.set_cons_zero, List.set_cons_succ]
  refine row_at (i := 5) rfl (by kernel_rfl) (by rfl) _ _ rfl _ _ rfl _ (fun w1 hw1 => hw1.range (HAT.out.name) (by first | (simp; done) | exact HNS.out | exact HNW.out | (intro hm; have hlt := HSB.out _ hm; (try dsimp only at hlt); omega))) (row_name) (fun _ _ _ h => h) hHeld ?_
  simp only [Act.put, List.setIfInBounds_toArray, List.set_cons_zero, List.set_cons_succ]
  refine run_at (i := 7) (v := ?_) rfl (by kernel_rfl) (by rfl) (fun _ _ _ h => h) hHeld (fun w1 hw1 => ?_) ?_
  rotate_left 1
  · skip
    go_simp
    (try (first | with_reducible rfl | (apply And.intro <;> rfl)))
  simp only [Act.put, List.setIfInBounds_toArray, List.set_cons_zero, List.set_cons_succ]
  refine row_at (i := 8) rfl (by kernel_rfl) (by rfl) _ _ rfl _ _ rfl _ (fun w1 hw1 => hw1.range (HAT.out.hash) (by first | (simp; done) | exact HNS.out | exact HNW.out | (intro hm; have hlt := HSB.out _ hm; (try dsimp only at hlt); omega))) (row_hash.of (by rw [List.length_map]; exact HX.out.h)) (fun _ _ _ h => h) hHeld ?_
  simp only [Act.put, List.setIfInBounds_toArray, List.set_cons_zero, List.set_cons_succ]
  refine run_at (i := 10) (v := ?_) rfl (by kernel_rfl) (by rfl) (fun _ _ _ h => h) hHeld (fun w1 hw1 => ?_) ?_
  rotate_left 1
  · skip
    go_simp
    (try (first | with_reducible rfl | (apply And.intro <;> rfl)))
  simp only [Act.put, List.setIfInBounds_toArray, List.set_cons_zero, List.set_cons_succ]
  refine run_at (i := 11) (v := ?_) rfl (by kernel_rfl) (by rfl) (fun _ _ _ h => h) hHeld (fun w1 hw1 => ?_) ?_
  rotate_left 1
  · skip
    have hcw0 := hw1.cell (HAT.out.t) (by first | (simp; done) | exact HNS.out | exact HNW.out | (intro hm; have hlt := HSB.out _ hm; (try dsimp only at hlt); omega))
    go_simp
    (try (first | with_reducible rfl | (apply And.intro <;> rfl)))
  simp only [Act.put, List.setIfInBounds_toArray, List.set_cons_zero, List.set_cons_succ]
  refine call_at (i := 0) (f := ?_) (args := ?_) rfl (by kernel_rfl) (by rfl) ?_ ?_
  rotate_left 2
  · go_simp
    (try (first | with_reducible rfl | (apply And.intro <;> rfl)))
  refine (wbegin_any wAck (by decide) _).mono ?_
  rintro e w1 ⟨g, rfl, hw1⟩
  have HW := Lib.hid (hw1.from_ (Fr.drew (Fr.refl [] wa)))
  refine ⟨_, rfl, HW.out.fr, fun hHeld => ?_⟩
  clear hw1
  simp only [Act.put, List.setIfInBounds_toArray, List.set_cons_zero, List.set_cons_succ]
  refine call_at (i := 3) (f := ?_) (args := ?_) rfl (by kernel_rfl) (by rfl) ?_ ?_
  rotate_left 2
  · go_simp
    (try (first | with_reducible rfl | (apply And.intro <;> rfl)))
  refine (HW.out.call fun S1 k1 => int_any x.r HX.out.r.1 HX.out.r.2 _ S1 g _ k1 (by have h0 := HL0.out; have e : ∀ a b : List UInt8, (a ++ b).length = a.length + b.length := fun _ _ => List.length_append; rw [List.length_append] at h0; simp only [nmL, e] at *; omega)).mono ?_
  rintro e w2 ⟨rfl, hw2⟩
  have HW := Lib.hid hw2
  refine ⟨_, rfl, hw2.fr, fun hHeld => ?_⟩
  clear hw2
  simp only [Act.put, List.setIfInBounds_toArray, List.set_cons_zero, List.set_cons_succ]
  refine call_at (i := 6) (f := ?_) (args := ?_) rfl (by kernel_rfl) (by rfl) ?_ ?_
  rotate_left 2
  · go_simp
    (try (first | with_reducible rfl | (apply And.intro <;> rfl)))
  refine (HW.out.call fun S1 k1 => putName_any x.c x.s HX.out.c HX.out.s _ S1 g _ k1 (by have h0 := HL0.out; have b_r := encI_len x.r HX.out.r.2; have e : ∀ a b : List UInt8, (a ++ b).length = a.length + b.length := fun _ _ => List.length_append; rw [List.length_append] at h0; simp only [nmL, e] at *; omega)).mono ?_
  rintro e w3 ⟨rfl, hw2⟩
  have HW := Lib.hid hw2
  refine ⟨_, rfl, hw2.fr, fun hHeld => ?_⟩
  clear hw2
  simp only [Act.put, List.setIfInBounds_toArray, List.set_cons_zero, List.set_cons_succ]
  refine call_at (i := 9) (f := ?_) (args := ?_) rfl (by kernel_rfl) (by rfl) ?_ ?_
  rotate_left 2
  · go_simp
    (try (first | with_reducible rfl | (apply And.intro <;> rfl)))
  refine (HW.out.call fun S1 k1 => hash_any x.h HX.out.h _ S1 g _ k1 (by have h0 := HL0.out; have b_r := encI_len x.r HX.out.r.2; have b_c := encI_len x.c HX.out.c.2; have b_s := encI_len x.s HX.out.s.2; have e : ∀ a b : List UInt8, (a ++ b).length = a.length + b.length := fun _ _ => List.length_append; rw [List.length_append] at h0; simp only [nmL, e] at *; omega)).mono ?_
  rintro e w4 ⟨rfl, hw2⟩
  have HW := Lib.hid hw2
  refine ⟨_, rfl, hw2.fr, fun hHeld => ?_⟩
  clear hw2
  simp only [Act.put, List.setIfInBounds_toArray, List.set_cons_zero, List.set_cons_succ]
  refine call_at (i := 12) (f := ?_) (args := ?_) rfl (by kernel_rfl) (by rfl) ?_ ?_
  rotate_left 2
  · go_simp
    (try (first | with_reducible rfl | (apply And.intro <;> rfl)))
  refine (HW.out.call fun S1 k1 => num_any x.t HX.out.t _ S1 g _ k1 (by have h0 := HL0.out; have b_r := encI_len x.r HX.out.r.2; have b_c := encI_len x.c HX.out.c.2; have b_s := encI_len x.s HX.out.s.2; have b_h := HX.out.h; have e : ∀ a b : List UInt8, (a ++ b).length = a.length + b.length := fun _ _ => List.length_append; rw [List.length_append] at h0; simp only [nmL, e] at *; omega)).mono ?_
  rintro e w5 ⟨rfl, hw2⟩
  have HW := Lib.hid hw2
  refine ⟨_, rfl, hw2.fr, fun hHeld => ?_⟩
  clear hw2
  simp only [Act.put, List.setIfInBounds_toArray, List.set_cons_zero, List.set_cons_succ]
  rw [← HACK.out] at HW
  refine call_at (i := 13) (f := ?_) (args := ?_) rfl (by kernel_rfl) (by rfl) ?_ ?_
  rotate_left 2
  · go_simp
    (try (first | with_reducible rfl | (apply And.intro <;> rfl)))
  refine (bytes_head wa w5 g _ HW.out (by have := HTL.out; omega)).mono ?_
  rintro e w6 ⟨A3, c3, rfl, hn3⟩
  have HN3 := Lib.hid hn3
  refine ⟨_, rfl, hn3.2.1, fun hHeld => ?_⟩
  clear hn3
  simp only [Act.put, List.setIfInBounds_toArray, List.set_cons_zero, List.set_cons_succ]
  refine run_at (i := 14) (v := ?_) rfl (by kernel_rfl) (by rfl) (fun _ _ _ h => h) hHeld (fun w1 hw1 => ?_) ?_
  rotate_left 1
  · skip
    go_simp
    (try (first | with_reducible rfl | (apply And.intro <;> rfl)))
  simp only [Act.put, List.setIfInBounds_toArray, List.set_cons_zero, List.set_cons_succ]
  refine wpAnyH_done (by kernel_rfl) ?_ _
  go_wp2
  go_ret
  exact ⟨A3, c3, rfl, HN3.out.1, HF0.out.and HN3.out.2.1 (by simp), fun k hk => Nat.le_trans HF0.out.size (HN3.out.2.2 k hk)⟩
end Go.Proofs.Ytjlmackfmmaknaa
