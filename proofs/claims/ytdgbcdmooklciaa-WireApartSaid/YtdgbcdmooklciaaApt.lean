/- The walk of WireApart: its small stamps and votes; the text of an ack. -/
import Derived.Test.YtdgbcdmooklciaaAck
import Derived.Test.YtdgbcdmooklciaaEqS
import Derived.Test.YtdgbcdmooklciaaWCf
import Derived.Test.YtdgbcdmooklciaaReg2
import Derived.IntWalk
import Derived.Deep.CutBlock
namespace Go.Proofs.Ytdgbcdmooklciaa
open Go.RowKit
set_option maxRecDepth 100000

def hh1 (u : UInt8) : List UInt8 := u :: List.replicate 31 0
def Wst.small (x : Wst) : Wst := ⟨x.r % 4, x.c % 3, x.s % 3, hh1 (x.h.getD 0 0 % 2), x.t % 3, 0, 0⟩
def Wvt.small (x : Wvt) : Wvt := ⟨1 + x.k % 2, x.e % 3, x.r % 3, x.p % 4, hh1 (x.h.getD 0 0 % 2), 0, 0⟩
theorem built_nm (c s : Int) : Try.prog.built 39 [(0, .int .i64 c), (1, .int .i64 s)] = some #[.int .i64 c, .int .i64 s] := by kernel_rfl
theorem built_h1 (u : UInt8) : Try.prog.built 41 [(0, by8 u)] = some ((hh1 u).map by8).toArray := by kernel_rfl
theorem built_st (r c s : Int) (u : UInt8) (t : Nat) : Try.prog.built 87 [(0, .int .i64 r), (1, .agg #[.int .i64 c, .int .i64 s]), (2, .agg ((hh1 u).map by8).toArray), (3, .int .u64 (t : Int))] = some (Wst.cells ⟨r, c, s, hh1 u, t, 0, 0⟩).toArray := by kernel_rfl
theorem built_vt (k e r p : Int) (u : UInt8) : Try.prog.built 89 [(0, .int .i64 k), (1, .int .i64 e), (2, .int .i64 r), (3, .int .i64 p), (4, .agg ((hh1 u).map by8).toArray)] = some (Wvt.cells ⟨k, e, r, p, hh1 u, 0, 0⟩).toArray := by kernel_rfl
theorem built_dn (r i : Int) : Try.prog.built 91 [(0, .int .i64 r), (1, .int .i64 i)] = some (Wdn.cells ⟨r, i, 0, 0⟩).toArray := by kernel_rfl
def zeroSt : Array Value := (Wst.cells ⟨0, 0, 0, List.replicate 32 0, 0, 0, 0⟩).toArray
def zeroVt : Array Value := (Wvt.cells ⟨0, 0, 0, 0, List.replicate 32 0, 0, 0⟩).toArray

set_option maxHeartbeats 1000000 in
theorem smallStamp_any (x : Wst) (hx : x.Ok) (w : World) :
    Calls Try.prog 45 #[x.val] w fun e w' => e = .returned x.small.val ∧ Fr [] w w' := by
  obtain ⟨wa, hwa⟩ : ∃ wa, wa = (w.alloc (Obj.cells x.cells.toArray 87)).alloc (Obj.cells zeroSt 87) := ⟨_, rfl⟩
  have hf0 : Fr [] w wa := by rw [hwa]; exact ((Fr.refl [] w).alloc _).alloc _
  have hb0 : Blk wa w.heap.size 87 x.cells.toArray := by rw [hwa]; exact blk_alloc (Blk.new _ _ _)
  have hb1 : Blk wa (w.heap.size + 1) 87 zeroSt := by
    have := Blk.new (w.alloc (Obj.cells x.cells.toArray 87)) 87 zeroSt
    rw [hwa]
    simpa using this
  have hat := Wst.at_of (o := 0) hb0.range hx.h
  have hu : wa.cell? ⟨w.heap.size, 3, none⟩ = some (by8 (x.h.getD 0 0)) := by
    have h0 : (x.h.map by8)[0]? = some (by8 (x.h.getD 0 0)) := by
      cases hc : x.h with
      | nil => have := hx.h; simp [hc] at this
      | cons y ys => simp
    have := hat.hash 0 _ h0
    simpa using this
  unfold by8 at hu
  have HU := Lib.hid hu
  have HAT := Lib.hid hat
  have HF0 := Lib.hid hf0
  have HB1 := Lib.hid hb1
  have HWA := Lib.hid hwa
  have HX := Lib.hid hx
  have hsm : x.small = ⟨x.r % 4, x.c % 3, x.s % 3, hh1 (x.h.getD 0 0 % 2), x.t % 3, 0, 0⟩ := rfl
  have hmod : ((x.h.getD 0 0).toNat : Int).tmod 2 = ((x.h.getD 0 0 % 2).toNat : Int) := by rw [Int.tmod_eq_emod_of_nonneg (by omega)]; simp [UInt8.toNat_mod]
  have htm : (x.t : Int).tmod 3 = ((x.t % 3 : Nat) : Int) := by rw [Int.tmod_eq_emod_of_nonneg (by omega)]; simp
  have HMOD := Lib.hid hmod
  have HTM := Lib.hid htm
  clear hmod htm
  clear hwa hf0 hb0 hb1 hat hu hx
  generalize x.h.getD 0 0 = u at *
  have HCS : Hid ((Wst.cells ⟨x.r % 4, x.c % 3, x.s % 3, hh1 (u % 2), x.t % 3, 0, 0⟩).length = 38) := Lib.hid (Wst.len rfl)
  have HONE := Lib.hid (all_oneCell_toArray (Wst.one ⟨x.r % 4, x.c % 3, x.s % 3, hh1 (u % 2), x.t % 3, 0, 0⟩))
  have HBS := Lib.hid (built_st (x.r % 4) (x.c % 3) (x.s % 3) (u % 2) (x.t % 3))
  rw [hsm]
  clear hsm
  unfold Wst.val
  generalize (Wst.cells ⟨x.r % 4, x.c % 3, x.s % 3, hh1 (u % 2), x.t % 3, 0, 0⟩) = CS at *
  generalize x.cells = C at *
  go_enter Try.func45, Try.ntmps45
  go_upto_region 1 with (fail)
  change Code.wp _ _ _ _ ((w.alloc (Obj.cells C.toArray 87)).alloc (Obj.cells zeroSt 87))
  rw [← HWA.out]
  refine wp_region_held_drew (S := Fr [w.heap.size + 1] wa) (by kernel_rfl) (Fr.drew (Fr.refl _ wa)) (fun hHeld => ?_)
  refine run_at (i := 0) (v := ?_) rfl (by kernel_rfl) (by rfl) (fun _ _ _ h => h) hHeld (fun w1 hw1 => ?_) ?_
  rotate_left 1
  · skip
    go_simp
    (try (first | with_reducible rfl | (apply And.intro <;> rfl)))
  simp only [Act.put, List.setIfInBounds_toArray, List.set_cons_zero, List.set_cons_succ]
  refine run_at (i := 1) (v := ?_) rfl (by kernel_rfl) (by rfl) (fun _ _ _ h => h) hHeld (fun w1 hw1 => ?_) ?_
  rotate_left 1
  · skip
    have hcw0 := hw1.cell (HAT.out.r) (by first | (simp; done) | exact HNS.out | exact HNW.out | (intro hm; have hlt := HSB.out _ hm; (try dsimp only at hlt); omega))
    go_simp
    (try (first | with_reducible rfl | (apply And.intro <;> rfl)))
  simp only [Act.put, List.setIfInBounds_toArray, List.set_cons_zero, List.set_cons_succ]
  refine run_at (i := 3) (v := ?_) rfl (by kernel_rfl) (by rfl) (fun _ _ _ h => h) hHeld (fun w1 hw1 => ?_) ?_
  rotate_left 1
  · skip
    go_simp
    (try (first | with_reducible rfl | (apply And.intro <;> rfl)))
  simp only [Act.put, List.setIfInBounds_toArray, List.set_cons_zero, List.set_cons_succ]
  refine run_at (i := 4) (v := ?_) rfl (by kernel_rfl) (by rfl) (fun _ _ _ h => h) hHeld (fun w1 hw1 => ?_) ?_
  rotate_left 1
  · skip
    go_simp
    (try (first | with_reducible rfl | (apply And.intro <;> rfl)))
  simp only [Act.put, List.setIfInBounds_toArray, List.set_cons_zero, List.set_cons_succ]
  refine run_at (i := 5) (v := ?_) rfl (by kernel_rfl) (by rfl) (fun _ _ _ h => h) hHeld (fun w1 hw1 => ?_) ?_
  rotate_left 1
  · skip
    have hcw0 := hw1.cell (HAT.out.c) (by first | (simp; done) | exact HNS.out | exact HNW.out | (intro hm; have hlt := HSB.out _ hm; (try dsimp only at hlt); omega))
    go_simp
    (try (first | with_reducible rfl | (apply And.intro <;> rfl)))
  simp only [Act.put, List.setIfInBounds_toArray, List.set_cons_zero, List.set_cons_succ]
  refine run_at (i := 7) (v := ?_) rfl (by kernel_rfl) (by rfl) (fun _ _ _ h => h) hHeld (fun w1 hw1 => ?_) ?_
  rotate_left 1
  · skip
    go_simp
    (try (first | with_reducible rfl | (apply And.intro <;> rfl)))
  simp only [Act.put, List.setIfInBounds_toArray, List.set_cons_zero, List.set_cons_succ]
  refine run_at (i := 8) (v := ?_) rfl (by kernel_rfl) (by rfl) (fun _ _ _ h => h) hHeld (fun w1 hw1 => ?_) ?_
  rotate_left 1
  · skip
    go_simp
    (try (first | with_reducible rfl | (apply And.intro <;> rfl)))
  simp only [Act.put, List.setIfInBounds_toArray, List.set_cons_zero, List.set_cons_succ]
  refine run_at (i := 9) (v := ?_) rfl (by kernel_rfl) (by rfl) (fun _ _ _ h => h) hHeld (fun w1 hw1 => ?_) ?_
  rotate_left 1
  · skip
    have hcw0 := hw1.cell (HAT.out.s) (by first | (simp; done) | exact HNS.out | exact HNW.out | (intro hm; have hlt := HSB.out _ hm; (try dsimp only at hlt); omega))
    go_simp
    (try (first | with_reducible rfl | (apply And.intro <;> rfl)))
  simp only [Act.put, List.setIfInBounds_toArray, List.set_cons_zero, List.set_cons_succ]
  refine run_at (i := 12) (v := ?_) rfl (by kernel_rfl) (by rfl) (fun _ _ _ h => h) hHeld (fun w1 hw1 => ?_) ?_
  rotate_left 1
  · skip
    go_simp
    (try (first | with_reducible rfl | (apply And.intro <;> rfl)))
  simp only [Act.put, List.setIfInBounds_toArray, List.set_cons_zero, List.set_cons_succ]
  refine run_at (i := 13) (v := ?_) rfl (by kernel_rfl) (by rfl) (fun _ _ _ h => h) hHeld (fun w1 hw1 => ?_) ?_
  rotate_left 1
  · skip
    go_simp
    (try (first | with_reducible rfl | (apply And.intro <;> rfl)))
  simp only [Act.put, List.setIfInBounds_toArray, List.set_cons_zero, List.set_cons_succ]
  refine run_at (i := 14) (v := ?_) rfl (by kernel_rfl) (by rfl) (fun _ _ _ h => h) hHeld (fun w1 hw1 => ?_) ?_
  rotate_left 1
  · skip
    have hcw0 := hw1.cell (HU.out) (by first | (simp; done) | exact HNS.out | exact HNW.out | (intro hm; have hlt := HSB.out _ hm; (try dsimp only at hlt); omega))
    go_simp
    (try (first | with_reducible rfl | (apply And.intro <;> rfl)))
  simp only [Act.put, List.setIfInBounds_toArray, List.set_cons_zero, List.set_cons_succ]
  refine run_at (i := 15) (v := ?_) rfl (by kernel_rfl) (by rfl) (fun _ _ _ h => h) hHeld (fun w1 hw1 => ?_) ?_
  rotate_left 1
  · skip
    go_simp
    (try (first | with_reducible rfl | (apply And.intro <;> rfl)))
  simp only [Act.put, List.setIfInBounds_toArray, List.set_cons_zero, List.set_cons_succ]
  rw [HMOD.out]
  refine build_at (i := 16) rfl (by kernel_rfl) (by rfl) _ _ rfl _ _ (built_h1 (u % 2)) rfl (fun _ _ _ h => h) hHeld ?_
  simp only [Act.put, List.setIfInBounds_toArray, List.set_cons_zero, List.set_cons_succ]
  refine run_at (i := 17) (v := ?_) rfl (by kernel_rfl) (by rfl) (fun _ _ _ h => h) hHeld (fun w1 hw1 => ?_) ?_
  rotate_left 1
  · skip
    go_simp
    (try (first | with_reducible rfl | (apply And.intro <;> rfl)))
  simp only [Act.put, List.setIfInBounds_toArray, List.set_cons_zero, List.set_cons_succ]
  refine run_at (i := 18) (v := ?_) rfl (by kernel_rfl) (by rfl) (fun _ _ _ h => h) hHeld (fun w1 hw1 => ?_) ?_
  rotate_left 1
  · skip
    have hcw0 := hw1.cell (HAT.out.t) (by first | (simp; done) | exact HNS.out | exact HNW.out | (intro hm; have hlt := HSB.out _ hm; (try dsimp only at hlt); omega))
    go_simp
    (try (first | with_reducible rfl | (apply And.intro <;> rfl)))
  simp only [Act.put, List.setIfInBounds_toArray, List.set_cons_zero, List.set_cons_succ]
  refine run_at (i := 19) (v := ?_) rfl (by kernel_rfl) (by rfl) (fun _ _ _ h => h) hHeld (fun w1 hw1 => ?_) ?_
  rotate_left 1
  · skip
    go_simp
    (try (first | with_reducible rfl | (apply And.intro <;> rfl)))
  simp only [Act.put, List.setIfInBounds_toArray, List.set_cons_zero, List.set_cons_succ]
  rw [HTM.out]
  refine call_at (i := 2) (f := ?_) (args := ?_) rfl (by kernel_rfl) (by rfl) ?_ ?_
  rotate_left 2
  · go_simp
    (try (first | with_reducible rfl | (apply And.intro <;> rfl)))
  refine (within_pos x.r 4 HX.out.r.1 HX.out.r.2 (by omega) (by omega) _).mono ?_
  rintro e w1 ⟨rfl, rfl⟩
  refine ⟨_, rfl, hHeld, fun hHeld => ?_⟩
  simp only [Act.put, List.setIfInBounds_toArray, List.set_cons_zero, List.set_cons_succ]
  refine call_at (i := 6) (f := ?_) (args := ?_) rfl (by kernel_rfl) (by rfl) ?_ ?_
  rotate_left 2
  · go_simp
    (try (first | with_reducible rfl | (apply And.intro <;> rfl)))
  refine (within_pos x.c 3 HX.out.c.1 HX.out.c.2 (by omega) (by omega) _).mono ?_
  rintro e w1 ⟨rfl, rfl⟩
  refine ⟨_, rfl, hHeld, fun hHeld => ?_⟩
  simp only [Act.put, List.setIfInBounds_toArray, List.set_cons_zero, List.set_cons_succ]
  refine call_at (i := 10) (f := ?_) (args := ?_) rfl (by kernel_rfl) (by rfl) ?_ ?_
  rotate_left 2
  · go_simp
    (try (first | with_reducible rfl | (apply And.intro <;> rfl)))
  refine (within_pos x.s 3 HX.out.s.1 HX.out.s.2 (by omega) (by omega) _).mono ?_
  rintro e w1 ⟨rfl, rfl⟩
  refine ⟨_, rfl, hHeld, fun hHeld => ?_⟩
  simp only [Act.put, List.setIfInBounds_toArray, List.set_cons_zero, List.set_cons_succ]
  refine build_at (i := 11) rfl (by kernel_rfl) (by rfl) _ _ rfl _ _ (built_nm (x.c % 3) (x.s % 3)) rfl (fun _ _ _ h => h) hHeld ?_
  simp only [Act.put, List.setIfInBounds_toArray, List.set_cons_zero, List.set_cons_succ]
  refine build_at (i := 20) rfl (by kernel_rfl) (by rfl) _ _ rfl _ _ (HBS.out) rfl (fun _ _ _ h => h) hHeld ?_
  simp only [Act.put, List.setIfInBounds_toArray, List.set_cons_zero, List.set_cons_succ]
  refine step_at (i := 21) rfl (by kernel_rfl) (by rfl) (fun K hK => ?_)
  refine wp_store_blk 87 _ _ rfl (w.heap.size + 1) CS.toArray rfl rfl 87 zeroSt (HB1.out.drew) (by rw [List.size_toArray, HCS.out]; kernel_rfl) ((show zeroSt.size = 38 from rfl).trans (by rw [List.size_toArray, HCS.out])) HONE.out ?_
  intro w6 hb6 hf6
  have hf7 : Fr [w.heap.size + 1] wa w6 := hHeld.trans hf6 (fun x hx _ => hx)
  refine hK.out _ _ hf7 (fun hHeld => ?_)
  clear hK K hf7
  simp only [Act.put, List.setIfInBounds_toArray, List.set_cons_zero, List.set_cons_succ]
  have HB6 := Lib.hid hb6
  have HF6 := Lib.hid (HF0.out.go hHeld (by simp))
  clear hb6 hf6
  refine wpAnyH_done (by kernel_rfl) ?_ _
  go_wp2
  exact bodyPost_ret (v := .agg CS.toArray) (results_cell_row Try.results45 _ _ (w.heap.size + 1) 87 CS.toArray _ _ rfl HB6.out Try.underlying87 rfl (by rw [List.size_toArray, HCS.out]; kernel_rfl)) rfl ⟨rfl, HF6.out⟩
-- votes
set_option maxHeartbeats 1000000 in
theorem smallVote_any (x : Wvt) (hx : x.Ok) (w : World) :
    Calls Try.prog 46 #[x.val] w fun e w' => e = .returned x.small.val ∧ Fr [] w w' := by
  obtain ⟨wa, hwa⟩ : ∃ wa, wa = (w.alloc (Obj.cells x.cells.toArray 89)).alloc (Obj.cells zeroVt 89) := ⟨_, rfl⟩
  have hf0 : Fr [] w wa := by rw [hwa]; exact ((Fr.refl [] w).alloc _).alloc _
  have hb0 : Blk wa w.heap.size 89 x.cells.toArray := by rw [hwa]; exact blk_alloc (Blk.new _ _ _)
  have hb1 : Blk wa (w.heap.size + 1) 89 zeroVt := by
    have := Blk.new (w.alloc (Obj.cells x.cells.toArray 89)) 89 zeroVt
    rw [hwa]
    simpa using this
  have hat := Wvt.at_of (o := 0) hb0.range hx.h
  have hu : wa.cell? ⟨w.heap.size, 4, none⟩ = some (by8 (x.h.getD 0 0)) := by
    have h0 : (x.h.map by8)[0]? = some (by8 (x.h.getD 0 0)) := by
      cases hc : x.h with
      | nil => have := hx.h; simp [hc] at this
      | cons y ys => simp
    have := hat.hash 0 _ h0
    simpa using this
  unfold by8 at hu
  have HU := Lib.hid hu
  have HAT := Lib.hid hat
  have HF0 := Lib.hid hf0
  have HB1 := Lib.hid hb1
  have HWA := Lib.hid hwa
  have HX := Lib.hid hx
  have hsm : x.small = ⟨1 + x.k % 2, x.e % 3, x.r % 3, x.p % 4, hh1 (x.h.getD 0 0 % 2), 0, 0⟩ := rfl
  have hmod : ((x.h.getD 0 0).toNat : Int).tmod 2 = ((x.h.getD 0 0 % 2).toNat : Int) := by rw [Int.tmod_eq_emod_of_nonneg (by omega)]; simp [UInt8.toNat_mod]
  have HMOD := Lib.hid hmod
  clear hmod
  clear hwa hf0 hb0 hb1 hat hu hx
  generalize x.h.getD 0 0 = u at *
  have HCS : Hid ((Wvt.cells ⟨1 + x.k % 2, x.e % 3, x.r % 3, x.p % 4, hh1 (u % 2), 0, 0⟩).length = 38) := Lib.hid (Wvt.len rfl)
  have HONE := Lib.hid (all_oneCell_toArray (Wvt.one ⟨1 + x.k % 2, x.e % 3, x.r % 3, x.p % 4, hh1 (u % 2), 0, 0⟩))
  have HBS := Lib.hid (built_vt (1 + x.k % 2) (x.e % 3) (x.r % 3) (x.p % 4) (u % 2))
  rw [hsm]
  clear hsm
  unfold Wvt.val
  generalize (Wvt.cells ⟨1 + x.k % 2, x.e % 3, x.r % 3, x.p % 4, hh1 (u % 2), 0, 0⟩) = CS at *
  generalize x.cells = C at *
  go_enter Try.func46, Try.ntmps46
  go_upto_region 1 with (fail)
  change Code.wp _ _ _ _ ((w.alloc (Obj.cells C.toArray 89)).alloc (Obj.cells zeroVt 89))
  rw [← HWA.out]
  refine wp_region_held_drew (S := Fr [w.heap.size + 1] wa) (by kernel_rfl) (Fr.drew (Fr.refl _ wa)) (fun hHeld => ?_)
  have hk0 : 0 ≤ x.k % 2 := Int.emod_nonneg _ (by omega)
  have hk1 : x.k % 2 < 2 := Int.emod_lt_of_pos _ (by omega)
  refine run_at (i := 0) (v := ?_) rfl (by kernel_rfl) (by rfl) (fun _ _ _ h => h) hHeld (fun w1 hw1 => ?_) ?_
  rotate_left 1
  · skip
    go_simp
    (try (first | with_reducible rfl | (apply And.intro <;> rfl)))
  simp only [Act.put, List.setIfInBounds_toArray, List.set_cons_zero, List.set_cons_succ]
  refine run_at (i := 1) (v := ?_) rfl (by kernel_rfl) (by rfl) (fun _ _ _ h => h) hHeld (fun w1 hw1 => ?_) ?_
  rotate_left 1
  · skip
    have hcw0 := hw1.cell (HAT.out.k) (by first | (simp; done) | exact HNS.out | exact HNW.out | (intro hm; have hlt := HSB.out _ hm; (try dsimp only at hlt); omega))
    go_simp
    (try (first | with_reducible rfl | (apply And.intro <;> rfl)))
  simp only [Act.put, List.setIfInBounds_toArray, List.set_cons_zero, List.set_cons_succ]
  refine run_at (i := 4) (v := ?_) rfl (by kernel_rfl) (by rfl) (fun _ _ _ h => h) hHeld (fun w1 hw1 => ?_) ?_
  rotate_left 1
  · skip
    go_simp
    (try (first | with_reducible rfl | (apply And.intro <;> rfl)))
  simp only [Act.put, List.setIfInBounds_toArray, List.set_cons_zero, List.set_cons_succ]
  refine run_at (i := 5) (v := ?_) rfl (by kernel_rfl) (by rfl) (fun _ _ _ h => h) hHeld (fun w1 hw1 => ?_) ?_
  rotate_left 1
  · skip
    have hcw0 := hw1.cell (HAT.out.e) (by first | (simp; done) | exact HNS.out | exact HNW.out | (intro hm; have hlt := HSB.out _ hm; (try dsimp only at hlt); omega))
    go_simp
    (try (first | with_reducible rfl | (apply And.intro <;> rfl)))
  simp only [Act.put, List.setIfInBounds_toArray, List.set_cons_zero, List.set_cons_succ]
  refine run_at (i := 7) (v := ?_) rfl (by kernel_rfl) (by rfl) (fun _ _ _ h => h) hHeld (fun w1 hw1 => ?_) ?_
  rotate_left 1
  · skip
    go_simp
    (try (first | with_reducible rfl | (apply And.intro <;> rfl)))
  simp only [Act.put, List.setIfInBounds_toArray, List.set_cons_zero, List.set_cons_succ]
  refine run_at (i := 8) (v := ?_) rfl (by kernel_rfl) (by rfl) (fun _ _ _ h => h) hHeld (fun w1 hw1 => ?_) ?_
  rotate_left 1
  · skip
    have hcw0 := hw1.cell (HAT.out.r) (by first | (simp; done) | exact HNS.out | exact HNW.out | (intro hm; have hlt := HSB.out _ hm; (try dsimp only at hlt); omega))
    go_simp
    (try (first | with_reducible rfl | (apply And.intro <;> rfl)))
  simp only [Act.put, List.setIfInBounds_toArray, List.set_cons_zero, List.set_cons_succ]
  refine run_at (i := 10) (v := ?_) rfl (by kernel_rfl) (by rfl) (fun _ _ _ h => h) hHeld (fun w1 hw1 => ?_) ?_
  rotate_left 1
  · skip
    go_simp
    (try (first | with_reducible rfl | (apply And.intro <;> rfl)))
  simp only [Act.put, List.setIfInBounds_toArray, List.set_cons_zero, List.set_cons_succ]
  refine run_at (i := 11) (v := ?_) rfl (by kernel_rfl) (by rfl) (fun _ _ _ h => h) hHeld (fun w1 hw1 => ?_) ?_
  rotate_left 1
  · skip
    have hcw0 := hw1.cell (HAT.out.p) (by first | (simp; done) | exact HNS.out | exact HNW.out | (intro hm; have hlt := HSB.out _ hm; (try dsimp only at hlt); omega))
    go_simp
    (try (first | with_reducible rfl | (apply And.intro <;> rfl)))
  simp only [Act.put, List.setIfInBounds_toArray, List.set_cons_zero, List.set_cons_succ]
  refine run_at (i := 13) (v := ?_) rfl (by kernel_rfl) (by rfl) (fun _ _ _ h => h) hHeld (fun w1 hw1 => ?_) ?_
  rotate_left 1
  · skip
    go_simp
    (try (first | with_reducible rfl | (apply And.intro <;> rfl)))
  simp only [Act.put, List.setIfInBounds_toArray, List.set_cons_zero, List.set_cons_succ]
  refine run_at (i := 14) (v := ?_) rfl (by kernel_rfl) (by rfl) (fun _ _ _ h => h) hHeld (fun w1 hw1 => ?_) ?_
  rotate_left 1
  · skip
    go_simp
    (try (first | with_reducible rfl | (apply And.intro <;> rfl)))
  simp only [Act.put, List.setIfInBounds_toArray, List.set_cons_zero, List.set_cons_succ]
  refine run_at (i := 15) (v := ?_) rfl (by kernel_rfl) (by rfl) (fun _ _ _ h => h) hHeld (fun w1 hw1 => ?_) ?_
  rotate_left 1
  · skip
    have hcw0 := hw1.cell (HU.out) (by first | (simp; done) | exact HNS.out | exact HNW.out | (intro hm; have hlt := HSB.out _ hm; (try dsimp only at hlt); omega))
    go_simp
    (try (first | with_reducible rfl | (apply And.intro <;> rfl)))
  simp only [Act.put, List.setIfInBounds_toArray, List.set_cons_zero, List.set_cons_succ]
  refine run_at (i := 16) (v := ?_) rfl (by kernel_rfl) (by rfl) (fun _ _ _ h => h) hHeld (fun w1 hw1 => ?_) ?_
  rotate_left 1
  · skip
    go_simp
    (try (first | with_reducible rfl | (apply And.intro <;> rfl)))
  simp only [Act.put, List.setIfInBounds_toArray, List.set_cons_zero, List.set_cons_succ]
  rw [HMOD.out]
  refine build_at (i := 17) rfl (by kernel_rfl) (by rfl) _ _ rfl _ _ (built_h1 (u % 2)) rfl (fun _ _ _ h => h) hHeld ?_
  simp only [Act.put, List.setIfInBounds_toArray, List.set_cons_zero, List.set_cons_succ]
  refine call_at (i := 2) (f := ?_) (args := ?_) rfl (by kernel_rfl) (by rfl) ?_ ?_
  rotate_left 2
  · go_simp
    (try (first | with_reducible rfl | (apply And.intro <;> rfl)))
  refine (within_pos x.k 2 HX.out.k.1 HX.out.k.2 (by omega) (by omega) _).mono ?_
  rintro e w1 ⟨rfl, rfl⟩
  refine ⟨_, rfl, hHeld, fun hHeld => ?_⟩
  simp only [Act.put, List.setIfInBounds_toArray, List.set_cons_zero, List.set_cons_succ]
  refine run_at (i := 3) (v := ?_) rfl (by kernel_rfl) (by rfl) (fun _ _ _ h => h) hHeld (fun w1 hw1 => ?_) ?_
  rotate_left 1
  · skip
    go_simp
    (try (first | with_reducible rfl | (apply And.intro <;> rfl)))
  simp only [Act.put, List.setIfInBounds_toArray, List.set_cons_zero, List.set_cons_succ]
  rw [IntWalk.i64_in _ ⟨by omega, by omega⟩]
  refine call_at (i := 6) (f := ?_) (args := ?_) rfl (by kernel_rfl) (by rfl) ?_ ?_
  rotate_left 2
  · go_simp
    (try (first | with_reducible rfl | (apply And.intro <;> rfl)))
  refine (within_pos x.e 3 HX.out.e.1 HX.out.e.2 (by omega) (by omega) _).mono ?_
  rintro e w1 ⟨rfl, rfl⟩
  refine ⟨_, rfl, hHeld, fun hHeld => ?_⟩
  simp only [Act.put, List.setIfInBounds_toArray, List.set_cons_zero, List.set_cons_succ]
  refine call_at (i := 9) (f := ?_) (args := ?_) rfl (by kernel_rfl) (by rfl) ?_ ?_
  rotate_left 2
  · go_simp
    (try (first | with_reducible rfl | (apply And.intro <;> rfl)))
  refine (within_pos x.r 3 HX.out.r.1 HX.out.r.2 (by omega) (by omega) _).mono ?_
  rintro e w1 ⟨rfl, rfl⟩
  refine ⟨_, rfl, hHeld, fun hHeld => ?_⟩
  simp only [Act.put, List.setIfInBounds_toArray, List.set_cons_zero, List.set_cons_succ]
  refine call_at (i := 12) (f := ?_) (args := ?_) rfl (by kernel_rfl) (by rfl) ?_ ?_
  rotate_left 2
  · go_simp
    (try (first | with_reducible rfl | (apply And.intro <;> rfl)))
  refine (within_pos x.p 4 HX.out.p.1 HX.out.p.2 (by omega) (by omega) _).mono ?_
  rintro e w1 ⟨rfl, rfl⟩
  refine ⟨_, rfl, hHeld, fun hHeld => ?_⟩
  simp only [Act.put, List.setIfInBounds_toArray, List.set_cons_zero, List.set_cons_succ]
  refine build_at (i := 18) rfl (by kernel_rfl) (by rfl) _ _ rfl _ _ (HBS.out) rfl (fun _ _ _ h => h) hHeld ?_
  simp only [Act.put, List.setIfInBounds_toArray, List.set_cons_zero, List.set_cons_succ]
  refine step_at (i := 19) rfl (by kernel_rfl) (by rfl) (fun K hK => ?_)
  refine wp_store_blk 89 _ _ rfl (w.heap.size + 1) CS.toArray rfl rfl 89 zeroVt (HB1.out.drew) (by rw [List.size_toArray, HCS.out]; kernel_rfl) ((show zeroVt.size = 38 from rfl).trans (by rw [List.size_toArray, HCS.out])) HONE.out ?_
  intro w6 hb6 hf6
  have hf7 : Fr [w.heap.size + 1] wa w6 := hHeld.trans hf6 (fun x hx _ => hx)
  refine hK.out _ _ hf7 (fun hHeld => ?_)
  clear hK K hf7
  simp only [Act.put, List.setIfInBounds_toArray, List.set_cons_zero, List.set_cons_succ]
  have HB6 := Lib.hid hb6
  have HF6 := Lib.hid (HF0.out.go hHeld (by simp))
  clear hb6 hf6
  refine wpAnyH_done (by kernel_rfl) ?_ _
  go_wp2
  exact bodyPost_ret (v := .agg CS.toArray) (results_cell_row Try.results46 _ _ (w.heap.size + 1) 89 CS.toArray _ _ rfl HB6.out Try.underlying89 rfl (by rw [List.size_toArray, HCS.out]; kernel_rfl)) rfl ⟨rfl, HF6.out⟩
end Go.Proofs.Ytdgbcdmooklciaa
