/- gavelref01.Pack of any message, and gavellaw06.MsgPacks, walked. (written by gen_mpw.py) -/
import Derived.Test.YtpcnedpheplofaaGreatKP8
set_option linter.unusedSimpArgs false
set_option linter.unusedVariables false
namespace Go.Proofs.YtpcnedpheplofaaGreat
open Go.RowKit
set_option maxRecDepth 100000
theorem refpack_any (x : Wmg) (w : World) (hx : x.Ok w []) (hv : x.po.v < 9223372036854775807) (C : List Value) (hC : x.cells = C) :
  Calls Tryz.prog 8 #[.agg C.toArray] w (PackPost w x) := by
 by_cases hm : 1 ≤ x.q ∧ x.q ≤ 14
 · have h : x.q = 1 ∨ x.q = 2 ∨ x.q = 3 ∨ x.q = 4 ∨ x.q = 5 ∨ x.q = 6 ∨ x.q = 7 ∨ x.q = 8 ∨ x.q = 9 ∨ x.q = 10 ∨ x.q = 11 ∨ x.q = 12 ∨ x.q = 13 ∨ x.q = 14 := by omega
   rcases h with h | h | h | h | h | h | h | h | h | h | h | h | h | h
   · exact refpack_1 x h w hx C hC
   · exact refpack_2 x h w hx C hC
   · exact refpack_3 x h w hx C hC
   · exact refpack_4 x h w hx C hC
   · exact refpack_5 x h w hx C hC
   · exact refpack_6 x h w hx C hC
   · exact refpack_7 x h w hx C hC hv
   · exact refpack_8 x h w hx C hC
   · exact refpack_9 x h w hx C hC
   · exact refpack_10 x h w hx C hC
   · exact refpack_11 x h w hx C hC
   · exact refpack_12 x h w hx C hC
   · exact refpack_13 x h w hx C hC
   · exact refpack_14 x h w hx C hC
 · exact refpack_none x hm w hx C hC
set_option maxHeartbeats 8000000 in
theorem msgPacks_walk (w : World) (x : Wmg) (hx : x.In w) :
  Calls Tryz.prog 3 #[x.val] w fun e w' => e = .returned (.bool true) ∧ Fr [] w w' := by
 unfold Wmg.val
 obtain ⟨C, hC⟩ : ∃ C, x.cells = C := ⟨_, rfl⟩
 rw [hC]
 obtain ⟨wa, hwa⟩ : ∃ wa, wa = w.alloc (Obj.cells C.toArray 61) := ⟨_, rfl⟩
 have hf0 : Fr [] w wa := by rw [hwa]; exact (Fr.refl [] w).alloc _
 have hb0 : Blk wa w.heap.size 61 C.toArray := by rw [hwa]; exact Blk.new _ _ _
 have hlx : x.Len := ⟨hx.cm.h, hx.st.h, hx.ce.k.h, hx.ak.h, hx.vt.h, hx.en.h, hx.op.h⟩
 have HCL : Hid (C.length = 295) := Lib.hid (by rw [← hC]; exact Wmg.lenz hlx)
 have HX := Lib.hid hx
 have HC := Lib.hid hC
 have HB0 := Lib.hid hb0
 have HR0 : Hid (wa.rangeAt w.heap.size 0 C) := Lib.hid hb0.range
 have HF0 := Lib.hid hf0
 have HWA := Lib.hid hwa
 have HS2 : Hid (w.heap.size < wa.heap.size) := Lib.hid (by rw [hwa]; simp)
 clear hx hC hb0 hf0 hwa hlx
 go_enter Tryz.func3, Tryz.ntmps3
 go_upto_region 1 with (fail)
 change Code.wp _ _ _ _ (w.alloc (Obj.cells C.toArray 61))
 rw [← HWA.out]
 go_wp2_with (refine wpList_load_mid rfl 61 _ rfl w.heap.size 0 rfl C _ HR0.out Tryz.underlying61 rfl (row_msg.of HCL.out).2 ?_)
 refine (msmall_ex x wa (Wmg.In.keepM HX.out HF0.out) C HC.out).mono ?_
 rintro e_ w1 ⟨xs, rfl, hv, hxs, hf1⟩
 have HXS : Hid (xs.Ok w1 [w.heap.size]) := Lib.hid (hxs _ (by have h1 := HS2.out; simp; omega))
 have HVB := Lib.hid hv
 have HB1 := Lib.hid (HB0.out.keep hf1 (by simp))
 have HF1 := Lib.hid (HF0.out.and hf1 (by simp))
 obtain ⟨E, hE⟩ : ∃ E, E = xs.cells := ⟨_, rfl⟩
 have HEL : Hid (E.length = 295) := Lib.hid (by rw [hE]; exact Wmg.lenz HXS.out.len)
 have HEO : Hid (E.toArray.all (·.oneCell') = true) := Lib.hid (by rw [hE]; exact all_oneCell_toArray (Wmg.one _))
 have HES : Hid ((Tryz.prog.info? 61).map (·.size) = some E.toArray.size) := Lib.hid (by rw [List.size_toArray, HEL.out]; kernel_rfl)
 have HEM : Hid (C.toArray.size = E.toArray.size) := Lib.hid (by rw [List.size_toArray, List.size_toArray, HEL.out, HCL.out])
 have HE := Lib.hid hE
 rw [← hE]
 clear hv hxs hf1 hE
 go_wp2_with (first
  | (refine wpList_store_blk rfl 61 _ _ rfl w.heap.size E.toArray rfl rfl 61 C.toArray HB1.out HES.out HEM.out HEO.out ?_
     intro w2 hb2 hf2
     have HB2 := Lib.hid hb2
     have HF2 := Lib.hid hf2
     clear hb2 hf2)
  | (refine wpList_load_mid rfl 61 _ rfl w.heap.size 0 rfl E _ HB2.out.range Tryz.underlying61 rfl (row_msg.of HEL.out).2 ?_))
 have HR2 : Hid (w2.rangeAt w.heap.size 0 E) := Lib.hid HB2.out.range
 have HXO : Hid (xs.Ok w2 [w.heap.size]) := Lib.hid (HXS.out.keep (HF2.out.mono (by simp)) (fun k hk _ => hk))
 have HX2 : Hid (xs.Ok w2 []) := Lib.hid (HXO.out.keep (Fr.refl _ _) (by simp))
 have HFW : Hid (Fr [] w w2) := Lib.hid (HF1.out.go HF2.out (by simp))
 refine (mpack_any xs w2 HX2.out E HE.out.symm).mono ?_
 intro e_ w3 h
 by_cases hm : 1 ≤ xs.q ∧ xs.q ≤ 14
 focus
  unfold PackPost at h
  rw [if_pos hm] at h
  obtain ⟨A1, c1, rfl, hN⟩ := h
  obtain ⟨B, hB⟩ : ∃ B, B = xs.bytes := ⟨_, rfl⟩
  have HBL : Hid (B.length ≤ 1000000) := Lib.hid (by rw [hB]; have := Wmg.bytes_len HX2.out; omega)
  rw [← hB] at hN ⊢
  have HB := Lib.hid hB
  have HY1 := Lib.hid hN.by
  have HF3 := Lib.hid hN.2.1
  clear hN hB
  have HR3 : Hid (w3.rangeAt w.heap.size 0 E) := Lib.hid (HF3.out.range HR2.out (by simp))
  have HX3 : Hid (xs.Ok w3 []) := Lib.hid (HX2.out.keep HF3.out (by simp))
  go_wp2_with (refine wpList_load_mid rfl 61 _ rfl w.heap.size 0 rfl E _ HR3.out Tryz.underlying61 rfl (row_msg.of HEL.out).2 ?_)
  refine (refpack_any xs w3 HX3.out HVB.out E HE.out.symm).mono ?_
  intro e_ w4 h
  unfold PackPost at h
  rw [if_pos hm] at h
  obtain ⟨A2, c2, rfl, hN⟩ := h
  rw [← HB.out] at hN ⊢
  have HY2 := Lib.hid hN.by
  have HY1 := Lib.hid (Fr.byk hN.2.1 HY1.out)
  have HF4 := Lib.hid hN.2.1
  clear hN
  have HR4 : Hid (w4.rangeAt w.heap.size 0 E) := Lib.hid (HF4.out.range HR3.out (by simp))
  have HX4 : Hid (xs.Ok w4 []) := Lib.hid (HX3.out.keep HF4.out (by simp))
  have HW4 : Hid (Fr [] w w4) := Lib.hid ((HFW.out.and HF3.out (by simp)).and HF4.out (by simp))
  clear hm
  go_upto_region 4 with (fail)
  refine wp_region_held_drew (S := Fr [] w4) (by kernel_rfl) (Fr.drew (Fr.refl _ w4)) (fun hHeld => ?_)
  generalize w4.drew = d0 at *
  refine run_at (i := 0) (v := ?_) rfl (by kernel_rfl) (by rfl) (fun _ _ _ h => h) hHeld (fun w1 hw1 => ?_) ?_
  rotate_left 1
  · skip
    go_simp
    try first | with_reducible rfl | apply And.intro <;> rfl
  simp only [xPa, xPb, xPc, xPd, xPe]
  refine run_at (i := 1) (v := ?_) rfl (by kernel_rfl) (by rfl) (fun _ _ _ h => h) hHeld (fun w1 hw1 => ?_) ?_
  rotate_left 1
  · skip
    go_simp
    try first | with_reducible rfl | apply And.intro <;> rfl
  simp only [xPa, xPb, xPc, xPd, xPe]
  refine run_at (i := 2) (v := ?_) rfl (by kernel_rfl) (by rfl) (fun _ _ _ h => h) hHeld (fun w1 hw1 => ?_) ?_
  rotate_left 1
  · skip
    go_simp
    try first | with_reducible rfl | apply And.intro <;> rfl
  simp only [xPa, xPb, xPc, xPd, xPe]
  refine run_at (i := 3) (v := ?_) rfl (by kernel_rfl) (by rfl) (fun _ _ _ h => h) hHeld (fun w1 hw1 => ?_) ?_
  rotate_left 1
  · skip
    go_simp
    try first | with_reducible rfl | apply And.intro <;> rfl
  simp only [xPa, xPb, xPc, xPd, xPe]
  refine run_at (i := 4) (v := ?_) rfl (by kernel_rfl) (by rfl) (fun _ _ _ h => h) hHeld (fun w1 hw1 => ?_) ?_
  rotate_left 1
  · skip
    go_simp
    try first | with_reducible rfl | apply And.intro <;> rfl
  simp only [xPa, xPb, xPc, xPd, xPe]
  refine run_at (i := 5) (v := ?_) rfl (by kernel_rfl) (by rfl) (fun _ _ _ h => h) hHeld (fun w1 hw1 => ?_) ?_
  rotate_left 1
  · skip
    go_simp
    try first | with_reducible rfl | apply And.intro <;> rfl
  simp only [xPa, xPb, xPc, xPd, xPe]
  refine call_at (i := 6) (f := ?_) (args := ?_) rfl (by kernel_rfl) (by rfl) ?_ ?_
  rotate_left 2
  · go_simp
    try first | with_reducible rfl | apply And.intro <;> rfl
  refine (same_any A1 A2 _ _ c1 c2 B B d0 (HY1.out.keep hHeld (by simp)) (HY2.out.keep hHeld (by simp)) (by have := HBL.out; omega)).mono ?_
  rintro e_ d1 ⟨rfl, kk, hw⟩
  rw [decide_eq_true rfl]
  refine ⟨_, rfl, hHeld.and (by rw [hw]; exact (Fr.refl [] d0).drewN _) (by simp), fun hHeld => ?_⟩
  clear hw
  simp only [xPa, xPb, xPc, xPd, xPe]
  refine run_at (i := 7) (v := ?_) rfl (by kernel_rfl) (by rfl) (fun _ _ _ h => h) hHeld (fun w1 hw1 => ?_) ?_
  rotate_left 1
  · skip
    go_simp
    try first | with_reducible rfl | apply And.intro <;> rfl
  simp only [xPa, xPb, xPc, xPd, xPe]
  refine run_at (i := 8) (v := ?_) rfl (by kernel_rfl) (by rfl) (fun _ _ _ h => h) hHeld (fun w1 hw1 => ?_) ?_
  rotate_left 1
  · skip
    go_simp
    try first | with_reducible rfl | apply And.intro <;> rfl
  simp only [xPa, xPb, xPc, xPd, xPe]
  refine row_at (i := 9) rfl (by kernel_rfl) (by rfl) _ _ rfl _ _ rfl _ (fun w1 hw1 => hw1.range (HR4.out) (by simp)) (row_msg.of HEL.out) (fun _ _ _ h => h) hHeld ?_
  simp only [xPa, xPb, xPc, xPd, xPe]
  refine row_at (i := 11) rfl (by kernel_rfl) (by rfl) _ _ rfl _ _ rfl _ (fun w1 hw1 => hw1.range (HR4.out) (by simp)) (row_msg.of HEL.out) (fun _ _ _ h => h) hHeld ?_
  simp only [xPa, xPb, xPc, xPd, xPe]
  refine call_at (i := 10) (f := ?_) (args := ?_) rfl (by kernel_rfl) (by rfl) ?_ ?_
  rotate_left 2
  · go_simp
    try first | with_reducible rfl | apply And.intro <;> rfl
  refine (only_any xs d1 (HX4.out.keep hHeld (by simp)) E HE.out.symm).mono ?_
  rintro e_ d2 ⟨y2, rfl, hcc, hok, hff⟩
  have HCy2 := Lib.hid hcc
  have HKy2 := Lib.hid hok
  refine ⟨_, rfl, hHeld.and hff (by simp), fun hHeld => ?_⟩
  clear hcc hok hff
  simp only [xPa, xPb, xPc, xPd, xPe]
  refine call_at (i := 12) (f := ?_) (args := ?_) rfl (by kernel_rfl) (by rfl) ?_ ?_
  rotate_left 2
  · go_simp
    try first | with_reducible rfl | apply And.intro <;> rfl
  refine (refonly_any xs d2 (HX4.out.keep hHeld (by simp)) E HE.out.symm).mono ?_
  rintro e_ d3 ⟨y3, rfl, hcc, hok, hff⟩
  have HCy3 := Lib.hid hcc
  have HKy3 := Lib.hid hok
  have HKy2 := Lib.hid (HKy2.out.keep (S' := []) hff (by simp))
  refine ⟨_, rfl, hHeld.and hff (by simp), fun hHeld => ?_⟩
  clear hcc hok hff
  simp only [xPa, xPb, xPc, xPd, xPe]
  refine call_at (i := 13) (f := ?_) (args := ?_) rfl (by kernel_rfl) (by rfl) ?_ ?_
  rotate_left 2
  · go_simp
    try first | with_reducible rfl | apply And.intro <;> rfl
  refine (kmsg_con y2 y3 d3 HKy2.out HKy3.out (by rw [HCy2.out, HCy3.out]) _ _ rfl rfl).mono ?_
  rintro e_ d4 ⟨rfl, hff⟩
  refine ⟨_, rfl, hHeld.and hff (by simp), fun hHeld => ?_⟩
  clear hff
  simp only [xPa, xPb, xPc, xPd, xPe]
  refine run_at (i := 14) (v := ?_) rfl (by kernel_rfl) (by rfl) (fun _ _ _ h => h) hHeld (fun w1 hw1 => ?_) ?_
  rotate_left 1
  · skip
    go_simp
    try first | with_reducible rfl | apply And.intro <;> rfl
  simp only [xPa, xPb, xPc, xPd, xPe]
  refine run_at (i := 15) (v := ?_) rfl (by kernel_rfl) (by rfl) (fun _ _ _ h => h) hHeld (fun w1 hw1 => ?_) ?_
  rotate_left 1
  · skip
    go_simp
    try first | with_reducible rfl | apply And.intro <;> rfl
  simp only [xPa, xPb, xPc, xPd, xPe]
  refine call_at (i := 16) (f := ?_) (args := ?_) rfl (by kernel_rfl) (by rfl) ?_ ?_
  rotate_left 2
  · go_simp
    try first | with_reducible rfl | apply And.intro <;> rfl
  refine (mwakes_any d4).mono ?_
  rintro e_ d5 ⟨rfl, hff⟩
  refine ⟨_, rfl, hHeld.and hff (by simp), fun hHeld => ?_⟩
  clear hff
  simp only [xPa, xPb, xPc, xPd, xPe]
  refine run_at (i := 17) (v := ?_) rfl (by kernel_rfl) (by rfl) (fun _ _ _ h => h) hHeld (fun w1 hw1 => ?_) ?_
  rotate_left 1
  · skip
    go_simp
    try first | with_reducible rfl | apply And.intro <;> rfl
  simp only [xPa, xPb, xPc, xPd, xPe]
  refine run_at (i := 18) (v := ?_) rfl (by kernel_rfl) (by rfl) (fun _ _ _ h => h) hHeld (fun w1 hw1 => ?_) ?_
  rotate_left 1
  · skip
    go_simp
    try first | with_reducible rfl | apply And.intro <;> rfl
  simp only [xPa, xPb, xPc, xPd, xPe]
  refine wpAnyH_done (by kernel_rfl) ?_ _
  go_wp2_with fail
  go_ret
  exact ⟨rfl, HW4.out.and hHeld (by simp)⟩
 focus
  unfold PackPost at h
  rw [if_neg hm] at h
  obtain ⟨rfl, hf⟩ := h
  have HF3 := Lib.hid hf
  clear hf
  have HR3 : Hid (w3.rangeAt w.heap.size 0 E) := Lib.hid (HF3.out.range HR2.out (by simp))
  have HX3 : Hid (xs.Ok w3 []) := Lib.hid (HX2.out.keep HF3.out (by simp))
  go_wp2_with (refine wpList_load_mid rfl 61 _ rfl w.heap.size 0 rfl E _ HR3.out Tryz.underlying61 rfl (row_msg.of HEL.out).2 ?_)
  refine (refpack_any xs w3 HX3.out HVB.out E HE.out.symm).mono ?_
  intro e_ w4 h
  unfold PackPost at h
  rw [if_neg hm] at h
  obtain ⟨rfl, hf⟩ := h
  have HF4 := Lib.hid hf
  clear hf
  have HR4 : Hid (w4.rangeAt w.heap.size 0 E) := Lib.hid (HF4.out.range HR3.out (by simp))
  have HX4 : Hid (xs.Ok w4 []) := Lib.hid (HX3.out.keep HF4.out (by simp))
  have HW4 : Hid (Fr [] w w4) := Lib.hid ((HFW.out.and HF3.out (by simp)).and HF4.out (by simp))
  clear hm
  go_upto_region 4 with (fail)
  refine wp_region_held_drew (S := Fr [] w4) (by kernel_rfl) (Fr.drew (Fr.refl _ w4)) (fun hHeld => ?_)
  generalize w4.drew = d0 at *
  refine run_at (i := 0) (v := ?_) rfl (by kernel_rfl) (by rfl) (fun _ _ _ h => h) hHeld (fun w1 hw1 => ?_) ?_
  rotate_left 1
  · skip
    go_simp
    try first | with_reducible rfl | apply And.intro <;> rfl
  simp only [xPa, xPb, xPc, xPd, xPe]
  refine run_at (i := 1) (v := ?_) rfl (by kernel_rfl) (by rfl) (fun _ _ _ h => h) hHeld (fun w1 hw1 => ?_) ?_
  rotate_left 1
  · skip
    go_simp
    try first | with_reducible rfl | apply And.intro <;> rfl
  simp only [xPa, xPb, xPc, xPd, xPe]
  refine run_at (i := 2) (v := ?_) rfl (by kernel_rfl) (by rfl) (fun _ _ _ h => h) hHeld (fun w1 hw1 => ?_) ?_
  rotate_left 1
  · skip
    go_simp
    try first | with_reducible rfl | apply And.intro <;> rfl
  simp only [xPa, xPb, xPc, xPd, xPe]
  refine run_at (i := 3) (v := ?_) rfl (by kernel_rfl) (by rfl) (fun _ _ _ h => h) hHeld (fun w1 hw1 => ?_) ?_
  rotate_left 1
  · skip
    go_simp
    try first | with_reducible rfl | apply And.intro <;> rfl
  simp only [xPa, xPb, xPc, xPd, xPe]
  refine run_at (i := 4) (v := ?_) rfl (by kernel_rfl) (by rfl) (fun _ _ _ h => h) hHeld (fun w1 hw1 => ?_) ?_
  rotate_left 1
  · skip
    go_simp
    try first | with_reducible rfl | apply And.intro <;> rfl
  simp only [xPa, xPb, xPc, xPd, xPe]
  refine run_at (i := 5) (v := ?_) rfl (by kernel_rfl) (by rfl) (fun _ _ _ h => h) hHeld (fun w1 hw1 => ?_) ?_
  rotate_left 1
  · skip
    go_simp
    try first | with_reducible rfl | apply And.intro <;> rfl
  simp only [xPa, xPb, xPc, xPd, xPe]
  refine call_at (i := 6) (f := ?_) (args := ?_) rfl (by kernel_rfl) (by rfl) ?_ ?_
  rotate_left 2
  · go_simp
    try first | with_reducible rfl | apply And.intro <;> rfl
  refine (same_any none none 0 0 0 0 [] [] d0 (By.nil _ none) (By.nil _ none) (by omega)).mono ?_
  rintro e_ d1 ⟨rfl, kk, hw⟩
  rw [decide_eq_true rfl]
  refine ⟨_, rfl, hHeld.and (by rw [hw]; exact (Fr.refl [] d0).drewN _) (by simp), fun hHeld => ?_⟩
  clear hw
  simp only [xPa, xPb, xPc, xPd, xPe]
  refine run_at (i := 7) (v := ?_) rfl (by kernel_rfl) (by rfl) (fun _ _ _ h => h) hHeld (fun w1 hw1 => ?_) ?_
  rotate_left 1
  · skip
    go_simp
    try first | with_reducible rfl | apply And.intro <;> rfl
  simp only [xPa, xPb, xPc, xPd, xPe]
  refine run_at (i := 8) (v := ?_) rfl (by kernel_rfl) (by rfl) (fun _ _ _ h => h) hHeld (fun w1 hw1 => ?_) ?_
  rotate_left 1
  · skip
    go_simp
    try first | with_reducible rfl | apply And.intro <;> rfl
  simp only [xPa, xPb, xPc, xPd, xPe]
  refine row_at (i := 9) rfl (by kernel_rfl) (by rfl) _ _ rfl _ _ rfl _ (fun w1 hw1 => hw1.range (HR4.out) (by simp)) (row_msg.of HEL.out) (fun _ _ _ h => h) hHeld ?_
  simp only [xPa, xPb, xPc, xPd, xPe]
  refine row_at (i := 11) rfl (by kernel_rfl) (by rfl) _ _ rfl _ _ rfl _ (fun w1 hw1 => hw1.range (HR4.out) (by simp)) (row_msg.of HEL.out) (fun _ _ _ h => h) hHeld ?_
  simp only [xPa, xPb, xPc, xPd, xPe]
  refine call_at (i := 10) (f := ?_) (args := ?_) rfl (by kernel_rfl) (by rfl) ?_ ?_
  rotate_left 2
  · go_simp
    try first | with_reducible rfl | apply And.intro <;> rfl
  refine (only_any xs d1 (HX4.out.keep hHeld (by simp)) E HE.out.symm).mono ?_
  rintro e_ d2 ⟨y2, rfl, hcc, hok, hff⟩
  have HCy2 := Lib.hid hcc
  have HKy2 := Lib.hid hok
  refine ⟨_, rfl, hHeld.and hff (by simp), fun hHeld => ?_⟩
  clear hcc hok hff
  simp only [xPa, xPb, xPc, xPd, xPe]
  refine call_at (i := 12) (f := ?_) (args := ?_) rfl (by kernel_rfl) (by rfl) ?_ ?_
  rotate_left 2
  · go_simp
    try first | with_reducible rfl | apply And.intro <;> rfl
  refine (refonly_any xs d2 (HX4.out.keep hHeld (by simp)) E HE.out.symm).mono ?_
  rintro e_ d3 ⟨y3, rfl, hcc, hok, hff⟩
  have HCy3 := Lib.hid hcc
  have HKy3 := Lib.hid hok
  have HKy2 := Lib.hid (HKy2.out.keep (S' := []) hff (by simp))
  refine ⟨_, rfl, hHeld.and hff (by simp), fun hHeld => ?_⟩
  clear hcc hok hff
  simp only [xPa, xPb, xPc, xPd, xPe]
  refine call_at (i := 13) (f := ?_) (args := ?_) rfl (by kernel_rfl) (by rfl) ?_ ?_
  rotate_left 2
  · go_simp
    try first | with_reducible rfl | apply And.intro <;> rfl
  refine (kmsg_con y2 y3 d3 HKy2.out HKy3.out (by rw [HCy2.out, HCy3.out]) _ _ rfl rfl).mono ?_
  rintro e_ d4 ⟨rfl, hff⟩
  refine ⟨_, rfl, hHeld.and hff (by simp), fun hHeld => ?_⟩
  clear hff
  simp only [xPa, xPb, xPc, xPd, xPe]
  refine run_at (i := 14) (v := ?_) rfl (by kernel_rfl) (by rfl) (fun _ _ _ h => h) hHeld (fun w1 hw1 => ?_) ?_
  rotate_left 1
  · skip
    go_simp
    try first | with_reducible rfl | apply And.intro <;> rfl
  simp only [xPa, xPb, xPc, xPd, xPe]
  refine run_at (i := 15) (v := ?_) rfl (by kernel_rfl) (by rfl) (fun _ _ _ h => h) hHeld (fun w1 hw1 => ?_) ?_
  rotate_left 1
  · skip
    go_simp
    try first | with_reducible rfl | apply And.intro <;> rfl
  simp only [xPa, xPb, xPc, xPd, xPe]
  refine call_at (i := 16) (f := ?_) (args := ?_) rfl (by kernel_rfl) (by rfl) ?_ ?_
  rotate_left 2
  · go_simp
    try first | with_reducible rfl | apply And.intro <;> rfl
  refine (mwakes_any d4).mono ?_
  rintro e_ d5 ⟨rfl, hff⟩
  refine ⟨_, rfl, hHeld.and hff (by simp), fun hHeld => ?_⟩
  clear hff
  simp only [xPa, xPb, xPc, xPd, xPe]
  refine run_at (i := 17) (v := ?_) rfl (by kernel_rfl) (by rfl) (fun _ _ _ h => h) hHeld (fun w1 hw1 => ?_) ?_
  rotate_left 1
  · skip
    go_simp
    try first | with_reducible rfl | apply And.intro <;> rfl
  simp only [xPa, xPb, xPc, xPd, xPe]
  refine run_at (i := 18) (v := ?_) rfl (by kernel_rfl) (by rfl) (fun _ _ _ h => h) hHeld (fun w1 hw1 => ?_) ?_
  rotate_left 1
  · skip
    go_simp
    try first | with_reducible rfl | apply And.intro <;> rfl
  simp only [xPa, xPb, xPc, xPd, xPe]
  refine wpAnyH_done (by kernel_rfl) ?_ _
  go_wp2_with fail
  go_ret
  exact ⟨rfl, HW4.out.and hHeld (by simp)⟩
end Go.Proofs.YtpcnedpheplofaaGreat
