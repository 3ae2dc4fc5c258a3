/- Texts that the proof stands on: gavelref01.Pack, kind by kind. (written by gen_mrp.py) -/
import Derived.Test.YtdenpfcgghangaaGreatKQ6
import Derived.Deep.CutBlock
set_option linter.unusedSimpArgs false
set_option linter.unusedVariables false
set_option maxRecDepth 100000

namespace Go.Proofs.YtdenpfcgghangaaGreat
open Go.RowKit
set_option maxRecDepth 100000
theorem RowV.two {w : World} {A B : RowV} (ha : By w A.A A.n A.b ∧ A.n ≤ 20000) (hb : By w B.A B.n B.b ∧ B.n ≤ 20000) : ∀ r ∈ [A, B], By w r.A r.n r.b ∧ r.n ≤ 20000 := by
 intro r hr
 simp only [List.mem_cons, List.not_mem_nil, or_false] at hr
 rcases hr with rfl | rfl
 · exact ha
 · exact hb
theorem sig_of {w : World} {v : Wvt} {a : Addr} (h : ∀ j u, (Wvt.cells v)[j]? = some u → w.cell? (a.add j) = some u) (hh : v.h.length = 32) : ∀ j u, ([.int .i64 v.b, .int .i64 v.m] : List Value)[j]? = some u → w.cell? ((⟨a.block, a.off + 36, none⟩ : Addr).add j) = some u := by
 have hl : (v.h.map by8).length = 32 := by rw [List.length_map]; exact hh
 intro j u hj
 have h2 := h (36 + j) u (by
  have e : Wvt.cells v = ([.int .i64 v.k, .int .i64 v.e, .int .i64 v.r, .int .i64 v.p] ++ v.h.map by8) ++ [.int .i64 v.b, .int .i64 v.m] := by simp [Wvt.cells]
  rw [e, List.getElem?_append_right (by simp [hh])]
  simpa [hh] using hj)
 cases a
 by_cases hj0 : j = 0
 · subst hj0
   simpa [Addr.add] using h2
 · simpa [Addr.add, hj0, Nat.add_assoc] using h2
set_option maxHeartbeats 4000000 in
theorem refpack_1 (x : Wmg) (hq : x.q = 1) (w : World) (hx : x.Ok w []) (C : List Value) (hC : x.cells = C) :
  Calls Tryz.prog 5 #[.agg C.toArray] w (PackPost w x) := by
 obtain ⟨wa, hwa⟩ : ∃ wa, wa = w.alloc (Obj.cells C.toArray 61) := ⟨_, rfl⟩
 have hf0 : Fr [] w wa := by rw [hwa]; exact (Fr.refl [] w).alloc _
 have hb0 : Blk wa w.heap.size 61 x.cells.toArray := by rw [hwa, hC]; exact Blk.new _ _ _
 have hat : x.At wa w.heap.size := Wmg.at_of hb0.range hx
 have HCq : Hid (wa.cell? ⟨w.heap.size, 0 + 0, none⟩ = some (.int .i64 1)) := Lib.hid (by have h := hat.q 0 _ rfl; rw [hq] at h; simpa using h)
 have HCf : Hid (wa.cell? ⟨w.heap.size, 0 + 1, none⟩ = some (.int .i64 x.f)) := Lib.hid (by have h := hat.f 0 _ rfl; simpa using h)
 have HCt : Hid (wa.cell? ⟨w.heap.size, 0 + 2, none⟩ = some (.int .i64 x.t)) := Lib.hid (by have h := hat.t 0 _ rfl; simpa using h)
 have hcq : wa.cell? ⟨w.heap.size, 0, none⟩ = some (.int .i64 1) := by have h := hat.q 0 _ rfl; rw [hq] at h; simpa using h
 have HX := Lib.hid hx
 have HAT := Lib.hid hat
 have HF0 := Lib.hid hf0
 have HWA := Lib.hid hwa
 have HQ := Lib.hid hq
 have HKK : Hid (i64In 1) := Lib.hid (by unfold i64In; omega)
 have HSZ : Hid (w.heap.size < wa.heap.size) := Lib.hid hb0.lt
 clear hx hC hwa hf0 hb0 hat hq
 go_enter Tryz.func5, Tryz.ntmps5
 go_upto_region 1 with (fail)
 change Code.wp _ _ _ _ (w.alloc (Obj.cells C.toArray 61))
 rw [← HWA.out]
 go_upto_region 3 with (fail)
 go_cut [4] (fun s4 wx => ∃ A c, s4 = .slice A (encI 1 ++ encI x.f ++ encI x.t).length c ∧ NewB wa wx A (encI 1 ++ encI x.f ++ encI x.t).length c (encI 1 ++ encI x.f ++ encI x.t))
 case first =>
  refine wp_region_held_drew (S := Fr [] wa) (by kernel_rfl) (Fr.drew (Fr.refl _ wa)) (fun hHeld => ?_)
  have HFD : Hid (Fr [] wa wa.drew) := Lib.hid (Fr.drew (Fr.refl [] wa))
  generalize wa.drew = wd at *
  refine run_at (i := 0) (v := ?_) rfl (by kernel_rfl) (by rfl) (fun _ _ _ h => h) hHeld (fun w1 hw1 => ?_) ?_
  rotate_left 1
  · skip
    go_simp
    try first | with_reducible rfl | apply And.intro <;> rfl
  simp only [xPa, xPb, xPc, xPd, xPe]
  refine run_at (i := 1) (v := ?_) rfl (by kernel_rfl) (by rfl) (fun _ _ _ h => h) hHeld (fun w1 hw1 => ?_) ?_
  rotate_left 1
  · skip
    have hcw0 := hw1.cell (HCq.out) (by simp)
    go_simp
    try first | with_reducible rfl | apply And.intro <;> rfl
  simp only [xPa, xPb, xPc, xPd, xPe]
  refine run_at (i := 3) (v := ?_) rfl (by kernel_rfl) (by rfl) (fun _ _ _ h => h) hHeld (fun w1 hw1 => ?_) ?_
  rotate_left 1
  · skip
    go_simp
    try first | with_reducible rfl | apply And.intro <;> rfl
  simp only [xPa, xPb, xPc, xPd, xPe]
  refine run_at (i := 4) (v := ?_) rfl (by kernel_rfl) (by rfl) (fun _ _ _ h => h) hHeld (fun w1 hw1 => ?_) ?_
  rotate_left 1
  · skip
    have hcw0 := hw1.cell (HCf.out) (by simp)
    go_simp
    try first | with_reducible rfl | apply And.intro <;> rfl
  simp only [xPa, xPb, xPc, xPd, xPe]
  refine run_at (i := 6) (v := ?_) rfl (by kernel_rfl) (by rfl) (fun _ _ _ h => h) hHeld (fun w1 hw1 => ?_) ?_
  rotate_left 1
  · skip
    go_simp
    try first | with_reducible rfl | apply And.intro <;> rfl
  simp only [xPa, xPb, xPc, xPd, xPe]
  refine run_at (i := 7) (v := ?_) rfl (by kernel_rfl) (by rfl) (fun _ _ _ h => h) hHeld (fun w1 hw1 => ?_) ?_
  rotate_left 1
  · skip
    have hcw0 := hw1.cell (HCt.out) (by simp)
    go_simp
    try first | with_reducible rfl | apply And.intro <;> rfl
  simp only [xPa, xPb, xPc, xPd, xPe]
  refine call_at (i := 2) (f := ?_) (args := ?_) rfl (by kernel_rfl) (by rfl) ?_ ?_
  rotate_left 2
  · go_simp
    try first | with_reducible rfl | apply And.intro <;> rfl
  refine (refint_any (1) HKK.out.2 wd).mono ?_
  rintro e w2 ⟨A2x, c2x, rfl, hN⟩
  obtain ⟨n2x, hn2⟩ : ∃ nn_, nn_ = (encI (1)).length := ⟨_, rfl⟩
  obtain ⟨l2x, hl2⟩ : ∃ ll_, ll_ = encI (1) := ⟨_, rfl⟩
  rw [← hn2] at hN ⊢
  rw [← hl2] at hN
  have HB2x : Hid (n2x ≤ 20000) := Lib.hid (by rw [hn2]; have := encI_len (1) HKK.out.2; omega)
  have HL2 := Lib.hid hl2
  refine ⟨_, rfl, hHeld.go hN.2.1 (by simp), fun hHeld => ?_⟩
  simp only [xPa, xPb, xPc, xPd, xPe]
  have HY2x := Lib.hid hN.by
  have HFD := Lib.hid (HFD.out.and hN.2.1 (by simp))
  clear hN hn2 hl2
  refine call_at (i := 5) (f := ?_) (args := ?_) rfl (by kernel_rfl) (by rfl) ?_ ?_
  rotate_left 2
  · go_simp
    try first | with_reducible rfl | apply And.intro <;> rfl
  refine (refint_any (x.f) HX.out.f.2 w2).mono ?_
  rintro e w5 ⟨A5x, c5x, rfl, hN⟩
  obtain ⟨n5x, hn5⟩ : ∃ nn_, nn_ = (encI (x.f)).length := ⟨_, rfl⟩
  obtain ⟨l5x, hl5⟩ : ∃ ll_, ll_ = encI (x.f) := ⟨_, rfl⟩
  rw [← hn5] at hN ⊢
  rw [← hl5] at hN
  have HB5x : Hid (n5x ≤ 20000) := Lib.hid (by rw [hn5]; have := encI_len (x.f) HX.out.f.2; omega)
  have HL5 := Lib.hid hl5
  refine ⟨_, rfl, hHeld.go hN.2.1 (by simp), fun hHeld => ?_⟩
  simp only [xPa, xPb, xPc, xPd, xPe]
  have HY5x := Lib.hid hN.by
  have HFD := Lib.hid (HFD.out.and hN.2.1 (by simp))
  have HY2x := Lib.hid (Fr.byk hN.2.1 HY2x.out)
  clear hN hn5 hl5
  refine call_at (i := 8) (f := ?_) (args := ?_) rfl (by kernel_rfl) (by rfl) ?_ ?_
  rotate_left 2
  · go_simp
    try first | with_reducible rfl | apply And.intro <;> rfl
  refine (refint_any (x.t) HX.out.t.2 w5).mono ?_
  rintro e w8 ⟨A8x, c8x, rfl, hN⟩
  obtain ⟨n8x, hn8⟩ : ∃ nn_, nn_ = (encI (x.t)).length := ⟨_, rfl⟩
  obtain ⟨l8x, hl8⟩ : ∃ ll_, ll_ = encI (x.t) := ⟨_, rfl⟩
  rw [← hn8] at hN ⊢
  rw [← hl8] at hN
  have HB8x : Hid (n8x ≤ 20000) := Lib.hid (by rw [hn8]; have := encI_len (x.t) HX.out.t.2; omega)
  have HL8 := Lib.hid hl8
  refine ⟨_, rfl, hHeld.go hN.2.1 (by simp), fun hHeld => ?_⟩
  simp only [xPa, xPb, xPc, xPd, xPe]
  have HY8x := Lib.hid hN.by
  have HFD := Lib.hid (HFD.out.and hN.2.1 (by simp))
  have HY2x := Lib.hid (Fr.byk hN.2.1 HY2x.out)
  have HY5x := Lib.hid (Fr.byk hN.2.1 HY5x.out)
  clear hN hn8 hl8
  refine step_at (i := 9) rfl (by kernel_rfl) (by rfl) (fun K hK => ?_)
  refine wp_run (v := ?_) (w' := ?_) ?_ ?_
  rotate_left 2
  · go_simp
    try first | with_reducible rfl | apply And.intro <;> rfl
  refine hK.out _ (w8.alloc (Obj.cells #[.slice A2x n2x c2x, .slice A5x n5x c5x, .slice A8x n8x c8x] 52)) (hHeld.alloc _) (fun hHeld => ?_)
  clear hK K
  simp only [xPa, xPb, xPc, xPd, xPe]
  have hfb : Fr [] w8 (w8.alloc (Obj.cells #[.slice A2x n2x c2x, .slice A5x n5x c5x, .slice A8x n8x c8x] 52)) := (Fr.refl [] w8).alloc _
  have hbb : Blk (w8.alloc (Obj.cells #[.slice A2x n2x c2x, .slice A5x n5x c5x, .slice A8x n8x c8x] 52)) w8.heap.size 52 (([⟨A2x, n2x, c2x, l2x⟩, ⟨A5x, n5x, c5x, l5x⟩, ⟨A8x, n8x, c8x, l8x⟩] : List RowV).map RowV.val).toArray := Blk.new _ _ _
  generalize w8.alloc (Obj.cells #[.slice A2x n2x c2x, .slice A5x n5x c5x, .slice A8x n8x c8x] 52) = wj at *
  have HFD := Lib.hid (HFD.out.and hfb (by simp))
  have hj := join_big w8.heap.size 3 [⟨A2x, n2x, c2x, l2x⟩, ⟨A5x, n5x, c5x, l5x⟩, ⟨A8x, n8x, c8x, l8x⟩] wj hbb rfl (by omega) (by
   intro r hr
   simp only [List.mem_cons, List.not_mem_nil, or_false] at hr
   rcases hr with rfl | rfl | rfl
   · exact ⟨Fr.byk hfb HY2x.out, HB2x.out⟩
   · exact ⟨Fr.byk hfb HY5x.out, HB5x.out⟩
   · exact ⟨Fr.byk hfb HY8x.out, HB8x.out⟩)
  have hJ : joinL [⟨A2x, n2x, c2x, l2x⟩, ⟨A5x, n5x, c5x, l5x⟩, ⟨A8x, n8x, c8x, l8x⟩] = encI 1 ++ encI x.f ++ encI x.t := by
   simp only [joinL, List.map_cons, List.map_nil, List.flatten_cons, List.flatten_nil, HL2.out, HL5.out, HL8.out]
   simp [List.append_assoc]
  rw [hJ] at hj
  obtain ⟨X, hX⟩ : ∃ X, X = encI 1 ++ encI x.f ++ encI x.t := ⟨_, rfl⟩
  rw [← hX] at hj
  have HXT := Lib.hid hX
  clear hX
  have HJ := Lib.hid hj
  clear hfb hbb hj hJ HY2x HL2 HY5x HL5 HY8x HL8
  refine call_at (i := 10) (f := ?_) (args := ?_) rfl (by kernel_rfl) (by rfl) ?_ ?_
  rotate_left 2
  · go_simp
    try first | with_reducible rfl | apply And.intro <;> rfl
  refine HJ.out.mono ?_
  rintro e wk ⟨Aj, cj, rfl, hN⟩
  have HN := Lib.hid (hN.from2 HFD.out)
  refine ⟨_, rfl, hHeld.go hN.2.1 (by simp), fun hHeld => ?_⟩
  clear hN
  simp only [xPa, xPb, xPc, xPd, xPe]
  refine run_at (i := 11) (v := ?_) rfl (by kernel_rfl) (by rfl) (fun _ _ _ h => h) hHeld (fun w1 hw1 => ?_) ?_
  rotate_left 1
  · skip
    go_simp
    try first | with_reducible rfl | apply And.intro <;> rfl
  simp only [xPa, xPb, xPc, xPd, xPe]
  refine wpAnyH_done (by kernel_rfl) ?_ _
  go_wp2_with fail
  go_meet
  rw [← HXT.out]
  exact ⟨Aj, cj, rfl, HN.out⟩
 case rest =>
  obtain ⟨A0, c0, rfl, hn⟩ := hcut
  obtain ⟨n0, hn0⟩ : ∃ n0, n0 = (encI 1 ++ encI x.f ++ encI x.t).length := ⟨_, rfl⟩
  obtain ⟨l0, hl0⟩ : ∃ l0, l0 = encI 1 ++ encI x.f ++ encI x.t := ⟨_, rfl⟩
  rw [← hn0] at hn ⊢
  rw [← hl0] at hn
  have HN0 := Lib.hid hn
  have HB0l : Hid (n0 ≤ 20000) := Lib.hid (by rw [hn0]; have h1 := encI_len 1 HKK.out.2; have h2 := encI_len x.f HX.out.f.2; have h3 := encI_len x.t HX.out.t.2; simp only [List.length_append]; omega)
  have HL0 := Lib.hid hl0
  have HFC : Hid (Fr [] wa wc) := Lib.hid hn.2.1
  have hcq : wc.cell? ⟨w.heap.size, 0, none⟩ = some (.int .i64 1) := hn.2.1.cell hcq (by simp)
  have HY0 : Hid (By wc A0 n0 l0) := Lib.hid hn.by
  clear hn hn0 hl0 HCq HCf HCt
  obtain ⟨V, hV⟩ : ∃ V, V = x.cm.cells := ⟨_, rfl⟩
  have HVL : Hid (V.length = 37) := Lib.hid (by rw [hV]; exact Wcm.len HX.out.cm.h)
  have HVR : Hid (wc.rangeAt w.heap.size 3 V) := Lib.hid (by rw [hV]; exact HFC.out.range HAT.out.cm (by simp))
  have HV := Lib.hid hV
  clear hV
  go_wp2_with (refine wpList_load_mid rfl 29 _ rfl w.heap.size 3 rfl V _ HVR.out Tryz.underlying29 rfl (row_cmt.of HVL.out).2 ?_)
  refine (refputCommit_any x.cm HX.out.cm V HV.out.symm wc).mono ?_
  rintro e w1 ⟨A1, c1, rfl, hN⟩
  obtain ⟨n1, hn1⟩ : ∃ nn_, nn_ = (x.cm.full).length := ⟨_, rfl⟩
  obtain ⟨l1, hl1⟩ : ∃ ll_, ll_ = x.cm.full := ⟨_, rfl⟩
  rw [← hn1] at hN ⊢
  rw [← hl1] at hN
  have HB1x : Hid (n1 ≤ 20000) := Lib.hid (by rw [hn1]; have := Wcm.full_len HX.out.cm; omega)
  have HL1 := Lib.hid hl1
  have HN1 := Lib.hid hN
  have HY0 := Lib.hid (Fr.byk hN.2.1 HY0.out)
  clear hN hn1 hl1
  go_wp2_with fail
  have hfb : Fr [] w1 (w1.alloc (Obj.cells #[.slice A0 n0 c0, .slice A1 n1 c1] 52)) := (Fr.refl [] w1).alloc _
  have hbb : Blk (w1.alloc (Obj.cells #[.slice A0 n0 c0, .slice A1 n1 c1] 52)) w1.heap.size 52 (([⟨A0, n0, c0, l0⟩, ⟨A1, n1, c1, l1⟩] : List RowV).map RowV.val).toArray := Blk.new _ _ _
  have hj := join_big w1.heap.size 2 [⟨A0, n0, c0, l0⟩, ⟨A1, n1, c1, l1⟩] _ hbb rfl (by omega) (RowV.two ⟨Fr.byk hfb HY0.out, HB0l.out⟩ ⟨Fr.byk hfb HN1.out.by, HB1x.out⟩)
  have hJ : joinL [⟨A0, n0, c0, l0⟩, ⟨A1, n1, c1, l1⟩] = l0 ++ x.cm.full := by
   simp only [joinL, List.map_cons, List.map_nil, List.flatten_cons, List.flatten_nil, HL1.out]
   simp
  rw [hJ] at hj
  obtain ⟨X, hX⟩ : ∃ X, X = l0 ++ x.cm.full := ⟨_, rfl⟩
  rw [← hX] at hj
  have HXT := Lib.hid hX
  have HFB := Lib.hid hfb
  clear hX hbb hJ hfb
  refine hj.mono ?_
  rintro e wk ⟨Aj, cj, rfl, hN⟩
  have HN := Lib.hid (hN.from2 (HN1.out.2.1.and HFB.out (by simp)))
  clear hN hj
  have HBX : Hid (X = x.bytes) := Lib.hid (by rw [HXT.out, HL0.out]; unfold Wmg.bytes; rw [Wmg.body_1 HQ.out, HQ.out])
  have hxl : X.length ≤ 15030 := by rw [HBX.out]; exact Wmg.bytes_len HX.out
  have hd : decide ((65536 : Int) < (X.length : Int)) = false := by simp; omega
  go_wp2_with fail
  go_ret2
  unfold PackPost
  rw [if_pos (by rw [HQ.out]; decide), ← HBX.out]
  exact ⟨Aj, cj, rfl, HN.out.from2 (HF0.out.and HFC.out (by simp))⟩
set_option maxHeartbeats 4000000 in
theorem refpack_2 (x : Wmg) (hq : x.q = 2) (w : World) (hx : x.Ok w []) (C : List Value) (hC : x.cells = C) :
  Calls Tryz.prog 5 #[.agg C.toArray] w (PackPost w x) := by
 obtain ⟨wa, hwa⟩ : ∃ wa, wa = w.alloc (Obj.cells C.toArray 61) := ⟨_, rfl⟩
 have hf0 : Fr [] w wa := by rw [hwa]; exact (Fr.refl [] w).alloc _
 have hb0 : Blk wa w.heap.size 61 x.cells.toArray := by rw [hwa, hC]; exact Blk.new _ _ _
 have hat : x.At wa w.heap.size := Wmg.at_of hb0.range hx
 have HCq : Hid (wa.cell? ⟨w.heap.size, 0 + 0, none⟩ = some (.int .i64 2)) := Lib.hid (by have h := hat.q 0 _ rfl; rw [hq] at h; simpa using h)
 have HCf : Hid (wa.cell? ⟨w.heap.size, 0 + 1, none⟩ = some (.int .i64 x.f)) := Lib.hid (by have h := hat.f 0 _ rfl; simpa using h)
 have HCt : Hid (wa.cell? ⟨w.heap.size, 0 + 2, none⟩ = some (.int .i64 x.t)) := Lib.hid (by have h := hat.t 0 _ rfl; simpa using h)
 have hcq : wa.cell? ⟨w.heap.size, 0, none⟩ = some (.int .i64 2) := by have h := hat.q 0 _ rfl; rw [hq] at h; simpa using h
 have HX := Lib.hid hx
 have HAT := Lib.hid hat
 have HF0 := Lib.hid hf0
 have HWA := Lib.hid hwa
 have HQ := Lib.hid hq
 have HKK : Hid (i64In 2) := Lib.hid (by unfold i64In; omega)
 have HSZ : Hid (w.heap.size < wa.heap.size) := Lib.hid hb0.lt
 clear hx hC hwa hf0 hb0 hat hq
 go_enter Tryz.func5, Tryz.ntmps5
 go_upto_region 1 with (fail)
 change Code.wp _ _ _ _ (w.alloc (Obj.cells C.toArray 61))
 rw [← HWA.out]
 go_upto_region 3 with (fail)
 go_cut [4] (fun s4 wx => ∃ A c, s4 = .slice A (encI 2 ++ encI x.f ++ encI x.t).length c ∧ NewB wa wx A (encI 2 ++ encI x.f ++ encI x.t).length c (encI 2 ++ encI x.f ++ encI x.t))
 case first =>
  refine wp_region_held_drew (S := Fr [] wa) (by kernel_rfl) (Fr.drew (Fr.refl _ wa)) (fun hHeld => ?_)
  have HFD : Hid (Fr [] wa wa.drew) := Lib.hid (Fr.drew (Fr.refl [] wa))
  generalize wa.drew = wd at *
  refine run_at (i := 0) (v := ?_) rfl (by kernel_rfl) (by rfl) (fun _ _ _ h => h) hHeld (fun w1 hw1 => ?_) ?_
  rotate_left 1
  · skip
    go_simp
    try first | with_reducible rfl | apply And.intro <;> rfl
  simp only [xPa, xPb, xPc, xPd, xPe]
  refine run_at (i := 1) (v := ?_) rfl (by kernel_rfl) (by rfl) (fun _ _ _ h => h) hHeld (fun w1 hw1 => ?_) ?_
  rotate_left 1
  · skip
    have hcw0 := hw1.cell (HCq.out) (by simp)
    go_simp
    try first | with_reducible rfl | apply And.intro <;> rfl
  simp only [xPa, xPb, xPc, xPd, xPe]
  refine run_at (i := 3) (v := ?_) rfl (by kernel_rfl) (by rfl) (fun _ _ _ h => h) hHeld (fun w1 hw1 => ?_) ?_
  rotate_left 1
  · skip
    go_simp
    try first | with_reducible rfl | apply And.intro <;> rfl
  simp only [xPa, xPb, xPc, xPd, xPe]
  refine run_at (i := 4) (v := ?_) rfl (by kernel_rfl) (by rfl) (fun _ _ _ h => h) hHeld (fun w1 hw1 => ?_) ?_
  rotate_left 1
  · skip
    have hcw0 := hw1.cell (HCf.out) (by simp)
    go_simp
    try first | with_reducible rfl | apply And.intro <;> rfl
  simp only [xPa, xPb, xPc, xPd, xPe]
  refine run_at (i := 6) (v := ?_) rfl (by kernel_rfl) (by rfl) (fun _ _ _ h => h) hHeld (fun w1 hw1 => ?_) ?_
  rotate_left 1
  · skip
    go_simp
    try first | with_reducible rfl | apply And.intro <;> rfl
  simp only [xPa, xPb, xPc, xPd, xPe]
  refine run_at (i := 7) (v := ?_) rfl (by kernel_rfl) (by rfl) (fun _ _ _ h => h) hHeld (fun w1 hw1 => ?_) ?_
  rotate_left 1
  · skip
    have hcw0 := hw1.cell (HCt.out) (by simp)
    go_simp
    try first | with_reducible rfl | apply And.intro <;> rfl
  simp only [xPa, xPb, xPc, xPd, xPe]
  refine call_at (i := 2) (f := ?_) (args := ?_) rfl (by kernel_rfl) (by rfl) ?_ ?_
  rotate_left 2
  · go_simp
    try first | with_reducible rfl | apply And.intro <;> rfl
  refine (refint_any (2) HKK.out.2 wd).mono ?_
  rintro e w2 ⟨A2x, c2x, rfl, hN⟩
  obtain ⟨n2x, hn2⟩ : ∃ nn_, nn_ = (encI (2)).length := ⟨_, rfl⟩
  obtain ⟨l2x, hl2⟩ : ∃ ll_, ll_ = encI (2) := ⟨_, rfl⟩
  rw [← hn2] at hN ⊢
  rw [← hl2] at hN
  have HB2x : Hid (n2x ≤ 20000) := Lib.hid (by rw [hn2]; have := encI_len (2) HKK.out.2; omega)
  have HL2 := Lib.hid hl2
  refine ⟨_, rfl, hHeld.go hN.2.1 (by simp), fun hHeld => ?_⟩
  simp only [xPa, xPb, xPc, xPd, xPe]
  have HY2x := Lib.hid hN.by
  have HFD := Lib.hid (HFD.out.and hN.2.1 (by simp))
  clear hN hn2 hl2
  refine call_at (i := 5) (f := ?_) (args := ?_) rfl (by kernel_rfl) (by rfl) ?_ ?_
  rotate_left 2
  · go_simp
    try first | with_reducible rfl | apply And.intro <;> rfl
  refine (refint_any (x.f) HX.out.f.2 w2).mono ?_
  rintro e w5 ⟨A5x, c5x, rfl, hN⟩
  obtain ⟨n5x, hn5⟩ : ∃ nn_, nn_ = (encI (x.f)).length := ⟨_, rfl⟩
  obtain ⟨l5x, hl5⟩ : ∃ ll_, ll_ = encI (x.f) := ⟨_, rfl⟩
  rw [← hn5] at hN ⊢
  rw [← hl5] at hN
  have HB5x : Hid (n5x ≤ 20000) := Lib.hid (by rw [hn5]; have := encI_len (x.f) HX.out.f.2; omega)
  have HL5 := Lib.hid hl5
  refine ⟨_, rfl, hHeld.go hN.2.1 (by simp), fun hHeld => ?_⟩
  simp only [xPa, xPb, xPc, xPd, xPe]
  have HY5x := Lib.hid hN.by
  have HFD := Lib.hid (HFD.out.and hN.2.1 (by simp))
  have HY2x := Lib.hid (Fr.byk hN.2.1 HY2x.out)
  clear hN hn5 hl5
  refine call_at (i := 8) (f := ?_) (args := ?_) rfl (by kernel_rfl) (by rfl) ?_ ?_
  rotate_left 2
  · go_simp
    try first | with_reducible rfl | apply And.intro <;> rfl
  refine (refint_any (x.t) HX.out.t.2 w5).mono ?_
  rintro e w8 ⟨A8x, c8x, rfl, hN⟩
  obtain ⟨n8x, hn8⟩ : ∃ nn_, nn_ = (encI (x.t)).length := ⟨_, rfl⟩
  obtain ⟨l8x, hl8⟩ : ∃ ll_, ll_ = encI (x.t) := ⟨_, rfl⟩
  rw [← hn8] at hN ⊢
  rw [← hl8] at hN
  have HB8x : Hid (n8x ≤ 20000) := Lib.hid (by rw [hn8]; have := encI_len (x.t) HX.out.t.2; omega)
  have HL8 := Lib.hid hl8
  refine ⟨_, rfl, hHeld.go hN.2.1 (by simp), fun hHeld => ?_⟩
  simp only [xPa, xPb, xPc, xPd, xPe]
  have HY8x := Lib.hid hN.by
  have HFD := Lib.hid (HFD.out.and hN.2.1 (by simp))
  have HY2x := Lib.hid (Fr.byk hN.2.1 HY2x.out)
  have HY5x := Lib.hid (Fr.byk hN.2.1 HY5x.out)
  clear hN hn8 hl8
  refine step_at (i := 9) rfl (by kernel_rfl) (by rfl) (fun K hK => ?_)
  refine wp_run (v := ?_) (w' := ?_) ?_ ?_
  rotate_left 2
  · go_simp
    try first | with_reducible rfl | apply And.intro <;> rfl
  refine hK.out _ (w8.alloc (Obj.cells #[.slice A2x n2x c2x, .slice A5x n5x c5x, .slice A8x n8x c8x] 52)) (hHeld.alloc _) (fun hHeld => ?_)
  clear hK K
  simp only [xPa, xPb, xPc, xPd, xPe]
  have hfb : Fr [] w8 (w8.alloc (Obj.cells #[.slice A2x n2x c2x, .slice A5x n5x c5x, .slice A8x n8x c8x] 52)) := (Fr.refl [] w8).alloc _
  have hbb : Blk (w8.alloc (Obj.cells #[.slice A2x n2x c2x, .slice A5x n5x c5x, .slice A8x n8x c8x] 52)) w8.heap.size 52 (([⟨A2x, n2x, c2x, l2x⟩, ⟨A5x, n5x, c5x, l5x⟩, ⟨A8x, n8x, c8x, l8x⟩] : List RowV).map RowV.val).toArray := Blk.new _ _ _
  generalize w8.alloc (Obj.cells #[.slice A2x n2x c2x, .slice A5x n5x c5x, .slice A8x n8x c8x] 52) = wj at *
  have HFD := Lib.hid (HFD.out.and hfb (by simp))
  have hj := join_big w8.heap.size 3 [⟨A2x, n2x, c2x, l2x⟩, ⟨A5x, n5x, c5x, l5x⟩, ⟨A8x, n8x, c8x, l8x⟩] wj hbb rfl (by omega) (by
   intro r hr
   simp only [List.mem_cons, List.not_mem_nil, or_false] at hr
   rcases hr with rfl | rfl | rfl
   · exact ⟨Fr.byk hfb HY2x.out, HB2x.out⟩
   · exact ⟨Fr.byk hfb HY5x.out, HB5x.out⟩
   · exact ⟨Fr.byk hfb HY8x.out, HB8x.out⟩)
  have hJ : joinL [⟨A2x, n2x, c2x, l2x⟩, ⟨A5x, n5x, c5x, l5x⟩, ⟨A8x, n8x, c8x, l8x⟩] = encI 2 ++ encI x.f ++ encI x.t := by
   simp only [joinL, List.map_cons, List.map_nil, List.flatten_cons, List.flatten_nil, HL2.out, HL5.out, HL8.out]
   simp [List.append_assoc]
  rw [hJ] at hj
  obtain ⟨X, hX⟩ : ∃ X, X = encI 2 ++ encI x.f ++ encI x.t := ⟨_, rfl⟩
  rw [← hX] at hj
  have HXT := Lib.hid hX
  clear hX
  have HJ := Lib.hid hj
  clear hfb hbb hj hJ HY2x HL2 HY5x HL5 HY8x HL8
  refine call_at (i := 10) (f := ?_) (args := ?_) rfl (by kernel_rfl) (by rfl) ?_ ?_
  rotate_left 2
  · go_simp
    try first | with_reducible rfl | apply And.intro <;> rfl
  refine HJ.out.mono ?_
  rintro e wk ⟨Aj, cj, rfl, hN⟩
  have HN := Lib.hid (hN.from2 HFD.out)
  refine ⟨_, rfl, hHeld.go hN.2.1 (by simp), fun hHeld => ?_⟩
  clear hN
  simp only [xPa, xPb, xPc, xPd, xPe]
  refine run_at (i := 11) (v := ?_) rfl (by kernel_rfl) (by rfl) (fun _ _ _ h => h) hHeld (fun w1 hw1 => ?_) ?_
  rotate_left 1
  · skip
    go_simp
    try first | with_reducible rfl | apply And.intro <;> rfl
  simp only [xPa, xPb, xPc, xPd, xPe]
  refine wpAnyH_done (by kernel_rfl) ?_ _
  go_wp2_with fail
  go_meet
  rw [← HXT.out]
  exact ⟨Aj, cj, rfl, HN.out⟩
 case rest =>
  obtain ⟨A0, c0, rfl, hn⟩ := hcut
  obtain ⟨n0, hn0⟩ : ∃ n0, n0 = (encI 2 ++ encI x.f ++ encI x.t).length := ⟨_, rfl⟩
  obtain ⟨l0, hl0⟩ : ∃ l0, l0 = encI 2 ++ encI x.f ++ encI x.t := ⟨_, rfl⟩
  rw [← hn0] at hn ⊢
  rw [← hl0] at hn
  have HN0 := Lib.hid hn
  have HB0l : Hid (n0 ≤ 20000) := Lib.hid (by rw [hn0]; have h1 := encI_len 2 HKK.out.2; have h2 := encI_len x.f HX.out.f.2; have h3 := encI_len x.t HX.out.t.2; simp only [List.length_append]; omega)
  have HL0 := Lib.hid hl0
  have HFC : Hid (Fr [] wa wc) := Lib.hid hn.2.1
  have hcq : wc.cell? ⟨w.heap.size, 0, none⟩ = some (.int .i64 2) := hn.2.1.cell hcq (by simp)
  have HY0 : Hid (By wc A0 n0 l0) := Lib.hid hn.by
  clear hn hn0 hl0 HCq HCf HCt
  obtain ⟨V, hV⟩ : ∃ V, V = x.st.cells := ⟨_, rfl⟩
  have HVL : Hid (V.length = 38) := Lib.hid (by rw [hV]; exact Wst.len HX.out.st.h)
  have HVR : Hid (wc.rangeAt w.heap.size 40 V) := Lib.hid (by rw [hV]; exact HFC.out.range HAT.out.st (by simp))
  have HV := Lib.hid hV
  clear hV
  go_wp2_with (refine wpList_load_mid rfl 32 _ rfl w.heap.size 40 rfl V _ HVR.out Tryz.underlying32 rfl (row_stamp.of HVL.out).2 ?_)
  refine (refputStamp_any x.st HX.out.st V HV.out.symm wc).mono ?_
  rintro e w1 ⟨A1, c1, rfl, hN⟩
  obtain ⟨n1, hn1⟩ : ∃ nn_, nn_ = (x.st.full).length := ⟨_, rfl⟩
  obtain ⟨l1, hl1⟩ : ∃ ll_, ll_ = x.st.full := ⟨_, rfl⟩
  rw [← hn1] at hN ⊢
  rw [← hl1] at hN
  have HB1x : Hid (n1 ≤ 20000) := Lib.hid (by rw [hn1]; have := Wst.full_len HX.out.st; omega)
  have HL1 := Lib.hid hl1
  have HN1 := Lib.hid hN
  have HY0 := Lib.hid (Fr.byk hN.2.1 HY0.out)
  clear hN hn1 hl1
  go_wp2_with fail
  have hfb : Fr [] w1 (w1.alloc (Obj.cells #[.slice A0 n0 c0, .slice A1 n1 c1] 52)) := (Fr.refl [] w1).alloc _
  have hbb : Blk (w1.alloc (Obj.cells #[.slice A0 n0 c0, .slice A1 n1 c1] 52)) w1.heap.size 52 (([⟨A0, n0, c0, l0⟩, ⟨A1, n1, c1, l1⟩] : List RowV).map RowV.val).toArray := Blk.new _ _ _
  have hj := join_big w1.heap.size 2 [⟨A0, n0, c0, l0⟩, ⟨A1, n1, c1, l1⟩] _ hbb rfl (by omega) (RowV.two ⟨Fr.byk hfb HY0.out, HB0l.out⟩ ⟨Fr.byk hfb HN1.out.by, HB1x.out⟩)
  have hJ : joinL [⟨A0, n0, c0, l0⟩, ⟨A1, n1, c1, l1⟩] = l0 ++ x.st.full := by
   simp only [joinL, List.map_cons, List.map_nil, List.flatten_cons, List.flatten_nil, HL1.out]
   simp
  rw [hJ] at hj
  obtain ⟨X, hX⟩ : ∃ X, X = l0 ++ x.st.full := ⟨_, rfl⟩
  rw [← hX] at hj
  have HXT := Lib.hid hX
  have HFB := Lib.hid hfb
  clear hX hbb hJ hfb
  refine hj.mono ?_
  rintro e wk ⟨Aj, cj, rfl, hN⟩
  have HN := Lib.hid (hN.from2 (HN1.out.2.1.and HFB.out (by simp)))
  clear hN hj
  have HBX : Hid (X = x.bytes) := Lib.hid (by rw [HXT.out, HL0.out]; unfold Wmg.bytes; rw [Wmg.body_2 HQ.out, HQ.out])
  have hxl : X.length ≤ 15030 := by rw [HBX.out]; exact Wmg.bytes_len HX.out
  have hd : decide ((65536 : Int) < (X.length : Int)) = false := by simp; omega
  go_wp2_with fail
  go_ret2
  unfold PackPost
  rw [if_pos (by rw [HQ.out]; decide), ← HBX.out]
  exact ⟨Aj, cj, rfl, HN.out.from2 (HF0.out.and HFC.out (by simp))⟩
set_option maxHeartbeats 4000000 in
theorem refpack_3 (x : Wmg) (hq : x.q = 3) (w : World) (hx : x.Ok w []) (C : List Value) (hC : x.cells = C) :
  Calls Tryz.prog 5 #[.agg C.toArray] w (PackPost w x) := by
 obtain ⟨wa, hwa⟩ : ∃ wa, wa = w.alloc (Obj.cells C.toArray 61) := ⟨_, rfl⟩
 have hf0 : Fr [] w wa := by rw [hwa]; exact (Fr.refl [] w).alloc _
 have hb0 : Blk wa w.heap.size 61 x.cells.toArray := by rw [hwa, hC]; exact Blk.new _ _ _
 have hat : x.At wa w.heap.size := Wmg.at_of hb0.range hx
 have HCq : Hid (wa.cell? ⟨w.heap.size, 0 + 0, none⟩ = some (.int .i64 3)) := Lib.hid (by have h := hat.q 0 _ rfl; rw [hq] at h; simpa using h)
 have HCf : Hid (wa.cell? ⟨w.heap.size, 0 + 1, none⟩ = some (.int .i64 x.f)) := Lib.hid (by have h := hat.f 0 _ rfl; simpa using h)
 have HCt : Hid (wa.cell? ⟨w.heap.size, 0 + 2, none⟩ = some (.int .i64 x.t)) := Lib.hid (by have h := hat.t 0 _ rfl; simpa using h)
 have hcq : wa.cell? ⟨w.heap.size, 0, none⟩ = some (.int .i64 3) := by have h := hat.q 0 _ rfl; rw [hq] at h; simpa using h
 have HX := Lib.hid hx
 have HAT := Lib.hid hat
 have HF0 := Lib.hid hf0
 have HWA := Lib.hid hwa
 have HQ := Lib.hid hq
 have HKK : Hid (i64In 3) := Lib.hid (by unfold i64In; omega)
 have HSZ : Hid (w.heap.size < wa.heap.size) := Lib.hid hb0.lt
 clear hx hC hwa hf0 hb0 hat hq
 go_enter Tryz.func5, Tryz.ntmps5
 go_upto_region 1 with (fail)
 change Code.wp _ _ _ _ (w.alloc (Obj.cells C.toArray 61))
 rw [← HWA.out]
 go_upto_region 3 with (fail)
 go_cut [4] (fun s4 wx => ∃ A c, s4 = .slice A (encI 3 ++ encI x.f ++ encI x.t).length c ∧ NewB wa wx A (encI 3 ++ encI x.f ++ encI x.t).length c (encI 3 ++ encI x.f ++ encI x.t))
 case first =>
  refine wp_region_held_drew (S := Fr [] wa) (by kernel_rfl) (Fr.drew (Fr.refl _ wa)) (fun hHeld => ?_)
  have HFD : Hid (Fr [] wa wa.drew) := Lib.hid (Fr.drew (Fr.refl [] wa))
  generalize wa.drew = wd at *
  refine run_at (i := 0) (v := ?_) rfl (by kernel_rfl) (by rfl) (fun _ _ _ h => h) hHeld (fun w1 hw1 => ?_) ?_
  rotate_left 1
  · skip
    go_simp
    try first | with_reducible rfl | apply And.intro <;> rfl
  simp only [xPa, xPb, xPc, xPd, xPe]
  refine run_at (i := 1) (v := ?_) rfl (by kernel_rfl) (by rfl) (fun _ _ _ h => h) hHeld (fun w1 hw1 => ?_) ?_
  rotate_left 1
  · skip
    have hcw0 := hw1.cell (HCq.out) (by simp)
    go_simp
    try first | with_reducible rfl | apply And.intro <;> rfl
  simp only [xPa, xPb, xPc, xPd, xPe]
  refine run_at (i := 3) (v := ?_) rfl (by kernel_rfl) (by rfl) (fun _ _ _ h => h) hHeld (fun w1 hw1 => ?_) ?_
  rotate_left 1
  · skip
    go_simp
    try first | with_reducible rfl | apply And.intro <;> rfl
  simp only [xPa, xPb, xPc, xPd, xPe]
  refine run_at (i := 4) (v := ?_) rfl (by kernel_rfl) (by rfl) (fun _ _ _ h => h) hHeld (fun w1 hw1 => ?_) ?_
  rotate_left 1
  · skip
    have hcw0 := hw1.cell (HCf.out) (by simp)
    go_simp
    try first | with_reducible rfl | apply And.intro <;> rfl
  simp only [xPa, xPb, xPc, xPd, xPe]
  refine run_at (i := 6) (v := ?_) rfl (by kernel_rfl) (by rfl) (fun _ _ _ h => h) hHeld (fun w1 hw1 => ?_) ?_
  rotate_left 1
  · skip
    go_simp
    try first | with_reducible rfl | apply And.intro <;> rfl
  simp only [xPa, xPb, xPc, xPd, xPe]
  refine run_at (i := 7) (v := ?_) rfl (by kernel_rfl) (by rfl) (fun _ _ _ h => h) hHeld (fun w1 hw1 => ?_) ?_
  rotate_left 1
  · skip
    have hcw0 := hw1.cell (HCt.out) (by simp)
    go_simp
    try first | with_reducible rfl | apply And.intro <;> rfl
  simp only [xPa, xPb, xPc, xPd, xPe]
  refine call_at (i := 2) (f := ?_) (args := ?_) rfl (by kernel_rfl) (by rfl) ?_ ?_
  rotate_left 2
  · go_simp
    try first | with_reducible rfl | apply And.intro <;> rfl
  refine (refint_any (3) HKK.out.2 wd).mono ?_
  rintro e w2 ⟨A2x, c2x, rfl, hN⟩
  obtain ⟨n2x, hn2⟩ : ∃ nn_, nn_ = (encI (3)).length := ⟨_, rfl⟩
  obtain ⟨l2x, hl2⟩ : ∃ ll_, ll_ = encI (3) := ⟨_, rfl⟩
  rw [← hn2] at hN ⊢
  rw [← hl2] at hN
  have HB2x : Hid (n2x ≤ 20000) := Lib.hid (by rw [hn2]; have := encI_len (3) HKK.out.2; omega)
  have HL2 := Lib.hid hl2
  refine ⟨_, rfl, hHeld.go hN.2.1 (by simp), fun hHeld => ?_⟩
  simp only [xPa, xPb, xPc, xPd, xPe]
  have HY2x := Lib.hid hN.by
  have HFD := Lib.hid (HFD.out.and hN.2.1 (by simp))
  clear hN hn2 hl2
  refine call_at (i := 5) (f := ?_) (args := ?_) rfl (by kernel_rfl) (by rfl) ?_ ?_
  rotate_left 2
  · go_simp
    try first | with_reducible rfl | apply And.intro <;> rfl
  refine (refint_any (x.f) HX.out.f.2 w2).mono ?_
  rintro e w5 ⟨A5x, c5x, rfl, hN⟩
  obtain ⟨n5x, hn5⟩ : ∃ nn_, nn_ = (encI (x.f)).length := ⟨_, rfl⟩
  obtain ⟨l5x, hl5⟩ : ∃ ll_, ll_ = encI (x.f) := ⟨_, rfl⟩
  rw [← hn5] at hN ⊢
  rw [← hl5] at hN
  have HB5x : Hid (n5x ≤ 20000) := Lib.hid (by rw [hn5]; have := encI_len (x.f) HX.out.f.2; omega)
  have HL5 := Lib.hid hl5
  refine ⟨_, rfl, hHeld.go hN.2.1 (by simp), fun hHeld => ?_⟩
  simp only [xPa, xPb, xPc, xPd, xPe]
  have HY5x := Lib.hid hN.by
  have HFD := Lib.hid (HFD.out.and hN.2.1 (by simp))
  have HY2x := Lib.hid (Fr.byk hN.2.1 HY2x.out)
  clear hN hn5 hl5
  refine call_at (i := 8) (f := ?_) (args := ?_) rfl (by kernel_rfl) (by rfl) ?_ ?_
  rotate_left 2
  · go_simp
    try first | with_reducible rfl | apply And.intro <;> rfl
  refine (refint_any (x.t) HX.out.t.2 w5).mono ?_
  rintro e w8 ⟨A8x, c8x, rfl, hN⟩
  obtain ⟨n8x, hn8⟩ : ∃ nn_, nn_ = (encI (x.t)).length := ⟨_, rfl⟩
  obtain ⟨l8x, hl8⟩ : ∃ ll_, ll_ = encI (x.t) := ⟨_, rfl⟩
  rw [← hn8] at hN ⊢
  rw [← hl8] at hN
  have HB8x : Hid (n8x ≤ 20000) := Lib.hid (by rw [hn8]; have := encI_len (x.t) HX.out.t.2; omega)
  have HL8 := Lib.hid hl8
  refine ⟨_, rfl, hHeld.go hN.2.1 (by simp), fun hHeld => ?_⟩
  simp only [xPa, xPb, xPc, xPd, xPe]
  have HY8x := Lib.hid hN.by
  have HFD := Lib.hid (HFD.out.and hN.2.1 (by simp))
  have HY2x := Lib.hid (Fr.byk hN.2.1 HY2x.out)
  have HY5x := Lib.hid (Fr.byk hN.2.1 HY5x.out)
  clear hN hn8 hl8
  refine step_at (i := 9) rfl (by kernel_rfl) (by rfl) (fun K hK => ?_)
  refine wp_run (v := ?_) (w' := ?_) ?_ ?_
  rotate_left 2
  · go_simp
    try first | with_reducible rfl | apply And.intro <;> rfl
  refine hK.out _ (w8.alloc (Obj.cells #[.slice A2x n2x c2x, .slice A5x n5x c5x, .slice A8x n8x c8x] 52)) (hHeld.alloc _) (fun hHeld => ?_)
  clear hK K
  simp only [xPa, xPb, xPc, xPd, xPe]
  have hfb : Fr [] w8 (w8.alloc (Obj.cells #[.slice A2x n2x c2x, .slice A5x n5x c5x, .slice A8x n8x c8x] 52)) := (Fr.refl [] w8).alloc _
  have hbb : Blk (w8.alloc (Obj.cells #[.slice A2x n2x c2x, .slice A5x n5x c5x, .slice A8x n8x c8x] 52)) w8.heap.size 52 (([⟨A2x, n2x, c2x, l2x⟩, ⟨A5x, n5x, c5x, l5x⟩, ⟨A8x, n8x, c8x, l8x⟩] : List RowV).map RowV.val).toArray := Blk.new _ _ _
  generalize w8.alloc (Obj.cells #[.slice A2x n2x c2x, .slice A5x n5x c5x, .slice A8x n8x c8x] 52) = wj at *
  have HFD := Lib.hid (HFD.out.and hfb (by simp))
  have hj := join_big w8.heap.size 3 [⟨A2x, n2x, c2x, l2x⟩, ⟨A5x, n5x, c5x, l5x⟩, ⟨A8x, n8x, c8x, l8x⟩] wj hbb rfl (by omega) (by
   intro r hr
   simp only [List.mem_cons, List.not_mem_nil, or_false] at hr
   rcases hr with rfl | rfl | rfl
   · exact ⟨Fr.byk hfb HY2x.out, HB2x.out⟩
   · exact ⟨Fr.byk hfb HY5x.out, HB5x.out⟩
   · exact ⟨Fr.byk hfb HY8x.out, HB8x.out⟩)
  have hJ : joinL [⟨A2x, n2x, c2x, l2x⟩, ⟨A5x, n5x, c5x, l5x⟩, ⟨A8x, n8x, c8x, l8x⟩] = encI 3 ++ encI x.f ++ encI x.t := by
   simp only [joinL, List.map_cons, List.map_nil, List.flatten_cons, List.flatten_nil, HL2.out, HL5.out, HL8.out]
   simp [List.append_assoc]
  rw [hJ] at hj
  obtain ⟨X, hX⟩ : ∃ X, X = encI 3 ++ encI x.f ++ encI x.t := ⟨_, rfl⟩
  rw [← hX] at hj
  have HXT := Lib.hid hX
  clear hX
  have HJ := Lib.hid hj
  clear hfb hbb hj hJ HY2x HL2 HY5x HL5 HY8x HL8
  refine call_at (i := 10) (f := ?_) (args := ?_) rfl (by kernel_rfl) (by rfl) ?_ ?_
  rotate_left 2
  · go_simp
    try first | with_reducible rfl | apply And.intro <;> rfl
  refine HJ.out.mono ?_
  rintro e wk ⟨Aj, cj, rfl, hN⟩
  have HN := Lib.hid (hN.from2 HFD.out)
  refine ⟨_, rfl, hHeld.go hN.2.1 (by simp), fun hHeld => ?_⟩
  clear hN
  simp only [xPa, xPb, xPc, xPd, xPe]
  refine run_at (i := 11) (v := ?_) rfl (by kernel_rfl) (by rfl) (fun _ _ _ h => h) hHeld (fun w1 hw1 => ?_) ?_
  rotate_left 1
  · skip
    go_simp
    try first | with_reducible rfl | apply And.intro <;> rfl
  simp only [xPa, xPb, xPc, xPd, xPe]
  refine wpAnyH_done (by kernel_rfl) ?_ _
  go_wp2_with fail
  go_meet
  rw [← HXT.out]
  exact ⟨Aj, cj, rfl, HN.out⟩
 case rest =>
  obtain ⟨A0, c0, rfl, hn⟩ := hcut
  obtain ⟨n0, hn0⟩ : ∃ n0, n0 = (encI 3 ++ encI x.f ++ encI x.t).length := ⟨_, rfl⟩
  obtain ⟨l0, hl0⟩ : ∃ l0, l0 = encI 3 ++ encI x.f ++ encI x.t := ⟨_, rfl⟩
  rw [← hn0] at hn ⊢
  rw [← hl0] at hn
  have HN0 := Lib.hid hn
  have HB0l : Hid (n0 ≤ 20000) := Lib.hid (by rw [hn0]; have h1 := encI_len 3 HKK.out.2; have h2 := encI_len x.f HX.out.f.2; have h3 := encI_len x.t HX.out.t.2; simp only [List.length_append]; omega)
  have HL0 := Lib.hid hl0
  have HFC : Hid (Fr [] wa wc) := Lib.hid hn.2.1
  have hcq : wc.cell? ⟨w.heap.size, 0, none⟩ = some (.int .i64 3) := hn.2.1.cell hcq (by simp)
  have HY0 : Hid (By wc A0 n0 l0) := Lib.hid hn.by
  clear hn hn0 hl0 HCq HCf HCt
  obtain ⟨V, hV⟩ : ∃ V, V = x.ce.cells := ⟨_, rfl⟩
  have HVL : Hid (V.length = 38) := Lib.hid (by rw [hV]; exact Wce.len HX.out.ce.k.h)
  have HVR : Hid (wc.rangeAt w.heap.size 78 V) := Lib.hid (by rw [hV]; exact HFC.out.range HAT.out.ce (by simp))
  have HV := Lib.hid hV
  clear hV
  go_wp2_with (refine wpList_load_mid rfl 35 _ rfl w.heap.size 78 rfl V _ HVR.out Tryz.underlying35 rfl (row_crt.of HVL.out).2 ?_)
  refine (refputCert_any x.ce wc (HX.out.ce.keep (HF0.out.and HFC.out (by simp)) (by simp)) V HV.out.symm).mono ?_
  rintro e w1 ⟨A1, c1, rfl, hN⟩
  obtain ⟨n1, hn1⟩ : ∃ nn_, nn_ = (x.ce.full).length := ⟨_, rfl⟩
  obtain ⟨l1, hl1⟩ : ∃ ll_, ll_ = x.ce.full := ⟨_, rfl⟩
  rw [← hn1] at hN ⊢
  rw [← hl1] at hN
  have HB1x : Hid (n1 ≤ 20000) := Lib.hid (by rw [hn1]; have := Wce.full_len HX.out.ce; omega)
  have HL1 := Lib.hid hl1
  have HN1 := Lib.hid hN
  have HY0 := Lib.hid (Fr.byk hN.2.1 HY0.out)
  clear hN hn1 hl1
  go_wp2_with fail
  have hfb : Fr [] w1 (w1.alloc (Obj.cells #[.slice A0 n0 c0, .slice A1 n1 c1] 52)) := (Fr.refl [] w1).alloc _
  have hbb : Blk (w1.alloc (Obj.cells #[.slice A0 n0 c0, .slice A1 n1 c1] 52)) w1.heap.size 52 (([⟨A0, n0, c0, l0⟩, ⟨A1, n1, c1, l1⟩] : List RowV).map RowV.val).toArray := Blk.new _ _ _
  have hj := join_big w1.heap.size 2 [⟨A0, n0, c0, l0⟩, ⟨A1, n1, c1, l1⟩] _ hbb rfl (by omega) (RowV.two ⟨Fr.byk hfb HY0.out, HB0l.out⟩ ⟨Fr.byk hfb HN1.out.by, HB1x.out⟩)
  have hJ : joinL [⟨A0, n0, c0, l0⟩, ⟨A1, n1, c1, l1⟩] = l0 ++ x.ce.full := by
   simp only [joinL, List.map_cons, List.map_nil, List.flatten_cons, List.flatten_nil, HL1.out]
   simp
  rw [hJ] at hj
  obtain ⟨X, hX⟩ : ∃ X, X = l0 ++ x.ce.full := ⟨_, rfl⟩
  rw [← hX] at hj
  have HXT := Lib.hid hX
  have HFB := Lib.hid hfb
  clear hX hbb hJ hfb
  refine hj.mono ?_
  rintro e wk ⟨Aj, cj, rfl, hN⟩
  have HN := Lib.hid (hN.from2 (HN1.out.2.1.and HFB.out (by simp)))
  clear hN hj
  have HBX : Hid (X = x.bytes) := Lib.hid (by rw [HXT.out, HL0.out]; unfold Wmg.bytes; rw [Wmg.body_3 HQ.out, HQ.out])
  have hxl : X.length ≤ 15030 := by rw [HBX.out]; exact Wmg.bytes_len HX.out
  have hd : decide ((65536 : Int) < (X.length : Int)) = false := by simp; omega
  go_wp2_with fail
  go_ret2
  unfold PackPost
  rw [if_pos (by rw [HQ.out]; decide), ← HBX.out]
  exact ⟨Aj, cj, rfl, HN.out.from2 (HF0.out.and HFC.out (by simp))⟩
set_option maxHeartbeats 4000000 in
theorem refpack_6 (x : Wmg) (hq : x.q = 6) (w : World) (hx : x.Ok w []) (C : List Value) (hC : x.cells = C) :
  Calls Tryz.prog 5 #[.agg C.toArray] w (PackPost w x) := by
 obtain ⟨wa, hwa⟩ : ∃ wa, wa = w.alloc (Obj.cells C.toArray 61) := ⟨_, rfl⟩
 have hf0 : Fr [] w wa := by rw [hwa]; exact (Fr.refl [] w).alloc _
 have hb0 : Blk wa w.heap.size 61 x.cells.toArray := by rw [hwa, hC]; exact Blk.new _ _ _
 have hat : x.At wa w.heap.size := Wmg.at_of hb0.range hx
 have HCq : Hid (wa.cell? ⟨w.heap.size, 0 + 0, none⟩ = some (.int .i64 6)) := Lib.hid (by have h := hat.q 0 _ rfl; rw [hq] at h; simpa using h)
 have HCf : Hid (wa.cell? ⟨w.heap.size, 0 + 1, none⟩ = some (.int .i64 x.f)) := Lib.hid (by have h := hat.f 0 _ rfl; simpa using h)
 have HCt : Hid (wa.cell? ⟨w.heap.size, 0 + 2, none⟩ = some (.int .i64 x.t)) := Lib.hid (by have h := hat.t 0 _ rfl; simpa using h)
 have hcq : wa.cell? ⟨w.heap.size, 0, none⟩ = some (.int .i64 6) := by have h := hat.q 0 _ rfl; rw [hq] at h; simpa using h
 have HX := Lib.hid hx
 have HAT := Lib.hid hat
 have HF0 := Lib.hid hf0
 have HWA := Lib.hid hwa
 have HQ := Lib.hid hq
 have HKK : Hid (i64In 6) := Lib.hid (by unfold i64In; omega)
 have HSZ : Hid (w.heap.size < wa.heap.size) := Lib.hid hb0.lt
 clear hx hC hwa hf0 hb0 hat hq
 go_enter Tryz.func5, Tryz.ntmps5
 go_upto_region 1 with (fail)
 change Code.wp _ _ _ _ (w.alloc (Obj.cells C.toArray 61))
 rw [← HWA.out]
 go_upto_region 3 with (fail)
 go_cut [4] (fun s4 wx => ∃ A c, s4 = .slice A (encI 6 ++ encI x.f ++ encI x.t).length c ∧ NewB wa wx A (encI 6 ++ encI x.f ++ encI x.t).length c (encI 6 ++ encI x.f ++ encI x.t))
 case first =>
  refine wp_region_held_drew (S := Fr [] wa) (by kernel_rfl) (Fr.drew (Fr.refl _ wa)) (fun hHeld => ?_)
  have HFD : Hid (Fr [] wa wa.drew) := Lib.hid (Fr.drew (Fr.refl [] wa))
  generalize wa.drew = wd at *
  refine run_at (i := 0) (v := ?_) rfl (by kernel_rfl) (by rfl) (fun _ _ _ h => h) hHeld (fun w1 hw1 => ?_) ?_
  rotate_left 1
  · skip
    go_simp
    try first | with_reducible rfl | apply And.intro <;> rfl
  simp only [xPa, xPb, xPc, xPd, xPe]
  refine run_at (i := 1) (v := ?_) rfl (by kernel_rfl) (by rfl) (fun _ _ _ h => h) hHeld (fun w1 hw1 => ?_) ?_
  rotate_left 1
  · skip
    have hcw0 := hw1.cell (HCq.out) (by simp)
    go_simp
    try first | with_reducible rfl | apply And.intro <;> rfl
  simp only [xPa, xPb, xPc, xPd, xPe]
  refine run_at (i := 3) (v := ?_) rfl (by kernel_rfl) (by rfl) (fun _ _ _ h => h) hHeld (fun w1 hw1 => ?_) ?_
  rotate_left 1
  · skip
    go_simp
    try first | with_reducible rfl | apply And.intro <;> rfl
  simp only [xPa, xPb, xPc, xPd, xPe]
  refine run_at (i := 4) (v := ?_) rfl (by kernel_rfl) (by rfl) (fun _ _ _ h => h) hHeld (fun w1 hw1 => ?_) ?_
  rotate_left 1
  · skip
    have hcw0 := hw1.cell (HCf.out) (by simp)
    go_simp
    try first | with_reducible rfl | apply And.intro <;> rfl
  simp only [xPa, xPb, xPc, xPd, xPe]
  refine run_at (i := 6) (v := ?_) rfl (by kernel_rfl) (by rfl) (fun _ _ _ h => h) hHeld (fun w1 hw1 => ?_) ?_
  rotate_left 1
  · skip
    go_simp
    try first | with_reducible rfl | apply And.intro <;> rfl
  simp only [xPa, xPb, xPc, xPd, xPe]
  refine run_at (i := 7) (v := ?_) rfl (by kernel_rfl) (by rfl) (fun _ _ _ h => h) hHeld (fun w1 hw1 => ?_) ?_
  rotate_left 1
  · skip
    have hcw0 := hw1.cell (HCt.out) (by simp)
    go_simp
    try first | with_reducible rfl | apply And.intro <;> rfl
  simp only [xPa, xPb, xPc, xPd, xPe]
  refine call_at (i := 2) (f := ?_) (args := ?_) rfl (by kernel_rfl) (by rfl) ?_ ?_
  rotate_left 2
  · go_simp
    try first | with_reducible rfl | apply And.intro <;> rfl
  refine (refint_any (6) HKK.out.2 wd).mono ?_
  rintro e w2 ⟨A2x, c2x, rfl, hN⟩
  obtain ⟨n2x, hn2⟩ : ∃ nn_, nn_ = (encI (6)).length := ⟨_, rfl⟩
  obtain ⟨l2x, hl2⟩ : ∃ ll_, ll_ = encI (6) := ⟨_, rfl⟩
  rw [← hn2] at hN ⊢
  rw [← hl2] at hN
  have HB2x : Hid (n2x ≤ 20000) := Lib.hid (by rw [hn2]; have := encI_len (6) HKK.out.2; omega)
  have HL2 := Lib.hid hl2
  refine ⟨_, rfl, hHeld.go hN.2.1 (by simp), fun hHeld => ?_⟩
  simp only [xPa, xPb, xPc, xPd, xPe]
  have HY2x := Lib.hid hN.by
  have HFD := Lib.hid (HFD.out.and hN.2.1 (by simp))
  clear hN hn2 hl2
  refine call_at (i := 5) (f := ?_) (args := ?_) rfl (by kernel_rfl) (by rfl) ?_ ?_
  rotate_left 2
  · go_simp
    try first | with_reducible rfl | apply And.intro <;> rfl
  refine (refint_any (x.f) HX.out.f.2 w2).mono ?_
  rintro e w5 ⟨A5x, c5x, rfl, hN⟩
  obtain ⟨n5x, hn5⟩ : ∃ nn_, nn_ = (encI (x.f)).length := ⟨_, rfl⟩
  obtain ⟨l5x, hl5⟩ : ∃ ll_, ll_ = encI (x.f) := ⟨_, rfl⟩
  rw [← hn5] at hN ⊢
  rw [← hl5] at hN
  have HB5x : Hid (n5x ≤ 20000) := Lib.hid (by rw [hn5]; have := encI_len (x.f) HX.out.f.2; omega)
  have HL5 := Lib.hid hl5
  refine ⟨_, rfl, hHeld.go hN.2.1 (by simp), fun hHeld => ?_⟩
  simp only [xPa, xPb, xPc, xPd, xPe]
  have HY5x := Lib.hid hN.by
  have HFD := Lib.hid (HFD.out.and hN.2.1 (by simp))
  have HY2x := Lib.hid (Fr.byk hN.2.1 HY2x.out)
  clear hN hn5 hl5
  refine call_at (i := 8) (f := ?_) (args := ?_) rfl (by kernel_rfl) (by rfl) ?_ ?_
  rotate_left 2
  · go_simp
    try first | with_reducible rfl | apply And.intro <;> rfl
  refine (refint_any (x.t) HX.out.t.2 w5).mono ?_
  rintro e w8 ⟨A8x, c8x, rfl, hN⟩
  obtain ⟨n8x, hn8⟩ : ∃ nn_, nn_ = (encI (x.t)).length := ⟨_, rfl⟩
  obtain ⟨l8x, hl8⟩ : ∃ ll_, ll_ = encI (x.t) := ⟨_, rfl⟩
  rw [← hn8] at hN ⊢
  rw [← hl8] at hN
  have HB8x : Hid (n8x ≤ 20000) := Lib.hid (by rw [hn8]; have := encI_len (x.t) HX.out.t.2; omega)
  have HL8 := Lib.hid hl8
  refine ⟨_, rfl, hHeld.go hN.2.1 (by simp), fun hHeld => ?_⟩
  simp only [xPa, xPb, xPc, xPd, xPe]
  have HY8x := Lib.hid hN.by
  have HFD := Lib.hid (HFD.out.and hN.2.1 (by simp))
  have HY2x := Lib.hid (Fr.byk hN.2.1 HY2x.out)
  have HY5x := Lib.hid (Fr.byk hN.2.1 HY5x.out)
  clear hN hn8 hl8
  refine step_at (i := 9) rfl (by kernel_rfl) (by rfl) (fun K hK => ?_)
  refine wp_run (v := ?_) (w' := ?_) ?_ ?_
  rotate_left 2
  · go_simp
    try first | with_reducible rfl | apply And.intro <;> rfl
  refine hK.out _ (w8.alloc (Obj.cells #[.slice A2x n2x c2x, .slice A5x n5x c5x, .slice A8x n8x c8x] 52)) (hHeld.alloc _) (fun hHeld => ?_)
  clear hK K
  simp only [xPa, xPb, xPc, xPd, xPe]
  have hfb : Fr [] w8 (w8.alloc (Obj.cells #[.slice A2x n2x c2x, .slice A5x n5x c5x, .slice A8x n8x c8x] 52)) := (Fr.refl [] w8).alloc _
  have hbb : Blk (w8.alloc (Obj.cells #[.slice A2x n2x c2x, .slice A5x n5x c5x, .slice A8x n8x c8x] 52)) w8.heap.size 52 (([⟨A2x, n2x, c2x, l2x⟩, ⟨A5x, n5x, c5x, l5x⟩, ⟨A8x, n8x, c8x, l8x⟩] : List RowV).map RowV.val).toArray := Blk.new _ _ _
  generalize w8.alloc (Obj.cells #[.slice A2x n2x c2x, .slice A5x n5x c5x, .slice A8x n8x c8x] 52) = wj at *
  have HFD := Lib.hid (HFD.out.and hfb (by simp))
  have hj := join_big w8.heap.size 3 [⟨A2x, n2x, c2x, l2x⟩, ⟨A5x, n5x, c5x, l5x⟩, ⟨A8x, n8x, c8x, l8x⟩] wj hbb rfl (by omega) (by
   intro r hr
   simp only [List.mem_cons, List.not_mem_nil, or_false] at hr
   rcases hr with rfl | rfl | rfl
   · exact ⟨Fr.byk hfb HY2x.out, HB2x.out⟩
   · exact ⟨Fr.byk hfb HY5x.out, HB5x.out⟩
   · exact ⟨Fr.byk hfb HY8x.out, HB8x.out⟩)
  have hJ : joinL [⟨A2x, n2x, c2x, l2x⟩, ⟨A5x, n5x, c5x, l5x⟩, ⟨A8x, n8x, c8x, l8x⟩] = encI 6 ++ encI x.f ++ encI x.t := by
   simp only [joinL, List.map_cons, List.map_nil, List.flatten_cons, List.flatten_nil, HL2.out, HL5.out, HL8.out]
   simp [List.append_assoc]
  rw [hJ] at hj
  obtain ⟨X, hX⟩ : ∃ X, X = encI 6 ++ encI x.f ++ encI x.t := ⟨_, rfl⟩
  rw [← hX] at hj
  have HXT := Lib.hid hX
  clear hX
  have HJ := Lib.hid hj
  clear hfb hbb hj hJ HY2x HL2 HY5x HL5 HY8x HL8
  refine call_at (i := 10) (f := ?_) (args := ?_) rfl (by kernel_rfl) (by rfl) ?_ ?_
  rotate_left 2
  · go_simp
    try first | with_reducible rfl | apply And.intro <;> rfl
  refine HJ.out.mono ?_
  rintro e wk ⟨Aj, cj, rfl, hN⟩
  have HN := Lib.hid (hN.from2 HFD.out)
  refine ⟨_, rfl, hHeld.go hN.2.1 (by simp), fun hHeld => ?_⟩
  clear hN
  simp only [xPa, xPb, xPc, xPd, xPe]
  refine run_at (i := 11) (v := ?_) rfl (by kernel_rfl) (by rfl) (fun _ _ _ h => h) hHeld (fun w1 hw1 => ?_) ?_
  rotate_left 1
  · skip
    go_simp
    try first | with_reducible rfl | apply And.intro <;> rfl
  simp only [xPa, xPb, xPc, xPd, xPe]
  refine wpAnyH_done (by kernel_rfl) ?_ _
  go_wp2_with fail
  go_meet
  rw [← HXT.out]
  exact ⟨Aj, cj, rfl, HN.out⟩
 case rest =>
  obtain ⟨A0, c0, rfl, hn⟩ := hcut
  obtain ⟨n0, hn0⟩ : ∃ n0, n0 = (encI 6 ++ encI x.f ++ encI x.t).length := ⟨_, rfl⟩
  obtain ⟨l0, hl0⟩ : ∃ l0, l0 = encI 6 ++ encI x.f ++ encI x.t := ⟨_, rfl⟩
  rw [← hn0] at hn ⊢
  rw [← hl0] at hn
  have HN0 := Lib.hid hn
  have HB0l : Hid (n0 ≤ 20000) := Lib.hid (by rw [hn0]; have h1 := encI_len 6 HKK.out.2; have h2 := encI_len x.f HX.out.f.2; have h3 := encI_len x.t HX.out.t.2; simp only [List.length_append]; omega)
  have HL0 := Lib.hid hl0
  have HFC : Hid (Fr [] wa wc) := Lib.hid hn.2.1
  have hcq : wc.cell? ⟨w.heap.size, 0, none⟩ = some (.int .i64 6) := hn.2.1.cell hcq (by simp)
  have HY0 : Hid (By wc A0 n0 l0) := Lib.hid hn.by
  clear hn hn0 hl0 HCq HCf HCt
  obtain ⟨V, hV⟩ : ∃ V, V = x.pr.cells := ⟨_, rfl⟩
  have HVL : Hid (V.length = 6) := Lib.hid (by rw [hV]; exact Wpr.len _)
  have HVR : Hid (wc.rangeAt w.heap.size 157 V) := Lib.hid (by rw [hV]; exact HFC.out.range HAT.out.pr (by simp))
  have HV := Lib.hid hV
  clear hV
  go_wp2_with (refine wpList_load_mid rfl 40 _ rfl w.heap.size 157 rfl V _ HVR.out Tryz.underlying40 rfl (row_prm.of HVL.out).2 ?_)
  refine (refputPromise_any x.pr wc (HX.out.pr.keep (HF0.out.and HFC.out (by simp)) (by simp)) V HV.out.symm).mono ?_
  rintro e w1 ⟨A1, c1, rfl, hN⟩
  obtain ⟨n1, hn1⟩ : ∃ nn_, nn_ = (x.pr.full).length := ⟨_, rfl⟩
  obtain ⟨l1, hl1⟩ : ∃ ll_, ll_ = x.pr.full := ⟨_, rfl⟩
  rw [← hn1] at hN ⊢
  rw [← hl1] at hN
  have HB1x : Hid (n1 ≤ 20000) := Lib.hid (by rw [hn1]; have := Wpr.full_len HX.out.pr; omega)
  have HL1 := Lib.hid hl1
  have HN1 := Lib.hid hN
  have HY0 := Lib.hid (Fr.byk hN.2.1 HY0.out)
  clear hN hn1 hl1
  go_wp2_with fail
  have hfb : Fr [] w1 (w1.alloc (Obj.cells #[.slice A0 n0 c0, .slice A1 n1 c1] 52)) := (Fr.refl [] w1).alloc _
  have hbb : Blk (w1.alloc (Obj.cells #[.slice A0 n0 c0, .slice A1 n1 c1] 52)) w1.heap.size 52 (([⟨A0, n0, c0, l0⟩, ⟨A1, n1, c1, l1⟩] : List RowV).map RowV.val).toArray := Blk.new _ _ _
  have hj := join_big w1.heap.size 2 [⟨A0, n0, c0, l0⟩, ⟨A1, n1, c1, l1⟩] _ hbb rfl (by omega) (RowV.two ⟨Fr.byk hfb HY0.out, HB0l.out⟩ ⟨Fr.byk hfb HN1.out.by, HB1x.out⟩)
  have hJ : joinL [⟨A0, n0, c0, l0⟩, ⟨A1, n1, c1, l1⟩] = l0 ++ x.pr.full := by
   simp only [joinL, List.map_cons, List.map_nil, List.flatten_cons, List.flatten_nil, HL1.out]
   simp
  rw [hJ] at hj
  obtain ⟨X, hX⟩ : ∃ X, X = l0 ++ x.pr.full := ⟨_, rfl⟩
  rw [← hX] at hj
  have HXT := Lib.hid hX
  have HFB := Lib.hid hfb
  clear hX hbb hJ hfb
  refine hj.mono ?_
  rintro e wk ⟨Aj, cj, rfl, hN⟩
  have HN := Lib.hid (hN.from2 (HN1.out.2.1.and HFB.out (by simp)))
  clear hN hj
  have HBX : Hid (X = x.bytes) := Lib.hid (by rw [HXT.out, HL0.out]; unfold Wmg.bytes; rw [Wmg.body_6 HQ.out, HQ.out])
  have hxl : X.length ≤ 15030 := by rw [HBX.out]; exact Wmg.bytes_len HX.out
  have hd : decide ((65536 : Int) < (X.length : Int)) = false := by simp; omega
  go_wp2_with fail
  go_ret2
  unfold PackPost
  rw [if_pos (by rw [HQ.out]; decide), ← HBX.out]
  exact ⟨Aj, cj, rfl, HN.out.from2 (HF0.out.and HFC.out (by simp))⟩
set_option maxHeartbeats 4000000 in
theorem refpack_10 (x : Wmg) (hq : x.q = 10) (w : World) (hx : x.Ok w []) (C : List Value) (hC : x.cells = C) :
  Calls Tryz.prog 5 #[.agg C.toArray] w (PackPost w x) := by
 obtain ⟨wa, hwa⟩ : ∃ wa, wa = w.alloc (Obj.cells C.toArray 61) := ⟨_, rfl⟩
 have hf0 : Fr [] w wa := by rw [hwa]; exact (Fr.refl [] w).alloc _
 have hb0 : Blk wa w.heap.size 61 x.cells.toArray := by rw [hwa, hC]; exact Blk.new _ _ _
 have hat : x.At wa w.heap.size := Wmg.at_of hb0.range hx
 have HCq : Hid (wa.cell? ⟨w.heap.size, 0 + 0, none⟩ = some (.int .i64 10)) := Lib.hid (by have h := hat.q 0 _ rfl; rw [hq] at h; simpa using h)
 have HCf : Hid (wa.cell? ⟨w.heap.size, 0 + 1, none⟩ = some (.int .i64 x.f)) := Lib.hid (by have h := hat.f 0 _ rfl; simpa using h)
 have HCt : Hid (wa.cell? ⟨w.heap.size, 0 + 2, none⟩ = some (.int .i64 x.t)) := Lib.hid (by have h := hat.t 0 _ rfl; simpa using h)
 have hcq : wa.cell? ⟨w.heap.size, 0, none⟩ = some (.int .i64 10) := by have h := hat.q 0 _ rfl; rw [hq] at h; simpa using h
 have HX := Lib.hid hx
 have HAT := Lib.hid hat
 have HF0 := Lib.hid hf0
 have HWA := Lib.hid hwa
 have HQ := Lib.hid hq
 have HKK : Hid (i64In 10) := Lib.hid (by unfold i64In; omega)
 have HSZ : Hid (w.heap.size < wa.heap.size) := Lib.hid hb0.lt
 clear hx hC hwa hf0 hb0 hat hq
 go_enter Tryz.func5, Tryz.ntmps5
 go_upto_region 1 with (fail)
 change Code.wp _ _ _ _ (w.alloc (Obj.cells C.toArray 61))
 rw [← HWA.out]
 go_upto_region 3 with (fail)
 go_cut [4] (fun s4 wx => ∃ A c, s4 = .slice A (encI 10 ++ encI x.f ++ encI x.t).length c ∧ NewB wa wx A (encI 10 ++ encI x.f ++ encI x.t).length c (encI 10 ++ encI x.f ++ encI x.t))
 case first =>
  refine wp_region_held_drew (S := Fr [] wa) (by kernel_rfl) (Fr.drew (Fr.refl _ wa)) (fun hHeld => ?_)
  have HFD : Hid (Fr [] wa wa.drew) := Lib.hid (Fr.drew (Fr.refl [] wa))
  generalize wa.drew = wd at *
  refine run_at (i := 0) (v := ?_) rfl (by kernel_rfl) (by rfl) (fun _ _ _ h => h) hHeld (fun w1 hw1 => ?_) ?_
  rotate_left 1
  · skip
    go_simp
    try first | with_reducible rfl | apply And.intro <;> rfl
  simp only [xPa, xPb, xPc, xPd, xPe]
  refine run_at (i := 1) (v := ?_) rfl (by kernel_rfl) (by rfl) (fun _ _ _ h => h) hHeld (fun w1 hw1 => ?_) ?_
  rotate_left 1
  · skip
    have hcw0 := hw1.cell (HCq.out) (by simp)
    go_simp
    try first | with_reducible rfl | apply And.intro <;> rfl
  simp only [xPa, xPb, xPc, xPd, xPe]
  refine run_at (i := 3) (v := ?_) rfl (by kernel_rfl) (by rfl) (fun _ _ _ h => h) hHeld (fun w1 hw1 => ?_) ?_
  rotate_left 1
  · skip
    go_simp
    try first | with_reducible rfl | apply And.intro <;> rfl
  simp only [xPa, xPb, xPc, xPd, xPe]
  refine run_at (i := 4) (v := ?_) rfl (by kernel_rfl) (by rfl) (fun _ _ _ h => h) hHeld (fun w1 hw1 => ?_) ?_
  rotate_left 1
  · skip
    have hcw0 := hw1.cell (HCf.out) (by simp)
    go_simp
    try first | with_reducible rfl | apply And.intro <;> rfl
  simp only [xPa, xPb, xPc, xPd, xPe]
  refine run_at (i := 6) (v := ?_) rfl (by kernel_rfl) (by rfl) (fun _ _ _ h => h) hHeld (fun w1 hw1 => ?_) ?_
  rotate_left 1
  · skip
    go_simp
    try first | with_reducible rfl | apply And.intro <;> rfl
  simp only [xPa, xPb, xPc, xPd, xPe]
  refine run_at (i := 7) (v := ?_) rfl (by kernel_rfl) (by rfl) (fun _ _ _ h => h) hHeld (fun w1 hw1 => ?_) ?_
  rotate_left 1
  · skip
    have hcw0 := hw1.cell (HCt.out) (by simp)
    go_simp
    try first | with_reducible rfl | apply And.intro <;> rfl
  simp only [xPa, xPb, xPc, xPd, xPe]
  refine call_at (i := 2) (f := ?_) (args := ?_) rfl (by kernel_rfl) (by rfl) ?_ ?_
  rotate_left 2
  · go_simp
    try first | with_reducible rfl | apply And.intro <;> rfl
  refine (refint_any (10) HKK.out.2 wd).mono ?_
  rintro e w2 ⟨A2x, c2x, rfl, hN⟩
  obtain ⟨n2x, hn2⟩ : ∃ nn_, nn_ = (encI (10)).length := ⟨_, rfl⟩
  obtain ⟨l2x, hl2⟩ : ∃ ll_, ll_ = encI (10) := ⟨_, rfl⟩
  rw [← hn2] at hN ⊢
  rw [← hl2] at hN
  have HB2x : Hid (n2x ≤ 20000) := Lib.hid (by rw [hn2]; have := encI_len (10) HKK.out.2; omega)
  have HL2 := Lib.hid hl2
  refine ⟨_, rfl, hHeld.go hN.2.1 (by simp), fun hHeld => ?_⟩
  simp only [xPa, xPb, xPc, xPd, xPe]
  have HY2x := Lib.hid hN.by
  have HFD := Lib.hid (HFD.out.and hN.2.1 (by simp))
  clear hN hn2 hl2
  refine call_at (i := 5) (f := ?_) (args := ?_) rfl (by kernel_rfl) (by rfl) ?_ ?_
  rotate_left 2
  · go_simp
    try first | with_reducible rfl | apply And.intro <;> rfl
  refine (refint_any (x.f) HX.out.f.2 w2).mono ?_
  rintro e w5 ⟨A5x, c5x, rfl, hN⟩
  obtain ⟨n5x, hn5⟩ : ∃ nn_, nn_ = (encI (x.f)).length := ⟨_, rfl⟩
  obtain ⟨l5x, hl5⟩ : ∃ ll_, ll_ = encI (x.f) := ⟨_, rfl⟩
  rw [← hn5] at hN ⊢
  rw [← hl5] at hN
  have HB5x : Hid (n5x ≤ 20000) := Lib.hid (by rw [hn5]; have := encI_len (x.f) HX.out.f.2; omega)
  have HL5 := Lib.hid hl5
  refine ⟨_, rfl, hHeld.go hN.2.1 (by simp), fun hHeld => ?_⟩
  simp only [xPa, xPb, xPc, xPd, xPe]
  have HY5x := Lib.hid hN.by
  have HFD := Lib.hid (HFD.out.and hN.2.1 (by simp))
  have HY2x := Lib.hid (Fr.byk hN.2.1 HY2x.out)
  clear hN hn5 hl5
  refine call_at (i := 8) (f := ?_) (args := ?_) rfl (by kernel_rfl) (by rfl) ?_ ?_
  rotate_left 2
  · go_simp
    try first | with_reducible rfl | apply And.intro <;> rfl
  refine (refint_any (x.t) HX.out.t.2 w5).mono ?_
  rintro e w8 ⟨A8x, c8x, rfl, hN⟩
  obtain ⟨n8x, hn8⟩ : ∃ nn_, nn_ = (encI (x.t)).length := ⟨_, rfl⟩
  obtain ⟨l8x, hl8⟩ : ∃ ll_, ll_ = encI (x.t) := ⟨_, rfl⟩
  rw [← hn8] at hN ⊢
  rw [← hl8] at hN
  have HB8x : Hid (n8x ≤ 20000) := Lib.hid (by rw [hn8]; have := encI_len (x.t) HX.out.t.2; omega)
  have HL8 := Lib.hid hl8
  refine ⟨_, rfl, hHeld.go hN.2.1 (by simp), fun hHeld => ?_⟩
  simp only [xPa, xPb, xPc, xPd, xPe]
  have HY8x := Lib.hid hN.by
  have HFD := Lib.hid (HFD.out.and hN.2.1 (by simp))
  have HY2x := Lib.hid (Fr.byk hN.2.1 HY2x.out)
  have HY5x := Lib.hid (Fr.byk hN.2.1 HY5x.out)
  clear hN hn8 hl8
  refine step_at (i := 9) rfl (by kernel_rfl) (by rfl) (fun K hK => ?_)
  refine wp_run (v := ?_) (w' := ?_) ?_ ?_
  rotate_left 2
  · go_simp
    try first | with_reducible rfl | apply And.intro <;> rfl
  refine hK.out _ (w8.alloc (Obj.cells #[.slice A2x n2x c2x, .slice A5x n5x c5x, .slice A8x n8x c8x] 52)) (hHeld.alloc _) (fun hHeld => ?_)
  clear hK K
  simp only [xPa, xPb, xPc, xPd, xPe]
  have hfb : Fr [] w8 (w8.alloc (Obj.cells #[.slice A2x n2x c2x, .slice A5x n5x c5x, .slice A8x n8x c8x] 52)) := (Fr.refl [] w8).alloc _
  have hbb : Blk (w8.alloc (Obj.cells #[.slice A2x n2x c2x, .slice A5x n5x c5x, .slice A8x n8x c8x] 52)) w8.heap.size 52 (([⟨A2x, n2x, c2x, l2x⟩, ⟨A5x, n5x, c5x, l5x⟩, ⟨A8x, n8x, c8x, l8x⟩] : List RowV).map RowV.val).toArray := Blk.new _ _ _
  generalize w8.alloc (Obj.cells #[.slice A2x n2x c2x, .slice A5x n5x c5x, .slice A8x n8x c8x] 52) = wj at *
  have HFD := Lib.hid (HFD.out.and hfb (by simp))
  have hj := join_big w8.heap.size 3 [⟨A2x, n2x, c2x, l2x⟩, ⟨A5x, n5x, c5x, l5x⟩, ⟨A8x, n8x, c8x, l8x⟩] wj hbb rfl (by omega) (by
   intro r hr
   simp only [List.mem_cons, List.not_mem_nil, or_false] at hr
   rcases hr with rfl | rfl | rfl
   · exact ⟨Fr.byk hfb HY2x.out, HB2x.out⟩
   · exact ⟨Fr.byk hfb HY5x.out, HB5x.out⟩
   · exact ⟨Fr.byk hfb HY8x.out, HB8x.out⟩)
  have hJ : joinL [⟨A2x, n2x, c2x, l2x⟩, ⟨A5x, n5x, c5x, l5x⟩, ⟨A8x, n8x, c8x, l8x⟩] = encI 10 ++ encI x.f ++ encI x.t := by
   simp only [joinL, List.map_cons, List.map_nil, List.flatten_cons, List.flatten_nil, HL2.out, HL5.out, HL8.out]
   simp [List.append_assoc]
  rw [hJ] at hj
  obtain ⟨X, hX⟩ : ∃ X, X = encI 10 ++ encI x.f ++ encI x.t := ⟨_, rfl⟩
  rw [← hX] at hj
  have HXT := Lib.hid hX
  clear hX
  have HJ := Lib.hid hj
  clear hfb hbb hj hJ HY2x HL2 HY5x HL5 HY8x HL8
  refine call_at (i := 10) (f := ?_) (args := ?_) rfl (by kernel_rfl) (by rfl) ?_ ?_
  rotate_left 2
  · go_simp
    try first | with_reducible rfl | apply And.intro <;> rfl
  refine HJ.out.mono ?_
  rintro e wk ⟨Aj, cj, rfl, hN⟩
  have HN := Lib.hid (hN.from2 HFD.out)
  refine ⟨_, rfl, hHeld.go hN.2.1 (by simp), fun hHeld => ?_⟩
  clear hN
  simp only [xPa, xPb, xPc, xPd, xPe]
  refine run_at (i := 11) (v := ?_) rfl (by kernel_rfl) (by rfl) (fun _ _ _ h => h) hHeld (fun w1 hw1 => ?_) ?_
  rotate_left 1
  · skip
    go_simp
    try first | with_reducible rfl | apply And.intro <;> rfl
  simp only [xPa, xPb, xPc, xPd, xPe]
  refine wpAnyH_done (by kernel_rfl) ?_ _
  go_wp2_with fail
  go_meet
  rw [← HXT.out]
  exact ⟨Aj, cj, rfl, HN.out⟩
 case rest =>
  obtain ⟨A0, c0, rfl, hn⟩ := hcut
  obtain ⟨n0, hn0⟩ : ∃ n0, n0 = (encI 10 ++ encI x.f ++ encI x.t).length := ⟨_, rfl⟩
  obtain ⟨l0, hl0⟩ : ∃ l0, l0 = encI 10 ++ encI x.f ++ encI x.t := ⟨_, rfl⟩
  rw [← hn0] at hn ⊢
  rw [← hl0] at hn
  have HN0 := Lib.hid hn
  have HB0l : Hid (n0 ≤ 20000) := Lib.hid (by rw [hn0]; have h1 := encI_len 10 HKK.out.2; have h2 := encI_len x.f HX.out.f.2; have h3 := encI_len x.t HX.out.t.2; simp only [List.length_append]; omega)
  have HL0 := Lib.hid hl0
  have HFC : Hid (Fr [] wa wc) := Lib.hid hn.2.1
  have hcq : wc.cell? ⟨w.heap.size, 0, none⟩ = some (.int .i64 10) := hn.2.1.cell hcq (by simp)
  have HY0 : Hid (By wc A0 n0 l0) := Lib.hid hn.by
  clear hn hn0 hl0 HCq HCf HCt
  obtain ⟨V, hV⟩ : ∃ V, V = x.op.cells := ⟨_, rfl⟩
  have HVL : Hid (V.length = 34) := Lib.hid (by rw [hV]; exact Wop.len HX.out.op.h)
  have HVR : Hid (wc.rangeAt w.heap.size 248 V) := Lib.hid (by rw [hV]; exact HFC.out.range HAT.out.op (by simp))
  have HV := Lib.hid hV
  clear hV
  go_wp2_with (refine wpList_load_mid rfl 54 _ rfl w.heap.size 248 rfl V _ HVR.out Tryz.underlying54 rfl (row_opn.of HVL.out).2 ?_)
  refine (refputOpening_any x.op wc (HX.out.op.keep (HF0.out.and HFC.out (by simp)) (by simp)) V HV.out.symm).mono ?_
  rintro e w1 ⟨A1, c1, rfl, hN⟩
  obtain ⟨n1, hn1⟩ : ∃ nn_, nn_ = (x.op.full).length := ⟨_, rfl⟩
  obtain ⟨l1, hl1⟩ : ∃ ll_, ll_ = x.op.full := ⟨_, rfl⟩
  rw [← hn1] at hN ⊢
  rw [← hl1] at hN
  have HB1x : Hid (n1 ≤ 20000) := Lib.hid (by rw [hn1]; have := Wop.full_len HX.out.op; omega)
  have HL1 := Lib.hid hl1
  have HN1 := Lib.hid hN
  have HY0 := Lib.hid (Fr.byk hN.2.1 HY0.out)
  clear hN hn1 hl1
  go_wp2_with fail
  have hfb : Fr [] w1 (w1.alloc (Obj.cells #[.slice A0 n0 c0, .slice A1 n1 c1] 52)) := (Fr.refl [] w1).alloc _
  have hbb : Blk (w1.alloc (Obj.cells #[.slice A0 n0 c0, .slice A1 n1 c1] 52)) w1.heap.size 52 (([⟨A0, n0, c0, l0⟩, ⟨A1, n1, c1, l1⟩] : List RowV).map RowV.val).toArray := Blk.new _ _ _
  have hj := join_big w1.heap.size 2 [⟨A0, n0, c0, l0⟩, ⟨A1, n1, c1, l1⟩] _ hbb rfl (by omega) (RowV.two ⟨Fr.byk hfb HY0.out, HB0l.out⟩ ⟨Fr.byk hfb HN1.out.by, HB1x.out⟩)
  have hJ : joinL [⟨A0, n0, c0, l0⟩, ⟨A1, n1, c1, l1⟩] = l0 ++ x.op.full := by
   simp only [joinL, List.map_cons, List.map_nil, List.flatten_cons, List.flatten_nil, HL1.out]
   simp
  rw [hJ] at hj
  obtain ⟨X, hX⟩ : ∃ X, X = l0 ++ x.op.full := ⟨_, rfl⟩
  rw [← hX] at hj
  have HXT := Lib.hid hX
  have HFB := Lib.hid hfb
  clear hX hbb hJ hfb
  refine hj.mono ?_
  rintro e wk ⟨Aj, cj, rfl, hN⟩
  have HN := Lib.hid (hN.from2 (HN1.out.2.1.and HFB.out (by simp)))
  clear hN hj
  have HBX : Hid (X = x.bytes) := Lib.hid (by rw [HXT.out, HL0.out]; unfold Wmg.bytes; rw [Wmg.body_10 HQ.out, HQ.out])
  have hxl : X.length ≤ 15030 := by rw [HBX.out]; exact Wmg.bytes_len HX.out
  have hd : decide ((65536 : Int) < (X.length : Int)) = false := by simp; omega
  go_wp2_with fail
  go_ret2
  unfold PackPost
  rw [if_pos (by rw [HQ.out]; decide), ← HBX.out]
  exact ⟨Aj, cj, rfl, HN.out.from2 (HF0.out.and HFC.out (by simp))⟩
set_option maxHeartbeats 4000000 in
theorem refpack_12 (x : Wmg) (hq : x.q = 12) (w : World) (hx : x.Ok w []) (C : List Value) (hC : x.cells = C) :
  Calls Tryz.prog 5 #[.agg C.toArray] w (PackPost w x) := by
 obtain ⟨wa, hwa⟩ : ∃ wa, wa = w.alloc (Obj.cells C.toArray 61) := ⟨_, rfl⟩
 have hf0 : Fr [] w wa := by rw [hwa]; exact (Fr.refl [] w).alloc _
 have hb0 : Blk wa w.heap.size 61 x.cells.toArray := by rw [hwa, hC]; exact Blk.new _ _ _
 have hat : x.At wa w.heap.size := Wmg.at_of hb0.range hx
 have HCq : Hid (wa.cell? ⟨w.heap.size, 0 + 0, none⟩ = some (.int .i64 12)) := Lib.hid (by have h := hat.q 0 _ rfl; rw [hq] at h; simpa using h)
 have HCf : Hid (wa.cell? ⟨w.heap.size, 0 + 1, none⟩ = some (.int .i64 x.f)) := Lib.hid (by have h := hat.f 0 _ rfl; simpa using h)
 have HCt : Hid (wa.cell? ⟨w.heap.size, 0 + 2, none⟩ = some (.int .i64 x.t)) := Lib.hid (by have h := hat.t 0 _ rfl; simpa using h)
 have hcq : wa.cell? ⟨w.heap.size, 0, none⟩ = some (.int .i64 12) := by have h := hat.q 0 _ rfl; rw [hq] at h; simpa using h
 have HX := Lib.hid hx
 have HAT := Lib.hid hat
 have HF0 := Lib.hid hf0
 have HWA := Lib.hid hwa
 have HQ := Lib.hid hq
 have HKK : Hid (i64In 12) := Lib.hid (by unfold i64In; omega)
 have HSZ : Hid (w.heap.size < wa.heap.size) := Lib.hid hb0.lt
 clear hx hC hwa hf0 hb0 hat hq
 go_enter Tryz.func5, Tryz.ntmps5
 go_upto_region 1 with (fail)
 change Code.wp _ _ _ _ (w.alloc (Obj.cells C.toArray 61))
 rw [← HWA.out]
 go_upto_region 3 with (fail)
 go_cut [4] (fun s4 wx => ∃ A c, s4 = .slice A (encI 12 ++ encI x.f ++ encI x.t).length c ∧ NewB wa wx A (encI 12 ++ encI x.f ++ encI x.t).length c (encI 12 ++ encI x.f ++ encI x.t))
 case first =>
  refine wp_region_held_drew (S := Fr [] wa) (by kernel_rfl) (Fr.drew (Fr.refl _ wa)) (fun hHeld => ?_)
  have HFD : Hid (Fr [] wa wa.drew) := Lib.hid (Fr.drew (Fr.refl [] wa))
  generalize wa.drew = wd at *
  refine run_at (i := 0) (v := ?_) rfl (by kernel_rfl) (by rfl) (fun _ _ _ h => h) hHeld (fun w1 hw1 => ?_) ?_
  rotate_left 1
  · skip
    go_simp
    try first | with_reducible rfl | apply And.intro <;> rfl
  simp only [xPa, xPb, xPc, xPd, xPe]
  refine run_at (i := 1) (v := ?_) rfl (by kernel_rfl) (by rfl) (fun _ _ _ h => h) hHeld (fun w1 hw1 => ?_) ?_
  rotate_left 1
  · skip
    have hcw0 := hw1.cell (HCq.out) (by simp)
    go_simp
    try first | with_reducible rfl | apply And.intro <;> rfl
  simp only [xPa, xPb, xPc, xPd, xPe]
  refine run_at (i := 3) (v := ?_) rfl (by kernel_rfl) (by rfl) (fun _ _ _ h => h) hHeld (fun w1 hw1 => ?_) ?_
  rotate_left 1
  · skip
    go_simp
    try first | with_reducible rfl | apply And.intro <;> rfl
  simp only [xPa, xPb, xPc, xPd, xPe]
  refine run_at (i := 4) (v := ?_) rfl (by kernel_rfl) (by rfl) (fun _ _ _ h => h) hHeld (fun w1 hw1 => ?_) ?_
  rotate_left 1
  · skip
    have hcw0 := hw1.cell (HCf.out) (by simp)
    go_simp
    try first | with_reducible rfl | apply And.intro <;> rfl
  simp only [xPa, xPb, xPc, xPd, xPe]
  refine run_at (i := 6) (v := ?_) rfl (by kernel_rfl) (by rfl) (fun _ _ _ h => h) hHeld (fun w1 hw1 => ?_) ?_
  rotate_left 1
  · skip
    go_simp
    try first | with_reducible rfl | apply And.intro <;> rfl
  simp only [xPa, xPb, xPc, xPd, xPe]
  refine run_at (i := 7) (v := ?_) rfl (by kernel_rfl) (by rfl) (fun _ _ _ h => h) hHeld (fun w1 hw1 => ?_) ?_
  rotate_left 1
  · skip
    have hcw0 := hw1.cell (HCt.out) (by simp)
    go_simp
    try first | with_reducible rfl | apply And.intro <;> rfl
  simp only [xPa, xPb, xPc, xPd, xPe]
  refine call_at (i := 2) (f := ?_) (args := ?_) rfl (by kernel_rfl) (by rfl) ?_ ?_
  rotate_left 2
  · go_simp
    try first | with_reducible rfl | apply And.intro <;> rfl
  refine (refint_any (12) HKK.out.2 wd).mono ?_
  rintro e w2 ⟨A2x, c2x, rfl, hN⟩
  obtain ⟨n2x, hn2⟩ : ∃ nn_, nn_ = (encI (12)).length := ⟨_, rfl⟩
  obtain ⟨l2x, hl2⟩ : ∃ ll_, ll_ = encI (12) := ⟨_, rfl⟩
  rw [← hn2] at hN ⊢
  rw [← hl2] at hN
  have HB2x : Hid (n2x ≤ 20000) := Lib.hid (by rw [hn2]; have := encI_len (12) HKK.out.2; omega)
  have HL2 := Lib.hid hl2
  refine ⟨_, rfl, hHeld.go hN.2.1 (by simp), fun hHeld => ?_⟩
  simp only [xPa, xPb, xPc, xPd, xPe]
  have HY2x := Lib.hid hN.by
  have HFD := Lib.hid (HFD.out.and hN.2.1 (by simp))
  clear hN hn2 hl2
  refine call_at (i := 5) (f := ?_) (args := ?_) rfl (by kernel_rfl) (by rfl) ?_ ?_
  rotate_left 2
  · go_simp
    try first | with_reducible rfl | apply And.intro <;> rfl
  refine (refint_any (x.f) HX.out.f.2 w2).mono ?_
  rintro e w5 ⟨A5x, c5x, rfl, hN⟩
  obtain ⟨n5x, hn5⟩ : ∃ nn_, nn_ = (encI (x.f)).length := ⟨_, rfl⟩
  obtain ⟨l5x, hl5⟩ : ∃ ll_, ll_ = encI (x.f) := ⟨_, rfl⟩
  rw [← hn5] at hN ⊢
  rw [← hl5] at hN
  have HB5x : Hid (n5x ≤ 20000) := Lib.hid (by rw [hn5]; have := encI_len (x.f) HX.out.f.2; omega)
  have HL5 := Lib.hid hl5
  refine ⟨_, rfl, hHeld.go hN.2.1 (by simp), fun hHeld => ?_⟩
  simp only [xPa, xPb, xPc, xPd, xPe]
  have HY5x := Lib.hid hN.by
  have HFD := Lib.hid (HFD.out.and hN.2.1 (by simp))
  have HY2x := Lib.hid (Fr.byk hN.2.1 HY2x.out)
  clear hN hn5 hl5
  refine call_at (i := 8) (f := ?_) (args := ?_) rfl (by kernel_rfl) (by rfl) ?_ ?_
  rotate_left 2
  · go_simp
    try first | with_reducible rfl | apply And.intro <;> rfl
  refine (refint_any (x.t) HX.out.t.2 w5).mono ?_
  rintro e w8 ⟨A8x, c8x, rfl, hN⟩
  obtain ⟨n8x, hn8⟩ : ∃ nn_, nn_ = (encI (x.t)).length := ⟨_, rfl⟩
  obtain ⟨l8x, hl8⟩ : ∃ ll_, ll_ = encI (x.t) := ⟨_, rfl⟩
  rw [← hn8] at hN ⊢
  rw [← hl8] at hN
  have HB8x : Hid (n8x ≤ 20000) := Lib.hid (by rw [hn8]; have := encI_len (x.t) HX.out.t.2; omega)
  have HL8 := Lib.hid hl8
  refine ⟨_, rfl, hHeld.go hN.2.1 (by simp), fun hHeld => ?_⟩
  simp only [xPa, xPb, xPc, xPd, xPe]
  have HY8x := Lib.hid hN.by
  have HFD := Lib.hid (HFD.out.and hN.2.1 (by simp))
  have HY2x := Lib.hid (Fr.byk hN.2.1 HY2x.out)
  have HY5x := Lib.hid (Fr.byk hN.2.1 HY5x.out)
  clear hN hn8 hl8
  refine step_at (i := 9) rfl (by kernel_rfl) (by rfl) (fun K hK => ?_)
  refine wp_run (v := ?_) (w' := ?_) ?_ ?_
  rotate_left 2
  · go_simp
    try first | with_reducible rfl | apply And.intro <;> rfl
  refine hK.out _ (w8.alloc (Obj.cells #[.slice A2x n2x c2x, .slice A5x n5x c5x, .slice A8x n8x c8x] 52)) (hHeld.alloc _) (fun hHeld => ?_)
  clear hK K
  simp only [xPa, xPb, xPc, xPd, xPe]
  have hfb : Fr [] w8 (w8.alloc (Obj.cells #[.slice A2x n2x c2x, .slice A5x n5x c5x, .slice A8x n8x c8x] 52)) := (Fr.refl [] w8).alloc _
  have hbb : Blk (w8.alloc (Obj.cells #[.slice A2x n2x c2x, .slice A5x n5x c5x, .slice A8x n8x c8x] 52)) w8.heap.size 52 (([⟨A2x, n2x, c2x, l2x⟩, ⟨A5x, n5x, c5x, l5x⟩, ⟨A8x, n8x, c8x, l8x⟩] : List RowV).map RowV.val).toArray := Blk.new _ _ _
  generalize w8.alloc (Obj.cells #[.slice A2x n2x c2x, .slice A5x n5x c5x, .slice A8x n8x c8x] 52) = wj at *
  have HFD := Lib.hid (HFD.out.and hfb (by simp))
  have hj := join_big w8.heap.size 3 [⟨A2x, n2x, c2x, l2x⟩, ⟨A5x, n5x, c5x, l5x⟩, ⟨A8x, n8x, c8x, l8x⟩] wj hbb rfl (by omega) (by
   intro r hr
   simp only [List.mem_cons, List.not_mem_nil, or_false] at hr
   rcases hr with rfl | rfl | rfl
   · exact ⟨Fr.byk hfb HY2x.out, HB2x.out⟩
   · exact ⟨Fr.byk hfb HY5x.out, HB5x.out⟩
   · exact ⟨Fr.byk hfb HY8x.out, HB8x.out⟩)
  have hJ : joinL [⟨A2x, n2x, c2x, l2x⟩, ⟨A5x, n5x, c5x, l5x⟩, ⟨A8x, n8x, c8x, l8x⟩] = encI 12 ++ encI x.f ++ encI x.t := by
   simp only [joinL, List.map_cons, List.map_nil, List.flatten_cons, List.flatten_nil, HL2.out, HL5.out, HL8.out]
   simp [List.append_assoc]
  rw [hJ] at hj
  obtain ⟨X, hX⟩ : ∃ X, X = encI 12 ++ encI x.f ++ encI x.t := ⟨_, rfl⟩
  rw [← hX] at hj
  have HXT := Lib.hid hX
  clear hX
  have HJ := Lib.hid hj
  clear hfb hbb hj hJ HY2x HL2 HY5x HL5 HY8x HL8
  refine call_at (i := 10) (f := ?_) (args := ?_) rfl (by kernel_rfl) (by rfl) ?_ ?_
  rotate_left 2
  · go_simp
    try first | with_reducible rfl | apply And.intro <;> rfl
  refine HJ.out.mono ?_
  rintro e wk ⟨Aj, cj, rfl, hN⟩
  have HN := Lib.hid (hN.from2 HFD.out)
  refine ⟨_, rfl, hHeld.go hN.2.1 (by simp), fun hHeld => ?_⟩
  clear hN
  simp only [xPa, xPb, xPc, xPd, xPe]
  refine run_at (i := 11) (v := ?_) rfl (by kernel_rfl) (by rfl) (fun _ _ _ h => h) hHeld (fun w1 hw1 => ?_) ?_
  rotate_left 1
  · skip
    go_simp
    try first | with_reducible rfl | apply And.intro <;> rfl
  simp only [xPa, xPb, xPc, xPd, xPe]
  refine wpAnyH_done (by kernel_rfl) ?_ _
  go_wp2_with fail
  go_meet
  rw [← HXT.out]
  exact ⟨Aj, cj, rfl, HN.out⟩
 case rest =>
  obtain ⟨A0, c0, rfl, hn⟩ := hcut
  obtain ⟨n0, hn0⟩ : ∃ n0, n0 = (encI 12 ++ encI x.f ++ encI x.t).length := ⟨_, rfl⟩
  obtain ⟨l0, hl0⟩ : ∃ l0, l0 = encI 12 ++ encI x.f ++ encI x.t := ⟨_, rfl⟩
  rw [← hn0] at hn ⊢
  rw [← hl0] at hn
  have HN0 := Lib.hid hn
  have HB0l : Hid (n0 ≤ 20000) := Lib.hid (by rw [hn0]; have h1 := encI_len 12 HKK.out.2; have h2 := encI_len x.f HX.out.f.2; have h3 := encI_len x.t HX.out.t.2; simp only [List.length_append]; omega)
  have HL0 := Lib.hid hl0
  have HFC : Hid (Fr [] wa wc) := Lib.hid hn.2.1
  have hcq : wc.cell? ⟨w.heap.size, 0, none⟩ = some (.int .i64 12) := hn.2.1.cell hcq (by simp)
  have HY0 : Hid (By wc A0 n0 l0) := Lib.hid hn.by
  clear hn hn0 hl0 HCq HCf HCt
  obtain ⟨V, hV⟩ : ∃ V, V = x.dn.cells := ⟨_, rfl⟩
  have HVL : Hid (V.length = 4) := Lib.hid (by rw [hV]; exact Wdn.len _)
  have HVR : Hid (wc.rangeAt w.heap.size 282 V) := Lib.hid (by rw [hV]; exact HFC.out.range HAT.out.dn (by simp))
  have HV := Lib.hid hV
  clear hV
  go_wp2_with (refine wpList_load_mid rfl 56 _ rfl w.heap.size 282 rfl V _ HVR.out Tryz.underlying56 rfl (row_deny.of HVL.out).2 ?_)
  refine (refputDeny_any x.dn HX.out.dn V HV.out.symm wc).mono ?_
  rintro e w1 ⟨A1, c1, rfl, hN⟩
  obtain ⟨n1, hn1⟩ : ∃ nn_, nn_ = (x.dn.full).length := ⟨_, rfl⟩
  obtain ⟨l1, hl1⟩ : ∃ ll_, ll_ = x.dn.full := ⟨_, rfl⟩
  rw [← hn1] at hN ⊢
  rw [← hl1] at hN
  have HB1x : Hid (n1 ≤ 20000) := Lib.hid (by rw [hn1]; have := Wdn.full_len HX.out.dn; omega)
  have HL1 := Lib.hid hl1
  have HN1 := Lib.hid hN
  have HY0 := Lib.hid (Fr.byk hN.2.1 HY0.out)
  clear hN hn1 hl1
  go_wp2_with fail
  have hfb : Fr [] w1 (w1.alloc (Obj.cells #[.slice A0 n0 c0, .slice A1 n1 c1] 52)) := (Fr.refl [] w1).alloc _
  have hbb : Blk (w1.alloc (Obj.cells #[.slice A0 n0 c0, .slice A1 n1 c1] 52)) w1.heap.size 52 (([⟨A0, n0, c0, l0⟩, ⟨A1, n1, c1, l1⟩] : List RowV).map RowV.val).toArray := Blk.new _ _ _
  have hj := join_big w1.heap.size 2 [⟨A0, n0, c0, l0⟩, ⟨A1, n1, c1, l1⟩] _ hbb rfl (by omega) (RowV.two ⟨Fr.byk hfb HY0.out, HB0l.out⟩ ⟨Fr.byk hfb HN1.out.by, HB1x.out⟩)
  have hJ : joinL [⟨A0, n0, c0, l0⟩, ⟨A1, n1, c1, l1⟩] = l0 ++ x.dn.full := by
   simp only [joinL, List.map_cons, List.map_nil, List.flatten_cons, List.flatten_nil, HL1.out]
   simp
  rw [hJ] at hj
  obtain ⟨X, hX⟩ : ∃ X, X = l0 ++ x.dn.full := ⟨_, rfl⟩
  rw [← hX] at hj
  have HXT := Lib.hid hX
  have HFB := Lib.hid hfb
  clear hX hbb hJ hfb
  refine hj.mono ?_
  rintro e wk ⟨Aj, cj, rfl, hN⟩
  have HN := Lib.hid (hN.from2 (HN1.out.2.1.and HFB.out (by simp)))
  clear hN hj
  have HBX : Hid (X = x.bytes) := Lib.hid (by rw [HXT.out, HL0.out]; unfold Wmg.bytes; rw [Wmg.body_12 HQ.out, HQ.out])
  have hxl : X.length ≤ 15030 := by rw [HBX.out]; exact Wmg.bytes_len HX.out
  have hd : decide ((65536 : Int) < (X.length : Int)) = false := by simp; omega
  go_wp2_with fail
  go_ret2
  unfold PackPost
  rw [if_pos (by rw [HQ.out]; decide), ← HBX.out]
  exact ⟨Aj, cj, rfl, HN.out.from2 (HF0.out.and HFC.out (by simp))⟩
set_option maxHeartbeats 4000000 in
theorem refpack_4 (x : Wmg) (hq : x.q = 4) (w : World) (hx : x.Ok w []) (C : List Value) (hC : x.cells = C) :
  Calls Tryz.prog 5 #[.agg C.toArray] w (PackPost w x) := by
 obtain ⟨wa, hwa⟩ : ∃ wa, wa = w.alloc (Obj.cells C.toArray 61) := ⟨_, rfl⟩
 have hf0 : Fr [] w wa := by rw [hwa]; exact (Fr.refl [] w).alloc _
 have hb0 : Blk wa w.heap.size 61 x.cells.toArray := by rw [hwa, hC]; exact Blk.new _ _ _
 have hat : x.At wa w.heap.size := Wmg.at_of hb0.range hx
 have HCq : Hid (wa.cell? ⟨w.heap.size, 0 + 0, none⟩ = some (.int .i64 4)) := Lib.hid (by have h := hat.q 0 _ rfl; rw [hq] at h; simpa using h)
 have HCf : Hid (wa.cell? ⟨w.heap.size, 0 + 1, none⟩ = some (.int .i64 x.f)) := Lib.hid (by have h := hat.f 0 _ rfl; simpa using h)
 have HCt : Hid (wa.cell? ⟨w.heap.size, 0 + 2, none⟩ = some (.int .i64 x.t)) := Lib.hid (by have h := hat.t 0 _ rfl; simpa using h)
 have hcq : wa.cell? ⟨w.heap.size, 0, none⟩ = some (.int .i64 4) := by have h := hat.q 0 _ rfl; rw [hq] at h; simpa using h
 have HX := Lib.hid hx
 have HAT := Lib.hid hat
 have HF0 := Lib.hid hf0
 have HWA := Lib.hid hwa
 have HQ := Lib.hid hq
 have HKK : Hid (i64In 4) := Lib.hid (by unfold i64In; omega)
 have HSZ : Hid (w.heap.size < wa.heap.size) := Lib.hid hb0.lt
 clear hx hC hwa hf0 hb0 hat hq
 go_enter Tryz.func5, Tryz.ntmps5
 go_upto_region 1 with (fail)
 change Code.wp _ _ _ _ (w.alloc (Obj.cells C.toArray 61))
 rw [← HWA.out]
 go_upto_region 3 with (fail)
 go_cut [4] (fun s4 wx => ∃ A c, s4 = .slice A (encI 4 ++ encI x.f ++ encI x.t).length c ∧ NewB wa wx A (encI 4 ++ encI x.f ++ encI x.t).length c (encI 4 ++ encI x.f ++ encI x.t))
 case first =>
  refine wp_region_held_drew (S := Fr [] wa) (by kernel_rfl) (Fr.drew (Fr.refl _ wa)) (fun hHeld => ?_)
  have HFD : Hid (Fr [] wa wa.drew) := Lib.hid (Fr.drew (Fr.refl [] wa))
  generalize wa.drew = wd at *
  refine run_at (i := 0) (v := ?_) rfl (by kernel_rfl) (by rfl) (fun _ _ _ h => h) hHeld (fun w1 hw1 => ?_) ?_
  rotate_left 1
  · skip
    go_simp
    try first | with_reducible rfl | apply And.intro <;> rfl
  simp only [xPa, xPb, xPc, xPd, xPe]
  refine run_at (i := 1) (v := ?_) rfl (by kernel_rfl) (by rfl) (fun _ _ _ h => h) hHeld (fun w1 hw1 => ?_) ?_
  rotate_left 1
  · skip
    have hcw0 := hw1.cell (HCq.out) (by simp)
    go_simp
    try first | with_reducible rfl | apply And.intro <;> rfl
  simp only [xPa, xPb, xPc, xPd, xPe]
  refine run_at (i := 3) (v := ?_) rfl (by kernel_rfl) (by rfl) (fun _ _ _ h => h) hHeld (fun w1 hw1 => ?_) ?_
  rotate_left 1
  · skip
    go_simp
    try first | with_reducible rfl | apply And.intro <;> rfl
  simp only [xPa, xPb, xPc, xPd, xPe]
  refine run_at (i := 4) (v := ?_) rfl (by kernel_rfl) (by rfl) (fun _ _ _ h => h) hHeld (fun w1 hw1 => ?_) ?_
  rotate_left 1
  · skip
    have hcw0 := hw1.cell (HCf.out) (by simp)
    go_simp
    try first | with_reducible rfl | apply And.intro <;> rfl
  simp only [xPa, xPb, xPc, xPd, xPe]
  refine run_at (i := 6) (v := ?_) rfl (by kernel_rfl) (by rfl) (fun _ _ _ h => h) hHeld (fun w1 hw1 => ?_) ?_
  rotate_left 1
  · skip
    go_simp
    try first | with_reducible rfl | apply And.intro <;> rfl
  simp only [xPa, xPb, xPc, xPd, xPe]
  refine run_at (i := 7) (v := ?_) rfl (by kernel_rfl) (by rfl) (fun _ _ _ h => h) hHeld (fun w1 hw1 => ?_) ?_
  rotate_left 1
  · skip
    have hcw0 := hw1.cell (HCt.out) (by simp)
    go_simp
    try first | with_reducible rfl | apply And.intro <;> rfl
  simp only [xPa, xPb, xPc, xPd, xPe]
  refine call_at (i := 2) (f := ?_) (args := ?_) rfl (by kernel_rfl) (by rfl) ?_ ?_
  rotate_left 2
  · go_simp
    try first | with_reducible rfl | apply And.intro <;> rfl
  refine (refint_any (4) HKK.out.2 wd).mono ?_
  rintro e w2 ⟨A2x, c2x, rfl, hN⟩
  obtain ⟨n2x, hn2⟩ : ∃ nn_, nn_ = (encI (4)).length := ⟨_, rfl⟩
  obtain ⟨l2x, hl2⟩ : ∃ ll_, ll_ = encI (4) := ⟨_, rfl⟩
  rw [← hn2] at hN ⊢
  rw [← hl2] at hN
  have HB2x : Hid (n2x ≤ 20000) := Lib.hid (by rw [hn2]; have := encI_len (4) HKK.out.2; omega)
  have HL2 := Lib.hid hl2
  refine ⟨_, rfl, hHeld.go hN.2.1 (by simp), fun hHeld => ?_⟩
  simp only [xPa, xPb, xPc, xPd, xPe]
  have HY2x := Lib.hid hN.by
  have HFD := Lib.hid (HFD.out.and hN.2.1 (by simp))
  clear hN hn2 hl2
  refine call_at (i := 5) (f := ?_) (args := ?_) rfl (by kernel_rfl) (by rfl) ?_ ?_
  rotate_left 2
  · go_simp
    try first | with_reducible rfl | apply And.intro <;> rfl
  refine (refint_any (x.f) HX.out.f.2 w2).mono ?_
  rintro e w5 ⟨A5x, c5x, rfl, hN⟩
  obtain ⟨n5x, hn5⟩ : ∃ nn_, nn_ = (encI (x.f)).length := ⟨_, rfl⟩
  obtain ⟨l5x, hl5⟩ : ∃ ll_, ll_ = encI (x.f) := ⟨_, rfl⟩
  rw [← hn5] at hN ⊢
  rw [← hl5] at hN
  have HB5x : Hid (n5x ≤ 20000) := Lib.hid (by rw [hn5]; have := encI_len (x.f) HX.out.f.2; omega)
  have HL5 := Lib.hid hl5
  refine ⟨_, rfl, hHeld.go hN.2.1 (by simp), fun hHeld => ?_⟩
  simp only [xPa, xPb, xPc, xPd, xPe]
  have HY5x := Lib.hid hN.by
  have HFD := Lib.hid (HFD.out.and hN.2.1 (by simp))
  have HY2x := Lib.hid (Fr.byk hN.2.1 HY2x.out)
  clear hN hn5 hl5
  refine call_at (i := 8) (f := ?_) (args := ?_) rfl (by kernel_rfl) (by rfl) ?_ ?_
  rotate_left 2
  · go_simp
    try first | with_reducible rfl | apply And.intro <;> rfl
  refine (refint_any (x.t) HX.out.t.2 w5).mono ?_
  rintro e w8 ⟨A8x, c8x, rfl, hN⟩
  obtain ⟨n8x, hn8⟩ : ∃ nn_, nn_ = (encI (x.t)).length := ⟨_, rfl⟩
  obtain ⟨l8x, hl8⟩ : ∃ ll_, ll_ = encI (x.t) := ⟨_, rfl⟩
  rw [← hn8] at hN ⊢
  rw [← hl8] at hN
  have HB8x : Hid (n8x ≤ 20000) := Lib.hid (by rw [hn8]; have := encI_len (x.t) HX.out.t.2; omega)
  have HL8 := Lib.hid hl8
  refine ⟨_, rfl, hHeld.go hN.2.1 (by simp), fun hHeld => ?_⟩
  simp only [xPa, xPb, xPc, xPd, xPe]
  have HY8x := Lib.hid hN.by
  have HFD := Lib.hid (HFD.out.and hN.2.1 (by simp))
  have HY2x := Lib.hid (Fr.byk hN.2.1 HY2x.out)
  have HY5x := Lib.hid (Fr.byk hN.2.1 HY5x.out)
  clear hN hn8 hl8
  refine step_at (i := 9) rfl (by kernel_rfl) (by rfl) (fun K hK => ?_)
  refine wp_run (v := ?_) (w' := ?_) ?_ ?_
  rotate_left 2
  · go_simp
    try first | with_reducible rfl | apply And.intro <;> rfl
  refine hK.out _ (w8.alloc (Obj.cells #[.slice A2x n2x c2x, .slice A5x n5x c5x, .slice A8x n8x c8x] 52)) (hHeld.alloc _) (fun hHeld => ?_)
  clear hK K
  simp only [xPa, xPb, xPc, xPd, xPe]
  have hfb : Fr [] w8 (w8.alloc (Obj.cells #[.slice A2x n2x c2x, .slice A5x n5x c5x, .slice A8x n8x c8x] 52)) := (Fr.refl [] w8).alloc _
  have hbb : Blk (w8.alloc (Obj.cells #[.slice A2x n2x c2x, .slice A5x n5x c5x, .slice A8x n8x c8x] 52)) w8.heap.size 52 (([⟨A2x, n2x, c2x, l2x⟩, ⟨A5x, n5x, c5x, l5x⟩, ⟨A8x, n8x, c8x, l8x⟩] : List RowV).map RowV.val).toArray := Blk.new _ _ _
  generalize w8.alloc (Obj.cells #[.slice A2x n2x c2x, .slice A5x n5x c5x, .slice A8x n8x c8x] 52) = wj at *
  have HFD := Lib.hid (HFD.out.and hfb (by simp))
  have hj := join_big w8.heap.size 3 [⟨A2x, n2x, c2x, l2x⟩, ⟨A5x, n5x, c5x, l5x⟩, ⟨A8x, n8x, c8x, l8x⟩] wj hbb rfl (by omega) (by
   intro r hr
   simp only [List.mem_cons, List.not_mem_nil, or_false] at hr
   rcases hr with rfl | rfl | rfl
   · exact ⟨Fr.byk hfb HY2x.out, HB2x.out⟩
   · exact ⟨Fr.byk hfb HY5x.out, HB5x.out⟩
   · exact ⟨Fr.byk hfb HY8x.out, HB8x.out⟩)
  have hJ : joinL [⟨A2x, n2x, c2x, l2x⟩, ⟨A5x, n5x, c5x, l5x⟩, ⟨A8x, n8x, c8x, l8x⟩] = encI 4 ++ encI x.f ++ encI x.t := by
   simp only [joinL, List.map_cons, List.map_nil, List.flatten_cons, List.flatten_nil, HL2.out, HL5.out, HL8.out]
   simp [List.append_assoc]
  rw [hJ] at hj
  obtain ⟨X, hX⟩ : ∃ X, X = encI 4 ++ encI x.f ++ encI x.t := ⟨_, rfl⟩
  rw [← hX] at hj
  have HXT := Lib.hid hX
  clear hX
  have HJ := Lib.hid hj
  clear hfb hbb hj hJ HY2x HL2 HY5x HL5 HY8x HL8
  refine call_at (i := 10) (f := ?_) (args := ?_) rfl (by kernel_rfl) (by rfl) ?_ ?_
  rotate_left 2
  · go_simp
    try first | with_reducible rfl | apply And.intro <;> rfl
  refine HJ.out.mono ?_
  rintro e wk ⟨Aj, cj, rfl, hN⟩
  have HN := Lib.hid (hN.from2 HFD.out)
  refine ⟨_, rfl, hHeld.go hN.2.1 (by simp), fun hHeld => ?_⟩
  clear hN
  simp only [xPa, xPb, xPc, xPd, xPe]
  refine run_at (i := 11) (v := ?_) rfl (by kernel_rfl) (by rfl) (fun _ _ _ h => h) hHeld (fun w1 hw1 => ?_) ?_
  rotate_left 1
  · skip
    go_simp
    try first | with_reducible rfl | apply And.intro <;> rfl
  simp only [xPa, xPb, xPc, xPd, xPe]
  refine wpAnyH_done (by kernel_rfl) ?_ _
  go_wp2_with fail
  go_meet
  rw [← HXT.out]
  exact ⟨Aj, cj, rfl, HN.out⟩
 case rest =>
  obtain ⟨A0, c0, rfl, hn⟩ := hcut
  obtain ⟨n0, hn0⟩ : ∃ n0, n0 = (encI 4 ++ encI x.f ++ encI x.t).length := ⟨_, rfl⟩
  obtain ⟨l0, hl0⟩ : ∃ l0, l0 = encI 4 ++ encI x.f ++ encI x.t := ⟨_, rfl⟩
  rw [← hn0] at hn ⊢
  rw [← hl0] at hn
  have HN0 := Lib.hid hn
  have HB0l : Hid (n0 ≤ 20000) := Lib.hid (by rw [hn0]; have h1 := encI_len 4 HKK.out.2; have h2 := encI_len x.f HX.out.f.2; have h3 := encI_len x.t HX.out.t.2; simp only [List.length_append]; omega)
  have HL0 := Lib.hid hl0
  have HFC : Hid (Fr [] wa wc) := Lib.hid hn.2.1
  have hcq : wc.cell? ⟨w.heap.size, 0, none⟩ = some (.int .i64 4) := hn.2.1.cell hcq (by simp)
  have HY0 : Hid (By wc A0 n0 l0) := Lib.hid hn.by
  clear hn hn0 hl0 HCq HCf HCt
  obtain ⟨K, hK0⟩ : ∃ K, K = x.ak.cells := ⟨_, rfl⟩
  have HKL : Hid (K.length = 38) := Lib.hid (by rw [hK0]; exact Wst.len HX.out.ak.h)
  have HRR : Hid (wc.rangeAt w.heap.size (0 + 116) K) := Lib.hid (by rw [hK0]; simpa using HFC.out.range HAT.out.ak (by simp))
  have HRK := Lib.hid hK0
  have HSG : Hid (wc.rangeAt w.heap.size (0 + 116 + 36) [.int .i64 x.ak.b, .int .i64 x.ak.m]) := Lib.hid (by simpa using HFC.out.range (Wst.at_of (o := 116) HAT.out.ak HX.out.ak.h).sig (by simp))
  clear hK0
  go_upto_region 12 with (fail)
  refine wp_region_held_drew (S := Fr [] wc) (by kernel_rfl) (Fr.drew (Fr.refl _ wc)) (fun hHeld => ?_)
  have HFD : Hid (Fr [] wc wc.drew) := Lib.hid (Fr.drew (Fr.refl [] wc))
  have HY0 := Lib.hid (Fr.byk HFD.out HY0.out)
  generalize wc.drew = wd at *
  refine run_at (i := 0) (v := ?_) rfl (by kernel_rfl) (by rfl) (fun _ _ _ h => h) hHeld (fun w1 hw1 => ?_) ?_
  rotate_left 1
  · skip
    go_simp
    try first | with_reducible rfl | apply And.intro <;> rfl
  simp only [xPa, xPb, xPc, xPd, xPe]
  refine run_at (i := 1) (v := ?_) rfl (by kernel_rfl) (by rfl) (fun _ _ _ h => h) hHeld (fun w1 hw1 => ?_) ?_
  rotate_left 1
  · skip
    go_simp
    try first | with_reducible rfl | apply And.intro <;> rfl
  simp only [xPa, xPb, xPc, xPd, xPe]
  refine row_at (i := 2) rfl (by kernel_rfl) (by rfl) _ _ rfl _ _ rfl _ (fun w1 hw1 => hw1.range (HRR.out) (by simp)) (row_akk.of HKL.out) (fun _ _ _ h => h) hHeld ?_
  simp only [xPa, xPb, xPc, xPd, xPe]
  refine run_at (i := 4) (v := ?_) rfl (by kernel_rfl) (by rfl) (fun _ _ _ h => h) hHeld (fun w1 hw1 => ?_) ?_
  rotate_left 1
  · skip
    go_simp
    try first | with_reducible rfl | apply And.intro <;> rfl
  simp only [xPa, xPb, xPc, xPd, xPe]
  refine run_at (i := 5) (v := ?_) rfl (by kernel_rfl) (by rfl) (fun _ _ _ h => h) hHeld (fun w1 hw1 => ?_) ?_
  rotate_left 1
  · skip
    go_simp
    try first | with_reducible rfl | apply And.intro <;> rfl
  simp only [xPa, xPb, xPc, xPd, xPe]
  refine row_at (i := 6) rfl (by kernel_rfl) (by rfl) _ _ rfl _ _ rfl _ (fun w1 hw1 => hw1.range (HSG.out) (by simp)) (row_sig) (fun _ _ _ h => h) hHeld ?_
  simp only [xPa, xPb, xPc, xPd, xPe]
  refine call_at (i := 3) (f := ?_) (args := ?_) rfl (by kernel_rfl) (by rfl) ?_ ?_
  rotate_left 2
  · go_simp
    try first | with_reducible rfl | apply And.intro <;> rfl
  refine (refbareAck_any x.ak HX.out.ak K HRK.out.symm wd).mono ?_
  rintro e w3 ⟨A3x, c3x, rfl, hN⟩
  obtain ⟨n3x, hn3⟩ : ∃ nn_, nn_ = (x.ak.bare).length := ⟨_, rfl⟩
  obtain ⟨l3x, hl3⟩ : ∃ ll_, ll_ = x.ak.bare := ⟨_, rfl⟩
  rw [← hn3] at hN ⊢
  rw [← hl3] at hN
  have HB3x : Hid (n3x ≤ 20000) := Lib.hid (by rw [hn3]; have := Wst.bare_len HX.out.ak; omega)
  have HL3 := Lib.hid hl3
  refine ⟨_, rfl, hHeld.go hN.2.1 (by simp), fun hHeld => ?_⟩
  simp only [xPa, xPb, xPc, xPd, xPe]
  have HY3x := Lib.hid hN.by
  have HFD := Lib.hid (HFD.out.and hN.2.1 (by simp))
  have HY0 := Lib.hid (Fr.byk hN.2.1 HY0.out)
  clear hN hn3 hl3
  refine call_at (i := 7) (f := ?_) (args := ?_) rfl (by kernel_rfl) (by rfl) ?_ ?_
  rotate_left 2
  · go_simp
    try first | with_reducible rfl | apply And.intro <;> rfl
  refine (refsig_any x.ak.b x.ak.m HX.out.ak.b HX.out.ak.m w3).mono ?_
  rintro e w7 ⟨A7x, c7x, rfl, hN⟩
  obtain ⟨n7x, hn7⟩ : ∃ nn_, nn_ = (sgL x.ak.b x.ak.m).length := ⟨_, rfl⟩
  obtain ⟨l7x, hl7⟩ : ∃ ll_, ll_ = sgL x.ak.b x.ak.m := ⟨_, rfl⟩
  rw [← hn7] at hN ⊢
  rw [← hl7] at hN
  have HB7x : Hid (n7x ≤ 20000) := Lib.hid (by rw [hn7]; have := encI_len x.ak.b HX.out.ak.b.2; have := encI_len x.ak.m HX.out.ak.m.2; simp only [sgL, List.length_append]; omega)
  have HL7 := Lib.hid hl7
  refine ⟨_, rfl, hHeld.go hN.2.1 (by simp), fun hHeld => ?_⟩
  simp only [xPa, xPb, xPc, xPd, xPe]
  have HY7x := Lib.hid hN.by
  have HFD := Lib.hid (HFD.out.and hN.2.1 (by simp))
  have HY3x := Lib.hid (Fr.byk hN.2.1 HY3x.out)
  have HY0 := Lib.hid (Fr.byk hN.2.1 HY0.out)
  clear hN hn7 hl7
  refine step_at (i := 8) rfl (by kernel_rfl) (by rfl) (fun K hK => ?_)
  refine wp_run (v := ?_) (w' := ?_) ?_ ?_
  rotate_left 2
  · go_simp
    try first | with_reducible rfl | apply And.intro <;> rfl
  refine hK.out _ (w7.alloc (Obj.cells #[.slice A0 n0 c0, .slice A3x n3x c3x, .slice A7x n7x c7x] 52)) (hHeld.alloc _) (fun hHeld => ?_)
  clear hK K
  simp only [xPa, xPb, xPc, xPd, xPe]
  have hfb : Fr [] w7 (w7.alloc (Obj.cells #[.slice A0 n0 c0, .slice A3x n3x c3x, .slice A7x n7x c7x] 52)) := (Fr.refl [] w7).alloc _
  have hbb : Blk (w7.alloc (Obj.cells #[.slice A0 n0 c0, .slice A3x n3x c3x, .slice A7x n7x c7x] 52)) w7.heap.size 52 (([⟨A0, n0, c0, l0⟩, ⟨A3x, n3x, c3x, l3x⟩, ⟨A7x, n7x, c7x, l7x⟩] : List RowV).map RowV.val).toArray := Blk.new _ _ _
  generalize w7.alloc (Obj.cells #[.slice A0 n0 c0, .slice A3x n3x c3x, .slice A7x n7x c7x] 52) = wj at *
  have HFD := Lib.hid (HFD.out.and hfb (by simp))
  have hj := join_big w7.heap.size 3 [⟨A0, n0, c0, l0⟩, ⟨A3x, n3x, c3x, l3x⟩, ⟨A7x, n7x, c7x, l7x⟩] wj hbb rfl (by omega) (by
   intro r hr
   simp only [List.mem_cons, List.not_mem_nil, or_false] at hr
   rcases hr with rfl | rfl | rfl
   · exact ⟨Fr.byk hfb HY0.out, HB0l.out⟩
   · exact ⟨Fr.byk hfb HY3x.out, HB3x.out⟩
   · exact ⟨Fr.byk hfb HY7x.out, HB7x.out⟩)
  have hJ : joinL [⟨A0, n0, c0, l0⟩, ⟨A3x, n3x, c3x, l3x⟩, ⟨A7x, n7x, c7x, l7x⟩] = l0 ++ x.ak.full := by
   simp only [joinL, List.map_cons, List.map_nil, List.flatten_cons, List.flatten_nil, HL3.out, HL7.out]
   simp [Wst.full]
  rw [hJ] at hj
  obtain ⟨X, hX⟩ : ∃ X, X = l0 ++ x.ak.full := ⟨_, rfl⟩
  rw [← hX] at hj
  have HXT := Lib.hid hX
  clear hX
  have HJ := Lib.hid hj
  clear hfb hbb hj hJ HY3x HL3 HY7x HL7
  refine call_at (i := 9) (f := ?_) (args := ?_) rfl (by kernel_rfl) (by rfl) ?_ ?_
  rotate_left 2
  · go_simp
    try first | with_reducible rfl | apply And.intro <;> rfl
  refine HJ.out.mono ?_
  rintro e wk ⟨Aj, cj, rfl, hN⟩
  have HN := Lib.hid (hN.from2 HFD.out)
  refine ⟨_, rfl, hHeld.go hN.2.1 (by simp), fun hHeld => ?_⟩
  clear hN
  simp only [xPa, xPb, xPc, xPd, xPe]
  refine run_at (i := 10) (v := ?_) rfl (by kernel_rfl) (by rfl) (fun _ _ _ h => h) hHeld (fun w1 hw1 => ?_) ?_
  rotate_left 1
  · skip
    go_simp
    try first | with_reducible rfl | apply And.intro <;> rfl
  simp only [xPa, xPb, xPc, xPd, xPe]
  refine wpAnyH_done (by kernel_rfl) ?_ _
  have HBX : Hid (X = x.bytes) := Lib.hid (by rw [HXT.out, HL0.out]; unfold Wmg.bytes; rw [Wmg.body_4 HQ.out, HQ.out])
  have hxl : X.length ≤ 15030 := by rw [HBX.out]; exact Wmg.bytes_len HX.out
  have hd : decide ((65536 : Int) < (X.length : Int)) = false := by simp; omega
  go_wp2_with fail
  go_ret2
  unfold PackPost
  rw [if_pos (by rw [HQ.out]; decide), ← HBX.out]
  exact ⟨Aj, cj, rfl, HN.out.from2 (HF0.out.and HFC.out (by simp))⟩
set_option maxHeartbeats 4000000 in
theorem refpack_8 (x : Wmg) (hq : x.q = 8) (w : World) (hx : x.Ok w []) (C : List Value) (hC : x.cells = C) :
  Calls Tryz.prog 5 #[.agg C.toArray] w (PackPost w x) := by
 obtain ⟨wa, hwa⟩ : ∃ wa, wa = w.alloc (Obj.cells C.toArray 61) := ⟨_, rfl⟩
 have hf0 : Fr [] w wa := by rw [hwa]; exact (Fr.refl [] w).alloc _
 have hb0 : Blk wa w.heap.size 61 x.cells.toArray := by rw [hwa, hC]; exact Blk.new _ _ _
 have hat : x.At wa w.heap.size := Wmg.at_of hb0.range hx
 have HCq : Hid (wa.cell? ⟨w.heap.size, 0 + 0, none⟩ = some (.int .i64 8)) := Lib.hid (by have h := hat.q 0 _ rfl; rw [hq] at h; simpa using h)
 have HCf : Hid (wa.cell? ⟨w.heap.size, 0 + 1, none⟩ = some (.int .i64 x.f)) := Lib.hid (by have h := hat.f 0 _ rfl; simpa using h)
 have HCt : Hid (wa.cell? ⟨w.heap.size, 0 + 2, none⟩ = some (.int .i64 x.t)) := Lib.hid (by have h := hat.t 0 _ rfl; simpa using h)
 have hcq : wa.cell? ⟨w.heap.size, 0, none⟩ = some (.int .i64 8) := by have h := hat.q 0 _ rfl; rw [hq] at h; simpa using h
 have HX := Lib.hid hx
 have HAT := Lib.hid hat
 have HF0 := Lib.hid hf0
 have HWA := Lib.hid hwa
 have HQ := Lib.hid hq
 have HKK : Hid (i64In 8) := Lib.hid (by unfold i64In; omega)
 have HSZ : Hid (w.heap.size < wa.heap.size) := Lib.hid hb0.lt
 clear hx hC hwa hf0 hb0 hat hq
 go_enter Tryz.func5, Tryz.ntmps5
 go_upto_region 1 with (fail)
 change Code.wp _ _ _ _ (w.alloc (Obj.cells C.toArray 61))
 rw [← HWA.out]
 go_upto_region 3 with (fail)
 go_cut [4] (fun s4 wx => ∃ A c, s4 = .slice A (encI 8 ++ encI x.f ++ encI x.t).length c ∧ NewB wa wx A (encI 8 ++ encI x.f ++ encI x.t).length c (encI 8 ++ encI x.f ++ encI x.t))
 case first =>
  refine wp_region_held_drew (S := Fr [] wa) (by kernel_rfl) (Fr.drew (Fr.refl _ wa)) (fun hHeld => ?_)
  have HFD : Hid (Fr [] wa wa.drew) := Lib.hid (Fr.drew (Fr.refl [] wa))
  generalize wa.drew = wd at *
  refine run_at (i := 0) (v := ?_) rfl (by kernel_rfl) (by rfl) (fun _ _ _ h => h) hHeld (fun w1 hw1 => ?_) ?_
  rotate_left 1
  · skip
    go_simp
    try first | with_reducible rfl | apply And.intro <;> rfl
  simp only [xPa, xPb, xPc, xPd, xPe]
  refine run_at (i := 1) (v := ?_) rfl (by kernel_rfl) (by rfl) (fun _ _ _ h => h) hHeld (fun w1 hw1 => ?_) ?_
  rotate_left 1
  · skip
    have hcw0 := hw1.cell (HCq.out) (by simp)
    go_simp
    try first | with_reducible rfl | apply And.intro <;> rfl
  simp only [xPa, xPb, xPc, xPd, xPe]
  refine run_at (i := 3) (v := ?_) rfl (by kernel_rfl) (by rfl) (fun _ _ _ h => h) hHeld (fun w1 hw1 => ?_) ?_
  rotate_left 1
  · skip
    go_simp
    try first | with_reducible rfl | apply And.intro <;> rfl
  simp only [xPa, xPb, xPc, xPd, xPe]
  refine run_at (i := 4) (v := ?_) rfl (by kernel_rfl) (by rfl) (fun _ _ _ h => h) hHeld (fun w1 hw1 => ?_) ?_
  rotate_left 1
  · skip
    have hcw0 := hw1.cell (HCf.out) (by simp)
    go_simp
    try first | with_reducible rfl | apply And.intro <;> rfl
  simp only [xPa, xPb, xPc, xPd, xPe]
  refine run_at (i := 6) (v := ?_) rfl (by kernel_rfl) (by rfl) (fun _ _ _ h => h) hHeld (fun w1 hw1 => ?_) ?_
  rotate_left 1
  · skip
    go_simp
    try first | with_reducible rfl | apply And.intro <;> rfl
  simp only [xPa, xPb, xPc, xPd, xPe]
  refine run_at (i := 7) (v := ?_) rfl (by kernel_rfl) (by rfl) (fun _ _ _ h => h) hHeld (fun w1 hw1 => ?_) ?_
  rotate_left 1
  · skip
    have hcw0 := hw1.cell (HCt.out) (by simp)
    go_simp
    try first | with_reducible rfl | apply And.intro <;> rfl
  simp only [xPa, xPb, xPc, xPd, xPe]
  refine call_at (i := 2) (f := ?_) (args := ?_) rfl (by kernel_rfl) (by rfl) ?_ ?_
  rotate_left 2
  · go_simp
    try first | with_reducible rfl | apply And.intro <;> rfl
  refine (refint_any (8) HKK.out.2 wd).mono ?_
  rintro e w2 ⟨A2x, c2x, rfl, hN⟩
  obtain ⟨n2x, hn2⟩ : ∃ nn_, nn_ = (encI (8)).length := ⟨_, rfl⟩
  obtain ⟨l2x, hl2⟩ : ∃ ll_, ll_ = encI (8) := ⟨_, rfl⟩
  rw [← hn2] at hN ⊢
  rw [← hl2] at hN
  have HB2x : Hid (n2x ≤ 20000) := Lib.hid (by rw [hn2]; have := encI_len (8) HKK.out.2; omega)
  have HL2 := Lib.hid hl2
  refine ⟨_, rfl, hHeld.go hN.2.1 (by simp), fun hHeld => ?_⟩
  simp only [xPa, xPb, xPc, xPd, xPe]
  have HY2x := Lib.hid hN.by
  have HFD := Lib.hid (HFD.out.and hN.2.1 (by simp))
  clear hN hn2 hl2
  refine call_at (i := 5) (f := ?_) (args := ?_) rfl (by kernel_rfl) (by rfl) ?_ ?_
  rotate_left 2
  · go_simp
    try first | with_reducible rfl | apply And.intro <;> rfl
  refine (refint_any (x.f) HX.out.f.2 w2).mono ?_
  rintro e w5 ⟨A5x, c5x, rfl, hN⟩
  obtain ⟨n5x, hn5⟩ : ∃ nn_, nn_ = (encI (x.f)).length := ⟨_, rfl⟩
  obtain ⟨l5x, hl5⟩ : ∃ ll_, ll_ = encI (x.f) := ⟨_, rfl⟩
  rw [← hn5] at hN ⊢
  rw [← hl5] at hN
  have HB5x : Hid (n5x ≤ 20000) := Lib.hid (by rw [hn5]; have := encI_len (x.f) HX.out.f.2; omega)
  have HL5 := Lib.hid hl5
  refine ⟨_, rfl, hHeld.go hN.2.1 (by simp), fun hHeld => ?_⟩
  simp only [xPa, xPb, xPc, xPd, xPe]
  have HY5x := Lib.hid hN.by
  have HFD := Lib.hid (HFD.out.and hN.2.1 (by simp))
  have HY2x := Lib.hid (Fr.byk hN.2.1 HY2x.out)
  clear hN hn5 hl5
  refine call_at (i := 8) (f := ?_) (args := ?_) rfl (by kernel_rfl) (by rfl) ?_ ?_
  rotate_left 2
  · go_simp
    try first | with_reducible rfl | apply And.intro <;> rfl
  refine (refint_any (x.t) HX.out.t.2 w5).mono ?_
  rintro e w8 ⟨A8x, c8x, rfl, hN⟩
  obtain ⟨n8x, hn8⟩ : ∃ nn_, nn_ = (encI (x.t)).length := ⟨_, rfl⟩
  obtain ⟨l8x, hl8⟩ : ∃ ll_, ll_ = encI (x.t) := ⟨_, rfl⟩
  rw [← hn8] at hN ⊢
  rw [← hl8] at hN
  have HB8x : Hid (n8x ≤ 20000) := Lib.hid (by rw [hn8]; have := encI_len (x.t) HX.out.t.2; omega)
  have HL8 := Lib.hid hl8
  refine ⟨_, rfl, hHeld.go hN.2.1 (by simp), fun hHeld => ?_⟩
  simp only [xPa, xPb, xPc, xPd, xPe]
  have HY8x := Lib.hid hN.by
  have HFD := Lib.hid (HFD.out.and hN.2.1 (by simp))
  have HY2x := Lib.hid (Fr.byk hN.2.1 HY2x.out)
  have HY5x := Lib.hid (Fr.byk hN.2.1 HY5x.out)
  clear hN hn8 hl8
  refine step_at (i := 9) rfl (by kernel_rfl) (by rfl) (fun K hK => ?_)
  refine wp_run (v := ?_) (w' := ?_) ?_ ?_
  rotate_left 2
  · go_simp
    try first | with_reducible rfl | apply And.intro <;> rfl
  refine hK.out _ (w8.alloc (Obj.cells #[.slice A2x n2x c2x, .slice A5x n5x c5x, .slice A8x n8x c8x] 52)) (hHeld.alloc _) (fun hHeld => ?_)
  clear hK K
  simp only [xPa, xPb, xPc, xPd, xPe]
  have hfb : Fr [] w8 (w8.alloc (Obj.cells #[.slice A2x n2x c2x, .slice A5x n5x c5x, .slice A8x n8x c8x] 52)) := (Fr.refl [] w8).alloc _
  have hbb : Blk (w8.alloc (Obj.cells #[.slice A2x n2x c2x, .slice A5x n5x c5x, .slice A8x n8x c8x] 52)) w8.heap.size 52 (([⟨A2x, n2x, c2x, l2x⟩, ⟨A5x, n5x, c5x, l5x⟩, ⟨A8x, n8x, c8x, l8x⟩] : List RowV).map RowV.val).toArray := Blk.new _ _ _
  generalize w8.alloc (Obj.cells #[.slice A2x n2x c2x, .slice A5x n5x c5x, .slice A8x n8x c8x] 52) = wj at *
  have HFD := Lib.hid (HFD.out.and hfb (by simp))
  have hj := join_big w8.heap.size 3 [⟨A2x, n2x, c2x, l2x⟩, ⟨A5x, n5x, c5x, l5x⟩, ⟨A8x, n8x, c8x, l8x⟩] wj hbb rfl (by omega) (by
   intro r hr
   simp only [List.mem_cons, List.not_mem_nil, or_false] at hr
   rcases hr with rfl | rfl | rfl
   · exact ⟨Fr.byk hfb HY2x.out, HB2x.out⟩
   · exact ⟨Fr.byk hfb HY5x.out, HB5x.out⟩
   · exact ⟨Fr.byk hfb HY8x.out, HB8x.out⟩)
  have hJ : joinL [⟨A2x, n2x, c2x, l2x⟩, ⟨A5x, n5x, c5x, l5x⟩, ⟨A8x, n8x, c8x, l8x⟩] = encI 8 ++ encI x.f ++ encI x.t := by
   simp only [joinL, List.map_cons, List.map_nil, List.flatten_cons, List.flatten_nil, HL2.out, HL5.out, HL8.out]
   simp [List.append_assoc]
  rw [hJ] at hj
  obtain ⟨X, hX⟩ : ∃ X, X = encI 8 ++ encI x.f ++ encI x.t := ⟨_, rfl⟩
  rw [← hX] at hj
  have HXT := Lib.hid hX
  clear hX
  have HJ := Lib.hid hj
  clear hfb hbb hj hJ HY2x HL2 HY5x HL5 HY8x HL8
  refine call_at (i := 10) (f := ?_) (args := ?_) rfl (by kernel_rfl) (by rfl) ?_ ?_
  rotate_left 2
  · go_simp
    try first | with_reducible rfl | apply And.intro <;> rfl
  refine HJ.out.mono ?_
  rintro e wk ⟨Aj, cj, rfl, hN⟩
  have HN := Lib.hid (hN.from2 HFD.out)
  refine ⟨_, rfl, hHeld.go hN.2.1 (by simp), fun hHeld => ?_⟩
  clear hN
  simp only [xPa, xPb, xPc, xPd, xPe]
  refine run_at (i := 11) (v := ?_) rfl (by kernel_rfl) (by rfl) (fun _ _ _ h => h) hHeld (fun w1 hw1 => ?_) ?_
  rotate_left 1
  · skip
    go_simp
    try first | with_reducible rfl | apply And.intro <;> rfl
  simp only [xPa, xPb, xPc, xPd, xPe]
  refine wpAnyH_done (by kernel_rfl) ?_ _
  go_wp2_with fail
  go_meet
  rw [← HXT.out]
  exact ⟨Aj, cj, rfl, HN.out⟩
 case rest =>
  obtain ⟨A0, c0, rfl, hn⟩ := hcut
  obtain ⟨n0, hn0⟩ : ∃ n0, n0 = (encI 8 ++ encI x.f ++ encI x.t).length := ⟨_, rfl⟩
  obtain ⟨l0, hl0⟩ : ∃ l0, l0 = encI 8 ++ encI x.f ++ encI x.t := ⟨_, rfl⟩
  rw [← hn0] at hn ⊢
  rw [← hl0] at hn
  have HN0 := Lib.hid hn
  have HB0l : Hid (n0 ≤ 20000) := Lib.hid (by rw [hn0]; have h1 := encI_len 8 HKK.out.2; have h2 := encI_len x.f HX.out.f.2; have h3 := encI_len x.t HX.out.t.2; simp only [List.length_append]; omega)
  have HL0 := Lib.hid hl0
  have HFC : Hid (Fr [] wa wc) := Lib.hid hn.2.1
  have hcq : wc.cell? ⟨w.heap.size, 0, none⟩ = some (.int .i64 8) := hn.2.1.cell hcq (by simp)
  have HY0 : Hid (By wc A0 n0 l0) := Lib.hid hn.by
  clear hn hn0 hl0 HCq HCf HCt
  obtain ⟨K, hK0⟩ : ∃ K, K = x.vt.cells := ⟨_, rfl⟩
  have HKL : Hid (K.length = 38) := Lib.hid (by rw [hK0]; exact Wvt.len HX.out.vt.h)
  have HRR : Hid (wc.rangeAt w.heap.size (0 + 174) K) := Lib.hid (by rw [hK0]; simpa using HFC.out.range HAT.out.vt (by simp))
  have HRK := Lib.hid hK0
  have HSG : Hid (wc.rangeAt w.heap.size (0 + 174 + 36) [.int .i64 x.vt.b, .int .i64 x.vt.m]) := Lib.hid (by simpa using HFC.out.range (Wvt.at_of (o := 174) HAT.out.vt HX.out.vt.h).sig (by simp))
  clear hK0
  go_upto_region 21 with (fail)
  refine wp_region_held_drew (S := Fr [] wc) (by kernel_rfl) (Fr.drew (Fr.refl _ wc)) (fun hHeld => ?_)
  have HFD : Hid (Fr [] wc wc.drew) := Lib.hid (Fr.drew (Fr.refl [] wc))
  have HY0 := Lib.hid (Fr.byk HFD.out HY0.out)
  generalize wc.drew = wd at *
  refine run_at (i := 0) (v := ?_) rfl (by kernel_rfl) (by rfl) (fun _ _ _ h => h) hHeld (fun w1 hw1 => ?_) ?_
  rotate_left 1
  · skip
    go_simp
    try first | with_reducible rfl | apply And.intro <;> rfl
  simp only [xPa, xPb, xPc, xPd, xPe]
  refine run_at (i := 1) (v := ?_) rfl (by kernel_rfl) (by rfl) (fun _ _ _ h => h) hHeld (fun w1 hw1 => ?_) ?_
  rotate_left 1
  · skip
    go_simp
    try first | with_reducible rfl | apply And.intro <;> rfl
  simp only [xPa, xPb, xPc, xPd, xPe]
  refine row_at (i := 2) rfl (by kernel_rfl) (by rfl) _ _ rfl _ _ rfl _ (fun w1 hw1 => hw1.range (HRR.out) (by simp)) (row_vtk.of HKL.out) (fun _ _ _ h => h) hHeld ?_
  simp only [xPa, xPb, xPc, xPd, xPe]
  refine run_at (i := 4) (v := ?_) rfl (by kernel_rfl) (by rfl) (fun _ _ _ h => h) hHeld (fun w1 hw1 => ?_) ?_
  rotate_left 1
  · skip
    go_simp
    try first | with_reducible rfl | apply And.intro <;> rfl
  simp only [xPa, xPb, xPc, xPd, xPe]
  refine run_at (i := 5) (v := ?_) rfl (by kernel_rfl) (by rfl) (fun _ _ _ h => h) hHeld (fun w1 hw1 => ?_) ?_
  rotate_left 1
  · skip
    go_simp
    try first | with_reducible rfl | apply And.intro <;> rfl
  simp only [xPa, xPb, xPc, xPd, xPe]
  refine row_at (i := 6) rfl (by kernel_rfl) (by rfl) _ _ rfl _ _ rfl _ (fun w1 hw1 => hw1.range (HSG.out) (by simp)) (row_sig) (fun _ _ _ h => h) hHeld ?_
  simp only [xPa, xPb, xPc, xPd, xPe]
  refine call_at (i := 3) (f := ?_) (args := ?_) rfl (by kernel_rfl) (by rfl) ?_ ?_
  rotate_left 2
  · go_simp
    try first | with_reducible rfl | apply And.intro <;> rfl
  refine (refbareVote_any x.vt HX.out.vt K HRK.out.symm wd).mono ?_
  rintro e w3 ⟨A3x, c3x, rfl, hN⟩
  obtain ⟨n3x, hn3⟩ : ∃ nn_, nn_ = (x.vt.bare).length := ⟨_, rfl⟩
  obtain ⟨l3x, hl3⟩ : ∃ ll_, ll_ = x.vt.bare := ⟨_, rfl⟩
  rw [← hn3] at hN ⊢
  rw [← hl3] at hN
  have HB3x : Hid (n3x ≤ 20000) := Lib.hid (by rw [hn3]; have := Wvt.bare_len HX.out.vt; omega)
  have HL3 := Lib.hid hl3
  refine ⟨_, rfl, hHeld.go hN.2.1 (by simp), fun hHeld => ?_⟩
  simp only [xPa, xPb, xPc, xPd, xPe]
  have HY3x := Lib.hid hN.by
  have HFD := Lib.hid (HFD.out.and hN.2.1 (by simp))
  have HY0 := Lib.hid (Fr.byk hN.2.1 HY0.out)
  clear hN hn3 hl3
  refine call_at (i := 7) (f := ?_) (args := ?_) rfl (by kernel_rfl) (by rfl) ?_ ?_
  rotate_left 2
  · go_simp
    try first | with_reducible rfl | apply And.intro <;> rfl
  refine (refsig_any x.vt.b x.vt.m HX.out.vt.b HX.out.vt.m w3).mono ?_
  rintro e w7 ⟨A7x, c7x, rfl, hN⟩
  obtain ⟨n7x, hn7⟩ : ∃ nn_, nn_ = (sgL x.vt.b x.vt.m).length := ⟨_, rfl⟩
  obtain ⟨l7x, hl7⟩ : ∃ ll_, ll_ = sgL x.vt.b x.vt.m := ⟨_, rfl⟩
  rw [← hn7] at hN ⊢
  rw [← hl7] at hN
  have HB7x : Hid (n7x ≤ 20000) := Lib.hid (by rw [hn7]; have := encI_len x.vt.b HX.out.vt.b.2; have := encI_len x.vt.m HX.out.vt.m.2; simp only [sgL, List.length_append]; omega)
  have HL7 := Lib.hid hl7
  refine ⟨_, rfl, hHeld.go hN.2.1 (by simp), fun hHeld => ?_⟩
  simp only [xPa, xPb, xPc, xPd, xPe]
  have HY7x := Lib.hid hN.by
  have HFD := Lib.hid (HFD.out.and hN.2.1 (by simp))
  have HY3x := Lib.hid (Fr.byk hN.2.1 HY3x.out)
  have HY0 := Lib.hid (Fr.byk hN.2.1 HY0.out)
  clear hN hn7 hl7
  refine step_at (i := 8) rfl (by kernel_rfl) (by rfl) (fun K hK => ?_)
  refine wp_run (v := ?_) (w' := ?_) ?_ ?_
  rotate_left 2
  · go_simp
    try first | with_reducible rfl | apply And.intro <;> rfl
  refine hK.out _ (w7.alloc (Obj.cells #[.slice A0 n0 c0, .slice A3x n3x c3x, .slice A7x n7x c7x] 52)) (hHeld.alloc _) (fun hHeld => ?_)
  clear hK K
  simp only [xPa, xPb, xPc, xPd, xPe]
  have hfb : Fr [] w7 (w7.alloc (Obj.cells #[.slice A0 n0 c0, .slice A3x n3x c3x, .slice A7x n7x c7x] 52)) := (Fr.refl [] w7).alloc _
  have hbb : Blk (w7.alloc (Obj.cells #[.slice A0 n0 c0, .slice A3x n3x c3x, .slice A7x n7x c7x] 52)) w7.heap.size 52 (([⟨A0, n0, c0, l0⟩, ⟨A3x, n3x, c3x, l3x⟩, ⟨A7x, n7x, c7x, l7x⟩] : List RowV).map RowV.val).toArray := Blk.new _ _ _
  generalize w7.alloc (Obj.cells #[.slice A0 n0 c0, .slice A3x n3x c3x, .slice A7x n7x c7x] 52) = wj at *
  have HFD := Lib.hid (HFD.out.and hfb (by simp))
  have hj := join_big w7.heap.size 3 [⟨A0, n0, c0, l0⟩, ⟨A3x, n3x, c3x, l3x⟩, ⟨A7x, n7x, c7x, l7x⟩] wj hbb rfl (by omega) (by
   intro r hr
   simp only [List.mem_cons, List.not_mem_nil, or_false] at hr
   rcases hr with rfl | rfl | rfl
   · exact ⟨Fr.byk hfb HY0.out, HB0l.out⟩
   · exact ⟨Fr.byk hfb HY3x.out, HB3x.out⟩
   · exact ⟨Fr.byk hfb HY7x.out, HB7x.out⟩)
  have hJ : joinL [⟨A0, n0, c0, l0⟩, ⟨A3x, n3x, c3x, l3x⟩, ⟨A7x, n7x, c7x, l7x⟩] = l0 ++ x.vt.full := by
   simp only [joinL, List.map_cons, List.map_nil, List.flatten_cons, List.flatten_nil, HL3.out, HL7.out]
   simp [Wvt.full]
  rw [hJ] at hj
  obtain ⟨X, hX⟩ : ∃ X, X = l0 ++ x.vt.full := ⟨_, rfl⟩
  rw [← hX] at hj
  have HXT := Lib.hid hX
  clear hX
  have HJ := Lib.hid hj
  clear hfb hbb hj hJ HY3x HL3 HY7x HL7
  refine call_at (i := 9) (f := ?_) (args := ?_) rfl (by kernel_rfl) (by rfl) ?_ ?_
  rotate_left 2
  · go_simp
    try first | with_reducible rfl | apply And.intro <;> rfl
  refine HJ.out.mono ?_
  rintro e wk ⟨Aj, cj, rfl, hN⟩
  have HN := Lib.hid (hN.from2 HFD.out)
  refine ⟨_, rfl, hHeld.go hN.2.1 (by simp), fun hHeld => ?_⟩
  clear hN
  simp only [xPa, xPb, xPc, xPd, xPe]
  refine run_at (i := 10) (v := ?_) rfl (by kernel_rfl) (by rfl) (fun _ _ _ h => h) hHeld (fun w1 hw1 => ?_) ?_
  rotate_left 1
  · skip
    go_simp
    try first | with_reducible rfl | apply And.intro <;> rfl
  simp only [xPa, xPb, xPc, xPd, xPe]
  refine wpAnyH_done (by kernel_rfl) ?_ _
  have HBX : Hid (X = x.bytes) := Lib.hid (by rw [HXT.out, HL0.out]; unfold Wmg.bytes; rw [Wmg.body_8 HQ.out, HQ.out])
  have hxl : X.length ≤ 15030 := by rw [HBX.out]; exact Wmg.bytes_len HX.out
  have hd : decide ((65536 : Int) < (X.length : Int)) = false := by simp; omega
  go_wp2_with fail
  go_ret2
  unfold PackPost
  rw [if_pos (by rw [HQ.out]; decide), ← HBX.out]
  exact ⟨Aj, cj, rfl, HN.out.from2 (HF0.out.and HFC.out (by simp))⟩
set_option maxHeartbeats 4000000 in
theorem refpack_5 (x : Wmg) (hq : x.q = 5) (w : World) (hx : x.Ok w []) (C : List Value) (hC : x.cells = C) :
  Calls Tryz.prog 5 #[.agg C.toArray] w (PackPost w x) := by
 obtain ⟨wa, hwa⟩ : ∃ wa, wa = w.alloc (Obj.cells C.toArray 61) := ⟨_, rfl⟩
 have hf0 : Fr [] w wa := by rw [hwa]; exact (Fr.refl [] w).alloc _
 have hb0 : Blk wa w.heap.size 61 x.cells.toArray := by rw [hwa, hC]; exact Blk.new _ _ _
 have hat : x.At wa w.heap.size := Wmg.at_of hb0.range hx
 have HCq : Hid (wa.cell? ⟨w.heap.size, 0 + 0, none⟩ = some (.int .i64 5)) := Lib.hid (by have h := hat.q 0 _ rfl; rw [hq] at h; simpa using h)
 have HCf : Hid (wa.cell? ⟨w.heap.size, 0 + 1, none⟩ = some (.int .i64 x.f)) := Lib.hid (by have h := hat.f 0 _ rfl; simpa using h)
 have HCt : Hid (wa.cell? ⟨w.heap.size, 0 + 2, none⟩ = some (.int .i64 x.t)) := Lib.hid (by have h := hat.t 0 _ rfl; simpa using h)
 have hcq : wa.cell? ⟨w.heap.size, 0, none⟩ = some (.int .i64 5) := by have h := hat.q 0 _ rfl; rw [hq] at h; simpa using h
 have HX := Lib.hid hx
 have HAT := Lib.hid hat
 have HF0 := Lib.hid hf0
 have HWA := Lib.hid hwa
 have HQ := Lib.hid hq
 have HKK : Hid (i64In 5) := Lib.hid (by unfold i64In; omega)
 have HSZ : Hid (w.heap.size < wa.heap.size) := Lib.hid hb0.lt
 clear hx hC hwa hf0 hb0 hat hq
 go_enter Tryz.func5, Tryz.ntmps5
 go_upto_region 1 with (fail)
 change Code.wp _ _ _ _ (w.alloc (Obj.cells C.toArray 61))
 rw [← HWA.out]
 go_upto_region 3 with (fail)
 go_cut [4] (fun s4 wx => ∃ A c, s4 = .slice A (encI 5 ++ encI x.f ++ encI x.t).length c ∧ NewB wa wx A (encI 5 ++ encI x.f ++ encI x.t).length c (encI 5 ++ encI x.f ++ encI x.t))
 case first =>
  refine wp_region_held_drew (S := Fr [] wa) (by kernel_rfl) (Fr.drew (Fr.refl _ wa)) (fun hHeld => ?_)
  have HFD : Hid (Fr [] wa wa.drew) := Lib.hid (Fr.drew (Fr.refl [] wa))
  generalize wa.drew = wd at *
  refine run_at (i := 0) (v := ?_) rfl (by kernel_rfl) (by rfl) (fun _ _ _ h => h) hHeld (fun w1 hw1 => ?_) ?_
  rotate_left 1
  · skip
    go_simp
    try first | with_reducible rfl | apply And.intro <;> rfl
  simp only [xPa, xPb, xPc, xPd, xPe]
  refine run_at (i := 1) (v := ?_) rfl (by kernel_rfl) (by rfl) (fun _ _ _ h => h) hHeld (fun w1 hw1 => ?_) ?_
  rotate_left 1
  · skip
    have hcw0 := hw1.cell (HCq.out) (by simp)
    go_simp
    try first | with_reducible rfl | apply And.intro <;> rfl
  simp only [xPa, xPb, xPc, xPd, xPe]
  refine run_at (i := 3) (v := ?_) rfl (by kernel_rfl) (by rfl) (fun _ _ _ h => h) hHeld (fun w1 hw1 => ?_) ?_
  rotate_left 1
  · skip
    go_simp
    try first | with_reducible rfl | apply And.intro <;> rfl
  simp only [xPa, xPb, xPc, xPd, xPe]
  refine run_at (i := 4) (v := ?_) rfl (by kernel_rfl) (by rfl) (fun _ _ _ h => h) hHeld (fun w1 hw1 => ?_) ?_
  rotate_left 1
  · skip
    have hcw0 := hw1.cell (HCf.out) (by simp)
    go_simp
    try first | with_reducible rfl | apply And.intro <;> rfl
  simp only [xPa, xPb, xPc, xPd, xPe]
  refine run_at (i := 6) (v := ?_) rfl (by kernel_rfl) (by rfl) (fun _ _ _ h => h) hHeld (fun w1 hw1 => ?_) ?_
  rotate_left 1
  · skip
    go_simp
    try first | with_reducible rfl | apply And.intro <;> rfl
  simp only [xPa, xPb, xPc, xPd, xPe]
  refine run_at (i := 7) (v := ?_) rfl (by kernel_rfl) (by rfl) (fun _ _ _ h => h) hHeld (fun w1 hw1 => ?_) ?_
  rotate_left 1
  · skip
    have hcw0 := hw1.cell (HCt.out) (by simp)
    go_simp
    try first | with_reducible rfl | apply And.intro <;> rfl
  simp only [xPa, xPb, xPc, xPd, xPe]
  refine call_at (i := 2) (f := ?_) (args := ?_) rfl (by kernel_rfl) (by rfl) ?_ ?_
  rotate_left 2
  · go_simp
    try first | with_reducible rfl | apply And.intro <;> rfl
  refine (refint_any (5) HKK.out.2 wd).mono ?_
  rintro e w2 ⟨A2x, c2x, rfl, hN⟩
  obtain ⟨n2x, hn2⟩ : ∃ nn_, nn_ = (encI (5)).length := ⟨_, rfl⟩
  obtain ⟨l2x, hl2⟩ : ∃ ll_, ll_ = encI (5) := ⟨_, rfl⟩
  rw [← hn2] at hN ⊢
  rw [← hl2] at hN
  have HB2x : Hid (n2x ≤ 20000) := Lib.hid (by rw [hn2]; have := encI_len (5) HKK.out.2; omega)
  have HL2 := Lib.hid hl2
  refine ⟨_, rfl, hHeld.go hN.2.1 (by simp), fun hHeld => ?_⟩
  simp only [xPa, xPb, xPc, xPd, xPe]
  have HY2x := Lib.hid hN.by
  have HFD := Lib.hid (HFD.out.and hN.2.1 (by simp))
  clear hN hn2 hl2
  refine call_at (i := 5) (f := ?_) (args := ?_) rfl (by kernel_rfl) (by rfl) ?_ ?_
  rotate_left 2
  · go_simp
    try first | with_reducible rfl | apply And.intro <;> rfl
  refine (refint_any (x.f) HX.out.f.2 w2).mono ?_
  rintro e w5 ⟨A5x, c5x, rfl, hN⟩
  obtain ⟨n5x, hn5⟩ : ∃ nn_, nn_ = (encI (x.f)).length := ⟨_, rfl⟩
  obtain ⟨l5x, hl5⟩ : ∃ ll_, ll_ = encI (x.f) := ⟨_, rfl⟩
  rw [← hn5] at hN ⊢
  rw [← hl5] at hN
  have HB5x : Hid (n5x ≤ 20000) := Lib.hid (by rw [hn5]; have := encI_len (x.f) HX.out.f.2; omega)
  have HL5 := Lib.hid hl5
  refine ⟨_, rfl, hHeld.go hN.2.1 (by simp), fun hHeld => ?_⟩
  simp only [xPa, xPb, xPc, xPd, xPe]
  have HY5x := Lib.hid hN.by
  have HFD := Lib.hid (HFD.out.and hN.2.1 (by simp))
  have HY2x := Lib.hid (Fr.byk hN.2.1 HY2x.out)
  clear hN hn5 hl5
  refine call_at (i := 8) (f := ?_) (args := ?_) rfl (by kernel_rfl) (by rfl) ?_ ?_
  rotate_left 2
  · go_simp
    try first | with_reducible rfl | apply And.intro <;> rfl
  refine (refint_any (x.t) HX.out.t.2 w5).mono ?_
  rintro e w8 ⟨A8x, c8x, rfl, hN⟩
  obtain ⟨n8x, hn8⟩ : ∃ nn_, nn_ = (encI (x.t)).length := ⟨_, rfl⟩
  obtain ⟨l8x, hl8⟩ : ∃ ll_, ll_ = encI (x.t) := ⟨_, rfl⟩
  rw [← hn8] at hN ⊢
  rw [← hl8] at hN
  have HB8x : Hid (n8x ≤ 20000) := Lib.hid (by rw [hn8]; have := encI_len (x.t) HX.out.t.2; omega)
  have HL8 := Lib.hid hl8
  refine ⟨_, rfl, hHeld.go hN.2.1 (by simp), fun hHeld => ?_⟩
  simp only [xPa, xPb, xPc, xPd, xPe]
  have HY8x := Lib.hid hN.by
  have HFD := Lib.hid (HFD.out.and hN.2.1 (by simp))
  have HY2x := Lib.hid (Fr.byk hN.2.1 HY2x.out)
  have HY5x := Lib.hid (Fr.byk hN.2.1 HY5x.out)
  clear hN hn8 hl8
  refine step_at (i := 9) rfl (by kernel_rfl) (by rfl) (fun K hK => ?_)
  refine wp_run (v := ?_) (w' := ?_) ?_ ?_
  rotate_left 2
  · go_simp
    try first | with_reducible rfl | apply And.intro <;> rfl
  refine hK.out _ (w8.alloc (Obj.cells #[.slice A2x n2x c2x, .slice A5x n5x c5x, .slice A8x n8x c8x] 52)) (hHeld.alloc _) (fun hHeld => ?_)
  clear hK K
  simp only [xPa, xPb, xPc, xPd, xPe]
  have hfb : Fr [] w8 (w8.alloc (Obj.cells #[.slice A2x n2x c2x, .slice A5x n5x c5x, .slice A8x n8x c8x] 52)) := (Fr.refl [] w8).alloc _
  have hbb : Blk (w8.alloc (Obj.cells #[.slice A2x n2x c2x, .slice A5x n5x c5x, .slice A8x n8x c8x] 52)) w8.heap.size 52 (([⟨A2x, n2x, c2x, l2x⟩, ⟨A5x, n5x, c5x, l5x⟩, ⟨A8x, n8x, c8x, l8x⟩] : List RowV).map RowV.val).toArray := Blk.new _ _ _
  generalize w8.alloc (Obj.cells #[.slice A2x n2x c2x, .slice A5x n5x c5x, .slice A8x n8x c8x] 52) = wj at *
  have HFD := Lib.hid (HFD.out.and hfb (by simp))
  have hj := join_big w8.heap.size 3 [⟨A2x, n2x, c2x, l2x⟩, ⟨A5x, n5x, c5x, l5x⟩, ⟨A8x, n8x, c8x, l8x⟩] wj hbb rfl (by omega) (by
   intro r hr
   simp only [List.mem_cons, List.not_mem_nil, or_false] at hr
   rcases hr with rfl | rfl | rfl
   · exact ⟨Fr.byk hfb HY2x.out, HB2x.out⟩
   · exact ⟨Fr.byk hfb HY5x.out, HB5x.out⟩
   · exact ⟨Fr.byk hfb HY8x.out, HB8x.out⟩)
  have hJ : joinL [⟨A2x, n2x, c2x, l2x⟩, ⟨A5x, n5x, c5x, l5x⟩, ⟨A8x, n8x, c8x, l8x⟩] = encI 5 ++ encI x.f ++ encI x.t := by
   simp only [joinL, List.map_cons, List.map_nil, List.flatten_cons, List.flatten_nil, HL2.out, HL5.out, HL8.out]
   simp [List.append_assoc]
  rw [hJ] at hj
  obtain ⟨X, hX⟩ : ∃ X, X = encI 5 ++ encI x.f ++ encI x.t := ⟨_, rfl⟩
  rw [← hX] at hj
  have HXT := Lib.hid hX
  clear hX
  have HJ := Lib.hid hj
  clear hfb hbb hj hJ HY2x HL2 HY5x HL5 HY8x HL8
  refine call_at (i := 10) (f := ?_) (args := ?_) rfl (by kernel_rfl) (by rfl) ?_ ?_
  rotate_left 2
  · go_simp
    try first | with_reducible rfl | apply And.intro <;> rfl
  refine HJ.out.mono ?_
  rintro e wk ⟨Aj, cj, rfl, hN⟩
  have HN := Lib.hid (hN.from2 HFD.out)
  refine ⟨_, rfl, hHeld.go hN.2.1 (by simp), fun hHeld => ?_⟩
  clear hN
  simp only [xPa, xPb, xPc, xPd, xPe]
  refine run_at (i := 11) (v := ?_) rfl (by kernel_rfl) (by rfl) (fun _ _ _ h => h) hHeld (fun w1 hw1 => ?_) ?_
  rotate_left 1
  · skip
    go_simp
    try first | with_reducible rfl | apply And.intro <;> rfl
  simp only [xPa, xPb, xPc, xPd, xPe]
  refine wpAnyH_done (by kernel_rfl) ?_ _
  go_wp2_with fail
  go_meet
  rw [← HXT.out]
  exact ⟨Aj, cj, rfl, HN.out⟩
 case rest =>
  obtain ⟨A0, c0, rfl, hn⟩ := hcut
  obtain ⟨n0, hn0⟩ : ∃ n0, n0 = (encI 5 ++ encI x.f ++ encI x.t).length := ⟨_, rfl⟩
  obtain ⟨l0, hl0⟩ : ∃ l0, l0 = encI 5 ++ encI x.f ++ encI x.t := ⟨_, rfl⟩
  rw [← hn0] at hn ⊢
  rw [← hl0] at hn
  have HN0 := Lib.hid hn
  have HB0l : Hid (n0 ≤ 20000) := Lib.hid (by rw [hn0]; have h1 := encI_len 5 HKK.out.2; have h2 := encI_len x.f HX.out.f.2; have h3 := encI_len x.t HX.out.t.2; simp only [List.length_append]; omega)
  have HL0 := Lib.hid hl0
  have HFC : Hid (Fr [] wa wc) := Lib.hid hn.2.1
  have hcq : wc.cell? ⟨w.heap.size, 0, none⟩ = some (.int .i64 5) := hn.2.1.cell hcq (by simp)
  have HY0 : Hid (By wc A0 n0 l0) := Lib.hid hn.by
  clear hn hn0 hl0 HCq HCf HCt
  have HCe : Hid (wc.cell? ⟨w.heap.size, 0 + 154, none⟩ = some (.int .i64 x.e)) := Lib.hid (HFC.out.cell (by have h := HAT.out.e 0 _ rfl; simpa using h) (by simp))
  have HCr : Hid (wc.cell? ⟨w.heap.size, 0 + 155, none⟩ = some (.int .i64 x.r)) := Lib.hid (HFC.out.cell (by have h := HAT.out.r 0 _ rfl; simpa using h) (by simp))
  have HCm : Hid (wc.cell? ⟨w.heap.size, 0 + 156, none⟩ = some (.int .u64 (x.tm : Int))) := Lib.hid (HFC.out.cell (by have h := HAT.out.tm 0 _ rfl; simpa using h) (by simp))
  go_upto_region 14 with (fail)
  refine wp_region_held_drew (S := Fr [] wc) (by kernel_rfl) (Fr.drew (Fr.refl _ wc)) (fun hHeld => ?_)
  have HFD : Hid (Fr [] wc wc.drew) := Lib.hid (Fr.drew (Fr.refl [] wc))
  have HY0 := Lib.hid (Fr.byk HFD.out HY0.out)
  generalize wc.drew = wd at *
  refine run_at (i := 0) (v := ?_) rfl (by kernel_rfl) (by rfl) (fun _ _ _ h => h) hHeld (fun w1 hw1 => ?_) ?_
  rotate_left 1
  · skip
    go_simp
    try first | with_reducible rfl | apply And.intro <;> rfl
  simp only [xPa, xPb, xPc, xPd, xPe]
  refine run_at (i := 1) (v := ?_) rfl (by kernel_rfl) (by rfl) (fun _ _ _ h => h) hHeld (fun w1 hw1 => ?_) ?_
  rotate_left 1
  · skip
    go_simp
    try first | with_reducible rfl | apply And.intro <;> rfl
  simp only [xPa, xPb, xPc, xPd, xPe]
  refine run_at (i := 2) (v := ?_) rfl (by kernel_rfl) (by rfl) (fun _ _ _ h => h) hHeld (fun w1 hw1 => ?_) ?_
  rotate_left 1
  · skip
    have hcw0 := hw1.cell (HCe.out) (by simp)
    go_simp
    try first | with_reducible rfl | apply And.intro <;> rfl
  simp only [xPa, xPb, xPc, xPd, xPe]
  refine run_at (i := 4) (v := ?_) rfl (by kernel_rfl) (by rfl) (fun _ _ _ h => h) hHeld (fun w1 hw1 => ?_) ?_
  rotate_left 1
  · skip
    go_simp
    try first | with_reducible rfl | apply And.intro <;> rfl
  simp only [xPa, xPb, xPc, xPd, xPe]
  refine run_at (i := 5) (v := ?_) rfl (by kernel_rfl) (by rfl) (fun _ _ _ h => h) hHeld (fun w1 hw1 => ?_) ?_
  rotate_left 1
  · skip
    have hcw0 := hw1.cell (HCr.out) (by simp)
    go_simp
    try first | with_reducible rfl | apply And.intro <;> rfl
  simp only [xPa, xPb, xPc, xPd, xPe]
  refine run_at (i := 7) (v := ?_) rfl (by kernel_rfl) (by rfl) (fun _ _ _ h => h) hHeld (fun w1 hw1 => ?_) ?_
  rotate_left 1
  · skip
    go_simp
    try first | with_reducible rfl | apply And.intro <;> rfl
  simp only [xPa, xPb, xPc, xPd, xPe]
  refine run_at (i := 8) (v := ?_) rfl (by kernel_rfl) (by rfl) (fun _ _ _ h => h) hHeld (fun w1 hw1 => ?_) ?_
  rotate_left 1
  · skip
    have hcw0 := hw1.cell (HCm.out) (by simp)
    go_simp
    try first | with_reducible rfl | apply And.intro <;> rfl
  simp only [xPa, xPb, xPc, xPd, xPe]
  refine call_at (i := 3) (f := ?_) (args := ?_) rfl (by kernel_rfl) (by rfl) ?_ ?_
  rotate_left 2
  · go_simp
    try first | with_reducible rfl | apply And.intro <;> rfl
  refine (refint_any (x.e) HX.out.e.2 wd).mono ?_
  rintro e w3 ⟨A3x, c3x, rfl, hN⟩
  obtain ⟨n3x, hn3⟩ : ∃ nn_, nn_ = (encI (x.e)).length := ⟨_, rfl⟩
  obtain ⟨l3x, hl3⟩ : ∃ ll_, ll_ = encI (x.e) := ⟨_, rfl⟩
  rw [← hn3] at hN ⊢
  rw [← hl3] at hN
  have HB3x : Hid (n3x ≤ 20000) := Lib.hid (by rw [hn3]; have := encI_len (x.e) HX.out.e.2; omega)
  have HL3 := Lib.hid hl3
  refine ⟨_, rfl, hHeld.go hN.2.1 (by simp), fun hHeld => ?_⟩
  simp only [xPa, xPb, xPc, xPd, xPe]
  have HY3x := Lib.hid hN.by
  have HFD := Lib.hid (HFD.out.and hN.2.1 (by simp))
  have HY0 := Lib.hid (Fr.byk hN.2.1 HY0.out)
  clear hN hn3 hl3
  refine call_at (i := 6) (f := ?_) (args := ?_) rfl (by kernel_rfl) (by rfl) ?_ ?_
  rotate_left 2
  · go_simp
    try first | with_reducible rfl | apply And.intro <;> rfl
  refine (refint_any (x.r) HX.out.r.2 w3).mono ?_
  rintro e w6 ⟨A6x, c6x, rfl, hN⟩
  obtain ⟨n6x, hn6⟩ : ∃ nn_, nn_ = (encI (x.r)).length := ⟨_, rfl⟩
  obtain ⟨l6x, hl6⟩ : ∃ ll_, ll_ = encI (x.r) := ⟨_, rfl⟩
  rw [← hn6] at hN ⊢
  rw [← hl6] at hN
  have HB6x : Hid (n6x ≤ 20000) := Lib.hid (by rw [hn6]; have := encI_len (x.r) HX.out.r.2; omega)
  have HL6 := Lib.hid hl6
  refine ⟨_, rfl, hHeld.go hN.2.1 (by simp), fun hHeld => ?_⟩
  simp only [xPa, xPb, xPc, xPd, xPe]
  have HY6x := Lib.hid hN.by
  have HFD := Lib.hid (HFD.out.and hN.2.1 (by simp))
  have HY3x := Lib.hid (Fr.byk hN.2.1 HY3x.out)
  have HY0 := Lib.hid (Fr.byk hN.2.1 HY0.out)
  clear hN hn6 hl6
  refine call_at (i := 9) (f := ?_) (args := ?_) rfl (by kernel_rfl) (by rfl) ?_ ?_
  rotate_left 2
  · go_simp
    try first | with_reducible rfl | apply And.intro <;> rfl
  refine (refnum_any x.tm HX.out.tm w6).mono ?_
  rintro e w9 ⟨A9x, c9x, rfl, hN⟩
  obtain ⟨n9x, hn9⟩ : ∃ nn_, nn_ = (enc x.tm).length := ⟨_, rfl⟩
  obtain ⟨l9x, hl9⟩ : ∃ ll_, ll_ = enc x.tm := ⟨_, rfl⟩
  rw [← hn9] at hN ⊢
  rw [← hl9] at hN
  have HB9x : Hid (n9x ≤ 20000) := Lib.hid (by rw [hn9]; have := enc_ten HX.out.tm; omega)
  have HL9 := Lib.hid hl9
  refine ⟨_, rfl, hHeld.go hN.2.1 (by simp), fun hHeld => ?_⟩
  simp only [xPa, xPb, xPc, xPd, xPe]
  have HY9x := Lib.hid hN.by
  have HFD := Lib.hid (HFD.out.and hN.2.1 (by simp))
  have HY3x := Lib.hid (Fr.byk hN.2.1 HY3x.out)
  have HY6x := Lib.hid (Fr.byk hN.2.1 HY6x.out)
  have HY0 := Lib.hid (Fr.byk hN.2.1 HY0.out)
  clear hN hn9 hl9
  refine step_at (i := 10) rfl (by kernel_rfl) (by rfl) (fun K hK => ?_)
  refine wp_run (v := ?_) (w' := ?_) ?_ ?_
  rotate_left 2
  · go_simp
    try first | with_reducible rfl | apply And.intro <;> rfl
  refine hK.out _ (w9.alloc (Obj.cells #[.slice A0 n0 c0, .slice A3x n3x c3x, .slice A6x n6x c6x, .slice A9x n9x c9x] 52)) (hHeld.alloc _) (fun hHeld => ?_)
  clear hK K
  simp only [xPa, xPb, xPc, xPd, xPe]
  have hfb : Fr [] w9 (w9.alloc (Obj.cells #[.slice A0 n0 c0, .slice A3x n3x c3x, .slice A6x n6x c6x, .slice A9x n9x c9x] 52)) := (Fr.refl [] w9).alloc _
  have hbb : Blk (w9.alloc (Obj.cells #[.slice A0 n0 c0, .slice A3x n3x c3x, .slice A6x n6x c6x, .slice A9x n9x c9x] 52)) w9.heap.size 52 (([⟨A0, n0, c0, l0⟩, ⟨A3x, n3x, c3x, l3x⟩, ⟨A6x, n6x, c6x, l6x⟩, ⟨A9x, n9x, c9x, l9x⟩] : List RowV).map RowV.val).toArray := Blk.new _ _ _
  generalize w9.alloc (Obj.cells #[.slice A0 n0 c0, .slice A3x n3x c3x, .slice A6x n6x c6x, .slice A9x n9x c9x] 52) = wj at *
  have HFD := Lib.hid (HFD.out.and hfb (by simp))
  have hj := join_big w9.heap.size 4 [⟨A0, n0, c0, l0⟩, ⟨A3x, n3x, c3x, l3x⟩, ⟨A6x, n6x, c6x, l6x⟩, ⟨A9x, n9x, c9x, l9x⟩] wj hbb rfl (by omega) (by
   intro r hr
   simp only [List.mem_cons, List.not_mem_nil, or_false] at hr
   rcases hr with rfl | rfl | rfl | rfl
   · exact ⟨Fr.byk hfb HY0.out, HB0l.out⟩
   · exact ⟨Fr.byk hfb HY3x.out, HB3x.out⟩
   · exact ⟨Fr.byk hfb HY6x.out, HB6x.out⟩
   · exact ⟨Fr.byk hfb HY9x.out, HB9x.out⟩)
  have hJ : joinL [⟨A0, n0, c0, l0⟩, ⟨A3x, n3x, c3x, l3x⟩, ⟨A6x, n6x, c6x, l6x⟩, ⟨A9x, n9x, c9x, l9x⟩] = l0 ++ (encI x.e ++ encI x.r ++ enc x.tm) := by
   simp only [joinL, List.map_cons, List.map_nil, List.flatten_cons, List.flatten_nil, HL3.out, HL6.out, HL9.out]
   simp [List.append_assoc]
  rw [hJ] at hj
  obtain ⟨X, hX⟩ : ∃ X, X = l0 ++ (encI x.e ++ encI x.r ++ enc x.tm) := ⟨_, rfl⟩
  rw [← hX] at hj
  have HXT := Lib.hid hX
  clear hX
  have HJ := Lib.hid hj
  clear hfb hbb hj hJ HY3x HL3 HY6x HL6 HY9x HL9
  refine call_at (i := 11) (f := ?_) (args := ?_) rfl (by kernel_rfl) (by rfl) ?_ ?_
  rotate_left 2
  · go_simp
    try first | with_reducible rfl | apply And.intro <;> rfl
  refine HJ.out.mono ?_
  rintro e wk ⟨Aj, cj, rfl, hN⟩
  have HN := Lib.hid (hN.from2 HFD.out)
  refine ⟨_, rfl, hHeld.go hN.2.1 (by simp), fun hHeld => ?_⟩
  clear hN
  simp only [xPa, xPb, xPc, xPd, xPe]
  refine run_at (i := 12) (v := ?_) rfl (by kernel_rfl) (by rfl) (fun _ _ _ h => h) hHeld (fun w1 hw1 => ?_) ?_
  rotate_left 1
  · skip
    go_simp
    try first | with_reducible rfl | apply And.intro <;> rfl
  simp only [xPa, xPb, xPc, xPd, xPe]
  refine wpAnyH_done (by kernel_rfl) ?_ _
  have HBX : Hid (X = x.bytes) := Lib.hid (by rw [HXT.out, HL0.out]; unfold Wmg.bytes; rw [Wmg.body_5 HQ.out, HQ.out])
  have hxl : X.length ≤ 15030 := by rw [HBX.out]; exact Wmg.bytes_len HX.out
  have hd : decide ((65536 : Int) < (X.length : Int)) = false := by simp; omega
  go_wp2_with fail
  go_ret2
  unfold PackPost
  rw [if_pos (by rw [HQ.out]; decide), ← HBX.out]
  exact ⟨Aj, cj, rfl, HN.out.from2 (HF0.out.and HFC.out (by simp))⟩
set_option maxHeartbeats 4000000 in
theorem refpack_11 (x : Wmg) (hq : x.q = 11) (w : World) (hx : x.Ok w []) (C : List Value) (hC : x.cells = C) :
  Calls Tryz.prog 5 #[.agg C.toArray] w (PackPost w x) := by
 obtain ⟨wa, hwa⟩ : ∃ wa, wa = w.alloc (Obj.cells C.toArray 61) := ⟨_, rfl⟩
 have hf0 : Fr [] w wa := by rw [hwa]; exact (Fr.refl [] w).alloc _
 have hb0 : Blk wa w.heap.size 61 x.cells.toArray := by rw [hwa, hC]; exact Blk.new _ _ _
 have hat : x.At wa w.heap.size := Wmg.at_of hb0.range hx
 have HCq : Hid (wa.cell? ⟨w.heap.size, 0 + 0, none⟩ = some (.int .i64 11)) := Lib.hid (by have h := hat.q 0 _ rfl; rw [hq] at h; simpa using h)
 have HCf : Hid (wa.cell? ⟨w.heap.size, 0 + 1, none⟩ = some (.int .i64 x.f)) := Lib.hid (by have h := hat.f 0 _ rfl; simpa using h)
 have HCt : Hid (wa.cell? ⟨w.heap.size, 0 + 2, none⟩ = some (.int .i64 x.t)) := Lib.hid (by have h := hat.t 0 _ rfl; simpa using h)
 have hcq : wa.cell? ⟨w.heap.size, 0, none⟩ = some (.int .i64 11) := by have h := hat.q 0 _ rfl; rw [hq] at h; simpa using h
 have HX := Lib.hid hx
 have HAT := Lib.hid hat
 have HF0 := Lib.hid hf0
 have HWA := Lib.hid hwa
 have HQ := Lib.hid hq
 have HKK : Hid (i64In 11) := Lib.hid (by unfold i64In; omega)
 have HSZ : Hid (w.heap.size < wa.heap.size) := Lib.hid hb0.lt
 clear hx hC hwa hf0 hb0 hat hq
 go_enter Tryz.func5, Tryz.ntmps5
 go_upto_region 1 with (fail)
 change Code.wp _ _ _ _ (w.alloc (Obj.cells C.toArray 61))
 rw [← HWA.out]
 go_upto_region 3 with (fail)
 go_cut [4] (fun s4 wx => ∃ A c, s4 = .slice A (encI 11 ++ encI x.f ++ encI x.t).length c ∧ NewB wa wx A (encI 11 ++ encI x.f ++ encI x.t).length c (encI 11 ++ encI x.f ++ encI x.t))
 case first =>
  refine wp_region_held_drew (S := Fr [] wa) (by kernel_rfl) (Fr.drew (Fr.refl _ wa)) (fun hHeld => ?_)
  have HFD : Hid (Fr [] wa wa.drew) := Lib.hid (Fr.drew (Fr.refl [] wa))
  generalize wa.drew = wd at *
  refine run_at (i := 0) (v := ?_) rfl (by kernel_rfl) (by rfl) (fun _ _ _ h => h) hHeld (fun w1 hw1 => ?_) ?_
  rotate_left 1
  · skip
    go_simp
    try first | with_reducible rfl | apply And.intro <;> rfl
  simp only [xPa, xPb, xPc, xPd, xPe]
  refine run_at (i := 1) (v := ?_) rfl (by kernel_rfl) (by rfl) (fun _ _ _ h => h) hHeld (fun w1 hw1 => ?_) ?_
  rotate_left 1
  · skip
    have hcw0 := hw1.cell (HCq.out) (by simp)
    go_simp
    try first | with_reducible rfl | apply And.intro <;> rfl
  simp only [xPa, xPb, xPc, xPd, xPe]
  refine run_at (i := 3) (v := ?_) rfl (by kernel_rfl) (by rfl) (fun _ _ _ h => h) hHeld (fun w1 hw1 => ?_) ?_
  rotate_left 1
  · skip
    go_simp
    try first | with_reducible rfl | apply And.intro <;> rfl
  simp only [xPa, xPb, xPc, xPd, xPe]
  refine run_at (i := 4) (v := ?_) rfl (by kernel_rfl) (by rfl) (fun _ _ _ h => h) hHeld (fun w1 hw1 => ?_) ?_
  rotate_left 1
  · skip
    have hcw0 := hw1.cell (HCf.out) (by simp)
    go_simp
    try first | with_reducible rfl | apply And.intro <;> rfl
  simp only [xPa, xPb, xPc, xPd, xPe]
  refine run_at (i := 6) (v := ?_) rfl (by kernel_rfl) (by rfl) (fun _ _ _ h => h) hHeld (fun w1 hw1 => ?_) ?_
  rotate_left 1
  · skip
    go_simp
    try first | with_reducible rfl | apply And.intro <;> rfl
  simp only [xPa, xPb, xPc, xPd, xPe]
  refine run_at (i := 7) (v := ?_) rfl (by kernel_rfl) (by rfl) (fun _ _ _ h => h) hHeld (fun w1 hw1 => ?_) ?_
  rotate_left 1
  · skip
    have hcw0 := hw1.cell (HCt.out) (by simp)
    go_simp
    try first | with_reducible rfl | apply And.intro <;> rfl
  simp only [xPa, xPb, xPc, xPd, xPe]
  refine call_at (i := 2) (f := ?_) (args := ?_) rfl (by kernel_rfl) (by rfl) ?_ ?_
  rotate_left 2
  · go_simp
    try first | with_reducible rfl | apply And.intro <;> rfl
  refine (refint_any (11) HKK.out.2 wd).mono ?_
  rintro e w2 ⟨A2x, c2x, rfl, hN⟩
  obtain ⟨n2x, hn2⟩ : ∃ nn_, nn_ = (encI (11)).length := ⟨_, rfl⟩
  obtain ⟨l2x, hl2⟩ : ∃ ll_, ll_ = encI (11) := ⟨_, rfl⟩
  rw [← hn2] at hN ⊢
  rw [← hl2] at hN
  have HB2x : Hid (n2x ≤ 20000) := Lib.hid (by rw [hn2]; have := encI_len (11) HKK.out.2; omega)
  have HL2 := Lib.hid hl2
  refine ⟨_, rfl, hHeld.go hN.2.1 (by simp), fun hHeld => ?_⟩
  simp only [xPa, xPb, xPc, xPd, xPe]
  have HY2x := Lib.hid hN.by
  have HFD := Lib.hid (HFD.out.and hN.2.1 (by simp))
  clear hN hn2 hl2
  refine call_at (i := 5) (f := ?_) (args := ?_) rfl (by kernel_rfl) (by rfl) ?_ ?_
  rotate_left 2
  · go_simp
    try first | with_reducible rfl | apply And.intro <;> rfl
  refine (refint_any (x.f) HX.out.f.2 w2).mono ?_
  rintro e w5 ⟨A5x, c5x, rfl, hN⟩
  obtain ⟨n5x, hn5⟩ : ∃ nn_, nn_ = (encI (x.f)).length := ⟨_, rfl⟩
  obtain ⟨l5x, hl5⟩ : ∃ ll_, ll_ = encI (x.f) := ⟨_, rfl⟩
  rw [← hn5] at hN ⊢
  rw [← hl5] at hN
  have HB5x : Hid (n5x ≤ 20000) := Lib.hid (by rw [hn5]; have := encI_len (x.f) HX.out.f.2; omega)
  have HL5 := Lib.hid hl5
  refine ⟨_, rfl, hHeld.go hN.2.1 (by simp), fun hHeld => ?_⟩
  simp only [xPa, xPb, xPc, xPd, xPe]
  have HY5x := Lib.hid hN.by
  have HFD := Lib.hid (HFD.out.and hN.2.1 (by simp))
  have HY2x := Lib.hid (Fr.byk hN.2.1 HY2x.out)
  clear hN hn5 hl5
  refine call_at (i := 8) (f := ?_) (args := ?_) rfl (by kernel_rfl) (by rfl) ?_ ?_
  rotate_left 2
  · go_simp
    try first | with_reducible rfl | apply And.intro <;> rfl
  refine (refint_any (x.t) HX.out.t.2 w5).mono ?_
  rintro e w8 ⟨A8x, c8x, rfl, hN⟩
  obtain ⟨n8x, hn8⟩ : ∃ nn_, nn_ = (encI (x.t)).length := ⟨_, rfl⟩
  obtain ⟨l8x, hl8⟩ : ∃ ll_, ll_ = encI (x.t) := ⟨_, rfl⟩
  rw [← hn8] at hN ⊢
  rw [← hl8] at hN
  have HB8x : Hid (n8x ≤ 20000) := Lib.hid (by rw [hn8]; have := encI_len (x.t) HX.out.t.2; omega)
  have HL8 := Lib.hid hl8
  refine ⟨_, rfl, hHeld.go hN.2.1 (by simp), fun hHeld => ?_⟩
  simp only [xPa, xPb, xPc, xPd, xPe]
  have HY8x := Lib.hid hN.by
  have HFD := Lib.hid (HFD.out.and hN.2.1 (by simp))
  have HY2x := Lib.hid (Fr.byk hN.2.1 HY2x.out)
  have HY5x := Lib.hid (Fr.byk hN.2.1 HY5x.out)
  clear hN hn8 hl8
  refine step_at (i := 9) rfl (by kernel_rfl) (by rfl) (fun K hK => ?_)
  refine wp_run (v := ?_) (w' := ?_) ?_ ?_
  rotate_left 2
  · go_simp
    try first | with_reducible rfl | apply And.intro <;> rfl
  refine hK.out _ (w8.alloc (Obj.cells #[.slice A2x n2x c2x, .slice A5x n5x c5x, .slice A8x n8x c8x] 52)) (hHeld.alloc _) (fun hHeld => ?_)
  clear hK K
  simp only [xPa, xPb, xPc, xPd, xPe]
  have hfb : Fr [] w8 (w8.alloc (Obj.cells #[.slice A2x n2x c2x, .slice A5x n5x c5x, .slice A8x n8x c8x] 52)) := (Fr.refl [] w8).alloc _
  have hbb : Blk (w8.alloc (Obj.cells #[.slice A2x n2x c2x, .slice A5x n5x c5x, .slice A8x n8x c8x] 52)) w8.heap.size 52 (([⟨A2x, n2x, c2x, l2x⟩, ⟨A5x, n5x, c5x, l5x⟩, ⟨A8x, n8x, c8x, l8x⟩] : List RowV).map RowV.val).toArray := Blk.new _ _ _
  generalize w8.alloc (Obj.cells #[.slice A2x n2x c2x, .slice A5x n5x c5x, .slice A8x n8x c8x] 52) = wj at *
  have HFD := Lib.hid (HFD.out.and hfb (by simp))
  have hj := join_big w8.heap.size 3 [⟨A2x, n2x, c2x, l2x⟩, ⟨A5x, n5x, c5x, l5x⟩, ⟨A8x, n8x, c8x, l8x⟩] wj hbb rfl (by omega) (by
   intro r hr
   simp only [List.mem_cons, List.not_mem_nil, or_false] at hr
   rcases hr with rfl | rfl | rfl
   · exact ⟨Fr.byk hfb HY2x.out, HB2x.out⟩
   · exact ⟨Fr.byk hfb HY5x.out, HB5x.out⟩
   · exact ⟨Fr.byk hfb HY8x.out, HB8x.out⟩)
  have hJ : joinL [⟨A2x, n2x, c2x, l2x⟩, ⟨A5x, n5x, c5x, l5x⟩, ⟨A8x, n8x, c8x, l8x⟩] = encI 11 ++ encI x.f ++ encI x.t := by
   simp only [joinL, List.map_cons, List.map_nil, List.flatten_cons, List.flatten_nil, HL2.out, HL5.out, HL8.out]
   simp [List.append_assoc]
  rw [hJ] at hj
  obtain ⟨X, hX⟩ : ∃ X, X = encI 11 ++ encI x.f ++ encI x.t := ⟨_, rfl⟩
  rw [← hX] at hj
  have HXT := Lib.hid hX
  clear hX
  have HJ := Lib.hid hj
  clear hfb hbb hj hJ HY2x HL2 HY5x HL5 HY8x HL8
  refine call_at (i := 10) (f := ?_) (args := ?_) rfl (by kernel_rfl) (by rfl) ?_ ?_
  rotate_left 2
  · go_simp
    try first | with_reducible rfl | apply And.intro <;> rfl
  refine HJ.out.mono ?_
  rintro e wk ⟨Aj, cj, rfl, hN⟩
  have HN := Lib.hid (hN.from2 HFD.out)
  refine ⟨_, rfl, hHeld.go hN.2.1 (by simp), fun hHeld => ?_⟩
  clear hN
  simp only [xPa, xPb, xPc, xPd, xPe]
  refine run_at (i := 11) (v := ?_) rfl (by kernel_rfl) (by rfl) (fun _ _ _ h => h) hHeld (fun w1 hw1 => ?_) ?_
  rotate_left 1
  · skip
    go_simp
    try first | with_reducible rfl | apply And.intro <;> rfl
  simp only [xPa, xPb, xPc, xPd, xPe]
  refine wpAnyH_done (by kernel_rfl) ?_ _
  go_wp2_with fail
  go_meet
  rw [← HXT.out]
  exact ⟨Aj, cj, rfl, HN.out⟩
 case rest =>
  obtain ⟨A0, c0, rfl, hn⟩ := hcut
  obtain ⟨n0, hn0⟩ : ∃ n0, n0 = (encI 11 ++ encI x.f ++ encI x.t).length := ⟨_, rfl⟩
  obtain ⟨l0, hl0⟩ : ∃ l0, l0 = encI 11 ++ encI x.f ++ encI x.t := ⟨_, rfl⟩
  rw [← hn0] at hn ⊢
  rw [← hl0] at hn
  have HN0 := Lib.hid hn
  have HB0l : Hid (n0 ≤ 20000) := Lib.hid (by rw [hn0]; have h1 := encI_len 11 HKK.out.2; have h2 := encI_len x.f HX.out.f.2; have h3 := encI_len x.t HX.out.t.2; simp only [List.length_append]; omega)
  have HL0 := Lib.hid hl0
  have HFC : Hid (Fr [] wa wc) := Lib.hid hn.2.1
  have hcq : wc.cell? ⟨w.heap.size, 0, none⟩ = some (.int .i64 11) := hn.2.1.cell hcq (by simp)
  have HY0 : Hid (By wc A0 n0 l0) := Lib.hid hn.by
  clear hn hn0 hl0 HCq HCf HCt
  have hci : wc.cell? ⟨w.heap.size, 212, none⟩ = some (.int .i64 x.i) := HFC.out.cell (by have h := HAT.out.i 0 _ rfl; simpa using h) (by simp)
  go_wp2_with fail
  refine (refint_any x.i HX.out.i.2 wc).mono ?_
  rintro e w1 ⟨A1, c1, rfl, hN⟩
  obtain ⟨n1, hn1⟩ : ∃ nn_, nn_ = (encI x.i).length := ⟨_, rfl⟩
  obtain ⟨l1, hl1⟩ : ∃ ll_, ll_ = encI x.i := ⟨_, rfl⟩
  rw [← hn1] at hN ⊢
  rw [← hl1] at hN
  have HB1x : Hid (n1 ≤ 20000) := Lib.hid (by rw [hn1]; have := encI_len x.i HX.out.i.2; omega)
  have HL1 := Lib.hid hl1
  have HN1 := Lib.hid hN
  have HY0 := Lib.hid (Fr.byk hN.2.1 HY0.out)
  clear hN hn1 hl1
  go_wp2_with fail
  have hfb : Fr [] w1 (w1.alloc (Obj.cells #[.slice A0 n0 c0, .slice A1 n1 c1] 52)) := (Fr.refl [] w1).alloc _
  have hbb : Blk (w1.alloc (Obj.cells #[.slice A0 n0 c0, .slice A1 n1 c1] 52)) w1.heap.size 52 (([⟨A0, n0, c0, l0⟩, ⟨A1, n1, c1, l1⟩] : List RowV).map RowV.val).toArray := Blk.new _ _ _
  have hj := join_big w1.heap.size 2 [⟨A0, n0, c0, l0⟩, ⟨A1, n1, c1, l1⟩] _ hbb rfl (by omega) (RowV.two ⟨Fr.byk hfb HY0.out, HB0l.out⟩ ⟨Fr.byk hfb HN1.out.by, HB1x.out⟩)
  have hJ : joinL [⟨A0, n0, c0, l0⟩, ⟨A1, n1, c1, l1⟩] = l0 ++ encI x.i := by
   simp only [joinL, List.map_cons, List.map_nil, List.flatten_cons, List.flatten_nil, HL1.out]
   simp
  rw [hJ] at hj
  obtain ⟨X, hX⟩ : ∃ X, X = l0 ++ encI x.i := ⟨_, rfl⟩
  rw [← hX] at hj
  have HXT := Lib.hid hX
  have HFB := Lib.hid hfb
  clear hX hbb hJ hfb
  refine hj.mono ?_
  rintro e wk ⟨Aj, cj, rfl, hN⟩
  have HN := Lib.hid (hN.from2 (HN1.out.2.1.and HFB.out (by simp)))
  clear hN hj
  have HBX : Hid (X = x.bytes) := Lib.hid (by rw [HXT.out, HL0.out]; unfold Wmg.bytes; rw [Wmg.body_11 HQ.out, HQ.out])
  have hxl : X.length ≤ 15030 := by rw [HBX.out]; exact Wmg.bytes_len HX.out
  have hd : decide ((65536 : Int) < (X.length : Int)) = false := by simp; omega
  go_wp2_with fail
  go_ret2
  unfold PackPost
  rw [if_pos (by rw [HQ.out]; decide), ← HBX.out]
  exact ⟨Aj, cj, rfl, HN.out.from2 (HF0.out.and HFC.out (by simp))⟩
set_option maxHeartbeats 4000000 in
theorem refpack_9 (x : Wmg) (hq : x.q = 9) (w : World) (hx : x.Ok w []) (C : List Value) (hC : x.cells = C) :
  Calls Tryz.prog 5 #[.agg C.toArray] w (PackPost w x) := by
 obtain ⟨wa, hwa⟩ : ∃ wa, wa = w.alloc (Obj.cells C.toArray 61) := ⟨_, rfl⟩
 have hf0 : Fr [] w wa := by rw [hwa]; exact (Fr.refl [] w).alloc _
 have hb0 : Blk wa w.heap.size 61 x.cells.toArray := by rw [hwa, hC]; exact Blk.new _ _ _
 have hat : x.At wa w.heap.size := Wmg.at_of hb0.range hx
 have HCq : Hid (wa.cell? ⟨w.heap.size, 0 + 0, none⟩ = some (.int .i64 9)) := Lib.hid (by have h := hat.q 0 _ rfl; rw [hq] at h; simpa using h)
 have HCf : Hid (wa.cell? ⟨w.heap.size, 0 + 1, none⟩ = some (.int .i64 x.f)) := Lib.hid (by have h := hat.f 0 _ rfl; simpa using h)
 have HCt : Hid (wa.cell? ⟨w.heap.size, 0 + 2, none⟩ = some (.int .i64 x.t)) := Lib.hid (by have h := hat.t 0 _ rfl; simpa using h)
 have hcq : wa.cell? ⟨w.heap.size, 0, none⟩ = some (.int .i64 9) := by have h := hat.q 0 _ rfl; rw [hq] at h; simpa using h
 have HX := Lib.hid hx
 have HAT := Lib.hid hat
 have HF0 := Lib.hid hf0
 have HWA := Lib.hid hwa
 have HQ := Lib.hid hq
 have HKK : Hid (i64In 9) := Lib.hid (by unfold i64In; omega)
 have HSZ : Hid (w.heap.size < wa.heap.size) := Lib.hid hb0.lt
 clear hx hC hwa hf0 hb0 hat hq
 go_enter Tryz.func5, Tryz.ntmps5
 go_upto_region 1 with (fail)
 change Code.wp _ _ _ _ (w.alloc (Obj.cells C.toArray 61))
 rw [← HWA.out]
 go_upto_region 3 with (fail)
 go_cut [4] (fun s4 wx => ∃ A c, s4 = .slice A (encI 9 ++ encI x.f ++ encI x.t).length c ∧ NewB wa wx A (encI 9 ++ encI x.f ++ encI x.t).length c (encI 9 ++ encI x.f ++ encI x.t))
 case first =>
  refine wp_region_held_drew (S := Fr [] wa) (by kernel_rfl) (Fr.drew (Fr.refl _ wa)) (fun hHeld => ?_)
  have HFD : Hid (Fr [] wa wa.drew) := Lib.hid (Fr.drew (Fr.refl [] wa))
  generalize wa.drew = wd at *
  refine run_at (i := 0) (v := ?_) rfl (by kernel_rfl) (by rfl) (fun _ _ _ h => h) hHeld (fun w1 hw1 => ?_) ?_
  rotate_left 1
  · skip
    go_simp
    try first | with_reducible rfl | apply And.intro <;> rfl
  simp only [xPa, xPb, xPc, xPd, xPe]
  refine run_at (i := 1) (v := ?_) rfl (by kernel_rfl) (by rfl) (fun _ _ _ h => h) hHeld (fun w1 hw1 => ?_) ?_
  rotate_left 1
  · skip
    have hcw0 := hw1.cell (HCq.out) (by simp)
    go_simp
    try first | with_reducible rfl | apply And.intro <;> rfl
  simp only [xPa, xPb, xPc, xPd, xPe]
  refine run_at (i := 3) (v := ?_) rfl (by kernel_rfl) (by rfl) (fun _ _ _ h => h) hHeld (fun w1 hw1 => ?_) ?_
  rotate_left 1
  · skip
    go_simp
    try first | with_reducible rfl | apply And.intro <;> rfl
  simp only [xPa, xPb, xPc, xPd, xPe]
  refine run_at (i := 4) (v := ?_) rfl (by kernel_rfl) (by rfl) (fun _ _ _ h => h) hHeld (fun w1 hw1 => ?_) ?_
  rotate_left 1
  · skip
    have hcw0 := hw1.cell (HCf.out) (by simp)
    go_simp
    try first | with_reducible rfl | apply And.intro <;> rfl
  simp only [xPa, xPb, xPc, xPd, xPe]
  refine run_at (i := 6) (v := ?_) rfl (by kernel_rfl) (by rfl) (fun _ _ _ h => h) hHeld (fun w1 hw1 => ?_) ?_
  rotate_left 1
  · skip
    go_simp
    try first | with_reducible rfl | apply And.intro <;> rfl
  simp only [xPa, xPb, xPc, xPd, xPe]
  refine run_at (i := 7) (v := ?_) rfl (by kernel_rfl) (by rfl) (fun _ _ _ h => h) hHeld (fun w1 hw1 => ?_) ?_
  rotate_left 1
  · skip
    have hcw0 := hw1.cell (HCt.out) (by simp)
    go_simp
    try first | with_reducible rfl | apply And.intro <;> rfl
  simp only [xPa, xPb, xPc, xPd, xPe]
  refine call_at (i := 2) (f := ?_) (args := ?_) rfl (by kernel_rfl) (by rfl) ?_ ?_
  rotate_left 2
  · go_simp
    try first | with_reducible rfl | apply And.intro <;> rfl
  refine (refint_any (9) HKK.out.2 wd).mono ?_
  rintro e w2 ⟨A2x, c2x, rfl, hN⟩
  obtain ⟨n2x, hn2⟩ : ∃ nn_, nn_ = (encI (9)).length := ⟨_, rfl⟩
  obtain ⟨l2x, hl2⟩ : ∃ ll_, ll_ = encI (9) := ⟨_, rfl⟩
  rw [← hn2] at hN ⊢
  rw [← hl2] at hN
  have HB2x : Hid (n2x ≤ 20000) := Lib.hid (by rw [hn2]; have := encI_len (9) HKK.out.2; omega)
  have HL2 := Lib.hid hl2
  refine ⟨_, rfl, hHeld.go hN.2.1 (by simp), fun hHeld => ?_⟩
  simp only [xPa, xPb, xPc, xPd, xPe]
  have HY2x := Lib.hid hN.by
  have HFD := Lib.hid (HFD.out.and hN.2.1 (by simp))
  clear hN hn2 hl2
  refine call_at (i := 5) (f := ?_) (args := ?_) rfl (by kernel_rfl) (by rfl) ?_ ?_
  rotate_left 2
  · go_simp
    try first | with_reducible rfl | apply And.intro <;> rfl
  refine (refint_any (x.f) HX.out.f.2 w2).mono ?_
  rintro e w5 ⟨A5x, c5x, rfl, hN⟩
  obtain ⟨n5x, hn5⟩ : ∃ nn_, nn_ = (encI (x.f)).length := ⟨_, rfl⟩
  obtain ⟨l5x, hl5⟩ : ∃ ll_, ll_ = encI (x.f) := ⟨_, rfl⟩
  rw [← hn5] at hN ⊢
  rw [← hl5] at hN
  have HB5x : Hid (n5x ≤ 20000) := Lib.hid (by rw [hn5]; have := encI_len (x.f) HX.out.f.2; omega)
  have HL5 := Lib.hid hl5
  refine ⟨_, rfl, hHeld.go hN.2.1 (by simp), fun hHeld => ?_⟩
  simp only [xPa, xPb, xPc, xPd, xPe]
  have HY5x := Lib.hid hN.by
  have HFD := Lib.hid (HFD.out.and hN.2.1 (by simp))
  have HY2x := Lib.hid (Fr.byk hN.2.1 HY2x.out)
  clear hN hn5 hl5
  refine call_at (i := 8) (f := ?_) (args := ?_) rfl (by kernel_rfl) (by rfl) ?_ ?_
  rotate_left 2
  · go_simp
    try first | with_reducible rfl | apply And.intro <;> rfl
  refine (refint_any (x.t) HX.out.t.2 w5).mono ?_
  rintro e w8 ⟨A8x, c8x, rfl, hN⟩
  obtain ⟨n8x, hn8⟩ : ∃ nn_, nn_ = (encI (x.t)).length := ⟨_, rfl⟩
  obtain ⟨l8x, hl8⟩ : ∃ ll_, ll_ = encI (x.t) := ⟨_, rfl⟩
  rw [← hn8] at hN ⊢
  rw [← hl8] at hN
  have HB8x : Hid (n8x ≤ 20000) := Lib.hid (by rw [hn8]; have := encI_len (x.t) HX.out.t.2; omega)
  have HL8 := Lib.hid hl8
  refine ⟨_, rfl, hHeld.go hN.2.1 (by simp), fun hHeld => ?_⟩
  simp only [xPa, xPb, xPc, xPd, xPe]
  have HY8x := Lib.hid hN.by
  have HFD := Lib.hid (HFD.out.and hN.2.1 (by simp))
  have HY2x := Lib.hid (Fr.byk hN.2.1 HY2x.out)
  have HY5x := Lib.hid (Fr.byk hN.2.1 HY5x.out)
  clear hN hn8 hl8
  refine step_at (i := 9) rfl (by kernel_rfl) (by rfl) (fun K hK => ?_)
  refine wp_run (v := ?_) (w' := ?_) ?_ ?_
  rotate_left 2
  · go_simp
    try first | with_reducible rfl | apply And.intro <;> rfl
  refine hK.out _ (w8.alloc (Obj.cells #[.slice A2x n2x c2x, .slice A5x n5x c5x, .slice A8x n8x c8x] 52)) (hHeld.alloc _) (fun hHeld => ?_)
  clear hK K
  simp only [xPa, xPb, xPc, xPd, xPe]
  have hfb : Fr [] w8 (w8.alloc (Obj.cells #[.slice A2x n2x c2x, .slice A5x n5x c5x, .slice A8x n8x c8x] 52)) := (Fr.refl [] w8).alloc _
  have hbb : Blk (w8.alloc (Obj.cells #[.slice A2x n2x c2x, .slice A5x n5x c5x, .slice A8x n8x c8x] 52)) w8.heap.size 52 (([⟨A2x, n2x, c2x, l2x⟩, ⟨A5x, n5x, c5x, l5x⟩, ⟨A8x, n8x, c8x, l8x⟩] : List RowV).map RowV.val).toArray := Blk.new _ _ _
  generalize w8.alloc (Obj.cells #[.slice A2x n2x c2x, .slice A5x n5x c5x, .slice A8x n8x c8x] 52) = wj at *
  have HFD := Lib.hid (HFD.out.and hfb (by simp))
  have hj := join_big w8.heap.size 3 [⟨A2x, n2x, c2x, l2x⟩, ⟨A5x, n5x, c5x, l5x⟩, ⟨A8x, n8x, c8x, l8x⟩] wj hbb rfl (by omega) (by
   intro r hr
   simp only [List.mem_cons, List.not_mem_nil, or_false] at hr
   rcases hr with rfl | rfl | rfl
   · exact ⟨Fr.byk hfb HY2x.out, HB2x.out⟩
   · exact ⟨Fr.byk hfb HY5x.out, HB5x.out⟩
   · exact ⟨Fr.byk hfb HY8x.out, HB8x.out⟩)
  have hJ : joinL [⟨A2x, n2x, c2x, l2x⟩, ⟨A5x, n5x, c5x, l5x⟩, ⟨A8x, n8x, c8x, l8x⟩] = encI 9 ++ encI x.f ++ encI x.t := by
   simp only [joinL, List.map_cons, List.map_nil, List.flatten_cons, List.flatten_nil, HL2.out, HL5.out, HL8.out]
   simp [List.append_assoc]
  rw [hJ] at hj
  obtain ⟨X, hX⟩ : ∃ X, X = encI 9 ++ encI x.f ++ encI x.t := ⟨_, rfl⟩
  rw [← hX] at hj
  have HXT := Lib.hid hX
  clear hX
  have HJ := Lib.hid hj
  clear hfb hbb hj hJ HY2x HL2 HY5x HL5 HY8x HL8
  refine call_at (i := 10) (f := ?_) (args := ?_) rfl (by kernel_rfl) (by rfl) ?_ ?_
  rotate_left 2
  · go_simp
    try first | with_reducible rfl | apply And.intro <;> rfl
  refine HJ.out.mono ?_
  rintro e wk ⟨Aj, cj, rfl, hN⟩
  have HN := Lib.hid (hN.from2 HFD.out)
  refine ⟨_, rfl, hHeld.go hN.2.1 (by simp), fun hHeld => ?_⟩
  clear hN
  simp only [xPa, xPb, xPc, xPd, xPe]
  refine run_at (i := 11) (v := ?_) rfl (by kernel_rfl) (by rfl) (fun _ _ _ h => h) hHeld (fun w1 hw1 => ?_) ?_
  rotate_left 1
  · skip
    go_simp
    try first | with_reducible rfl | apply And.intro <;> rfl
  simp only [xPa, xPb, xPc, xPd, xPe]
  refine wpAnyH_done (by kernel_rfl) ?_ _
  go_wp2_with fail
  go_meet
  rw [← HXT.out]
  exact ⟨Aj, cj, rfl, HN.out⟩
 case rest =>
  obtain ⟨A0, c0, rfl, hn⟩ := hcut
  obtain ⟨n0, hn0⟩ : ∃ n0, n0 = (encI 9 ++ encI x.f ++ encI x.t).length := ⟨_, rfl⟩
  obtain ⟨l0, hl0⟩ : ∃ l0, l0 = encI 9 ++ encI x.f ++ encI x.t := ⟨_, rfl⟩
  rw [← hn0] at hn ⊢
  rw [← hl0] at hn
  have HN0 := Lib.hid hn
  have HB0l : Hid (n0 ≤ 20000) := Lib.hid (by rw [hn0]; have h1 := encI_len 9 HKK.out.2; have h2 := encI_len x.f HX.out.f.2; have h3 := encI_len x.t HX.out.t.2; simp only [List.length_append]; omega)
  have HL0 := Lib.hid hl0
  have HFC : Hid (Fr [] wa wc) := Lib.hid hn.2.1
  have hcq : wc.cell? ⟨w.heap.size, 0, none⟩ = some (.int .i64 9) := hn.2.1.cell hcq (by simp)
  have HY0 : Hid (By wc A0 n0 l0) := Lib.hid hn.by
  clear hn hn0 hl0 HCq HCf HCt
  have HCi : Hid (wc.cell? ⟨w.heap.size, 0 + 212, none⟩ = some (.int .i64 x.i)) := Lib.hid (HFC.out.cell (by have h := HAT.out.i 0 _ rfl; simpa using h) (by simp))
  have HRN : Hid (wc.rangeAt w.heap.size (0 + 213 + 0) [.int .i64 x.en.c, .int .i64 x.en.s]) := Lib.hid (by simpa using HFC.out.range (ra_head HAT.out.en) (by simp))
  have HYH : Hid (By wc (some ⟨w.heap.size, 215, none⟩) 32 x.en.h) := Lib.hid (Fr.byk HFC.out (by have h := By.of_range (ra_head (ra_tail HAT.out.en (k := 2) rfl)); rw [HX.out.en.h] at h; exact h))
  have HCm : Hid (wc.cell? ⟨w.heap.size, 0 + 213 + 34, none⟩ = some (.int .u64 (x.en.t : Int))) := Lib.hid (HFC.out.cell (by have h := ra_tail (ra_tail HAT.out.en (k := 2) rfl) (k := 32) (by rw [List.length_map]; exact HX.out.en.h) 0 _ rfl; simpa using h) (by simp))
  go_upto_region 23 with (fail)
  refine wp_region_held_drew (S := Fr [] wc) (by kernel_rfl) (Fr.drew (Fr.refl _ wc)) (fun hHeld => ?_)
  have HFD : Hid (Fr [] wc wc.drew) := Lib.hid (Fr.drew (Fr.refl [] wc))
  have HY0 := Lib.hid (Fr.byk HFD.out HY0.out)
  generalize wc.drew = wd at *
  refine run_at (i := 0) (v := ?_) rfl (by kernel_rfl) (by rfl) (fun _ _ _ h => h) hHeld (fun w1 hw1 => ?_) ?_
  rotate_left 1
  · skip
    go_simp
    try first | with_reducible rfl | apply And.intro <;> rfl
  simp only [xPa, xPb, xPc, xPd, xPe]
  refine run_at (i := 1) (v := ?_) rfl (by kernel_rfl) (by rfl) (fun _ _ _ h => h) hHeld (fun w1 hw1 => ?_) ?_
  rotate_left 1
  · skip
    go_simp
    try first | with_reducible rfl | apply And.intro <;> rfl
  simp only [xPa, xPb, xPc, xPd, xPe]
  refine run_at (i := 2) (v := ?_) rfl (by kernel_rfl) (by rfl) (fun _ _ _ h => h) hHeld (fun w1 hw1 => ?_) ?_
  rotate_left 1
  · skip
    have hcw0 := hw1.cell (HCi.out) (by simp)
    go_simp
    try first | with_reducible rfl | apply And.intro <;> rfl
  simp only [xPa, xPb, xPc, xPd, xPe]
  refine run_at (i := 4) (v := ?_) rfl (by kernel_rfl) (by rfl) (fun _ _ _ h => h) hHeld (fun w1 hw1 => ?_) ?_
  rotate_left 1
  · skip
    go_simp
    try first | with_reducible rfl | apply And.intro <;> rfl
  simp only [xPa, xPb, xPc, xPd, xPe]
  refine run_at (i := 5) (v := ?_) rfl (by kernel_rfl) (by rfl) (fun _ _ _ h => h) hHeld (fun w1 hw1 => ?_) ?_
  rotate_left 1
  · skip
    go_simp
    try first | with_reducible rfl | apply And.intro <;> rfl
  simp only [xPa, xPb, xPc, xPd, xPe]
  refine row_at (i := 6) rfl (by kernel_rfl) (by rfl) _ _ rfl _ _ rfl _ (fun w1 hw1 => hw1.range (HRN.out) (by simp)) (row_name) (fun _ _ _ h => h) hHeld ?_
  simp only [xPa, xPb, xPc, xPd, xPe]
  refine run_at (i := 8) (v := ?_) rfl (by kernel_rfl) (by rfl) (fun _ _ _ h => h) hHeld (fun w1 hw1 => ?_) ?_
  rotate_left 1
  · skip
    go_simp
    try first | with_reducible rfl | apply And.intro <;> rfl
  simp only [xPa, xPb, xPc, xPd, xPe]
  refine run_at (i := 9) (v := ?_) rfl (by kernel_rfl) (by rfl) (fun _ _ _ h => h) hHeld (fun w1 hw1 => ?_) ?_
  rotate_left 1
  · skip
    go_simp
    try first | with_reducible rfl | apply And.intro <;> rfl
  simp only [xPa, xPb, xPc, xPd, xPe]
  refine run_at (i := 10) (v := ?_) rfl (by kernel_rfl) (by rfl) (fun _ _ _ h => h) hHeld (fun w1 hw1 => ?_) ?_
  rotate_left 1
  · skip
    go_simp
    try first | with_reducible rfl | apply And.intro <;> rfl
  simp only [xPa, xPb, xPc, xPd, xPe]
  refine run_at (i := 11) (v := ?_) rfl (by kernel_rfl) (by rfl) (fun _ _ _ h => h) hHeld (fun w1 hw1 => ?_) ?_
  rotate_left 1
  · skip
    go_simp
    try first | with_reducible rfl | apply And.intro <;> rfl
  simp only [xPa, xPb, xPc, xPd, xPe]
  refine run_at (i := 12) (v := ?_) rfl (by kernel_rfl) (by rfl) (fun _ _ _ h => h) hHeld (fun w1 hw1 => ?_) ?_
  rotate_left 1
  · skip
    go_simp
    try first | with_reducible rfl | apply And.intro <;> rfl
  simp only [xPa, xPb, xPc, xPd, xPe]
  refine run_at (i := 13) (v := ?_) rfl (by kernel_rfl) (by rfl) (fun _ _ _ h => h) hHeld (fun w1 hw1 => ?_) ?_
  rotate_left 1
  · skip
    have hcw0 := hw1.cell (HCm.out) (by simp)
    go_simp
    try first | with_reducible rfl | apply And.intro <;> rfl
  simp only [xPa, xPb, xPc, xPd, xPe]
  refine call_at (i := 3) (f := ?_) (args := ?_) rfl (by kernel_rfl) (by rfl) ?_ ?_
  rotate_left 2
  · go_simp
    try first | with_reducible rfl | apply And.intro <;> rfl
  refine (refint_any (x.i) HX.out.i.2 wd).mono ?_
  rintro e w3 ⟨A3x, c3x, rfl, hN⟩
  obtain ⟨n3x, hn3⟩ : ∃ nn_, nn_ = (encI (x.i)).length := ⟨_, rfl⟩
  obtain ⟨l3x, hl3⟩ : ∃ ll_, ll_ = encI (x.i) := ⟨_, rfl⟩
  rw [← hn3] at hN ⊢
  rw [← hl3] at hN
  have HB3x : Hid (n3x ≤ 20000) := Lib.hid (by rw [hn3]; have := encI_len (x.i) HX.out.i.2; omega)
  have HL3 := Lib.hid hl3
  refine ⟨_, rfl, hHeld.go hN.2.1 (by simp), fun hHeld => ?_⟩
  simp only [xPa, xPb, xPc, xPd, xPe]
  have HY3x := Lib.hid hN.by
  have HFD := Lib.hid (HFD.out.and hN.2.1 (by simp))
  have HY0 := Lib.hid (Fr.byk hN.2.1 HY0.out)
  clear hN hn3 hl3
  refine call_at (i := 7) (f := ?_) (args := ?_) rfl (by kernel_rfl) (by rfl) ?_ ?_
  rotate_left 2
  · go_simp
    try first | with_reducible rfl | apply And.intro <;> rfl
  refine (refname_any x.en.c x.en.s HX.out.en.c HX.out.en.s w3).mono ?_
  rintro e w7 ⟨A7x, c7x, rfl, hN⟩
  obtain ⟨n7x, hn7⟩ : ∃ nn_, nn_ = (nmL x.en.c x.en.s).length := ⟨_, rfl⟩
  obtain ⟨l7x, hl7⟩ : ∃ ll_, ll_ = nmL x.en.c x.en.s := ⟨_, rfl⟩
  rw [← hn7] at hN ⊢
  rw [← hl7] at hN
  have HB7x : Hid (n7x ≤ 20000) := Lib.hid (by rw [hn7]; have := encI_len x.en.c HX.out.en.c.2; have := encI_len x.en.s HX.out.en.s.2; simp only [nmL, List.length_append]; omega)
  have HL7 := Lib.hid hl7
  refine ⟨_, rfl, hHeld.go hN.2.1 (by simp), fun hHeld => ?_⟩
  simp only [xPa, xPb, xPc, xPd, xPe]
  have HY7x := Lib.hid hN.by
  have HFD := Lib.hid (HFD.out.and hN.2.1 (by simp))
  have HY3x := Lib.hid (Fr.byk hN.2.1 HY3x.out)
  have HY0 := Lib.hid (Fr.byk hN.2.1 HY0.out)
  clear hN hn7 hl7
  refine call_at (i := 14) (f := ?_) (args := ?_) rfl (by kernel_rfl) (by rfl) ?_ ?_
  rotate_left 2
  · go_simp
    try first | with_reducible rfl | apply And.intro <;> rfl
  refine (refnum_any x.en.t HX.out.en.t w7).mono ?_
  rintro e w14 ⟨A14x, c14x, rfl, hN⟩
  obtain ⟨n14x, hn14⟩ : ∃ nn_, nn_ = (enc x.en.t).length := ⟨_, rfl⟩
  obtain ⟨l14x, hl14⟩ : ∃ ll_, ll_ = enc x.en.t := ⟨_, rfl⟩
  rw [← hn14] at hN ⊢
  rw [← hl14] at hN
  have HB14x : Hid (n14x ≤ 20000) := Lib.hid (by rw [hn14]; have := enc_ten HX.out.en.t; omega)
  have HL14 := Lib.hid hl14
  refine ⟨_, rfl, hHeld.go hN.2.1 (by simp), fun hHeld => ?_⟩
  simp only [xPa, xPb, xPc, xPd, xPe]
  have HY14x := Lib.hid hN.by
  have HFD := Lib.hid (HFD.out.and hN.2.1 (by simp))
  have HY3x := Lib.hid (Fr.byk hN.2.1 HY3x.out)
  have HY7x := Lib.hid (Fr.byk hN.2.1 HY7x.out)
  have HY0 := Lib.hid (Fr.byk hN.2.1 HY0.out)
  clear hN hn14 hl14
  refine step_at (i := 15) rfl (by kernel_rfl) (by rfl) (fun K hK => ?_)
  refine wp_run (v := ?_) (w' := ?_) ?_ ?_
  rotate_left 2
  · go_simp
    try first | with_reducible rfl | apply And.intro <;> rfl
  refine hK.out _ (w14.alloc (Obj.cells #[.slice A0 n0 c0, .slice A3x n3x c3x, .slice A7x n7x c7x, .slice (some ⟨w.heap.size, 215, none⟩) 32 32, .slice A14x n14x c14x] 52)) (hHeld.alloc _) (fun hHeld => ?_)
  clear hK K
  simp only [xPa, xPb, xPc, xPd, xPe]
  have hfb : Fr [] w14 (w14.alloc (Obj.cells #[.slice A0 n0 c0, .slice A3x n3x c3x, .slice A7x n7x c7x, .slice (some ⟨w.heap.size, 215, none⟩) 32 32, .slice A14x n14x c14x] 52)) := (Fr.refl [] w14).alloc _
  have hbb : Blk (w14.alloc (Obj.cells #[.slice A0 n0 c0, .slice A3x n3x c3x, .slice A7x n7x c7x, .slice (some ⟨w.heap.size, 215, none⟩) 32 32, .slice A14x n14x c14x] 52)) w14.heap.size 52 (([⟨A0, n0, c0, l0⟩, ⟨A3x, n3x, c3x, l3x⟩, ⟨A7x, n7x, c7x, l7x⟩, ⟨some ⟨w.heap.size, 215, none⟩, 32, 32, x.en.h⟩, ⟨A14x, n14x, c14x, l14x⟩] : List RowV).map RowV.val).toArray := Blk.new _ _ _
  generalize w14.alloc (Obj.cells #[.slice A0 n0 c0, .slice A3x n3x c3x, .slice A7x n7x c7x, .slice (some ⟨w.heap.size, 215, none⟩) 32 32, .slice A14x n14x c14x] 52) = wj at *
  have HFD := Lib.hid (HFD.out.and hfb (by simp))
  have hj := join_big w14.heap.size 5 [⟨A0, n0, c0, l0⟩, ⟨A3x, n3x, c3x, l3x⟩, ⟨A7x, n7x, c7x, l7x⟩, ⟨some ⟨w.heap.size, 215, none⟩, 32, 32, x.en.h⟩, ⟨A14x, n14x, c14x, l14x⟩] wj hbb rfl (by omega) (by
   intro r hr
   simp only [List.mem_cons, List.not_mem_nil, or_false] at hr
   rcases hr with rfl | rfl | rfl | rfl | rfl
   · exact ⟨Fr.byk hfb HY0.out, HB0l.out⟩
   · exact ⟨Fr.byk hfb HY3x.out, HB3x.out⟩
   · exact ⟨Fr.byk hfb HY7x.out, HB7x.out⟩
   · exact ⟨Fr.byk HFD.out HYH.out, by show 32 ≤ 20000; omega⟩
   · exact ⟨Fr.byk hfb HY14x.out, HB14x.out⟩)
  have hJ : joinL [⟨A0, n0, c0, l0⟩, ⟨A3x, n3x, c3x, l3x⟩, ⟨A7x, n7x, c7x, l7x⟩, ⟨some ⟨w.heap.size, 215, none⟩, 32, 32, x.en.h⟩, ⟨A14x, n14x, c14x, l14x⟩] = l0 ++ (encI x.i ++ x.en.full) := by
   simp only [joinL, List.map_cons, List.map_nil, List.flatten_cons, List.flatten_nil, HL3.out, HL7.out, HL14.out]
   simp [Wen.full, List.append_assoc]
  rw [hJ] at hj
  obtain ⟨X, hX⟩ : ∃ X, X = l0 ++ (encI x.i ++ x.en.full) := ⟨_, rfl⟩
  rw [← hX] at hj
  have HXT := Lib.hid hX
  clear hX
  have HJ := Lib.hid hj
  clear hfb hbb hj hJ HY3x HL3 HY7x HL7 HY14x HL14
  refine call_at (i := 16) (f := ?_) (args := ?_) rfl (by kernel_rfl) (by rfl) ?_ ?_
  rotate_left 2
  · go_simp
    try first | with_reducible rfl | apply And.intro <;> rfl
  refine HJ.out.mono ?_
  rintro e wk ⟨Aj, cj, rfl, hN⟩
  have HN := Lib.hid (hN.from2 HFD.out)
  refine ⟨_, rfl, hHeld.go hN.2.1 (by simp), fun hHeld => ?_⟩
  clear hN
  simp only [xPa, xPb, xPc, xPd, xPe]
  refine run_at (i := 17) (v := ?_) rfl (by kernel_rfl) (by rfl) (fun _ _ _ h => h) hHeld (fun w1 hw1 => ?_) ?_
  rotate_left 1
  · skip
    go_simp
    try first | with_reducible rfl | apply And.intro <;> rfl
  simp only [xPa, xPb, xPc, xPd, xPe]
  refine wpAnyH_done (by kernel_rfl) ?_ _
  have HBX : Hid (X = x.bytes) := Lib.hid (by rw [HXT.out, HL0.out]; unfold Wmg.bytes; rw [Wmg.body_9 HQ.out, HQ.out])
  have hxl : X.length ≤ 15030 := by rw [HBX.out]; exact Wmg.bytes_len HX.out
  have hd : decide ((65536 : Int) < (X.length : Int)) = false := by simp; omega
  go_wp2_with fail
  go_ret2
  unfold PackPost
  rw [if_pos (by rw [HQ.out]; decide), ← HBX.out]
  exact ⟨Aj, cj, rfl, HN.out.from2 (HF0.out.and HFC.out (by simp))⟩
set_option maxHeartbeats 4000000 in
theorem refpack_7 (x : Wmg) (hq : x.q = 7) (w : World) (hx : x.Ok w []) (C : List Value) (hC : x.cells = C) (hv : x.po.v < 9223372036854775807) :
  Calls Tryz.prog 5 #[.agg C.toArray] w (PackPost w x) := by
 have HVV := Lib.hid hv
 clear hv
 obtain ⟨wa, hwa⟩ : ∃ wa, wa = w.alloc (Obj.cells C.toArray 61) := ⟨_, rfl⟩
 have hf0 : Fr [] w wa := by rw [hwa]; exact (Fr.refl [] w).alloc _
 have hb0 : Blk wa w.heap.size 61 x.cells.toArray := by rw [hwa, hC]; exact Blk.new _ _ _
 have hat : x.At wa w.heap.size := Wmg.at_of hb0.range hx
 have HCq : Hid (wa.cell? ⟨w.heap.size, 0 + 0, none⟩ = some (.int .i64 7)) := Lib.hid (by have h := hat.q 0 _ rfl; rw [hq] at h; simpa using h)
 have HCf : Hid (wa.cell? ⟨w.heap.size, 0 + 1, none⟩ = some (.int .i64 x.f)) := Lib.hid (by have h := hat.f 0 _ rfl; simpa using h)
 have HCt : Hid (wa.cell? ⟨w.heap.size, 0 + 2, none⟩ = some (.int .i64 x.t)) := Lib.hid (by have h := hat.t 0 _ rfl; simpa using h)
 have hcq : wa.cell? ⟨w.heap.size, 0, none⟩ = some (.int .i64 7) := by have h := hat.q 0 _ rfl; rw [hq] at h; simpa using h
 have HX := Lib.hid hx
 have HAT := Lib.hid hat
 have HF0 := Lib.hid hf0
 have HWA := Lib.hid hwa
 have HQ := Lib.hid hq
 have HKK : Hid (i64In 7) := Lib.hid (by unfold i64In; omega)
 have HSZ : Hid (w.heap.size < wa.heap.size) := Lib.hid hb0.lt
 clear hx hC hwa hf0 hb0 hat hq
 go_enter Tryz.func5, Tryz.ntmps5
 go_upto_region 1 with (fail)
 change Code.wp _ _ _ _ (w.alloc (Obj.cells C.toArray 61))
 rw [← HWA.out]
 go_upto_region 3 with (fail)
 go_cut [4] (fun s4 wx => ∃ A c, s4 = .slice A (encI 7 ++ encI x.f ++ encI x.t).length c ∧ NewB wa wx A (encI 7 ++ encI x.f ++ encI x.t).length c (encI 7 ++ encI x.f ++ encI x.t))
 case first =>
  refine wp_region_held_drew (S := Fr [] wa) (by kernel_rfl) (Fr.drew (Fr.refl _ wa)) (fun hHeld => ?_)
  have HFD : Hid (Fr [] wa wa.drew) := Lib.hid (Fr.drew (Fr.refl [] wa))
  generalize wa.drew = wd at *
  refine run_at (i := 0) (v := ?_) rfl (by kernel_rfl) (by rfl) (fun _ _ _ h => h) hHeld (fun w1 hw1 => ?_) ?_
  rotate_left 1
  · skip
    go_simp
    try first | with_reducible rfl | apply And.intro <;> rfl
  simp only [xPa, xPb, xPc, xPd, xPe]
  refine run_at (i := 1) (v := ?_) rfl (by kernel_rfl) (by rfl) (fun _ _ _ h => h) hHeld (fun w1 hw1 => ?_) ?_
  rotate_left 1
  · skip
    have hcw0 := hw1.cell (HCq.out) (by simp)
    go_simp
    try first | with_reducible rfl | apply And.intro <;> rfl
  simp only [xPa, xPb, xPc, xPd, xPe]
  refine run_at (i := 3) (v := ?_) rfl (by kernel_rfl) (by rfl) (fun _ _ _ h => h) hHeld (fun w1 hw1 => ?_) ?_
  rotate_left 1
  · skip
    go_simp
    try first | with_reducible rfl | apply And.intro <;> rfl
  simp only [xPa, xPb, xPc, xPd, xPe]
  refine run_at (i := 4) (v := ?_) rfl (by kernel_rfl) (by rfl) (fun _ _ _ h => h) hHeld (fun w1 hw1 => ?_) ?_
  rotate_left 1
  · skip
    have hcw0 := hw1.cell (HCf.out) (by simp)
    go_simp
    try first | with_reducible rfl | apply And.intro <;> rfl
  simp only [xPa, xPb, xPc, xPd, xPe]
  refine run_at (i := 6) (v := ?_) rfl (by kernel_rfl) (by rfl) (fun _ _ _ h => h) hHeld (fun w1 hw1 => ?_) ?_
  rotate_left 1
  · skip
    go_simp
    try first | with_reducible rfl | apply And.intro <;> rfl
  simp only [xPa, xPb, xPc, xPd, xPe]
  refine run_at (i := 7) (v := ?_) rfl (by kernel_rfl) (by rfl) (fun _ _ _ h => h) hHeld (fun w1 hw1 => ?_) ?_
  rotate_left 1
  · skip
    have hcw0 := hw1.cell (HCt.out) (by simp)
    go_simp
    try first | with_reducible rfl | apply And.intro <;> rfl
  simp only [xPa, xPb, xPc, xPd, xPe]
  refine call_at (i := 2) (f := ?_) (args := ?_) rfl (by kernel_rfl) (by rfl) ?_ ?_
  rotate_left 2
  · go_simp
    try first | with_reducible rfl | apply And.intro <;> rfl
  refine (refint_any (7) HKK.out.2 wd).mono ?_
  rintro e w2 ⟨A2x, c2x, rfl, hN⟩
  obtain ⟨n2x, hn2⟩ : ∃ nn_, nn_ = (encI (7)).length := ⟨_, rfl⟩
  obtain ⟨l2x, hl2⟩ : ∃ ll_, ll_ = encI (7) := ⟨_, rfl⟩
  rw [← hn2] at hN ⊢
  rw [← hl2] at hN
  have HB2x : Hid (n2x ≤ 20000) := Lib.hid (by rw [hn2]; have := encI_len (7) HKK.out.2; omega)
  have HL2 := Lib.hid hl2
  refine ⟨_, rfl, hHeld.go hN.2.1 (by simp), fun hHeld => ?_⟩
  simp only [xPa, xPb, xPc, xPd, xPe]
  have HY2x := Lib.hid hN.by
  have HFD := Lib.hid (HFD.out.and hN.2.1 (by simp))
  clear hN hn2 hl2
  refine call_at (i := 5) (f := ?_) (args := ?_) rfl (by kernel_rfl) (by rfl) ?_ ?_
  rotate_left 2
  · go_simp
    try first | with_reducible rfl | apply And.intro <;> rfl
  refine (refint_any (x.f) HX.out.f.2 w2).mono ?_
  rintro e w5 ⟨A5x, c5x, rfl, hN⟩
  obtain ⟨n5x, hn5⟩ : ∃ nn_, nn_ = (encI (x.f)).length := ⟨_, rfl⟩
  obtain ⟨l5x, hl5⟩ : ∃ ll_, ll_ = encI (x.f) := ⟨_, rfl⟩
  rw [← hn5] at hN ⊢
  rw [← hl5] at hN
  have HB5x : Hid (n5x ≤ 20000) := Lib.hid (by rw [hn5]; have := encI_len (x.f) HX.out.f.2; omega)
  have HL5 := Lib.hid hl5
  refine ⟨_, rfl, hHeld.go hN.2.1 (by simp), fun hHeld => ?_⟩
  simp only [xPa, xPb, xPc, xPd, xPe]
  have HY5x := Lib.hid hN.by
  have HFD := Lib.hid (HFD.out.and hN.2.1 (by simp))
  have HY2x := Lib.hid (Fr.byk hN.2.1 HY2x.out)
  clear hN hn5 hl5
  refine call_at (i := 8) (f := ?_) (args := ?_) rfl (by kernel_rfl) (by rfl) ?_ ?_
  rotate_left 2
  · go_simp
    try first | with_reducible rfl | apply And.intro <;> rfl
  refine (refint_any (x.t) HX.out.t.2 w5).mono ?_
  rintro e w8 ⟨A8x, c8x, rfl, hN⟩
  obtain ⟨n8x, hn8⟩ : ∃ nn_, nn_ = (encI (x.t)).length := ⟨_, rfl⟩
  obtain ⟨l8x, hl8⟩ : ∃ ll_, ll_ = encI (x.t) := ⟨_, rfl⟩
  rw [← hn8] at hN ⊢
  rw [← hl8] at hN
  have HB8x : Hid (n8x ≤ 20000) := Lib.hid (by rw [hn8]; have := encI_len (x.t) HX.out.t.2; omega)
  have HL8 := Lib.hid hl8
  refine ⟨_, rfl, hHeld.go hN.2.1 (by simp), fun hHeld => ?_⟩
  simp only [xPa, xPb, xPc, xPd, xPe]
  have HY8x := Lib.hid hN.by
  have HFD := Lib.hid (HFD.out.and hN.2.1 (by simp))
  have HY2x := Lib.hid (Fr.byk hN.2.1 HY2x.out)
  have HY5x := Lib.hid (Fr.byk hN.2.1 HY5x.out)
  clear hN hn8 hl8
  refine step_at (i := 9) rfl (by kernel_rfl) (by rfl) (fun K hK => ?_)
  refine wp_run (v := ?_) (w' := ?_) ?_ ?_
  rotate_left 2
  · go_simp
    try first | with_reducible rfl | apply And.intro <;> rfl
  refine hK.out _ (w8.alloc (Obj.cells #[.slice A2x n2x c2x, .slice A5x n5x c5x, .slice A8x n8x c8x] 52)) (hHeld.alloc _) (fun hHeld => ?_)
  clear hK K
  simp only [xPa, xPb, xPc, xPd, xPe]
  have hfb : Fr [] w8 (w8.alloc (Obj.cells #[.slice A2x n2x c2x, .slice A5x n5x c5x, .slice A8x n8x c8x] 52)) := (Fr.refl [] w8).alloc _
  have hbb : Blk (w8.alloc (Obj.cells #[.slice A2x n2x c2x, .slice A5x n5x c5x, .slice A8x n8x c8x] 52)) w8.heap.size 52 (([⟨A2x, n2x, c2x, l2x⟩, ⟨A5x, n5x, c5x, l5x⟩, ⟨A8x, n8x, c8x, l8x⟩] : List RowV).map RowV.val).toArray := Blk.new _ _ _
  generalize w8.alloc (Obj.cells #[.slice A2x n2x c2x, .slice A5x n5x c5x, .slice A8x n8x c8x] 52) = wj at *
  have HFD := Lib.hid (HFD.out.and hfb (by simp))
  have hj := join_big w8.heap.size 3 [⟨A2x, n2x, c2x, l2x⟩, ⟨A5x, n5x, c5x, l5x⟩, ⟨A8x, n8x, c8x, l8x⟩] wj hbb rfl (by omega) (by
   intro r hr
   simp only [List.mem_cons, List.not_mem_nil, or_false] at hr
   rcases hr with rfl | rfl | rfl
   · exact ⟨Fr.byk hfb HY2x.out, HB2x.out⟩
   · exact ⟨Fr.byk hfb HY5x.out, HB5x.out⟩
   · exact ⟨Fr.byk hfb HY8x.out, HB8x.out⟩)
  have hJ : joinL [⟨A2x, n2x, c2x, l2x⟩, ⟨A5x, n5x, c5x, l5x⟩, ⟨A8x, n8x, c8x, l8x⟩] = encI 7 ++ encI x.f ++ encI x.t := by
   simp only [joinL, List.map_cons, List.map_nil, List.flatten_cons, List.flatten_nil, HL2.out, HL5.out, HL8.out]
   simp [List.append_assoc]
  rw [hJ] at hj
  obtain ⟨X, hX⟩ : ∃ X, X = encI 7 ++ encI x.f ++ encI x.t := ⟨_, rfl⟩
  rw [← hX] at hj
  have HXT := Lib.hid hX
  clear hX
  have HJ := Lib.hid hj
  clear hfb hbb hj hJ HY2x HL2 HY5x HL5 HY8x HL8
  refine call_at (i := 10) (f := ?_) (args := ?_) rfl (by kernel_rfl) (by rfl) ?_ ?_
  rotate_left 2
  · go_simp
    try first | with_reducible rfl | apply And.intro <;> rfl
  refine HJ.out.mono ?_
  rintro e wk ⟨Aj, cj, rfl, hN⟩
  have HN := Lib.hid (hN.from2 HFD.out)
  refine ⟨_, rfl, hHeld.go hN.2.1 (by simp), fun hHeld => ?_⟩
  clear hN
  simp only [xPa, xPb, xPc, xPd, xPe]
  refine run_at (i := 11) (v := ?_) rfl (by kernel_rfl) (by rfl) (fun _ _ _ h => h) hHeld (fun w1 hw1 => ?_) ?_
  rotate_left 1
  · skip
    go_simp
    try first | with_reducible rfl | apply And.intro <;> rfl
  simp only [xPa, xPb, xPc, xPd, xPe]
  refine wpAnyH_done (by kernel_rfl) ?_ _
  go_wp2_with fail
  go_meet
  rw [← HXT.out]
  exact ⟨Aj, cj, rfl, HN.out⟩
 case rest =>
  obtain ⟨A0, c0, rfl, hn⟩ := hcut
  obtain ⟨n0, hn0⟩ : ∃ n0, n0 = (encI 7 ++ encI x.f ++ encI x.t).length := ⟨_, rfl⟩
  obtain ⟨l0, hl0⟩ : ∃ l0, l0 = encI 7 ++ encI x.f ++ encI x.t := ⟨_, rfl⟩
  rw [← hn0] at hn ⊢
  rw [← hl0] at hn
  have HN0 := Lib.hid hn
  have HB0l : Hid (n0 ≤ 20000) := Lib.hid (by rw [hn0]; have h1 := encI_len 7 HKK.out.2; have h2 := encI_len x.f HX.out.f.2; have h3 := encI_len x.t HX.out.t.2; simp only [List.length_append]; omega)
  have HL0 := Lib.hid hl0
  have HFC : Hid (Fr [] wa wc) := Lib.hid hn.2.1
  have hcq : wc.cell? ⟨w.heap.size, 0, none⟩ = some (.int .i64 7) := hn.2.1.cell hcq (by simp)
  have HY0 : Hid (By wc A0 n0 l0) := Lib.hid hn.by
  clear hn hn0 hl0 HCq HCf HCt
  obtain ⟨V, hV⟩ : ∃ V, V = x.po.cells := ⟨_, rfl⟩
  have HVL : Hid (V.length = 11) := Lib.hid (by rw [hV]; exact Wpo.len x.po)
  have HVR : Hid (wc.rangeAt w.heap.size 163 V) := Lib.hid (by rw [hV]; exact HFC.out.range HAT.out.po (by simp))
  have HONE : Hid (∀ v ∈ V, v.oneCell' = true) := Lib.hid (by rw [hV]; exact Wpo.one x.po)
  have hsz : ∀ n : Nat, (Array.replicate n undef).size = n := fun n => by simp
  have HV := Lib.hid hV
  clear hV
  go_wp2_with (first
   | (refine wpList_load_mid rfl 47 _ rfl w.heap.size 163 rfl V _ HVR.out Tryz.underlying47 rfl (row_prop.of HVL.out).2 ?_)
   | (refine wpList_store_box rfl 47 _ _ rfl _ 47 V rfl rfl (by rw [HVL.out]; kernel_rfl) (by rw [HVL.out]; rfl) HONE.out ?_
      intro wb hbb hfb
      have HBB := Lib.hid hbb
      have HFB := Lib.hid hfb
      clear hbb hfb))
  have HY0 := Lib.hid (Fr.byk HFB.out HY0.out)
  have HKE : Hid (x.po.k.Ok wb []) := Lib.hid (HX.out.po.k.keep (HF0.out.and (HFC.out.and HFB.out (by simp)) (by simp)) (by simp))
  have HFC := Lib.hid (HFC.out.and HFB.out (by simp))
  have hr0 : wb.rangeAt wc.heap.size 0 x.po.cells := by rw [← HV.out]; exact HBB.out.range
  have HC0 : Hid (wb.cell? ⟨wc.heap.size, 0 + 0, none⟩ = some (.int .i64 x.po.e)) := Lib.hid (by have h := hr0 0 _ rfl; simpa using h)
  have HC1 : Hid (wb.cell? ⟨wc.heap.size, 0 + 1, none⟩ = some (.int .i64 x.po.r)) := Lib.hid (by have h := hr0 1 _ rfl; simpa using h)
  have HC2 : Hid (wb.cell? ⟨wc.heap.size, 0 + 2, none⟩ = some (.int .i64 x.po.v)) := Lib.hid (by have h := hr0 2 _ rfl; simpa using h)
  have HC3 : Hid (wb.cell? ⟨wc.heap.size, 0 + 3, none⟩ = some (.int .i64 x.po.p)) := Lib.hid (by have h := hr0 3 _ rfl; simpa using h)
  have hB : wb.rangeAt wc.heap.size 4 x.po.k.cells := rangeAt_sub (xs := [.int .i64 x.po.e, .int .i64 x.po.r, .int .i64 x.po.v, .int .i64 x.po.p]) (ys := x.po.k.cells) (zs := [.int .i64 x.po.b, .int .i64 x.po.m]) hr0
  have hS : wb.rangeAt wc.heap.size 9 [.int .i64 x.po.b, .int .i64 x.po.m] := ra_tail (ra_tail hr0 (k := 4) rfl) (k := 5) (Wba.len x.po.k)
  obtain ⟨K, hK0⟩ : ∃ K, K = x.po.k.cells := ⟨_, rfl⟩
  have HKL : Hid (K.length = 5) := Lib.hid (by rw [hK0]; exact Wba.len x.po.k)
  rw [← hK0] at hB
  have HBT : Hid (wb.rangeAt wc.heap.size (0 + 4) K) := Lib.hid hB
  have HSG : Hid (wb.rangeAt wc.heap.size (0 + 9) [.int .i64 x.po.b, .int .i64 x.po.m]) := Lib.hid hS
  have HRK := Lib.hid hK0
  clear hr0 hB hS hK0
  have hwv : IntKind.i64.wrap (x.po.v + 1) = x.po.v + 1 := IntWalk.i64_in _ (by have := HX.out.po.v; have := HVV.out; unfold i64In at *; omega)
  refine wp_region_held_drew (S := Fr [] wb) (by kernel_rfl) (Fr.drew (Fr.refl _ wb)) (fun hHeld => ?_)
  have HFD : Hid (Fr [] wb wb.drew) := Lib.hid (Fr.drew (Fr.refl [] wb))
  have HY0 := Lib.hid (Fr.byk HFD.out HY0.out)
  generalize wb.drew = wd at *
  refine run_at (i := 0) (v := ?_) rfl (by kernel_rfl) (by rfl) (fun _ _ _ h => h) hHeld (fun w1 hw1 => ?_) ?_
  rotate_left 1
  · skip
    go_simp
    try first | with_reducible rfl | apply And.intro <;> rfl
  simp only [xPa, xPb, xPc, xPd, xPe]
  refine run_at (i := 1) (v := ?_) rfl (by kernel_rfl) (by rfl) (fun _ _ _ h => h) hHeld (fun w1 hw1 => ?_) ?_
  rotate_left 1
  · skip
    go_simp
    try first | with_reducible rfl | apply And.intro <;> rfl
  simp only [xPa, xPb, xPc, xPd, xPe]
  refine run_at (i := 2) (v := ?_) rfl (by kernel_rfl) (by rfl) (fun _ _ _ h => h) hHeld (fun w1 hw1 => ?_) ?_
  rotate_left 1
  · skip
    have hcw0 := hw1.cell (HC0.out) (by simp)
    go_simp
    try first | with_reducible rfl | apply And.intro <;> rfl
  simp only [xPa, xPb, xPc, xPd, xPe]
  refine run_at (i := 4) (v := ?_) rfl (by kernel_rfl) (by rfl) (fun _ _ _ h => h) hHeld (fun w1 hw1 => ?_) ?_
  rotate_left 1
  · skip
    go_simp
    try first | with_reducible rfl | apply And.intro <;> rfl
  simp only [xPa, xPb, xPc, xPd, xPe]
  refine run_at (i := 5) (v := ?_) rfl (by kernel_rfl) (by rfl) (fun _ _ _ h => h) hHeld (fun w1 hw1 => ?_) ?_
  rotate_left 1
  · skip
    have hcw0 := hw1.cell (HC1.out) (by simp)
    go_simp
    try first | with_reducible rfl | apply And.intro <;> rfl
  simp only [xPa, xPb, xPc, xPd, xPe]
  refine run_at (i := 7) (v := ?_) rfl (by kernel_rfl) (by rfl) (fun _ _ _ h => h) hHeld (fun w1 hw1 => ?_) ?_
  rotate_left 1
  · skip
    go_simp
    try first | with_reducible rfl | apply And.intro <;> rfl
  simp only [xPa, xPb, xPc, xPd, xPe]
  refine run_at (i := 8) (v := ?_) rfl (by kernel_rfl) (by rfl) (fun _ _ _ h => h) hHeld (fun w1 hw1 => ?_) ?_
  rotate_left 1
  · skip
    have hcw0 := hw1.cell (HC2.out) (by simp)
    go_simp
    try first | with_reducible rfl | apply And.intro <;> rfl
  simp only [xPa, xPb, xPc, xPd, xPe]
  refine run_at (i := 9) (v := ?_) rfl (by kernel_rfl) (by rfl) (fun _ _ _ h => h) hHeld (fun w1 hw1 => ?_) ?_
  rotate_left 1
  · skip
    go_simp
    try first | with_reducible rfl | apply And.intro <;> rfl
  simp only [xPa, xPb, xPc, xPd, xPe]
  refine run_at (i := 11) (v := ?_) rfl (by kernel_rfl) (by rfl) (fun _ _ _ h => h) hHeld (fun w1 hw1 => ?_) ?_
  rotate_left 1
  · skip
    go_simp
    try first | with_reducible rfl | apply And.intro <;> rfl
  simp only [xPa, xPb, xPc, xPd, xPe]
  refine run_at (i := 12) (v := ?_) rfl (by kernel_rfl) (by rfl) (fun _ _ _ h => h) hHeld (fun w1 hw1 => ?_) ?_
  rotate_left 1
  · skip
    have hcw0 := hw1.cell (HC3.out) (by simp)
    go_simp
    try first | with_reducible rfl | apply And.intro <;> rfl
  simp only [xPa, xPb, xPc, xPd, xPe]
  refine run_at (i := 14) (v := ?_) rfl (by kernel_rfl) (by rfl) (fun _ _ _ h => h) hHeld (fun w1 hw1 => ?_) ?_
  rotate_left 1
  · skip
    go_simp
    try first | with_reducible rfl | apply And.intro <;> rfl
  simp only [xPa, xPb, xPc, xPd, xPe]
  refine row_at (i := 15) rfl (by kernel_rfl) (by rfl) _ _ rfl _ _ rfl _ (fun w1 hw1 => hw1.range (HBT.out) (by simp)) (row_bat.of HKL.out) (fun _ _ _ h => h) hHeld ?_
  simp only [xPa, xPb, xPc, xPd, xPe]
  refine run_at (i := 17) (v := ?_) rfl (by kernel_rfl) (by rfl) (fun _ _ _ h => h) hHeld (fun w1 hw1 => ?_) ?_
  rotate_left 1
  · skip
    go_simp
    try first | with_reducible rfl | apply And.intro <;> rfl
  simp only [xPa, xPb, xPc, xPd, xPe]
  refine row_at (i := 18) rfl (by kernel_rfl) (by rfl) _ _ rfl _ _ rfl _ (fun w1 hw1 => hw1.range (HSG.out) (by simp)) (row_sig) (fun _ _ _ h => h) hHeld ?_
  simp only [xPa, xPb, xPc, xPd, xPe]
  refine call_at (i := 3) (f := ?_) (args := ?_) rfl (by kernel_rfl) (by rfl) ?_ ?_
  rotate_left 2
  · go_simp
    try first | with_reducible rfl | apply And.intro <;> rfl
  refine (refint_any (x.po.e) HX.out.po.e.2 wd).mono ?_
  rintro e w3 ⟨A3x, c3x, rfl, hN⟩
  obtain ⟨n3x, hn3⟩ : ∃ nn_, nn_ = (encI (x.po.e)).length := ⟨_, rfl⟩
  obtain ⟨l3x, hl3⟩ : ∃ ll_, ll_ = encI (x.po.e) := ⟨_, rfl⟩
  rw [← hn3] at hN ⊢
  rw [← hl3] at hN
  have HB3x : Hid (n3x ≤ 20000) := Lib.hid (by rw [hn3]; have := encI_len (x.po.e) HX.out.po.e.2; omega)
  have HL3 := Lib.hid hl3
  refine ⟨_, rfl, hHeld.go hN.2.1 (by simp), fun hHeld => ?_⟩
  simp only [xPa, xPb, xPc, xPd, xPe]
  have HY3x := Lib.hid hN.by
  have HFD := Lib.hid (HFD.out.and hN.2.1 (by simp))
  have HY0 := Lib.hid (Fr.byk hN.2.1 HY0.out)
  clear hN hn3 hl3
  refine call_at (i := 6) (f := ?_) (args := ?_) rfl (by kernel_rfl) (by rfl) ?_ ?_
  rotate_left 2
  · go_simp
    try first | with_reducible rfl | apply And.intro <;> rfl
  refine (refint_any (x.po.r) HX.out.po.r.2 w3).mono ?_
  rintro e w6 ⟨A6x, c6x, rfl, hN⟩
  obtain ⟨n6x, hn6⟩ : ∃ nn_, nn_ = (encI (x.po.r)).length := ⟨_, rfl⟩
  obtain ⟨l6x, hl6⟩ : ∃ ll_, ll_ = encI (x.po.r) := ⟨_, rfl⟩
  rw [← hn6] at hN ⊢
  rw [← hl6] at hN
  have HB6x : Hid (n6x ≤ 20000) := Lib.hid (by rw [hn6]; have := encI_len (x.po.r) HX.out.po.r.2; omega)
  have HL6 := Lib.hid hl6
  refine ⟨_, rfl, hHeld.go hN.2.1 (by simp), fun hHeld => ?_⟩
  simp only [xPa, xPb, xPc, xPd, xPe]
  have HY6x := Lib.hid hN.by
  have HFD := Lib.hid (HFD.out.and hN.2.1 (by simp))
  have HY3x := Lib.hid (Fr.byk hN.2.1 HY3x.out)
  have HY0 := Lib.hid (Fr.byk hN.2.1 HY0.out)
  clear hN hn6 hl6
  refine call_at (i := 10) (f := ?_) (args := ?_) rfl (by kernel_rfl) (by rfl) ?_ ?_
  rotate_left 2
  · go_simp
    try first | with_reducible rfl | apply And.intro <;> rfl
  refine (refint_any (x.po.v + 1) (show i64In (x.po.v + 1) from by have := HX.out.po.v; have := HVV.out; unfold i64In at *; omega).2 w6).mono ?_
  rintro e w10 ⟨A10x, c10x, rfl, hN⟩
  obtain ⟨n10x, hn10⟩ : ∃ nn_, nn_ = (encI (x.po.v + 1)).length := ⟨_, rfl⟩
  obtain ⟨l10x, hl10⟩ : ∃ ll_, ll_ = encI (x.po.v + 1) := ⟨_, rfl⟩
  rw [← hn10] at hN ⊢
  rw [← hl10] at hN
  have HB10x : Hid (n10x ≤ 20000) := Lib.hid (by rw [hn10]; have := encI_len (x.po.v + 1) (show i64In (x.po.v + 1) from by have := HX.out.po.v; have := HVV.out; unfold i64In at *; omega).2; omega)
  have HL10 := Lib.hid hl10
  refine ⟨_, rfl, hHeld.go hN.2.1 (by simp), fun hHeld => ?_⟩
  simp only [xPa, xPb, xPc, xPd, xPe]
  have HY10x := Lib.hid hN.by
  have HFD := Lib.hid (HFD.out.and hN.2.1 (by simp))
  have HY3x := Lib.hid (Fr.byk hN.2.1 HY3x.out)
  have HY6x := Lib.hid (Fr.byk hN.2.1 HY6x.out)
  have HY0 := Lib.hid (Fr.byk hN.2.1 HY0.out)
  clear hN hn10 hl10
  refine call_at (i := 13) (f := ?_) (args := ?_) rfl (by kernel_rfl) (by rfl) ?_ ?_
  rotate_left 2
  · go_simp
    try first | with_reducible rfl | apply And.intro <;> rfl
  refine (refint_any (x.po.p) HX.out.po.p.2 w10).mono ?_
  rintro e w13 ⟨A13x, c13x, rfl, hN⟩
  obtain ⟨n13x, hn13⟩ : ∃ nn_, nn_ = (encI (x.po.p)).length := ⟨_, rfl⟩
  obtain ⟨l13x, hl13⟩ : ∃ ll_, ll_ = encI (x.po.p) := ⟨_, rfl⟩
  rw [← hn13] at hN ⊢
  rw [← hl13] at hN
  have HB13x : Hid (n13x ≤ 20000) := Lib.hid (by rw [hn13]; have := encI_len (x.po.p) HX.out.po.p.2; omega)
  have HL13 := Lib.hid hl13
  refine ⟨_, rfl, hHeld.go hN.2.1 (by simp), fun hHeld => ?_⟩
  simp only [xPa, xPb, xPc, xPd, xPe]
  have HY13x := Lib.hid hN.by
  have HFD := Lib.hid (HFD.out.and hN.2.1 (by simp))
  have HY3x := Lib.hid (Fr.byk hN.2.1 HY3x.out)
  have HY6x := Lib.hid (Fr.byk hN.2.1 HY6x.out)
  have HY10x := Lib.hid (Fr.byk hN.2.1 HY10x.out)
  have HY0 := Lib.hid (Fr.byk hN.2.1 HY0.out)
  clear hN hn13 hl13
  refine call_at (i := 16) (f := ?_) (args := ?_) rfl (by kernel_rfl) (by rfl) ?_ ?_
  rotate_left 2
  · go_simp
    try first | with_reducible rfl | apply And.intro <;> rfl
  refine (refputBatch_any x.po.k w13 (HKE.out.keep HFD.out (by simp)) K HRK.out.symm).mono ?_
  rintro e w16 ⟨A16x, c16x, rfl, hN⟩
  obtain ⟨n16x, hn16⟩ : ∃ nn_, nn_ = (x.po.k.full).length := ⟨_, rfl⟩
  obtain ⟨l16x, hl16⟩ : ∃ ll_, ll_ = x.po.k.full := ⟨_, rfl⟩
  rw [← hn16] at hN ⊢
  rw [← hl16] at hN
  have HB16x : Hid (n16x ≤ 20000) := Lib.hid (by rw [hn16]; have := Wba.full_len HX.out.po.k; omega)
  have HL16 := Lib.hid hl16
  refine ⟨_, rfl, hHeld.go hN.2.1 (by simp), fun hHeld => ?_⟩
  simp only [xPa, xPb, xPc, xPd, xPe]
  have HY16x := Lib.hid hN.by
  have HFD := Lib.hid (HFD.out.and hN.2.1 (by simp))
  have HY3x := Lib.hid (Fr.byk hN.2.1 HY3x.out)
  have HY6x := Lib.hid (Fr.byk hN.2.1 HY6x.out)
  have HY10x := Lib.hid (Fr.byk hN.2.1 HY10x.out)
  have HY13x := Lib.hid (Fr.byk hN.2.1 HY13x.out)
  have HY0 := Lib.hid (Fr.byk hN.2.1 HY0.out)
  clear hN hn16 hl16
  refine call_at (i := 19) (f := ?_) (args := ?_) rfl (by kernel_rfl) (by rfl) ?_ ?_
  rotate_left 2
  · go_simp
    try first | with_reducible rfl | apply And.intro <;> rfl
  refine (refsig_any x.po.b x.po.m HX.out.po.b HX.out.po.m w16).mono ?_
  rintro e w19 ⟨A19x, c19x, rfl, hN⟩
  obtain ⟨n19x, hn19⟩ : ∃ nn_, nn_ = (sgL x.po.b x.po.m).length := ⟨_, rfl⟩
  obtain ⟨l19x, hl19⟩ : ∃ ll_, ll_ = sgL x.po.b x.po.m := ⟨_, rfl⟩
  rw [← hn19] at hN ⊢
  rw [← hl19] at hN
  have HB19x : Hid (n19x ≤ 20000) := Lib.hid (by rw [hn19]; have := encI_len x.po.b HX.out.po.b.2; have := encI_len x.po.m HX.out.po.m.2; simp only [sgL, List.length_append]; omega)
  have HL19 := Lib.hid hl19
  refine ⟨_, rfl, hHeld.go hN.2.1 (by simp), fun hHeld => ?_⟩
  simp only [xPa, xPb, xPc, xPd, xPe]
  have HY19x := Lib.hid hN.by
  have HFD := Lib.hid (HFD.out.and hN.2.1 (by simp))
  have HY3x := Lib.hid (Fr.byk hN.2.1 HY3x.out)
  have HY6x := Lib.hid (Fr.byk hN.2.1 HY6x.out)
  have HY10x := Lib.hid (Fr.byk hN.2.1 HY10x.out)
  have HY13x := Lib.hid (Fr.byk hN.2.1 HY13x.out)
  have HY16x := Lib.hid (Fr.byk hN.2.1 HY16x.out)
  have HY0 := Lib.hid (Fr.byk hN.2.1 HY0.out)
  clear hN hn19 hl19
  refine step_at (i := 20) rfl (by kernel_rfl) (by rfl) (fun K hK => ?_)
  refine wp_run (v := ?_) (w' := ?_) ?_ ?_
  rotate_left 2
  · go_simp
    try first | with_reducible rfl | apply And.intro <;> rfl
  refine hK.out _ (w19.alloc (Obj.cells #[.slice A0 n0 c0, .slice A3x n3x c3x, .slice A6x n6x c6x, .slice A10x n10x c10x, .slice A13x n13x c13x, .slice A16x n16x c16x, .slice A19x n19x c19x] 52)) (hHeld.alloc _) (fun hHeld => ?_)
  clear hK K
  simp only [xPa, xPb, xPc, xPd, xPe]
  have hfb : Fr [] w19 (w19.alloc (Obj.cells #[.slice A0 n0 c0, .slice A3x n3x c3x, .slice A6x n6x c6x, .slice A10x n10x c10x, .slice A13x n13x c13x, .slice A16x n16x c16x, .slice A19x n19x c19x] 52)) := (Fr.refl [] w19).alloc _
  have hbb : Blk (w19.alloc (Obj.cells #[.slice A0 n0 c0, .slice A3x n3x c3x, .slice A6x n6x c6x, .slice A10x n10x c10x, .slice A13x n13x c13x, .slice A16x n16x c16x, .slice A19x n19x c19x] 52)) w19.heap.size 52 (([⟨A0, n0, c0, l0⟩, ⟨A3x, n3x, c3x, l3x⟩, ⟨A6x, n6x, c6x, l6x⟩, ⟨A10x, n10x, c10x, l10x⟩, ⟨A13x, n13x, c13x, l13x⟩, ⟨A16x, n16x, c16x, l16x⟩, ⟨A19x, n19x, c19x, l19x⟩] : List RowV).map RowV.val).toArray := Blk.new _ _ _
  generalize w19.alloc (Obj.cells #[.slice A0 n0 c0, .slice A3x n3x c3x, .slice A6x n6x c6x, .slice A10x n10x c10x, .slice A13x n13x c13x, .slice A16x n16x c16x, .slice A19x n19x c19x] 52) = wj at *
  have HFD := Lib.hid (HFD.out.and hfb (by simp))
  have hj := join_big w19.heap.size 7 [⟨A0, n0, c0, l0⟩, ⟨A3x, n3x, c3x, l3x⟩, ⟨A6x, n6x, c6x, l6x⟩, ⟨A10x, n10x, c10x, l10x⟩, ⟨A13x, n13x, c13x, l13x⟩, ⟨A16x, n16x, c16x, l16x⟩, ⟨A19x, n19x, c19x, l19x⟩] wj hbb rfl (by omega) (by
   intro r hr
   simp only [List.mem_cons, List.not_mem_nil, or_false] at hr
   rcases hr with rfl | rfl | rfl | rfl | rfl | rfl | rfl
   · exact ⟨Fr.byk hfb HY0.out, HB0l.out⟩
   · exact ⟨Fr.byk hfb HY3x.out, HB3x.out⟩
   · exact ⟨Fr.byk hfb HY6x.out, HB6x.out⟩
   · exact ⟨Fr.byk hfb HY10x.out, HB10x.out⟩
   · exact ⟨Fr.byk hfb HY13x.out, HB13x.out⟩
   · exact ⟨Fr.byk hfb HY16x.out, HB16x.out⟩
   · exact ⟨Fr.byk hfb HY19x.out, HB19x.out⟩)
  have hJ : joinL [⟨A0, n0, c0, l0⟩, ⟨A3x, n3x, c3x, l3x⟩, ⟨A6x, n6x, c6x, l6x⟩, ⟨A10x, n10x, c10x, l10x⟩, ⟨A13x, n13x, c13x, l13x⟩, ⟨A16x, n16x, c16x, l16x⟩, ⟨A19x, n19x, c19x, l19x⟩] = l0 ++ x.po.full := by
   simp only [joinL, List.map_cons, List.map_nil, List.flatten_cons, List.flatten_nil, HL3.out, HL6.out, HL10.out, HL13.out, HL16.out, HL19.out]
   simp [Wpo.full, Wpo.head, encI_one, List.append_assoc]
  rw [hJ] at hj
  obtain ⟨X, hX⟩ : ∃ X, X = l0 ++ x.po.full := ⟨_, rfl⟩
  rw [← hX] at hj
  have HXT := Lib.hid hX
  clear hX
  have HJ := Lib.hid hj
  clear hfb hbb hj hJ HY3x HL3 HY6x HL6 HY10x HL10 HY13x HL13 HY16x HL16 HY19x HL19
  refine call_at (i := 21) (f := ?_) (args := ?_) rfl (by kernel_rfl) (by rfl) ?_ ?_
  rotate_left 2
  · go_simp
    try first | with_reducible rfl | apply And.intro <;> rfl
  refine HJ.out.mono ?_
  rintro e wk ⟨Aj, cj, rfl, hN⟩
  have HN := Lib.hid (hN.from2 HFD.out)
  refine ⟨_, rfl, hHeld.go hN.2.1 (by simp), fun hHeld => ?_⟩
  clear hN
  simp only [xPa, xPb, xPc, xPd, xPe]
  refine run_at (i := 22) (v := ?_) rfl (by kernel_rfl) (by rfl) (fun _ _ _ h => h) hHeld (fun w1 hw1 => ?_) ?_
  rotate_left 1
  · skip
    go_simp
    try first | with_reducible rfl | apply And.intro <;> rfl
  simp only [xPa, xPb, xPc, xPd, xPe]
  refine wpAnyH_done (by kernel_rfl) ?_ _
  have HBX : Hid (X = x.bytes) := Lib.hid (by rw [HXT.out, HL0.out]; unfold Wmg.bytes; rw [Wmg.body_7 HQ.out, HQ.out])
  have hxl : X.length ≤ 15030 := by rw [HBX.out]; exact Wmg.bytes_len HX.out
  have hd : decide ((65536 : Int) < (X.length : Int)) = false := by simp; omega
  go_wp2_with fail
  go_ret2
  unfold PackPost
  rw [if_pos (by rw [HQ.out]; decide), ← HBX.out]
  exact ⟨Aj, cj, rfl, HN.out.from2 (HF0.out.and HFC.out (by simp))⟩
set_option maxHeartbeats 4000000 in
theorem refpack_13 (x : Wmg) (hq : x.q = 13) (w : World) (hx : x.Ok w []) (C : List Value) (hC : x.cells = C) :
  Calls Tryz.prog 5 #[.agg C.toArray] w (PackPost w x) := by
 obtain ⟨wa, hwa⟩ : ∃ wa, wa = w.alloc (Obj.cells C.toArray 61) := ⟨_, rfl⟩
 have hf0 : Fr [] w wa := by rw [hwa]; exact (Fr.refl [] w).alloc _
 have hb0 : Blk wa w.heap.size 61 x.cells.toArray := by rw [hwa, hC]; exact Blk.new _ _ _
 have hat : x.At wa w.heap.size := Wmg.at_of hb0.range hx
 have HCq : Hid (wa.cell? ⟨w.heap.size, 0 + 0, none⟩ = some (.int .i64 13)) := Lib.hid (by have h := hat.q 0 _ rfl; rw [hq] at h; simpa using h)
 have HCf : Hid (wa.cell? ⟨w.heap.size, 0 + 1, none⟩ = some (.int .i64 x.f)) := Lib.hid (by have h := hat.f 0 _ rfl; simpa using h)
 have HCt : Hid (wa.cell? ⟨w.heap.size, 0 + 2, none⟩ = some (.int .i64 x.t)) := Lib.hid (by have h := hat.t 0 _ rfl; simpa using h)
 have hcq : wa.cell? ⟨w.heap.size, 0, none⟩ = some (.int .i64 13) := by have h := hat.q 0 _ rfl; rw [hq] at h; simpa using h
 have HX := Lib.hid hx
 have HAT := Lib.hid hat
 have HF0 := Lib.hid hf0
 have HWA := Lib.hid hwa
 have HQ := Lib.hid hq
 have HKK : Hid (i64In 13) := Lib.hid (by unfold i64In; omega)
 have HSZ : Hid (w.heap.size < wa.heap.size) := Lib.hid hb0.lt
 clear hx hC hwa hf0 hb0 hat hq
 go_enter Tryz.func5, Tryz.ntmps5
 go_upto_region 1 with (fail)
 change Code.wp _ _ _ _ (w.alloc (Obj.cells C.toArray 61))
 rw [← HWA.out]
 go_upto_region 3 with (fail)
 go_cut [4] (fun s4 wx => ∃ A c, s4 = .slice A (encI 13 ++ encI x.f ++ encI x.t).length c ∧ NewB wa wx A (encI 13 ++ encI x.f ++ encI x.t).length c (encI 13 ++ encI x.f ++ encI x.t))
 case first =>
  refine wp_region_held_drew (S := Fr [] wa) (by kernel_rfl) (Fr.drew (Fr.refl _ wa)) (fun hHeld => ?_)
  have HFD : Hid (Fr [] wa wa.drew) := Lib.hid (Fr.drew (Fr.refl [] wa))
  generalize wa.drew = wd at *
  refine run_at (i := 0) (v := ?_) rfl (by kernel_rfl) (by rfl) (fun _ _ _ h => h) hHeld (fun w1 hw1 => ?_) ?_
  rotate_left 1
  · skip
    go_simp
    try first | with_reducible rfl | apply And.intro <;> rfl
  simp only [xPa, xPb, xPc, xPd, xPe]
  refine run_at (i := 1) (v := ?_) rfl (by kernel_rfl) (by rfl) (fun _ _ _ h => h) hHeld (fun w1 hw1 => ?_) ?_
  rotate_left 1
  · skip
    have hcw0 := hw1.cell (HCq.out) (by simp)
    go_simp
    try first | with_reducible rfl | apply And.intro <;> rfl
  simp only [xPa, xPb, xPc, xPd, xPe]
  refine run_at (i := 3) (v := ?_) rfl (by kernel_rfl) (by rfl) (fun _ _ _ h => h) hHeld (fun w1 hw1 => ?_) ?_
  rotate_left 1
  · skip
    go_simp
    try first | with_reducible rfl | apply And.intro <;> rfl
  simp only [xPa, xPb, xPc, xPd, xPe]
  refine run_at (i := 4) (v := ?_) rfl (by kernel_rfl) (by rfl) (fun _ _ _ h => h) hHeld (fun w1 hw1 => ?_) ?_
  rotate_left 1
  · skip
    have hcw0 := hw1.cell (HCf.out) (by simp)
    go_simp
    try first | with_reducible rfl | apply And.intro <;> rfl
  simp only [xPa, xPb, xPc, xPd, xPe]
  refine run_at (i := 6) (v := ?_) rfl (by kernel_rfl) (by rfl) (fun _ _ _ h => h) hHeld (fun w1 hw1 => ?_) ?_
  rotate_left 1
  · skip
    go_simp
    try first | with_reducible rfl | apply And.intro <;> rfl
  simp only [xPa, xPb, xPc, xPd, xPe]
  refine run_at (i := 7) (v := ?_) rfl (by kernel_rfl) (by rfl) (fun _ _ _ h => h) hHeld (fun w1 hw1 => ?_) ?_
  rotate_left 1
  · skip
    have hcw0 := hw1.cell (HCt.out) (by simp)
    go_simp
    try first | with_reducible rfl | apply And.intro <;> rfl
  simp only [xPa, xPb, xPc, xPd, xPe]
  refine call_at (i := 2) (f := ?_) (args := ?_) rfl (by kernel_rfl) (by rfl) ?_ ?_
  rotate_left 2
  · go_simp
    try first | with_reducible rfl | apply And.intro <;> rfl
  refine (refint_any (13) HKK.out.2 wd).mono ?_
  rintro e w2 ⟨A2x, c2x, rfl, hN⟩
  obtain ⟨n2x, hn2⟩ : ∃ nn_, nn_ = (encI (13)).length := ⟨_, rfl⟩
  obtain ⟨l2x, hl2⟩ : ∃ ll_, ll_ = encI (13) := ⟨_, rfl⟩
  rw [← hn2] at hN ⊢
  rw [← hl2] at hN
  have HB2x : Hid (n2x ≤ 20000) := Lib.hid (by rw [hn2]; have := encI_len (13) HKK.out.2; omega)
  have HL2 := Lib.hid hl2
  refine ⟨_, rfl, hHeld.go hN.2.1 (by simp), fun hHeld => ?_⟩
  simp only [xPa, xPb, xPc, xPd, xPe]
  have HY2x := Lib.hid hN.by
  have HFD := Lib.hid (HFD.out.and hN.2.1 (by simp))
  clear hN hn2 hl2
  refine call_at (i := 5) (f := ?_) (args := ?_) rfl (by kernel_rfl) (by rfl) ?_ ?_
  rotate_left 2
  · go_simp
    try first | with_reducible rfl | apply And.intro <;> rfl
  refine (refint_any (x.f) HX.out.f.2 w2).mono ?_
  rintro e w5 ⟨A5x, c5x, rfl, hN⟩
  obtain ⟨n5x, hn5⟩ : ∃ nn_, nn_ = (encI (x.f)).length := ⟨_, rfl⟩
  obtain ⟨l5x, hl5⟩ : ∃ ll_, ll_ = encI (x.f) := ⟨_, rfl⟩
  rw [← hn5] at hN ⊢
  rw [← hl5] at hN
  have HB5x : Hid (n5x ≤ 20000) := Lib.hid (by rw [hn5]; have := encI_len (x.f) HX.out.f.2; omega)
  have HL5 := Lib.hid hl5
  refine ⟨_, rfl, hHeld.go hN.2.1 (by simp), fun hHeld => ?_⟩
  simp only [xPa, xPb, xPc, xPd, xPe]
  have HY5x := Lib.hid hN.by
  have HFD := Lib.hid (HFD.out.and hN.2.1 (by simp))
  have HY2x := Lib.hid (Fr.byk hN.2.1 HY2x.out)
  clear hN hn5 hl5
  refine call_at (i := 8) (f := ?_) (args := ?_) rfl (by kernel_rfl) (by rfl) ?_ ?_
  rotate_left 2
  · go_simp
    try first | with_reducible rfl | apply And.intro <;> rfl
  refine (refint_any (x.t) HX.out.t.2 w5).mono ?_
  rintro e w8 ⟨A8x, c8x, rfl, hN⟩
  obtain ⟨n8x, hn8⟩ : ∃ nn_, nn_ = (encI (x.t)).length := ⟨_, rfl⟩
  obtain ⟨l8x, hl8⟩ : ∃ ll_, ll_ = encI (x.t) := ⟨_, rfl⟩
  rw [← hn8] at hN ⊢
  rw [← hl8] at hN
  have HB8x : Hid (n8x ≤ 20000) := Lib.hid (by rw [hn8]; have := encI_len (x.t) HX.out.t.2; omega)
  have HL8 := Lib.hid hl8
  refine ⟨_, rfl, hHeld.go hN.2.1 (by simp), fun hHeld => ?_⟩
  simp only [xPa, xPb, xPc, xPd, xPe]
  have HY8x := Lib.hid hN.by
  have HFD := Lib.hid (HFD.out.and hN.2.1 (by simp))
  have HY2x := Lib.hid (Fr.byk hN.2.1 HY2x.out)
  have HY5x := Lib.hid (Fr.byk hN.2.1 HY5x.out)
  clear hN hn8 hl8
  refine step_at (i := 9) rfl (by kernel_rfl) (by rfl) (fun K hK => ?_)
  refine wp_run (v := ?_) (w' := ?_) ?_ ?_
  rotate_left 2
  · go_simp
    try first | with_reducible rfl | apply And.intro <;> rfl
  refine hK.out _ (w8.alloc (Obj.cells #[.slice A2x n2x c2x, .slice A5x n5x c5x, .slice A8x n8x c8x] 52)) (hHeld.alloc _) (fun hHeld => ?_)
  clear hK K
  simp only [xPa, xPb, xPc, xPd, xPe]
  have hfb : Fr [] w8 (w8.alloc (Obj.cells #[.slice A2x n2x c2x, .slice A5x n5x c5x, .slice A8x n8x c8x] 52)) := (Fr.refl [] w8).alloc _
  have hbb : Blk (w8.alloc (Obj.cells #[.slice A2x n2x c2x, .slice A5x n5x c5x, .slice A8x n8x c8x] 52)) w8.heap.size 52 (([⟨A2x, n2x, c2x, l2x⟩, ⟨A5x, n5x, c5x, l5x⟩, ⟨A8x, n8x, c8x, l8x⟩] : List RowV).map RowV.val).toArray := Blk.new _ _ _
  generalize w8.alloc (Obj.cells #[.slice A2x n2x c2x, .slice A5x n5x c5x, .slice A8x n8x c8x] 52) = wj at *
  have HFD := Lib.hid (HFD.out.and hfb (by simp))
  have hj := join_big w8.heap.size 3 [⟨A2x, n2x, c2x, l2x⟩, ⟨A5x, n5x, c5x, l5x⟩, ⟨A8x, n8x, c8x, l8x⟩] wj hbb rfl (by omega) (by
   intro r hr
   simp only [List.mem_cons, List.not_mem_nil, or_false] at hr
   rcases hr with rfl | rfl | rfl
   · exact ⟨Fr.byk hfb HY2x.out, HB2x.out⟩
   · exact ⟨Fr.byk hfb HY5x.out, HB5x.out⟩
   · exact ⟨Fr.byk hfb HY8x.out, HB8x.out⟩)
  have hJ : joinL [⟨A2x, n2x, c2x, l2x⟩, ⟨A5x, n5x, c5x, l5x⟩, ⟨A8x, n8x, c8x, l8x⟩] = encI 13 ++ encI x.f ++ encI x.t := by
   simp only [joinL, List.map_cons, List.map_nil, List.flatten_cons, List.flatten_nil, HL2.out, HL5.out, HL8.out]
   simp [List.append_assoc]
  rw [hJ] at hj
  obtain ⟨X, hX⟩ : ∃ X, X = encI 13 ++ encI x.f ++ encI x.t := ⟨_, rfl⟩
  rw [← hX] at hj
  have HXT := Lib.hid hX
  clear hX
  have HJ := Lib.hid hj
  clear hfb hbb hj hJ HY2x HL2 HY5x HL5 HY8x HL8
  refine call_at (i := 10) (f := ?_) (args := ?_) rfl (by kernel_rfl) (by rfl) ?_ ?_
  rotate_left 2
  · go_simp
    try first | with_reducible rfl | apply And.intro <;> rfl
  refine HJ.out.mono ?_
  rintro e wk ⟨Aj, cj, rfl, hN⟩
  have HN := Lib.hid (hN.from2 HFD.out)
  refine ⟨_, rfl, hHeld.go hN.2.1 (by simp), fun hHeld => ?_⟩
  clear hN
  simp only [xPa, xPb, xPc, xPd, xPe]
  refine run_at (i := 11) (v := ?_) rfl (by kernel_rfl) (by rfl) (fun _ _ _ h => h) hHeld (fun w1 hw1 => ?_) ?_
  rotate_left 1
  · skip
    go_simp
    try first | with_reducible rfl | apply And.intro <;> rfl
  simp only [xPa, xPb, xPc, xPd, xPe]
  refine wpAnyH_done (by kernel_rfl) ?_ _
  go_wp2_with fail
  go_meet
  rw [← HXT.out]
  exact ⟨Aj, cj, rfl, HN.out⟩
 case rest =>
  obtain ⟨A0, c0, rfl, hn⟩ := hcut
  obtain ⟨n0, hn0⟩ : ∃ n0, n0 = (encI 13 ++ encI x.f ++ encI x.t).length := ⟨_, rfl⟩
  obtain ⟨l0, hl0⟩ : ∃ l0, l0 = encI 13 ++ encI x.f ++ encI x.t := ⟨_, rfl⟩
  rw [← hn0] at hn ⊢
  rw [← hl0] at hn
  have HN0 := Lib.hid hn
  have HB0l : Hid (n0 ≤ 20000) := Lib.hid (by rw [hn0]; have h1 := encI_len 13 HKK.out.2; have h2 := encI_len x.f HX.out.f.2; have h3 := encI_len x.t HX.out.t.2; simp only [List.length_append]; omega)
  have HL0 := Lib.hid hl0
  have HFC : Hid (Fr [] wa wc) := Lib.hid hn.2.1
  have hcq : wc.cell? ⟨w.heap.size, 0, none⟩ = some (.int .i64 13) := hn.2.1.cell hcq (by simp)
  have HY0 : Hid (By wc A0 n0 l0) := Lib.hid hn.by
  clear hn hn0 hl0 HCq HCf HCt
  have HCi : Hid (wc.cell? ⟨w.heap.size, 0 + 212, none⟩ = some (.int .i64 x.i)) := Lib.hid (HFC.out.cell (by have h := HAT.out.i 0 _ rfl; simpa using h) (by simp))
  have HCp : Hid (wc.cell? ⟨w.heap.size, 0 + 286, none⟩ = some (.string ⟨x.rp.toArray⟩)) := Lib.hid (HFC.out.cell (by have h := HAT.out.rp 0 _ rfl; simpa using h) (by simp))
  go_upto_region 31 with (fail)
  refine wp_region_held_drew (S := Fr [] wc) (by kernel_rfl) (Fr.drew (Fr.refl _ wc)) (fun hHeld => ?_)
  have HFD : Hid (Fr [] wc wc.drew) := Lib.hid (Fr.drew (Fr.refl [] wc))
  have HY0 := Lib.hid (Fr.byk HFD.out HY0.out)
  generalize wc.drew = wd at *
  refine run_at (i := 0) (v := ?_) rfl (by kernel_rfl) (by rfl) (fun _ _ _ h => h) hHeld (fun w1 hw1 => ?_) ?_
  rotate_left 1
  · skip
    go_simp
    try first | with_reducible rfl | apply And.intro <;> rfl
  simp only [xPa, xPb, xPc, xPd, xPe]
  refine run_at (i := 1) (v := ?_) rfl (by kernel_rfl) (by rfl) (fun _ _ _ h => h) hHeld (fun w1 hw1 => ?_) ?_
  rotate_left 1
  · skip
    go_simp
    try first | with_reducible rfl | apply And.intro <;> rfl
  simp only [xPa, xPb, xPc, xPd, xPe]
  refine run_at (i := 2) (v := ?_) rfl (by kernel_rfl) (by rfl) (fun _ _ _ h => h) hHeld (fun w1 hw1 => ?_) ?_
  rotate_left 1
  · skip
    have hcw0 := hw1.cell (HCi.out) (by simp)
    go_simp
    try first | with_reducible rfl | apply And.intro <;> rfl
  simp only [xPa, xPb, xPc, xPd, xPe]
  refine run_at (i := 4) (v := ?_) rfl (by kernel_rfl) (by rfl) (fun _ _ _ h => h) hHeld (fun w1 hw1 => ?_) ?_
  rotate_left 1
  · skip
    go_simp
    try first | with_reducible rfl | apply And.intro <;> rfl
  simp only [xPa, xPb, xPc, xPd, xPe]
  refine run_at (i := 5) (v := ?_) rfl (by kernel_rfl) (by rfl) (fun _ _ _ h => h) hHeld (fun w1 hw1 => ?_) ?_
  rotate_left 1
  · skip
    have hcw0 := hw1.cell (HCp.out) (by simp)
    go_simp
    try first | with_reducible rfl | apply And.intro <;> rfl
  simp only [xPa, xPb, xPc, xPd, xPe]
  refine two_at (i := 3) (j := 6) rfl rfl (by kernel_rfl) (by rfl) (by rfl) (fun K hK => ?_) (fun K hK => ?_)
  focus
   refine wp_call (f := ?_) (args := ?_) ?_ ?_
   rotate_left 2
   · go_simp
     try first | with_reducible rfl | apply And.intro <;> rfl
   refine (refint_any x.i HX.out.i.2 wd).mono ?_
   rintro e w3 ⟨A3x, c3x, rfl, hN⟩
   obtain ⟨n3x, hn3⟩ : ∃ nn_, nn_ = (encI x.i).length := ⟨_, rfl⟩
   obtain ⟨l3x, hl3⟩ : ∃ ll_, ll_ = encI x.i := ⟨_, rfl⟩
   rw [← hn3] at hN ⊢
   rw [← hl3] at hN
   have HB3x : Hid (n3x ≤ 20000) := Lib.hid (by rw [hn3]; have := encI_len x.i HX.out.i.2; omega)
   have HL3 := Lib.hid hl3
   refine ⟨_, rfl, hK.out _ _ (hHeld.go hN.2.1 (by simp)) (fun hHeld => ?_)⟩
   clear hK K
   simp only [xPa, xPb, xPc, xPd, xPe]
   obtain ⟨w2, A, cc, hconv, hf2, hy2, hbk⟩ := conv_str w3 x.rp
   refine step_at (i := 6) rfl (by kernel_rfl) (by rfl) (fun K hK => ?_)
   refine wp_run (v := ?_) (w' := ?_) ?_ ?_
   rotate_left 2
   · have hrun := hconv
     go_simp
     try first | with_reducible rfl | apply And.intro <;> rfl
   refine hK.out _ _ (hHeld.go hf2 (by simp)) (fun hHeld => ?_)
   clear hK K
   simp only [xPa, xPb, xPc, xPd, xPe]
   have HFD := Lib.hid ((HFD.out.and hN.2.1 (by simp)).and hf2 (by simp))
   have HY0 := Lib.hid (Fr.byk hf2 (Fr.byk hN.2.1 HY0.out))
   have HY3x := Lib.hid (Fr.byk hf2 hN.by)
   have HYP := Lib.hid hy2
   have HA : Hid (∀ k ∈ bk A, k < w2.heap.size) := Lib.hid (fun k hk => (hbk k hk).2)
   clear hN hn3 hl3 hconv hf2 hy2 hbk
   generalize w2 = wz at *
  rotate_left
  focus
   obtain ⟨w2, A, cc, hconv, hf2, hy2, hbk⟩ := conv_str wd x.rp
   refine wp_run (v := ?_) (w' := ?_) ?_ ?_
   rotate_left 2
   · have hrun := hconv
     go_simp
     try first | with_reducible rfl | apply And.intro <;> rfl
   refine hK.out _ _ (hHeld.go hf2 (by simp)) (fun hHeld => ?_)
   clear hK K
   simp only [xPa, xPb, xPc, xPd, xPe]
   refine call_at (i := 3) (f := ?_) (args := ?_) rfl (by kernel_rfl) (by rfl) ?_ ?_
   rotate_left 2
   · go_simp
     try first | with_reducible rfl | apply And.intro <;> rfl
   refine (refint_any x.i HX.out.i.2 w2).mono ?_
   rintro e w3 ⟨A3x, c3x, rfl, hN⟩
   obtain ⟨n3x, hn3⟩ : ∃ nn_, nn_ = (encI x.i).length := ⟨_, rfl⟩
   obtain ⟨l3x, hl3⟩ : ∃ ll_, ll_ = encI x.i := ⟨_, rfl⟩
   rw [← hn3] at hN ⊢
   rw [← hl3] at hN
   have HB3x : Hid (n3x ≤ 20000) := Lib.hid (by rw [hn3]; have := encI_len x.i HX.out.i.2; omega)
   have HL3 := Lib.hid hl3
   refine ⟨_, rfl, hHeld.go hN.2.1 (by simp), fun hHeld => ?_⟩
   simp only [xPa, xPb, xPc, xPd, xPe]
   have HFD := Lib.hid ((HFD.out.and hf2 (by simp)).and hN.2.1 (by simp))
   have HY0 := Lib.hid (Fr.byk hN.2.1 (Fr.byk hf2 HY0.out))
   have HY3x := Lib.hid hN.by
   have HYP := Lib.hid (Fr.byk hN.2.1 hy2)
   have HA : Hid (∀ k ∈ bk A, k < w3.heap.size) := Lib.hid (fun k hk => Nat.lt_of_lt_of_le (hbk k hk).2 hN.2.1.size)
   clear hN hn3 hl3 hconv hf2 hy2 hbk
   generalize w3 = wz at *
  all_goals
   skip
   refine call_at (i := 7) (f := ?_) (args := ?_) rfl (by kernel_rfl) (by rfl) ?_ ?_
   rotate_left 2
   · go_simp
     try first | with_reducible rfl | apply And.intro <;> rfl
   refine ((refrow_any A x.rp.length cc x.rp wz HYP.out HA.out (by have := HX.out.rp; omega))).mono ?_
   rintro e w7 ⟨A7x, c7x, rfl, hN⟩
   rw [show (enc x.rp.length).length + x.rp.length = (enc x.rp.length ++ x.rp).length by simp] at hN ⊢
   obtain ⟨n7x, hn7⟩ : ∃ nn_, nn_ = (enc x.rp.length ++ x.rp).length := ⟨_, rfl⟩
   obtain ⟨l7x, hl7⟩ : ∃ ll_, ll_ = enc x.rp.length ++ x.rp := ⟨_, rfl⟩
   rw [← hn7] at hN ⊢
   rw [← hl7] at hN
   have HB7x : Hid (n7x ≤ 20000) := Lib.hid (by rw [hn7]; have := enc_ten (m := x.rp.length) (by have := HX.out.rp; omega); have := HX.out.rp; simp only [List.length_append]; omega)
   have HL7 := Lib.hid hl7
   refine ⟨_, rfl, hHeld.go hN.2.1 (by simp), fun hHeld => ?_⟩
   simp only [xPa, xPb, xPc, xPd, xPe]
   have HY7x := Lib.hid hN.by
   have HFD := Lib.hid (HFD.out.and hN.2.1 (by simp))
   have HY3x := Lib.hid (Fr.byk hN.2.1 HY3x.out)
   have HY0 := Lib.hid (Fr.byk hN.2.1 HY0.out)
   clear hN hn7 hl7
   refine step_at (i := 8) rfl (by kernel_rfl) (by rfl) (fun K hK => ?_)
   refine wp_run (v := ?_) (w' := ?_) ?_ ?_
   rotate_left 2
   · go_simp
     try first | with_reducible rfl | apply And.intro <;> rfl
   refine hK.out _ (w7.alloc (Obj.cells #[.slice A0 n0 c0, .slice A3x n3x c3x, .slice A7x n7x c7x] 52)) (hHeld.alloc _) (fun hHeld => ?_)
   clear hK K
   simp only [xPa, xPb, xPc, xPd, xPe]
   have hfb : Fr [] w7 (w7.alloc (Obj.cells #[.slice A0 n0 c0, .slice A3x n3x c3x, .slice A7x n7x c7x] 52)) := (Fr.refl [] w7).alloc _
   have hbb : Blk (w7.alloc (Obj.cells #[.slice A0 n0 c0, .slice A3x n3x c3x, .slice A7x n7x c7x] 52)) w7.heap.size 52 (([⟨A0, n0, c0, l0⟩, ⟨A3x, n3x, c3x, l3x⟩, ⟨A7x, n7x, c7x, l7x⟩] : List RowV).map RowV.val).toArray := Blk.new _ _ _
   generalize w7.alloc (Obj.cells #[.slice A0 n0 c0, .slice A3x n3x c3x, .slice A7x n7x c7x] 52) = wj at *
   have HFD := Lib.hid (HFD.out.and hfb (by simp))
   have hj := join_big w7.heap.size 3 [⟨A0, n0, c0, l0⟩, ⟨A3x, n3x, c3x, l3x⟩, ⟨A7x, n7x, c7x, l7x⟩] wj hbb rfl (by omega) (by
    intro r hr
    simp only [List.mem_cons, List.not_mem_nil, or_false] at hr
    rcases hr with rfl | rfl | rfl
    · exact ⟨Fr.byk hfb HY0.out, HB0l.out⟩
    · exact ⟨Fr.byk hfb HY3x.out, HB3x.out⟩
    · exact ⟨Fr.byk hfb HY7x.out, HB7x.out⟩)
   have hJ : joinL [⟨A0, n0, c0, l0⟩, ⟨A3x, n3x, c3x, l3x⟩, ⟨A7x, n7x, c7x, l7x⟩] = l0 ++ (encI x.i ++ (enc x.rp.length ++ x.rp)) := by
    simp only [joinL, List.map_cons, List.map_nil, List.flatten_cons, List.flatten_nil, HL3.out, HL7.out]
    simp [List.append_assoc]
   rw [hJ] at hj
   obtain ⟨X, hX⟩ : ∃ X, X = l0 ++ (encI x.i ++ (enc x.rp.length ++ x.rp)) := ⟨_, rfl⟩
   rw [← hX] at hj
   have HXT := Lib.hid hX
   clear hX
   have HJ := Lib.hid hj
   clear hfb hbb hj hJ
   refine call_at (i := 9) (f := ?_) (args := ?_) rfl (by kernel_rfl) (by rfl) ?_ ?_
   rotate_left 2
   · go_simp
     try first | with_reducible rfl | apply And.intro <;> rfl
   refine HJ.out.mono ?_
   rintro e wk ⟨Aj, cj, rfl, hN⟩
   have HN := Lib.hid (hN.from2 HFD.out)
   refine ⟨_, rfl, hHeld.go hN.2.1 (by simp), fun hHeld => ?_⟩
   clear hN
   simp only [xPa, xPb, xPc, xPd, xPe]
   refine run_at (i := 10) (v := ?_) rfl (by kernel_rfl) (by rfl) (fun _ _ _ h => h) hHeld (fun w1 hw1 => ?_) ?_
   rotate_left 1
   · skip
     go_simp
     try first | with_reducible rfl | apply And.intro <;> rfl
   simp only [xPa, xPb, xPc, xPd, xPe]
   refine wpAnyH_done (by kernel_rfl) ?_ _
   have HBX : Hid (X = x.bytes) := Lib.hid (by rw [HXT.out, HL0.out]; unfold Wmg.bytes; rw [Wmg.body_13 HQ.out, HQ.out])
   have hxl : X.length ≤ 15030 := by rw [HBX.out]; exact Wmg.bytes_len HX.out
   have hd : decide ((65536 : Int) < (X.length : Int)) = false := by simp; omega
   go_wp2_with fail
   go_ret2
   unfold PackPost
   rw [if_pos (by rw [HQ.out]; decide), ← HBX.out]
   exact ⟨Aj, cj, rfl, HN.out.from2 (HF0.out.and HFC.out (by simp))⟩
set_option maxHeartbeats 2000000 in
theorem refpack_none (x : Wmg) (hq : ¬ (1 ≤ x.q ∧ x.q ≤ 14)) (w : World) (hx : x.Ok w []) (C : List Value) (hC : x.cells = C) :
  Calls Tryz.prog 5 #[.agg C.toArray] w (PackPost w x) := by
 obtain ⟨wa, hwa⟩ : ∃ wa, wa = w.alloc (Obj.cells C.toArray 61) := ⟨_, rfl⟩
 have hf0 : Fr [] w wa := by rw [hwa]; exact (Fr.refl [] w).alloc _
 have hb0 : Blk wa w.heap.size 61 x.cells.toArray := by rw [hwa, hC]; exact Blk.new _ _ _
 have hat : x.At wa w.heap.size := Wmg.at_of hb0.range hx
 have hcq : wa.cell? ⟨w.heap.size, 0, none⟩ = some (.int .i64 x.q) := by have h := hat.q 0 _ rfl; simpa using h
 have HF0 := Lib.hid hf0
 have HWA := Lib.hid hwa
 have HQ := Lib.hid hq
 clear hx hC hwa hf0 hb0 hat
 go_enter Tryz.func5, Tryz.ntmps5
 go_upto_region 1 with (fail)
 change Code.wp _ _ _ _ (w.alloc (Obj.cells C.toArray 61))
 rw [← HWA.out]
 by_cases h1 : x.q < 1
 · have hd1 : decide (x.q < 1) = true := by simp; omega
   clear hq
   go_wp2_with fail
   go_ret2
   unfold PackPost
   rw [if_neg HQ.out]
   exact ⟨rfl, HF0.out⟩
 · have hd1 : decide (x.q < 1) = false := by simp; omega
   have hd2 : decide (14 < x.q) = true := by simp; omega
   clear hq
   go_wp2_with fail
   go_ret2
   unfold PackPost
   rw [if_neg HQ.out]
   exact ⟨rfl, HF0.out⟩
set_option maxHeartbeats 4000000 in
theorem refpack_14 (x : Wmg) (hq : x.q = 14) (w : World) (hx : x.Ok w []) (C : List Value) (hC : x.cells = C) :
  Calls Tryz.prog 5 #[.agg C.toArray] w (PackPost w x) := by
 obtain ⟨wa, hwa⟩ : ∃ wa, wa = w.alloc (Obj.cells C.toArray 61) := ⟨_, rfl⟩
 have hf0 : Fr [] w wa := by rw [hwa]; exact (Fr.refl [] w).alloc _
 have hb0 : Blk wa w.heap.size 61 x.cells.toArray := by rw [hwa, hC]; exact Blk.new _ _ _
 have hat : x.At wa w.heap.size := Wmg.at_of hb0.range hx
 have HCq : Hid (wa.cell? ⟨w.heap.size, 0 + 0, none⟩ = some (.int .i64 14)) := Lib.hid (by have h := hat.q 0 _ rfl; rw [hq] at h; simpa using h)
 have HCf : Hid (wa.cell? ⟨w.heap.size, 0 + 1, none⟩ = some (.int .i64 x.f)) := Lib.hid (by have h := hat.f 0 _ rfl; simpa using h)
 have HCt : Hid (wa.cell? ⟨w.heap.size, 0 + 2, none⟩ = some (.int .i64 x.t)) := Lib.hid (by have h := hat.t 0 _ rfl; simpa using h)
 have hcq : wa.cell? ⟨w.heap.size, 0, none⟩ = some (.int .i64 14) := by have h := hat.q 0 _ rfl; rw [hq] at h; simpa using h
 have HX := Lib.hid hx
 have HAT := Lib.hid hat
 have HF0 := Lib.hid hf0
 have HWA := Lib.hid hwa
 have HQ := Lib.hid hq
 have HKK : Hid (i64In 14) := Lib.hid (by unfold i64In; omega)
 have HSZ : Hid (w.heap.size < wa.heap.size) := Lib.hid hb0.lt
 clear hx hC hwa hf0 hb0 hat hq
 go_enter Tryz.func5, Tryz.ntmps5
 go_upto_region 1 with (fail)
 change Code.wp _ _ _ _ (w.alloc (Obj.cells C.toArray 61))
 rw [← HWA.out]
 go_upto_region 3 with (fail)
 go_cut [4] (fun s4 wx => ∃ A c, s4 = .slice A (encI 14 ++ encI x.f ++ encI x.t).length c ∧ NewB wa wx A (encI 14 ++ encI x.f ++ encI x.t).length c (encI 14 ++ encI x.f ++ encI x.t))
 case first =>
  refine wp_region_held_drew (S := Fr [] wa) (by kernel_rfl) (Fr.drew (Fr.refl _ wa)) (fun hHeld => ?_)
  have HFD : Hid (Fr [] wa wa.drew) := Lib.hid (Fr.drew (Fr.refl [] wa))
  generalize wa.drew = wd at *
  refine run_at (i := 0) (v := ?_) rfl (by kernel_rfl) (by rfl) (fun _ _ _ h => h) hHeld (fun w1 hw1 => ?_) ?_
  rotate_left 1
  · skip
    go_simp
    try first | with_reducible rfl | apply And.intro <;> rfl
  simp only [xPa, xPb, xPc, xPd, xPe]
  refine run_at (i := 1) (v := ?_) rfl (by kernel_rfl) (by rfl) (fun _ _ _ h => h) hHeld (fun w1 hw1 => ?_) ?_
  rotate_left 1
  · skip
    have hcw0 := hw1.cell (HCq.out) (by simp)
    go_simp
    try first | with_reducible rfl | apply And.intro <;> rfl
  simp only [xPa, xPb, xPc, xPd, xPe]
  refine run_at (i := 3) (v := ?_) rfl (by kernel_rfl) (by rfl) (fun _ _ _ h => h) hHeld (fun w1 hw1 => ?_) ?_
  rotate_left 1
  · skip
    go_simp
    try first | with_reducible rfl | apply And.intro <;> rfl
  simp only [xPa, xPb, xPc, xPd, xPe]
  refine run_at (i := 4) (v := ?_) rfl (by kernel_rfl) (by rfl) (fun _ _ _ h => h) hHeld (fun w1 hw1 => ?_) ?_
  rotate_left 1
  · skip
    have hcw0 := hw1.cell (HCf.out) (by simp)
    go_simp
    try first | with_reducible rfl | apply And.intro <;> rfl
  simp only [xPa, xPb, xPc, xPd, xPe]
  refine run_at (i := 6) (v := ?_) rfl (by kernel_rfl) (by rfl) (fun _ _ _ h => h) hHeld (fun w1 hw1 => ?_) ?_
  rotate_left 1
  · skip
    go_simp
    try first | with_reducible rfl | apply And.intro <;> rfl
  simp only [xPa, xPb, xPc, xPd, xPe]
  refine run_at (i := 7) (v := ?_) rfl (by kernel_rfl) (by rfl) (fun _ _ _ h => h) hHeld (fun w1 hw1 => ?_) ?_
  rotate_left 1
  · skip
    have hcw0 := hw1.cell (HCt.out) (by simp)
    go_simp
    try first | with_reducible rfl | apply And.intro <;> rfl
  simp only [xPa, xPb, xPc, xPd, xPe]
  refine call_at (i := 2) (f := ?_) (args := ?_) rfl (by kernel_rfl) (by rfl) ?_ ?_
  rotate_left 2
  · go_simp
    try first | with_reducible rfl | apply And.intro <;> rfl
  refine (refint_any (14) HKK.out.2 wd).mono ?_
  rintro e w2 ⟨A2x, c2x, rfl, hN⟩
  obtain ⟨n2x, hn2⟩ : ∃ nn_, nn_ = (encI (14)).length := ⟨_, rfl⟩
  obtain ⟨l2x, hl2⟩ : ∃ ll_, ll_ = encI (14) := ⟨_, rfl⟩
  rw [← hn2] at hN ⊢
  rw [← hl2] at hN
  have HB2x : Hid (n2x ≤ 20000) := Lib.hid (by rw [hn2]; have := encI_len (14) HKK.out.2; omega)
  have HL2 := Lib.hid hl2
  refine ⟨_, rfl, hHeld.go hN.2.1 (by simp), fun hHeld => ?_⟩
  simp only [xPa, xPb, xPc, xPd, xPe]
  have HY2x := Lib.hid hN.by
  have HFD := Lib.hid (HFD.out.and hN.2.1 (by simp))
  clear hN hn2 hl2
  refine call_at (i := 5) (f := ?_) (args := ?_) rfl (by kernel_rfl) (by rfl) ?_ ?_
  rotate_left 2
  · go_simp
    try first | with_reducible rfl | apply And.intro <;> rfl
  refine (refint_any (x.f) HX.out.f.2 w2).mono ?_
  rintro e w5 ⟨A5x, c5x, rfl, hN⟩
  obtain ⟨n5x, hn5⟩ : ∃ nn_, nn_ = (encI (x.f)).length := ⟨_, rfl⟩
  obtain ⟨l5x, hl5⟩ : ∃ ll_, ll_ = encI (x.f) := ⟨_, rfl⟩
  rw [← hn5] at hN ⊢
  rw [← hl5] at hN
  have HB5x : Hid (n5x ≤ 20000) := Lib.hid (by rw [hn5]; have := encI_len (x.f) HX.out.f.2; omega)
  have HL5 := Lib.hid hl5
  refine ⟨_, rfl, hHeld.go hN.2.1 (by simp), fun hHeld => ?_⟩
  simp only [xPa, xPb, xPc, xPd, xPe]
  have HY5x := Lib.hid hN.by
  have HFD := Lib.hid (HFD.out.and hN.2.1 (by simp))
  have HY2x := Lib.hid (Fr.byk hN.2.1 HY2x.out)
  clear hN hn5 hl5
  refine call_at (i := 8) (f := ?_) (args := ?_) rfl (by kernel_rfl) (by rfl) ?_ ?_
  rotate_left 2
  · go_simp
    try first | with_reducible rfl | apply And.intro <;> rfl
  refine (refint_any (x.t) HX.out.t.2 w5).mono ?_
  rintro e w8 ⟨A8x, c8x, rfl, hN⟩
  obtain ⟨n8x, hn8⟩ : ∃ nn_, nn_ = (encI (x.t)).length := ⟨_, rfl⟩
  obtain ⟨l8x, hl8⟩ : ∃ ll_, ll_ = encI (x.t) := ⟨_, rfl⟩
  rw [← hn8] at hN ⊢
  rw [← hl8] at hN
  have HB8x : Hid (n8x ≤ 20000) := Lib.hid (by rw [hn8]; have := encI_len (x.t) HX.out.t.2; omega)
  have HL8 := Lib.hid hl8
  refine ⟨_, rfl, hHeld.go hN.2.1 (by simp), fun hHeld => ?_⟩
  simp only [xPa, xPb, xPc, xPd, xPe]
  have HY8x := Lib.hid hN.by
  have HFD := Lib.hid (HFD.out.and hN.2.1 (by simp))
  have HY2x := Lib.hid (Fr.byk hN.2.1 HY2x.out)
  have HY5x := Lib.hid (Fr.byk hN.2.1 HY5x.out)
  clear hN hn8 hl8
  refine step_at (i := 9) rfl (by kernel_rfl) (by rfl) (fun K hK => ?_)
  refine wp_run (v := ?_) (w' := ?_) ?_ ?_
  rotate_left 2
  · go_simp
    try first | with_reducible rfl | apply And.intro <;> rfl
  refine hK.out _ (w8.alloc (Obj.cells #[.slice A2x n2x c2x, .slice A5x n5x c5x, .slice A8x n8x c8x] 52)) (hHeld.alloc _) (fun hHeld => ?_)
  clear hK K
  simp only [xPa, xPb, xPc, xPd, xPe]
  have hfb : Fr [] w8 (w8.alloc (Obj.cells #[.slice A2x n2x c2x, .slice A5x n5x c5x, .slice A8x n8x c8x] 52)) := (Fr.refl [] w8).alloc _
  have hbb : Blk (w8.alloc (Obj.cells #[.slice A2x n2x c2x, .slice A5x n5x c5x, .slice A8x n8x c8x] 52)) w8.heap.size 52 (([⟨A2x, n2x, c2x, l2x⟩, ⟨A5x, n5x, c5x, l5x⟩, ⟨A8x, n8x, c8x, l8x⟩] : List RowV).map RowV.val).toArray := Blk.new _ _ _
  generalize w8.alloc (Obj.cells #[.slice A2x n2x c2x, .slice A5x n5x c5x, .slice A8x n8x c8x] 52) = wj at *
  have HFD := Lib.hid (HFD.out.and hfb (by simp))
  have hj := join_big w8.heap.size 3 [⟨A2x, n2x, c2x, l2x⟩, ⟨A5x, n5x, c5x, l5x⟩, ⟨A8x, n8x, c8x, l8x⟩] wj hbb rfl (by omega) (by
   intro r hr
   simp only [List.mem_cons, List.not_mem_nil, or_false] at hr
   rcases hr with rfl | rfl | rfl
   · exact ⟨Fr.byk hfb HY2x.out, HB2x.out⟩
   · exact ⟨Fr.byk hfb HY5x.out, HB5x.out⟩
   · exact ⟨Fr.byk hfb HY8x.out, HB8x.out⟩)
  have hJ : joinL [⟨A2x, n2x, c2x, l2x⟩, ⟨A5x, n5x, c5x, l5x⟩, ⟨A8x, n8x, c8x, l8x⟩] = encI 14 ++ encI x.f ++ encI x.t := by
   simp only [joinL, List.map_cons, List.map_nil, List.flatten_cons, List.flatten_nil, HL2.out, HL5.out, HL8.out]
   simp [List.append_assoc]
  rw [hJ] at hj
  obtain ⟨X, hX⟩ : ∃ X, X = encI 14 ++ encI x.f ++ encI x.t := ⟨_, rfl⟩
  rw [← hX] at hj
  have HXT := Lib.hid hX
  clear hX
  have HJ := Lib.hid hj
  clear hfb hbb hj hJ HY2x HL2 HY5x HL5 HY8x HL8
  refine call_at (i := 10) (f := ?_) (args := ?_) rfl (by kernel_rfl) (by rfl) ?_ ?_
  rotate_left 2
  · go_simp
    try first | with_reducible rfl | apply And.intro <;> rfl
  refine HJ.out.mono ?_
  rintro e wk ⟨Aj, cj, rfl, hN⟩
  have HN := Lib.hid (hN.from2 HFD.out)
  refine ⟨_, rfl, hHeld.go hN.2.1 (by simp), fun hHeld => ?_⟩
  clear hN
  simp only [xPa, xPb, xPc, xPd, xPe]
  refine run_at (i := 11) (v := ?_) rfl (by kernel_rfl) (by rfl) (fun _ _ _ h => h) hHeld (fun w1 hw1 => ?_) ?_
  rotate_left 1
  · skip
    go_simp
    try first | with_reducible rfl | apply And.intro <;> rfl
  simp only [xPa, xPb, xPc, xPd, xPe]
  refine wpAnyH_done (by kernel_rfl) ?_ _
  go_wp2_with fail
  go_meet
  rw [← HXT.out]
  exact ⟨Aj, cj, rfl, HN.out⟩
 case rest =>
  obtain ⟨A0, c0, rfl, hn⟩ := hcut
  obtain ⟨n0, hn0⟩ : ∃ n0, n0 = (encI 14 ++ encI x.f ++ encI x.t).length := ⟨_, rfl⟩
  obtain ⟨l0, hl0⟩ : ∃ l0, l0 = encI 14 ++ encI x.f ++ encI x.t := ⟨_, rfl⟩
  rw [← hn0] at hn ⊢
  rw [← hl0] at hn
  have HN0 := Lib.hid hn
  have HB0l : Hid (n0 ≤ 20000) := Lib.hid (by rw [hn0]; have h1 := encI_len 14 HKK.out.2; have h2 := encI_len x.f HX.out.f.2; have h3 := encI_len x.t HX.out.t.2; simp only [List.length_append]; omega)
  have HL0 := Lib.hid hl0
  have HFC : Hid (Fr [] wa wc) := Lib.hid hn.2.1
  have hcq : wc.cell? ⟨w.heap.size, 0, none⟩ = some (.int .i64 14) := hn.2.1.cell hcq (by simp)
  have HY0 : Hid (By wc A0 n0 l0) := Lib.hid hn.by
  clear hn hn0 hl0 HCq HCf HCt
  obtain ⟨V, hV⟩ : ∃ V, V = x.de.cells := ⟨_, rfl⟩
  have HVL : Hid (V.length = 8) := Lib.hid (by rw [hV]; exact Wdc.len x.de)
  have HVR : Hid (wc.rangeAt w.heap.size 287 V) := Lib.hid (by rw [hV]; exact HFC.out.range HAT.out.de (by simp))
  have HONE : Hid (∀ v ∈ V, v.oneCell' = true) := Lib.hid (by rw [hV]; exact Wdc.one x.de)
  have HV := Lib.hid hV
  clear hV
  go_wp2_with (first
   | (refine wpList_load_mid rfl 59 _ rfl w.heap.size 287 rfl V _ HVR.out Tryz.underlying59 rfl (row_dec.of HVL.out).2 ?_)
   | (refine wpList_store_box rfl 59 _ _ rfl _ 59 V rfl rfl (by rw [HVL.out]; kernel_rfl) (by rw [HVL.out]; rfl) HONE.out ?_
      intro wb hbb hfb
      have HBB := Lib.hid hbb
      have HFB := Lib.hid hfb
      clear hbb hfb))
  have HY0 := Lib.hid (Fr.byk HFB.out HY0.out)
  have HDE : Hid (x.de.Ok wb []) := Lib.hid (HX.out.de.keep (HF0.out.and (HFC.out.and HFB.out (by simp)) (by simp)) (by simp))
  have HFC := Lib.hid (HFC.out.and HFB.out (by simp))
  have hr0 : wb.rangeAt wc.heap.size 0 x.de.cells := by rw [← HV.out]; exact HBB.out.range
  have HC0 : Hid (wb.cell? ⟨wc.heap.size, 0 + 0, none⟩ = some (.int .i64 x.de.e)) := Lib.hid (by have h := hr0 0 _ rfl; simpa using h)
  have HC1 : Hid (wb.cell? ⟨wc.heap.size, 0 + 1, none⟩ = some (.int .i64 x.de.r)) := Lib.hid (by have h := hr0 1 _ rfl; simpa using h)
  have HC7 : Hid (wb.cell? ⟨wc.heap.size, 0 + 7, none⟩ = some (.slice x.de.A x.de.n x.de.d)) := Lib.hid (by have h := ra_tail (ra_tail hr0 (k := 2) rfl) (k := 5) (Wba.len x.de.k) 0 _ rfl; simpa using h)
  have hB : wb.rangeAt wc.heap.size 2 x.de.k.cells := rangeAt_sub (xs := [.int .i64 x.de.e, .int .i64 x.de.r]) (ys := x.de.k.cells) (zs := [.slice x.de.A x.de.n x.de.d]) hr0
  obtain ⟨K, hK0⟩ : ∃ K, K = x.de.k.cells := ⟨_, rfl⟩
  have HKL : Hid (K.length = 5) := Lib.hid (by rw [hK0]; exact Wba.len x.de.k)
  rw [← hK0] at hB
  have HBT : Hid (wb.rangeAt wc.heap.size (0 + 2) K) := Lib.hid hB
  have HRK := Lib.hid hK0
  clear hr0 hB hK0
  refine wp_region_held_drew (S := Fr [] wb) (by kernel_rfl) (Fr.drew (Fr.refl _ wb)) (fun hHeld => ?_)
  have HFD : Hid (Fr [] wb wb.drew) := Lib.hid (Fr.drew (Fr.refl [] wb))
  have HY0 := Lib.hid (Fr.byk HFD.out HY0.out)
  generalize wb.drew = wd at *
  refine run_at (i := 0) (v := ?_) rfl (by kernel_rfl) (by rfl) (fun _ _ _ h => h) hHeld (fun w1 hw1 => ?_) ?_
  rotate_left 1
  · skip
    go_simp
    try first | with_reducible rfl | apply And.intro <;> rfl
  simp only [xPa, xPb, xPc, xPd, xPe]
  refine run_at (i := 1) (v := ?_) rfl (by kernel_rfl) (by rfl) (fun _ _ _ h => h) hHeld (fun w1 hw1 => ?_) ?_
  rotate_left 1
  · skip
    go_simp
    try first | with_reducible rfl | apply And.intro <;> rfl
  simp only [xPa, xPb, xPc, xPd, xPe]
  refine run_at (i := 2) (v := ?_) rfl (by kernel_rfl) (by rfl) (fun _ _ _ h => h) hHeld (fun w1 hw1 => ?_) ?_
  rotate_left 1
  · skip
    have hcw0 := hw1.cell (HC0.out) (by simp)
    go_simp
    try first | with_reducible rfl | apply And.intro <;> rfl
  simp only [xPa, xPb, xPc, xPd, xPe]
  refine run_at (i := 4) (v := ?_) rfl (by kernel_rfl) (by rfl) (fun _ _ _ h => h) hHeld (fun w1 hw1 => ?_) ?_
  rotate_left 1
  · skip
    go_simp
    try first | with_reducible rfl | apply And.intro <;> rfl
  simp only [xPa, xPb, xPc, xPd, xPe]
  refine run_at (i := 5) (v := ?_) rfl (by kernel_rfl) (by rfl) (fun _ _ _ h => h) hHeld (fun w1 hw1 => ?_) ?_
  rotate_left 1
  · skip
    have hcw0 := hw1.cell (HC1.out) (by simp)
    go_simp
    try first | with_reducible rfl | apply And.intro <;> rfl
  simp only [xPa, xPb, xPc, xPd, xPe]
  refine run_at (i := 7) (v := ?_) rfl (by kernel_rfl) (by rfl) (fun _ _ _ h => h) hHeld (fun w1 hw1 => ?_) ?_
  rotate_left 1
  · skip
    go_simp
    try first | with_reducible rfl | apply And.intro <;> rfl
  simp only [xPa, xPb, xPc, xPd, xPe]
  refine row_at (i := 8) rfl (by kernel_rfl) (by rfl) _ _ rfl _ _ rfl _ (fun w1 hw1 => hw1.range (HBT.out) (by simp)) (row_bat.of HKL.out) (fun _ _ _ h => h) hHeld ?_
  simp only [xPa, xPb, xPc, xPd, xPe]
  refine run_at (i := 10) (v := ?_) rfl (by kernel_rfl) (by rfl) (fun _ _ _ h => h) hHeld (fun w1 hw1 => ?_) ?_
  rotate_left 1
  · skip
    go_simp
    try first | with_reducible rfl | apply And.intro <;> rfl
  simp only [xPa, xPb, xPc, xPd, xPe]
  refine run_at (i := 11) (v := ?_) rfl (by kernel_rfl) (by rfl) (fun _ _ _ h => h) hHeld (fun w1 hw1 => ?_) ?_
  rotate_left 1
  · skip
    have hcw0 := hw1.cell (HC7.out) (by simp)
    go_simp
    try first | with_reducible rfl | apply And.intro <;> rfl
  simp only [xPa, xPb, xPc, xPd, xPe]
  refine run_at (i := 12) (v := ?_) rfl (by kernel_rfl) (by rfl) (fun _ _ _ h => h) hHeld (fun w1 hw1 => ?_) ?_
  rotate_left 1
  · skip
    go_simp
    try first | with_reducible rfl | apply And.intro <;> rfl
  simp only [xPa, xPb, xPc, xPd, xPe]
  refine call_at (i := 3) (f := ?_) (args := ?_) rfl (by kernel_rfl) (by rfl) ?_ ?_
  rotate_left 2
  · go_simp
    try first | with_reducible rfl | apply And.intro <;> rfl
  refine (refint_any (x.de.e) HX.out.de.e.2 wd).mono ?_
  rintro e w3 ⟨A3x, c3x, rfl, hN⟩
  obtain ⟨n3x, hn3⟩ : ∃ nn_, nn_ = (encI (x.de.e)).length := ⟨_, rfl⟩
  obtain ⟨l3x, hl3⟩ : ∃ ll_, ll_ = encI (x.de.e) := ⟨_, rfl⟩
  rw [← hn3] at hN ⊢
  rw [← hl3] at hN
  have HB3x : Hid (n3x ≤ 20000) := Lib.hid (by rw [hn3]; have := encI_len (x.de.e) HX.out.de.e.2; omega)
  have HL3 := Lib.hid hl3
  refine ⟨_, rfl, hHeld.go hN.2.1 (by simp), fun hHeld => ?_⟩
  simp only [xPa, xPb, xPc, xPd, xPe]
  have HY3x := Lib.hid hN.by
  have HFD := Lib.hid (HFD.out.and hN.2.1 (by simp))
  have HY0 := Lib.hid (Fr.byk hN.2.1 HY0.out)
  clear hN hn3 hl3
  refine call_at (i := 6) (f := ?_) (args := ?_) rfl (by kernel_rfl) (by rfl) ?_ ?_
  rotate_left 2
  · go_simp
    try first | with_reducible rfl | apply And.intro <;> rfl
  refine (refint_any (x.de.r) HX.out.de.r.2 w3).mono ?_
  rintro e w6 ⟨A6x, c6x, rfl, hN⟩
  obtain ⟨n6x, hn6⟩ : ∃ nn_, nn_ = (encI (x.de.r)).length := ⟨_, rfl⟩
  obtain ⟨l6x, hl6⟩ : ∃ ll_, ll_ = encI (x.de.r) := ⟨_, rfl⟩
  rw [← hn6] at hN ⊢
  rw [← hl6] at hN
  have HB6x : Hid (n6x ≤ 20000) := Lib.hid (by rw [hn6]; have := encI_len (x.de.r) HX.out.de.r.2; omega)
  have HL6 := Lib.hid hl6
  refine ⟨_, rfl, hHeld.go hN.2.1 (by simp), fun hHeld => ?_⟩
  simp only [xPa, xPb, xPc, xPd, xPe]
  have HY6x := Lib.hid hN.by
  have HFD := Lib.hid (HFD.out.and hN.2.1 (by simp))
  have HY3x := Lib.hid (Fr.byk hN.2.1 HY3x.out)
  have HY0 := Lib.hid (Fr.byk hN.2.1 HY0.out)
  clear hN hn6 hl6
  refine call_at (i := 9) (f := ?_) (args := ?_) rfl (by kernel_rfl) (by rfl) ?_ ?_
  rotate_left 2
  · go_simp
    try first | with_reducible rfl | apply And.intro <;> rfl
  refine (refputBatch_any x.de.k w6 (HDE.out.k.keep HFD.out (by simp)) K HRK.out.symm).mono ?_
  rintro e w9 ⟨A9x, c9x, rfl, hN⟩
  obtain ⟨n9x, hn9⟩ : ∃ nn_, nn_ = (x.de.k.full).length := ⟨_, rfl⟩
  obtain ⟨l9x, hl9⟩ : ∃ ll_, ll_ = x.de.k.full := ⟨_, rfl⟩
  rw [← hn9] at hN ⊢
  rw [← hl9] at hN
  have HB9x : Hid (n9x ≤ 20000) := Lib.hid (by rw [hn9]; have := Wba.full_len HX.out.de.k; omega)
  have HL9 := Lib.hid hl9
  refine ⟨_, rfl, hHeld.go hN.2.1 (by simp), fun hHeld => ?_⟩
  simp only [xPa, xPb, xPc, xPd, xPe]
  have HY9x := Lib.hid hN.by
  have HFD := Lib.hid (HFD.out.and hN.2.1 (by simp))
  have HY3x := Lib.hid (Fr.byk hN.2.1 HY3x.out)
  have HY6x := Lib.hid (Fr.byk hN.2.1 HY6x.out)
  have HY0 := Lib.hid (Fr.byk hN.2.1 HY0.out)
  clear hN hn9 hl9
  refine call_at (i := 13) (f := ?_) (args := ?_) rfl (by kernel_rfl) (by rfl) ?_ ?_
  rotate_left 2
  · go_simp
    try first | with_reducible rfl | apply And.intro <;> rfl
  refine (reflen_any x.de.l _ HX.out.de.l.1 (show x.de.n ≤ 1000 by have := HX.out.de.n; omega) w9).mono ?_
  rintro e w13 ⟨A13x, c13x, rfl, hN⟩
  obtain ⟨n13x, hn13⟩ : ∃ nn_, nn_ = (encI (x.de.l.length : Int)).length := ⟨_, rfl⟩
  obtain ⟨l13x, hl13⟩ : ∃ ll_, ll_ = encI (x.de.l.length : Int) := ⟨_, rfl⟩
  rw [← hn13] at hN ⊢
  rw [← hl13] at hN
  have HB13x : Hid (n13x ≤ 20000) := Lib.hid (by rw [hn13]; have := encI_len (x.de.l.length : Int) (by have := (show x.de.n ≤ 1000 by have := HX.out.de.n; omega); have := HX.out.de.l.1; omega); omega)
  have HL13 := Lib.hid hl13
  refine ⟨_, rfl, hHeld.go hN.2.1 (by simp), fun hHeld => ?_⟩
  simp only [xPa, xPb, xPc, xPd, xPe]
  have HY13x := Lib.hid hN.by
  have HFD := Lib.hid (HFD.out.and hN.2.1 (by simp))
  have HY3x := Lib.hid (Fr.byk hN.2.1 HY3x.out)
  have HY6x := Lib.hid (Fr.byk hN.2.1 HY6x.out)
  have HY9x := Lib.hid (Fr.byk hN.2.1 HY9x.out)
  have HY0 := Lib.hid (Fr.byk hN.2.1 HY0.out)
  clear hN hn13 hl13
  refine step_at (i := 14) rfl (by kernel_rfl) (by rfl) (fun K hK => ?_)
  refine wp_run (v := ?_) (w' := ?_) ?_ ?_
  rotate_left 2
  · go_simp
    try first | with_reducible rfl | apply And.intro <;> rfl
  refine hK.out _ (w13.alloc (Obj.cells #[.slice A0 n0 c0, .slice A3x n3x c3x, .slice A6x n6x c6x, .slice A9x n9x c9x, .slice A13x n13x c13x] 52)) (hHeld.alloc _) (fun hHeld => ?_)
  clear hK K
  simp only [xPa, xPb, xPc, xPd, xPe]
  have hfb : Fr [] w13 (w13.alloc (Obj.cells #[.slice A0 n0 c0, .slice A3x n3x c3x, .slice A6x n6x c6x, .slice A9x n9x c9x, .slice A13x n13x c13x] 52)) := (Fr.refl [] w13).alloc _
  have hbb : Blk (w13.alloc (Obj.cells #[.slice A0 n0 c0, .slice A3x n3x c3x, .slice A6x n6x c6x, .slice A9x n9x c9x, .slice A13x n13x c13x] 52)) w13.heap.size 52 (([⟨A0, n0, c0, l0⟩, ⟨A3x, n3x, c3x, l3x⟩, ⟨A6x, n6x, c6x, l6x⟩, ⟨A9x, n9x, c9x, l9x⟩, ⟨A13x, n13x, c13x, l13x⟩] : List RowV).map RowV.val).toArray := Blk.new _ _ _
  generalize w13.alloc (Obj.cells #[.slice A0 n0 c0, .slice A3x n3x c3x, .slice A6x n6x c6x, .slice A9x n9x c9x, .slice A13x n13x c13x] 52) = wj at *
  have HFD := Lib.hid (HFD.out.and hfb (by simp))
  have hj := join_big w13.heap.size 5 [⟨A0, n0, c0, l0⟩, ⟨A3x, n3x, c3x, l3x⟩, ⟨A6x, n6x, c6x, l6x⟩, ⟨A9x, n9x, c9x, l9x⟩, ⟨A13x, n13x, c13x, l13x⟩] wj hbb rfl (by omega) (by
   intro r hr
   simp only [List.mem_cons, List.not_mem_nil, or_false] at hr
   rcases hr with rfl | rfl | rfl | rfl | rfl
   · exact ⟨Fr.byk hfb HY0.out, HB0l.out⟩
   · exact ⟨Fr.byk hfb HY3x.out, HB3x.out⟩
   · exact ⟨Fr.byk hfb HY6x.out, HB6x.out⟩
   · exact ⟨Fr.byk hfb HY9x.out, HB9x.out⟩
   · exact ⟨Fr.byk hfb HY13x.out, HB13x.out⟩)
  have hJ : joinL [⟨A0, n0, c0, l0⟩, ⟨A3x, n3x, c3x, l3x⟩, ⟨A6x, n6x, c6x, l6x⟩, ⟨A9x, n9x, c9x, l9x⟩, ⟨A13x, n13x, c13x, l13x⟩] = l0 ++ (encI x.de.e ++ encI x.de.r ++ x.de.k.full ++ encI (x.de.l.length : Int)) := by
   simp only [joinL, List.map_cons, List.map_nil, List.flatten_cons, List.flatten_nil, HL3.out, HL6.out, HL9.out, HL13.out]
   simp [List.append_assoc]
  rw [hJ] at hj
  obtain ⟨X, hX⟩ : ∃ X, X = l0 ++ (encI x.de.e ++ encI x.de.r ++ x.de.k.full ++ encI (x.de.l.length : Int)) := ⟨_, rfl⟩
  rw [← hX] at hj
  have HXT := Lib.hid hX
  clear hX
  have HJ := Lib.hid hj
  clear hfb hbb hj hJ HY3x HL3 HY6x HL6 HY9x HL9 HY13x HL13
  refine call_at (i := 15) (f := ?_) (args := ?_) rfl (by kernel_rfl) (by rfl) ?_ ?_
  rotate_left 2
  · go_simp
    try first | with_reducible rfl | apply And.intro <;> rfl
  refine HJ.out.mono ?_
  rintro e wk ⟨Aj, cj, rfl, hN⟩
  have HN := Lib.hid (hN.from2 HFD.out)
  refine ⟨_, rfl, hHeld.go hN.2.1 (by simp), fun hHeld => ?_⟩
  clear hN
  simp only [xPa, xPb, xPc, xPd, xPe]
  refine run_at (i := 16) (v := ?_) rfl (by kernel_rfl) (by rfl) (fun _ _ _ h => h) hHeld (fun w1 hw1 => ?_) ?_
  rotate_left 1
  · skip
    go_simp
    try first | with_reducible rfl | apply And.intro <;> rfl
  simp only [xPa, xPb, xPc, xPd, xPe]
  refine wpAnyH_done (by kernel_rfl) ?_ _
  have HFK := Lib.hid hHeld
  have HNK : Hid (NewB wb wk Aj X.length cj X) := Lib.hid HN.out
  clear hHeld
  have hc : wk.cell? ⟨wc.heap.size, 7, none⟩ = some (.slice x.de.A x.de.n x.de.d) := by have h := HFK.out.cell HC7.out (by simp); simpa using h
  have HXB : Hid (X.length ≤ 14200) := Lib.hid (by rw [HXT.out, HL0.out]; have b1 := Wba.full_len HX.out.de.k; have b0 := encI_len x.de.e HX.out.de.e.2; have b4 := encI_len x.de.r HX.out.de.r.2; have b2 := encI_len (x.de.l.length : Int) (by have := HX.out.de.l.1; have := HX.out.de.n; omega); have h1 := encI_len 14 HKK.out.2; have h2 := encI_len x.f HX.out.f.2; have h3 := encI_len x.t HX.out.t.2; simp only [List.length_append]; omega)
  clear hcq
  go_wp2_with fail
  go_loopw [4, 203] (fun s i wr => ∃ (k : Nat) (A4 : Option Addr) (c4 : Nat) (L : List UInt8), k ≤ x.de.n ∧ i = .int .i64 k ∧ s = .slice A4 L.length c4 ∧ Hid (L = X ++ (x.de.l.take k).flatMap Wvt.full) ∧ Hid (L.length ≤ 14200 + 100 * k) ∧ Hid (NewB wb wr A4 L.length c4 L)) (fun _ i _ => x.de.n - (intOf i).toNat)
  case atStart => exact ⟨0, Aj, cj, X, by omega, rfl, rfl, Lib.hid (by simp), Lib.hid (by have := HXB.out; omega), HNK⟩
  case round =>
   clear hc HN HJ HFD
   obtain ⟨k, A4, c4, L, hk, rfl, rfl, HE, HB, HN⟩ := hrel
   have hc : wr.cell? ⟨wc.heap.size, 7, none⟩ = some (.slice x.de.A x.de.n x.de.d) := by have h := HN.out.2.1.cell HC7.out (by simp); simpa using h
   have hnn := HX.out.de.n
   by_cases hlt : k < x.de.n
   focus
    obtain ⟨ad, v, hA, hv, hcl, hok, hcells⟩ := HDE.out.l.at (i := k) hlt
    rw [hA] at hc
    have HC := Lib.hid hc
    have HCELLS : Hid (∀ j u, (Wvt.cells v)[j]? = some u → wr.cell? ((ad.add (k * 38)).add j) = some u) := Lib.hid (fun j u hj => HN.out.2.1.cell (hcells j u hj) (by simp))
    have HCLN := Lib.hid hcl
    have HOK := Lib.hid hok
    have HV2 := Lib.hid hv
    have hk0 : (0 : Int) ≤ k := by omega
    have hkn : (k : Int) < (x.de.n : Int) := by omega
    have hkt : ((k : Int)).toNat = k := by omega
    have HSG : Hid (∀ j u, ([.int .i64 v.b, .int .i64 v.m] : List Value)[j]? = some u → wr.cell? ((⟨(ad.add (k * 38)).block, (ad.add (k * 38)).off + 36, none⟩ : Addr).add j) = some u) := Lib.hid (fun j u hj => sig_of HCELLS.out HOK.out.h j u hj)
    obtain ⟨CV, hC⟩ : ∃ CV, CV = Wvt.cells v := ⟨_, rfl⟩
    rw [← hC] at HCELLS HCLN
    have HCV := Lib.hid hC
    clear hcells hcl hok hv hA hC
    obtain ⟨n4, hn4⟩ : ∃ n4, n4 = L.length := ⟨_, rfl⟩
    have hN0 := HN.out
    rw [← hn4] at hN0 ⊢
    have HY0 := Lib.hid hN0.by
    have HB4 : Hid (n4 ≤ 20000) := Lib.hid (by rw [hn4]; have := HB.out; omega)
    have HN4 := Lib.hid hN0.2.1
    clear hN0 hn4 HN
    go_upto_region 38 with (fail)
    refine wp_region_held_drew (S := Fr [] wr) (by kernel_rfl) (Fr.drew (Fr.refl _ wr)) (fun hHeld => ?_)
    have HFD : Hid (Fr [] wr wr.drew) := Lib.hid (Fr.drew (Fr.refl [] wr))
    have HY0 := Lib.hid (Fr.byk HFD.out HY0.out)
    generalize wr.drew = wd at *
    refine run_at (i := 0) (v := ?_) rfl (by kernel_rfl) (by rfl) (fun _ _ _ h => h) hHeld (fun w1 hw1 => ?_) ?_
    rotate_left 1
    · skip
      go_simp
      try first | with_reducible rfl | apply And.intro <;> rfl
    simp only [xPa, xPb, xPc, xPd, xPe]
    refine run_at (i := 1) (v := ?_) rfl (by kernel_rfl) (by rfl) (fun _ _ _ h => h) hHeld (fun w1 hw1 => ?_) ?_
    rotate_left 1
    · skip
      go_simp
      try first | with_reducible rfl | apply And.intro <;> rfl
    simp only [xPa, xPb, xPc, xPd, xPe]
    refine run_at (i := 2) (v := ?_) rfl (by kernel_rfl) (by rfl) (fun _ _ _ h => h) hHeld (fun w1 hw1 => ?_) ?_
    rotate_left 1
    · skip
      have hcw0 := hw1.cell (HC.out) (by simp)
      go_simp
      try first | with_reducible rfl | apply And.intro <;> rfl
    simp only [xPa, xPb, xPc, xPd, xPe]
    refine run_at (i := 3) (v := ?_) rfl (by kernel_rfl) (by rfl) (fun _ _ _ h => h) hHeld (fun w1 hw1 => ?_) ?_
    rotate_left 1
    · skip
      go_simp
      try first | with_reducible rfl | apply And.intro <;> rfl
    simp only [xPa, xPb, xPc, xPd, xPe]
    refine run_at (i := 4) (v := ?_) rfl (by kernel_rfl) (by rfl) (fun _ _ _ h => h) hHeld (fun w1 hw1 => ?_) ?_
    rotate_left 1
    · skip
      go_simp
      try first | with_reducible rfl | apply And.intro <;> rfl
    simp only [xPa, xPb, xPc, xPd, xPe]
    refine crow_at (i := 5) rfl (by kernel_rfl) (by rfl) _ _ rfl _ rfl _ (fun w1 hw1 j v hv => hw1.cell ((HCELLS.out) j v hv) (by simp)) (row_vtk.of HCLN.out) (fun _ _ _ h => h) hHeld ?_
    simp only [xPa, xPb, xPc, xPd, xPe]
    refine run_at (i := 7) (v := ?_) rfl (by kernel_rfl) (by rfl) (fun _ _ _ h => h) hHeld (fun w1 hw1 => ?_) ?_
    rotate_left 1
    · skip
      go_simp
      try first | with_reducible rfl | apply And.intro <;> rfl
    simp only [xPa, xPb, xPc, xPd, xPe]
    refine run_at (i := 8) (v := ?_) rfl (by kernel_rfl) (by rfl) (fun _ _ _ h => h) hHeld (fun w1 hw1 => ?_) ?_
    rotate_left 1
    · skip
      have hcw0 := hw1.cell (HC.out) (by simp)
      go_simp
      try first | with_reducible rfl | apply And.intro <;> rfl
    simp only [xPa, xPb, xPc, xPd, xPe]
    refine run_at (i := 9) (v := ?_) rfl (by kernel_rfl) (by rfl) (fun _ _ _ h => h) hHeld (fun w1 hw1 => ?_) ?_
    rotate_left 1
    · skip
      go_simp
      try first | with_reducible rfl | apply And.intro <;> rfl
    simp only [xPa, xPb, xPc, xPd, xPe]
    refine run_at (i := 10) (v := ?_) rfl (by kernel_rfl) (by rfl) (fun _ _ _ h => h) hHeld (fun w1 hw1 => ?_) ?_
    rotate_left 1
    · skip
      go_simp
      try first | with_reducible rfl | apply And.intro <;> rfl
    simp only [xPa, xPb, xPc, xPd, xPe]
    refine run_at (i := 11) (v := ?_) rfl (by kernel_rfl) (by rfl) (fun _ _ _ h => h) hHeld (fun w1 hw1 => ?_) ?_
    rotate_left 1
    · skip
      go_simp
      try first | with_reducible rfl | apply And.intro <;> rfl
    simp only [xPa, xPb, xPc, xPd, xPe]
    refine crow_at (i := 12) rfl (by kernel_rfl) (by rfl) _ _ rfl _ rfl _ (fun w1 hw1 j v hv => hw1.cell ((HSG.out) j v hv) (by simp)) (row_sig) (fun _ _ _ h => h) hHeld ?_
    simp only [xPa, xPb, xPc, xPd, xPe]
    refine call_at (i := 6) (f := ?_) (args := ?_) rfl (by kernel_rfl) (by rfl) ?_ ?_
    rotate_left 2
    · go_simp
      try first | with_reducible rfl | apply And.intro <;> rfl
    refine (refbareVote_any v HOK.out CV HCV.out.symm wd).mono ?_
    rintro e w6 ⟨A6x, c6x, rfl, hN⟩
    obtain ⟨n6x, hn6⟩ : ∃ nn_, nn_ = (v.bare).length := ⟨_, rfl⟩
    obtain ⟨l6x, hl6⟩ : ∃ ll_, ll_ = v.bare := ⟨_, rfl⟩
    rw [← hn6] at hN ⊢
    rw [← hl6] at hN
    have HB6x : Hid (n6x ≤ 20000) := Lib.hid (by rw [hn6]; have := Wvt.bare_len HOK.out; omega)
    have HL6 := Lib.hid hl6
    refine ⟨_, rfl, hHeld.go hN.2.1 (by simp), fun hHeld => ?_⟩
    simp only [xPa, xPb, xPc, xPd, xPe]
    have HY6x := Lib.hid hN.by
    have HFD := Lib.hid (HFD.out.and hN.2.1 (by simp))
    have HY0 := Lib.hid (Fr.byk hN.2.1 HY0.out)
    clear hN hn6 hl6
    refine call_at (i := 13) (f := ?_) (args := ?_) rfl (by kernel_rfl) (by rfl) ?_ ?_
    rotate_left 2
    · go_simp
      try first | with_reducible rfl | apply And.intro <;> rfl
    refine (refsig_any v.b v.m HOK.out.b HOK.out.m w6).mono ?_
    rintro e w13 ⟨A13x, c13x, rfl, hN⟩
    obtain ⟨n13x, hn13⟩ : ∃ nn_, nn_ = (sgL v.b v.m).length := ⟨_, rfl⟩
    obtain ⟨l13x, hl13⟩ : ∃ ll_, ll_ = sgL v.b v.m := ⟨_, rfl⟩
    rw [← hn13] at hN ⊢
    rw [← hl13] at hN
    have HB13x : Hid (n13x ≤ 20000) := Lib.hid (by rw [hn13]; have := encI_len v.b HOK.out.b.2; have := encI_len v.m HOK.out.m.2; simp only [sgL, List.length_append]; omega)
    have HL13 := Lib.hid hl13
    refine ⟨_, rfl, hHeld.go hN.2.1 (by simp), fun hHeld => ?_⟩
    simp only [xPa, xPb, xPc, xPd, xPe]
    have HY13x := Lib.hid hN.by
    have HFD := Lib.hid (HFD.out.and hN.2.1 (by simp))
    have HY0 := Lib.hid (Fr.byk hN.2.1 HY0.out)
    have HY6x := Lib.hid (Fr.byk hN.2.1 HY6x.out)
    clear hN hn13 hl13
    refine step_at (i := 14) rfl (by kernel_rfl) (by rfl) (fun K hK => ?_)
    refine wp_run (v := ?_) (w' := ?_) ?_ ?_
    rotate_left 2
    · go_simp
      try first | with_reducible rfl | apply And.intro <;> rfl
    refine hK.out _ (w13.alloc (Obj.cells #[.slice A4 n4 c4, .slice A6x n6x c6x, .slice A13x n13x c13x] 52)) (hHeld.alloc _) (fun hHeld => ?_)
    clear hK K
    simp only [xPa, xPb, xPc, xPd, xPe]
    have hfb : Fr [] w13 (w13.alloc (Obj.cells #[.slice A4 n4 c4, .slice A6x n6x c6x, .slice A13x n13x c13x] 52)) := (Fr.refl [] w13).alloc _
    have hbb : Blk (w13.alloc (Obj.cells #[.slice A4 n4 c4, .slice A6x n6x c6x, .slice A13x n13x c13x] 52)) w13.heap.size 52 (([⟨A4, n4, c4, L⟩, ⟨A6x, n6x, c6x, l6x⟩, ⟨A13x, n13x, c13x, l13x⟩] : List RowV).map RowV.val).toArray := Blk.new _ _ _
    generalize w13.alloc (Obj.cells #[.slice A4 n4 c4, .slice A6x n6x c6x, .slice A13x n13x c13x] 52) = wj at *
    have HFD := Lib.hid (HFD.out.and hfb (by simp))
    have hj := join_big w13.heap.size 3 [⟨A4, n4, c4, L⟩, ⟨A6x, n6x, c6x, l6x⟩, ⟨A13x, n13x, c13x, l13x⟩] wj hbb rfl (by omega) (by
     intro r hr
     simp only [List.mem_cons, List.not_mem_nil, or_false] at hr
     rcases hr with rfl | rfl | rfl
     · exact ⟨Fr.byk hfb HY0.out, HB4.out⟩
     · exact ⟨Fr.byk hfb HY6x.out, HB6x.out⟩
     · exact ⟨Fr.byk hfb HY13x.out, HB13x.out⟩)
    have hJ : joinL [⟨A4, n4, c4, L⟩, ⟨A6x, n6x, c6x, l6x⟩, ⟨A13x, n13x, c13x, l13x⟩] = L ++ v.full := by
     simp only [joinL, List.map_cons, List.map_nil, List.flatten_cons, List.flatten_nil, HL6.out, HL13.out]
     simp [Wvt.full]
    rw [hJ] at hj
    obtain ⟨X2, hX2⟩ : ∃ X2, X2 = L ++ v.full := ⟨_, rfl⟩
    rw [← hX2] at hj
    have HXT2 := Lib.hid hX2
    clear hX2
    have HJ := Lib.hid hj
    clear hfb hbb hj hJ
    refine call_at (i := 15) (f := ?_) (args := ?_) rfl (by kernel_rfl) (by rfl) ?_ ?_
    rotate_left 2
    · go_simp
      try first | with_reducible rfl | apply And.intro <;> rfl
    refine HJ.out.mono ?_
    rintro e wk2 ⟨A6, c6, rfl, hN⟩
    have HN6 : Hid (NewB wb wk2 A6 X2.length c6 X2) := Lib.hid (hN.from2 (HN4.out.and HFD.out (by simp)))
    refine ⟨_, rfl, hHeld.go hN.2.1 (by simp), fun hHeld => ?_⟩
    clear hN
    simp only [xPa, xPb, xPc, xPd, xPe]
    refine run_at (i := 16) (v := ?_) rfl (by kernel_rfl) (by rfl) (fun _ _ _ h => h) hHeld (fun w1 hw1 => ?_) ?_
    rotate_left 1
    · skip
      go_simp
      try first | with_reducible rfl | apply And.intro <;> rfl
    simp only [xPa, xPb, xPc, xPd, xPe]
    refine wpAnyH_done (by kernel_rfl) ?_ _
    have HE6 : Hid (X2 = X ++ (x.de.l.take (k + 1)).flatMap Wvt.full) := Lib.hid (by rw [flat_snoc HV2.out, HXT2.out, HE.out, List.append_assoc])
    have HB6 : Hid (X2.length ≤ 14200 + 100 * (k + 1)) := Lib.hid (by have := HB.out; have := Wvt.full_len HOK.out; rw [HXT2.out, List.length_append]; omega)
    clear hc hHeld HJ HY0 HY6x HY13x
    go_wp2_with fail
    go_roundw
    case rel => exact ⟨k + 1, A6, c6, X2, by omega, by go_num, rfl, HE6, HB6, HN6⟩
    case measure => simp [intOf]; omega
   focus
    have hkn : k = x.de.n := by omega
    have HE2 : Hid (L = X ++ x.de.l.flatMap Wvt.full) := Lib.hid (by have h := HE.out; rwa [hkn, List.take_of_length_le (by rw [HX.out.de.l.1]; exact Nat.le_refl _)] at h)
    have hd : decide (k < x.de.n) = false := by simp; omega
    have hd2 : decide ((65536 : Int) < (L.length : Int)) = false := by have := HB.out; simp; omega
    clear hkn hlt HE
    go_wp2_with fail
    go_ret2
    have hfin : x.bytes = L := by rw [HE2.out, HXT.out, HL0.out]; unfold Wmg.bytes; rw [Wmg.body_14 HQ.out, HQ.out]; simp [Wdc.full, listL, List.append_assoc]
    unfold PackPost
    rw [if_pos (by rw [HQ.out]; decide), hfin]
    exact ⟨A4, c4, rfl, HN.out.from2 (HF0.out.and HFC.out (by simp))⟩
end Go.Proofs.YtdenpfcgghangaaGreat
