/- WireBack: parts within bounds are read as they were; what is behind them is left. (written by gen_wbk.py) -/
import Derived.Test.YtbkhkhippcjdgaaKC4
namespace Go.Proofs.Ytbkhkhippcjdgaa
open Go.RowKit
set_option maxRecDepth 100000
theorem All2.back {α β : Type} {R : α → β → Prop} : ∀ {xs : List α} {ys : List β}, All2 R xs ys → ∀ y ∈ ys, ∃ x ∈ xs, R x y
  | [], [], _ => by simp
  | x :: xs, z :: ys, h => fun y hy => by
    rcases List.mem_cons.1 hy with rfl | hy
    · exact ⟨x, by simp, h.1⟩
    · obtain ⟨u, hu, hr⟩ := All2.back h.2 y hy
      exact ⟨u, by simp [hu], hr⟩
  | [], _ :: _, h => by cases h
  | _ :: _, [], h => by cases h
theorem npr_U {x y : Wpr} {w : World} {S : List Nat} (hx : x.Ok w S) (h : nprR x y) : y.U := by
  obtain ⟨h1, h2, h3, h4, h5, h6⟩ := h
  exact ⟨by rw [h1]; exact upI_U _, by rw [h2]; exact upI_U _, by rw [h3]; exact hx.t, by rw [← h6.len, hx.l.1]; have := hx.n; omega, fun v hv => by
    obtain ⟨u, hu, hr⟩ := h6.back v hv
    exact nce_U (wy := w) (hx.l.2.1 u hu).2 hr, by rw [h4]; exact upI_U _, by rw [h5]; exact upI_U _⟩
theorem nop_U {x y : Wop} {w w' : World} {S S' : List Nat} (hx : x.Ok w S) (hy : y.Ok w' S') (h : nopR x y) : y.U := by
  obtain ⟨h1, h2, h3⟩ := h
  exact ⟨by rw [h1]; exact upI_U _, hy.p.1.symm, by rw [h2]; exact List.length_take_le _ _, by rw [h3]; exact hx.h⟩
theorem ntb_U {x y : Wtb} {w : World} {S : List Nat} (hx : x.Ok w S) (h : ntbR x y) : y.U := by
  obtain ⟨h1, h2⟩ := h
  exact ⟨by rw [h1]; exact upI_U _, by rw [h2, List.length_map, hx.l.1]; have := hx.n; omega, fun v hv => by
    rw [h2] at hv
    obtain ⟨u, hu, rfl⟩ := List.mem_map.1 hv
    exact ndn_U u⟩
theorem nba_U {x y : Wba} {w w' : World} {S S' : List Nat} (hx : x.Ok w S) (hy : y.Ok w' S') (h : nbaR x y) : y.U := by
  obtain ⟨h1, h2, h3, h4, h5⟩ := h
  exact ⟨by rw [h1]; exact upI_U _, by rw [h2]; exact hx.t, by rw [← h3.len, hx.l.1]; have := hx.n; omega, fun v hv => by
    obtain ⟨u, hu, hr⟩ := h3.back v hv
    exact npr_U (hx.l.2.1 u hu).2 hr, by rw [← h4.len, hx.l2.1]; have := hx.n2; omega, fun v hv => by
    obtain ⟨u, hu, hr⟩ := h4.back v hv
    exact nop_U (hx.l2.2.1 u hu).2 (hy.l2.2.1 v hv).2 hr, by rw [← h5.len, hx.l3.1]; have := hx.n3; omega, fun v hv => by
    obtain ⟨u, hu, hr⟩ := h5.back v hv
    exact ntb_U (hx.l3.2.1 u hu).2 hr⟩

set_option maxHeartbeats 1000000 in
theorem vPutCert_any (x : Wce) (C : List Value) (hC : x.cells = C) (hl : C.length = 38) (w : World) (S : List Nat) (g : Nat) (l : List UInt8) (hw : Wr w S g l) (hll : l.length + 60000 ≤ 1073741000) (hx : x.Ok w S) :
    Calls Try.prog 14 #[.pointer (some ⟨g, 0, none⟩), .agg C.toArray] w fun e w' => e = .returned (.tuple #[]) ∧ Gr w S g (l ++ x.full) w' := by
  obtain ⟨wa, hwa⟩ : ∃ wa, wa = w.alloc (Obj.cells C.toArray 32) := ⟨_, rfl⟩
  have hf0 : Fr [] w wa := by rw [hwa]; exact (Fr.refl [] w).alloc _
  have hb0 : Blk wa w.heap.size 32 C.toArray := by rw [hwa]; exact Blk.new _ _ _
  have HR := Lib.hid hb0.range
  have HL := Lib.hid hl
  have HLL := Lib.hid hll
  have HWR := Lib.hid (hw.keep hf0 (by simp))
  have HX := Lib.hid (hx.keep (hf0.mono (T := S) (by simp)) (fun k hk _ => hk))
  have HRC := Lib.hid hC
  have HF0 := Lib.hid hf0
  have HWA := Lib.hid hwa
  clear hwa hf0 hb0 hC hl hw hx hll
  go_enter Try.func14, Try.ntmps14
  go_upto_region 1 with (fail)
  rw [← HWA.out]
  go_wp2_with (refine wpList_row rfl 32 _ rfl _ _ rfl _ HR.out (row_crt.of HL.out) ?_)
  refine (putCert_any' x C HRC.out wa S g l HWR.out (by have := HLL.out; omega) HX.out).mono ?_
  rintro e w1 ⟨rfl, hg⟩
  have HG := Lib.hid hg
  clear hg
  go_wp2
  go_end0
  exact ⟨rfl, HG.out.from_ HF0.out⟩
set_option maxHeartbeats 1000000 in
theorem vPutPromise_any (x : Wpr) (C : List Value) (hC : x.cells = C) (hl : C.length = 6) (w : World) (S : List Nat) (g : Nat) (l : List UInt8) (hw : Wr w S g l) (hll : l.length + 60000 ≤ 1073741000) (hx : x.Ok w S) :
    Calls Try.prog 15 #[.pointer (some ⟨g, 0, none⟩), .agg C.toArray] w fun e w' => e = .returned (.tuple #[]) ∧ Gr w S g (l ++ x.full) w' := by
  obtain ⟨wa, hwa⟩ : ∃ wa, wa = w.alloc (Obj.cells C.toArray 36) := ⟨_, rfl⟩
  have hf0 : Fr [] w wa := by rw [hwa]; exact (Fr.refl [] w).alloc _
  have hb0 : Blk wa w.heap.size 36 C.toArray := by rw [hwa]; exact Blk.new _ _ _
  have HR := Lib.hid hb0.range
  have HL := Lib.hid hl
  have HLL := Lib.hid hll
  have HWR := Lib.hid (hw.keep hf0 (by simp))
  have HX := Lib.hid (hx.keep (hf0.mono (T := S) (by simp)) (fun k hk _ => hk))
  have HRC := Lib.hid hC
  have HF0 := Lib.hid hf0
  have HWA := Lib.hid hwa
  clear hwa hf0 hb0 hC hl hw hx hll
  go_enter Try.func15, Try.ntmps15
  go_upto_region 1 with (fail)
  rw [← HWA.out]
  go_wp2_with (refine wpList_row rfl 36 _ rfl _ _ rfl _ HR.out (row_prm.of HL.out) ?_)
  refine (putPromise_any' x C HRC.out wa S g l HWR.out (by have := HLL.out; omega) HX.out).mono ?_
  rintro e w1 ⟨rfl, hg⟩
  have HG := Lib.hid hg
  clear hg
  go_wp2
  go_end0
  exact ⟨rfl, HG.out.from_ HF0.out⟩
set_option maxHeartbeats 1000000 in
theorem vPutBatch_any (x : Wba) (C : List Value) (hC : x.cells = C) (hl : C.length = 5) (w : World) (S : List Nat) (g : Nat) (l : List UInt8) (hw : Wr w S g l) (hll : l.length + 60000 ≤ 1073741000) (hx : x.Ok w S) :
    Calls Try.prog 16 #[.pointer (some ⟨g, 0, none⟩), .agg C.toArray] w fun e w' => e = .returned (.tuple #[]) ∧ Gr w S g (l ++ x.full) w' := by
  obtain ⟨wa, hwa⟩ : ∃ wa, wa = w.alloc (Obj.cells C.toArray 41) := ⟨_, rfl⟩
  have hf0 : Fr [] w wa := by rw [hwa]; exact (Fr.refl [] w).alloc _
  have hb0 : Blk wa w.heap.size 41 C.toArray := by rw [hwa]; exact Blk.new _ _ _
  have HR := Lib.hid hb0.range
  have HL := Lib.hid hl
  have HLL := Lib.hid hll
  have HWR := Lib.hid (hw.keep hf0 (by simp))
  have HX := Lib.hid (hx.keep (hf0.mono (T := S) (by simp)) (fun k hk _ => hk))
  have HRC := Lib.hid hC
  have HF0 := Lib.hid hf0
  have HWA := Lib.hid hwa
  clear hwa hf0 hb0 hC hl hw hx hll
  go_enter Try.func16, Try.ntmps16
  go_upto_region 1 with (fail)
  rw [← HWA.out]
  go_wp2_with (refine wpList_row rfl 41 _ rfl _ _ rfl _ HR.out (row_bat.of HL.out) ?_)
  refine (putBatch_any' x C HRC.out wa S g l HWR.out (by have := HLL.out; omega) HX.out).mono ?_
  rintro e w1 ⟨rfl, hg⟩
  have HG := Lib.hid hg
  clear hg
  go_wp2
  go_end0
  exact ⟨rfl, HG.out.from_ HF0.out⟩
set_option maxHeartbeats 8000000 in
theorem wireBack_walk (w : World) (x : Wce) (hx : x.In w) (p : Wpr) (hp : p.In w) (b : Wba) (hb : b.In w) (A : Option Addr) (n d : Nat) (l : List UInt8) (hy : By w A n l) (hnd : n ≤ d) (hd : d ≤ maxLen) :
    Calls Try.prog 3 #[x.val, p.val, b.val, .slice A n d] w fun e w' => e = .returned (.bool true) ∧ Fr [] w w' := by
  unfold Wce.val Wpr.val Wba.val
  have HXL0 : x.cells.length = 38 := Wce.len hx.k.h
  have HPL0 : p.cells.length = 6 := Wpr.len p
  have HBL0 : b.cells.length = 5 := Wba.len b
  have HXA0 : x.k.cells ++ [Value.slice x.A x.n x.d] = x.cells := rfl
  generalize hXL : x.cells = XL at *
  generalize hPL : p.cells = PL at *
  generalize hBL : b.cells = BL at *
  have HRX := Lib.hid hXL
  have HRP := Lib.hid hPL
  have HRB := Lib.hid hBL
  have HXL := Lib.hid HXL0
  have HPL := Lib.hid HPL0
  have HBL := Lib.hid HBL0
  have HXA := Lib.hid HXA0
  clear hXL hPL hBL HXL0 HPL0 HBL0 HXA0
  obtain ⟨wa, hwa⟩ : ∃ wa, wa = (((w.alloc (Obj.cells XL.toArray 32)).alloc (Obj.cells PL.toArray 36)).alloc (Obj.cells BL.toArray 41)) := ⟨_, rfl⟩
  have hf0 : Fr [] w wa := by rw [hwa]; exact (((Fr.refl [] w).alloc _).alloc _).alloc _
  have hn0 : wa.heap.size = w.heap.size + 3 := by rw [hwa]; simp
  have hb0 : Blk wa (w.heap.size + 0) 32 XL.toArray := by
    have h := Blk.new w 32 XL.toArray
    rw [hwa]
    exact blk_alloc (blk_alloc ((by simpa using h)))
  have hb1 : Blk wa (w.heap.size + 1) 36 PL.toArray := by
    have h := Blk.new (w.alloc (Obj.cells XL.toArray 32)) 36 PL.toArray
    rw [hwa]
    exact blk_alloc ((by simpa using h))
  have hb2 : Blk wa (w.heap.size + 2) 41 BL.toArray := by
    have h := Blk.new ((w.alloc (Obj.cells XL.toArray 32)).alloc (Obj.cells PL.toArray 36)) 41 BL.toArray
    rw [hwa]
    exact (by simpa using h)
  have HB0 := Lib.hid hb0
  have HB1 := Lib.hid hb1
  have HB2 := Lib.hid hb2
  have HN0 := Lib.hid hn0
  have HF0 := Lib.hid hf0
  have HWA := Lib.hid hwa
  have HX := Lib.hid hx
  have HP := Lib.hid hp
  have HB := Lib.hid hb
  have HY0 := Lib.hid (hy.keep hf0 (by simp))
  have HND := Lib.hid hnd
  have HD := Lib.hid hd
  clear hwa hf0 hb0 hb1 hb2 hn0 hx hp hb hy hnd hd
  go_enter Try.func3, Try.ntmps3
  go_upto_region 1 with (fail)
  change Code.wp _ _ _ _ (((w.alloc (Obj.cells XL.toArray 32)).alloc (Obj.cells PL.toArray 36)).alloc (Obj.cells BL.toArray 41))
  rw [← HWA.out]
  have hpc := promiseCut_any p
  rw [HRP.out] at hpc
  have hcc := certCut_any x.k HX.out.k x.A x.n x.d x.l
  rw [HXA.out] at hcc
  refine wp_region_till 11 (Fr [w.heap.size, w.heap.size + 1, w.heap.size + 2] wa) (Fr [] wa) (by kernel_rfl) (Fr.drew (Fr.refl _ wa)) (Fr.drew (Fr.refl _ wa)) (fun hA hB => ?_)
  have HWS : Hid (wa.drew.heap.size = wa.heap.size) := Lib.hid rfl
  have HFD : Hid (Fr [] wa wa.drew) := Lib.hid (Fr.drew (Fr.refl [] wa))
  generalize wa.drew = wd at *
  refine till_row (i := 0) rfl (by kernel_rfl) (by rfl) _ _ rfl _ _ rfl _ (fun w1 hw1 => hw1.range (HB0.out.range) (by first | (simp; done) | exact HNS.out | exact HNW.out | (intro hm; have hlt := HSB.out _ hm; (try dsimp only at hlt); omega))) (row_crt.of HXL.out) (fun _ _ _ h => h) hA hB ?_
  simp only [Act.put, List.setIfInBounds_toArray, List.set_cons_zero, List.set_cons_succ]
  refine till_row (i := 3) rfl (by kernel_rfl) (by rfl) _ _ rfl _ _ rfl _ (fun w1 hw1 => hw1.range (HB1.out.range) (by first | (simp; done) | exact HNS.out | exact HNW.out | (intro hm; have hlt := HSB.out _ hm; (try dsimp only at hlt); omega))) (row_prm.of HPL.out) (fun _ _ _ h => h) hA hB ?_
  simp only [Act.put, List.setIfInBounds_toArray, List.set_cons_zero, List.set_cons_succ]
  refine till_row (i := 6) rfl (by kernel_rfl) (by rfl) _ _ rfl _ _ rfl _ (fun w1 hw1 => hw1.range (HB2.out.range) (by first | (simp; done) | exact HNS.out | exact HNW.out | (intro hm; have hlt := HSB.out _ hm; (try dsimp only at hlt); omega))) (row_bat.of HBL.out) (fun _ _ _ h => h) hA hB ?_
  simp only [Act.put, List.setIfInBounds_toArray, List.set_cons_zero, List.set_cons_succ]
  refine till_run (i := 9) (v := ?_) rfl (by kernel_rfl) (by rfl) (fun _ _ _ h => h) hA hB (fun w1 hw1 => ?_) ?_
  rotate_left 1
  · skip
    go_simp
    (try (first | with_reducible rfl | (apply And.intro <;> rfl)))
  simp only [Act.put, List.setIfInBounds_toArray, List.set_cons_zero, List.set_cons_succ]
  refine till_call (i := 1) (f := ?_) (args := ?_) rfl (by kernel_rfl) (by rfl) ?_ ?_
  rotate_left 2
  · go_simp
    (try (first | with_reducible rfl | (apply And.intro <;> rfl)))
  refine (hcc wd (HX.out.l.keep' (HF0.out.and HFD.out (by simp)) (by simp) (fun _ _ h => h)) HX.out.n HX.out.d).mono ?_
  clear hcc
  rintro e w1 ⟨A1, d1, rfl, hN⟩
  have hm5 : (x.l.take 5).length ≤ 5 := List.length_take_le _ _
  have hok : ∀ S0 : List Nat, (∀ q ∈ S0, q < wa.heap.size) → (⟨x.k, A1, (x.l.take 5).length, d1, x.l.take 5⟩ : Wce).Ok w1 S0 := fun S0 h0 => ⟨HX.out.k, Lst.of_own (ok := fun (_ : World) (v : Wst) => v.Ok) hN.1 rfl (fun u hu => HX.out.l.2.1 u (List.mem_of_mem_take hu)), hm5, fun _ a ha hin => by
    have ha : A1 = some a := ha
    have h1 := hN.2.2 a.block (by rw [ha]; simp [bk])
    have h2 := h0 _ hin
    have h3 := HWS.out
    omega⟩
  have hcl : x.k.cells ++ [Value.slice A1 (x.l.take 5).length d1] = (⟨x.k, A1, (x.l.take 5).length, d1, x.l.take 5⟩ : Wce).cells := rfl
  rw [hcl]
  generalize (⟨x.k, A1, (x.l.take 5).length, d1, x.l.take 5⟩ : Wce) = c at *
  have hf1 := hN.2.1
  have HC := Lib.hid (hok [] (by simp))
  have HF1 : Hid (Fr [] wa w1) := Lib.hid (HFD.out.and hf1 (by simp))
  refine ⟨_, rfl, ⟨hA.go hf1 (by simp), hB.and hf1 (by simp)⟩, fun hB => ?_⟩
  replace hA := hA.go hf1 (by simp)
  clear hN hm5 hok hcl hf1
  simp only [Act.put, List.setIfInBounds_toArray, List.set_cons_zero, List.set_cons_succ]
  refine till_call (i := 2) (f := ?_) (args := ?_) rfl (by kernel_rfl) (by rfl) ?_ ?_
  rotate_left 2
  · go_simp
    (try (first | with_reducible rfl | (apply And.intro <;> rfl)))
  refine (nice_any' c w1 HC.out c.cells rfl).mono ?_
  rintro e w2 ⟨y, rfl, hok, hrel, hf⟩
  have HYU := Lib.hid (nce_U (wy := w1) HC.out hrel)
  have HY := Lib.hid (hok [w.heap.size, w.heap.size + 1, w.heap.size + 2] (by have h1 := HN0.out; have h3 := HF1.out.size; simp; omega))
  have HF2 : Hid (Fr [] wa w2) := Lib.hid (HF1.out.and hf (by simp))
  refine ⟨_, rfl, ⟨hA.go hf (by simp), hB.and hf (by simp)⟩, fun hB => ?_⟩
  replace hA := hA.go hf (by simp)
  clear hok hrel hf HF1 HC
  unfold Wce.val
  simp only [Act.put, List.setIfInBounds_toArray, List.set_cons_zero, List.set_cons_succ]
  refine till_call (i := 4) (f := ?_) (args := ?_) rfl (by kernel_rfl) (by rfl) ?_ ?_
  rotate_left 2
  · go_simp
    (try (first | with_reducible rfl | (apply And.intro <;> rfl)))
  refine (hpc w2 HP.out.r HP.out.e HP.out.t HP.out.b HP.out.m (HP.out.l.keep' (HF0.out.and HF2.out (by simp)) (by simp) (fun _ _ h => h.keep (HF0.out.and HF2.out (by simp)))) HP.out.n).mono ?_
  clear hpc
  rintro e w3 ⟨A2, d2, ys, rfl, hok, -, hf⟩
  have hok2 := hok [] (by simp)
  generalize hq : (⟨p.r, p.e, p.t, A2, (p.l.take 3).length, d2, ys, p.b, p.m⟩ : Wpr) = q0 at *
  clear hq hok
  have HQ0 := Lib.hid hok2
  have HY := Lib.hid (HY.out.keep (S' := [w.heap.size, w.heap.size + 1, w.heap.size + 2]) (hf.mono (by simp)) (fun k hk _ => hk))
  have HF3 : Hid (Fr [] wa w3) := Lib.hid (HF2.out.and hf (by simp))
  refine ⟨_, rfl, ⟨hA.go hf (by simp), hB.and hf (by simp)⟩, fun hB => ?_⟩
  replace hA := hA.go hf (by simp)
  clear hok2 hf HF2
  simp only [Act.put, List.setIfInBounds_toArray, List.set_cons_zero, List.set_cons_succ]
  refine till_call (i := 5) (f := ?_) (args := ?_) rfl (by kernel_rfl) (by rfl) ?_ ?_
  rotate_left 2
  · go_simp
    (try (first | with_reducible rfl | (apply And.intro <;> rfl)))
  refine (nicePromise_any q0 w3 HQ0.out q0.cells rfl).mono ?_
  rintro e w4 ⟨q, rfl, hok, hrel, hf⟩
  have HQU := Lib.hid (npr_U HQ0.out hrel)
  have HQ := Lib.hid (hok [w.heap.size, w.heap.size + 1, w.heap.size + 2] (by have h1 := HN0.out; have h3 := HF3.out.size; simp; omega))
  have HY := Lib.hid (HY.out.keep (S' := [w.heap.size, w.heap.size + 1, w.heap.size + 2]) (hf.mono (by simp)) (fun k hk _ => hk))
  have HF4 : Hid (Fr [] wa w4) := Lib.hid (HF3.out.and hf (by simp))
  refine ⟨_, rfl, ⟨hA.go hf (by simp), hB.and hf (by simp)⟩, fun hB => ?_⟩
  replace hA := hA.go hf (by simp)
  clear hok hrel hf HF3 HQ0
  unfold Wpr.val
  simp only [Act.put, List.setIfInBounds_toArray, List.set_cons_zero, List.set_cons_succ]
  refine till_call (i := 7) (f := ?_) (args := ?_) rfl (by kernel_rfl) (by rfl) ?_ ?_
  rotate_left 2
  · go_simp
    (try (first | with_reducible rfl | (apply And.intro <;> rfl)))
  refine (batchCut_any b w4 (HB.out.keep (HF0.out.and HF4.out (by simp))) BL HRB.out).mono ?_
  rintro e w5 ⟨z0, rfl, hok, hf⟩
  have HZ0 := Lib.hid (hok [] (by simp))
  have HY := Lib.hid (HY.out.keep (S' := [w.heap.size, w.heap.size + 1, w.heap.size + 2]) (hf.mono (by simp)) (fun k hk _ => hk))
  have HQ := Lib.hid (HQ.out.keep (S' := [w.heap.size, w.heap.size + 1, w.heap.size + 2]) (hf.mono (by simp)) (fun k hk _ => hk))
  have HF5 : Hid (Fr [] wa w5) := Lib.hid (HF4.out.and hf (by simp))
  refine ⟨_, rfl, ⟨hA.go hf (by simp), hB.and hf (by simp)⟩, fun hB => ?_⟩
  replace hA := hA.go hf (by simp)
  clear hok hf HF4
  unfold Wba.val
  simp only [Act.put, List.setIfInBounds_toArray, List.set_cons_zero, List.set_cons_succ]
  refine till_call (i := 8) (f := ?_) (args := ?_) rfl (by kernel_rfl) (by rfl) ?_ ?_
  rotate_left 2
  · go_simp
    (try (first | with_reducible rfl | (apply And.intro <;> rfl)))
  refine (niceBatch_any z0 w5 HZ0.out z0.cells rfl).mono ?_
  rintro e w6 ⟨z, rfl, hok, hrel, -, hf⟩
  have HZU := Lib.hid (nba_U HZ0.out (hok [] (by simp)) hrel)
  have HZ := Lib.hid (hok [w.heap.size, w.heap.size + 1, w.heap.size + 2] (by have h1 := HN0.out; have h3 := HF5.out.size; simp; omega))
  have HY := Lib.hid (HY.out.keep (S' := [w.heap.size, w.heap.size + 1, w.heap.size + 2]) (hf.mono (by simp)) (fun k hk _ => hk))
  have HQ := Lib.hid (HQ.out.keep (S' := [w.heap.size, w.heap.size + 1, w.heap.size + 2]) (hf.mono (by simp)) (fun k hk _ => hk))
  have HF6 : Hid (Fr [] wa w6) := Lib.hid (HF5.out.and hf (by simp))
  refine ⟨_, rfl, ⟨hA.go hf (by simp), hB.and hf (by simp)⟩, fun hB => ?_⟩
  replace hA := hA.go hf (by simp)
  clear hok hrel hf HF5 HZ0
  unfold Wba.val
  simp only [Act.put, List.setIfInBounds_toArray, List.set_cons_zero, List.set_cons_succ]
  refine till_call (i := 10) (f := ?_) (args := ?_) rfl (by kernel_rfl) (by rfl) ?_ ?_
  rotate_left 2
  · go_simp
    (try (first | with_reducible rfl | (apply And.intro <;> rfl)))
  refine (cut_any A n d 9 l w6 (HY0.out.keep HF6.out (by simp)) (Nat.le_trans HND.out HD.out) HND.out (by omega)).mono ?_
  rintro e w7 ⟨AT, dT, rfl, hN⟩
  have ht9 : (l.take 9).length ≤ 9 := List.length_take_le _ _
  have hf := hN.2.1
  have HTA : Hid (∀ k ∈ bk AT, wa.heap.size ≤ k) := Lib.hid (fun k hk => Nat.le_trans HF6.out.size (hN.2.2 k hk))
  have hby := hN.by
  generalize l.take 9 = tl at *
  have HT9 := Lib.hid ht9
  have HT := Lib.hid hby
  have HY := Lib.hid (HY.out.keep (S' := [w.heap.size, w.heap.size + 1, w.heap.size + 2]) (hf.mono (by simp)) (fun k hk _ => hk))
  have HQ := Lib.hid (HQ.out.keep (S' := [w.heap.size, w.heap.size + 1, w.heap.size + 2]) (hf.mono (by simp)) (fun k hk _ => hk))
  have HZ := Lib.hid (HZ.out.keep (S' := [w.heap.size, w.heap.size + 1, w.heap.size + 2]) (hf.mono (by simp)) (fun k hk _ => hk))
  have HF7 : Hid (Fr [] wa w7) := Lib.hid (HF6.out.and hf (by simp))
  refine ⟨_, rfl, ⟨hA.go hf (by simp), hB.and hf (by simp)⟩, fun hB => ?_⟩
  replace hA := hA.go hf (by simp)
  clear hN ht9 hby hf HF6 HFD
  simp only [Act.put, List.setIfInBounds_toArray, List.set_cons_zero, List.set_cons_succ]
  have HB0 := Lib.hid (HB0.out.keep HF7.out (by simp))
  have HB1 := Lib.hid (HB1.out.keep HF7.out (by simp))
  have HB2 := Lib.hid (HB2.out.keep HF7.out (by simp))
  have HCL : Hid (y.cells.length = 38) := Lib.hid (Wce.len HY.out.k.h)
  have HQL : Hid (q.cells.length = 6) := Lib.hid (Wpr.len q)
  have HZL : Hid (z.cells.length = 5) := Lib.hid (Wba.len z)
  have HCO := Lib.hid (all_oneCell_toArray (Wce.one y))
  have HQO := Lib.hid (all_oneCell_toArray (Wpr.one q))
  have HZO := Lib.hid (all_oneCell_toArray (Wba.one z))
  refine till_step (i := 11) rfl (by kernel_rfl) (by kernel_rfl) (by rfl) (fun K hK => ?_)
  refine wp_store_blk _ _ _ rfl (w.heap.size + 0) y.cells.toArray rfl rfl 32 XL.toArray HB0.out (by rw [List.size_toArray, HCL.out]; kernel_rfl) (by rw [List.size_toArray, List.size_toArray, HXL.out, HCL.out]) HCO.out (fun w8 hb hf => ?_)
  refine hK.out _ _ (hA.trans hf (fun x hx _ => by rw [List.mem_singleton.1 hx]; simp)) (fun hA => ?_)
  clear hK K
  have HB1 := Lib.hid (HB1.out.keep hf (by simp))
  have HB2 := Lib.hid (HB2.out.keep hf (by simp))
  have HB0 := Lib.hid hb
  have HY := Lib.hid (HY.out.keep (S' := [w.heap.size, w.heap.size + 1, w.heap.size + 2]) (hf.mono (by intro k hk _; simp at hk; simp [hk])) (fun k hk _ => hk))
  have HQ := Lib.hid (HQ.out.keep (S' := [w.heap.size, w.heap.size + 1, w.heap.size + 2]) (hf.mono (by intro k hk _; simp at hk; simp [hk])) (fun k hk _ => hk))
  have HZ := Lib.hid (HZ.out.keep (S' := [w.heap.size, w.heap.size + 1, w.heap.size + 2]) (hf.mono (by intro k hk _; simp at hk; simp [hk])) (fun k hk _ => hk))
  have HT := Lib.hid (HT.out.keep hf (fun a ha hm => by have h1 := HTA.out a.block (by simp [bk, ha]); have h2 := HN0.out; simp at hm; omega))
  clear hb hf
  simp only [Act.put, List.setIfInBounds_toArray, List.set_cons_zero, List.set_cons_succ]
  refine till_step (i := 12) rfl (by kernel_rfl) (by kernel_rfl) (by rfl) (fun K hK => ?_)
  refine wp_store_blk _ _ _ rfl (w.heap.size + 1) q.cells.toArray rfl rfl 36 PL.toArray HB1.out (by rw [List.size_toArray, HQL.out]; kernel_rfl) (by rw [List.size_toArray, List.size_toArray, HPL.out, HQL.out]) HQO.out (fun w9 hb hf => ?_)
  refine hK.out _ _ (hA.trans hf (fun x hx _ => by rw [List.mem_singleton.1 hx]; simp)) (fun hA => ?_)
  clear hK K
  have HB0 := Lib.hid (HB0.out.keep hf (by simp))
  have HB2 := Lib.hid (HB2.out.keep hf (by simp))
  have HB1 := Lib.hid hb
  have HY := Lib.hid (HY.out.keep (S' := [w.heap.size, w.heap.size + 1, w.heap.size + 2]) (hf.mono (by intro k hk _; simp at hk; simp [hk])) (fun k hk _ => hk))
  have HQ := Lib.hid (HQ.out.keep (S' := [w.heap.size, w.heap.size + 1, w.heap.size + 2]) (hf.mono (by intro k hk _; simp at hk; simp [hk])) (fun k hk _ => hk))
  have HZ := Lib.hid (HZ.out.keep (S' := [w.heap.size, w.heap.size + 1, w.heap.size + 2]) (hf.mono (by intro k hk _; simp at hk; simp [hk])) (fun k hk _ => hk))
  have HT := Lib.hid (HT.out.keep hf (fun a ha hm => by have h1 := HTA.out a.block (by simp [bk, ha]); have h2 := HN0.out; simp at hm; omega))
  clear hb hf
  simp only [Act.put, List.setIfInBounds_toArray, List.set_cons_zero, List.set_cons_succ]
  refine till_step (i := 13) rfl (by kernel_rfl) (by kernel_rfl) (by rfl) (fun K hK => ?_)
  refine wp_store_blk _ _ _ rfl (w.heap.size + 2) z.cells.toArray rfl rfl 41 BL.toArray HB2.out (by rw [List.size_toArray, HZL.out]; kernel_rfl) (by rw [List.size_toArray, List.size_toArray, HBL.out, HZL.out]) HZO.out (fun w10 hb hf => ?_)
  refine hK.out _ _ (hA.trans hf (fun x hx _ => by rw [List.mem_singleton.1 hx]; simp)) (fun hA => ?_)
  clear hK K
  have HB0 := Lib.hid (HB0.out.keep hf (by simp))
  have HB1 := Lib.hid (HB1.out.keep hf (by simp))
  have HB2 := Lib.hid hb
  have HY := Lib.hid (HY.out.keep (S' := [w.heap.size, w.heap.size + 1, w.heap.size + 2]) (hf.mono (by intro k hk _; simp at hk; simp [hk])) (fun k hk _ => hk))
  have HQ := Lib.hid (HQ.out.keep (S' := [w.heap.size, w.heap.size + 1, w.heap.size + 2]) (hf.mono (by intro k hk _; simp at hk; simp [hk])) (fun k hk _ => hk))
  have HZ := Lib.hid (HZ.out.keep (S' := [w.heap.size, w.heap.size + 1, w.heap.size + 2]) (hf.mono (by intro k hk _; simp at hk; simp [hk])) (fun k hk _ => hk))
  have HT := Lib.hid (HT.out.keep hf (fun a ha hm => by have h1 := HTA.out a.block (by simp [bk, ha]); have h2 := HN0.out; simp at hm; omega))
  clear hb hf
  simp only [Act.put, List.setIfInBounds_toArray, List.set_cons_zero, List.set_cons_succ]
  refine till_step (i := 14) rfl (by kernel_rfl) (by kernel_rfl) (by rfl) (fun K hK => ?_)
  refine wp_run (v := ?_) (w' := ?_) ?_ ?_
  rotate_left 2
  · go_simp
    (try (first | with_reducible rfl | (apply And.intro <;> rfl)))
  refine hK.out _ _ hA (fun hA => ?_)
  clear hK K
  simp only [Act.put, List.setIfInBounds_toArray, List.set_cons_zero, List.set_cons_succ]
  refine till_done (by kernel_rfl) ?_ _
  have HFA : Hid (Fr [] w w10) := Lib.hid (HF0.out.and hA (by intro x hx; simp at hx; omega))
  have HY : Hid (y.Ok w10 []) := Lib.hid (HY.out.keep (Fr.refl _ _) (by simp))
  have HQ : Hid (q.Ok w10 []) := Lib.hid (HQ.out.keep (Fr.refl _ _) (by simp))
  have HZ : Hid (z.Ok w10 []) := Lib.hid (HZ.out.keep (Fr.refl _ _) (by simp))
  have HGW : Hid (w.heap.size + 3 ≤ w10.heap.size) := Lib.hid (by have h1 := HN0.out; have h2 := hA.size; omega)
  clear hA hB HF7 HWA HX HP HB HF0 HWS HTA

  go_wp2_with fail
  refine (newWriter_any w10).mono ?_
  rintro e w11 ⟨rfl, hw, hf⟩
  have HF11 : Hid (Fr [] w10 w11) := Lib.hid hf
  have HG : Hid (w10.heap.size < w11.heap.size) := Lib.hid (hw.lt _ (by simp))
  obtain ⟨g, hg⟩ : ∃ g, g = w10.heap.size := ⟨_, rfl⟩
  rw [← hg] at hw ⊢
  have HW0 : Hid (Wr w11 [g] g []) := Lib.hid hw
  have HGE := Lib.hid hg
  have HS0 : Hid (∀ k ∈ [g], w10.heap.size ≤ k) := Lib.hid (by rw [hg]; simp)
  clear hw hf hg
  have HLN : Hid (y.full.length ≤ 700 ∧ q.full.length ≤ 2300 ∧ z.full.length ≤ 14000) := Lib.hid ⟨Wce.full_len HY.out, Wpr.full_len HQ.out, Wba.full_len HZ.out⟩
  go_wp2_with (refine wpList_row rfl 32 _ rfl _ _ rfl _ (HB0.out.keep HF11.out (by simp)).range (row_crt.of HCL.out) ?_)
  refine (vPutCert_any y _ rfl HCL.out w11 [g] g [] HW0.out (by have := HLN.out; (try simp only [List.length_append, List.length_nil]); omega) (HY.out.keep HF11.out (by intro k hk hl; have h1 := HS0.out k hk; omega))).mono ?_
  rintro e w12 ⟨rfl, S1, hw, hf, hs⟩
  rw [List.nil_append] at hw
  have HW1 := Lib.hid hw
  have HF12 : Hid (Fr [] w10 w12) := Lib.hid (HF11.out.and hf (by intro x hx; have h1 := HS0.out x hx; omega))
  have HS1 : Hid (∀ k ∈ S1, w10.heap.size ≤ k) := Lib.hid (fun k hk => by
    rcases Nat.lt_or_ge k w11.heap.size with h | h
    · exact HS0.out k (hs k hk h)
    · have h2 := HF11.out.size; omega)
  clear hw hf hs
  go_wp2_with (refine wpList_row rfl 36 _ rfl _ _ rfl _ (HB1.out.keep HF12.out (by simp)).range (row_prm.of HQL.out) ?_)
  refine (vPutPromise_any q _ rfl HQL.out w12 S1 g y.full HW1.out (by have := HLN.out; (try simp only [List.length_append, List.length_nil]); omega) (HQ.out.keep HF12.out (by intro k hk hl; have h1 := HS1.out k hk; omega))).mono ?_
  rintro e w13 ⟨rfl, S2, hw, hf, hs⟩
  have HW2 := Lib.hid hw
  have HF13 : Hid (Fr [] w10 w13) := Lib.hid (HF12.out.and hf (by intro x hx; have h1 := HS1.out x hx; omega))
  have HS2 : Hid (∀ k ∈ S2, w10.heap.size ≤ k) := Lib.hid (fun k hk => by
    rcases Nat.lt_or_ge k w12.heap.size with h | h
    · exact HS1.out k (hs k hk h)
    · have h2 := HF12.out.size; omega)
  clear hw hf hs
  go_wp2_with (refine wpList_row rfl 41 _ rfl _ _ rfl _ (HB2.out.keep HF13.out (by simp)).range (row_bat.of HZL.out) ?_)
  refine (vPutBatch_any z _ rfl HZL.out w13 S2 g (y.full ++ q.full) HW2.out (by have := HLN.out; (try simp only [List.length_append, List.length_nil]); omega) (HZ.out.keep HF13.out (by intro k hk hl; have h1 := HS2.out k hk; omega))).mono ?_
  rintro e w14 ⟨rfl, S3, hw, hf, hs⟩
  have HW3 := Lib.hid hw
  have HF14 : Hid (Fr [] w10 w14) := Lib.hid (HF13.out.and hf (by intro x hx; have h1 := HS2.out x hx; omega))
  have HS3 : Hid (∀ k ∈ S3, w10.heap.size ≤ k) := Lib.hid (fun k hk => by
    rcases Nat.lt_or_ge k w13.heap.size with h | h
    · exact HS2.out k (hs k hk h)
    · have h2 := HF13.out.size; omega)
  clear hw hf hs
  obtain ⟨L, hL⟩ : ∃ L, L = y.full ++ q.full ++ z.full := ⟨_, rfl⟩
  rw [← hL] at HW3
  have HLE : Hid (L ++ tl = y.full ++ (q.full ++ (z.full ++ tl))) := Lib.hid (by rw [hL]; simp [List.append_assoc])
  have HLL : Hid (L.length ≤ 20000) := Lib.hid (by rw [hL]; have := HLN.out; simp; omega)
  clear hL
  go_wp2_with fail
  refine (bytes_any w14 S3 g L HW3.out (by have := HLL.out; omega)).mono ?_
  rintro e w15 ⟨A0, c0, rfl, hn⟩
  have HO15 := Lib.hid hn.1
  have HF15 : Hid (Fr [] w10 w15) := Lib.hid (HF14.out.and hn.2.1 (by simp))
  have HA15 : Hid (∀ k ∈ bk A0, w10.heap.size ≤ k) := Lib.hid (fun k hk => Nat.le_trans HF14.out.size (hn.2.2 k hk))
  clear hn
  go_wp2_with (at_builtin; refine Stop.mk ?_)
  refine Stop.go ?_
  refine wpList_append_bytes _ rfl (.tmp 38) (.tmp 39) _ rfl 5 Try.underlying42 info_u8 (.slice A0 L.length c0) L.length L rfl HO15.out AT tl.length dT tl rfl (HT.out.keep HF15.out (by simp)) (by have := HLL.out; have := HT9.out; omega) ?_
  intro A9 c9 w16 ho9 hg9 hat9
  have HF16 : Hid (Fr [] w10 w16) := Lib.hid (HF15.out.grown hg9 (fun k hk hl => by rw [bk_mem] at hk; have := HA15.out k hk; omega))
  have HO16 := Lib.hid (By.of_own ho9)
  clear ho9 hg9 hat9
  go_wp2_with fail
  refine (newReader_any A9 _ c9 (L ++ tl) w16 HO16.out (by have := HLL.out; have := HT9.out; omega)).mono ?_
  rintro e w17 ⟨r, F, rfl, hrd, hf, hrg, hF⟩
  have HF17 : Hid (Fr [] w10 w17) := Lib.hid (HF16.out.and hf (by simp))
  have HR0 : Hid (Rs w17 F r (y.full ++ (q.full ++ (z.full ++ tl)), false)) := Lib.hid ⟨by rw [← HLE.out]; exact hrd, by rw [← HLE.out]; have := HLL.out; have := HT9.out; simp; omega, fun k hk => (hF k hk).2⟩
  have HRN : Hid (w10.heap.size ≤ r ∧ ∀ k ∈ F, w10.heap.size ≤ k) := Lib.hid (by have h1 := HF16.out.size; exact ⟨by omega, fun k hk => by have := (hF k hk).1; omega⟩)
  clear hrd hf hrg hF HO16 HO15 HA15 HW0 HW1 HW2 HW3 HS0 HS1 HS2 HS3 HF11 HF12 HF13 HF14 HF15 HF16 HG HGE
  go_wp2_with fail
  refine (wireCert_any w17 F r _ HR0.out).mono ?_
  rintro e w18 ⟨v1, rfl, hc, hok, h1, h2⟩
  rw [pW_ok (pCe_enc HYU.out _ _)] at hc h1
  have HC1 : Hid (v1.con = y.con) := Lib.hid hc
  have HR1 : Hid (Rs w18 F r (q.full ++ (z.full ++ tl), false)) := Lib.hid h1
  have HF18 : Hid (Fr [] w10 w18) := Lib.hid (HF17.out.and h2 (by intro x hx; have := HRN.out.1; simp at hx; omega))
  have HV1 : Hid (∀ W, Fr [r] w18 W → v1.Li W []) := Lib.hid (fun W hW => (hok [r] (by intro k hk; simp at hk; rw [hk]; exact HR0.out.gt)).keep hW (by simp))
  clear hc hok h1 h2
  go_wp2_with fail
  refine (wirePromise_any w18 F r _ HR1.out).mono ?_
  rintro e w19 ⟨v2, rfl, hc, hok, h1, h2⟩
  rw [pW_ok (pPr_enc HQU.out _ _)] at hc h1
  have HC2 : Hid (v2.con = q.con) := Lib.hid hc
  have HR2 : Hid (Rs w19 F r (z.full ++ tl, false)) := Lib.hid h1
  have HF19 : Hid (Fr [] w10 w19) := Lib.hid (HF18.out.and h2 (by intro x hx; have := HRN.out.1; simp at hx; omega))
  have HV1 : Hid (∀ W, Fr [r] w19 W → v1.Li W []) := Lib.hid (fun W hW => HV1.out W (h2.trans hW (fun x hx _ => hx)))
  have HV2 : Hid (∀ W, Fr [r] w19 W → v2.Li W []) := Lib.hid (fun W hW => (hok [r] (by intro k hk; simp at hk; rw [hk]; exact HR1.out.gt)).keep hW (by simp))
  clear hc hok h1 h2
  go_wp2_with fail
  refine (wireBatch_any w19 F r _ HR2.out).mono ?_
  rintro e w20 ⟨v3, rfl, hc, hok, h1, h2⟩
  rw [pW_ok (pBa_enc HZU.out _ _)] at hc h1
  have HC3 : Hid (v3.con = z.con) := Lib.hid hc
  have HR3 : Hid (Rs w20 F r (tl, false)) := Lib.hid h1
  have HF20 : Hid (Fr [] w10 w20) := Lib.hid (HF19.out.and h2 (by intro x hx; have := HRN.out.1; simp at hx; omega))
  have HV1 : Hid (∀ W, Fr [r] w20 W → v1.Li W []) := Lib.hid (fun W hW => HV1.out W (h2.trans hW (fun x hx _ => hx)))
  have HV2 : Hid (∀ W, Fr [r] w20 W → v2.Li W []) := Lib.hid (fun W hW => HV2.out W (h2.trans hW (fun x hx _ => hx)))
  have HV3 : Hid (∀ W, Fr [r] w20 W → v3.Li W []) := Lib.hid (fun W hW => (hok [r] (by intro k hk; simp at hk; rw [hk]; exact HR2.out.gt)).keep hW (by simp))
  clear hc hok h1 h2
  have HF10 : Hid (Fr [] w10 w20) := Lib.hid HF20.out
  have HV1 := Lib.hid (HV1.out w20 (Fr.refl _ _))
  have HV2 := Lib.hid (HV2.out w20 (Fr.refl _ _))
  have HV3 := Lib.hid (HV3.out w20 (Fr.refl _ _))
  have HB0 := Lib.hid (HB0.out.keep HF20.out (by simp))
  have HB1 := Lib.hid (HB1.out.keep HF20.out (by simp))
  have HB2 := Lib.hid (HB2.out.keep HF20.out (by simp))
  have HY := Lib.hid (HY.out.keep (S' := []) HF20.out (by simp))
  have HQ := Lib.hid (HQ.out.keep (S' := []) HF20.out (by simp))
  have HZ := Lib.hid (HZ.out.keep (S' := []) HF20.out (by simp))
  have HFA : Hid (Fr [] w w20) := Lib.hid (HFA.out.and HF20.out (by simp))
  have HGW : Hid (w.heap.size + 3 ≤ w20.heap.size) := Lib.hid (by have h1 := HGW.out; have h2 := HF20.out.size; omega)
  have HRW : Hid (r < w20.heap.size ∧ ∀ k ∈ F, k < w20.heap.size) := Lib.hid ⟨HR3.out.gt, HR3.out.lt⟩
  clear HF10 HF17 HF18 HF19 HF20 HRN HR0 HR1 HR2 HT
  have HVL1 : Hid (v1.cells.length = 38) := Lib.hid (Wce.len HV1.out.k.h)
  have HVO1 : Hid (v1.cells.toArray.all (·.oneCell') = true) := Lib.hid (all_oneCell_toArray (Wce.one _))
  obtain ⟨VL1, hVL1⟩ : ∃ V, v1.cells = V := ⟨_, rfl⟩
  rw [hVL1] at HVL1 HVO1 ⊢
  have HVC1 := Lib.hid hVL1
  clear hVL1
  have HVT1 : Hid ((Try.prog.info? 32).map (·.size) = some VL1.toArray.size) := Lib.hid (by rw [List.size_toArray, HVL1.out]; kernel_rfl)
  have HBN1 : Hid (Blk (((w20.alloc (Obj.cells zWce.cells.toArray 32)).alloc (Obj.cells zWpr.cells.toArray 36)).alloc (Obj.cells zWba.cells.toArray 41)) (w20.heap.size + 0) 32 zWce.cells.toArray) := Lib.hid (by
    have h := Blk.new w20 32 zWce.cells.toArray
    exact blk_alloc (blk_alloc ((by simpa using h))))
  have HVL2 : Hid (v2.cells.length = 6) := Lib.hid (rfl)
  have HVO2 : Hid (v2.cells.toArray.all (·.oneCell') = true) := Lib.hid (all_oneCell_toArray (Wpr.one _))
  obtain ⟨VL2, hVL2⟩ : ∃ V, v2.cells = V := ⟨_, rfl⟩
  rw [hVL2] at HVL2 HVO2 ⊢
  have HVC2 := Lib.hid hVL2
  clear hVL2
  have HVT2 : Hid ((Try.prog.info? 36).map (·.size) = some VL2.toArray.size) := Lib.hid (by rw [List.size_toArray, HVL2.out]; kernel_rfl)
  have HBN2 : Hid (Blk (((w20.alloc (Obj.cells zWce.cells.toArray 32)).alloc (Obj.cells zWpr.cells.toArray 36)).alloc (Obj.cells zWba.cells.toArray 41)) (w20.heap.size + 1) 36 zWpr.cells.toArray) := Lib.hid (by
    have h := Blk.new (w20.alloc (Obj.cells zWce.cells.toArray 32)) 36 zWpr.cells.toArray
    exact blk_alloc ((by simpa using h)))
  have HVL3 : Hid (v3.cells.length = 5) := Lib.hid (rfl)
  have HVO3 : Hid (v3.cells.toArray.all (·.oneCell') = true) := Lib.hid (all_oneCell_toArray (Wba.one _))
  obtain ⟨VL3, hVL3⟩ : ∃ V, v3.cells = V := ⟨_, rfl⟩
  rw [hVL3] at HVL3 HVO3 ⊢
  have HVC3 := Lib.hid hVL3
  clear hVL3
  have HVT3 : Hid ((Try.prog.info? 41).map (·.size) = some VL3.toArray.size) := Lib.hid (by rw [List.size_toArray, HVL3.out]; kernel_rfl)
  have HBN3 : Hid (Blk (((w20.alloc (Obj.cells zWce.cells.toArray 32)).alloc (Obj.cells zWpr.cells.toArray 36)).alloc (Obj.cells zWba.cells.toArray 41)) (w20.heap.size + 2) 41 zWba.cells.toArray) := Lib.hid (by
    have h := Blk.new ((w20.alloc (Obj.cells zWce.cells.toArray 32)).alloc (Obj.cells zWpr.cells.toArray 36)) 41 zWba.cells.toArray
    exact (by simpa using h))
  have HFN : Hid (Fr [] w20 (((w20.alloc (Obj.cells zWce.cells.toArray 32)).alloc (Obj.cells zWpr.cells.toArray 36)).alloc (Obj.cells zWba.cells.toArray 41))) := Lib.hid ((((Fr.refl [] w20).alloc _).alloc _).alloc _)
  go_upto_region 12 with (first
    | (refine wpList_store_blk rfl 32 _ _ rfl (w20.heap.size + 0) VL1.toArray rfl rfl 32 zWce.cells.toArray HBN1.out HVT1.out (by simp only [List.size_toArray]; rw [HVL1.out]; rfl) HVO1.out ?_
       intro w21 hb hf
       have HBV1 := Lib.hid hb
       have HBN2 := Lib.hid (HBN2.out.keep hf (by simp))
       have HBN3 := Lib.hid (HBN3.out.keep hf (by simp))
       have HFN := Lib.hid (HFN.out.and hf (by intro x hx; simp at hx; omega))
       clear hb hf)
    | (refine wpList_store_blk rfl 36 _ _ rfl (w20.heap.size + 1) VL2.toArray rfl rfl 36 zWpr.cells.toArray HBN2.out HVT2.out (by simp only [List.size_toArray]; rw [HVL2.out]; rfl) HVO2.out ?_
       intro w22 hb hf
       have HBV1 := Lib.hid (HBV1.out.keep hf (by simp))
       have HBV2 := Lib.hid hb
       have HBN3 := Lib.hid (HBN3.out.keep hf (by simp))
       have HFN := Lib.hid (HFN.out.and hf (by intro x hx; simp at hx; omega))
       clear hb hf)
    | (refine wpList_store_blk rfl 41 _ _ rfl (w20.heap.size + 2) VL3.toArray rfl rfl 41 zWba.cells.toArray HBN3.out HVT3.out (by simp only [List.size_toArray]; rw [HVL3.out]; rfl) HVO3.out ?_
       intro w23 hb hf
       have HBV1 := Lib.hid (HBV1.out.keep hf (by simp))
       have HBV2 := Lib.hid (HBV2.out.keep hf (by simp))
       have HBV3 := Lib.hid hb
       have HFN := Lib.hid (HFN.out.and hf (by intro x hx; simp at hx; omega))
       clear hb hf))
  have HB0 := Lib.hid (HB0.out.keep HFN.out (by simp))
  have HB1 := Lib.hid (HB1.out.keep HFN.out (by simp))
  have HB2 := Lib.hid (HB2.out.keep HFN.out (by simp))
  have HY := Lib.hid (HY.out.keep (S' := []) HFN.out (by simp))
  have HQ := Lib.hid (HQ.out.keep (S' := []) HFN.out (by simp))
  have HZ := Lib.hid (HZ.out.keep (S' := []) HFN.out (by simp))
  have HV1 := Lib.hid (HV1.out.keep (S' := []) HFN.out (by simp))
  have HV2 := Lib.hid (HV2.out.keep (S' := []) HFN.out (by simp))
  have HV3 := Lib.hid (HV3.out.keep (S' := []) HFN.out (by simp))
  have HFA : Hid (Fr [] w w23) := Lib.hid (HFA.out.and HFN.out (by simp))
  have HR3 : Hid (Rs w23 F r (tl, false)) := Lib.hid (HR3.out.fr HFN.out (by simp) (by simp))
  clear HBN1 HBN2 HBN3 HFN HRW HGW
  go_wp2_with fail
  refine (ok_any w23 r F tl false HR3.out.rd).mono ?_
  rintro e_ wq ⟨rfl, rfl⟩
  go_wp2_with (first
    | (refine wpList_row rfl 32 _ rfl _ _ rfl _ HBV1.out.range (row_crt.of HVL1.out) ?_)
    | (refine wpList_row rfl 32 _ rfl _ _ rfl _ HB0.out.range (row_crt.of HCL.out) ?_))
  refine (cert_eq v1 y w23 HV1.out HY.out.li HC1.out _ _ HVC1.out rfl).mono ?_
  rintro e_ w24 ⟨rfl, hf⟩
  have HBV2 := Lib.hid (HBV2.out.keep hf (by simp))
  have HB1 := Lib.hid (HB1.out.keep hf (by simp))
  have HV2 := Lib.hid (HV2.out.keep (S' := []) hf (by simp))
  have HQ := Lib.hid (HQ.out.keep (S' := []) hf (by simp))
  have HBV3 := Lib.hid (HBV3.out.keep hf (by simp))
  have HB2 := Lib.hid (HB2.out.keep hf (by simp))
  have HV3 := Lib.hid (HV3.out.keep (S' := []) hf (by simp))
  have HZ := Lib.hid (HZ.out.keep (S' := []) hf (by simp))
  have HFA : Hid (Fr [] w w24) := Lib.hid (HFA.out.and hf (by simp))
  have HR3 : Hid (Rs w24 F r (tl, false)) := Lib.hid (HR3.out.fr hf (by simp) (by simp))
  clear hf
  go_wp2_with (first
    | (refine wpList_row rfl 36 _ rfl _ _ rfl _ HBV2.out.range (row_prm.of HVL2.out) ?_)
    | (refine wpList_row rfl 36 _ rfl _ _ rfl _ HB1.out.range (row_prm.of HQL.out) ?_))
  refine (promise_eq v2 q w24 HV2.out HQ.out.li HC2.out _ _ HVC2.out rfl).mono ?_
  rintro e_ w25 ⟨rfl, hf⟩
  have HBV3 := Lib.hid (HBV3.out.keep hf (by simp))
  have HB2 := Lib.hid (HB2.out.keep hf (by simp))
  have HV3 := Lib.hid (HV3.out.keep (S' := []) hf (by simp))
  have HZ := Lib.hid (HZ.out.keep (S' := []) hf (by simp))
  have HFA : Hid (Fr [] w w25) := Lib.hid (HFA.out.and hf (by simp))
  have HR3 : Hid (Rs w25 F r (tl, false)) := Lib.hid (HR3.out.fr hf (by simp) (by simp))
  clear hf
  go_wp2_with (first
    | (refine wpList_row rfl 41 _ rfl _ _ rfl _ HBV3.out.range (row_bat.of HVL3.out) ?_)
    | (refine wpList_row rfl 41 _ rfl _ _ rfl _ HB2.out.range (row_bat.of HZL.out) ?_))
  refine (batch_eq v3 z w25 HV3.out HZ.out.li HC3.out _ _ HVC3.out rfl).mono ?_
  rintro e_ w26 ⟨rfl, hf⟩
  have HFA : Hid (Fr [] w w26) := Lib.hid (HFA.out.and hf (by simp))
  have HR3 : Hid (Rs w26 F r (tl, false)) := Lib.hid (HR3.out.fr hf (by simp) (by simp))
  clear hf
  go_wp2_with fail
  refine (left_any w26 r F tl false HR3.out.rd).mono ?_
  rintro e_ wq ⟨rfl, rfl⟩
  have hee : ((tl.length : Int) == (tl.length : Int)) = true := by simp
  have htl : (tl.length : Int) ≤ 9223372036854775807 := by have := HT9.out; omega
  go_wp2_with fail
  refine (wwakes_any _).mono ?_
  rintro e_ wv ⟨rfl, hfv⟩
  have HFA := Lib.hid (HFA.out.and hfv (by simp))
  clear hfv
  go_wp2
  go_ret
  exact ⟨rfl, HFA.out⟩
end Go.Proofs.Ytbkhkhippcjdgaa
