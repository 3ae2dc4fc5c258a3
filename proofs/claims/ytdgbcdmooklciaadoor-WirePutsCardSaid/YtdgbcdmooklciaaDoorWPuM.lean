/- WirePuts: the bytes of a certificate, of a promise, of a batch, a batch's hash, which configurations may be: what the document says. (written by gen_wpu.py) -/
import Derived.Test.YtdgbcdmooklciaaDoorKA5
namespace Go.Proofs.YtdgbcdmooklciaaDoor
open Go.RowKit
set_option maxRecDepth 100000

set_option maxHeartbeats 1000000 in
theorem wPutCert_any (x : Wce) (C : List Value) (hC : x.cells = C) (hl : C.length = 38) (w : World) (S : List Nat) (g : Nat) (hw : Wr w S g []) (hx : x.Ok w S) :
    Calls Tryd.prog 26 #[.pointer (some ⟨g, 0, none⟩), .agg C.toArray] w fun e w' => e = .returned (.tuple #[]) ∧ Gr w S g x.full w' := by
  obtain ⟨wa, hwa⟩ : ∃ wa, wa = w.alloc (Obj.cells C.toArray 59) := ⟨_, rfl⟩
  have hf0 : Fr [] w wa := by rw [hwa]; exact (Fr.refl [] w).alloc _
  have hb0 : Blk wa w.heap.size 59 C.toArray := by rw [hwa]; exact Blk.new _ _ _
  have HR := Lib.hid hb0.range
  have HL := Lib.hid hl
  have HWR := Lib.hid (hw.keep hf0 (by simp))
  have HX := Lib.hid (hx.keep (hf0.mono (T := S) (by simp)) (fun k hk _ => hk))
  have HRC := Lib.hid hC
  have HF0 := Lib.hid hf0
  have HWA := Lib.hid hwa
  clear hwa hf0 hb0 hC hl hw hx
  go_enter Tryd.func26, Tryd.ntmps26
  go_upto_region 1 with (fail)
  rw [← HWA.out]
  go_wp2_with (refine wpList_row rfl 59 _ rfl _ _ rfl _ HR.out (row_crt.of HL.out) ?_)
  refine (putCert_any' x C HRC.out wa S g [] HWR.out (by decide) HX.out).mono ?_
  rintro e w1 ⟨rfl, hg⟩
  rw [List.nil_append] at hg
  have HG := Lib.hid hg
  clear hg
  go_wp2
  go_end0
  exact ⟨rfl, HG.out.from_ HF0.out⟩
set_option maxHeartbeats 1000000 in
theorem wPutPromise_any (x : Wpr) (C : List Value) (hC : x.cells = C) (hl : C.length = 6) (w : World) (S : List Nat) (g : Nat) (hw : Wr w S g []) (hx : x.Ok w S) :
    Calls Tryd.prog 27 #[.pointer (some ⟨g, 0, none⟩), .agg C.toArray] w fun e w' => e = .returned (.tuple #[]) ∧ Gr w S g x.full w' := by
  obtain ⟨wa, hwa⟩ : ∃ wa, wa = w.alloc (Obj.cells C.toArray 62) := ⟨_, rfl⟩
  have hf0 : Fr [] w wa := by rw [hwa]; exact (Fr.refl [] w).alloc _
  have hb0 : Blk wa w.heap.size 62 C.toArray := by rw [hwa]; exact Blk.new _ _ _
  have HR := Lib.hid hb0.range
  have HL := Lib.hid hl
  have HWR := Lib.hid (hw.keep hf0 (by simp))
  have HX := Lib.hid (hx.keep (hf0.mono (T := S) (by simp)) (fun k hk _ => hk))
  have HRC := Lib.hid hC
  have HF0 := Lib.hid hf0
  have HWA := Lib.hid hwa
  clear hwa hf0 hb0 hC hl hw hx
  go_enter Tryd.func27, Tryd.ntmps27
  go_upto_region 1 with (fail)
  rw [← HWA.out]
  go_wp2_with (refine wpList_row rfl 62 _ rfl _ _ rfl _ HR.out (row_prm.of HL.out) ?_)
  refine (putPromise_any' x C HRC.out wa S g [] HWR.out (by decide) HX.out).mono ?_
  rintro e w1 ⟨rfl, hg⟩
  rw [List.nil_append] at hg
  have HG := Lib.hid hg
  clear hg
  go_wp2
  go_end0
  exact ⟨rfl, HG.out.from_ HF0.out⟩
set_option maxHeartbeats 1000000 in
theorem wPutBatch_any (x : Wba) (C : List Value) (hC : x.cells = C) (hl : C.length = 5) (w : World) (S : List Nat) (g : Nat) (hw : Wr w S g []) (hx : x.Ok w S) :
    Calls Tryd.prog 28 #[.pointer (some ⟨g, 0, none⟩), .agg C.toArray] w fun e w' => e = .returned (.tuple #[]) ∧ Gr w S g x.full w' := by
  obtain ⟨wa, hwa⟩ : ∃ wa, wa = w.alloc (Obj.cells C.toArray 39) := ⟨_, rfl⟩
  have hf0 : Fr [] w wa := by rw [hwa]; exact (Fr.refl [] w).alloc _
  have hb0 : Blk wa w.heap.size 39 C.toArray := by rw [hwa]; exact Blk.new _ _ _
  have HR := Lib.hid hb0.range
  have HL := Lib.hid hl
  have HWR := Lib.hid (hw.keep hf0 (by simp))
  have HX := Lib.hid (hx.keep (hf0.mono (T := S) (by simp)) (fun k hk _ => hk))
  have HRC := Lib.hid hC
  have HF0 := Lib.hid hf0
  have HWA := Lib.hid hwa
  clear hwa hf0 hb0 hC hl hw hx
  go_enter Tryd.func28, Tryd.ntmps28
  go_upto_region 1 with (fail)
  rw [← HWA.out]
  go_wp2_with (refine wpList_row rfl 39 _ rfl _ _ rfl _ HR.out (row_bat.of HL.out) ?_)
  refine (putBatch_any' x C HRC.out wa S g [] HWR.out (by decide) HX.out).mono ?_
  rintro e w1 ⟨rfl, hg⟩
  rw [List.nil_append] at hg
  have HG := Lib.hid hg
  clear hg
  go_wp2
  go_end0
  exact ⟨rfl, HG.out.from_ HF0.out⟩
theorem wireN2_any (f k : Int) (hf : 0 ≤ f ∧ f < 1099511627776) (w : World) : Calls Tryd.prog 29 #[.agg #[.int .i64 f, .int .i64 k]] w fun e w' => e = .returned (.int .i64 (3 * f + 1)) ∧ Fr [] w w' := by
  have e1 : IntKind.i64.wrap (3 * f) = 3 * f := IntWalk.i64_in _ (by omega)
  have e2 : IntKind.i64.wrap (3 * f + 1) = 3 * f + 1 := IntWalk.i64_in _ (by omega)
  go_enter Tryd.func29, Tryd.ntmps29
  go_wp2
  go_ret
  exact ⟨rfl, (Fr.refl [] w).alloc _⟩
theorem wireQ2_any (f k : Int) (hf : 0 ≤ f ∧ f < 1099511627776) (w : World) : Calls Tryd.prog 30 #[.agg #[.int .i64 f, .int .i64 k]] w fun e w' => e = .returned (.int .i64 (2 * f + 1)) ∧ Fr [] w w' := by
  have e1 : IntKind.i64.wrap (2 * f) = 2 * f := IntWalk.i64_in _ (by omega)
  have e2 : IntKind.i64.wrap (2 * f + 1) = 2 * f + 1 := IntWalk.i64_in _ (by omega)
  go_enter Tryd.func30, Tryd.ntmps30
  go_wp2
  go_ret
  exact ⟨rfl, (Fr.refl [] w).alloc _⟩
theorem eql_self (Y : List UInt8) (h : Y.length = 32) (w : World) : (Op.equalIn 10000 26 (.agg (Y.map by8).toArray) (.agg (Y.map by8).toArray)).run Tryd.prog w = .ok true w := by
  have e := eql_hash Y Y h h 9998 w
  rw [show decide (Y = Y) = true from decide_eq_true rfl] at e
  exact e
set_option maxHeartbeats 8000000 in
theorem wirePuts_walk (w : World) (x : Wce) (hx : x.In w) (p : Wpr) (hp : p.In w) (b : Wba) (hb : b.In w) (f k : Int) (hf : i64In f) (hk : i64In k) (hK : KW w) :
    Calls Tryd.prog 5 #[x.val, p.val, b.val, .agg #[.int .i64 f, .int .i64 k]] w fun e w' => e = .returned (.bool true) ∧ Fr [] w w' := by
  unfold Wce.val Wpr.val Wba.val
  have HXL0 : x.cells.length = 38 := Wce.len hx.k.h
  have HPL0 : p.cells.length = 6 := Wpr.len p
  have HBL0 : b.cells.length = 5 := Wba.len b
  have HXA0 : x.k.cells ++ [Value.slice x.A x.n x.d] = x.cells := rfl
  generalize hXL : x.cells = XL at *
  generalize hPL : p.cells = PL at *
  generalize hBL : b.cells = BL at *
  have HRX := Lib.hid hXL
  have HRP := Lib.hid hPL
  have HRB := Lib.hid hBL
  have HXL := Lib.hid HXL0
  have HPL := Lib.hid HPL0
  have HBL := Lib.hid HBL0
  have HXA := Lib.hid HXA0
  clear hXL hPL hBL HXL0 HPL0 HBL0 HXA0
  obtain ⟨wa, hwa⟩ : ∃ wa, wa = ((((w.alloc (Obj.cells XL.toArray 59)).alloc (Obj.cells PL.toArray 62)).alloc (Obj.cells BL.toArray 39)).alloc (Obj.cells #[.int .i64 f, .int .i64 k] 64)) := ⟨_, rfl⟩
  have hf0 : Fr [] w wa := by rw [hwa]; exact ((((Fr.refl [] w).alloc _).alloc _).alloc _).alloc _
  have hn0 : wa.heap.size = w.heap.size + 4 := by rw [hwa]; simp
  have hb0 : Blk wa (w.heap.size + 0) 59 XL.toArray := by
    have h := Blk.new w 59 XL.toArray
    rw [hwa]
    exact blk_alloc (blk_alloc (blk_alloc ((by simpa using h))))
  have hb1 : Blk wa (w.heap.size + 1) 62 PL.toArray := by
    have h := Blk.new (w.alloc (Obj.cells XL.toArray 59)) 62 PL.toArray
    rw [hwa]
    exact blk_alloc (blk_alloc ((by simpa using h)))
  have hb2 : Blk wa (w.heap.size + 2) 39 BL.toArray := by
    have h := Blk.new ((w.alloc (Obj.cells XL.toArray 59)).alloc (Obj.cells PL.toArray 62)) 39 BL.toArray
    rw [hwa]
    exact blk_alloc ((by simpa using h))
  have hb3 : Blk wa (w.heap.size + 3) 64 #[.int .i64 f, .int .i64 k] := by
    have h := Blk.new (((w.alloc (Obj.cells XL.toArray 59)).alloc (Obj.cells PL.toArray 62)).alloc (Obj.cells BL.toArray 39)) 64 #[.int .i64 f, .int .i64 k]
    rw [hwa]
    exact (by simpa using h)
  have HB0 := Lib.hid hb0
  have HB1 := Lib.hid hb1
  have HB2 := Lib.hid hb2
  have HB3 := Lib.hid hb3
  have HN0 := Lib.hid hn0
  have HF0 := Lib.hid hf0
  have HWA := Lib.hid hwa
  have HX := Lib.hid hx
  have HP := Lib.hid hp
  have HB := Lib.hid hb
  have HFI := Lib.hid hf
  have HKI := Lib.hid hk
  have HKLT := Lib.hid (World.block_lt_of_cell? w _ (hK 0 (by decide)))
  have HK := Lib.hid (hK.keep hf0 (by simp))
  clear hwa hf0 hb0 hb1 hb2 hb3 hn0 hx hp hb hf hk hK
  go_enter Tryd.func5, Tryd.ntmps5
  go_upto_region 1 with (fail)
  change Code.wp _ _ _ _ ((((w.alloc (Obj.cells XL.toArray 59)).alloc (Obj.cells PL.toArray 62)).alloc (Obj.cells BL.toArray 39)).alloc (Obj.cells #[.int .i64 f, .int .i64 k] 64))
  rw [← HWA.out]
  have hpc := promiseCut_any p
  rw [HRP.out] at hpc
  have hcc := certCut_any x.k HX.out.k x.A x.n x.d x.l
  rw [HXA.out] at hcc
  refine wp_region_till 6 (Fr [w.heap.size, w.heap.size + 1, w.heap.size + 2] wa) (Fr [] wa) (by kernel_rfl) (Fr.drew (Fr.refl _ wa)) (Fr.drew (Fr.refl _ wa)) (fun hA hB => ?_)
  have HWS : Hid (wa.drew.heap.size = wa.heap.size) := Lib.hid rfl
  have HFD : Hid (Fr [] wa wa.drew) := Lib.hid (Fr.drew (Fr.refl [] wa))
  generalize wa.drew = wd at *
  refine till_row (i := 0) rfl (by kernel_rfl) (by rfl) _ _ rfl _ _ rfl _ (fun w1 hw1 => hw1.range (HB0.out.range) (by first | (simp; done) | exact HNS.out | exact HNW.out | (intro hm; have hlt := HSB.out _ hm; (try dsimp only at hlt); omega))) (row_crt.of HXL.out) (fun _ _ _ h => h) hA hB ?_
  simp only [Act.put, List.setIfInBounds_toArray, List.set_cons_zero, List.set_cons_succ]
  refine till_row (i := 2) rfl (by kernel_rfl) (by rfl) _ _ rfl _ _ rfl _ (fun w1 hw1 => hw1.range (HB1.out.range) (by first | (simp; done) | exact HNS.out | exact HNW.out | (intro hm; have hlt := HSB.out _ hm; (try dsimp only at hlt); omega))) (row_prm.of HPL.out) (fun _ _ _ h => h) hA hB ?_
  simp only [Act.put, List.setIfInBounds_toArray, List.set_cons_zero, List.set_cons_succ]
  refine till_row (i := 4) rfl (by kernel_rfl) (by rfl) _ _ rfl _ _ rfl _ (fun w1 hw1 => hw1.range (HB2.out.range) (by first | (simp; done) | exact HNS.out | exact HNW.out | (intro hm; have hlt := HSB.out _ hm; (try dsimp only at hlt); omega))) (row_bat.of HBL.out) (fun _ _ _ h => h) hA hB ?_
  simp only [Act.put, List.setIfInBounds_toArray, List.set_cons_zero, List.set_cons_succ]
  refine till_call (i := 1) (f := ?_) (args := ?_) rfl (by kernel_rfl) (by rfl) ?_ ?_
  rotate_left 2
  · go_simp
    (try (first | with_reducible rfl | (apply And.intro <;> rfl)))
  refine (hcc wd (HX.out.l.keep' (HF0.out.and HFD.out (by simp)) (by simp) (fun _ _ h => h)) HX.out.n HX.out.d).mono ?_
  clear hcc
  rintro e w1 ⟨A1, d1, rfl, hN⟩
  have hm5 : (x.l.take 5).length ≤ 5 := List.length_take_le _ _
  have hok : ∀ S0 : List Nat, (∀ q ∈ S0, q < wa.heap.size) → (⟨x.k, A1, (x.l.take 5).length, d1, x.l.take 5⟩ : Wce).Ok w1 S0 := fun S0 h0 => ⟨HX.out.k, Lst.of_own (ok := fun (_ : World) (v : Wst) => v.Ok) hN.1 rfl (fun u hu => HX.out.l.2.1 u (List.mem_of_mem_take hu)), hm5, fun _ a ha hin => by
    have ha : A1 = some a := ha
    have h1 := hN.2.2 a.block (by rw [ha]; simp [bk])
    have h2 := h0 _ hin
    have h3 := HWS.out
    omega⟩
  have hcl : x.k.cells ++ [Value.slice A1 (x.l.take 5).length d1] = (⟨x.k, A1, (x.l.take 5).length, d1, x.l.take 5⟩ : Wce).cells := rfl
  rw [hcl]
  generalize (⟨x.k, A1, (x.l.take 5).length, d1, x.l.take 5⟩ : Wce) = c at *
  have hf1 := hN.2.1
  have HC := Lib.hid (hok [w.heap.size, w.heap.size + 1, w.heap.size + 2] (by have h1 := HN0.out; simp; omega))
  have HF1 := Lib.hid hf1
  refine ⟨_, rfl, ⟨hA.go hf1 (by simp), hB.and hf1 (by simp)⟩, fun hB => ?_⟩
  replace hA := hA.go hf1 (by simp)
  clear hN hm5 hok hcl hf1
  simp only [Act.put, List.setIfInBounds_toArray, List.set_cons_zero, List.set_cons_succ]
  refine till_call (i := 3) (f := ?_) (args := ?_) rfl (by kernel_rfl) (by rfl) ?_ ?_
  rotate_left 2
  · go_simp
    (try (first | with_reducible rfl | (apply And.intro <;> rfl)))
  refine (hpc w1 HP.out.r HP.out.e HP.out.t HP.out.b HP.out.m (HP.out.l.keep' ((HF0.out.and HFD.out (by simp)).and HF1.out (by simp)) (by simp) (fun _ _ h => h.keep ((HF0.out.and HFD.out (by simp)).and HF1.out (by simp)))) HP.out.n).mono ?_
  clear hpc
  rintro e w2 ⟨A2, d2, ys, rfl, hok, -, hf2⟩
  have hok2 := hok [w.heap.size, w.heap.size + 1, w.heap.size + 2] (by have h1 := HN0.out; have h2 := HWS.out; have h3 := HF1.out.size; simp; omega)
  generalize hq : (⟨p.r, p.e, p.t, A2, (p.l.take 3).length, d2, ys, p.b, p.m⟩ : Wpr) = q at *
  clear hq hok
  have HQ := Lib.hid hok2
  have HF2 := Lib.hid hf2
  have HC := Lib.hid (HC.out.keep (S' := [w.heap.size, w.heap.size + 1, w.heap.size + 2]) (hf2.mono (by simp)) (fun k hk _ => hk))
  refine ⟨_, rfl, ⟨hA.go hf2 (by simp), hB.and hf2 (by simp)⟩, fun hB => ?_⟩
  replace hA := hA.go hf2 (by simp)
  clear hok2 hf2
  simp only [Act.put, List.setIfInBounds_toArray, List.set_cons_zero, List.set_cons_succ]
  refine till_call (i := 5) (f := ?_) (args := ?_) rfl (by kernel_rfl) (by rfl) ?_ ?_
  rotate_left 2
  · go_simp
    (try (first | with_reducible rfl | (apply And.intro <;> rfl)))
  refine (batchCut_any b w2 (HB.out.keep (((HF0.out.and HFD.out (by simp)).and HF1.out (by simp)).and HF2.out (by simp))) BL HRB.out).mono ?_
  rintro e w3 ⟨y, rfl, hyk, hf3⟩
  have hyk2 := hyk [w.heap.size, w.heap.size + 1, w.heap.size + 2] (by have h1 := HN0.out; have h2 := HWS.out; have h3 := HF1.out.size; have h4 := HF2.out.size; simp; omega)
  have HY := Lib.hid hyk2
  have HC := Lib.hid (HC.out.keep (S' := [w.heap.size, w.heap.size + 1, w.heap.size + 2]) (hf3.mono (by simp)) (fun k hk _ => hk))
  have HQ := Lib.hid (HQ.out.keep (S' := [w.heap.size, w.heap.size + 1, w.heap.size + 2]) (hf3.mono (by simp)) (fun k hk _ => hk))
  have HF3 : Hid (Fr [] wa w3) := Lib.hid (((HFD.out.and HF1.out (by simp)).and HF2.out (by simp)).and hf3 (by simp))
  refine ⟨_, rfl, ⟨hA.go hf3 (by simp), hB.and hf3 (by simp)⟩, fun hB => ?_⟩
  replace hA := hA.go hf3 (by simp)
  clear hyk hyk2 hf3 HF1 HF2 HFD
  unfold Wba.val
  simp only [Act.put, List.setIfInBounds_toArray, List.set_cons_zero, List.set_cons_succ]
  have HB0 := Lib.hid (HB0.out.keep HF3.out (by simp))
  have HB1 := Lib.hid (HB1.out.keep HF3.out (by simp))
  have HB2 := Lib.hid (HB2.out.keep HF3.out (by simp))
  have HB3 := Lib.hid (HB3.out.keep HF3.out (by simp))
  have HCL : Hid (c.cells.length = 38) := Lib.hid (Wce.len HC.out.k.h)
  have HQL : Hid (q.cells.length = 6) := Lib.hid (Wpr.len q)
  have HYL : Hid (y.cells.length = 5) := Lib.hid (Wba.len y)
  have HCO := Lib.hid (all_oneCell_toArray (Wce.one c))
  have HQO := Lib.hid (all_oneCell_toArray (Wpr.one q))
  have HYO := Lib.hid (all_oneCell_toArray (Wba.one y))
  refine till_step (i := 6) rfl (by kernel_rfl) (by kernel_rfl) (by rfl) (fun K hK => ?_)
  refine wp_store_blk _ _ _ rfl (w.heap.size + 0) c.cells.toArray rfl rfl 59 XL.toArray HB0.out (by rw [List.size_toArray, HCL.out]; kernel_rfl) (by rw [List.size_toArray, List.size_toArray, HXL.out, HCL.out]) HCO.out (fun w4 hb hf => ?_)
  refine hK.out _ _ (hA.trans hf (fun x hx _ => by rw [List.mem_singleton.1 hx]; simp)) (fun hA => ?_)
  clear hK K
  have HB1 := Lib.hid (HB1.out.keep hf (by simp))
  have HB2 := Lib.hid (HB2.out.keep hf (by simp))
  have HB3 := Lib.hid (HB3.out.keep hf (by simp))
  have HB0 := Lib.hid hb
  have HC := Lib.hid (HC.out.keep (S' := [w.heap.size, w.heap.size + 1, w.heap.size + 2]) (hf.mono (by intro k hk _; simp at hk; simp [hk])) (fun k hk _ => hk))
  have HQ := Lib.hid (HQ.out.keep (S' := [w.heap.size, w.heap.size + 1, w.heap.size + 2]) (hf.mono (by intro k hk _; simp at hk; simp [hk])) (fun k hk _ => hk))
  have HY := Lib.hid (HY.out.keep (S' := [w.heap.size, w.heap.size + 1, w.heap.size + 2]) (hf.mono (by intro k hk _; simp at hk; simp [hk])) (fun k hk _ => hk))
  clear hb hf
  simp only [Act.put, List.setIfInBounds_toArray, List.set_cons_zero, List.set_cons_succ]
  refine till_step (i := 7) rfl (by kernel_rfl) (by kernel_rfl) (by rfl) (fun K hK => ?_)
  refine wp_store_blk _ _ _ rfl (w.heap.size + 1) q.cells.toArray rfl rfl 62 PL.toArray HB1.out (by rw [List.size_toArray, HQL.out]; kernel_rfl) (by rw [List.size_toArray, List.size_toArray, HPL.out, HQL.out]) HQO.out (fun w5 hb hf => ?_)
  refine hK.out _ _ (hA.trans hf (fun x hx _ => by rw [List.mem_singleton.1 hx]; simp)) (fun hA => ?_)
  clear hK K
  have HB0 := Lib.hid (HB0.out.keep hf (by simp))
  have HB2 := Lib.hid (HB2.out.keep hf (by simp))
  have HB3 := Lib.hid (HB3.out.keep hf (by simp))
  have HB1 := Lib.hid hb
  have HC := Lib.hid (HC.out.keep (S' := [w.heap.size, w.heap.size + 1, w.heap.size + 2]) (hf.mono (by intro k hk _; simp at hk; simp [hk])) (fun k hk _ => hk))
  have HQ := Lib.hid (HQ.out.keep (S' := [w.heap.size, w.heap.size + 1, w.heap.size + 2]) (hf.mono (by intro k hk _; simp at hk; simp [hk])) (fun k hk _ => hk))
  have HY := Lib.hid (HY.out.keep (S' := [w.heap.size, w.heap.size + 1, w.heap.size + 2]) (hf.mono (by intro k hk _; simp at hk; simp [hk])) (fun k hk _ => hk))
  clear hb hf
  simp only [Act.put, List.setIfInBounds_toArray, List.set_cons_zero, List.set_cons_succ]
  refine till_step (i := 8) rfl (by kernel_rfl) (by kernel_rfl) (by rfl) (fun K hK => ?_)
  refine wp_store_blk _ _ _ rfl (w.heap.size + 2) y.cells.toArray rfl rfl 39 BL.toArray HB2.out (by rw [List.size_toArray, HYL.out]; kernel_rfl) (by rw [List.size_toArray, List.size_toArray, HBL.out, HYL.out]) HYO.out (fun w6 hb hf => ?_)
  refine hK.out _ _ (hA.trans hf (fun x hx _ => by rw [List.mem_singleton.1 hx]; simp)) (fun hA => ?_)
  clear hK K
  have HB0 := Lib.hid (HB0.out.keep hf (by simp))
  have HB1 := Lib.hid (HB1.out.keep hf (by simp))
  have HB3 := Lib.hid (HB3.out.keep hf (by simp))
  have HB2 := Lib.hid hb
  have HC := Lib.hid (HC.out.keep (S' := [w.heap.size, w.heap.size + 1, w.heap.size + 2]) (hf.mono (by intro k hk _; simp at hk; simp [hk])) (fun k hk _ => hk))
  have HQ := Lib.hid (HQ.out.keep (S' := [w.heap.size, w.heap.size + 1, w.heap.size + 2]) (hf.mono (by intro k hk _; simp at hk; simp [hk])) (fun k hk _ => hk))
  have HY := Lib.hid (HY.out.keep (S' := [w.heap.size, w.heap.size + 1, w.heap.size + 2]) (hf.mono (by intro k hk _; simp at hk; simp [hk])) (fun k hk _ => hk))
  clear hb hf
  simp only [Act.put, List.setIfInBounds_toArray, List.set_cons_zero, List.set_cons_succ]
  refine till_done (by kernel_rfl) ?_ _
  have HFA : Hid (Fr [] w w6) := Lib.hid (HF0.out.and hA (by intro x hx; simp at hx; omega))
  have HKC : Hid (KW w6) := Lib.hid (HK.out.keep hA (by first | (simp; done) | (have := HKLT.out; simp; omega)))
  have HC : Hid (c.Ok w6 []) := Lib.hid (HC.out.keep (Fr.refl _ _) (by simp))
  have HQ : Hid (q.Ok w6 []) := Lib.hid (HQ.out.keep (Fr.refl _ _) (by simp))
  have HY : Hid (y.Ok w6 []) := Lib.hid (HY.out.keep (Fr.refl _ _) (by simp))
  clear hA hB HK HF3 HWA HX HP HB HF0 HCO HQO HYO
  clear HKLT

  go_wp2_with fail
  refine (newWriter_any w6).mono ?_
  rintro e w7 ⟨rfl, hw, hf⟩
  have HGEg1 : Hid (w6.heap.size ≤ w6.heap.size ∧ w6.heap.size < w7.heap.size) := Lib.hid ⟨Nat.le_refl _, hw.lt _ (by simp)⟩
  have HF6 : Hid (Fr [] w6 w7) := Lib.hid (hf)
  obtain ⟨g1, hg⟩ : ∃ g1, g1 = w6.heap.size := ⟨_, rfl⟩
  rw [← hg] at hw ⊢
  have HWg1 : Hid (Wr w7 [g1] g1 []) := Lib.hid hw
  have HEg1 := Lib.hid hg
  clear hw hf hg
  go_wp2_with fail
  refine (newWriter_any w7).mono ?_
  rintro e w8 ⟨rfl, hw, hf⟩
  have HGEg2 : Hid (w6.heap.size ≤ w7.heap.size ∧ w7.heap.size < w8.heap.size) := Lib.hid ⟨HF6.out.size, hw.lt _ (by simp)⟩
  have HF7 : Hid (Fr [] w6 w8) := Lib.hid (HF6.out.and hf (by simp))
  have HWg1 := Lib.hid (HWg1.out.keep hf (by simp))
  generalize hg : w7.heap.size = g2 at *
  have HWg2 : Hid (Wr w8 [g2] g2 []) := Lib.hid hw
  have HEg2 := Lib.hid hg
  clear hw hf hg
  go_wp2_with fail
  refine (newWriter_any w8).mono ?_
  rintro e w9 ⟨rfl, hw, hf⟩
  have HGEg3 : Hid (w6.heap.size ≤ w8.heap.size ∧ w8.heap.size < w9.heap.size) := Lib.hid ⟨HF7.out.size, hw.lt _ (by simp)⟩
  have HF8 : Hid (Fr [] w6 w9) := Lib.hid (HF7.out.and hf (by simp))
  have HWg1 := Lib.hid (HWg1.out.keep hf (by simp))
  have HWg2 := Lib.hid (HWg2.out.keep hf (by simp))
  generalize hg : w8.heap.size = g3 at *
  have HWg3 : Hid (Wr w9 [g3] g3 []) := Lib.hid hw
  have HEg3 := Lib.hid hg
  clear hw hf hg
  have HO : Hid (w6.heap.size ≤ g1 ∧ g1 < g2 ∧ g2 < g3 ∧ g3 < w9.heap.size) := Lib.hid (by
    have a1 := HGEg1.out
    have a2 := HGEg2.out
    have a3 := HGEg3.out
    have e1 := HEg1.out
    omega)
  clear HGEg1 HGEg2 HGEg3 HEg1 HEg2 HEg3 HF6 HF7
  have HS0 : Hid (∀ k ∈ [g1, g2, g3], k < w6.heap.size → k ∈ ([] : List Nat)) := Lib.hid (by intro k hk hl; have := HO.out; simp at hk; omega)
  go_wp2_with (refine wpList_row rfl 59 _ rfl _ _ rfl _ (HB0.out.keep HF8.out (by simp)).range (row_crt.of HCL.out) ?_)
  refine (wPutCert_any c _ rfl HCL.out w9 [g1] g1 HWg1.out (HC.out.keep HF8.out (by intro k hk hl; exact HS0.out k (by simp at hk; simp [hk]) hl))).mono ?_
  rintro e w10 ⟨rfl, S1, hw, hf, hs⟩
  have HF9 : Hid (Fr [] w6 w10) := Lib.hid (HF8.out.and hf (by intro x hx; have := HO.out; simp at hx; omega))
  have HXg1 : Hid (∀ k ∈ S1, k = g1 ∨ w9.heap.size ≤ k) := Lib.hid (fun k hk => (Nat.lt_or_ge k w9.heap.size).elim (fun hl => .inl (by simpa using hs k hk hl)) (fun hl => .inr hl))
  have HWg2 := Lib.hid (HWg2.out.keep hf (by intro k hk hin; have := HO.out; simp at hk hin; omega))
  have HWg3 := Lib.hid (HWg3.out.keep hf (by intro k hk hin; have := HO.out; simp at hk hin; omega))
  have HSZg1 : Hid (g3 < w9.heap.size) := Lib.hid (by have := HO.out; have h2 := Nat.le_refl w9.heap.size; omega)
  have HSP1 : Hid (w9.heap.size ≤ w10.heap.size) := Lib.hid hf.size
  have HWg1 : Hid (Wr w10 S1 g1 c.full) := Lib.hid hw
  clear hw hf hs
  go_wp2_with (refine wpList_row rfl 62 _ rfl _ _ rfl _ (HB1.out.keep HF9.out (by simp)).range (row_prm.of HQL.out) ?_)
  refine (wPutPromise_any q _ rfl HQL.out w10 [g2] g2 HWg2.out (HQ.out.keep HF9.out (by intro k hk hl; exact HS0.out k (by simp at hk; simp [hk]) hl))).mono ?_
  rintro e w11 ⟨rfl, S2, hw, hf, hs⟩
  have HF10 : Hid (Fr [] w6 w11) := Lib.hid (HF9.out.and hf (by intro x hx; have := HO.out; simp at hx; omega))
  have HXg2 : Hid (∀ k ∈ S2, k = g2 ∨ w10.heap.size ≤ k) := Lib.hid (fun k hk => (Nat.lt_or_ge k w10.heap.size).elim (fun hl => .inl (by simpa using hs k hk hl)) (fun hl => .inr hl))
  have HWg1 := Lib.hid (HWg1.out.keep hf (by intro k hk hin; have := HO.out; have h1 := HXg1.out k hk; have h2 := HSZg1.out; simp at hin; omega))
  have HWg3 := Lib.hid (HWg3.out.keep hf (by intro k hk hin; have := HO.out; simp at hk hin; omega))
  have HSZg2 : Hid (g3 < w10.heap.size) := Lib.hid (by have h2 := HSZg1.out; have h3 := HSP1.out; omega)
  have HSP2 : Hid (w10.heap.size ≤ w11.heap.size) := Lib.hid hf.size
  have HWg2 : Hid (Wr w11 S2 g2 q.full) := Lib.hid hw
  clear hw hf hs
  go_wp2_with (refine wpList_row rfl 39 _ rfl _ _ rfl _ (HB2.out.keep HF10.out (by simp)).range (row_bat.of HYL.out) ?_)
  refine (wPutBatch_any y _ rfl HYL.out w11 [g3] g3 HWg3.out (HY.out.keep HF10.out (by intro k hk hl; exact HS0.out k (by simp at hk; simp [hk]) hl))).mono ?_
  rintro e w12 ⟨rfl, S3, hw, hf, hs⟩
  have HF11 : Hid (Fr [] w6 w12) := Lib.hid (HF10.out.and hf (by intro x hx; have := HO.out; simp at hx; omega))
  have HXg3 : Hid (∀ k ∈ S3, k = g3 ∨ w11.heap.size ≤ k) := Lib.hid (fun k hk => (Nat.lt_or_ge k w11.heap.size).elim (fun hl => .inl (by simpa using hs k hk hl)) (fun hl => .inr hl))
  have HWg1 := Lib.hid (HWg1.out.keep hf (by intro k hk hin; have := HO.out; have h1 := HXg1.out k hk; have h2 := HSZg1.out; simp at hin; omega))
  have HWg2 := Lib.hid (HWg2.out.keep hf (by intro k hk hin; have := HO.out; have h1 := HXg2.out k hk; have h2 := HSZg2.out; simp at hin; omega))
  have HSZg3 : Hid (g3 < w11.heap.size) := Lib.hid (by have h2 := HSZg2.out; have h3 := HSP2.out; omega)
  have HSP3 : Hid (w11.heap.size ≤ w12.heap.size) := Lib.hid hf.size
  have HWg3 : Hid (Wr w12 S3 g3 y.full) := Lib.hid hw
  clear hw hf hs
  go_upto_region 8 with (fail)
  have HB0 := Lib.hid (HB0.out.keep HF11.out (by simp))
  have HB1 := Lib.hid (HB1.out.keep HF11.out (by simp))
  have HB2 := Lib.hid (HB2.out.keep HF11.out (by simp))
  have HB3 := Lib.hid (HB3.out.keep HF11.out (by simp))
  have HC := Lib.hid (HC.out.keep (S' := []) HF11.out (by simp))
  have HQ := Lib.hid (HQ.out.keep (S' := []) HF11.out (by simp))
  have HY := Lib.hid (HY.out.keep (S' := []) HF11.out (by simp))
  have HKC : Hid (KW w12) := Lib.hid (HKC.out.keep HF11.out (by simp))
  have HFA : Hid (Fr [] w w12) := Lib.hid (HFA.out.and HF11.out (by simp))
  clear HF8 HF9 HF10 HF11 HO HS0 HXg1 HXg2 HXg3 HSZg1 HSZg2 HSZg3 HSP1 HSP2 HSP3
  have HCF : Hid (w12.cell? ⟨w.heap.size + 3, 0, none⟩ = some (.int .i64 f)) := Lib.hid (HB3.out.cell 0)
  go_cut [65] (fun s65 wx => s65 = .bool false ∧ Fr [] w12 wx)
  case first =>
    by_cases h1 : 0 ≤ f
    · by_cases h2 : f < 1099511627776
      · have e1 : IntKind.i64.wrap (3 * f) = 3 * f := IntWalk.i64_in _ (by omega)
        have e2 : IntKind.i64.wrap (3 * f + 1) = 3 * f + 1 := IntWalk.i64_in _ (by omega)
        have e3 : IntKind.i64.wrap (2 * f) = 2 * f := IntWalk.i64_in _ (by omega)
        have e4 : IntKind.i64.wrap (2 * f + 1) = 2 * f + 1 := IntWalk.i64_in _ (by omega)
        refine wp_region_held_drew (S := Fr [] w12) (by kernel_rfl) (Fr.drew (Fr.refl _ w12)) (fun hHeld => ?_)
        refine run_at (i := 0) (v := ?_) rfl (by kernel_rfl) (by rfl) (fun _ _ _ h => h) hHeld (fun w1 hw1 => ?_) ?_
        rotate_left 1
        · skip
          go_simp
          (try (first | with_reducible rfl | (apply And.intro <;> rfl)))
        simp only [Act.put, List.setIfInBounds_toArray, List.set_cons_zero, List.set_cons_succ]
        refine run_at (i := 1) (v := ?_) rfl (by kernel_rfl) (by rfl) (fun _ _ _ h => h) hHeld (fun w1 hw1 => ?_) ?_
        rotate_left 1
        · skip
          have hcw0 := hw1.cell (HCF.out) (by first | (simp; done) | exact HNS.out | exact HNW.out | (intro hm; have hlt := HSB.out _ hm; (try dsimp only at hlt); omega))
          go_simp
          (try (first | with_reducible rfl | (apply And.intro <;> rfl)))
        simp only [Act.put, List.setIfInBounds_toArray, List.set_cons_zero, List.set_cons_succ]
        refine run_at (i := 2) (v := ?_) rfl (by kernel_rfl) (by rfl) (fun _ _ _ h => h) hHeld (fun w1 hw1 => ?_) ?_
        rotate_left 1
        · skip
          go_simp
          (try (first | with_reducible rfl | (apply And.intro <;> rfl)))
        simp only [Act.put, List.setIfInBounds_toArray, List.set_cons_zero, List.set_cons_succ]
        refine run_at (i := 3) (v := ?_) rfl (by kernel_rfl) (by rfl) (fun _ _ _ h => h) hHeld (fun w1 hw1 => ?_) ?_
        rotate_left 1
        · skip
          go_simp
          (try (first | with_reducible rfl | (apply And.intro <;> rfl)))
        simp only [Act.put, List.setIfInBounds_toArray, List.set_cons_zero, List.set_cons_succ]
        refine run_at (i := 4) (v := ?_) rfl (by kernel_rfl) (by rfl) (fun _ _ _ h => h) hHeld (fun w1 hw1 => ?_) ?_
        rotate_left 1
        · skip
          go_simp
          (try (first | with_reducible rfl | (apply And.intro <;> rfl)))
        simp only [Act.put, List.setIfInBounds_toArray, List.set_cons_zero, List.set_cons_succ]
        refine run_at (i := 5) (v := ?_) rfl (by kernel_rfl) (by rfl) (fun _ _ _ h => h) hHeld (fun w1 hw1 => ?_) ?_
        rotate_left 1
        · skip
          have hcw0 := hw1.cell (HCF.out) (by first | (simp; done) | exact HNS.out | exact HNW.out | (intro hm; have hlt := HSB.out _ hm; (try dsimp only at hlt); omega))
          go_simp
          (try (first | with_reducible rfl | (apply And.intro <;> rfl)))
        simp only [Act.put, List.setIfInBounds_toArray, List.set_cons_zero, List.set_cons_succ]
        refine run_at (i := 6) (v := ?_) rfl (by kernel_rfl) (by rfl) (fun _ _ _ h => h) hHeld (fun w1 hw1 => ?_) ?_
        rotate_left 1
        · skip
          go_simp
          (try (first | with_reducible rfl | (apply And.intro <;> rfl)))
        simp only [Act.put, List.setIfInBounds_toArray, List.set_cons_zero, List.set_cons_succ]
        refine run_at (i := 7) (v := ?_) rfl (by kernel_rfl) (by rfl) (fun _ _ _ h => h) hHeld (fun w1 hw1 => ?_) ?_
        rotate_left 1
        · skip
          go_simp
          (try (first | with_reducible rfl | (apply And.intro <;> rfl)))
        simp only [Act.put, List.setIfInBounds_toArray, List.set_cons_zero, List.set_cons_succ]
        refine run_at (i := 8) (v := ?_) rfl (by kernel_rfl) (by rfl) (fun _ _ _ h => h) hHeld (fun w1 hw1 => ?_) ?_
        rotate_left 1
        · skip
          go_simp
          (try (first | with_reducible rfl | (apply And.intro <;> rfl)))
        simp only [Act.put, List.setIfInBounds_toArray, List.set_cons_zero, List.set_cons_succ]
        refine row_at (i := 9) rfl (by kernel_rfl) (by rfl) _ _ rfl _ _ rfl _ (fun w1 hw1 => hw1.range (HB3.out.range) (by first | (simp; done) | exact HNS.out | exact HNW.out | (intro hm; have hlt := HSB.out _ hm; (try dsimp only at hlt); omega))) (row_conf) (fun _ _ _ h => h) hHeld ?_
        simp only [Act.put, List.setIfInBounds_toArray, List.set_cons_zero, List.set_cons_succ]
        refine run_at (i := 11) (v := ?_) rfl (by kernel_rfl) (by rfl) (fun _ _ _ h => h) hHeld (fun w1 hw1 => ?_) ?_
        rotate_left 1
        · skip
          go_simp
          (try (first | with_reducible rfl | (apply And.intro <;> rfl)))
        simp only [Act.put, List.setIfInBounds_toArray, List.set_cons_zero, List.set_cons_succ]
        refine run_at (i := 12) (v := ?_) rfl (by kernel_rfl) (by rfl) (fun _ _ _ h => h) hHeld (fun w1 hw1 => ?_) ?_
        rotate_left 1
        · skip
          have hcw0 := hw1.cell (HCF.out) (by first | (simp; done) | exact HNS.out | exact HNW.out | (intro hm; have hlt := HSB.out _ hm; (try dsimp only at hlt); omega))
          go_simp
          (try (first | with_reducible rfl | (apply And.intro <;> rfl)))
        simp only [Act.put, List.setIfInBounds_toArray, List.set_cons_zero, List.set_cons_succ]
        refine run_at (i := 13) (v := ?_) rfl (by kernel_rfl) (by rfl) (fun _ _ _ h => h) hHeld (fun w1 hw1 => ?_) ?_
        rotate_left 1
        · skip
          go_simp
          (try (first | with_reducible rfl | (apply And.intro <;> rfl)))
        simp only [Act.put, List.setIfInBounds_toArray, List.set_cons_zero, List.set_cons_succ]
        refine run_at (i := 14) (v := ?_) rfl (by kernel_rfl) (by rfl) (fun _ _ _ h => h) hHeld (fun w1 hw1 => ?_) ?_
        rotate_left 1
        · skip
          go_simp
          (try (first | with_reducible rfl | (apply And.intro <;> rfl)))
        simp only [Act.put, List.setIfInBounds_toArray, List.set_cons_zero, List.set_cons_succ]
        refine call_at (i := 10) (f := ?_) (args := ?_) rfl (by kernel_rfl) (by rfl) ?_ ?_
        rotate_left 2
        · go_simp
          (try (first | with_reducible rfl | (apply And.intro <;> rfl)))
        refine (wireN2_any f k ⟨h1, h2⟩ _).mono ?_
        rintro e_ wn ⟨rfl, hfn⟩
        refine ⟨_, rfl, hHeld.and hfn (by simp), fun hHeld => ?_⟩
        simp only [Act.put, List.setIfInBounds_toArray, List.set_cons_zero, List.set_cons_succ]
        refine run_at (i := 15) (v := ?_) rfl (by kernel_rfl) (by rfl) (fun _ _ _ h => h) hHeld (fun w1 hw1 => ?_) ?_
        rotate_left 1
        · skip
          go_simp
          (try (first | with_reducible rfl | (apply And.intro <;> rfl)))
        simp only [Act.put, List.setIfInBounds_toArray, List.set_cons_zero, List.set_cons_succ]
        refine run_at (i := 16) (v := ?_) rfl (by kernel_rfl) (by rfl) (fun _ _ _ h => h) hHeld (fun w1 hw1 => ?_) ?_
        rotate_left 1
        · skip
          go_simp
          (try (first | with_reducible rfl | (apply And.intro <;> rfl)))
        simp only [Act.put, List.setIfInBounds_toArray, List.set_cons_zero, List.set_cons_succ]
        refine row_at (i := 17) rfl (by kernel_rfl) (by rfl) _ _ rfl _ _ rfl _ (fun w1 hw1 => hw1.range (HB3.out.range) (by first | (simp; done) | exact HNS.out | exact HNW.out | (intro hm; have hlt := HSB.out _ hm; (try dsimp only at hlt); omega))) (row_conf) (fun _ _ _ h => h) hHeld ?_
        simp only [Act.put, List.setIfInBounds_toArray, List.set_cons_zero, List.set_cons_succ]
        refine run_at (i := 19) (v := ?_) rfl (by kernel_rfl) (by rfl) (fun _ _ _ h => h) hHeld (fun w1 hw1 => ?_) ?_
        rotate_left 1
        · skip
          go_simp
          (try (first | with_reducible rfl | (apply And.intro <;> rfl)))
        simp only [Act.put, List.setIfInBounds_toArray, List.set_cons_zero, List.set_cons_succ]
        refine run_at (i := 20) (v := ?_) rfl (by kernel_rfl) (by rfl) (fun _ _ _ h => h) hHeld (fun w1 hw1 => ?_) ?_
        rotate_left 1
        · skip
          have hcw0 := hw1.cell (HCF.out) (by first | (simp; done) | exact HNS.out | exact HNW.out | (intro hm; have hlt := HSB.out _ hm; (try dsimp only at hlt); omega))
          go_simp
          (try (first | with_reducible rfl | (apply And.intro <;> rfl)))
        simp only [Act.put, List.setIfInBounds_toArray, List.set_cons_zero, List.set_cons_succ]
        refine run_at (i := 21) (v := ?_) rfl (by kernel_rfl) (by rfl) (fun _ _ _ h => h) hHeld (fun w1 hw1 => ?_) ?_
        rotate_left 1
        · skip
          go_simp
          (try (first | with_reducible rfl | (apply And.intro <;> rfl)))
        simp only [Act.put, List.setIfInBounds_toArray, List.set_cons_zero, List.set_cons_succ]
        refine run_at (i := 22) (v := ?_) rfl (by kernel_rfl) (by rfl) (fun _ _ _ h => h) hHeld (fun w1 hw1 => ?_) ?_
        rotate_left 1
        · skip
          go_simp
          (try (first | with_reducible rfl | (apply And.intro <;> rfl)))
        simp only [Act.put, List.setIfInBounds_toArray, List.set_cons_zero, List.set_cons_succ]
        refine call_at (i := 18) (f := ?_) (args := ?_) rfl (by kernel_rfl) (by rfl) ?_ ?_
        rotate_left 2
        · go_simp
          (try (first | with_reducible rfl | (apply And.intro <;> rfl)))
        refine (wireQ2_any f k ⟨h1, h2⟩ _).mono ?_
        rintro e_ wn2 ⟨rfl, hfn2⟩
        refine ⟨_, rfl, hHeld.and hfn2 (by simp), fun hHeld => ?_⟩
        simp only [Act.put, List.setIfInBounds_toArray, List.set_cons_zero, List.set_cons_succ]
        refine run_at (i := 23) (v := ?_) rfl (by kernel_rfl) (by rfl) (fun _ _ _ h => h) hHeld (fun w1 hw1 => ?_) ?_
        rotate_left 1
        · skip
          go_simp
          (try (first | with_reducible rfl | (apply And.intro <;> rfl)))
        simp only [Act.put, List.setIfInBounds_toArray, List.set_cons_zero, List.set_cons_succ]
        refine run_at (i := 24) (v := ?_) rfl (by kernel_rfl) (by rfl) (fun _ _ _ h => h) hHeld (fun w1 hw1 => ?_) ?_
        rotate_left 1
        · skip
          go_simp
          (try (first | with_reducible rfl | (apply And.intro <;> rfl)))
        simp only [Act.put, List.setIfInBounds_toArray, List.set_cons_zero, List.set_cons_succ]
        refine run_at (i := 25) (v := ?_) rfl (by kernel_rfl) (by rfl) (fun _ _ _ h => h) hHeld (fun w1 hw1 => ?_) ?_
        rotate_left 1
        · skip
          go_simp
          (try (first | with_reducible rfl | (apply And.intro <;> rfl)))
        simp only [Act.put, List.setIfInBounds_toArray, List.set_cons_zero, List.set_cons_succ]
        refine wpAnyH_done (by kernel_rfl) ?_ _
        go_wp2_with fail
        go_meet
        exact ⟨rfl, hHeld⟩
      · have h2' : 1099511627776 ≤ f := by omega
        refine wp_region_held_drew (S := Fr [] w12) (by kernel_rfl) (Fr.drew (Fr.refl _ w12)) (fun hHeld => ?_)
        refine run_at (i := 0) (v := ?_) rfl (by kernel_rfl) (by rfl) (fun _ _ _ h => h) hHeld (fun w1 hw1 => ?_) ?_
        rotate_left 1
        · skip
          go_simp
          (try (first | with_reducible rfl | (apply And.intro <;> rfl)))
        simp only [Act.put, List.setIfInBounds_toArray, List.set_cons_zero, List.set_cons_succ]
        refine run_at (i := 1) (v := ?_) rfl (by kernel_rfl) (by rfl) (fun _ _ _ h => h) hHeld (fun w1 hw1 => ?_) ?_
        rotate_left 1
        · skip
          have hcw0 := hw1.cell (HCF.out) (by first | (simp; done) | exact HNS.out | exact HNW.out | (intro hm; have hlt := HSB.out _ hm; (try dsimp only at hlt); omega))
          go_simp
          (try (first | with_reducible rfl | (apply And.intro <;> rfl)))
        simp only [Act.put, List.setIfInBounds_toArray, List.set_cons_zero, List.set_cons_succ]
        refine run_at (i := 2) (v := ?_) rfl (by kernel_rfl) (by rfl) (fun _ _ _ h => h) hHeld (fun w1 hw1 => ?_) ?_
        rotate_left 1
        · skip
          go_simp
          (try (first | with_reducible rfl | (apply And.intro <;> rfl)))
        simp only [Act.put, List.setIfInBounds_toArray, List.set_cons_zero, List.set_cons_succ]
        refine run_at (i := 3) (v := ?_) rfl (by kernel_rfl) (by rfl) (fun _ _ _ h => h) hHeld (fun w1 hw1 => ?_) ?_
        rotate_left 1
        · skip
          go_simp
          (try (first | with_reducible rfl | (apply And.intro <;> rfl)))
        simp only [Act.put, List.setIfInBounds_toArray, List.set_cons_zero, List.set_cons_succ]
        refine run_at (i := 4) (v := ?_) rfl (by kernel_rfl) (by rfl) (fun _ _ _ h => h) hHeld (fun w1 hw1 => ?_) ?_
        rotate_left 1
        · skip
          go_simp
          (try (first | with_reducible rfl | (apply And.intro <;> rfl)))
        simp only [Act.put, List.setIfInBounds_toArray, List.set_cons_zero, List.set_cons_succ]
        refine run_at (i := 5) (v := ?_) rfl (by kernel_rfl) (by rfl) (fun _ _ _ h => h) hHeld (fun w1 hw1 => ?_) ?_
        rotate_left 1
        · skip
          have hcw0 := hw1.cell (HCF.out) (by first | (simp; done) | exact HNS.out | exact HNW.out | (intro hm; have hlt := HSB.out _ hm; (try dsimp only at hlt); omega))
          go_simp
          (try (first | with_reducible rfl | (apply And.intro <;> rfl)))
        simp only [Act.put, List.setIfInBounds_toArray, List.set_cons_zero, List.set_cons_succ]
        refine run_at (i := 6) (v := ?_) rfl (by kernel_rfl) (by rfl) (fun _ _ _ h => h) hHeld (fun w1 hw1 => ?_) ?_
        rotate_left 1
        · skip
          go_simp
          (try (first | with_reducible rfl | (apply And.intro <;> rfl)))
        simp only [Act.put, List.setIfInBounds_toArray, List.set_cons_zero, List.set_cons_succ]
        refine run_at (i := 7) (v := ?_) rfl (by kernel_rfl) (by rfl) (fun _ _ _ h => h) hHeld (fun w1 hw1 => ?_) ?_
        rotate_left 1
        · skip
          go_simp
          (try (first | with_reducible rfl | (apply And.intro <;> rfl)))
        simp only [Act.put, List.setIfInBounds_toArray, List.set_cons_zero, List.set_cons_succ]
        refine run_at (i := 8) (v := ?_) rfl (by kernel_rfl) (by rfl) (fun _ _ _ h => h) hHeld (fun w1 hw1 => ?_) ?_
        rotate_left 1
        · skip
          go_simp
          (try (first | with_reducible rfl | (apply And.intro <;> rfl)))
        simp only [Act.put, List.setIfInBounds_toArray, List.set_cons_zero, List.set_cons_succ]
        refine skip_at (i := 9) rfl (by kernel_rfl) (fun _ _ _ h => h) (by rfl) hHeld ?_
        simp only [Act.put, List.setIfInBounds_toArray, List.set_cons_zero, List.set_cons_succ]
        refine skip_at (i := 10) rfl (by kernel_rfl) (fun _ _ _ h => h) (by rfl) hHeld ?_
        simp only [Act.put, List.setIfInBounds_toArray, List.set_cons_zero, List.set_cons_succ]
        refine skip_at (i := 11) rfl (by kernel_rfl) (fun _ _ _ h => h) (by rfl) hHeld ?_
        simp only [Act.put, List.setIfInBounds_toArray, List.set_cons_zero, List.set_cons_succ]
        refine skip_at (i := 12) rfl (by kernel_rfl) (fun _ _ _ h => h) (by rfl) hHeld ?_
        simp only [Act.put, List.setIfInBounds_toArray, List.set_cons_zero, List.set_cons_succ]
        refine skip_at (i := 13) rfl (by kernel_rfl) (fun _ _ _ h => h) (by rfl) hHeld ?_
        simp only [Act.put, List.setIfInBounds_toArray, List.set_cons_zero, List.set_cons_succ]
        refine skip_at (i := 14) rfl (by kernel_rfl) (fun _ _ _ h => h) (by rfl) hHeld ?_
        simp only [Act.put, List.setIfInBounds_toArray, List.set_cons_zero, List.set_cons_succ]
        refine skip_at (i := 15) rfl (by kernel_rfl) (fun _ _ _ h => h) (by rfl) hHeld ?_
        simp only [Act.put, List.setIfInBounds_toArray, List.set_cons_zero, List.set_cons_succ]
        refine skip_at (i := 16) rfl (by kernel_rfl) (fun _ _ _ h => h) (by rfl) hHeld ?_
        simp only [Act.put, List.setIfInBounds_toArray, List.set_cons_zero, List.set_cons_succ]
        refine skip_at (i := 17) rfl (by kernel_rfl) (fun _ _ _ h => h) (by rfl) hHeld ?_
        simp only [Act.put, List.setIfInBounds_toArray, List.set_cons_zero, List.set_cons_succ]
        refine skip_at (i := 18) rfl (by kernel_rfl) (fun _ _ _ h => h) (by rfl) hHeld ?_
        simp only [Act.put, List.setIfInBounds_toArray, List.set_cons_zero, List.set_cons_succ]
        refine skip_at (i := 19) rfl (by kernel_rfl) (fun _ _ _ h => h) (by rfl) hHeld ?_
        simp only [Act.put, List.setIfInBounds_toArray, List.set_cons_zero, List.set_cons_succ]
        refine skip_at (i := 20) rfl (by kernel_rfl) (fun _ _ _ h => h) (by rfl) hHeld ?_
        simp only [Act.put, List.setIfInBounds_toArray, List.set_cons_zero, List.set_cons_succ]
        refine skip_at (i := 21) rfl (by kernel_rfl) (fun _ _ _ h => h) (by rfl) hHeld ?_
        simp only [Act.put, List.setIfInBounds_toArray, List.set_cons_zero, List.set_cons_succ]
        refine skip_at (i := 22) rfl (by kernel_rfl) (fun _ _ _ h => h) (by rfl) hHeld ?_
        simp only [Act.put, List.setIfInBounds_toArray, List.set_cons_zero, List.set_cons_succ]
        refine skip_at (i := 23) rfl (by kernel_rfl) (fun _ _ _ h => h) (by rfl) hHeld ?_
        simp only [Act.put, List.setIfInBounds_toArray, List.set_cons_zero, List.set_cons_succ]
        refine skip_at (i := 24) rfl (by kernel_rfl) (fun _ _ _ h => h) (by rfl) hHeld ?_
        simp only [Act.put, List.setIfInBounds_toArray, List.set_cons_zero, List.set_cons_succ]
        refine run_at (i := 25) (v := ?_) rfl (by kernel_rfl) (by rfl) (fun _ _ _ h => h) hHeld (fun w1 hw1 => ?_) ?_
        rotate_left 1
        · skip
          go_simp
          (try (first | with_reducible rfl | (apply And.intro <;> rfl)))
        simp only [Act.put, List.setIfInBounds_toArray, List.set_cons_zero, List.set_cons_succ]
        refine wpAnyH_done (by kernel_rfl) ?_ _
        go_wp2_with fail
        go_meet
        exact ⟨rfl, hHeld⟩
    · have h1' : f < 0 := by omega
      refine wp_region_held_drew (S := Fr [] w12) (by kernel_rfl) (Fr.drew (Fr.refl _ w12)) (fun hHeld => ?_)
      refine run_at (i := 0) (v := ?_) rfl (by kernel_rfl) (by rfl) (fun _ _ _ h => h) hHeld (fun w1 hw1 => ?_) ?_
      rotate_left 1
      · skip
        go_simp
        (try (first | with_reducible rfl | (apply And.intro <;> rfl)))
      simp only [Act.put, List.setIfInBounds_toArray, List.set_cons_zero, List.set_cons_succ]
      refine run_at (i := 1) (v := ?_) rfl (by kernel_rfl) (by rfl) (fun _ _ _ h => h) hHeld (fun w1 hw1 => ?_) ?_
      rotate_left 1
      · skip
        have hcw0 := hw1.cell (HCF.out) (by first | (simp; done) | exact HNS.out | exact HNW.out | (intro hm; have hlt := HSB.out _ hm; (try dsimp only at hlt); omega))
        go_simp
        (try (first | with_reducible rfl | (apply And.intro <;> rfl)))
      simp only [Act.put, List.setIfInBounds_toArray, List.set_cons_zero, List.set_cons_succ]
      refine run_at (i := 2) (v := ?_) rfl (by kernel_rfl) (by rfl) (fun _ _ _ h => h) hHeld (fun w1 hw1 => ?_) ?_
      rotate_left 1
      · skip
        go_simp
        (try (first | with_reducible rfl | (apply And.intro <;> rfl)))
      simp only [Act.put, List.setIfInBounds_toArray, List.set_cons_zero, List.set_cons_succ]
      refine run_at (i := 3) (v := ?_) rfl (by kernel_rfl) (by rfl) (fun _ _ _ h => h) hHeld (fun w1 hw1 => ?_) ?_
      rotate_left 1
      · skip
        go_simp
        (try (first | with_reducible rfl | (apply And.intro <;> rfl)))
      simp only [Act.put, List.setIfInBounds_toArray, List.set_cons_zero, List.set_cons_succ]
      refine skip_at (i := 4) rfl (by kernel_rfl) (fun _ _ _ h => h) (by rfl) hHeld ?_
      simp only [Act.put, List.setIfInBounds_toArray, List.set_cons_zero, List.set_cons_succ]
      refine skip_at (i := 5) rfl (by kernel_rfl) (fun _ _ _ h => h) (by rfl) hHeld ?_
      simp only [Act.put, List.setIfInBounds_toArray, List.set_cons_zero, List.set_cons_succ]
      refine skip_at (i := 6) rfl (by kernel_rfl) (fun _ _ _ h => h) (by rfl) hHeld ?_
      simp only [Act.put, List.setIfInBounds_toArray, List.set_cons_zero, List.set_cons_succ]
      refine run_at (i := 7) (v := ?_) rfl (by kernel_rfl) (by rfl) (fun _ _ _ h => h) hHeld (fun w1 hw1 => ?_) ?_
      rotate_left 1
      · skip
        go_simp
        (try (first | with_reducible rfl | (apply And.intro <;> rfl)))
      simp only [Act.put, List.setIfInBounds_toArray, List.set_cons_zero, List.set_cons_succ]
      refine run_at (i := 8) (v := ?_) rfl (by kernel_rfl) (by rfl) (fun _ _ _ h => h) hHeld (fun w1 hw1 => ?_) ?_
      rotate_left 1
      · skip
        go_simp
        (try (first | with_reducible rfl | (apply And.intro <;> rfl)))
      simp only [Act.put, List.setIfInBounds_toArray, List.set_cons_zero, List.set_cons_succ]
      refine skip_at (i := 9) rfl (by kernel_rfl) (fun _ _ _ h => h) (by rfl) hHeld ?_
      simp only [Act.put, List.setIfInBounds_toArray, List.set_cons_zero, List.set_cons_succ]
      refine skip_at (i := 10) rfl (by kernel_rfl) (fun _ _ _ h => h) (by rfl) hHeld ?_
      simp only [Act.put, List.setIfInBounds_toArray, List.set_cons_zero, List.set_cons_succ]
      refine skip_at (i := 11) rfl (by kernel_rfl) (fun _ _ _ h => h) (by rfl) hHeld ?_
      simp only [Act.put, List.setIfInBounds_toArray, List.set_cons_zero, List.set_cons_succ]
      refine skip_at (i := 12) rfl (by kernel_rfl) (fun _ _ _ h => h) (by rfl) hHeld ?_
      simp only [Act.put, List.setIfInBounds_toArray, List.set_cons_zero, List.set_cons_succ]
      refine skip_at (i := 13) rfl (by kernel_rfl) (fun _ _ _ h => h) (by rfl) hHeld ?_
      simp only [Act.put, List.setIfInBounds_toArray, List.set_cons_zero, List.set_cons_succ]
      refine skip_at (i := 14) rfl (by kernel_rfl) (fun _ _ _ h => h) (by rfl) hHeld ?_
      simp only [Act.put, List.setIfInBounds_toArray, List.set_cons_zero, List.set_cons_succ]
      refine skip_at (i := 15) rfl (by kernel_rfl) (fun _ _ _ h => h) (by rfl) hHeld ?_
      simp only [Act.put, List.setIfInBounds_toArray, List.set_cons_zero, List.set_cons_succ]
      refine skip_at (i := 16) rfl (by kernel_rfl) (fun _ _ _ h => h) (by rfl) hHeld ?_
      simp only [Act.put, List.setIfInBounds_toArray, List.set_cons_zero, List.set_cons_succ]
      refine skip_at (i := 17) rfl (by kernel_rfl) (fun _ _ _ h => h) (by rfl) hHeld ?_
      simp only [Act.put, List.setIfInBounds_toArray, List.set_cons_zero, List.set_cons_succ]
      refine skip_at (i := 18) rfl (by kernel_rfl) (fun _ _ _ h => h) (by rfl) hHeld ?_
      simp only [Act.put, List.setIfInBounds_toArray, List.set_cons_zero, List.set_cons_succ]
      refine skip_at (i := 19) rfl (by kernel_rfl) (fun _ _ _ h => h) (by rfl) hHeld ?_
      simp only [Act.put, List.setIfInBounds_toArray, List.set_cons_zero, List.set_cons_succ]
      refine skip_at (i := 20) rfl (by kernel_rfl) (fun _ _ _ h => h) (by rfl) hHeld ?_
      simp only [Act.put, List.setIfInBounds_toArray, List.set_cons_zero, List.set_cons_succ]
      refine skip_at (i := 21) rfl (by kernel_rfl) (fun _ _ _ h => h) (by rfl) hHeld ?_
      simp only [Act.put, List.setIfInBounds_toArray, List.set_cons_zero, List.set_cons_succ]
      refine skip_at (i := 22) rfl (by kernel_rfl) (fun _ _ _ h => h) (by rfl) hHeld ?_
      simp only [Act.put, List.setIfInBounds_toArray, List.set_cons_zero, List.set_cons_succ]
      refine skip_at (i := 23) rfl (by kernel_rfl) (fun _ _ _ h => h) (by rfl) hHeld ?_
      simp only [Act.put, List.setIfInBounds_toArray, List.set_cons_zero, List.set_cons_succ]
      refine skip_at (i := 24) rfl (by kernel_rfl) (fun _ _ _ h => h) (by rfl) hHeld ?_
      simp only [Act.put, List.setIfInBounds_toArray, List.set_cons_zero, List.set_cons_succ]
      refine run_at (i := 25) (v := ?_) rfl (by kernel_rfl) (by rfl) (fun _ _ _ h => h) hHeld (fun w1 hw1 => ?_) ?_
      rotate_left 1
      · skip
        go_simp
        (try (first | with_reducible rfl | (apply And.intro <;> rfl)))
      simp only [Act.put, List.setIfInBounds_toArray, List.set_cons_zero, List.set_cons_succ]
      refine wpAnyH_done (by kernel_rfl) ?_ _
      go_wp2_with fail
      go_meet
      exact ⟨rfl, hHeld⟩
  case rest =>
    obtain ⟨rfl, hf⟩ := hcut
    have HB0 := Lib.hid (HB0.out.keep hf (by simp))
    have HB1 := Lib.hid (HB1.out.keep hf (by simp))
    have HB2 := Lib.hid (HB2.out.keep hf (by simp))
    have HB3 := Lib.hid (HB3.out.keep hf (by simp))
    have HC := Lib.hid (HC.out.keep (S' := []) hf (by simp))
    have HQ := Lib.hid (HQ.out.keep (S' := []) hf (by simp))
    have HY := Lib.hid (HY.out.keep (S' := []) hf (by simp))
    have HWg1 := Lib.hid (HWg1.out.keep hf (by simp))
    have HWg2 := Lib.hid (HWg2.out.keep hf (by simp))
    have HWg3 := Lib.hid (HWg3.out.keep hf (by simp))
    have HKC : Hid (KW wc) := Lib.hid (HKC.out.keep hf (by simp))
    have HFA : Hid (Fr [] w wc) := Lib.hid (HFA.out.and hf (by simp))
    clear hf HCF
    go_wp2_with fail
    refine wp_region_held_drew (S := Fr [] wc) (by kernel_rfl) (Fr.drew (Fr.refl _ wc)) (fun hHeld => ?_)
    generalize wc.drew = x0 at *
    refine run_at (i := 0) (v := ?_) rfl (by kernel_rfl) (by rfl) (fun _ _ _ h => h) hHeld (fun w1 hw1 => ?_) ?_
    rotate_left 1
    · skip
      go_simp
      (try (first | with_reducible rfl | (apply And.intro <;> rfl)))
    simp only [Act.put, List.setIfInBounds_toArray, List.set_cons_zero, List.set_cons_succ]
    refine row_at (i := 2) rfl (by kernel_rfl) (by rfl) _ _ rfl _ _ rfl _ (fun w1 hw1 => hw1.range (HB0.out.range) (by first | (simp; done) | exact HNS.out | exact HNW.out | (intro hm; have hlt := HSB.out _ hm; (try dsimp only at hlt); omega))) (row_crt.of HCL.out) (fun _ _ _ h => h) hHeld ?_
    simp only [Act.put, List.setIfInBounds_toArray, List.set_cons_zero, List.set_cons_succ]
    refine call_at (i := 1) (f := ?_) (args := ?_) rfl (by kernel_rfl) (by rfl) ?_ ?_
    rotate_left 2
    · go_simp
      (try (first | with_reducible rfl | (apply And.intro <;> rfl)))
    refine (bytes_any x0 S1 g1 c.full (HWg1.out.keep hHeld (by simp)) (by have := Wce.full_len HC.out; omega)).mono ?_
    rintro e_ x1 ⟨A0, c0, rfl, hn⟩
    have HY0 := Lib.hid hn.by
    refine ⟨_, rfl, hHeld.and hn.2.1 (by simp), fun hHeld => ?_⟩
    clear hn
    simp only [Act.put, List.setIfInBounds_toArray, List.set_cons_zero, List.set_cons_succ]
    refine call_at (i := 3) (f := ?_) (args := ?_) rfl (by kernel_rfl) (by rfl) ?_ ?_
    rotate_left 2
    · go_simp
      (try (first | with_reducible rfl | (apply And.intro <;> rfl)))
    refine (refputCert_any c x1 (HC.out.keep hHeld (by simp)) _ rfl).mono ?_
    rintro e_ x2 ⟨A1, c1, rfl, hn⟩
    have HY1 := Lib.hid hn.by
    have HY0 := Lib.hid (HY0.out.keep hn.2.1 (by simp))
    refine ⟨_, rfl, hHeld.and hn.2.1 (by simp), fun hHeld => ?_⟩
    clear hn
    simp only [Act.put, List.setIfInBounds_toArray, List.set_cons_zero, List.set_cons_succ]
    have hsm := same_any A0 A1 _ _ c0 c1 c.full c.full x2 HY0.out HY1.out (by have := Wce.full_len HC.out; omega)
    rw [show decide (c.full = c.full) = true from decide_eq_true rfl] at hsm
    refine call_at (i := 4) (f := ?_) (args := ?_) rfl (by kernel_rfl) (by rfl) ?_ ?_
    rotate_left 2
    · go_simp
      (try (first | with_reducible rfl | (apply And.intro <;> rfl)))
    refine hsm.mono ?_
    rintro e_ x3 ⟨rfl, kk, hx⟩
    have hHeld' := hHeld.drewN kk
    rw [← hx] at hHeld'
    clear hsm hx HY0 HY1
    refine ⟨_, rfl, hHeld', fun hHeld => ?_⟩
    clear hHeld'
    simp only [Act.put, List.setIfInBounds_toArray, List.set_cons_zero, List.set_cons_succ]
    refine run_at (i := 5) (v := ?_) rfl (by kernel_rfl) (by rfl) (fun _ _ _ h => h) hHeld (fun w1 hw1 => ?_) ?_
    rotate_left 1
    · skip
      go_simp
      (try (first | with_reducible rfl | (apply And.intro <;> rfl)))
    simp only [Act.put, List.setIfInBounds_toArray, List.set_cons_zero, List.set_cons_succ]
    refine run_at (i := 6) (v := ?_) rfl (by kernel_rfl) (by rfl) (fun _ _ _ h => h) hHeld (fun w1 hw1 => ?_) ?_
    rotate_left 1
    · skip
      go_simp
      (try (first | with_reducible rfl | (apply And.intro <;> rfl)))
    simp only [Act.put, List.setIfInBounds_toArray, List.set_cons_zero, List.set_cons_succ]
    refine row_at (i := 8) rfl (by kernel_rfl) (by rfl) _ _ rfl _ _ rfl _ (fun w1 hw1 => hw1.range (HB1.out.range) (by first | (simp; done) | exact HNS.out | exact HNW.out | (intro hm; have hlt := HSB.out _ hm; (try dsimp only at hlt); omega))) (row_prm.of HQL.out) (fun _ _ _ h => h) hHeld ?_
    simp only [Act.put, List.setIfInBounds_toArray, List.set_cons_zero, List.set_cons_succ]
    refine call_at (i := 7) (f := ?_) (args := ?_) rfl (by kernel_rfl) (by rfl) ?_ ?_
    rotate_left 2
    · go_simp
      (try (first | with_reducible rfl | (apply And.intro <;> rfl)))
    refine (bytes_any x3 S2 g2 q.full (HWg2.out.keep hHeld (by simp)) (by have := Wpr.full_len HQ.out; omega)).mono ?_
    rintro e_ x4 ⟨A0, c0, rfl, hn⟩
    have HY0 := Lib.hid hn.by
    refine ⟨_, rfl, hHeld.and hn.2.1 (by simp), fun hHeld => ?_⟩
    clear hn
    simp only [Act.put, List.setIfInBounds_toArray, List.set_cons_zero, List.set_cons_succ]
    refine call_at (i := 9) (f := ?_) (args := ?_) rfl (by kernel_rfl) (by rfl) ?_ ?_
    rotate_left 2
    · go_simp
      (try (first | with_reducible rfl | (apply And.intro <;> rfl)))
    refine (refputPromise_any q x4 (HQ.out.keep hHeld (by simp)) _ rfl).mono ?_
    rintro e_ x5 ⟨A1, c1, rfl, hn⟩
    have HY1 := Lib.hid hn.by
    have HY0 := Lib.hid (HY0.out.keep hn.2.1 (by simp))
    refine ⟨_, rfl, hHeld.and hn.2.1 (by simp), fun hHeld => ?_⟩
    clear hn
    simp only [Act.put, List.setIfInBounds_toArray, List.set_cons_zero, List.set_cons_succ]
    have hsm := same_any A0 A1 _ _ c0 c1 q.full q.full x5 HY0.out HY1.out (by have := Wpr.full_len HQ.out; omega)
    rw [show decide (q.full = q.full) = true from decide_eq_true rfl] at hsm
    refine call_at (i := 10) (f := ?_) (args := ?_) rfl (by kernel_rfl) (by rfl) ?_ ?_
    rotate_left 2
    · go_simp
      (try (first | with_reducible rfl | (apply And.intro <;> rfl)))
    refine hsm.mono ?_
    rintro e_ x6 ⟨rfl, kk, hx⟩
    have hHeld' := hHeld.drewN kk
    rw [← hx] at hHeld'
    clear hsm hx HY0 HY1
    refine ⟨_, rfl, hHeld', fun hHeld => ?_⟩
    clear hHeld'
    simp only [Act.put, List.setIfInBounds_toArray, List.set_cons_zero, List.set_cons_succ]
    refine run_at (i := 11) (v := ?_) rfl (by kernel_rfl) (by rfl) (fun _ _ _ h => h) hHeld (fun w1 hw1 => ?_) ?_
    rotate_left 1
    · skip
      go_simp
      (try (first | with_reducible rfl | (apply And.intro <;> rfl)))
    simp only [Act.put, List.setIfInBounds_toArray, List.set_cons_zero, List.set_cons_succ]
    refine run_at (i := 12) (v := ?_) rfl (by kernel_rfl) (by rfl) (fun _ _ _ h => h) hHeld (fun w1 hw1 => ?_) ?_
    rotate_left 1
    · skip
      go_simp
      (try (first | with_reducible rfl | (apply And.intro <;> rfl)))
    simp only [Act.put, List.setIfInBounds_toArray, List.set_cons_zero, List.set_cons_succ]
    refine run_at (i := 13) (v := ?_) rfl (by kernel_rfl) (by rfl) (fun _ _ _ h => h) hHeld (fun w1 hw1 => ?_) ?_
    rotate_left 1
    · skip
      go_simp
      (try (first | with_reducible rfl | (apply And.intro <;> rfl)))
    simp only [Act.put, List.setIfInBounds_toArray, List.set_cons_zero, List.set_cons_succ]
    refine row_at (i := 15) rfl (by kernel_rfl) (by rfl) _ _ rfl _ _ rfl _ (fun w1 hw1 => hw1.range (HB2.out.range) (by first | (simp; done) | exact HNS.out | exact HNW.out | (intro hm; have hlt := HSB.out _ hm; (try dsimp only at hlt); omega))) (row_bat.of HYL.out) (fun _ _ _ h => h) hHeld ?_
    simp only [Act.put, List.setIfInBounds_toArray, List.set_cons_zero, List.set_cons_succ]
    refine call_at (i := 14) (f := ?_) (args := ?_) rfl (by kernel_rfl) (by rfl) ?_ ?_
    rotate_left 2
    · go_simp
      (try (first | with_reducible rfl | (apply And.intro <;> rfl)))
    refine (bytes_any x6 S3 g3 y.full (HWg3.out.keep hHeld (by simp)) (by have := Wba.full_len HY.out; omega)).mono ?_
    rintro e_ x7 ⟨A0, c0, rfl, hn⟩
    have HY0 := Lib.hid hn.by
    refine ⟨_, rfl, hHeld.and hn.2.1 (by simp), fun hHeld => ?_⟩
    clear hn
    simp only [Act.put, List.setIfInBounds_toArray, List.set_cons_zero, List.set_cons_succ]
    refine call_at (i := 16) (f := ?_) (args := ?_) rfl (by kernel_rfl) (by rfl) ?_ ?_
    rotate_left 2
    · go_simp
      (try (first | with_reducible rfl | (apply And.intro <;> rfl)))
    refine (refputBatch_any y x7 (HY.out.keep hHeld (by simp)) _ rfl).mono ?_
    rintro e_ x8 ⟨A1, c1, rfl, hn⟩
    have HY1 := Lib.hid hn.by
    have HY0 := Lib.hid (HY0.out.keep hn.2.1 (by simp))
    refine ⟨_, rfl, hHeld.and hn.2.1 (by simp), fun hHeld => ?_⟩
    clear hn
    simp only [Act.put, List.setIfInBounds_toArray, List.set_cons_zero, List.set_cons_succ]
    have hsm := same_any A0 A1 _ _ c0 c1 y.full y.full x8 HY0.out HY1.out (by have := Wba.full_len HY.out; omega)
    rw [show decide (y.full = y.full) = true from decide_eq_true rfl] at hsm
    refine call_at (i := 17) (f := ?_) (args := ?_) rfl (by kernel_rfl) (by rfl) ?_ ?_
    rotate_left 2
    · go_simp
      (try (first | with_reducible rfl | (apply And.intro <;> rfl)))
    refine hsm.mono ?_
    rintro e_ x9 ⟨rfl, kk, hx⟩
    have hHeld' := hHeld.drewN kk
    rw [← hx] at hHeld'
    clear hsm hx HY0 HY1
    refine ⟨_, rfl, hHeld', fun hHeld => ?_⟩
    clear hHeld'
    simp only [Act.put, List.setIfInBounds_toArray, List.set_cons_zero, List.set_cons_succ]
    refine run_at (i := 18) (v := ?_) rfl (by kernel_rfl) (by rfl) (fun _ _ _ h => h) hHeld (fun w1 hw1 => ?_) ?_
    rotate_left 1
    · skip
      go_simp
      (try (first | with_reducible rfl | (apply And.intro <;> rfl)))
    simp only [Act.put, List.setIfInBounds_toArray, List.set_cons_zero, List.set_cons_succ]
    refine run_at (i := 19) (v := ?_) rfl (by kernel_rfl) (by rfl) (fun _ _ _ h => h) hHeld (fun w1 hw1 => ?_) ?_
    rotate_left 1
    · skip
      go_simp
      (try (first | with_reducible rfl | (apply And.intro <;> rfl)))
    simp only [Act.put, List.setIfInBounds_toArray, List.set_cons_zero, List.set_cons_succ]
    refine row_at (i := 20) rfl (by kernel_rfl) (by rfl) _ _ rfl _ _ rfl _ (fun w1 hw1 => hw1.range (HB2.out.range) (by first | (simp; done) | exact HNS.out | exact HNW.out | (intro hm; have hlt := HSB.out _ hm; (try dsimp only at hlt); omega))) (row_bat.of HYL.out) (fun _ _ _ h => h) hHeld ?_
    simp only [Act.put, List.setIfInBounds_toArray, List.set_cons_zero, List.set_cons_succ]
    refine row_at (i := 22) rfl (by kernel_rfl) (by rfl) _ _ rfl _ _ rfl _ (fun w1 hw1 => hw1.range (HB2.out.range) (by first | (simp; done) | exact HNS.out | exact HNW.out | (intro hm; have hlt := HSB.out _ hm; (try dsimp only at hlt); omega))) (row_bat.of HYL.out) (fun _ _ _ h => h) hHeld ?_
    simp only [Act.put, List.setIfInBounds_toArray, List.set_cons_zero, List.set_cons_succ]
    have hb1 := batchHash_any y x9 (HY.out.keep hHeld (by simp)) (HKC.out.keep hHeld (by simp)) _ rfl
    have hsl : (sumL y.full).length = 32 := sumL_len _
    have HRH := Lib.hid (fun W h => refbatchHash_any y W h y.cells rfl)
    generalize sumL y.full = Y at *
    have HSL := Lib.hid hsl
    clear hsl
    refine call_at (i := 21) (f := ?_) (args := ?_) rfl (by kernel_rfl) (by rfl) ?_ ?_
    rotate_left 2
    · go_simp
      (try (first | with_reducible rfl | (apply And.intro <;> rfl)))
    refine hb1.mono ?_
    clear hb1
    rintro e_ x10 ⟨rfl, hfn⟩
    refine ⟨_, rfl, hHeld.and hfn (by simp), fun hHeld => ?_⟩
    clear hfn
    simp only [Act.put, List.setIfInBounds_toArray, List.set_cons_zero, List.set_cons_succ]
    refine call_at (i := 23) (f := ?_) (args := ?_) rfl (by kernel_rfl) (by rfl) ?_ ?_
    rotate_left 2
    · go_simp
      (try (first | with_reducible rfl | (apply And.intro <;> rfl)))
    refine (HRH.out x10 (HY.out.keep hHeld (by simp))).mono ?_
    rintro e_ x11 ⟨rfl, hfn⟩
    refine ⟨_, rfl, hHeld.and hfn (by simp), fun hHeld => ?_⟩
    clear hfn
    simp only [Act.put, List.setIfInBounds_toArray, List.set_cons_zero, List.set_cons_succ]
    refine eql_at (i := 24) rfl (by kernel_rfl) (by rfl) _ _ _ _ rfl _ _ rfl rfl _ (by kernel_rfl) (fun W => eql_self Y HSL.out W) (fun _ _ _ h => h) hHeld ?_
    simp only [Act.put, List.setIfInBounds_toArray, List.set_cons_zero, List.set_cons_succ]
    refine run_at (i := 25) (v := ?_) rfl (by kernel_rfl) (by rfl) (fun _ _ _ h => h) hHeld (fun w1 hw1 => ?_) ?_
    rotate_left 1
    · skip
      go_simp
      (try (first | with_reducible rfl | (apply And.intro <;> rfl)))
    simp only [Act.put, List.setIfInBounds_toArray, List.set_cons_zero, List.set_cons_succ]
    refine run_at (i := 26) (v := ?_) rfl (by kernel_rfl) (by rfl) (fun _ _ _ h => h) hHeld (fun w1 hw1 => ?_) ?_
    rotate_left 1
    · skip
      go_simp
      (try (first | with_reducible rfl | (apply And.intro <;> rfl)))
    simp only [Act.put, List.setIfInBounds_toArray, List.set_cons_zero, List.set_cons_succ]
    refine row_at (i := 27) rfl (by kernel_rfl) (by rfl) _ _ rfl _ _ rfl _ (fun w1 hw1 => hw1.range (HB3.out.range) (by first | (simp; done) | exact HNS.out | exact HNW.out | (intro hm; have hlt := HSB.out _ hm; (try dsimp only at hlt); omega))) (row_conf) (fun _ _ _ h => h) hHeld ?_
    simp only [Act.put, List.setIfInBounds_toArray, List.set_cons_zero, List.set_cons_succ]
    refine row_at (i := 29) rfl (by kernel_rfl) (by rfl) _ _ rfl _ _ rfl _ (fun w1 hw1 => hw1.range (HB3.out.range) (by first | (simp; done) | exact HNS.out | exact HNW.out | (intro hm; have hlt := HSB.out _ hm; (try dsimp only at hlt); omega))) (row_conf) (fun _ _ _ h => h) hHeld ?_
    simp only [Act.put, List.setIfInBounds_toArray, List.set_cons_zero, List.set_cons_succ]
    refine call_at (i := 28) (f := ?_) (args := ?_) rfl (by kernel_rfl) (by rfl) ?_ ?_
    rotate_left 2
    · go_simp
      (try (first | with_reducible rfl | (apply And.intro <;> rfl)))
    refine (validConf_any f k x11).mono ?_
    rintro e_ x12 ⟨rfl, hfn⟩
    refine ⟨_, rfl, hHeld.and hfn (by simp), fun hHeld => ?_⟩
    clear hfn
    simp only [Act.put, List.setIfInBounds_toArray, List.set_cons_zero, List.set_cons_succ]
    refine call_at (i := 30) (f := ?_) (args := ?_) rfl (by kernel_rfl) (by rfl) ?_ ?_
    rotate_left 2
    · go_simp
      (try (first | with_reducible rfl | (apply And.intro <;> rfl)))
    refine (refvalidConf_any f k x12).mono ?_
    rintro e_ x13 ⟨rfl, hfn⟩
    refine ⟨_, rfl, hHeld.and hfn (by simp), fun hHeld => ?_⟩
    clear hfn
    generalize confB f k = cb at *
    simp only [Act.put, List.setIfInBounds_toArray, List.set_cons_zero, List.set_cons_succ]
    refine run_at (i := 31) (v := ?_) rfl (by kernel_rfl) (by rfl) (fun _ _ _ h => h) hHeld (fun w1 hw1 => ?_) ?_
    rotate_left 1
    · skip
      go_simp
      (try (first | with_reducible rfl | (apply And.intro <;> rfl)))
    simp only [Act.put, List.setIfInBounds_toArray, List.set_cons_zero, List.set_cons_succ]
    refine run_at (i := 32) (v := ?_) rfl (by kernel_rfl) (by rfl) (fun _ _ _ h => h) hHeld (fun w1 hw1 => ?_) ?_
    rotate_left 1
    · skip
      go_simp
      (try (first | with_reducible rfl | (apply And.intro <;> rfl)))
    simp only [Act.put, List.setIfInBounds_toArray, List.set_cons_zero, List.set_cons_succ]
    refine run_at (i := 33) (v := ?_) rfl (by kernel_rfl) (by rfl) (fun _ _ _ h => h) hHeld (fun w1 hw1 => ?_) ?_
    rotate_left 1
    · skip
      go_simp
      (try (first | with_reducible rfl | (apply And.intro <;> rfl)))
    simp only [Act.put, List.setIfInBounds_toArray, List.set_cons_zero, List.set_cons_succ]
    refine call_at (i := 34) (f := ?_) (args := ?_) rfl (by kernel_rfl) (by rfl) ?_ ?_
    rotate_left 2
    · go_simp
      (try (first | with_reducible rfl | (apply And.intro <;> rfl)))
    refine (wwakes_any _).mono ?_
    rintro e_ wv ⟨rfl, hfv⟩
    refine ⟨_, rfl, hHeld.and hfv (by simp), fun hHeld => ?_⟩
    simp only [Act.put, List.setIfInBounds_toArray, List.set_cons_zero, List.set_cons_succ]
    refine run_at (i := 35) (v := ?_) rfl (by kernel_rfl) (by rfl) (fun _ _ _ h => h) hHeld (fun w1 hw1 => ?_) ?_
    rotate_left 1
    · skip
      go_simp
      (try (first | with_reducible rfl | (apply And.intro <;> rfl)))
    simp only [Act.put, List.setIfInBounds_toArray, List.set_cons_zero, List.set_cons_succ]
    refine run_at (i := 36) (v := ?_) rfl (by kernel_rfl) (by rfl) (fun _ _ _ h => h) hHeld (fun w1 hw1 => ?_) ?_
    rotate_left 1
    · skip
      go_simp
      (try (first | with_reducible rfl | (apply And.intro <;> rfl)))
    simp only [Act.put, List.setIfInBounds_toArray, List.set_cons_zero, List.set_cons_succ]
    refine wpAnyH_done (by kernel_rfl) ?_ _
    go_wp2
    go_ret
    exact ⟨rfl, HFA.out.and hHeld (by simp)⟩
end Go.Proofs.YtdgbcdmooklciaaDoor
