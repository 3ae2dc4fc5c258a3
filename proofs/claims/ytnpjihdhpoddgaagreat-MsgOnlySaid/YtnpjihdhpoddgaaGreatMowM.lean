/- gavellaw06.MsgOnly, walked. (written by gen_mow.py) -/
import Derived.Test.YtnpjihdhpoddgaaGreatKN7
import Derived.Deep.CutBlock
set_option linter.unusedSimpArgs false
set_option linter.unusedVariables false
namespace Go.Proofs.YtnpjihdhpoddgaaGreat
open Go.RowKit
set_option maxRecDepth 100000
theorem Wmg.Ok.len {w : World} {S : List Nat} {x : Wmg} (h : x.Ok w S) : x.Len := ⟨h.cm.h, h.st.h, h.ce.k.h, h.ak.h, h.vt.h, h.en.h, h.op.h⟩
theorem Wpo.OkS.li {w : World} {S : List Nat} {x : Wpo} (h : x.OkS w S) : x.Li w S := ⟨h.e, h.r, h.v, h.p, h.k.li, h.b, h.m⟩
theorem Wdc.Ok.li {w : World} {S : List Nat} {x : Wdc} (h : x.Ok w S) : x.Li w S := ⟨h.e, h.r, h.k.li, h.l, Nat.le_trans h.n (by omega), h.ap⟩
theorem Wmg.Ok.li {w : World} {S : List Nat} {x : Wmg} (h : x.Ok w S) : x.Li w S := ⟨h.cm, h.st, h.ce.li, h.ak, h.pr.li, h.po.li, h.vt, h.en, h.op, h.dn, h.de.li⟩
theorem Wdc.In.keep {w w' : World} {x : Wdc} (h : x.In w) (hf : Fr [] w w') : x.In w' := ⟨h.e, h.r, h.k.keep hf, h.l.keep' hf (by simp) (fun _ _ h => h), h.n, h.d⟩
theorem Wpo.In.keepM {w w' : World} {x : Wpo} (h : x.In w) (hf : Fr [] w w') : x.In w' := ⟨h.e, h.r, h.v, h.p, h.k.keep hf, h.b, h.m⟩
theorem Wmg.In.keepM {w w' : World} {x : Wmg} (h : x.In w) (hf : Fr [] w w') : x.In w' :=
  ⟨h.q, h.f, h.t, h.cm, h.st, h.ce.keep hf, h.ak, h.e, h.r, h.tm, h.pr.keep hf, h.po.keepM hf, h.vt, h.i, h.en, h.op.keep hf, h.dn, h.rp, h.de.keep hf⟩
theorem Wmg.blk_f {w : World} {g : Nat} {t : TypeId} {x : Wmg} (v : Int) (hb : Blk w g t x.cells.toArray) : Blk (w.setCells g 1 [.int .i64 v]) g t ({x with f := v} : Wmg).cells.toArray :=
  Blk.mid_at [.int .i64 v] [.int .i64 x.f] [.int .i64 x.q] ([.int .i64 x.t] ++ (x.cm.cells ++ (x.st.cells ++ (x.ce.cells ++ (x.ak.cells ++ ([.int .i64 x.e] ++ ([.int .i64 x.r] ++ ([.int .u64 (x.tm : Int)] ++ (x.pr.cells ++ (x.po.cells ++ (x.vt.cells ++ ([.int .i64 x.i] ++ (x.en.cells ++ (x.op.cells ++ (x.dn.cells ++ ([.string ⟨x.rp.toArray⟩] ++ (x.de.cells))))))))))))))))) 1 rfl rfl _ _ (by simp only [Wmg.cells, List.append_assoc, List.append_nil, List.nil_append]) (by simp only [Wmg.cells, List.append_assoc, List.append_nil, List.nil_append]) hb
theorem Wmg.blk_t {w : World} {g : Nat} {t : TypeId} {x : Wmg} (v : Int) (hb : Blk w g t x.cells.toArray) : Blk (w.setCells g 2 [.int .i64 v]) g t ({x with t := v} : Wmg).cells.toArray :=
  Blk.mid_at [.int .i64 v] [.int .i64 x.t] ([.int .i64 x.q] ++ [.int .i64 x.f]) (x.cm.cells ++ (x.st.cells ++ (x.ce.cells ++ (x.ak.cells ++ ([.int .i64 x.e] ++ ([.int .i64 x.r] ++ ([.int .u64 (x.tm : Int)] ++ (x.pr.cells ++ (x.po.cells ++ (x.vt.cells ++ ([.int .i64 x.i] ++ (x.en.cells ++ (x.op.cells ++ (x.dn.cells ++ ([.string ⟨x.rp.toArray⟩] ++ (x.de.cells)))))))))))))))) 2 rfl rfl _ _ (by simp only [Wmg.cells, List.append_assoc, List.append_nil, List.nil_append]) (by simp only [Wmg.cells, List.append_assoc, List.append_nil, List.nil_append]) hb
theorem kmsg_con (x y : Wmg) (w : World) (hx : x.Ok w []) (hy : y.Ok w []) (e : x.con = y.con) (C D : List Value) (hC : x.cells = C) (hD : y.cells = D) :
    Calls Tryz.prog 12 #[.agg C.toArray, .agg D.toArray] w fun e w' => e = .returned (.bool true) ∧ Fr [] w w' := by
  unfold Wmg.con at e
  simp only [Cmg.mk.injEq] at e
  obtain ⟨e1, e2, e3, e4, e5, e6, e7, e8, e9, e10, e11, e12, e13, e14, e15, e16, e17, e18, e19⟩ := e
  refine (kmsg_any x y w hx.li hy.li e1 e4 e5 e6 e7 e11 e12 e16 e17 e18 e19 C D hC hD).mono ?_
  rintro r w' ⟨b, rfl, hb, hf⟩
  rw [hb.2 ⟨e2, e3, e8, e9, e10, e13, e14, e15⟩]
  exact ⟨rfl, hf⟩
set_option maxHeartbeats 16000000 in
theorem msgOnly_walk (w : World) (x : Wmg) (hx : x.In w) (y : Wmg) (hy : y.In w) (kind : Int) (hk1 : -9223372036854775808 ≤ kind) (hk2 : kind < 9223372036854775808) :
    Calls Tryz.prog 3 #[x.val, y.val, .int .i64 kind] w fun e w' => e = .returned (.bool true) ∧ Fr [] w w' := by
  unfold Wmg.val
  obtain ⟨C, hC⟩ : ∃ C, x.cells = C := ⟨_, rfl⟩
  obtain ⟨D, hD⟩ : ∃ D, y.cells = D := ⟨_, rfl⟩
  rw [hC, hD]
  obtain ⟨wa, hwa⟩ : ∃ wa, wa = (w.alloc (Obj.cells C.toArray 61)).alloc (Obj.cells D.toArray 61) := ⟨_, rfl⟩
  have hf0 : Fr [] w wa := by rw [hwa]; exact ((Fr.refl [] w).alloc _).alloc _
  have hb0 : Blk wa w.heap.size 61 C.toArray := by rw [hwa]; exact blk_alloc (Blk.new _ _ _)
  have hb1 : Blk wa (w.heap.size + 1) 61 D.toArray := by
    have := Blk.new (w.alloc (Obj.cells C.toArray 61)) 61 D.toArray
    rw [hwa]
    simpa using this
  have hlx : x.Len := ⟨hx.cm.h, hx.st.h, hx.ce.k.h, hx.ak.h, hx.vt.h, hx.en.h, hx.op.h⟩
  have hly : y.Len := ⟨hy.cm.h, hy.st.h, hy.ce.k.h, hy.ak.h, hy.vt.h, hy.en.h, hy.op.h⟩
  have HCL : Hid (C.length = 295) := Lib.hid (by rw [← hC]; exact Wmg.lenz hlx)
  have HDL : Hid (D.length = 295) := Lib.hid (by rw [← hD]; exact Wmg.lenz hly)
  have HX := Lib.hid hx
  have HY := Lib.hid hy
  have HC := Lib.hid hC
  have HD := Lib.hid hD
  have HB0 := Lib.hid hb0
  have HB1 := Lib.hid hb1
  have HF0 := Lib.hid hf0
  have HWA := Lib.hid hwa
  have HS2 : Hid (wa.heap.size = w.heap.size + 2) := Lib.hid (by rw [hwa]; simp)
  obtain ⟨k, hk⟩ : ∃ k, k = 1 + kind % 14 := ⟨_, rfl⟩
  have HK : Hid (1 ≤ k ∧ k ≤ 14) := Lib.hid (by omega)
  have HKE := Lib.hid hk
  have HKW : Hid (wrap64 (1 + kind % 14) = 1 + kind % 14) := Lib.hid (by unfold wrap64; omega)
  have HSI : Hid ((Tryz.prog.info? 3).map (·.size) = some 1) := Lib.hid (by kernel_rfl)
  have HLT : Hid (∀ y : Wmg, y.Len → ∀ k < 295, k < y.cells.toArray.size) := Lib.hid (fun y hy k hk => by rw [List.size_toArray, Wmg.lenz hy]; exact hk)
  have HMS : Hid (∀ y : Wmg, y.Len → (Tryz.prog.info? 61).map (·.size) = some y.cells.toArray.size) := Lib.hid (fun y hy => msg_size hy)
  have HME : Hid (∀ y z : Wmg, y.Len → z.Len → y.cells.toArray.size = z.cells.toArray.size) := Lib.hid (fun y z hy hz => by rw [List.size_toArray, List.size_toArray, Wmg.lenz hy, Wmg.lenz hz])
  have HMO : Hid (∀ y : Wmg, y.cells.toArray.all (·.oneCell') = true) := Lib.hid (fun y => all_oneCell_toArray (Wmg.one y))
  have HLX := Lib.hid hlx
  have HLY := Lib.hid hly
  clear hx hy hC hD hb0 hb1 hf0 hwa hlx hly hk
  go_enter Tryz.func3, Tryz.ntmps3
  go_upto_region 1 with (fail)
  change Code.wp _ _ _ _ ((w.alloc (Obj.cells C.toArray 61)).alloc (Obj.cells D.toArray 61))
  rw [← HWA.out]
  refine wp_region_till 4 (Fr [w.heap.size, w.heap.size + 1] wa) (Fr [] wa) (by kernel_rfl) (Fr.drew (Fr.refl _ wa)) (Fr.drew (Fr.refl _ wa)) (fun hA hB => ?_)
  have HFX : Hid (Fr [] wa wa.drew) := Lib.hid (Fr.drew (Fr.refl [] wa))
  generalize wa.drew = wd at *
  refine till_row (i := 0) rfl (by kernel_rfl) (by rfl) _ _ rfl _ _ rfl _ (fun w1 hw1 => hw1.range (HB0.out.range) (by first | (simp; done) | exact HNS.out | exact HNW.out | (intro hm; have hlt := HSB.out _ hm; (try dsimp only at hlt); omega))) (row_msg.of HCL.out) (fun _ _ _ h => h) hA hB ?_
  simp only [Act.put, List.setIfInBounds_toArray, List.set_cons_zero, List.set_cons_succ]
  refine till_row (i := 2) rfl (by kernel_rfl) (by rfl) _ _ rfl _ _ rfl _ (fun w1 hw1 => hw1.range (HB1.out.range) (by first | (simp; done) | exact HNS.out | exact HNW.out | (intro hm; have hlt := HSB.out _ hm; (try dsimp only at hlt); omega))) (row_msg.of HDL.out) (fun _ _ _ h => h) hA hB ?_
  simp only [Act.put, List.setIfInBounds_toArray, List.set_cons_zero, List.set_cons_succ]
  refine till_call (i := 1) (f := ?_) (args := ?_) rfl (by kernel_rfl) (by rfl) ?_ ?_
  rotate_left 2
  · go_simp
    (try (first | with_reducible rfl | (apply And.intro <;> rfl)))
  refine (msmall_any x wd ?_ C HC.out).mono ?_
  · exact Wmg.In.keepM HX.out (HF0.out.and HFX.out (by simp))
  rintro e_ w1 ⟨xs, rfl, hxs, hf1⟩
  have HXS : Hid (xs.Ok w1 [w.heap.size, w.heap.size + 1]) := Lib.hid (hxs _ (by have h1 := HS2.out; have h2 := HFX.out.size; simp; omega))
  have HFX : Hid (Fr [] wa w1) := Lib.hid (HFX.out.and hf1 (by simp))
  refine ⟨_, rfl, ⟨hA.go hf1 (by simp), hB.and hf1 (by simp)⟩, fun hB => ?_⟩
  replace hA := hA.go hf1 (by simp)
  clear hxs hf1
  simp only [Act.put, List.setIfInBounds_toArray, List.set_cons_zero, List.set_cons_succ]
  refine till_call (i := 3) (f := ?_) (args := ?_) rfl (by kernel_rfl) (by rfl) ?_ ?_
  rotate_left 2
  · go_simp
    (try (first | with_reducible rfl | (apply And.intro <;> rfl)))
  refine (msmall_any y w1 ?_ D HD.out).mono ?_
  · exact Wmg.In.keepM HY.out (HF0.out.and HFX.out (by simp))
  rintro e_ w2 ⟨ys, rfl, hys, hf2⟩
  have HYS : Hid (ys.Ok w2 [w.heap.size, w.heap.size + 1]) := Lib.hid (hys _ (by have h1 := HS2.out; have h2 := HFX.out.size; simp; omega))
  have HXS : Hid (xs.Ok w2 [w.heap.size, w.heap.size + 1]) := Lib.hid (HXS.out.keep (hf2.mono (by simp)) (fun k hk _ => hk))
  have HFX : Hid (Fr [] wa w2) := Lib.hid (HFX.out.and hf2 (by simp))
  refine ⟨_, rfl, ⟨hA.go hf2 (by simp), hB.and hf2 (by simp)⟩, fun hB => ?_⟩
  replace hA := hA.go hf2 (by simp)
  clear hys hf2
  simp only [Act.put, List.setIfInBounds_toArray, List.set_cons_zero, List.set_cons_succ]
  have HB0 : Hid (Blk w2 w.heap.size 61 x.cells.toArray) := Lib.hid (by rw [HC.out]; exact HB0.out.keep HFX.out (by simp))
  have HB1 : Hid (Blk w2 (w.heap.size + 1) 61 y.cells.toArray) := Lib.hid (by rw [HD.out]; exact HB1.out.keep HFX.out (by simp))
  refine till_step (i := 4) rfl (by kernel_rfl) (by kernel_rfl) (by rfl) (fun K hK => ?_)
  refine wp_store_blk 61 _ _ rfl w.heap.size xs.cells.toArray rfl rfl 61 x.cells.toArray HB0.out (HMS.out _ HXS.out.len) (HME.out _ _ HLX.out HXS.out.len) (HMO.out xs) ?_
  intro w3 hb3 hf3
  refine hK.out _ _ (hA.trans hf3 (fun k hk _ => by simp at hk; simp [hk])) (fun hA => ?_)
  clear hK K
  simp only [Act.put, List.setIfInBounds_toArray, List.set_cons_zero, List.set_cons_succ]
  have HBX := Lib.hid hb3
  have HB1 := Lib.hid (HB1.out.keep hf3 (by simp))
  have HF23 : Hid (Fr [w.heap.size, w.heap.size + 1] w2 w3) := Lib.hid (hf3.mono (by intro k hk _; simp at hk; simp [hk]))
  clear hb3 hf3
  refine till_step (i := 5) rfl (by kernel_rfl) (by kernel_rfl) (by rfl) (fun K hK => ?_)
  refine wp_store_blk 61 _ _ rfl (w.heap.size + 1) ys.cells.toArray rfl rfl 61 y.cells.toArray HB1.out (HMS.out _ HYS.out.len) (HME.out _ _ HLY.out HYS.out.len) (HMO.out ys) ?_
  intro wb hb4 hf4
  refine hK.out _ _ (hA.trans hf4 (fun k hk _ => by simp at hk; simp [hk])) (fun hA => ?_)
  clear hK K
  simp only [Act.put, List.setIfInBounds_toArray, List.set_cons_zero, List.set_cons_succ]
  have HBY := Lib.hid hb4
  have HBX := Lib.hid (HBX.out.keep hf4 (by simp))
  have HF2b : Hid (Fr [w.heap.size, w.heap.size + 1] w2 wb) := Lib.hid (HF23.out.trans (hf4.mono (T := [w.heap.size, w.heap.size + 1]) (by intro k hk _; simp at hk; simp [hk])) (fun k hk _ => hk))
  have HXO : Hid (xs.Ok wb [w.heap.size, w.heap.size + 1]) := Lib.hid (HXS.out.keep HF2b.out (fun k hk _ => hk))
  have HYO : Hid (ys.Ok wb [w.heap.size, w.heap.size + 1]) := Lib.hid (HYS.out.keep HF2b.out (fun k hk _ => hk))
  have HFB : Hid (Fr [] w wb) := Lib.hid ((HF0.out.and HFX.out (by simp)).go HF2b.out (by simp))
  have HSB2 : Hid (w.heap.size + 2 ≤ wb.heap.size) := Lib.hid (by have h1 := HS2.out; have h2 := HFX.out.size; have h3 := HF2b.out.size; omega)
  clear hb4 hf4 HB0 HB1 HF23 HF2b HXS HYS HFX HX HY HC HD HLX HLY HCL HDL
  refine till_done (by kernel_rfl) ?_ _
  go_wp2_with fail
  refine (within_pos kind 14 hk1 hk2 (by omega) (by omega) _).mono ?_
  rintro e_ w_ ⟨rfl, rfl⟩
  have hkw := HKW.out
  clear hk1 hk2
  have HLXS := Lib.hid HXO.out.len
  have HLYS := Lib.hid HYO.out.len
  have HBX1 := Lib.hid (Wmg.blk_q k HBX.out)
  have HFS3 : Hid (Fr [w.heap.size] wb (wb.setCells w.heap.size 0 [.int .i64 k])) := Lib.hid (Fr.setCells (fun _ => by simp) _ 0 _ (Fr.refl _ _))
  go_upto_region 4 with (first | (show wpList _ _ _ _ _ _; refine wpList_store_at rfl 3 _ _ rfl w.heap.size 0 (.int .i64 k) rfl (by rw [HKE.out]; rfl) rfl 61 _ HBX.out (HLT.out _ HLXS.out 0 (by omega)) HSI.out ?_))
  change Code.wp _ _ _ _ (wb.setCells w.heap.size 0 [.int .i64 k])
  rw [show (1 + kind % 14) = k from HKE.out.symm]
  clear hkw HKE HKW
  obtain ⟨x1, hx1⟩ : ∃ x1 : Wmg, x1 = {xs with q := k} := ⟨_, rfl⟩
  rw [← hx1] at HBX1
  have HO1 : Hid (x1.Ok (wb.setCells w.heap.size 0 [.int .i64 k]) [w.heap.size, w.heap.size + 1]) := Lib.hid (by
    have h := HXO.out.keep (W := wb.setCells w.heap.size 0 [.int .i64 k]) (S' := [w.heap.size, w.heap.size + 1]) (HFS3.out.mono (T := [w.heap.size, w.heap.size + 1]) (by intro k hk _; simp at hk; simp [hk])) (fun k hk _ => hk)
    rw [hx1]
    exact ⟨by have := HK.out; unfold i64In; show -9223372036854775808 ≤ k ∧ k < 9223372036854775808; omega, h.f, h.t, h.cm, h.st, h.ce, h.ak, h.e, h.r, h.tm, h.pr, h.po, h.vt, h.i, h.en, h.op, h.dn, h.rp, h.de⟩)
  have HQ1 : Hid (x1.q = k) := Lib.hid (by rw [hx1])
  have HYO : Hid (ys.Ok (wb.setCells w.heap.size 0 [.int .i64 k]) [w.heap.size, w.heap.size + 1]) := Lib.hid (HYO.out.keep (HFS3.out.mono (T := [w.heap.size, w.heap.size + 1]) (by intro k hk _; simp at hk; simp [hk])) (fun k hk _ => hk))
  have HBY := Lib.hid (HBY.out.keep HFS3.out (by simp))
  have HFB : Hid (Fr [] w (wb.setCells w.heap.size 0 [.int .i64 k])) := Lib.hid (HFB.out.go HFS3.out (by simp))
  have HSB2 : Hid (w.heap.size + 2 ≤ (wb.setCells w.heap.size 0 [.int .i64 k]).heap.size) := Lib.hid (by have h1 := HSB2.out; have h2 := HFS3.out.size; omega)
  clear hx1 HFS3 HXO HBX HLXS
  generalize wb.setCells w.heap.size 0 [.int .i64 k] = w3 at *
  obtain ⟨E1, hE1⟩ : ∃ E1, x1.cells = E1 := ⟨_, rfl⟩
  have HE1 := Lib.hid hE1
  have HL1 : Hid (E1.length = 295) := Lib.hid (by rw [← hE1]; exact Wmg.lenz HO1.out.len)
  have HR1 : Hid (w3.rangeAt w.heap.size 0 E1) := Lib.hid (by rw [← hE1]; exact HBX1.out.range)
  clear hE1
  go_wp2_with (refine wpList_load_mid rfl 61 _ rfl w.heap.size 0 rfl E1 _ HR1.out Tryz.underlying61 rfl (row_msg.of HL1.out).2 ?_)
  refine (only_any x1 w3 (HO1.out.keep (S' := []) (Fr.refl [w.heap.size, w.heap.size + 1] w3) (by simp)) E1 HE1.out).mono ?_
  rintro e_ w4 ⟨o, rfl, hoc, hok, hf4⟩
  have HOC := Lib.hid hoc
  have HOK := Lib.hid hok
  have HF4 := Lib.hid hf4
  clear hoc hok hf4
  have HOL := Lib.hid HOK.out.len
  go_upto_region 5 with (first | (refine wpList_store_blk rfl 61 _ _ rfl w4.heap.size o.cells.toArray rfl rfl 61 mz00 (Blk.new w4 _ _) (HMS.out _ HOL.out) (HME.out (mz 0 0 0) _ (mz_len _ _ _) HOL.out) (HMO.out o) ?_; intro w5 hb5 hf5))
  have HBO := Lib.hid hb5
  have HF45 : Hid (Fr [] w4 w5) := Lib.hid (((Fr.refl [] w4).alloc _).go hf5 (by simp))
  have HF35 : Hid (Fr [] w3 w5) := Lib.hid (HF4.out.and HF45.out (by simp))
  obtain ⟨g7, hg7⟩ : ∃ g7, g7 = w4.heap.size := ⟨_, rfl⟩
  rw [← hg7] at HBO ⊢
  have HG7 : Hid (w.heap.size + 2 ≤ g7) := Lib.hid (by rw [hg7]; have h1 := HSB2.out; have h2 := HF4.out.size; omega)
  have HG7b : Hid (g7 < w5.heap.size) := Lib.hid HBO.out.lt
  have HOK : Hid (o.Ok w5 []) := Lib.hid (HOK.out.keep HF45.out (by simp))
  have HBX1 := Lib.hid (HBX1.out.keep HF35.out (by simp))
  have HBY := Lib.hid (HBY.out.keep HF35.out (by simp))
  have HO1 : Hid (x1.Ok w5 [w.heap.size, w.heap.size + 1]) := Lib.hid (HO1.out.keep (HF35.out.mono (by simp)) (fun k hk _ => hk))
  have HYO : Hid (ys.Ok w5 [w.heap.size, w.heap.size + 1]) := Lib.hid (HYO.out.keep (HF35.out.mono (by simp)) (fun k hk _ => hk))
  have HFB : Hid (Fr [] w w5) := Lib.hid (HFB.out.and HF35.out (by simp))
  clear hb5 hf5 hg7 HF4 HF45 HF35 HR1 HL1 HE1
  obtain ⟨E2, hE2⟩ : ∃ E2, ys.cells = E2 := ⟨_, rfl⟩
  have HL2 : Hid (E2.length = 295) := Lib.hid (by rw [← hE2]; exact Wmg.lenz HYO.out.len)
  have HR2 : Hid (w5.rangeAt (w.heap.size + 1) 0 E2) := Lib.hid (by rw [← hE2]; exact HBY.out.range)
  have HE2 := Lib.hid hE2
  clear hE2
  have HMS2 : Hid ((Tryz.prog.info? 61).map (·.size) = some E2.toArray.size) := Lib.hid (by rw [← HE2.out]; exact HMS.out _ HYO.out.len)
  have HME2 : Hid (mz00.size = E2.toArray.size) := Lib.hid (by rw [← HE2.out]; exact HME.out (mz 0 0 0) _ (mz_len _ _ _) HYO.out.len)
  have HMO2 : Hid (E2.toArray.all (·.oneCell') = true) := Lib.hid (by rw [← HE2.out]; exact HMO.out ys)
  go_upto_region 6 with (first
    | (refine wpList_load_mid rfl 61 _ rfl (w.heap.size + 1) 0 rfl E2 _ HR2.out Tryz.underlying61 rfl (row_msg.of HL2.out).2 ?_)
    | (refine wpList_store_blk rfl 61 _ _ rfl w5.heap.size E2.toArray rfl rfl 61 mz00 (Blk.new w5 _ _) HMS2.out HME2.out HMO2.out ?_; intro w6 hb6 hf6))
  obtain ⟨g8, hg8⟩ : ∃ g8, g8 = w5.heap.size := ⟨_, rfl⟩
  have HB8 : Hid (Blk w6 g8 61 ys.cells.toArray) := Lib.hid (by rw [HE2.out, hg8]; exact hb6)
  have HF56 : Hid (Fr [] w5 w6) := Lib.hid (((Fr.refl [] w5).alloc _).go hf6 (by simp))
  rw [← hg8]
  have HG8 : Hid (w.heap.size + 2 ≤ g8 ∧ g7 < g8) := Lib.hid (by rw [hg8]; have h1 := HG7.out; have h2 := HG7b.out; omega)
  have hnew : ∀ k ∈ [g8], k < w5.heap.size → False := fun k hk hl => by rw [hg8] at hk; simp at hk; omega
  have HO1 : Hid (x1.Ok w6 [g8]) := Lib.hid ((HO1.out.keep (S' := []) (Fr.refl _ w5) (by simp)).keep HF56.out (fun k hk hl => (hnew k hk hl).elim))
  have HYO : Hid (ys.Ok w6 [g8]) := Lib.hid ((HYO.out.keep (S' := []) (Fr.refl _ w5) (by simp)).keep HF56.out (fun k hk hl => (hnew k hk hl).elim))
  have HOK : Hid (o.Ok w6 [g8]) := Lib.hid (HOK.out.keep HF56.out (fun k hk hl => (hnew k hk hl).elim))
  have HBX1 := Lib.hid (HBX1.out.keep HF56.out (by simp))
  have HBO := Lib.hid (HBO.out.keep HF56.out (by simp))
  have HFB : Hid (Fr [] w w6) := Lib.hid (HFB.out.and HF56.out (by simp))
  clear hb6 hf6 hg8 hnew HF56 HR2 HL2 HE2 HMS2 HME2 HMO2 HBY HG7b
  have HAT1 := Lib.hid (Wmg.at_of HBX1.out.range HO1.out)
  have HCq : Hid (w6.cell? ⟨w.heap.size, 0 + 0, none⟩ = some (.int .i64 x1.q)) := Lib.hid (by have h := HAT1.out.q 0 _ rfl; simpa using h)
  have HCf : Hid (w6.cell? ⟨w.heap.size, 0 + 1, none⟩ = some (.int .i64 x1.f)) := Lib.hid (by have h := HAT1.out.f 0 _ rfl; simpa using h)
  have HCt : Hid (w6.cell? ⟨w.heap.size, 0 + 2, none⟩ = some (.int .i64 x1.t)) := Lib.hid (by have h := HAT1.out.t 0 _ rfl; simpa using h)
  have HNS : Hid (¬ w.heap.size ∈ [g8]) := Lib.hid (by have := HG8.out; simp; omega)
  have HLY : Hid ys.Len := Lib.hid HYO.out.len
  refine wp_region_held_drew (S := Fr [g8] w6) (by kernel_rfl) (Fr.drew (Fr.refl _ w6)) (fun hHeld => ?_)
  refine run_at (i := 0) (v := ?_) rfl (by kernel_rfl) (by rfl) (fun _ _ _ h => h) hHeld (fun w1 hw1 => ?_) ?_
  rotate_left 1
  · skip
    go_simp
    (try (first | with_reducible rfl | (apply And.intro <;> rfl)))
  simp only [Act.put, List.setIfInBounds_toArray, List.set_cons_zero, List.set_cons_succ]
  refine run_at (i := 1) (v := ?_) rfl (by kernel_rfl) (by rfl) (fun _ _ _ h => h) hHeld (fun w1 hw1 => ?_) ?_
  rotate_left 1
  · skip
    have hcw0 := hw1.cell (HCq.out) (by first | (simp; done) | exact HNS.out | exact HNW.out | (intro hm; have hlt := HSB.out _ hm; (try dsimp only at hlt); omega))
    go_simp
    (try (first | with_reducible rfl | (apply And.intro <;> rfl)))
  simp only [Act.put, List.setIfInBounds_toArray, List.set_cons_zero, List.set_cons_succ]
  refine run_at (i := 2) (v := ?_) rfl (by kernel_rfl) (by rfl) (fun _ _ _ h => h) hHeld (fun w1 hw1 => ?_) ?_
  rotate_left 1
  · skip
    go_simp
    (try (first | with_reducible rfl | (apply And.intro <;> rfl)))
  simp only [Act.put, List.setIfInBounds_toArray, List.set_cons_zero, List.set_cons_succ]
  refine run_at (i := 3) (v := ?_) rfl (by kernel_rfl) (by rfl) (fun _ _ _ h => h) hHeld (fun w1 hw1 => ?_) ?_
  rotate_left 1
  · skip
    have hcw0 := hw1.cell (HCf.out) (by first | (simp; done) | exact HNS.out | exact HNW.out | (intro hm; have hlt := HSB.out _ hm; (try dsimp only at hlt); omega))
    go_simp
    (try (first | with_reducible rfl | (apply And.intro <;> rfl)))
  simp only [Act.put, List.setIfInBounds_toArray, List.set_cons_zero, List.set_cons_succ]
  refine run_at (i := 4) (v := ?_) rfl (by kernel_rfl) (by rfl) (fun _ _ _ h => h) hHeld (fun w1 hw1 => ?_) ?_
  rotate_left 1
  · skip
    go_simp
    (try (first | with_reducible rfl | (apply And.intro <;> rfl)))
  simp only [Act.put, List.setIfInBounds_toArray, List.set_cons_zero, List.set_cons_succ]
  refine run_at (i := 5) (v := ?_) rfl (by kernel_rfl) (by rfl) (fun _ _ _ h => h) hHeld (fun w1 hw1 => ?_) ?_
  rotate_left 1
  · skip
    have hcw0 := hw1.cell (HCt.out) (by first | (simp; done) | exact HNS.out | exact HNW.out | (intro hm; have hlt := HSB.out _ hm; (try dsimp only at hlt); omega))
    go_simp
    (try (first | with_reducible rfl | (apply And.intro <;> rfl)))
  simp only [Act.put, List.setIfInBounds_toArray, List.set_cons_zero, List.set_cons_succ]
  refine run_at (i := 6) (v := ?_) rfl (by kernel_rfl) (by rfl) (fun _ _ _ h => h) hHeld (fun w1 hw1 => ?_) ?_
  rotate_left 1
  · skip
    go_simp
    (try (first | with_reducible rfl | (apply And.intro <;> rfl)))
  simp only [Act.put, List.setIfInBounds_toArray, List.set_cons_zero, List.set_cons_succ]
  have HBx0 := Lib.hid HB8.out.drew
  generalize w6.drew = v0 at *
  refine step_at (i := 7) rfl (by kernel_rfl) (by rfl) (fun K hK => ?_)
  refine wp_store_at 3 _ _ rfl g8 0 (.int .i64 x1.q) rfl rfl rfl 61 _ HBx0.out (HLT.out _ HLY.out 0 (by omega)) HSI.out ?_
  refine hK.out _ _ (Fr.setCells (fun _ => by simp) [.int .i64 x1.q] 0 _ hHeld) (fun hHeld => ?_)
  clear hK K
  have HBx1 := Lib.hid (Wmg.blk_q x1.q HBx0.out)
  have HLx1 : Hid (Wmg.Len {ys with q := x1.q}) := Lib.hid ⟨HLY.out.cm, HLY.out.st, HLY.out.ce, HLY.out.ak, HLY.out.vt, HLY.out.en, HLY.out.op⟩
  generalize v0.setCells g8 0 [.int .i64 x1.q] = v1 at *
  simp only [Act.put, List.setIfInBounds_toArray, List.set_cons_zero, List.set_cons_succ]
  refine run_at (i := 8) (v := ?_) rfl (by kernel_rfl) (by rfl) (fun _ _ _ h => h) hHeld (fun w1 hw1 => ?_) ?_
  rotate_left 1
  · skip
    go_simp
    (try (first | with_reducible rfl | (apply And.intro <;> rfl)))
  simp only [Act.put, List.setIfInBounds_toArray, List.set_cons_zero, List.set_cons_succ]
  refine step_at (i := 9) rfl (by kernel_rfl) (by rfl) (fun K hK => ?_)
  refine wp_store_at 3 _ _ rfl g8 1 (.int .i64 x1.f) rfl rfl rfl 61 _ HBx1.out (HLT.out _ HLx1.out 1 (by omega)) HSI.out ?_
  refine hK.out _ _ (Fr.setCells (fun _ => by simp) [.int .i64 x1.f] 1 _ hHeld) (fun hHeld => ?_)
  clear hK K
  have HBx2 := Lib.hid (Wmg.blk_f x1.f HBx1.out)
  have HLx2 : Hid (Wmg.Len {ys with q := x1.q, f := x1.f}) := Lib.hid ⟨HLY.out.cm, HLY.out.st, HLY.out.ce, HLY.out.ak, HLY.out.vt, HLY.out.en, HLY.out.op⟩
  generalize v1.setCells g8 1 [.int .i64 x1.f] = v2 at *
  simp only [Act.put, List.setIfInBounds_toArray, List.set_cons_zero, List.set_cons_succ]
  refine run_at (i := 10) (v := ?_) rfl (by kernel_rfl) (by rfl) (fun _ _ _ h => h) hHeld (fun w1 hw1 => ?_) ?_
  rotate_left 1
  · skip
    go_simp
    (try (first | with_reducible rfl | (apply And.intro <;> rfl)))
  simp only [Act.put, List.setIfInBounds_toArray, List.set_cons_zero, List.set_cons_succ]
  refine step_at (i := 11) rfl (by kernel_rfl) (by rfl) (fun K hK => ?_)
  refine wp_store_at 3 _ _ rfl g8 2 (.int .i64 x1.t) rfl rfl rfl 61 _ HBx2.out (HLT.out _ HLx2.out 2 (by omega)) HSI.out ?_
  refine hK.out _ _ (Fr.setCells (fun _ => by simp) [.int .i64 x1.t] 2 _ hHeld) (fun hHeld => ?_)
  clear hK K
  have HBx3 := Lib.hid (Wmg.blk_t x1.t HBx2.out)
  generalize v2.setCells g8 2 [.int .i64 x1.t] = v3 at *
  simp only [Act.put, List.setIfInBounds_toArray, List.set_cons_zero, List.set_cons_succ]
  refine wpAnyH_done (by kernel_rfl) ?_ _
  obtain ⟨z0, hz0⟩ : ∃ z0 : Wmg, z0 = {ys with q := x1.q, f := x1.f, t := x1.t} := ⟨_, rfl⟩
  have HB8 : Hid (Blk v3 g8 61 z0.cells.toArray) := Lib.hid (by rw [hz0]; exact HBx3.out)
  have HZO : Hid (z0.Ok v3 [g8]) := Lib.hid (by
    have h := HYO.out.keep (S' := [g8]) hHeld (fun k hk _ => hk)
    rw [hz0]
    exact ⟨HO1.out.q, HO1.out.f, HO1.out.t, h.cm, h.st, h.ce, h.ak, h.e, h.r, h.tm, h.pr, h.po, h.vt, h.i, h.en, h.op, h.dn, h.rp, h.de⟩)
  have HZQ : Hid (z0.q = x1.q ∧ z0.f = x1.f ∧ z0.t = x1.t) := Lib.hid (by rw [hz0]; exact ⟨rfl, rfl, rfl⟩)
  have HO1 : Hid (x1.Ok v3 [g8]) := Lib.hid (HO1.out.keep hHeld (fun k hk _ => hk))
  have HOK : Hid (o.Ok v3 [g8]) := Lib.hid (HOK.out.keep hHeld (fun k hk _ => hk))
  have HBX1 := Lib.hid (HBX1.out.keep hHeld (by have := HG8.out; simp; omega))
  have HBO := Lib.hid (HBO.out.keep hHeld (by have := HG8.out; simp; omega))
  have HFB : Hid (Fr [] w v3) := Lib.hid (HFB.out.go hHeld (by have := HG8.out; simp; omega))
  have HAT1 := Lib.hid (Wmg.at_of HBX1.out.range HO1.out)
  clear hz0 HBx0 HBx1 HBx2 HBx3 HLx1 HLx2 HYO HLY HCq HCf HCt hHeld HLYS
  go_upto_block 0 with (fail)

  have HZL : Hid z0.Len := Lib.hid HZO.out.len
  have HK14 : Hid (k = 1 ∨ k = 2 ∨ k = 3 ∨ k = 4 ∨ k = 5 ∨ k = 6 ∨ k = 7 ∨ k = 8 ∨ k = 9 ∨ k = 10 ∨ k = 11 ∨ k = 12 ∨ k = 13 ∨ k = 14) := Lib.hid (by have := HK.out; omega)
  have HSU : Hid ((Tryz.prog.info? 30).map (·.size) = some 1) := Lib.hid (by kernel_rfl)
  have HSS : Hid ((Tryz.prog.info? 9).map (·.size) = some 1) := Lib.hid (by kernel_rfl)
  have HNS : Hid (¬ w.heap.size ∈ [g8]) := Lib.hid (by have := HG8.out; simp; omega)
  go_cut [8] (fun s8 wx => s8 = .pointer (some ⟨g8, 0, none⟩) ∧ ∃ z : Wmg, Blk wx g8 61 z.cells.toArray ∧ z.Ok wx [] ∧ onlyC z.con = onlyC x1.con ∧ z.q = k ∧ Fr [g8] v3 wx)
  case first =>
    have h14 := HK14.out
    clear HK14
    rcases h14 with rfl | rfl | rfl | rfl | rfl | rfl | rfl | rfl | rfl | rfl | rfl | rfl | rfl | rfl
    · obtain ⟨V, hV⟩ : ∃ V, V = x1.cm.cells := ⟨_, rfl⟩
      have HVL : Hid (V.length = 37) := Lib.hid (by rw [hV]; exact Wcm.len HO1.out.cm.h)
      have HVR : Hid (v3.rangeAt w.heap.size 3 V) := Lib.hid (by rw [hV]; exact HAT1.out.cm)
      have HV := Lib.hid hV
      clear hV
      have HBX := Lib.hid (Wmg.blk_cm HZL.out x1.cm (by rw [← HV.out]; exact HVL.out) HB8.out)
      rw [← HV.out] at HBX
      have HFS : Hid (Fr [g8] v3 (v3.setCells g8 3 V)) := Lib.hid (Fr.setCells (fun _ => by simp) _ 3 _ (Fr.refl _ _))
      have HTH : Hid (v3.there g8 3 V.toArray.size) := Lib.hid (HB8.out.thereM _ _ (by rw [List.size_toArray, List.size_toArray, HVL.out, Wmg.lenz HZL.out]; decide))
      have HVS : Hid ((Tryz.prog.info? 29).map (·.size) = some V.toArray.size) := Lib.hid (by rw [List.size_toArray, HVL.out]; kernel_rfl)
      have HVO : Hid (V.toArray.all (·.oneCell') = true) := Lib.hid (by rw [HV.out]; exact all_oneCell_toArray (Wcm.one _))
      go_wp2_with (first
        | (refine wpList_load_mid rfl 29 _ rfl w.heap.size 3 rfl V _ HVR.out Tryz.underlying29 rfl (row_cmt.of HVL.out).2 ?_)
        | (refine wpList_store_mid rfl 29 _ _ rfl g8 3 V.toArray rfl rfl HTH.out HVS.out HVO.out ?_))
      go_meet
      have hz := HZO.out.keep (S' := []) HFS.out (by simp)
      have hx := HO1.out.keep (S' := []) HFS.out (by simp)
      refine ⟨rfl, {z0 with cm := x1.cm}, HBX.out, ⟨hz.q, hz.f, hz.t, HO1.out.cm, hz.st, hz.ce, hz.ak, hz.e, hz.r, hz.tm, hz.pr, hz.po, hz.vt, hz.i, hz.en, hz.op, hz.dn, hz.rp, hz.de⟩, ?_, HZQ.out.1.trans HQ1.out, HFS.out⟩
      rw [onlyC_1 (show ({z0 with cm := x1.cm} : Wmg).con.q = 1 from HZQ.out.1.trans HQ1.out), onlyC_1 (show x1.con.q = 1 from HQ1.out)]
      show ({(mz 1 z0.f z0.t).con with cm := x1.con.cm} : Cmg) = {(mz 1 x1.f x1.t).con with cm := x1.con.cm}
      rw [HZQ.out.2.1, HZQ.out.2.2]
    · obtain ⟨V, hV⟩ : ∃ V, V = x1.st.cells := ⟨_, rfl⟩
      have HVL : Hid (V.length = 38) := Lib.hid (by rw [hV]; exact Wst.len HO1.out.st.h)
      have HVR : Hid (v3.rangeAt w.heap.size 40 V) := Lib.hid (by rw [hV]; exact HAT1.out.st)
      have HV := Lib.hid hV
      clear hV
      have HBX := Lib.hid (Wmg.blk_st HZL.out x1.st (by rw [← HV.out]; exact HVL.out) HB8.out)
      rw [← HV.out] at HBX
      have HFS : Hid (Fr [g8] v3 (v3.setCells g8 40 V)) := Lib.hid (Fr.setCells (fun _ => by simp) _ 40 _ (Fr.refl _ _))
      have HTH : Hid (v3.there g8 40 V.toArray.size) := Lib.hid (HB8.out.thereM _ _ (by rw [List.size_toArray, List.size_toArray, HVL.out, Wmg.lenz HZL.out]; decide))
      have HVS : Hid ((Tryz.prog.info? 32).map (·.size) = some V.toArray.size) := Lib.hid (by rw [List.size_toArray, HVL.out]; kernel_rfl)
      have HVO : Hid (V.toArray.all (·.oneCell') = true) := Lib.hid (by rw [HV.out]; exact all_oneCell_toArray (Wst.one _))
      go_wp2_with (first
        | (refine wpList_load_mid rfl 32 _ rfl w.heap.size 40 rfl V _ HVR.out Tryz.underlying32 rfl (row_stkO.of HVL.out).2 ?_)
        | (refine wpList_store_mid rfl 32 _ _ rfl g8 40 V.toArray rfl rfl HTH.out HVS.out HVO.out ?_))
      go_meet
      have hz := HZO.out.keep (S' := []) HFS.out (by simp)
      have hx := HO1.out.keep (S' := []) HFS.out (by simp)
      refine ⟨rfl, {z0 with st := x1.st}, HBX.out, ⟨hz.q, hz.f, hz.t, hz.cm, HO1.out.st, hz.ce, hz.ak, hz.e, hz.r, hz.tm, hz.pr, hz.po, hz.vt, hz.i, hz.en, hz.op, hz.dn, hz.rp, hz.de⟩, ?_, HZQ.out.1.trans HQ1.out, HFS.out⟩
      rw [onlyC_2 (show ({z0 with st := x1.st} : Wmg).con.q = 2 from HZQ.out.1.trans HQ1.out), onlyC_2 (show x1.con.q = 2 from HQ1.out)]
      show ({(mz 2 z0.f z0.t).con with st := x1.con.st} : Cmg) = {(mz 2 x1.f x1.t).con with st := x1.con.st}
      rw [HZQ.out.2.1, HZQ.out.2.2]
    · obtain ⟨V, hV⟩ : ∃ V, V = x1.ce.cells := ⟨_, rfl⟩
      have HVL : Hid (V.length = 38) := Lib.hid (by rw [hV]; exact Wce.len HO1.out.ce.k.h)
      have HVR : Hid (v3.rangeAt w.heap.size 78 V) := Lib.hid (by rw [hV]; exact HAT1.out.ce)
      have HV := Lib.hid hV
      clear hV
      have HBX := Lib.hid (Wmg.blk_ce HZL.out x1.ce (by rw [← HV.out]; exact HVL.out) HB8.out)
      rw [← HV.out] at HBX
      have HFS : Hid (Fr [g8] v3 (v3.setCells g8 78 V)) := Lib.hid (Fr.setCells (fun _ => by simp) _ 78 _ (Fr.refl _ _))
      have HTH : Hid (v3.there g8 78 V.toArray.size) := Lib.hid (HB8.out.thereM _ _ (by rw [List.size_toArray, List.size_toArray, HVL.out, Wmg.lenz HZL.out]; decide))
      have HVS : Hid ((Tryz.prog.info? 35).map (·.size) = some V.toArray.size) := Lib.hid (by rw [List.size_toArray, HVL.out]; kernel_rfl)
      have HVO : Hid (V.toArray.all (·.oneCell') = true) := Lib.hid (by rw [HV.out]; exact all_oneCell_toArray (Wce.one _))
      go_wp2_with (first
        | (refine wpList_load_mid rfl 35 _ rfl w.heap.size 78 rfl V _ HVR.out Tryz.underlying35 rfl (row_crt.of HVL.out).2 ?_)
        | (refine wpList_store_mid rfl 35 _ _ rfl g8 78 V.toArray rfl rfl HTH.out HVS.out HVO.out ?_))
      go_meet
      have hz := HZO.out.keep (S' := []) HFS.out (by simp)
      have hx := HO1.out.keep (S' := []) HFS.out (by simp)
      refine ⟨rfl, {z0 with ce := x1.ce}, HBX.out, ⟨hz.q, hz.f, hz.t, hz.cm, hz.st, hx.ce, hz.ak, hz.e, hz.r, hz.tm, hz.pr, hz.po, hz.vt, hz.i, hz.en, hz.op, hz.dn, hz.rp, hz.de⟩, ?_, HZQ.out.1.trans HQ1.out, HFS.out⟩
      rw [onlyC_3 (show ({z0 with ce := x1.ce} : Wmg).con.q = 3 from HZQ.out.1.trans HQ1.out), onlyC_3 (show x1.con.q = 3 from HQ1.out)]
      show ({(mz 3 z0.f z0.t).con with ce := x1.con.ce} : Cmg) = {(mz 3 x1.f x1.t).con with ce := x1.con.ce}
      rw [HZQ.out.2.1, HZQ.out.2.2]
    · obtain ⟨V, hV⟩ : ∃ V, V = x1.ak.cells := ⟨_, rfl⟩
      have HVL : Hid (V.length = 38) := Lib.hid (by rw [hV]; exact Wst.len HO1.out.ak.h)
      have HVR : Hid (v3.rangeAt w.heap.size 116 V) := Lib.hid (by rw [hV]; exact HAT1.out.ak)
      have HV := Lib.hid hV
      clear hV
      have HBX := Lib.hid (Wmg.blk_ak HZL.out x1.ak (by rw [← HV.out]; exact HVL.out) HB8.out)
      rw [← HV.out] at HBX
      have HFS : Hid (Fr [g8] v3 (v3.setCells g8 116 V)) := Lib.hid (Fr.setCells (fun _ => by simp) _ 116 _ (Fr.refl _ _))
      have HTH : Hid (v3.there g8 116 V.toArray.size) := Lib.hid (HB8.out.thereM _ _ (by rw [List.size_toArray, List.size_toArray, HVL.out, Wmg.lenz HZL.out]; decide))
      have HVS : Hid ((Tryz.prog.info? 37).map (·.size) = some V.toArray.size) := Lib.hid (by rw [List.size_toArray, HVL.out]; kernel_rfl)
      have HVO : Hid (V.toArray.all (·.oneCell') = true) := Lib.hid (by rw [HV.out]; exact all_oneCell_toArray (Wst.one _))
      go_wp2_with (first
        | (refine wpList_load_mid rfl 37 _ rfl w.heap.size 116 rfl V _ HVR.out Tryz.underlying37 rfl (row_akO.of HVL.out).2 ?_)
        | (refine wpList_store_mid rfl 37 _ _ rfl g8 116 V.toArray rfl rfl HTH.out HVS.out HVO.out ?_))
      go_meet
      have hz := HZO.out.keep (S' := []) HFS.out (by simp)
      have hx := HO1.out.keep (S' := []) HFS.out (by simp)
      refine ⟨rfl, {z0 with ak := x1.ak}, HBX.out, ⟨hz.q, hz.f, hz.t, hz.cm, hz.st, hz.ce, HO1.out.ak, hz.e, hz.r, hz.tm, hz.pr, hz.po, hz.vt, hz.i, hz.en, hz.op, hz.dn, hz.rp, hz.de⟩, ?_, HZQ.out.1.trans HQ1.out, HFS.out⟩
      rw [onlyC_4 (show ({z0 with ak := x1.ak} : Wmg).con.q = 4 from HZQ.out.1.trans HQ1.out), onlyC_4 (show x1.con.q = 4 from HQ1.out)]
      show ({(mz 4 z0.f z0.t).con with ak := x1.con.ak} : Cmg) = {(mz 4 x1.f x1.t).con with ak := x1.con.ak}
      rw [HZQ.out.2.1, HZQ.out.2.2]
    · skip
      have HCe : Hid (v3.cell? ⟨w.heap.size, 0 + 154, none⟩ = some (.int .i64 x1.e)) := Lib.hid (by have h := HAT1.out.e 0 _ rfl; simpa using h)
      have HCr : Hid (v3.cell? ⟨w.heap.size, 0 + 155, none⟩ = some (.int .i64 x1.r)) := Lib.hid (by have h := HAT1.out.r 0 _ rfl; simpa using h)
      have HCm : Hid (v3.cell? ⟨w.heap.size, 0 + 156, none⟩ = some (.int .u64 (x1.tm : Int))) := Lib.hid (by have h := HAT1.out.tm 0 _ rfl; simpa using h)
      go_upto_region 18 with (fail)
      refine wp_region_held_drew (S := Fr [g8] v3) (by kernel_rfl) (Fr.drew (Fr.refl _ v3)) (fun hHeld => ?_)
      refine run_at (i := 0) (v := ?_) rfl (by kernel_rfl) (by rfl) (fun _ _ _ h => h) hHeld (fun w1 hw1 => ?_) ?_
      rotate_left 1
      · skip
        go_simp
        (try (first | with_reducible rfl | (apply And.intro <;> rfl)))
      simp only [Act.put, List.setIfInBounds_toArray, List.set_cons_zero, List.set_cons_succ]
      refine run_at (i := 1) (v := ?_) rfl (by kernel_rfl) (by rfl) (fun _ _ _ h => h) hHeld (fun w1 hw1 => ?_) ?_
      rotate_left 1
      · skip
        have hcw0 := hw1.cell (HCe.out) (by first | (simp; done) | exact HNS.out | exact HNW.out | (intro hm; have hlt := HSB.out _ hm; (try dsimp only at hlt); omega))
        go_simp
        (try (first | with_reducible rfl | (apply And.intro <;> rfl)))
      simp only [Act.put, List.setIfInBounds_toArray, List.set_cons_zero, List.set_cons_succ]
      refine run_at (i := 2) (v := ?_) rfl (by kernel_rfl) (by rfl) (fun _ _ _ h => h) hHeld (fun w1 hw1 => ?_) ?_
      rotate_left 1
      · skip
        go_simp
        (try (first | with_reducible rfl | (apply And.intro <;> rfl)))
      simp only [Act.put, List.setIfInBounds_toArray, List.set_cons_zero, List.set_cons_succ]
      refine run_at (i := 3) (v := ?_) rfl (by kernel_rfl) (by rfl) (fun _ _ _ h => h) hHeld (fun w1 hw1 => ?_) ?_
      rotate_left 1
      · skip
        have hcw0 := hw1.cell (HCr.out) (by first | (simp; done) | exact HNS.out | exact HNW.out | (intro hm; have hlt := HSB.out _ hm; (try dsimp only at hlt); omega))
        go_simp
        (try (first | with_reducible rfl | (apply And.intro <;> rfl)))
      simp only [Act.put, List.setIfInBounds_toArray, List.set_cons_zero, List.set_cons_succ]
      refine run_at (i := 4) (v := ?_) rfl (by kernel_rfl) (by rfl) (fun _ _ _ h => h) hHeld (fun w1 hw1 => ?_) ?_
      rotate_left 1
      · skip
        go_simp
        (try (first | with_reducible rfl | (apply And.intro <;> rfl)))
      simp only [Act.put, List.setIfInBounds_toArray, List.set_cons_zero, List.set_cons_succ]
      refine run_at (i := 5) (v := ?_) rfl (by kernel_rfl) (by rfl) (fun _ _ _ h => h) hHeld (fun w1 hw1 => ?_) ?_
      rotate_left 1
      · skip
        have hcw0 := hw1.cell (HCm.out) (by first | (simp; done) | exact HNS.out | exact HNW.out | (intro hm; have hlt := HSB.out _ hm; (try dsimp only at hlt); omega))
        go_simp
        (try (first | with_reducible rfl | (apply And.intro <;> rfl)))
      simp only [Act.put, List.setIfInBounds_toArray, List.set_cons_zero, List.set_cons_succ]
      refine run_at (i := 6) (v := ?_) rfl (by kernel_rfl) (by rfl) (fun _ _ _ h => h) hHeld (fun w1 hw1 => ?_) ?_
      rotate_left 1
      · skip
        go_simp
        (try (first | with_reducible rfl | (apply And.intro <;> rfl)))
      simp only [Act.put, List.setIfInBounds_toArray, List.set_cons_zero, List.set_cons_succ]
      have HBx0 := Lib.hid HB8.out.drew
      have HFS : Hid (Fr [g8] v3 v3.drew) := Lib.hid hHeld
      generalize v3.drew = u0 at *
      refine step_at (i := 7) rfl (by kernel_rfl) (by rfl) (fun K hK => ?_)
      refine wp_store_at 3 _ _ rfl g8 154 (.int .i64 x1.e) rfl rfl rfl 61 _ HBx0.out (HLT.out _ HZL.out 154 (by omega)) HSI.out ?_
      refine hK.out _ _ (Fr.setCells (fun _ => by simp) ([.int .i64 x1.e]) 154 _ hHeld) (fun hHeld => ?_)
      clear hK K
      have HBx1 := Lib.hid (Wmg.blk_e HZL.out x1.e HBx0.out)
      have HZx1 : Hid (Wmg.Len {z0 with e := x1.e}) := Lib.hid ⟨HZL.out.cm, HZL.out.st, HZL.out.ce, HZL.out.ak, HZL.out.vt, HZL.out.en, HZL.out.op⟩
      have HFS : Hid (Fr [g8] v3 (u0.setCells g8 154 ([.int .i64 x1.e]))) := Lib.hid hHeld
      generalize u0.setCells g8 154 ([.int .i64 x1.e]) = u1 at *
      simp only [Act.put, List.setIfInBounds_toArray, List.set_cons_zero, List.set_cons_succ]
      refine run_at (i := 8) (v := ?_) rfl (by kernel_rfl) (by rfl) (fun _ _ _ h => h) hHeld (fun w1 hw1 => ?_) ?_
      rotate_left 1
      · skip
        go_simp
        (try (first | with_reducible rfl | (apply And.intro <;> rfl)))
      simp only [Act.put, List.setIfInBounds_toArray, List.set_cons_zero, List.set_cons_succ]
      refine step_at (i := 9) rfl (by kernel_rfl) (by rfl) (fun K hK => ?_)
      refine wp_store_at 3 _ _ rfl g8 155 (.int .i64 x1.r) rfl rfl rfl 61 _ HBx1.out (HLT.out _ HZx1.out 155 (by omega)) HSI.out ?_
      refine hK.out _ _ (Fr.setCells (fun _ => by simp) ([.int .i64 x1.r]) 155 _ hHeld) (fun hHeld => ?_)
      clear hK K
      have HBx2 := Lib.hid (Wmg.blk_r HZx1.out x1.r HBx1.out)
      have HZx2 : Hid (Wmg.Len {z0 with e := x1.e, r := x1.r}) := Lib.hid ⟨HZL.out.cm, HZL.out.st, HZL.out.ce, HZL.out.ak, HZL.out.vt, HZL.out.en, HZL.out.op⟩
      have HFS : Hid (Fr [g8] v3 (u1.setCells g8 155 ([.int .i64 x1.r]))) := Lib.hid hHeld
      generalize u1.setCells g8 155 ([.int .i64 x1.r]) = u2 at *
      simp only [Act.put, List.setIfInBounds_toArray, List.set_cons_zero, List.set_cons_succ]
      refine run_at (i := 10) (v := ?_) rfl (by kernel_rfl) (by rfl) (fun _ _ _ h => h) hHeld (fun w1 hw1 => ?_) ?_
      rotate_left 1
      · skip
        go_simp
        (try (first | with_reducible rfl | (apply And.intro <;> rfl)))
      simp only [Act.put, List.setIfInBounds_toArray, List.set_cons_zero, List.set_cons_succ]
      refine step_at (i := 11) rfl (by kernel_rfl) (by rfl) (fun K hK => ?_)
      refine wp_store_at 30 _ _ rfl g8 156 (.int .u64 (x1.tm : Int)) rfl rfl rfl 61 _ HBx2.out (HLT.out _ HZx2.out 156 (by omega)) HSU.out ?_
      refine hK.out _ _ (Fr.setCells (fun _ => by simp) ([.int .u64 (x1.tm : Int)]) 156 _ hHeld) (fun hHeld => ?_)
      clear hK K
      have HBx3 := Lib.hid (Wmg.blk_tm HZx2.out x1.tm HBx2.out)
      have HZx3 : Hid (Wmg.Len {z0 with e := x1.e, r := x1.r, tm := x1.tm}) := Lib.hid ⟨HZL.out.cm, HZL.out.st, HZL.out.ce, HZL.out.ak, HZL.out.vt, HZL.out.en, HZL.out.op⟩
      have HFS : Hid (Fr [g8] v3 (u2.setCells g8 156 ([.int .u64 (x1.tm : Int)]))) := Lib.hid hHeld
      generalize u2.setCells g8 156 ([.int .u64 (x1.tm : Int)]) = u3 at *
      simp only [Act.put, List.setIfInBounds_toArray, List.set_cons_zero, List.set_cons_succ]
      refine wpAnyH_done (by kernel_rfl) ?_ _
      have HBX := Lib.hid HBx3.out
      go_wp2_with fail
      go_meet
      have hz := HZO.out.keep (S' := []) HFS.out (by simp)
      have hx := HO1.out.keep (S' := []) HFS.out (by simp)
      refine ⟨rfl, {z0 with e := x1.e, r := x1.r, tm := x1.tm}, HBX.out, ⟨hz.q, hz.f, hz.t, hz.cm, hz.st, hz.ce, hz.ak, HO1.out.e, HO1.out.r, HO1.out.tm, hz.pr, hz.po, hz.vt, hz.i, hz.en, hz.op, hz.dn, hz.rp, hz.de⟩, ?_, HZQ.out.1.trans HQ1.out, HFS.out⟩
      rw [onlyC_5 (show ({z0 with e := x1.e, r := x1.r, tm := x1.tm} : Wmg).con.q = 5 from HZQ.out.1.trans HQ1.out), onlyC_5 (show x1.con.q = 5 from HQ1.out)]
      show ({(mz 5 z0.f z0.t).con with e := x1.con.e, r := x1.con.r, tm := x1.con.tm} : Cmg) = {(mz 5 x1.f x1.t).con with e := x1.con.e, r := x1.con.r, tm := x1.con.tm}
      rw [HZQ.out.2.1, HZQ.out.2.2]
    · obtain ⟨V, hV⟩ : ∃ V, V = x1.pr.cells := ⟨_, rfl⟩
      have HVL : Hid (V.length = 6) := Lib.hid (by rw [hV]; exact Wpr.len _)
      have HVR : Hid (v3.rangeAt w.heap.size 157 V) := Lib.hid (by rw [hV]; exact HAT1.out.pr)
      have HV := Lib.hid hV
      clear hV
      have HBX := Lib.hid (Wmg.blk_pr HZL.out x1.pr (by rw [← HV.out]; exact HVL.out) HB8.out)
      rw [← HV.out] at HBX
      have HFS : Hid (Fr [g8] v3 (v3.setCells g8 157 V)) := Lib.hid (Fr.setCells (fun _ => by simp) _ 157 _ (Fr.refl _ _))
      have HTH : Hid (v3.there g8 157 V.toArray.size) := Lib.hid (HB8.out.thereM _ _ (by rw [List.size_toArray, List.size_toArray, HVL.out, Wmg.lenz HZL.out]; decide))
      have HVS : Hid ((Tryz.prog.info? 40).map (·.size) = some V.toArray.size) := Lib.hid (by rw [List.size_toArray, HVL.out]; kernel_rfl)
      have HVO : Hid (V.toArray.all (·.oneCell') = true) := Lib.hid (by rw [HV.out]; exact all_oneCell_toArray (Wpr.one _))
      go_wp2_with (first
        | (refine wpList_load_mid rfl 40 _ rfl w.heap.size 157 rfl V _ HVR.out Tryz.underlying40 rfl (row_prm.of HVL.out).2 ?_)
        | (refine wpList_store_mid rfl 40 _ _ rfl g8 157 V.toArray rfl rfl HTH.out HVS.out HVO.out ?_))
      go_meet
      have hz := HZO.out.keep (S' := []) HFS.out (by simp)
      have hx := HO1.out.keep (S' := []) HFS.out (by simp)
      refine ⟨rfl, {z0 with pr := x1.pr}, HBX.out, ⟨hz.q, hz.f, hz.t, hz.cm, hz.st, hz.ce, hz.ak, hz.e, hz.r, hz.tm, hx.pr, hz.po, hz.vt, hz.i, hz.en, hz.op, hz.dn, hz.rp, hz.de⟩, ?_, HZQ.out.1.trans HQ1.out, HFS.out⟩
      rw [onlyC_6 (show ({z0 with pr := x1.pr} : Wmg).con.q = 6 from HZQ.out.1.trans HQ1.out), onlyC_6 (show x1.con.q = 6 from HQ1.out)]
      show ({(mz 6 z0.f z0.t).con with pr := x1.con.pr} : Cmg) = {(mz 6 x1.f x1.t).con with pr := x1.con.pr}
      rw [HZQ.out.2.1, HZQ.out.2.2]
    · obtain ⟨V, hV⟩ : ∃ V, V = x1.po.cells := ⟨_, rfl⟩
      have HVL : Hid (V.length = 11) := Lib.hid (by rw [hV]; exact Wpo.len _)
      have HVR : Hid (v3.rangeAt w.heap.size 163 V) := Lib.hid (by rw [hV]; exact HAT1.out.po)
      have HV := Lib.hid hV
      clear hV
      have HBX := Lib.hid (Wmg.blk_po HZL.out x1.po (by rw [← HV.out]; exact HVL.out) HB8.out)
      rw [← HV.out] at HBX
      have HFS : Hid (Fr [g8] v3 (v3.setCells g8 163 V)) := Lib.hid (Fr.setCells (fun _ => by simp) _ 163 _ (Fr.refl _ _))
      have HTH : Hid (v3.there g8 163 V.toArray.size) := Lib.hid (HB8.out.thereM _ _ (by rw [List.size_toArray, List.size_toArray, HVL.out, Wmg.lenz HZL.out]; decide))
      have HVS : Hid ((Tryz.prog.info? 47).map (·.size) = some V.toArray.size) := Lib.hid (by rw [List.size_toArray, HVL.out]; kernel_rfl)
      have HVO : Hid (V.toArray.all (·.oneCell') = true) := Lib.hid (by rw [HV.out]; exact all_oneCell_toArray (Wpo.one _))
      go_wp2_with (first
        | (refine wpList_load_mid rfl 47 _ rfl w.heap.size 163 rfl V _ HVR.out Tryz.underlying47 rfl (row_poC.of HVL.out).2 ?_)
        | (refine wpList_store_mid rfl 47 _ _ rfl g8 163 V.toArray rfl rfl HTH.out HVS.out HVO.out ?_))
      go_meet
      have hz := HZO.out.keep (S' := []) HFS.out (by simp)
      have hx := HO1.out.keep (S' := []) HFS.out (by simp)
      refine ⟨rfl, {z0 with po := x1.po}, HBX.out, ⟨hz.q, hz.f, hz.t, hz.cm, hz.st, hz.ce, hz.ak, hz.e, hz.r, hz.tm, hz.pr, hx.po, hz.vt, hz.i, hz.en, hz.op, hz.dn, hz.rp, hz.de⟩, ?_, HZQ.out.1.trans HQ1.out, HFS.out⟩
      rw [onlyC_7 (show ({z0 with po := x1.po} : Wmg).con.q = 7 from HZQ.out.1.trans HQ1.out), onlyC_7 (show x1.con.q = 7 from HQ1.out)]
      show ({(mz 7 z0.f z0.t).con with po := x1.con.po} : Cmg) = {(mz 7 x1.f x1.t).con with po := x1.con.po}
      rw [HZQ.out.2.1, HZQ.out.2.2]
    · obtain ⟨V, hV⟩ : ∃ V, V = x1.vt.cells := ⟨_, rfl⟩
      have HVL : Hid (V.length = 38) := Lib.hid (by rw [hV]; exact Wvt.len HO1.out.vt.h)
      have HVR : Hid (v3.rangeAt w.heap.size 174 V) := Lib.hid (by rw [hV]; exact HAT1.out.vt)
      have HV := Lib.hid hV
      clear hV
      have HBX := Lib.hid (Wmg.blk_vt HZL.out x1.vt (by rw [← HV.out]; exact HVL.out) HB8.out)
      rw [← HV.out] at HBX
      have HFS : Hid (Fr [g8] v3 (v3.setCells g8 174 V)) := Lib.hid (Fr.setCells (fun _ => by simp) _ 174 _ (Fr.refl _ _))
      have HTH : Hid (v3.there g8 174 V.toArray.size) := Lib.hid (HB8.out.thereM _ _ (by rw [List.size_toArray, List.size_toArray, HVL.out, Wmg.lenz HZL.out]; decide))
      have HVS : Hid ((Tryz.prog.info? 49).map (·.size) = some V.toArray.size) := Lib.hid (by rw [List.size_toArray, HVL.out]; kernel_rfl)
      have HVO : Hid (V.toArray.all (·.oneCell') = true) := Lib.hid (by rw [HV.out]; exact all_oneCell_toArray (Wvt.one _))
      go_wp2_with (first
        | (refine wpList_load_mid rfl 49 _ rfl w.heap.size 174 rfl V _ HVR.out Tryz.underlying49 rfl (row_vtO.of HVL.out).2 ?_)
        | (refine wpList_store_mid rfl 49 _ _ rfl g8 174 V.toArray rfl rfl HTH.out HVS.out HVO.out ?_))
      go_meet
      have hz := HZO.out.keep (S' := []) HFS.out (by simp)
      have hx := HO1.out.keep (S' := []) HFS.out (by simp)
      refine ⟨rfl, {z0 with vt := x1.vt}, HBX.out, ⟨hz.q, hz.f, hz.t, hz.cm, hz.st, hz.ce, hz.ak, hz.e, hz.r, hz.tm, hz.pr, hz.po, HO1.out.vt, hz.i, hz.en, hz.op, hz.dn, hz.rp, hz.de⟩, ?_, HZQ.out.1.trans HQ1.out, HFS.out⟩
      rw [onlyC_8 (show ({z0 with vt := x1.vt} : Wmg).con.q = 8 from HZQ.out.1.trans HQ1.out), onlyC_8 (show x1.con.q = 8 from HQ1.out)]
      show ({(mz 8 z0.f z0.t).con with vt := x1.con.vt} : Cmg) = {(mz 8 x1.f x1.t).con with vt := x1.con.vt}
      rw [HZQ.out.2.1, HZQ.out.2.2]
    · skip
      have HCi : Hid (v3.cell? ⟨w.heap.size, 0 + 212, none⟩ = some (.int .i64 x1.i)) := Lib.hid (by have h := HAT1.out.i 0 _ rfl; simpa using h)
      obtain ⟨V, hV⟩ : ∃ V, V = x1.en.cells := ⟨_, rfl⟩
      have HVL : Hid (V.length = 35) := Lib.hid (by rw [hV]; exact Wen.len HO1.out.en.h)
      have HVR : Hid (v3.rangeAt w.heap.size 213 V) := Lib.hid (by rw [hV]; exact HAT1.out.en)
      have HV := Lib.hid hV
      clear hV
      go_upto_region 26 with (fail)
      refine wp_region_held_drew (S := Fr [g8] v3) (by kernel_rfl) (Fr.drew (Fr.refl _ v3)) (fun hHeld => ?_)
      refine run_at (i := 0) (v := ?_) rfl (by kernel_rfl) (by rfl) (fun _ _ _ h => h) hHeld (fun w1 hw1 => ?_) ?_
      rotate_left 1
      · skip
        go_simp
        (try (first | with_reducible rfl | (apply And.intro <;> rfl)))
      simp only [Act.put, List.setIfInBounds_toArray, List.set_cons_zero, List.set_cons_succ]
      refine run_at (i := 1) (v := ?_) rfl (by kernel_rfl) (by rfl) (fun _ _ _ h => h) hHeld (fun w1 hw1 => ?_) ?_
      rotate_left 1
      · skip
        have hcw0 := hw1.cell (HCi.out) (by first | (simp; done) | exact HNS.out | exact HNW.out | (intro hm; have hlt := HSB.out _ hm; (try dsimp only at hlt); omega))
        go_simp
        (try (first | with_reducible rfl | (apply And.intro <;> rfl)))
      simp only [Act.put, List.setIfInBounds_toArray, List.set_cons_zero, List.set_cons_succ]
      refine run_at (i := 2) (v := ?_) rfl (by kernel_rfl) (by rfl) (fun _ _ _ h => h) hHeld (fun w1 hw1 => ?_) ?_
      rotate_left 1
      · skip
        go_simp
        (try (first | with_reducible rfl | (apply And.intro <;> rfl)))
      simp only [Act.put, List.setIfInBounds_toArray, List.set_cons_zero, List.set_cons_succ]
      refine row_at (i := 3) rfl (by kernel_rfl) (by rfl) _ _ rfl _ _ rfl _ (fun w1 hw1 => hw1.range (HVR.out) (by first | (simp; done) | exact HNS.out | exact HNW.out | (intro hm; have hlt := HSB.out _ hm; (try dsimp only at hlt); omega))) (row_ent.of HVL.out) (fun _ _ _ h => h) hHeld ?_
      simp only [Act.put, List.setIfInBounds_toArray, List.set_cons_zero, List.set_cons_succ]
      refine run_at (i := 4) (v := ?_) rfl (by kernel_rfl) (by rfl) (fun _ _ _ h => h) hHeld (fun w1 hw1 => ?_) ?_
      rotate_left 1
      · skip
        go_simp
        (try (first | with_reducible rfl | (apply And.intro <;> rfl)))
      simp only [Act.put, List.setIfInBounds_toArray, List.set_cons_zero, List.set_cons_succ]
      have HBx0 := Lib.hid HB8.out.drew
      have HFS : Hid (Fr [g8] v3 v3.drew) := Lib.hid hHeld
      generalize v3.drew = u0 at *
      refine step_at (i := 5) rfl (by kernel_rfl) (by rfl) (fun K hK => ?_)
      refine wp_store_at 3 _ _ rfl g8 212 (.int .i64 x1.i) rfl rfl rfl 61 _ HBx0.out (HLT.out _ HZL.out 212 (by omega)) HSI.out ?_
      refine hK.out _ _ (Fr.setCells (fun _ => by simp) ([.int .i64 x1.i]) 212 _ hHeld) (fun hHeld => ?_)
      clear hK K
      have HBx1 := Lib.hid (Wmg.blk_i HZL.out x1.i HBx0.out)
      have HZx1 : Hid (Wmg.Len {z0 with i := x1.i}) := Lib.hid ⟨HZL.out.cm, HZL.out.st, HZL.out.ce, HZL.out.ak, HZL.out.vt, HZL.out.en, HZL.out.op⟩
      have HFS : Hid (Fr [g8] v3 (u0.setCells g8 212 ([.int .i64 x1.i]))) := Lib.hid hHeld
      generalize u0.setCells g8 212 ([.int .i64 x1.i]) = u1 at *
      simp only [Act.put, List.setIfInBounds_toArray, List.set_cons_zero, List.set_cons_succ]
      refine run_at (i := 6) (v := ?_) rfl (by kernel_rfl) (by rfl) (fun _ _ _ h => h) hHeld (fun w1 hw1 => ?_) ?_
      rotate_left 1
      · skip
        go_simp
        (try (first | with_reducible rfl | (apply And.intro <;> rfl)))
      simp only [Act.put, List.setIfInBounds_toArray, List.set_cons_zero, List.set_cons_succ]
      refine step_at (i := 7) rfl (by kernel_rfl) (by rfl) (fun K hK => ?_)
      refine wp_store_mid 51 _ _ rfl g8 213 V.toArray rfl rfl (HBx1.out.thereM _ _ (by rw [List.size_toArray, List.size_toArray, HVL.out, Wmg.lenz HZx1.out]; decide)) (by rw [List.size_toArray, HVL.out]; kernel_rfl) (by rw [HV.out]; exact all_oneCell_toArray (Wen.one _)) ?_
      refine hK.out _ _ (Fr.setCells (fun _ => by simp) (V) 213 _ hHeld) (fun hHeld => ?_)
      clear hK K
      have HBx2 := Lib.hid (Wmg.blk_en HZx1.out x1.en (Wen.len HO1.out.en.h) HBx1.out)
      have HZx2 : Hid (Wmg.Len {z0 with i := x1.i, en := x1.en}) := Lib.hid ⟨HZL.out.cm, HZL.out.st, HZL.out.ce, HZL.out.ak, HZL.out.vt, HO1.out.en.h, HZL.out.op⟩
      rw [← HV.out] at HBx2
      have HFS : Hid (Fr [g8] v3 (u1.setCells g8 213 (V))) := Lib.hid hHeld
      generalize u1.setCells g8 213 (V) = u2 at *
      simp only [Act.put, List.setIfInBounds_toArray, List.set_cons_zero, List.set_cons_succ]
      refine wpAnyH_done (by kernel_rfl) ?_ _
      have HBX := Lib.hid HBx2.out
      go_wp2_with fail
      go_meet
      have hz := HZO.out.keep (S' := []) HFS.out (by simp)
      have hx := HO1.out.keep (S' := []) HFS.out (by simp)
      refine ⟨rfl, {z0 with i := x1.i, en := x1.en}, HBX.out, ⟨hz.q, hz.f, hz.t, hz.cm, hz.st, hz.ce, hz.ak, hz.e, hz.r, hz.tm, hz.pr, hz.po, hz.vt, HO1.out.i, HO1.out.en, hz.op, hz.dn, hz.rp, hz.de⟩, ?_, HZQ.out.1.trans HQ1.out, HFS.out⟩
      rw [onlyC_9 (show ({z0 with i := x1.i, en := x1.en} : Wmg).con.q = 9 from HZQ.out.1.trans HQ1.out), onlyC_9 (show x1.con.q = 9 from HQ1.out)]
      show ({(mz 9 z0.f z0.t).con with i := x1.con.i, en := x1.con.en} : Cmg) = {(mz 9 x1.f x1.t).con with i := x1.con.i, en := x1.con.en}
      rw [HZQ.out.2.1, HZQ.out.2.2]
    · obtain ⟨V, hV⟩ : ∃ V, V = x1.op.cells := ⟨_, rfl⟩
      have HVL : Hid (V.length = 34) := Lib.hid (by rw [hV]; exact Wop.len HO1.out.op.h)
      have HVR : Hid (v3.rangeAt w.heap.size 248 V) := Lib.hid (by rw [hV]; exact HAT1.out.op)
      have HV := Lib.hid hV
      clear hV
      have HBX := Lib.hid (Wmg.blk_op HZL.out x1.op (by rw [← HV.out]; exact HVL.out) HB8.out)
      rw [← HV.out] at HBX
      have HFS : Hid (Fr [g8] v3 (v3.setCells g8 248 V)) := Lib.hid (Fr.setCells (fun _ => by simp) _ 248 _ (Fr.refl _ _))
      have HTH : Hid (v3.there g8 248 V.toArray.size) := Lib.hid (HB8.out.thereM _ _ (by rw [List.size_toArray, List.size_toArray, HVL.out, Wmg.lenz HZL.out]; decide))
      have HVS : Hid ((Tryz.prog.info? 54).map (·.size) = some V.toArray.size) := Lib.hid (by rw [List.size_toArray, HVL.out]; kernel_rfl)
      have HVO : Hid (V.toArray.all (·.oneCell') = true) := Lib.hid (by rw [HV.out]; exact all_oneCell_toArray (Wop.one _))
      go_wp2_with (first
        | (refine wpList_load_mid rfl 54 _ rfl w.heap.size 248 rfl V _ HVR.out Tryz.underlying54 rfl (row_opn.of HVL.out).2 ?_)
        | (refine wpList_store_mid rfl 54 _ _ rfl g8 248 V.toArray rfl rfl HTH.out HVS.out HVO.out ?_))
      go_meet
      have hz := HZO.out.keep (S' := []) HFS.out (by simp)
      have hx := HO1.out.keep (S' := []) HFS.out (by simp)
      refine ⟨rfl, {z0 with op := x1.op}, HBX.out, ⟨hz.q, hz.f, hz.t, hz.cm, hz.st, hz.ce, hz.ak, hz.e, hz.r, hz.tm, hz.pr, hz.po, hz.vt, hz.i, hz.en, hx.op, hz.dn, hz.rp, hz.de⟩, ?_, HZQ.out.1.trans HQ1.out, HFS.out⟩
      rw [onlyC_10 (show ({z0 with op := x1.op} : Wmg).con.q = 10 from HZQ.out.1.trans HQ1.out), onlyC_10 (show x1.con.q = 10 from HQ1.out)]
      show ({(mz 10 z0.f z0.t).con with op := x1.con.op} : Cmg) = {(mz 10 x1.f x1.t).con with op := x1.con.op}
      rw [HZQ.out.2.1, HZQ.out.2.2]
    · have hci : v3.cell? ⟨w.heap.size, 212, none⟩ = some (.int .i64 x1.i) := by have h := HAT1.out.i 0 _ rfl; simpa using h
      have HBX := Lib.hid (Wmg.blk_i HZL.out x1.i HB8.out)
      have HFS : Hid (Fr [g8] v3 (v3.setCells g8 212 [.int .i64 x1.i])) := Lib.hid (Fr.setCells (fun _ => by simp) _ 212 _ (Fr.refl _ _))
      go_wp2_with (refine wpList_store_at rfl 3 _ _ rfl g8 212 (.int .i64 x1.i) rfl rfl rfl 61 _ HB8.out (HLT.out _ HZL.out 212 (by omega)) HSI.out ?_)
      go_meet
      have hz := HZO.out.keep (S' := []) HFS.out (by simp)
      have hx := HO1.out.keep (S' := []) HFS.out (by simp)
      refine ⟨rfl, {z0 with i := x1.i}, HBX.out, ⟨hz.q, hz.f, hz.t, hz.cm, hz.st, hz.ce, hz.ak, hz.e, hz.r, hz.tm, hz.pr, hz.po, hz.vt, HO1.out.i, hz.en, hz.op, hz.dn, hz.rp, hz.de⟩, ?_, HZQ.out.1.trans HQ1.out, HFS.out⟩
      rw [onlyC_11 (show ({z0 with i := x1.i} : Wmg).con.q = 11 from HZQ.out.1.trans HQ1.out), onlyC_11 (show x1.con.q = 11 from HQ1.out)]
      show ({(mz 11 z0.f z0.t).con with i := x1.con.i} : Cmg) = {(mz 11 x1.f x1.t).con with i := x1.con.i}
      rw [HZQ.out.2.1, HZQ.out.2.2]
    · obtain ⟨V, hV⟩ : ∃ V, V = x1.dn.cells := ⟨_, rfl⟩
      have HVL : Hid (V.length = 4) := Lib.hid (by rw [hV]; exact Wdn.len _)
      have HVR : Hid (v3.rangeAt w.heap.size 282 V) := Lib.hid (by rw [hV]; exact HAT1.out.dn)
      have HV := Lib.hid hV
      clear hV
      have HBX := Lib.hid (Wmg.blk_dn HZL.out x1.dn (by rw [← HV.out]; exact HVL.out) HB8.out)
      rw [← HV.out] at HBX
      have HFS : Hid (Fr [g8] v3 (v3.setCells g8 282 V)) := Lib.hid (Fr.setCells (fun _ => by simp) _ 282 _ (Fr.refl _ _))
      have HTH : Hid (v3.there g8 282 V.toArray.size) := Lib.hid (HB8.out.thereM _ _ (by rw [List.size_toArray, List.size_toArray, HVL.out, Wmg.lenz HZL.out]; decide))
      have HVS : Hid ((Tryz.prog.info? 56).map (·.size) = some V.toArray.size) := Lib.hid (by rw [List.size_toArray, HVL.out]; kernel_rfl)
      have HVO : Hid (V.toArray.all (·.oneCell') = true) := Lib.hid (by rw [HV.out]; exact all_oneCell_toArray (Wdn.one _))
      go_wp2_with (first
        | (refine wpList_load_mid rfl 56 _ rfl w.heap.size 282 rfl V _ HVR.out Tryz.underlying56 rfl (row_dnO.of HVL.out).2 ?_)
        | (refine wpList_store_mid rfl 56 _ _ rfl g8 282 V.toArray rfl rfl HTH.out HVS.out HVO.out ?_))
      go_meet
      have hz := HZO.out.keep (S' := []) HFS.out (by simp)
      have hx := HO1.out.keep (S' := []) HFS.out (by simp)
      refine ⟨rfl, {z0 with dn := x1.dn}, HBX.out, ⟨hz.q, hz.f, hz.t, hz.cm, hz.st, hz.ce, hz.ak, hz.e, hz.r, hz.tm, hz.pr, hz.po, hz.vt, hz.i, hz.en, hz.op, HO1.out.dn, hz.rp, hz.de⟩, ?_, HZQ.out.1.trans HQ1.out, HFS.out⟩
      rw [onlyC_12 (show ({z0 with dn := x1.dn} : Wmg).con.q = 12 from HZQ.out.1.trans HQ1.out), onlyC_12 (show x1.con.q = 12 from HQ1.out)]
      show ({(mz 12 z0.f z0.t).con with dn := x1.con.dn} : Cmg) = {(mz 12 x1.f x1.t).con with dn := x1.con.dn}
      rw [HZQ.out.2.1, HZQ.out.2.2]
    · skip
      have HCi : Hid (v3.cell? ⟨w.heap.size, 0 + 212, none⟩ = some (.int .i64 x1.i)) := Lib.hid (by have h := HAT1.out.i 0 _ rfl; simpa using h)
      have HCs : Hid (v3.cell? ⟨w.heap.size, 0 + 286, none⟩ = some (.string ⟨x1.rp.toArray⟩)) := Lib.hid (by have h := HAT1.out.rp 0 _ rfl; simpa using h)
      go_upto_region 34 with (fail)
      refine wp_region_held_drew (S := Fr [g8] v3) (by kernel_rfl) (Fr.drew (Fr.refl _ v3)) (fun hHeld => ?_)
      refine run_at (i := 0) (v := ?_) rfl (by kernel_rfl) (by rfl) (fun _ _ _ h => h) hHeld (fun w1 hw1 => ?_) ?_
      rotate_left 1
      · skip
        go_simp
        (try (first | with_reducible rfl | (apply And.intro <;> rfl)))
      simp only [Act.put, List.setIfInBounds_toArray, List.set_cons_zero, List.set_cons_succ]
      refine run_at (i := 1) (v := ?_) rfl (by kernel_rfl) (by rfl) (fun _ _ _ h => h) hHeld (fun w1 hw1 => ?_) ?_
      rotate_left 1
      · skip
        have hcw0 := hw1.cell (HCi.out) (by first | (simp; done) | exact HNS.out | exact HNW.out | (intro hm; have hlt := HSB.out _ hm; (try dsimp only at hlt); omega))
        go_simp
        (try (first | with_reducible rfl | (apply And.intro <;> rfl)))
      simp only [Act.put, List.setIfInBounds_toArray, List.set_cons_zero, List.set_cons_succ]
      refine run_at (i := 2) (v := ?_) rfl (by kernel_rfl) (by rfl) (fun _ _ _ h => h) hHeld (fun w1 hw1 => ?_) ?_
      rotate_left 1
      · skip
        go_simp
        (try (first | with_reducible rfl | (apply And.intro <;> rfl)))
      simp only [Act.put, List.setIfInBounds_toArray, List.set_cons_zero, List.set_cons_succ]
      refine run_at (i := 3) (v := ?_) rfl (by kernel_rfl) (by rfl) (fun _ _ _ h => h) hHeld (fun w1 hw1 => ?_) ?_
      rotate_left 1
      · skip
        have hcw0 := hw1.cell (HCs.out) (by first | (simp; done) | exact HNS.out | exact HNW.out | (intro hm; have hlt := HSB.out _ hm; (try dsimp only at hlt); omega))
        go_simp
        (try (first | with_reducible rfl | (apply And.intro <;> rfl)))
      simp only [Act.put, List.setIfInBounds_toArray, List.set_cons_zero, List.set_cons_succ]
      refine run_at (i := 4) (v := ?_) rfl (by kernel_rfl) (by rfl) (fun _ _ _ h => h) hHeld (fun w1 hw1 => ?_) ?_
      rotate_left 1
      · skip
        go_simp
        (try (first | with_reducible rfl | (apply And.intro <;> rfl)))
      simp only [Act.put, List.setIfInBounds_toArray, List.set_cons_zero, List.set_cons_succ]
      have HBx0 := Lib.hid HB8.out.drew
      have HFS : Hid (Fr [g8] v3 v3.drew) := Lib.hid hHeld
      generalize v3.drew = u0 at *
      refine step_at (i := 5) rfl (by kernel_rfl) (by rfl) (fun K hK => ?_)
      refine wp_store_at 3 _ _ rfl g8 212 (.int .i64 x1.i) rfl rfl rfl 61 _ HBx0.out (HLT.out _ HZL.out 212 (by omega)) HSI.out ?_
      refine hK.out _ _ (Fr.setCells (fun _ => by simp) ([.int .i64 x1.i]) 212 _ hHeld) (fun hHeld => ?_)
      clear hK K
      have HBx1 := Lib.hid (Wmg.blk_i HZL.out x1.i HBx0.out)
      have HZx1 : Hid (Wmg.Len {z0 with i := x1.i}) := Lib.hid ⟨HZL.out.cm, HZL.out.st, HZL.out.ce, HZL.out.ak, HZL.out.vt, HZL.out.en, HZL.out.op⟩
      have HFS : Hid (Fr [g8] v3 (u0.setCells g8 212 ([.int .i64 x1.i]))) := Lib.hid hHeld
      generalize u0.setCells g8 212 ([.int .i64 x1.i]) = u1 at *
      simp only [Act.put, List.setIfInBounds_toArray, List.set_cons_zero, List.set_cons_succ]
      refine run_at (i := 6) (v := ?_) rfl (by kernel_rfl) (by rfl) (fun _ _ _ h => h) hHeld (fun w1 hw1 => ?_) ?_
      rotate_left 1
      · skip
        go_simp
        (try (first | with_reducible rfl | (apply And.intro <;> rfl)))
      simp only [Act.put, List.setIfInBounds_toArray, List.set_cons_zero, List.set_cons_succ]
      refine step_at (i := 7) rfl (by kernel_rfl) (by rfl) (fun K hK => ?_)
      refine wp_store_at 9 _ _ rfl g8 286 (.string ⟨x1.rp.toArray⟩) rfl rfl rfl 61 _ HBx1.out (HLT.out _ HZx1.out 286 (by omega)) HSS.out ?_
      refine hK.out _ _ (Fr.setCells (fun _ => by simp) ([.string ⟨x1.rp.toArray⟩]) 286 _ hHeld) (fun hHeld => ?_)
      clear hK K
      have HBx2 := Lib.hid (Wmg.blk_rp HZx1.out x1.rp HBx1.out)
      have HZx2 : Hid (Wmg.Len {z0 with i := x1.i, rp := x1.rp}) := Lib.hid ⟨HZL.out.cm, HZL.out.st, HZL.out.ce, HZL.out.ak, HZL.out.vt, HZL.out.en, HZL.out.op⟩
      have HFS : Hid (Fr [g8] v3 (u1.setCells g8 286 ([.string ⟨x1.rp.toArray⟩]))) := Lib.hid hHeld
      generalize u1.setCells g8 286 ([.string ⟨x1.rp.toArray⟩]) = u2 at *
      simp only [Act.put, List.setIfInBounds_toArray, List.set_cons_zero, List.set_cons_succ]
      refine wpAnyH_done (by kernel_rfl) ?_ _
      have HBX := Lib.hid HBx2.out
      go_wp2_with fail
      go_meet
      have hz := HZO.out.keep (S' := []) HFS.out (by simp)
      have hx := HO1.out.keep (S' := []) HFS.out (by simp)
      refine ⟨rfl, {z0 with i := x1.i, rp := x1.rp}, HBX.out, ⟨hz.q, hz.f, hz.t, hz.cm, hz.st, hz.ce, hz.ak, hz.e, hz.r, hz.tm, hz.pr, hz.po, hz.vt, HO1.out.i, hz.en, hz.op, hz.dn, HO1.out.rp, hz.de⟩, ?_, HZQ.out.1.trans HQ1.out, HFS.out⟩
      rw [onlyC_13 (show ({z0 with i := x1.i, rp := x1.rp} : Wmg).con.q = 13 from HZQ.out.1.trans HQ1.out), onlyC_13 (show x1.con.q = 13 from HQ1.out)]
      show ({(mz 13 z0.f z0.t).con with i := x1.con.i, rp := x1.con.rp} : Cmg) = {(mz 13 x1.f x1.t).con with i := x1.con.i, rp := x1.con.rp}
      rw [HZQ.out.2.1, HZQ.out.2.2]
    · obtain ⟨V, hV⟩ : ∃ V, V = x1.de.cells := ⟨_, rfl⟩
      have HVL : Hid (V.length = 8) := Lib.hid (by rw [hV]; exact rfl)
      have HVR : Hid (v3.rangeAt w.heap.size 287 V) := Lib.hid (by rw [hV]; exact HAT1.out.de)
      have HV := Lib.hid hV
      clear hV
      have HBX := Lib.hid (Wmg.blk_de HZL.out x1.de (by rw [← HV.out]; exact HVL.out) HB8.out)
      rw [← HV.out] at HBX
      have HFS : Hid (Fr [g8] v3 (v3.setCells g8 287 V)) := Lib.hid (Fr.setCells (fun _ => by simp) _ 287 _ (Fr.refl _ _))
      have HTH : Hid (v3.there g8 287 V.toArray.size) := Lib.hid (HB8.out.thereM _ _ (by rw [List.size_toArray, List.size_toArray, HVL.out, Wmg.lenz HZL.out]; decide))
      have HVS : Hid ((Tryz.prog.info? 59).map (·.size) = some V.toArray.size) := Lib.hid (by rw [List.size_toArray, HVL.out]; kernel_rfl)
      have HVO : Hid (V.toArray.all (·.oneCell') = true) := Lib.hid (by rw [HV.out]; exact all_oneCell_toArray (Wdc.one _))
      go_wp2_with (first
        | (refine wpList_load_mid rfl 59 _ rfl w.heap.size 287 rfl V _ HVR.out Tryz.underlying59 rfl (row_dec.of HVL.out).2 ?_)
        | (refine wpList_store_mid rfl 59 _ _ rfl g8 287 V.toArray rfl rfl HTH.out HVS.out HVO.out ?_))
      go_meet
      have hz := HZO.out.keep (S' := []) HFS.out (by simp)
      have hx := HO1.out.keep (S' := []) HFS.out (by simp)
      refine ⟨rfl, {z0 with de := x1.de}, HBX.out, ⟨hz.q, hz.f, hz.t, hz.cm, hz.st, hz.ce, hz.ak, hz.e, hz.r, hz.tm, hz.pr, hz.po, hz.vt, hz.i, hz.en, hz.op, hz.dn, hz.rp, hx.de⟩, ?_, HZQ.out.1.trans HQ1.out, HFS.out⟩
      rw [onlyC_14 (show ({z0 with de := x1.de} : Wmg).con.q = 14 from HZQ.out.1.trans HQ1.out), onlyC_14 (show x1.con.q = 14 from HQ1.out)]
      show ({(mz 14 z0.f z0.t).con with de := x1.con.de} : Cmg) = {(mz 14 x1.f x1.t).con with de := x1.con.de}
      rw [HZQ.out.2.1, HZQ.out.2.2]
  case rest =>
    obtain ⟨rfl, z, hbz, hzo, hzc, hzq, hfz⟩ := hcut
    have HBZ := Lib.hid hbz
    have HZO := Lib.hid hzo
    have HZC := Lib.hid hzc
    have HZQ := Lib.hid hzq
    have HO1 : Hid (x1.Ok wc []) := Lib.hid (HO1.out.keep hfz (by simp))
    have HOK : Hid (o.Ok wc []) := Lib.hid (HOK.out.keep hfz (by simp))
    have HBX1 := Lib.hid (HBX1.out.keep hfz (by have := HG8.out; simp; omega))
    have HBO := Lib.hid (HBO.out.keep hfz (by have := HG8.out; simp; omega))
    have HFB : Hid (Fr [] w wc) := Lib.hid (HFB.out.go hfz (by have := HG8.out; simp; omega))
    clear hbz hzo hzc hzq hfz HB8 HAT1 HZL HK14 HSU HSS HNS
    have HXQ : Hid (1 ≤ x1.q ∧ x1.q ≤ 14) := Lib.hid (by rw [HQ1.out]; exact HK.out)
    have HZX : Hid (z.q = x1.q) := Lib.hid (HZQ.out.trans HQ1.out.symm)
    have HOQ : Hid (o.q = x1.q) := Lib.hid (by have h := congrArg Cmg.q HOC.out; rw [onlyC_q x1.con HXQ.out] at h; exact h)
    have HOO : Hid (onlyC o.con = o.con) := Lib.hid (by rw [HOC.out]; exact onlyC_only x1.con HXQ.out)
    have HBE : Hid (z.bytes = x1.bytes) := Lib.hid (bytes_only x1 z HO1.out HZO.out HXQ.out HZX.out HZC.out.symm).symm
    have HBE2 : Hid (o.bytes = x1.bytes) := Lib.hid (bytes_only x1 o HO1.out HOK.out HXQ.out HOQ.out (by rw [HOO.out]; exact HOC.out.symm)).symm
    have HBL : Hid (x1.bytes.length ≤ 15030) := Lib.hid (Wmg.bytes_len HO1.out)
    obtain ⟨B, hB⟩ : ∃ B, x1.bytes = B := ⟨_, rfl⟩
    rw [hB] at HBE HBE2 HBL
    have HBB := Lib.hid hB
    obtain ⟨E1, hE1⟩ : ∃ E1, x1.cells = E1 := ⟨_, rfl⟩
    obtain ⟨EZ, hEZ⟩ : ∃ EZ, z.cells = EZ := ⟨_, rfl⟩
    obtain ⟨EO, hEO⟩ : ∃ EO, o.cells = EO := ⟨_, rfl⟩
    have HL1 : Hid (E1.length = 295) := Lib.hid (by rw [← hE1]; exact Wmg.lenz HO1.out.len)
    have HLZ : Hid (EZ.length = 295) := Lib.hid (by rw [← hEZ]; exact Wmg.lenz HZO.out.len)
    have HLO : Hid (EO.length = 295) := Lib.hid (by rw [← hEO]; exact Wmg.lenz HOK.out.len)
    rw [hE1] at HBX1
    rw [hEZ] at HBZ
    rw [hEO] at HBO
    have HE1 := Lib.hid hE1
    have HEZ := Lib.hid hEZ
    have HEO := Lib.hid hEO
    have HR1 : Hid (wc.rangeAt w.heap.size 0 E1) := Lib.hid HBX1.out.range
    clear hB hE1 hEZ hEO HMS HME HMO HLT HSI
    go_wp2_with (refine wpList_load_mid rfl 61 _ rfl w.heap.size 0 rfl E1 _ HR1.out Tryz.underlying61 rfl (row_msg.of HL1.out).2 ?_)
    refine (mpack_any x1 wc HO1.out E1 HE1.out).mono ?_
    intro e_ w7 hp
    unfold PackPost at hp
    rw [if_pos HXQ.out, HBB.out] at hp
    obtain ⟨A1, c1, rfl, hn1⟩ := hp
    have HN1 := Lib.hid hn1
    have HRZ : Hid (w7.rangeAt g8 0 EZ) := Lib.hid ((HBZ.out.keep hn1.2.1 (by simp)).range)
    clear hn1 HR1
    go_wp2_with (refine wpList_load_mid rfl 61 _ rfl g8 0 rfl EZ _ HRZ.out Tryz.underlying61 rfl (row_msg.of HLZ.out).2 ?_)
    refine (mpack_any z w7 (HZO.out.keep HN1.out.2.1 (by simp)) EZ HEZ.out).mono ?_
    intro e_ w8 hp
    unfold PackPost at hp
    rw [if_pos (show 1 ≤ z.q ∧ z.q ≤ 14 by rw [HZX.out]; exact HXQ.out), HBE.out] at hp
    obtain ⟨A2, c2, rfl, hn2⟩ := hp
    have HN2 := Lib.hid hn2
    have HF8 : Hid (Fr [] wc w8) := Lib.hid (HN1.out.2.1.and hn2.2.1 (by simp))
    have HRO : Hid (w8.rangeAt g7 0 EO) := Lib.hid ((HBO.out.keep HF8.out (by simp)).range)
    clear hn2 HRZ
    go_wp2_with (refine wpList_load_mid rfl 61 _ rfl g7 0 rfl EO _ HRO.out Tryz.underlying61 rfl (row_msg.of HLO.out).2 ?_)
    refine (mpack_any o w8 (HOK.out.keep HF8.out (by simp)) EO HEO.out).mono ?_
    intro e_ w9 hp
    unfold PackPost at hp
    rw [if_pos (show 1 ≤ o.q ∧ o.q ≤ 14 by rw [HOQ.out]; exact HXQ.out), HBE2.out] at hp
    obtain ⟨A3, c3, rfl, hn3⟩ := hp
    have HN3 := Lib.hid hn3
    have HF9 : Hid (Fr [] wc w9) := Lib.hid (HF8.out.and hn3.2.1 (by simp))
    have HRO : Hid (w9.rangeAt g7 0 EO) := Lib.hid ((HBO.out.keep HF9.out (by simp)).range)
    have HRZ : Hid (w9.rangeAt g8 0 EZ) := Lib.hid ((HBZ.out.keep HF9.out (by simp)).range)
    have HO9 : Hid (o.Ok w9 []) := Lib.hid (HOK.out.keep HF9.out (by simp))
    have HZ9 : Hid (z.Ok w9 []) := Lib.hid (HZO.out.keep HF9.out (by simp))
    have HY1 : Hid (By w9 A1 B.length B) := Lib.hid (HN1.out.by.keep (HN2.out.2.1.and hn3.2.1 (by simp)) (by simp))
    have HY2 : Hid (By w9 A2 B.length B) := Lib.hid (HN2.out.by.keep hn3.2.1 (by simp))
    have HY3 : Hid (By w9 A3 B.length B) := Lib.hid hn3.by
    have HF9w : Hid (Fr [] w w9) := Lib.hid (HFB.out.and HF9.out (by simp))
    clear hn3 HN1 HN2 HN3 HF8 HF9 HOK HZO HO1 HBX1 HBZ HBO HE1 HL1
    go_upto_region 38 with (fail)
    refine wp_region_held_drew (S := Fr [] w9) (by kernel_rfl) (Fr.drew (Fr.refl _ w9)) (fun hHeld => ?_)
    generalize w9.drew = d0 at *
    refine run_at (i := 0) (v := ?_) rfl (by kernel_rfl) (by rfl) (fun _ _ _ h => h) hHeld (fun w1 hw1 => ?_) ?_
    rotate_left 1
    · skip
      go_simp
      (try (first | with_reducible rfl | (apply And.intro <;> rfl)))
    simp only [Act.put, List.setIfInBounds_toArray, List.set_cons_zero, List.set_cons_succ]
    refine run_at (i := 1) (v := ?_) rfl (by kernel_rfl) (by rfl) (fun _ _ _ h => h) hHeld (fun w1 hw1 => ?_) ?_
    rotate_left 1
    · skip
      go_simp
      (try (first | with_reducible rfl | (apply And.intro <;> rfl)))
    simp only [Act.put, List.setIfInBounds_toArray, List.set_cons_zero, List.set_cons_succ]
    refine run_at (i := 2) (v := ?_) rfl (by kernel_rfl) (by rfl) (fun _ _ _ h => h) hHeld (fun w1 hw1 => ?_) ?_
    rotate_left 1
    · skip
      go_simp
      (try (first | with_reducible rfl | (apply And.intro <;> rfl)))
    simp only [Act.put, List.setIfInBounds_toArray, List.set_cons_zero, List.set_cons_succ]
    refine run_at (i := 3) (v := ?_) rfl (by kernel_rfl) (by rfl) (fun _ _ _ h => h) hHeld (fun w1 hw1 => ?_) ?_
    rotate_left 1
    · skip
      go_simp
      (try (first | with_reducible rfl | (apply And.intro <;> rfl)))
    simp only [Act.put, List.setIfInBounds_toArray, List.set_cons_zero, List.set_cons_succ]
    refine run_at (i := 4) (v := ?_) rfl (by kernel_rfl) (by rfl) (fun _ _ _ h => h) hHeld (fun w1 hw1 => ?_) ?_
    rotate_left 1
    · skip
      go_simp
      (try (first | with_reducible rfl | (apply And.intro <;> rfl)))
    simp only [Act.put, List.setIfInBounds_toArray, List.set_cons_zero, List.set_cons_succ]
    refine run_at (i := 5) (v := ?_) rfl (by kernel_rfl) (by rfl) (fun _ _ _ h => h) hHeld (fun w1 hw1 => ?_) ?_
    rotate_left 1
    · skip
      go_simp
      (try (first | with_reducible rfl | (apply And.intro <;> rfl)))
    simp only [Act.put, List.setIfInBounds_toArray, List.set_cons_zero, List.set_cons_succ]
    refine run_at (i := 6) (v := ?_) rfl (by kernel_rfl) (by rfl) (fun _ _ _ h => h) hHeld (fun w1 hw1 => ?_) ?_
    rotate_left 1
    · skip
      go_simp
      (try (first | with_reducible rfl | (apply And.intro <;> rfl)))
    simp only [Act.put, List.setIfInBounds_toArray, List.set_cons_zero, List.set_cons_succ]
    refine run_at (i := 7) (v := ?_) rfl (by kernel_rfl) (by rfl) (fun _ _ _ h => h) hHeld (fun w1 hw1 => ?_) ?_
    rotate_left 1
    · skip
      go_simp
      (try (first | with_reducible rfl | (apply And.intro <;> rfl)))
    simp only [Act.put, List.setIfInBounds_toArray, List.set_cons_zero, List.set_cons_succ]
    refine run_at (i := 8) (v := ?_) rfl (by kernel_rfl) (by rfl) (fun _ _ _ h => h) hHeld (fun w1 hw1 => ?_) ?_
    rotate_left 1
    · skip
      go_simp
      (try (first | with_reducible rfl | (apply And.intro <;> rfl)))
    simp only [Act.put, List.setIfInBounds_toArray, List.set_cons_zero, List.set_cons_succ]
    refine run_at (i := 9) (v := ?_) rfl (by kernel_rfl) (by rfl) (fun _ _ _ h => h) hHeld (fun w1 hw1 => ?_) ?_
    rotate_left 1
    · skip
      go_simp
      (try (first | with_reducible rfl | (apply And.intro <;> rfl)))
    simp only [Act.put, List.setIfInBounds_toArray, List.set_cons_zero, List.set_cons_succ]
    refine call_at (i := 10) (f := ?_) (args := ?_) rfl (by kernel_rfl) (by rfl) ?_ ?_
    rotate_left 2
    · go_simp
      (try (first | with_reducible rfl | (apply And.intro <;> rfl)))
    refine (same_any A1 A2 _ _ c1 c2 B B d0 (HY1.out.keep hHeld (by simp)) (HY2.out.keep hHeld (by simp)) (by have := HBL.out; omega)).mono ?_
    rintro e_ d1 ⟨rfl, kk, hw⟩
    rw [decide_eq_true rfl]
    refine ⟨_, rfl, hHeld.and (by rw [hw]; exact (Fr.refl [] d0).drewN _) (by simp), fun hHeld => ?_⟩
    clear hw
    simp only [Act.put, List.setIfInBounds_toArray, List.set_cons_zero, List.set_cons_succ]
    refine run_at (i := 11) (v := ?_) rfl (by kernel_rfl) (by rfl) (fun _ _ _ h => h) hHeld (fun w1 hw1 => ?_) ?_
    rotate_left 1
    · skip
      go_simp
      (try (first | with_reducible rfl | (apply And.intro <;> rfl)))
    simp only [Act.put, List.setIfInBounds_toArray, List.set_cons_zero, List.set_cons_succ]
    refine run_at (i := 12) (v := ?_) rfl (by kernel_rfl) (by rfl) (fun _ _ _ h => h) hHeld (fun w1 hw1 => ?_) ?_
    rotate_left 1
    · skip
      go_simp
      (try (first | with_reducible rfl | (apply And.intro <;> rfl)))
    simp only [Act.put, List.setIfInBounds_toArray, List.set_cons_zero, List.set_cons_succ]
    refine run_at (i := 13) (v := ?_) rfl (by kernel_rfl) (by rfl) (fun _ _ _ h => h) hHeld (fun w1 hw1 => ?_) ?_
    rotate_left 1
    · skip
      go_simp
      (try (first | with_reducible rfl | (apply And.intro <;> rfl)))
    simp only [Act.put, List.setIfInBounds_toArray, List.set_cons_zero, List.set_cons_succ]
    refine run_at (i := 14) (v := ?_) rfl (by kernel_rfl) (by rfl) (fun _ _ _ h => h) hHeld (fun w1 hw1 => ?_) ?_
    rotate_left 1
    · skip
      go_simp
      (try (first | with_reducible rfl | (apply And.intro <;> rfl)))
    simp only [Act.put, List.setIfInBounds_toArray, List.set_cons_zero, List.set_cons_succ]
    refine call_at (i := 15) (f := ?_) (args := ?_) rfl (by kernel_rfl) (by rfl) ?_ ?_
    rotate_left 2
    · go_simp
      (try (first | with_reducible rfl | (apply And.intro <;> rfl)))
    refine (same_any A1 A3 _ _ c1 c3 B B d1 (HY1.out.keep hHeld (by simp)) (HY3.out.keep hHeld (by simp)) (by have := HBL.out; omega)).mono ?_
    rintro e_ d2 ⟨rfl, kk, hw⟩
    rw [decide_eq_true rfl]
    refine ⟨_, rfl, hHeld.and (by rw [hw]; exact (Fr.refl [] d1).drewN _) (by simp), fun hHeld => ?_⟩
    clear hw
    simp only [Act.put, List.setIfInBounds_toArray, List.set_cons_zero, List.set_cons_succ]
    refine run_at (i := 16) (v := ?_) rfl (by kernel_rfl) (by rfl) (fun _ _ _ h => h) hHeld (fun w1 hw1 => ?_) ?_
    rotate_left 1
    · skip
      go_simp
      (try (first | with_reducible rfl | (apply And.intro <;> rfl)))
    simp only [Act.put, List.setIfInBounds_toArray, List.set_cons_zero, List.set_cons_succ]
    refine run_at (i := 17) (v := ?_) rfl (by kernel_rfl) (by rfl) (fun _ _ _ h => h) hHeld (fun w1 hw1 => ?_) ?_
    rotate_left 1
    · skip
      go_simp
      (try (first | with_reducible rfl | (apply And.intro <;> rfl)))
    simp only [Act.put, List.setIfInBounds_toArray, List.set_cons_zero, List.set_cons_succ]
    refine row_at (i := 18) rfl (by kernel_rfl) (by rfl) _ _ rfl _ _ rfl _ (fun w1 hw1 => hw1.range (HRZ.out) (by first | (simp; done) | exact HNS.out | exact HNW.out | (intro hm; have hlt := HSB.out _ hm; (try dsimp only at hlt); omega))) (row_msg.of HLZ.out) (fun _ _ _ h => h) hHeld ?_
    simp only [Act.put, List.setIfInBounds_toArray, List.set_cons_zero, List.set_cons_succ]
    refine row_at (i := 20) rfl (by kernel_rfl) (by rfl) _ _ rfl _ _ rfl _ (fun w1 hw1 => hw1.range (HRO.out) (by first | (simp; done) | exact HNS.out | exact HNW.out | (intro hm; have hlt := HSB.out _ hm; (try dsimp only at hlt); omega))) (row_msg.of HLO.out) (fun _ _ _ h => h) hHeld ?_
    simp only [Act.put, List.setIfInBounds_toArray, List.set_cons_zero, List.set_cons_succ]
    refine call_at (i := 19) (f := ?_) (args := ?_) rfl (by kernel_rfl) (by rfl) ?_ ?_
    rotate_left 2
    · go_simp
      (try (first | with_reducible rfl | (apply And.intro <;> rfl)))
    refine (only_any z d2 (HZ9.out.keep hHeld (by simp)) EZ HEZ.out).mono ?_
    rintro e_ d3 ⟨y2, rfl, hcc, hok, hff⟩
    have HCy2 := Lib.hid hcc
    have HKy2 := Lib.hid hok
    refine ⟨_, rfl, hHeld.and hff (by simp), fun hHeld => ?_⟩
    clear hcc hok hff
    simp only [Act.put, List.setIfInBounds_toArray, List.set_cons_zero, List.set_cons_succ]
    refine call_at (i := 21) (f := ?_) (args := ?_) rfl (by kernel_rfl) (by rfl) ?_ ?_
    rotate_left 2
    · go_simp
      (try (first | with_reducible rfl | (apply And.intro <;> rfl)))
    refine (kmsg_con y2 o d3 HKy2.out (HO9.out.keep hHeld (by simp)) (by rw [HCy2.out, HZC.out]; exact HOC.out.symm) _ EO rfl HEO.out).mono ?_
    rintro e_ d4 ⟨rfl, hff⟩
    refine ⟨_, rfl, hHeld.and hff (by simp), fun hHeld => ?_⟩
    clear hff
    simp only [Act.put, List.setIfInBounds_toArray, List.set_cons_zero, List.set_cons_succ]
    refine run_at (i := 22) (v := ?_) rfl (by kernel_rfl) (by rfl) (fun _ _ _ h => h) hHeld (fun w1 hw1 => ?_) ?_
    rotate_left 1
    · skip
      go_simp
      (try (first | with_reducible rfl | (apply And.intro <;> rfl)))
    simp only [Act.put, List.setIfInBounds_toArray, List.set_cons_zero, List.set_cons_succ]
    refine run_at (i := 23) (v := ?_) rfl (by kernel_rfl) (by rfl) (fun _ _ _ h => h) hHeld (fun w1 hw1 => ?_) ?_
    rotate_left 1
    · skip
      go_simp
      (try (first | with_reducible rfl | (apply And.intro <;> rfl)))
    simp only [Act.put, List.setIfInBounds_toArray, List.set_cons_zero, List.set_cons_succ]
    refine row_at (i := 24) rfl (by kernel_rfl) (by rfl) _ _ rfl _ _ rfl _ (fun w1 hw1 => hw1.range (HRO.out) (by first | (simp; done) | exact HNS.out | exact HNW.out | (intro hm; have hlt := HSB.out _ hm; (try dsimp only at hlt); omega))) (row_msg.of HLO.out) (fun _ _ _ h => h) hHeld ?_
    simp only [Act.put, List.setIfInBounds_toArray, List.set_cons_zero, List.set_cons_succ]
    refine row_at (i := 26) rfl (by kernel_rfl) (by rfl) _ _ rfl _ _ rfl _ (fun w1 hw1 => hw1.range (HRO.out) (by first | (simp; done) | exact HNS.out | exact HNW.out | (intro hm; have hlt := HSB.out _ hm; (try dsimp only at hlt); omega))) (row_msg.of HLO.out) (fun _ _ _ h => h) hHeld ?_
    simp only [Act.put, List.setIfInBounds_toArray, List.set_cons_zero, List.set_cons_succ]
    refine call_at (i := 25) (f := ?_) (args := ?_) rfl (by kernel_rfl) (by rfl) ?_ ?_
    rotate_left 2
    · go_simp
      (try (first | with_reducible rfl | (apply And.intro <;> rfl)))
    refine (only_any o d4 (HO9.out.keep hHeld (by simp)) EO HEO.out).mono ?_
    rintro e_ d5 ⟨y3, rfl, hcc, hok, hff⟩
    have HCy3 := Lib.hid hcc
    have HKy3 := Lib.hid hok
    refine ⟨_, rfl, hHeld.and hff (by simp), fun hHeld => ?_⟩
    clear hcc hok hff
    simp only [Act.put, List.setIfInBounds_toArray, List.set_cons_zero, List.set_cons_succ]
    refine call_at (i := 27) (f := ?_) (args := ?_) rfl (by kernel_rfl) (by rfl) ?_ ?_
    rotate_left 2
    · go_simp
      (try (first | with_reducible rfl | (apply And.intro <;> rfl)))
    refine (kmsg_con y3 o d5 HKy3.out (HO9.out.keep hHeld (by simp)) (by rw [HCy3.out]; exact HOO.out) _ EO rfl HEO.out).mono ?_
    rintro e_ d6 ⟨rfl, hff⟩
    refine ⟨_, rfl, hHeld.and hff (by simp), fun hHeld => ?_⟩
    clear hff
    simp only [Act.put, List.setIfInBounds_toArray, List.set_cons_zero, List.set_cons_succ]
    refine run_at (i := 28) (v := ?_) rfl (by kernel_rfl) (by rfl) (fun _ _ _ h => h) hHeld (fun w1 hw1 => ?_) ?_
    rotate_left 1
    · skip
      go_simp
      (try (first | with_reducible rfl | (apply And.intro <;> rfl)))
    simp only [Act.put, List.setIfInBounds_toArray, List.set_cons_zero, List.set_cons_succ]
    refine run_at (i := 29) (v := ?_) rfl (by kernel_rfl) (by rfl) (fun _ _ _ h => h) hHeld (fun w1 hw1 => ?_) ?_
    rotate_left 1
    · skip
      go_simp
      (try (first | with_reducible rfl | (apply And.intro <;> rfl)))
    simp only [Act.put, List.setIfInBounds_toArray, List.set_cons_zero, List.set_cons_succ]
    refine call_at (i := 30) (f := ?_) (args := ?_) rfl (by kernel_rfl) (by rfl) ?_ ?_
    rotate_left 2
    · go_simp
      (try (first | with_reducible rfl | (apply And.intro <;> rfl)))
    refine (mwakes_any d6).mono ?_
    rintro e_ d7 ⟨rfl, hff⟩
    refine ⟨_, rfl, hHeld.and hff (by simp), fun hHeld => ?_⟩
    clear hff
    simp only [Act.put, List.setIfInBounds_toArray, List.set_cons_zero, List.set_cons_succ]
    refine run_at (i := 31) (v := ?_) rfl (by kernel_rfl) (by rfl) (fun _ _ _ h => h) hHeld (fun w1 hw1 => ?_) ?_
    rotate_left 1
    · skip
      go_simp
      (try (first | with_reducible rfl | (apply And.intro <;> rfl)))
    simp only [Act.put, List.setIfInBounds_toArray, List.set_cons_zero, List.set_cons_succ]
    refine run_at (i := 32) (v := ?_) rfl (by kernel_rfl) (by rfl) (fun _ _ _ h => h) hHeld (fun w1 hw1 => ?_) ?_
    rotate_left 1
    · skip
      go_simp
      (try (first | with_reducible rfl | (apply And.intro <;> rfl)))
    simp only [Act.put, List.setIfInBounds_toArray, List.set_cons_zero, List.set_cons_succ]
    refine wpAnyH_done (by kernel_rfl) ?_ _
    go_wp2_with fail
    go_ret
    exact ⟨rfl, HF9w.out.and hHeld (by simp)⟩
end Go.Proofs.YtnpjihdhpoddgaaGreat
