/- Texts that the proof stands on: gavelref01.Only, of every kind. (written by gen_mon.py) | gavellaw06.Small: a message that is small enough to be played. (written by gen_msm.py) | Package commit: the document's example (wakes). | Package commit: an opening is built of its parts. | Package commit: a commitment is equal to itself. -/
import Derived.Test.YtpcnedpheplofaaGreatKP4
import Derived.Deep.CutBlock
import Derived.Test.YtpcnedpheplofaaGreatReg2
import Derived.Laws.StructEq
set_option linter.unusedSimpArgs false
set_option linter.unusedVariables false
set_option maxRecDepth 100000

namespace Go.Proofs.YtpcnedpheplofaaGreat
open Go.RowKit
set_option maxRecDepth 100000
set_option maxHeartbeats 2000000 in
theorem refonly_1 (x : Wmg) (hq : x.q = 1) (w : World) (hx : x.Ok w []) (C : List Value) (hC : x.cells = C) :
  Calls Tryz.prog 12 #[.agg C.toArray] w (OnlyPost x w) := by
 obtain ⟨wa, hwa⟩ : ∃ wa, wa = (w.alloc (Obj.cells C.toArray 61)).alloc (Obj.cells mz00 61) := ⟨_, rfl⟩
 have hf0 : Fr [] w wa := by rw [hwa]; exact ((Fr.refl [] w).alloc _).alloc _
 have hb0 : Blk wa w.heap.size 61 x.cells.toArray := by rw [hwa, hC]; exact blk_alloc (Blk.new _ _ _)
 have hb1 : Blk wa (w.heap.size + 1) 61 mz00 := by
  have := Blk.new (w.alloc (Obj.cells C.toArray 61)) 61 mz00
  rw [hwa]
  simpa using this
 have hat : x.At wa w.heap.size := Wmg.at_of hb0.range hx
 have hcq : wa.cell? ⟨w.heap.size, 0, none⟩ = some (.int .i64 x.q) := by have h := hat.q 0 _ rfl; simpa using h
 have hcf : wa.cell? ⟨w.heap.size, 1, none⟩ = some (.int .i64 x.f) := by have h := hat.f 0 _ rfl; simpa using h
 have hct : wa.cell? ⟨w.heap.size, 2, none⟩ = some (.int .i64 x.t) := by have h := hat.t 0 _ rfl; simpa using h
 have HX := Lib.hid hx
 have HB0 := Lib.hid hb0
 have HB1 := Lib.hid hb1
 have HF0 := Lib.hid hf0
 have HWA := Lib.hid hwa
 have HSZ : Hid (wa.heap.size = w.heap.size + 2) := Lib.hid (by rw [hwa]; simp)
 obtain ⟨Z, hZ⟩ : ∃ Z, Z = (mz x.q x.f x.t).cells := ⟨_, rfl⟩
 have HBU : Hid (Tryz.prog.built 61 [(0, .int .i64 x.q), (1, .int .i64 x.f), (2, .int .i64 x.t)] = some Z.toArray) := Lib.hid (by rw [hZ]; exact built_mg3 _ _ _)
 have HZL : Hid ((Tryz.prog.info? 61).map (·.size) = some Z.toArray.size) := Lib.hid (by rw [hZ]; exact msg_size (mz_len _ _ _))
 have HZM : Hid (mz00.size = Z.toArray.size) := Lib.hid (by rw [hZ]; unfold mz00; rw [List.size_toArray, List.size_toArray, Wmg.lenz (mz_len _ _ _), Wmg.lenz (mz_len _ _ _)])
 have HZO : Hid (Z.toArray.all (·.oneCell') = true) := Lib.hid (by rw [hZ]; exact all_oneCell_toArray (Wmg.one _))
 have HZ := Lib.hid hZ
 have HQ := Lib.hid hq
 obtain ⟨q, hqq⟩ : ∃ q, q = x.q := ⟨_, rfl⟩
 obtain ⟨f, hff⟩ : ∃ f, f = x.f := ⟨_, rfl⟩
 obtain ⟨t, htt⟩ : ∃ t, t = x.t := ⟨_, rfl⟩
 rw [← hqq] at hcq
 rw [← hff] at hcf
 rw [← htt] at hct
 rw [← hqq, ← hff, ← htt] at HBU HZ
 have HQE := Lib.hid hqq
 have HFE := Lib.hid hff
 have HTE := Lib.hid htt
 clear hx hC hwa hf0 hb0 hb1 hat hZ hq hqq hff htt
 go_enter Tryz.func12, Tryz.ntmps12
 go_upto_region 1 with (fail)
 change Code.wp _ _ _ _ ((w.alloc (Obj.cells C.toArray 61)).alloc (Obj.cells mz00 61))
 rw [← HWA.out]
 go_upto_region 2 with (first
  | (refine wpList_builtg rfl 61 _ rfl _ _ HBU.out rfl ?_)
  | (refine wpList_store_blk rfl 61 _ _ rfl wa.heap.size Z.toArray rfl rfl 61 mz00 (Blk.new wa _ _) HZL.out HZM.out HZO.out ?_; intro w1 hb2 hf2))
 have HB2 : Hid (Blk w1 wa.heap.size 61 (mz q f t).cells.toArray) := Lib.hid (by rw [← HZ.out]; exact hb2)
 have HF1 : Hid (Fr [] wa w1) := Lib.hid (((Fr.refl [] wa).alloc _).go hf2 (by simp))
 clear hb2 hf2 hcf hct
 have hcq := HF1.out.cell hcq (by simp)
 have HB0 := Lib.hid (HB0.out.keep HF1.out (by simp))
 have HB1 := Lib.hid (HB1.out.keep HF1.out (by simp))
 have HBL1 : Hid (wa.heap.size < w1.heap.size) := Lib.hid HB2.out.lt
 have HAT := Lib.hid (Wmg.at_of HB0.out.range HX.out)
 have HZ0 := Lib.hid (mz_len q f t)
 rw [HQE.out, HQ.out] at hcq
 obtain ⟨V, hV⟩ : ∃ V, V = x.cm.cells := ⟨_, rfl⟩
 have HVL : Hid (V.length = 37) := Lib.hid (by rw [hV]; exact Wcm.len HX.out.cm.h)
 have HVR : Hid (w1.rangeAt w.heap.size 3 V) := Lib.hid (by rw [hV]; exact HAT.out.cm)
 have HV := Lib.hid hV
 clear hV
 have HZX : Hid (Wmg.Len {mz q f t with cm := x.cm}) := Lib.hid ⟨HX.out.cm.h, rfl, rfl, rfl, rfl, rfl, rfl⟩
 have HBX := Lib.hid (Wmg.blk_cm HZ0.out x.cm (by rw [← HV.out]; exact HVL.out) HB2.out)
 rw [← HV.out] at HBX
 have HFS : Hid (Fr [wa.heap.size] w1 (w1.setCells wa.heap.size 3 V)) := Lib.hid (Fr.setCells (fun _ => by simp) _ 3 _ (Fr.refl _ _))
 have HTH : Hid (w1.there wa.heap.size 3 V.toArray.size) := Lib.hid (HB2.out.thereM _ _ (by rw [List.size_toArray, List.size_toArray, HVL.out, Wmg.lenz HZ0.out]; decide))
 have HVS : Hid ((Tryz.prog.info? 29).map (·.size) = some V.toArray.size) := Lib.hid (by rw [List.size_toArray, HVL.out]; kernel_rfl)
 have HVO : Hid (V.toArray.all (·.oneCell') = true) := Lib.hid (by rw [HV.out]; exact all_oneCell_toArray (Wcm.one _))
 have HB9 : Hid (Blk (w1.setCells wa.heap.size 3 V) (w.heap.size + 1) 61 mz00) := Lib.hid (HB1.out.keep HFS.out (by have := HSZ.out; simp; omega))
 obtain ⟨E, hE⟩ : ∃ E, E = ({mz q f t with cm := x.cm} : Wmg).cells := ⟨_, rfl⟩
 have HEL : Hid (E.length = 295) := Lib.hid (by rw [hE]; exact Wmg.lenz HZX.out)
 have HEO : Hid (E.toArray.all (·.oneCell') = true) := Lib.hid (by rw [hE]; exact all_oneCell_toArray (Wmg.one _))
 have HES : Hid ((Tryz.prog.info? 61).map (·.size) = some E.toArray.size) := Lib.hid (by rw [List.size_toArray, HEL.out]; kernel_rfl)
 have HEM : Hid (mz00.size = E.toArray.size) := Lib.hid (by unfold mz00; rw [List.size_toArray, List.size_toArray, HEL.out, Wmg.lenz (mz_len _ _ _)])
 have HER : Hid ((w1.setCells wa.heap.size 3 V).rangeAt wa.heap.size 0 E) := Lib.hid (by rw [hE]; exact HBX.out.range)
 go_wp2_with (first | (refine wpList_load_mid rfl 29 _ rfl w.heap.size 3 rfl V _ HVR.out Tryz.underlying29 rfl (row_cmt.of HVL.out).2 ?_) | (refine wpList_store_mid rfl 29 _ _ rfl wa.heap.size 3 V.toArray rfl rfl HTH.out HVS.out HVO.out ?_) | (refine wpList_load_mid rfl 61 _ rfl wa.heap.size 0 rfl E _ HER.out Tryz.underlying61 rfl (row_msg.of HEL.out).2 ?_) | (refine wpList_store_blk rfl 61 _ _ rfl (w.heap.size + 1) E.toArray rfl rfl 61 mz00 HB9.out HES.out HEM.out HEO.out ?_; intro w9 hb9 hf9))
 refine bodyPost_ret (v := .agg E.toArray) (results_cell_row Tryz.results12 _ _ (w.heap.size + 1) 61 E.toArray _ _ rfl hb9 Tryz.underlying61 rfl HES.out) rfl ?_
 have HS9 : Fr [wa.heap.size, w.heap.size + 1] w1 w9 := (HFS.out.mono (by intro k hk _; simp at hk; simp [hk])).trans hf9 (fun k hk _ => by simp at hk; simp [hk])
 refine ⟨{mz q f t with cm := x.cm}, by rw [hE], ?_, ?_, (HF0.out.and HF1.out (by simp)).go HS9 (by have := HSZ.out; simp; omega)⟩
 · have hqe : x.con.q = 1 := HQ.out
   unfold onlyC
   rw [show x.con.q = x.q from rfl, HQ.out]
   rw [HQE.out, HFE.out, HTE.out, HQ.out]
   rfl
 · have hz := mz_ok w9 [] q f t (by rw [HQE.out]; exact HX.out.q) (by rw [HFE.out]; exact HX.out.f) (by rw [HTE.out]; exact HX.out.t)
   have HW9 : Fr [] w w9 := (HF0.out.and HF1.out (by simp)).go HS9 (by have := HSZ.out; simp; omega)
   exact ⟨hz.q, hz.f, hz.t, HX.out.cm, hz.st, hz.ce, hz.ak, hz.e, hz.r, hz.tm, hz.pr, hz.po, hz.vt, hz.i, hz.en, hz.op, hz.dn, hz.rp, hz.de⟩
set_option maxHeartbeats 2000000 in
theorem refonly_2 (x : Wmg) (hq : x.q = 2) (w : World) (hx : x.Ok w []) (C : List Value) (hC : x.cells = C) :
  Calls Tryz.prog 12 #[.agg C.toArray] w (OnlyPost x w) := by
 obtain ⟨wa, hwa⟩ : ∃ wa, wa = (w.alloc (Obj.cells C.toArray 61)).alloc (Obj.cells mz00 61) := ⟨_, rfl⟩
 have hf0 : Fr [] w wa := by rw [hwa]; exact ((Fr.refl [] w).alloc _).alloc _
 have hb0 : Blk wa w.heap.size 61 x.cells.toArray := by rw [hwa, hC]; exact blk_alloc (Blk.new _ _ _)
 have hb1 : Blk wa (w.heap.size + 1) 61 mz00 := by
  have := Blk.new (w.alloc (Obj.cells C.toArray 61)) 61 mz00
  rw [hwa]
  simpa using this
 have hat : x.At wa w.heap.size := Wmg.at_of hb0.range hx
 have hcq : wa.cell? ⟨w.heap.size, 0, none⟩ = some (.int .i64 x.q) := by have h := hat.q 0 _ rfl; simpa using h
 have hcf : wa.cell? ⟨w.heap.size, 1, none⟩ = some (.int .i64 x.f) := by have h := hat.f 0 _ rfl; simpa using h
 have hct : wa.cell? ⟨w.heap.size, 2, none⟩ = some (.int .i64 x.t) := by have h := hat.t 0 _ rfl; simpa using h
 have HX := Lib.hid hx
 have HB0 := Lib.hid hb0
 have HB1 := Lib.hid hb1
 have HF0 := Lib.hid hf0
 have HWA := Lib.hid hwa
 have HSZ : Hid (wa.heap.size = w.heap.size + 2) := Lib.hid (by rw [hwa]; simp)
 obtain ⟨Z, hZ⟩ : ∃ Z, Z = (mz x.q x.f x.t).cells := ⟨_, rfl⟩
 have HBU : Hid (Tryz.prog.built 61 [(0, .int .i64 x.q), (1, .int .i64 x.f), (2, .int .i64 x.t)] = some Z.toArray) := Lib.hid (by rw [hZ]; exact built_mg3 _ _ _)
 have HZL : Hid ((Tryz.prog.info? 61).map (·.size) = some Z.toArray.size) := Lib.hid (by rw [hZ]; exact msg_size (mz_len _ _ _))
 have HZM : Hid (mz00.size = Z.toArray.size) := Lib.hid (by rw [hZ]; unfold mz00; rw [List.size_toArray, List.size_toArray, Wmg.lenz (mz_len _ _ _), Wmg.lenz (mz_len _ _ _)])
 have HZO : Hid (Z.toArray.all (·.oneCell') = true) := Lib.hid (by rw [hZ]; exact all_oneCell_toArray (Wmg.one _))
 have HZ := Lib.hid hZ
 have HQ := Lib.hid hq
 obtain ⟨q, hqq⟩ : ∃ q, q = x.q := ⟨_, rfl⟩
 obtain ⟨f, hff⟩ : ∃ f, f = x.f := ⟨_, rfl⟩
 obtain ⟨t, htt⟩ : ∃ t, t = x.t := ⟨_, rfl⟩
 rw [← hqq] at hcq
 rw [← hff] at hcf
 rw [← htt] at hct
 rw [← hqq, ← hff, ← htt] at HBU HZ
 have HQE := Lib.hid hqq
 have HFE := Lib.hid hff
 have HTE := Lib.hid htt
 clear hx hC hwa hf0 hb0 hb1 hat hZ hq hqq hff htt
 go_enter Tryz.func12, Tryz.ntmps12
 go_upto_region 1 with (fail)
 change Code.wp _ _ _ _ ((w.alloc (Obj.cells C.toArray 61)).alloc (Obj.cells mz00 61))
 rw [← HWA.out]
 go_upto_region 2 with (first
  | (refine wpList_builtg rfl 61 _ rfl _ _ HBU.out rfl ?_)
  | (refine wpList_store_blk rfl 61 _ _ rfl wa.heap.size Z.toArray rfl rfl 61 mz00 (Blk.new wa _ _) HZL.out HZM.out HZO.out ?_; intro w1 hb2 hf2))
 have HB2 : Hid (Blk w1 wa.heap.size 61 (mz q f t).cells.toArray) := Lib.hid (by rw [← HZ.out]; exact hb2)
 have HF1 : Hid (Fr [] wa w1) := Lib.hid (((Fr.refl [] wa).alloc _).go hf2 (by simp))
 clear hb2 hf2 hcf hct
 have hcq := HF1.out.cell hcq (by simp)
 have HB0 := Lib.hid (HB0.out.keep HF1.out (by simp))
 have HB1 := Lib.hid (HB1.out.keep HF1.out (by simp))
 have HBL1 : Hid (wa.heap.size < w1.heap.size) := Lib.hid HB2.out.lt
 have HAT := Lib.hid (Wmg.at_of HB0.out.range HX.out)
 have HZ0 := Lib.hid (mz_len q f t)
 rw [HQE.out, HQ.out] at hcq
 obtain ⟨V, hV⟩ : ∃ V, V = x.st.cells := ⟨_, rfl⟩
 have HVL : Hid (V.length = 38) := Lib.hid (by rw [hV]; exact Wst.len HX.out.st.h)
 have HVR : Hid (w1.rangeAt w.heap.size 40 V) := Lib.hid (by rw [hV]; exact HAT.out.st)
 have HV := Lib.hid hV
 clear hV
 have HZX : Hid (Wmg.Len {mz q f t with st := x.st}) := Lib.hid ⟨rfl, HX.out.st.h, rfl, rfl, rfl, rfl, rfl⟩
 have HBX := Lib.hid (Wmg.blk_st HZ0.out x.st (by rw [← HV.out]; exact HVL.out) HB2.out)
 rw [← HV.out] at HBX
 have HFS : Hid (Fr [wa.heap.size] w1 (w1.setCells wa.heap.size 40 V)) := Lib.hid (Fr.setCells (fun _ => by simp) _ 40 _ (Fr.refl _ _))
 have HTH : Hid (w1.there wa.heap.size 40 V.toArray.size) := Lib.hid (HB2.out.thereM _ _ (by rw [List.size_toArray, List.size_toArray, HVL.out, Wmg.lenz HZ0.out]; decide))
 have HVS : Hid ((Tryz.prog.info? 32).map (·.size) = some V.toArray.size) := Lib.hid (by rw [List.size_toArray, HVL.out]; kernel_rfl)
 have HVO : Hid (V.toArray.all (·.oneCell') = true) := Lib.hid (by rw [HV.out]; exact all_oneCell_toArray (Wst.one _))
 have HB9 : Hid (Blk (w1.setCells wa.heap.size 40 V) (w.heap.size + 1) 61 mz00) := Lib.hid (HB1.out.keep HFS.out (by have := HSZ.out; simp; omega))
 obtain ⟨E, hE⟩ : ∃ E, E = ({mz q f t with st := x.st} : Wmg).cells := ⟨_, rfl⟩
 have HEL : Hid (E.length = 295) := Lib.hid (by rw [hE]; exact Wmg.lenz HZX.out)
 have HEO : Hid (E.toArray.all (·.oneCell') = true) := Lib.hid (by rw [hE]; exact all_oneCell_toArray (Wmg.one _))
 have HES : Hid ((Tryz.prog.info? 61).map (·.size) = some E.toArray.size) := Lib.hid (by rw [List.size_toArray, HEL.out]; kernel_rfl)
 have HEM : Hid (mz00.size = E.toArray.size) := Lib.hid (by unfold mz00; rw [List.size_toArray, List.size_toArray, HEL.out, Wmg.lenz (mz_len _ _ _)])
 have HER : Hid ((w1.setCells wa.heap.size 40 V).rangeAt wa.heap.size 0 E) := Lib.hid (by rw [hE]; exact HBX.out.range)
 go_wp2_with (first | (refine wpList_load_mid rfl 32 _ rfl w.heap.size 40 rfl V _ HVR.out Tryz.underlying32 rfl (row_stkO.of HVL.out).2 ?_) | (refine wpList_store_mid rfl 32 _ _ rfl wa.heap.size 40 V.toArray rfl rfl HTH.out HVS.out HVO.out ?_) | (refine wpList_load_mid rfl 61 _ rfl wa.heap.size 0 rfl E _ HER.out Tryz.underlying61 rfl (row_msg.of HEL.out).2 ?_) | (refine wpList_store_blk rfl 61 _ _ rfl (w.heap.size + 1) E.toArray rfl rfl 61 mz00 HB9.out HES.out HEM.out HEO.out ?_; intro w9 hb9 hf9))
 refine bodyPost_ret (v := .agg E.toArray) (results_cell_row Tryz.results12 _ _ (w.heap.size + 1) 61 E.toArray _ _ rfl hb9 Tryz.underlying61 rfl HES.out) rfl ?_
 have HS9 : Fr [wa.heap.size, w.heap.size + 1] w1 w9 := (HFS.out.mono (by intro k hk _; simp at hk; simp [hk])).trans hf9 (fun k hk _ => by simp at hk; simp [hk])
 refine ⟨{mz q f t with st := x.st}, by rw [hE], ?_, ?_, (HF0.out.and HF1.out (by simp)).go HS9 (by have := HSZ.out; simp; omega)⟩
 · have hqe : x.con.q = 2 := HQ.out
   unfold onlyC
   rw [show x.con.q = x.q from rfl, HQ.out]
   rw [HQE.out, HFE.out, HTE.out, HQ.out]
   rfl
 · have hz := mz_ok w9 [] q f t (by rw [HQE.out]; exact HX.out.q) (by rw [HFE.out]; exact HX.out.f) (by rw [HTE.out]; exact HX.out.t)
   have HW9 : Fr [] w w9 := (HF0.out.and HF1.out (by simp)).go HS9 (by have := HSZ.out; simp; omega)
   exact ⟨hz.q, hz.f, hz.t, hz.cm, HX.out.st, hz.ce, hz.ak, hz.e, hz.r, hz.tm, hz.pr, hz.po, hz.vt, hz.i, hz.en, hz.op, hz.dn, hz.rp, hz.de⟩
set_option maxHeartbeats 2000000 in
theorem refonly_3 (x : Wmg) (hq : x.q = 3) (w : World) (hx : x.Ok w []) (C : List Value) (hC : x.cells = C) :
  Calls Tryz.prog 12 #[.agg C.toArray] w (OnlyPost x w) := by
 obtain ⟨wa, hwa⟩ : ∃ wa, wa = (w.alloc (Obj.cells C.toArray 61)).alloc (Obj.cells mz00 61) := ⟨_, rfl⟩
 have hf0 : Fr [] w wa := by rw [hwa]; exact ((Fr.refl [] w).alloc _).alloc _
 have hb0 : Blk wa w.heap.size 61 x.cells.toArray := by rw [hwa, hC]; exact blk_alloc (Blk.new _ _ _)
 have hb1 : Blk wa (w.heap.size + 1) 61 mz00 := by
  have := Blk.new (w.alloc (Obj.cells C.toArray 61)) 61 mz00
  rw [hwa]
  simpa using this
 have hat : x.At wa w.heap.size := Wmg.at_of hb0.range hx
 have hcq : wa.cell? ⟨w.heap.size, 0, none⟩ = some (.int .i64 x.q) := by have h := hat.q 0 _ rfl; simpa using h
 have hcf : wa.cell? ⟨w.heap.size, 1, none⟩ = some (.int .i64 x.f) := by have h := hat.f 0 _ rfl; simpa using h
 have hct : wa.cell? ⟨w.heap.size, 2, none⟩ = some (.int .i64 x.t) := by have h := hat.t 0 _ rfl; simpa using h
 have HX := Lib.hid hx
 have HB0 := Lib.hid hb0
 have HB1 := Lib.hid hb1
 have HF0 := Lib.hid hf0
 have HWA := Lib.hid hwa
 have HSZ : Hid (wa.heap.size = w.heap.size + 2) := Lib.hid (by rw [hwa]; simp)
 obtain ⟨Z, hZ⟩ : ∃ Z, Z = (mz x.q x.f x.t).cells := ⟨_, rfl⟩
 have HBU : Hid (Tryz.prog.built 61 [(0, .int .i64 x.q), (1, .int .i64 x.f), (2, .int .i64 x.t)] = some Z.toArray) := Lib.hid (by rw [hZ]; exact built_mg3 _ _ _)
 have HZL : Hid ((Tryz.prog.info? 61).map (·.size) = some Z.toArray.size) := Lib.hid (by rw [hZ]; exact msg_size (mz_len _ _ _))
 have HZM : Hid (mz00.size = Z.toArray.size) := Lib.hid (by rw [hZ]; unfold mz00; rw [List.size_toArray, List.size_toArray, Wmg.lenz (mz_len _ _ _), Wmg.lenz (mz_len _ _ _)])
 have HZO : Hid (Z.toArray.all (·.oneCell') = true) := Lib.hid (by rw [hZ]; exact all_oneCell_toArray (Wmg.one _))
 have HZ := Lib.hid hZ
 have HQ := Lib.hid hq
 obtain ⟨q, hqq⟩ : ∃ q, q = x.q := ⟨_, rfl⟩
 obtain ⟨f, hff⟩ : ∃ f, f = x.f := ⟨_, rfl⟩
 obtain ⟨t, htt⟩ : ∃ t, t = x.t := ⟨_, rfl⟩
 rw [← hqq] at hcq
 rw [← hff] at hcf
 rw [← htt] at hct
 rw [← hqq, ← hff, ← htt] at HBU HZ
 have HQE := Lib.hid hqq
 have HFE := Lib.hid hff
 have HTE := Lib.hid htt
 clear hx hC hwa hf0 hb0 hb1 hat hZ hq hqq hff htt
 go_enter Tryz.func12, Tryz.ntmps12
 go_upto_region 1 with (fail)
 change Code.wp _ _ _ _ ((w.alloc (Obj.cells C.toArray 61)).alloc (Obj.cells mz00 61))
 rw [← HWA.out]
 go_upto_region 2 with (first
  | (refine wpList_builtg rfl 61 _ rfl _ _ HBU.out rfl ?_)
  | (refine wpList_store_blk rfl 61 _ _ rfl wa.heap.size Z.toArray rfl rfl 61 mz00 (Blk.new wa _ _) HZL.out HZM.out HZO.out ?_; intro w1 hb2 hf2))
 have HB2 : Hid (Blk w1 wa.heap.size 61 (mz q f t).cells.toArray) := Lib.hid (by rw [← HZ.out]; exact hb2)
 have HF1 : Hid (Fr [] wa w1) := Lib.hid (((Fr.refl [] wa).alloc _).go hf2 (by simp))
 clear hb2 hf2 hcf hct
 have hcq := HF1.out.cell hcq (by simp)
 have HB0 := Lib.hid (HB0.out.keep HF1.out (by simp))
 have HB1 := Lib.hid (HB1.out.keep HF1.out (by simp))
 have HBL1 : Hid (wa.heap.size < w1.heap.size) := Lib.hid HB2.out.lt
 have HAT := Lib.hid (Wmg.at_of HB0.out.range HX.out)
 have HZ0 := Lib.hid (mz_len q f t)
 rw [HQE.out, HQ.out] at hcq
 obtain ⟨V, hV⟩ : ∃ V, V = x.ce.cells := ⟨_, rfl⟩
 have HVL : Hid (V.length = 38) := Lib.hid (by rw [hV]; exact Wce.len HX.out.ce.k.h)
 have HVR : Hid (w1.rangeAt w.heap.size 78 V) := Lib.hid (by rw [hV]; exact HAT.out.ce)
 have HV := Lib.hid hV
 clear hV
 have HZX : Hid (Wmg.Len {mz q f t with ce := x.ce}) := Lib.hid ⟨rfl, rfl, HX.out.ce.k.h, rfl, rfl, rfl, rfl⟩
 have HBX := Lib.hid (Wmg.blk_ce HZ0.out x.ce (by rw [← HV.out]; exact HVL.out) HB2.out)
 rw [← HV.out] at HBX
 have HFS : Hid (Fr [wa.heap.size] w1 (w1.setCells wa.heap.size 78 V)) := Lib.hid (Fr.setCells (fun _ => by simp) _ 78 _ (Fr.refl _ _))
 have HTH : Hid (w1.there wa.heap.size 78 V.toArray.size) := Lib.hid (HB2.out.thereM _ _ (by rw [List.size_toArray, List.size_toArray, HVL.out, Wmg.lenz HZ0.out]; decide))
 have HVS : Hid ((Tryz.prog.info? 35).map (·.size) = some V.toArray.size) := Lib.hid (by rw [List.size_toArray, HVL.out]; kernel_rfl)
 have HVO : Hid (V.toArray.all (·.oneCell') = true) := Lib.hid (by rw [HV.out]; exact all_oneCell_toArray (Wce.one _))
 have HB9 : Hid (Blk (w1.setCells wa.heap.size 78 V) (w.heap.size + 1) 61 mz00) := Lib.hid (HB1.out.keep HFS.out (by have := HSZ.out; simp; omega))
 obtain ⟨E, hE⟩ : ∃ E, E = ({mz q f t with ce := x.ce} : Wmg).cells := ⟨_, rfl⟩
 have HEL : Hid (E.length = 295) := Lib.hid (by rw [hE]; exact Wmg.lenz HZX.out)
 have HEO : Hid (E.toArray.all (·.oneCell') = true) := Lib.hid (by rw [hE]; exact all_oneCell_toArray (Wmg.one _))
 have HES : Hid ((Tryz.prog.info? 61).map (·.size) = some E.toArray.size) := Lib.hid (by rw [List.size_toArray, HEL.out]; kernel_rfl)
 have HEM : Hid (mz00.size = E.toArray.size) := Lib.hid (by unfold mz00; rw [List.size_toArray, List.size_toArray, HEL.out, Wmg.lenz (mz_len _ _ _)])
 have HER : Hid ((w1.setCells wa.heap.size 78 V).rangeAt wa.heap.size 0 E) := Lib.hid (by rw [hE]; exact HBX.out.range)
 go_wp2_with (first | (refine wpList_load_mid rfl 35 _ rfl w.heap.size 78 rfl V _ HVR.out Tryz.underlying35 rfl (row_crt.of HVL.out).2 ?_) | (refine wpList_store_mid rfl 35 _ _ rfl wa.heap.size 78 V.toArray rfl rfl HTH.out HVS.out HVO.out ?_) | (refine wpList_load_mid rfl 61 _ rfl wa.heap.size 0 rfl E _ HER.out Tryz.underlying61 rfl (row_msg.of HEL.out).2 ?_) | (refine wpList_store_blk rfl 61 _ _ rfl (w.heap.size + 1) E.toArray rfl rfl 61 mz00 HB9.out HES.out HEM.out HEO.out ?_; intro w9 hb9 hf9))
 refine bodyPost_ret (v := .agg E.toArray) (results_cell_row Tryz.results12 _ _ (w.heap.size + 1) 61 E.toArray _ _ rfl hb9 Tryz.underlying61 rfl HES.out) rfl ?_
 have HS9 : Fr [wa.heap.size, w.heap.size + 1] w1 w9 := (HFS.out.mono (by intro k hk _; simp at hk; simp [hk])).trans hf9 (fun k hk _ => by simp at hk; simp [hk])
 refine ⟨{mz q f t with ce := x.ce}, by rw [hE], ?_, ?_, (HF0.out.and HF1.out (by simp)).go HS9 (by have := HSZ.out; simp; omega)⟩
 · have hqe : x.con.q = 3 := HQ.out
   unfold onlyC
   rw [show x.con.q = x.q from rfl, HQ.out]
   rw [HQE.out, HFE.out, HTE.out, HQ.out]
   rfl
 · have hz := mz_ok w9 [] q f t (by rw [HQE.out]; exact HX.out.q) (by rw [HFE.out]; exact HX.out.f) (by rw [HTE.out]; exact HX.out.t)
   have HW9 : Fr [] w w9 := (HF0.out.and HF1.out (by simp)).go HS9 (by have := HSZ.out; simp; omega)
   exact ⟨hz.q, hz.f, hz.t, hz.cm, hz.st, (HX.out.ce.keep (S' := []) HW9 (by simp)), hz.ak, hz.e, hz.r, hz.tm, hz.pr, hz.po, hz.vt, hz.i, hz.en, hz.op, hz.dn, hz.rp, hz.de⟩
set_option maxHeartbeats 2000000 in
theorem refonly_4 (x : Wmg) (hq : x.q = 4) (w : World) (hx : x.Ok w []) (C : List Value) (hC : x.cells = C) :
  Calls Tryz.prog 12 #[.agg C.toArray] w (OnlyPost x w) := by
 obtain ⟨wa, hwa⟩ : ∃ wa, wa = (w.alloc (Obj.cells C.toArray 61)).alloc (Obj.cells mz00 61) := ⟨_, rfl⟩
 have hf0 : Fr [] w wa := by rw [hwa]; exact ((Fr.refl [] w).alloc _).alloc _
 have hb0 : Blk wa w.heap.size 61 x.cells.toArray := by rw [hwa, hC]; exact blk_alloc (Blk.new _ _ _)
 have hb1 : Blk wa (w.heap.size + 1) 61 mz00 := by
  have := Blk.new (w.alloc (Obj.cells C.toArray 61)) 61 mz00
  rw [hwa]
  simpa using this
 have hat : x.At wa w.heap.size := Wmg.at_of hb0.range hx
 have hcq : wa.cell? ⟨w.heap.size, 0, none⟩ = some (.int .i64 x.q) := by have h := hat.q 0 _ rfl; simpa using h
 have hcf : wa.cell? ⟨w.heap.size, 1, none⟩ = some (.int .i64 x.f) := by have h := hat.f 0 _ rfl; simpa using h
 have hct : wa.cell? ⟨w.heap.size, 2, none⟩ = some (.int .i64 x.t) := by have h := hat.t 0 _ rfl; simpa using h
 have HX := Lib.hid hx
 have HB0 := Lib.hid hb0
 have HB1 := Lib.hid hb1
 have HF0 := Lib.hid hf0
 have HWA := Lib.hid hwa
 have HSZ : Hid (wa.heap.size = w.heap.size + 2) := Lib.hid (by rw [hwa]; simp)
 obtain ⟨Z, hZ⟩ : ∃ Z, Z = (mz x.q x.f x.t).cells := ⟨_, rfl⟩
 have HBU : Hid (Tryz.prog.built 61 [(0, .int .i64 x.q), (1, .int .i64 x.f), (2, .int .i64 x.t)] = some Z.toArray) := Lib.hid (by rw [hZ]; exact built_mg3 _ _ _)
 have HZL : Hid ((Tryz.prog.info? 61).map (·.size) = some Z.toArray.size) := Lib.hid (by rw [hZ]; exact msg_size (mz_len _ _ _))
 have HZM : Hid (mz00.size = Z.toArray.size) := Lib.hid (by rw [hZ]; unfold mz00; rw [List.size_toArray, List.size_toArray, Wmg.lenz (mz_len _ _ _), Wmg.lenz (mz_len _ _ _)])
 have HZO : Hid (Z.toArray.all (·.oneCell') = true) := Lib.hid (by rw [hZ]; exact all_oneCell_toArray (Wmg.one _))
 have HZ := Lib.hid hZ
 have HQ := Lib.hid hq
 obtain ⟨q, hqq⟩ : ∃ q, q = x.q := ⟨_, rfl⟩
 obtain ⟨f, hff⟩ : ∃ f, f = x.f := ⟨_, rfl⟩
 obtain ⟨t, htt⟩ : ∃ t, t = x.t := ⟨_, rfl⟩
 rw [← hqq] at hcq
 rw [← hff] at hcf
 rw [← htt] at hct
 rw [← hqq, ← hff, ← htt] at HBU HZ
 have HQE := Lib.hid hqq
 have HFE := Lib.hid hff
 have HTE := Lib.hid htt
 clear hx hC hwa hf0 hb0 hb1 hat hZ hq hqq hff htt
 go_enter Tryz.func12, Tryz.ntmps12
 go_upto_region 1 with (fail)
 change Code.wp _ _ _ _ ((w.alloc (Obj.cells C.toArray 61)).alloc (Obj.cells mz00 61))
 rw [← HWA.out]
 go_upto_region 2 with (first
  | (refine wpList_builtg rfl 61 _ rfl _ _ HBU.out rfl ?_)
  | (refine wpList_store_blk rfl 61 _ _ rfl wa.heap.size Z.toArray rfl rfl 61 mz00 (Blk.new wa _ _) HZL.out HZM.out HZO.out ?_; intro w1 hb2 hf2))
 have HB2 : Hid (Blk w1 wa.heap.size 61 (mz q f t).cells.toArray) := Lib.hid (by rw [← HZ.out]; exact hb2)
 have HF1 : Hid (Fr [] wa w1) := Lib.hid (((Fr.refl [] wa).alloc _).go hf2 (by simp))
 clear hb2 hf2 hcf hct
 have hcq := HF1.out.cell hcq (by simp)
 have HB0 := Lib.hid (HB0.out.keep HF1.out (by simp))
 have HB1 := Lib.hid (HB1.out.keep HF1.out (by simp))
 have HBL1 : Hid (wa.heap.size < w1.heap.size) := Lib.hid HB2.out.lt
 have HAT := Lib.hid (Wmg.at_of HB0.out.range HX.out)
 have HZ0 := Lib.hid (mz_len q f t)
 rw [HQE.out, HQ.out] at hcq
 obtain ⟨V, hV⟩ : ∃ V, V = x.ak.cells := ⟨_, rfl⟩
 have HVL : Hid (V.length = 38) := Lib.hid (by rw [hV]; exact Wst.len HX.out.ak.h)
 have HVR : Hid (w1.rangeAt w.heap.size 116 V) := Lib.hid (by rw [hV]; exact HAT.out.ak)
 have HV := Lib.hid hV
 clear hV
 have HZX : Hid (Wmg.Len {mz q f t with ak := x.ak}) := Lib.hid ⟨rfl, rfl, rfl, HX.out.ak.h, rfl, rfl, rfl⟩
 have HBX := Lib.hid (Wmg.blk_ak HZ0.out x.ak (by rw [← HV.out]; exact HVL.out) HB2.out)
 rw [← HV.out] at HBX
 have HFS : Hid (Fr [wa.heap.size] w1 (w1.setCells wa.heap.size 116 V)) := Lib.hid (Fr.setCells (fun _ => by simp) _ 116 _ (Fr.refl _ _))
 have HTH : Hid (w1.there wa.heap.size 116 V.toArray.size) := Lib.hid (HB2.out.thereM _ _ (by rw [List.size_toArray, List.size_toArray, HVL.out, Wmg.lenz HZ0.out]; decide))
 have HVS : Hid ((Tryz.prog.info? 37).map (·.size) = some V.toArray.size) := Lib.hid (by rw [List.size_toArray, HVL.out]; kernel_rfl)
 have HVO : Hid (V.toArray.all (·.oneCell') = true) := Lib.hid (by rw [HV.out]; exact all_oneCell_toArray (Wst.one _))
 have HB9 : Hid (Blk (w1.setCells wa.heap.size 116 V) (w.heap.size + 1) 61 mz00) := Lib.hid (HB1.out.keep HFS.out (by have := HSZ.out; simp; omega))
 obtain ⟨E, hE⟩ : ∃ E, E = ({mz q f t with ak := x.ak} : Wmg).cells := ⟨_, rfl⟩
 have HEL : Hid (E.length = 295) := Lib.hid (by rw [hE]; exact Wmg.lenz HZX.out)
 have HEO : Hid (E.toArray.all (·.oneCell') = true) := Lib.hid (by rw [hE]; exact all_oneCell_toArray (Wmg.one _))
 have HES : Hid ((Tryz.prog.info? 61).map (·.size) = some E.toArray.size) := Lib.hid (by rw [List.size_toArray, HEL.out]; kernel_rfl)
 have HEM : Hid (mz00.size = E.toArray.size) := Lib.hid (by unfold mz00; rw [List.size_toArray, List.size_toArray, HEL.out, Wmg.lenz (mz_len _ _ _)])
 have HER : Hid ((w1.setCells wa.heap.size 116 V).rangeAt wa.heap.size 0 E) := Lib.hid (by rw [hE]; exact HBX.out.range)
 go_wp2_with (first | (refine wpList_load_mid rfl 37 _ rfl w.heap.size 116 rfl V _ HVR.out Tryz.underlying37 rfl (row_akO.of HVL.out).2 ?_) | (refine wpList_store_mid rfl 37 _ _ rfl wa.heap.size 116 V.toArray rfl rfl HTH.out HVS.out HVO.out ?_) | (refine wpList_load_mid rfl 61 _ rfl wa.heap.size 0 rfl E _ HER.out Tryz.underlying61 rfl (row_msg.of HEL.out).2 ?_) | (refine wpList_store_blk rfl 61 _ _ rfl (w.heap.size + 1) E.toArray rfl rfl 61 mz00 HB9.out HES.out HEM.out HEO.out ?_; intro w9 hb9 hf9))
 refine bodyPost_ret (v := .agg E.toArray) (results_cell_row Tryz.results12 _ _ (w.heap.size + 1) 61 E.toArray _ _ rfl hb9 Tryz.underlying61 rfl HES.out) rfl ?_
 have HS9 : Fr [wa.heap.size, w.heap.size + 1] w1 w9 := (HFS.out.mono (by intro k hk _; simp at hk; simp [hk])).trans hf9 (fun k hk _ => by simp at hk; simp [hk])
 refine ⟨{mz q f t with ak := x.ak}, by rw [hE], ?_, ?_, (HF0.out.and HF1.out (by simp)).go HS9 (by have := HSZ.out; simp; omega)⟩
 · have hqe : x.con.q = 4 := HQ.out
   unfold onlyC
   rw [show x.con.q = x.q from rfl, HQ.out]
   rw [HQE.out, HFE.out, HTE.out, HQ.out]
   rfl
 · have hz := mz_ok w9 [] q f t (by rw [HQE.out]; exact HX.out.q) (by rw [HFE.out]; exact HX.out.f) (by rw [HTE.out]; exact HX.out.t)
   have HW9 : Fr [] w w9 := (HF0.out.and HF1.out (by simp)).go HS9 (by have := HSZ.out; simp; omega)
   exact ⟨hz.q, hz.f, hz.t, hz.cm, hz.st, hz.ce, HX.out.ak, hz.e, hz.r, hz.tm, hz.pr, hz.po, hz.vt, hz.i, hz.en, hz.op, hz.dn, hz.rp, hz.de⟩
set_option maxHeartbeats 2000000 in
theorem refonly_6 (x : Wmg) (hq : x.q = 6) (w : World) (hx : x.Ok w []) (C : List Value) (hC : x.cells = C) :
  Calls Tryz.prog 12 #[.agg C.toArray] w (OnlyPost x w) := by
 obtain ⟨wa, hwa⟩ : ∃ wa, wa = (w.alloc (Obj.cells C.toArray 61)).alloc (Obj.cells mz00 61) := ⟨_, rfl⟩
 have hf0 : Fr [] w wa := by rw [hwa]; exact ((Fr.refl [] w).alloc _).alloc _
 have hb0 : Blk wa w.heap.size 61 x.cells.toArray := by rw [hwa, hC]; exact blk_alloc (Blk.new _ _ _)
 have hb1 : Blk wa (w.heap.size + 1) 61 mz00 := by
  have := Blk.new (w.alloc (Obj.cells C.toArray 61)) 61 mz00
  rw [hwa]
  simpa using this
 have hat : x.At wa w.heap.size := Wmg.at_of hb0.range hx
 have hcq : wa.cell? ⟨w.heap.size, 0, none⟩ = some (.int .i64 x.q) := by have h := hat.q 0 _ rfl; simpa using h
 have hcf : wa.cell? ⟨w.heap.size, 1, none⟩ = some (.int .i64 x.f) := by have h := hat.f 0 _ rfl; simpa using h
 have hct : wa.cell? ⟨w.heap.size, 2, none⟩ = some (.int .i64 x.t) := by have h := hat.t 0 _ rfl; simpa using h
 have HX := Lib.hid hx
 have HB0 := Lib.hid hb0
 have HB1 := Lib.hid hb1
 have HF0 := Lib.hid hf0
 have HWA := Lib.hid hwa
 have HSZ : Hid (wa.heap.size = w.heap.size + 2) := Lib.hid (by rw [hwa]; simp)
 obtain ⟨Z, hZ⟩ : ∃ Z, Z = (mz x.q x.f x.t).cells := ⟨_, rfl⟩
 have HBU : Hid (Tryz.prog.built 61 [(0, .int .i64 x.q), (1, .int .i64 x.f), (2, .int .i64 x.t)] = some Z.toArray) := Lib.hid (by rw [hZ]; exact built_mg3 _ _ _)
 have HZL : Hid ((Tryz.prog.info? 61).map (·.size) = some Z.toArray.size) := Lib.hid (by rw [hZ]; exact msg_size (mz_len _ _ _))
 have HZM : Hid (mz00.size = Z.toArray.size) := Lib.hid (by rw [hZ]; unfold mz00; rw [List.size_toArray, List.size_toArray, Wmg.lenz (mz_len _ _ _), Wmg.lenz (mz_len _ _ _)])
 have HZO : Hid (Z.toArray.all (·.oneCell') = true) := Lib.hid (by rw [hZ]; exact all_oneCell_toArray (Wmg.one _))
 have HZ := Lib.hid hZ
 have HQ := Lib.hid hq
 obtain ⟨q, hqq⟩ : ∃ q, q = x.q := ⟨_, rfl⟩
 obtain ⟨f, hff⟩ : ∃ f, f = x.f := ⟨_, rfl⟩
 obtain ⟨t, htt⟩ : ∃ t, t = x.t := ⟨_, rfl⟩
 rw [← hqq] at hcq
 rw [← hff] at hcf
 rw [← htt] at hct
 rw [← hqq, ← hff, ← htt] at HBU HZ
 have HQE := Lib.hid hqq
 have HFE := Lib.hid hff
 have HTE := Lib.hid htt
 clear hx hC hwa hf0 hb0 hb1 hat hZ hq hqq hff htt
 go_enter Tryz.func12, Tryz.ntmps12
 go_upto_region 1 with (fail)
 change Code.wp _ _ _ _ ((w.alloc (Obj.cells C.toArray 61)).alloc (Obj.cells mz00 61))
 rw [← HWA.out]
 go_upto_region 2 with (first
  | (refine wpList_builtg rfl 61 _ rfl _ _ HBU.out rfl ?_)
  | (refine wpList_store_blk rfl 61 _ _ rfl wa.heap.size Z.toArray rfl rfl 61 mz00 (Blk.new wa _ _) HZL.out HZM.out HZO.out ?_; intro w1 hb2 hf2))
 have HB2 : Hid (Blk w1 wa.heap.size 61 (mz q f t).cells.toArray) := Lib.hid (by rw [← HZ.out]; exact hb2)
 have HF1 : Hid (Fr [] wa w1) := Lib.hid (((Fr.refl [] wa).alloc _).go hf2 (by simp))
 clear hb2 hf2 hcf hct
 have hcq := HF1.out.cell hcq (by simp)
 have HB0 := Lib.hid (HB0.out.keep HF1.out (by simp))
 have HB1 := Lib.hid (HB1.out.keep HF1.out (by simp))
 have HBL1 : Hid (wa.heap.size < w1.heap.size) := Lib.hid HB2.out.lt
 have HAT := Lib.hid (Wmg.at_of HB0.out.range HX.out)
 have HZ0 := Lib.hid (mz_len q f t)
 rw [HQE.out, HQ.out] at hcq
 obtain ⟨V, hV⟩ : ∃ V, V = x.pr.cells := ⟨_, rfl⟩
 have HVL : Hid (V.length = 6) := Lib.hid (by rw [hV]; exact Wpr.len _)
 have HVR : Hid (w1.rangeAt w.heap.size 157 V) := Lib.hid (by rw [hV]; exact HAT.out.pr)
 have HV := Lib.hid hV
 clear hV
 have HZX : Hid (Wmg.Len {mz q f t with pr := x.pr}) := Lib.hid ⟨rfl, rfl, rfl, rfl, rfl, rfl, rfl⟩
 have HBX := Lib.hid (Wmg.blk_pr HZ0.out x.pr (by rw [← HV.out]; exact HVL.out) HB2.out)
 rw [← HV.out] at HBX
 have HFS : Hid (Fr [wa.heap.size] w1 (w1.setCells wa.heap.size 157 V)) := Lib.hid (Fr.setCells (fun _ => by simp) _ 157 _ (Fr.refl _ _))
 have HTH : Hid (w1.there wa.heap.size 157 V.toArray.size) := Lib.hid (HB2.out.thereM _ _ (by rw [List.size_toArray, List.size_toArray, HVL.out, Wmg.lenz HZ0.out]; decide))
 have HVS : Hid ((Tryz.prog.info? 40).map (·.size) = some V.toArray.size) := Lib.hid (by rw [List.size_toArray, HVL.out]; kernel_rfl)
 have HVO : Hid (V.toArray.all (·.oneCell') = true) := Lib.hid (by rw [HV.out]; exact all_oneCell_toArray (Wpr.one _))
 have HB9 : Hid (Blk (w1.setCells wa.heap.size 157 V) (w.heap.size + 1) 61 mz00) := Lib.hid (HB1.out.keep HFS.out (by have := HSZ.out; simp; omega))
 obtain ⟨E, hE⟩ : ∃ E, E = ({mz q f t with pr := x.pr} : Wmg).cells := ⟨_, rfl⟩
 have HEL : Hid (E.length = 295) := Lib.hid (by rw [hE]; exact Wmg.lenz HZX.out)
 have HEO : Hid (E.toArray.all (·.oneCell') = true) := Lib.hid (by rw [hE]; exact all_oneCell_toArray (Wmg.one _))
 have HES : Hid ((Tryz.prog.info? 61).map (·.size) = some E.toArray.size) := Lib.hid (by rw [List.size_toArray, HEL.out]; kernel_rfl)
 have HEM : Hid (mz00.size = E.toArray.size) := Lib.hid (by unfold mz00; rw [List.size_toArray, List.size_toArray, HEL.out, Wmg.lenz (mz_len _ _ _)])
 have HER : Hid ((w1.setCells wa.heap.size 157 V).rangeAt wa.heap.size 0 E) := Lib.hid (by rw [hE]; exact HBX.out.range)
 go_wp2_with (first | (refine wpList_load_mid rfl 40 _ rfl w.heap.size 157 rfl V _ HVR.out Tryz.underlying40 rfl (row_prm.of HVL.out).2 ?_) | (refine wpList_store_mid rfl 40 _ _ rfl wa.heap.size 157 V.toArray rfl rfl HTH.out HVS.out HVO.out ?_) | (refine wpList_load_mid rfl 61 _ rfl wa.heap.size 0 rfl E _ HER.out Tryz.underlying61 rfl (row_msg.of HEL.out).2 ?_) | (refine wpList_store_blk rfl 61 _ _ rfl (w.heap.size + 1) E.toArray rfl rfl 61 mz00 HB9.out HES.out HEM.out HEO.out ?_; intro w9 hb9 hf9))
 refine bodyPost_ret (v := .agg E.toArray) (results_cell_row Tryz.results12 _ _ (w.heap.size + 1) 61 E.toArray _ _ rfl hb9 Tryz.underlying61 rfl HES.out) rfl ?_
 have HS9 : Fr [wa.heap.size, w.heap.size + 1] w1 w9 := (HFS.out.mono (by intro k hk _; simp at hk; simp [hk])).trans hf9 (fun k hk _ => by simp at hk; simp [hk])
 refine ⟨{mz q f t with pr := x.pr}, by rw [hE], ?_, ?_, (HF0.out.and HF1.out (by simp)).go HS9 (by have := HSZ.out; simp; omega)⟩
 · have hqe : x.con.q = 6 := HQ.out
   unfold onlyC
   rw [show x.con.q = x.q from rfl, HQ.out]
   rw [HQE.out, HFE.out, HTE.out, HQ.out]
   rfl
 · have hz := mz_ok w9 [] q f t (by rw [HQE.out]; exact HX.out.q) (by rw [HFE.out]; exact HX.out.f) (by rw [HTE.out]; exact HX.out.t)
   have HW9 : Fr [] w w9 := (HF0.out.and HF1.out (by simp)).go HS9 (by have := HSZ.out; simp; omega)
   exact ⟨hz.q, hz.f, hz.t, hz.cm, hz.st, hz.ce, hz.ak, hz.e, hz.r, hz.tm, (HX.out.pr.keep (S' := []) HW9 (by simp)), hz.po, hz.vt, hz.i, hz.en, hz.op, hz.dn, hz.rp, hz.de⟩
set_option maxHeartbeats 2000000 in
theorem refonly_7 (x : Wmg) (hq : x.q = 7) (w : World) (hx : x.Ok w []) (C : List Value) (hC : x.cells = C) :
  Calls Tryz.prog 12 #[.agg C.toArray] w (OnlyPost x w) := by
 obtain ⟨wa, hwa⟩ : ∃ wa, wa = (w.alloc (Obj.cells C.toArray 61)).alloc (Obj.cells mz00 61) := ⟨_, rfl⟩
 have hf0 : Fr [] w wa := by rw [hwa]; exact ((Fr.refl [] w).alloc _).alloc _
 have hb0 : Blk wa w.heap.size 61 x.cells.toArray := by rw [hwa, hC]; exact blk_alloc (Blk.new _ _ _)
 have hb1 : Blk wa (w.heap.size + 1) 61 mz00 := by
  have := Blk.new (w.alloc (Obj.cells C.toArray 61)) 61 mz00
  rw [hwa]
  simpa using this
 have hat : x.At wa w.heap.size := Wmg.at_of hb0.range hx
 have hcq : wa.cell? ⟨w.heap.size, 0, none⟩ = some (.int .i64 x.q) := by have h := hat.q 0 _ rfl; simpa using h
 have hcf : wa.cell? ⟨w.heap.size, 1, none⟩ = some (.int .i64 x.f) := by have h := hat.f 0 _ rfl; simpa using h
 have hct : wa.cell? ⟨w.heap.size, 2, none⟩ = some (.int .i64 x.t) := by have h := hat.t 0 _ rfl; simpa using h
 have HX := Lib.hid hx
 have HB0 := Lib.hid hb0
 have HB1 := Lib.hid hb1
 have HF0 := Lib.hid hf0
 have HWA := Lib.hid hwa
 have HSZ : Hid (wa.heap.size = w.heap.size + 2) := Lib.hid (by rw [hwa]; simp)
 obtain ⟨Z, hZ⟩ : ∃ Z, Z = (mz x.q x.f x.t).cells := ⟨_, rfl⟩
 have HBU : Hid (Tryz.prog.built 61 [(0, .int .i64 x.q), (1, .int .i64 x.f), (2, .int .i64 x.t)] = some Z.toArray) := Lib.hid (by rw [hZ]; exact built_mg3 _ _ _)
 have HZL : Hid ((Tryz.prog.info? 61).map (·.size) = some Z.toArray.size) := Lib.hid (by rw [hZ]; exact msg_size (mz_len _ _ _))
 have HZM : Hid (mz00.size = Z.toArray.size) := Lib.hid (by rw [hZ]; unfold mz00; rw [List.size_toArray, List.size_toArray, Wmg.lenz (mz_len _ _ _), Wmg.lenz (mz_len _ _ _)])
 have HZO : Hid (Z.toArray.all (·.oneCell') = true) := Lib.hid (by rw [hZ]; exact all_oneCell_toArray (Wmg.one _))
 have HZ := Lib.hid hZ
 have HQ := Lib.hid hq
 obtain ⟨q, hqq⟩ : ∃ q, q = x.q := ⟨_, rfl⟩
 obtain ⟨f, hff⟩ : ∃ f, f = x.f := ⟨_, rfl⟩
 obtain ⟨t, htt⟩ : ∃ t, t = x.t := ⟨_, rfl⟩
 rw [← hqq] at hcq
 rw [← hff] at hcf
 rw [← htt] at hct
 rw [← hqq, ← hff, ← htt] at HBU HZ
 have HQE := Lib.hid hqq
 have HFE := Lib.hid hff
 have HTE := Lib.hid htt
 clear hx hC hwa hf0 hb0 hb1 hat hZ hq hqq hff htt
 go_enter Tryz.func12, Tryz.ntmps12
 go_upto_region 1 with (fail)
 change Code.wp _ _ _ _ ((w.alloc (Obj.cells C.toArray 61)).alloc (Obj.cells mz00 61))
 rw [← HWA.out]
 go_upto_region 2 with (first
  | (refine wpList_builtg rfl 61 _ rfl _ _ HBU.out rfl ?_)
  | (refine wpList_store_blk rfl 61 _ _ rfl wa.heap.size Z.toArray rfl rfl 61 mz00 (Blk.new wa _ _) HZL.out HZM.out HZO.out ?_; intro w1 hb2 hf2))
 have HB2 : Hid (Blk w1 wa.heap.size 61 (mz q f t).cells.toArray) := Lib.hid (by rw [← HZ.out]; exact hb2)
 have HF1 : Hid (Fr [] wa w1) := Lib.hid (((Fr.refl [] wa).alloc _).go hf2 (by simp))
 clear hb2 hf2 hcf hct
 have hcq := HF1.out.cell hcq (by simp)
 have HB0 := Lib.hid (HB0.out.keep HF1.out (by simp))
 have HB1 := Lib.hid (HB1.out.keep HF1.out (by simp))
 have HBL1 : Hid (wa.heap.size < w1.heap.size) := Lib.hid HB2.out.lt
 have HAT := Lib.hid (Wmg.at_of HB0.out.range HX.out)
 have HZ0 := Lib.hid (mz_len q f t)
 rw [HQE.out, HQ.out] at hcq
 obtain ⟨V, hV⟩ : ∃ V, V = x.po.cells := ⟨_, rfl⟩
 have HVL : Hid (V.length = 11) := Lib.hid (by rw [hV]; exact Wpo.len _)
 have HVR : Hid (w1.rangeAt w.heap.size 163 V) := Lib.hid (by rw [hV]; exact HAT.out.po)
 have HV := Lib.hid hV
 clear hV
 have HZX : Hid (Wmg.Len {mz q f t with po := x.po}) := Lib.hid ⟨rfl, rfl, rfl, rfl, rfl, rfl, rfl⟩
 have HBX := Lib.hid (Wmg.blk_po HZ0.out x.po (by rw [← HV.out]; exact HVL.out) HB2.out)
 rw [← HV.out] at HBX
 have HFS : Hid (Fr [wa.heap.size] w1 (w1.setCells wa.heap.size 163 V)) := Lib.hid (Fr.setCells (fun _ => by simp) _ 163 _ (Fr.refl _ _))
 have HTH : Hid (w1.there wa.heap.size 163 V.toArray.size) := Lib.hid (HB2.out.thereM _ _ (by rw [List.size_toArray, List.size_toArray, HVL.out, Wmg.lenz HZ0.out]; decide))
 have HVS : Hid ((Tryz.prog.info? 47).map (·.size) = some V.toArray.size) := Lib.hid (by rw [List.size_toArray, HVL.out]; kernel_rfl)
 have HVO : Hid (V.toArray.all (·.oneCell') = true) := Lib.hid (by rw [HV.out]; exact all_oneCell_toArray (Wpo.one _))
 have HB9 : Hid (Blk (w1.setCells wa.heap.size 163 V) (w.heap.size + 1) 61 mz00) := Lib.hid (HB1.out.keep HFS.out (by have := HSZ.out; simp; omega))
 obtain ⟨E, hE⟩ : ∃ E, E = ({mz q f t with po := x.po} : Wmg).cells := ⟨_, rfl⟩
 have HEL : Hid (E.length = 295) := Lib.hid (by rw [hE]; exact Wmg.lenz HZX.out)
 have HEO : Hid (E.toArray.all (·.oneCell') = true) := Lib.hid (by rw [hE]; exact all_oneCell_toArray (Wmg.one _))
 have HES : Hid ((Tryz.prog.info? 61).map (·.size) = some E.toArray.size) := Lib.hid (by rw [List.size_toArray, HEL.out]; kernel_rfl)
 have HEM : Hid (mz00.size = E.toArray.size) := Lib.hid (by unfold mz00; rw [List.size_toArray, List.size_toArray, HEL.out, Wmg.lenz (mz_len _ _ _)])
 have HER : Hid ((w1.setCells wa.heap.size 163 V).rangeAt wa.heap.size 0 E) := Lib.hid (by rw [hE]; exact HBX.out.range)
 go_wp2_with (first | (refine wpList_load_mid rfl 47 _ rfl w.heap.size 163 rfl V _ HVR.out Tryz.underlying47 rfl (row_poC.of HVL.out).2 ?_) | (refine wpList_store_mid rfl 47 _ _ rfl wa.heap.size 163 V.toArray rfl rfl HTH.out HVS.out HVO.out ?_) | (refine wpList_load_mid rfl 61 _ rfl wa.heap.size 0 rfl E _ HER.out Tryz.underlying61 rfl (row_msg.of HEL.out).2 ?_) | (refine wpList_store_blk rfl 61 _ _ rfl (w.heap.size + 1) E.toArray rfl rfl 61 mz00 HB9.out HES.out HEM.out HEO.out ?_; intro w9 hb9 hf9))
 refine bodyPost_ret (v := .agg E.toArray) (results_cell_row Tryz.results12 _ _ (w.heap.size + 1) 61 E.toArray _ _ rfl hb9 Tryz.underlying61 rfl HES.out) rfl ?_
 have HS9 : Fr [wa.heap.size, w.heap.size + 1] w1 w9 := (HFS.out.mono (by intro k hk _; simp at hk; simp [hk])).trans hf9 (fun k hk _ => by simp at hk; simp [hk])
 refine ⟨{mz q f t with po := x.po}, by rw [hE], ?_, ?_, (HF0.out.and HF1.out (by simp)).go HS9 (by have := HSZ.out; simp; omega)⟩
 · have hqe : x.con.q = 7 := HQ.out
   unfold onlyC
   rw [show x.con.q = x.q from rfl, HQ.out]
   rw [HQE.out, HFE.out, HTE.out, HQ.out]
   rfl
 · have hz := mz_ok w9 [] q f t (by rw [HQE.out]; exact HX.out.q) (by rw [HFE.out]; exact HX.out.f) (by rw [HTE.out]; exact HX.out.t)
   have HW9 : Fr [] w w9 := (HF0.out.and HF1.out (by simp)).go HS9 (by have := HSZ.out; simp; omega)
   exact ⟨hz.q, hz.f, hz.t, hz.cm, hz.st, hz.ce, hz.ak, hz.e, hz.r, hz.tm, hz.pr, (HX.out.po.keep (S' := []) HW9 (by simp)), hz.vt, hz.i, hz.en, hz.op, hz.dn, hz.rp, hz.de⟩
set_option maxHeartbeats 2000000 in
theorem refonly_8 (x : Wmg) (hq : x.q = 8) (w : World) (hx : x.Ok w []) (C : List Value) (hC : x.cells = C) :
  Calls Tryz.prog 12 #[.agg C.toArray] w (OnlyPost x w) := by
 obtain ⟨wa, hwa⟩ : ∃ wa, wa = (w.alloc (Obj.cells C.toArray 61)).alloc (Obj.cells mz00 61) := ⟨_, rfl⟩
 have hf0 : Fr [] w wa := by rw [hwa]; exact ((Fr.refl [] w).alloc _).alloc _
 have hb0 : Blk wa w.heap.size 61 x.cells.toArray := by rw [hwa, hC]; exact blk_alloc (Blk.new _ _ _)
 have hb1 : Blk wa (w.heap.size + 1) 61 mz00 := by
  have := Blk.new (w.alloc (Obj.cells C.toArray 61)) 61 mz00
  rw [hwa]
  simpa using this
 have hat : x.At wa w.heap.size := Wmg.at_of hb0.range hx
 have hcq : wa.cell? ⟨w.heap.size, 0, none⟩ = some (.int .i64 x.q) := by have h := hat.q 0 _ rfl; simpa using h
 have hcf : wa.cell? ⟨w.heap.size, 1, none⟩ = some (.int .i64 x.f) := by have h := hat.f 0 _ rfl; simpa using h
 have hct : wa.cell? ⟨w.heap.size, 2, none⟩ = some (.int .i64 x.t) := by have h := hat.t 0 _ rfl; simpa using h
 have HX := Lib.hid hx
 have HB0 := Lib.hid hb0
 have HB1 := Lib.hid hb1
 have HF0 := Lib.hid hf0
 have HWA := Lib.hid hwa
 have HSZ : Hid (wa.heap.size = w.heap.size + 2) := Lib.hid (by rw [hwa]; simp)
 obtain ⟨Z, hZ⟩ : ∃ Z, Z = (mz x.q x.f x.t).cells := ⟨_, rfl⟩
 have HBU : Hid (Tryz.prog.built 61 [(0, .int .i64 x.q), (1, .int .i64 x.f), (2, .int .i64 x.t)] = some Z.toArray) := Lib.hid (by rw [hZ]; exact built_mg3 _ _ _)
 have HZL : Hid ((Tryz.prog.info? 61).map (·.size) = some Z.toArray.size) := Lib.hid (by rw [hZ]; exact msg_size (mz_len _ _ _))
 have HZM : Hid (mz00.size = Z.toArray.size) := Lib.hid (by rw [hZ]; unfold mz00; rw [List.size_toArray, List.size_toArray, Wmg.lenz (mz_len _ _ _), Wmg.lenz (mz_len _ _ _)])
 have HZO : Hid (Z.toArray.all (·.oneCell') = true) := Lib.hid (by rw [hZ]; exact all_oneCell_toArray (Wmg.one _))
 have HZ := Lib.hid hZ
 have HQ := Lib.hid hq
 obtain ⟨q, hqq⟩ : ∃ q, q = x.q := ⟨_, rfl⟩
 obtain ⟨f, hff⟩ : ∃ f, f = x.f := ⟨_, rfl⟩
 obtain ⟨t, htt⟩ : ∃ t, t = x.t := ⟨_, rfl⟩
 rw [← hqq] at hcq
 rw [← hff] at hcf
 rw [← htt] at hct
 rw [← hqq, ← hff, ← htt] at HBU HZ
 have HQE := Lib.hid hqq
 have HFE := Lib.hid hff
 have HTE := Lib.hid htt
 clear hx hC hwa hf0 hb0 hb1 hat hZ hq hqq hff htt
 go_enter Tryz.func12, Tryz.ntmps12
 go_upto_region 1 with (fail)
 change Code.wp _ _ _ _ ((w.alloc (Obj.cells C.toArray 61)).alloc (Obj.cells mz00 61))
 rw [← HWA.out]
 go_upto_region 2 with (first
  | (refine wpList_builtg rfl 61 _ rfl _ _ HBU.out rfl ?_)
  | (refine wpList_store_blk rfl 61 _ _ rfl wa.heap.size Z.toArray rfl rfl 61 mz00 (Blk.new wa _ _) HZL.out HZM.out HZO.out ?_; intro w1 hb2 hf2))
 have HB2 : Hid (Blk w1 wa.heap.size 61 (mz q f t).cells.toArray) := Lib.hid (by rw [← HZ.out]; exact hb2)
 have HF1 : Hid (Fr [] wa w1) := Lib.hid (((Fr.refl [] wa).alloc _).go hf2 (by simp))
 clear hb2 hf2 hcf hct
 have hcq := HF1.out.cell hcq (by simp)
 have HB0 := Lib.hid (HB0.out.keep HF1.out (by simp))
 have HB1 := Lib.hid (HB1.out.keep HF1.out (by simp))
 have HBL1 : Hid (wa.heap.size < w1.heap.size) := Lib.hid HB2.out.lt
 have HAT := Lib.hid (Wmg.at_of HB0.out.range HX.out)
 have HZ0 := Lib.hid (mz_len q f t)
 rw [HQE.out, HQ.out] at hcq
 obtain ⟨V, hV⟩ : ∃ V, V = x.vt.cells := ⟨_, rfl⟩
 have HVL : Hid (V.length = 38) := Lib.hid (by rw [hV]; exact Wvt.len HX.out.vt.h)
 have HVR : Hid (w1.rangeAt w.heap.size 174 V) := Lib.hid (by rw [hV]; exact HAT.out.vt)
 have HV := Lib.hid hV
 clear hV
 have HZX : Hid (Wmg.Len {mz q f t with vt := x.vt}) := Lib.hid ⟨rfl, rfl, rfl, rfl, HX.out.vt.h, rfl, rfl⟩
 have HBX := Lib.hid (Wmg.blk_vt HZ0.out x.vt (by rw [← HV.out]; exact HVL.out) HB2.out)
 rw [← HV.out] at HBX
 have HFS : Hid (Fr [wa.heap.size] w1 (w1.setCells wa.heap.size 174 V)) := Lib.hid (Fr.setCells (fun _ => by simp) _ 174 _ (Fr.refl _ _))
 have HTH : Hid (w1.there wa.heap.size 174 V.toArray.size) := Lib.hid (HB2.out.thereM _ _ (by rw [List.size_toArray, List.size_toArray, HVL.out, Wmg.lenz HZ0.out]; decide))
 have HVS : Hid ((Tryz.prog.info? 49).map (·.size) = some V.toArray.size) := Lib.hid (by rw [List.size_toArray, HVL.out]; kernel_rfl)
 have HVO : Hid (V.toArray.all (·.oneCell') = true) := Lib.hid (by rw [HV.out]; exact all_oneCell_toArray (Wvt.one _))
 have HB9 : Hid (Blk (w1.setCells wa.heap.size 174 V) (w.heap.size + 1) 61 mz00) := Lib.hid (HB1.out.keep HFS.out (by have := HSZ.out; simp; omega))
 obtain ⟨E, hE⟩ : ∃ E, E = ({mz q f t with vt := x.vt} : Wmg).cells := ⟨_, rfl⟩
 have HEL : Hid (E.length = 295) := Lib.hid (by rw [hE]; exact Wmg.lenz HZX.out)
 have HEO : Hid (E.toArray.all (·.oneCell') = true) := Lib.hid (by rw [hE]; exact all_oneCell_toArray (Wmg.one _))
 have HES : Hid ((Tryz.prog.info? 61).map (·.size) = some E.toArray.size) := Lib.hid (by rw [List.size_toArray, HEL.out]; kernel_rfl)
 have HEM : Hid (mz00.size = E.toArray.size) := Lib.hid (by unfold mz00; rw [List.size_toArray, List.size_toArray, HEL.out, Wmg.lenz (mz_len _ _ _)])
 have HER : Hid ((w1.setCells wa.heap.size 174 V).rangeAt wa.heap.size 0 E) := Lib.hid (by rw [hE]; exact HBX.out.range)
 go_wp2_with (first | (refine wpList_load_mid rfl 49 _ rfl w.heap.size 174 rfl V _ HVR.out Tryz.underlying49 rfl (row_vtO.of HVL.out).2 ?_) | (refine wpList_store_mid rfl 49 _ _ rfl wa.heap.size 174 V.toArray rfl rfl HTH.out HVS.out HVO.out ?_) | (refine wpList_load_mid rfl 61 _ rfl wa.heap.size 0 rfl E _ HER.out Tryz.underlying61 rfl (row_msg.of HEL.out).2 ?_) | (refine wpList_store_blk rfl 61 _ _ rfl (w.heap.size + 1) E.toArray rfl rfl 61 mz00 HB9.out HES.out HEM.out HEO.out ?_; intro w9 hb9 hf9))
 refine bodyPost_ret (v := .agg E.toArray) (results_cell_row Tryz.results12 _ _ (w.heap.size + 1) 61 E.toArray _ _ rfl hb9 Tryz.underlying61 rfl HES.out) rfl ?_
 have HS9 : Fr [wa.heap.size, w.heap.size + 1] w1 w9 := (HFS.out.mono (by intro k hk _; simp at hk; simp [hk])).trans hf9 (fun k hk _ => by simp at hk; simp [hk])
 refine ⟨{mz q f t with vt := x.vt}, by rw [hE], ?_, ?_, (HF0.out.and HF1.out (by simp)).go HS9 (by have := HSZ.out; simp; omega)⟩
 · have hqe : x.con.q = 8 := HQ.out
   unfold onlyC
   rw [show x.con.q = x.q from rfl, HQ.out]
   rw [HQE.out, HFE.out, HTE.out, HQ.out]
   rfl
 · have hz := mz_ok w9 [] q f t (by rw [HQE.out]; exact HX.out.q) (by rw [HFE.out]; exact HX.out.f) (by rw [HTE.out]; exact HX.out.t)
   have HW9 : Fr [] w w9 := (HF0.out.and HF1.out (by simp)).go HS9 (by have := HSZ.out; simp; omega)
   exact ⟨hz.q, hz.f, hz.t, hz.cm, hz.st, hz.ce, hz.ak, hz.e, hz.r, hz.tm, hz.pr, hz.po, HX.out.vt, hz.i, hz.en, hz.op, hz.dn, hz.rp, hz.de⟩
set_option maxHeartbeats 2000000 in
theorem refonly_10 (x : Wmg) (hq : x.q = 10) (w : World) (hx : x.Ok w []) (C : List Value) (hC : x.cells = C) :
  Calls Tryz.prog 12 #[.agg C.toArray] w (OnlyPost x w) := by
 obtain ⟨wa, hwa⟩ : ∃ wa, wa = (w.alloc (Obj.cells C.toArray 61)).alloc (Obj.cells mz00 61) := ⟨_, rfl⟩
 have hf0 : Fr [] w wa := by rw [hwa]; exact ((Fr.refl [] w).alloc _).alloc _
 have hb0 : Blk wa w.heap.size 61 x.cells.toArray := by rw [hwa, hC]; exact blk_alloc (Blk.new _ _ _)
 have hb1 : Blk wa (w.heap.size + 1) 61 mz00 := by
  have := Blk.new (w.alloc (Obj.cells C.toArray 61)) 61 mz00
  rw [hwa]
  simpa using this
 have hat : x.At wa w.heap.size := Wmg.at_of hb0.range hx
 have hcq : wa.cell? ⟨w.heap.size, 0, none⟩ = some (.int .i64 x.q) := by have h := hat.q 0 _ rfl; simpa using h
 have hcf : wa.cell? ⟨w.heap.size, 1, none⟩ = some (.int .i64 x.f) := by have h := hat.f 0 _ rfl; simpa using h
 have hct : wa.cell? ⟨w.heap.size, 2, none⟩ = some (.int .i64 x.t) := by have h := hat.t 0 _ rfl; simpa using h
 have HX := Lib.hid hx
 have HB0 := Lib.hid hb0
 have HB1 := Lib.hid hb1
 have HF0 := Lib.hid hf0
 have HWA := Lib.hid hwa
 have HSZ : Hid (wa.heap.size = w.heap.size + 2) := Lib.hid (by rw [hwa]; simp)
 obtain ⟨Z, hZ⟩ : ∃ Z, Z = (mz x.q x.f x.t).cells := ⟨_, rfl⟩
 have HBU : Hid (Tryz.prog.built 61 [(0, .int .i64 x.q), (1, .int .i64 x.f), (2, .int .i64 x.t)] = some Z.toArray) := Lib.hid (by rw [hZ]; exact built_mg3 _ _ _)
 have HZL : Hid ((Tryz.prog.info? 61).map (·.size) = some Z.toArray.size) := Lib.hid (by rw [hZ]; exact msg_size (mz_len _ _ _))
 have HZM : Hid (mz00.size = Z.toArray.size) := Lib.hid (by rw [hZ]; unfold mz00; rw [List.size_toArray, List.size_toArray, Wmg.lenz (mz_len _ _ _), Wmg.lenz (mz_len _ _ _)])
 have HZO : Hid (Z.toArray.all (·.oneCell') = true) := Lib.hid (by rw [hZ]; exact all_oneCell_toArray (Wmg.one _))
 have HZ := Lib.hid hZ
 have HQ := Lib.hid hq
 obtain ⟨q, hqq⟩ : ∃ q, q = x.q := ⟨_, rfl⟩
 obtain ⟨f, hff⟩ : ∃ f, f = x.f := ⟨_, rfl⟩
 obtain ⟨t, htt⟩ : ∃ t, t = x.t := ⟨_, rfl⟩
 rw [← hqq] at hcq
 rw [← hff] at hcf
 rw [← htt] at hct
 rw [← hqq, ← hff, ← htt] at HBU HZ
 have HQE := Lib.hid hqq
 have HFE := Lib.hid hff
 have HTE := Lib.hid htt
 clear hx hC hwa hf0 hb0 hb1 hat hZ hq hqq hff htt
 go_enter Tryz.func12, Tryz.ntmps12
 go_upto_region 1 with (fail)
 change Code.wp _ _ _ _ ((w.alloc (Obj.cells C.toArray 61)).alloc (Obj.cells mz00 61))
 rw [← HWA.out]
 go_upto_region 2 with (first
  | (refine wpList_builtg rfl 61 _ rfl _ _ HBU.out rfl ?_)
  | (refine wpList_store_blk rfl 61 _ _ rfl wa.heap.size Z.toArray rfl rfl 61 mz00 (Blk.new wa _ _) HZL.out HZM.out HZO.out ?_; intro w1 hb2 hf2))
 have HB2 : Hid (Blk w1 wa.heap.size 61 (mz q f t).cells.toArray) := Lib.hid (by rw [← HZ.out]; exact hb2)
 have HF1 : Hid (Fr [] wa w1) := Lib.hid (((Fr.refl [] wa).alloc _).go hf2 (by simp))
 clear hb2 hf2 hcf hct
 have hcq := HF1.out.cell hcq (by simp)
 have HB0 := Lib.hid (HB0.out.keep HF1.out (by simp))
 have HB1 := Lib.hid (HB1.out.keep HF1.out (by simp))
 have HBL1 : Hid (wa.heap.size < w1.heap.size) := Lib.hid HB2.out.lt
 have HAT := Lib.hid (Wmg.at_of HB0.out.range HX.out)
 have HZ0 := Lib.hid (mz_len q f t)
 rw [HQE.out, HQ.out] at hcq
 obtain ⟨V, hV⟩ : ∃ V, V = x.op.cells := ⟨_, rfl⟩
 have HVL : Hid (V.length = 34) := Lib.hid (by rw [hV]; exact Wop.len HX.out.op.h)
 have HVR : Hid (w1.rangeAt w.heap.size 248 V) := Lib.hid (by rw [hV]; exact HAT.out.op)
 have HV := Lib.hid hV
 clear hV
 have HZX : Hid (Wmg.Len {mz q f t with op := x.op}) := Lib.hid ⟨rfl, rfl, rfl, rfl, rfl, rfl, HX.out.op.h⟩
 have HBX := Lib.hid (Wmg.blk_op HZ0.out x.op (by rw [← HV.out]; exact HVL.out) HB2.out)
 rw [← HV.out] at HBX
 have HFS : Hid (Fr [wa.heap.size] w1 (w1.setCells wa.heap.size 248 V)) := Lib.hid (Fr.setCells (fun _ => by simp) _ 248 _ (Fr.refl _ _))
 have HTH : Hid (w1.there wa.heap.size 248 V.toArray.size) := Lib.hid (HB2.out.thereM _ _ (by rw [List.size_toArray, List.size_toArray, HVL.out, Wmg.lenz HZ0.out]; decide))
 have HVS : Hid ((Tryz.prog.info? 54).map (·.size) = some V.toArray.size) := Lib.hid (by rw [List.size_toArray, HVL.out]; kernel_rfl)
 have HVO : Hid (V.toArray.all (·.oneCell') = true) := Lib.hid (by rw [HV.out]; exact all_oneCell_toArray (Wop.one _))
 have HB9 : Hid (Blk (w1.setCells wa.heap.size 248 V) (w.heap.size + 1) 61 mz00) := Lib.hid (HB1.out.keep HFS.out (by have := HSZ.out; simp; omega))
 obtain ⟨E, hE⟩ : ∃ E, E = ({mz q f t with op := x.op} : Wmg).cells := ⟨_, rfl⟩
 have HEL : Hid (E.length = 295) := Lib.hid (by rw [hE]; exact Wmg.lenz HZX.out)
 have HEO : Hid (E.toArray.all (·.oneCell') = true) := Lib.hid (by rw [hE]; exact all_oneCell_toArray (Wmg.one _))
 have HES : Hid ((Tryz.prog.info? 61).map (·.size) = some E.toArray.size) := Lib.hid (by rw [List.size_toArray, HEL.out]; kernel_rfl)
 have HEM : Hid (mz00.size = E.toArray.size) := Lib.hid (by unfold mz00; rw [List.size_toArray, List.size_toArray, HEL.out, Wmg.lenz (mz_len _ _ _)])
 have HER : Hid ((w1.setCells wa.heap.size 248 V).rangeAt wa.heap.size 0 E) := Lib.hid (by rw [hE]; exact HBX.out.range)
 go_wp2_with (first | (refine wpList_load_mid rfl 54 _ rfl w.heap.size 248 rfl V _ HVR.out Tryz.underlying54 rfl (row_opn.of HVL.out).2 ?_) | (refine wpList_store_mid rfl 54 _ _ rfl wa.heap.size 248 V.toArray rfl rfl HTH.out HVS.out HVO.out ?_) | (refine wpList_load_mid rfl 61 _ rfl wa.heap.size 0 rfl E _ HER.out Tryz.underlying61 rfl (row_msg.of HEL.out).2 ?_) | (refine wpList_store_blk rfl 61 _ _ rfl (w.heap.size + 1) E.toArray rfl rfl 61 mz00 HB9.out HES.out HEM.out HEO.out ?_; intro w9 hb9 hf9))
 refine bodyPost_ret (v := .agg E.toArray) (results_cell_row Tryz.results12 _ _ (w.heap.size + 1) 61 E.toArray _ _ rfl hb9 Tryz.underlying61 rfl HES.out) rfl ?_
 have HS9 : Fr [wa.heap.size, w.heap.size + 1] w1 w9 := (HFS.out.mono (by intro k hk _; simp at hk; simp [hk])).trans hf9 (fun k hk _ => by simp at hk; simp [hk])
 refine ⟨{mz q f t with op := x.op}, by rw [hE], ?_, ?_, (HF0.out.and HF1.out (by simp)).go HS9 (by have := HSZ.out; simp; omega)⟩
 · have hqe : x.con.q = 10 := HQ.out
   unfold onlyC
   rw [show x.con.q = x.q from rfl, HQ.out]
   rw [HQE.out, HFE.out, HTE.out, HQ.out]
   rfl
 · have hz := mz_ok w9 [] q f t (by rw [HQE.out]; exact HX.out.q) (by rw [HFE.out]; exact HX.out.f) (by rw [HTE.out]; exact HX.out.t)
   have HW9 : Fr [] w w9 := (HF0.out.and HF1.out (by simp)).go HS9 (by have := HSZ.out; simp; omega)
   exact ⟨hz.q, hz.f, hz.t, hz.cm, hz.st, hz.ce, hz.ak, hz.e, hz.r, hz.tm, hz.pr, hz.po, hz.vt, hz.i, hz.en, (HX.out.op.keep (S' := []) HW9 (by simp)), hz.dn, hz.rp, hz.de⟩
set_option maxHeartbeats 2000000 in
theorem refonly_12 (x : Wmg) (hq : x.q = 12) (w : World) (hx : x.Ok w []) (C : List Value) (hC : x.cells = C) :
  Calls Tryz.prog 12 #[.agg C.toArray] w (OnlyPost x w) := by
 obtain ⟨wa, hwa⟩ : ∃ wa, wa = (w.alloc (Obj.cells C.toArray 61)).alloc (Obj.cells mz00 61) := ⟨_, rfl⟩
 have hf0 : Fr [] w wa := by rw [hwa]; exact ((Fr.refl [] w).alloc _).alloc _
 have hb0 : Blk wa w.heap.size 61 x.cells.toArray := by rw [hwa, hC]; exact blk_alloc (Blk.new _ _ _)
 have hb1 : Blk wa (w.heap.size + 1) 61 mz00 := by
  have := Blk.new (w.alloc (Obj.cells C.toArray 61)) 61 mz00
  rw [hwa]
  simpa using this
 have hat : x.At wa w.heap.size := Wmg.at_of hb0.range hx
 have hcq : wa.cell? ⟨w.heap.size, 0, none⟩ = some (.int .i64 x.q) := by have h := hat.q 0 _ rfl; simpa using h
 have hcf : wa.cell? ⟨w.heap.size, 1, none⟩ = some (.int .i64 x.f) := by have h := hat.f 0 _ rfl; simpa using h
 have hct : wa.cell? ⟨w.heap.size, 2, none⟩ = some (.int .i64 x.t) := by have h := hat.t 0 _ rfl; simpa using h
 have HX := Lib.hid hx
 have HB0 := Lib.hid hb0
 have HB1 := Lib.hid hb1
 have HF0 := Lib.hid hf0
 have HWA := Lib.hid hwa
 have HSZ : Hid (wa.heap.size = w.heap.size + 2) := Lib.hid (by rw [hwa]; simp)
 obtain ⟨Z, hZ⟩ : ∃ Z, Z = (mz x.q x.f x.t).cells := ⟨_, rfl⟩
 have HBU : Hid (Tryz.prog.built 61 [(0, .int .i64 x.q), (1, .int .i64 x.f), (2, .int .i64 x.t)] = some Z.toArray) := Lib.hid (by rw [hZ]; exact built_mg3 _ _ _)
 have HZL : Hid ((Tryz.prog.info? 61).map (·.size) = some Z.toArray.size) := Lib.hid (by rw [hZ]; exact msg_size (mz_len _ _ _))
 have HZM : Hid (mz00.size = Z.toArray.size) := Lib.hid (by rw [hZ]; unfold mz00; rw [List.size_toArray, List.size_toArray, Wmg.lenz (mz_len _ _ _), Wmg.lenz (mz_len _ _ _)])
 have HZO : Hid (Z.toArray.all (·.oneCell') = true) := Lib.hid (by rw [hZ]; exact all_oneCell_toArray (Wmg.one _))
 have HZ := Lib.hid hZ
 have HQ := Lib.hid hq
 obtain ⟨q, hqq⟩ : ∃ q, q = x.q := ⟨_, rfl⟩
 obtain ⟨f, hff⟩ : ∃ f, f = x.f := ⟨_, rfl⟩
 obtain ⟨t, htt⟩ : ∃ t, t = x.t := ⟨_, rfl⟩
 rw [← hqq] at hcq
 rw [← hff] at hcf
 rw [← htt] at hct
 rw [← hqq, ← hff, ← htt] at HBU HZ
 have HQE := Lib.hid hqq
 have HFE := Lib.hid hff
 have HTE := Lib.hid htt
 clear hx hC hwa hf0 hb0 hb1 hat hZ hq hqq hff htt
 go_enter Tryz.func12, Tryz.ntmps12
 go_upto_region 1 with (fail)
 change Code.wp _ _ _ _ ((w.alloc (Obj.cells C.toArray 61)).alloc (Obj.cells mz00 61))
 rw [← HWA.out]
 go_upto_region 2 with (first
  | (refine wpList_builtg rfl 61 _ rfl _ _ HBU.out rfl ?_)
  | (refine wpList_store_blk rfl 61 _ _ rfl wa.heap.size Z.toArray rfl rfl 61 mz00 (Blk.new wa _ _) HZL.out HZM.out HZO.out ?_; intro w1 hb2 hf2))
 have HB2 : Hid (Blk w1 wa.heap.size 61 (mz q f t).cells.toArray) := Lib.hid (by rw [← HZ.out]; exact hb2)
 have HF1 : Hid (Fr [] wa w1) := Lib.hid (((Fr.refl [] wa).alloc _).go hf2 (by simp))
 clear hb2 hf2 hcf hct
 have hcq := HF1.out.cell hcq (by simp)
 have HB0 := Lib.hid (HB0.out.keep HF1.out (by simp))
 have HB1 := Lib.hid (HB1.out.keep HF1.out (by simp))
 have HBL1 : Hid (wa.heap.size < w1.heap.size) := Lib.hid HB2.out.lt
 have HAT := Lib.hid (Wmg.at_of HB0.out.range HX.out)
 have HZ0 := Lib.hid (mz_len q f t)
 rw [HQE.out, HQ.out] at hcq
 obtain ⟨V, hV⟩ : ∃ V, V = x.dn.cells := ⟨_, rfl⟩
 have HVL : Hid (V.length = 4) := Lib.hid (by rw [hV]; exact Wdn.len _)
 have HVR : Hid (w1.rangeAt w.heap.size 282 V) := Lib.hid (by rw [hV]; exact HAT.out.dn)
 have HV := Lib.hid hV
 clear hV
 have HZX : Hid (Wmg.Len {mz q f t with dn := x.dn}) := Lib.hid ⟨rfl, rfl, rfl, rfl, rfl, rfl, rfl⟩
 have HBX := Lib.hid (Wmg.blk_dn HZ0.out x.dn (by rw [← HV.out]; exact HVL.out) HB2.out)
 rw [← HV.out] at HBX
 have HFS : Hid (Fr [wa.heap.size] w1 (w1.setCells wa.heap.size 282 V)) := Lib.hid (Fr.setCells (fun _ => by simp) _ 282 _ (Fr.refl _ _))
 have HTH : Hid (w1.there wa.heap.size 282 V.toArray.size) := Lib.hid (HB2.out.thereM _ _ (by rw [List.size_toArray, List.size_toArray, HVL.out, Wmg.lenz HZ0.out]; decide))
 have HVS : Hid ((Tryz.prog.info? 56).map (·.size) = some V.toArray.size) := Lib.hid (by rw [List.size_toArray, HVL.out]; kernel_rfl)
 have HVO : Hid (V.toArray.all (·.oneCell') = true) := Lib.hid (by rw [HV.out]; exact all_oneCell_toArray (Wdn.one _))
 have HB9 : Hid (Blk (w1.setCells wa.heap.size 282 V) (w.heap.size + 1) 61 mz00) := Lib.hid (HB1.out.keep HFS.out (by have := HSZ.out; simp; omega))
 obtain ⟨E, hE⟩ : ∃ E, E = ({mz q f t with dn := x.dn} : Wmg).cells := ⟨_, rfl⟩
 have HEL : Hid (E.length = 295) := Lib.hid (by rw [hE]; exact Wmg.lenz HZX.out)
 have HEO : Hid (E.toArray.all (·.oneCell') = true) := Lib.hid (by rw [hE]; exact all_oneCell_toArray (Wmg.one _))
 have HES : Hid ((Tryz.prog.info? 61).map (·.size) = some E.toArray.size) := Lib.hid (by rw [List.size_toArray, HEL.out]; kernel_rfl)
 have HEM : Hid (mz00.size = E.toArray.size) := Lib.hid (by unfold mz00; rw [List.size_toArray, List.size_toArray, HEL.out, Wmg.lenz (mz_len _ _ _)])
 have HER : Hid ((w1.setCells wa.heap.size 282 V).rangeAt wa.heap.size 0 E) := Lib.hid (by rw [hE]; exact HBX.out.range)
 go_wp2_with (first | (refine wpList_load_mid rfl 56 _ rfl w.heap.size 282 rfl V _ HVR.out Tryz.underlying56 rfl (row_dnO.of HVL.out).2 ?_) | (refine wpList_store_mid rfl 56 _ _ rfl wa.heap.size 282 V.toArray rfl rfl HTH.out HVS.out HVO.out ?_) | (refine wpList_load_mid rfl 61 _ rfl wa.heap.size 0 rfl E _ HER.out Tryz.underlying61 rfl (row_msg.of HEL.out).2 ?_) | (refine wpList_store_blk rfl 61 _ _ rfl (w.heap.size + 1) E.toArray rfl rfl 61 mz00 HB9.out HES.out HEM.out HEO.out ?_; intro w9 hb9 hf9))
 refine bodyPost_ret (v := .agg E.toArray) (results_cell_row Tryz.results12 _ _ (w.heap.size + 1) 61 E.toArray _ _ rfl hb9 Tryz.underlying61 rfl HES.out) rfl ?_
 have HS9 : Fr [wa.heap.size, w.heap.size + 1] w1 w9 := (HFS.out.mono (by intro k hk _; simp at hk; simp [hk])).trans hf9 (fun k hk _ => by simp at hk; simp [hk])
 refine ⟨{mz q f t with dn := x.dn}, by rw [hE], ?_, ?_, (HF0.out.and HF1.out (by simp)).go HS9 (by have := HSZ.out; simp; omega)⟩
 · have hqe : x.con.q = 12 := HQ.out
   unfold onlyC
   rw [show x.con.q = x.q from rfl, HQ.out]
   rw [HQE.out, HFE.out, HTE.out, HQ.out]
   rfl
 · have hz := mz_ok w9 [] q f t (by rw [HQE.out]; exact HX.out.q) (by rw [HFE.out]; exact HX.out.f) (by rw [HTE.out]; exact HX.out.t)
   have HW9 : Fr [] w w9 := (HF0.out.and HF1.out (by simp)).go HS9 (by have := HSZ.out; simp; omega)
   exact ⟨hz.q, hz.f, hz.t, hz.cm, hz.st, hz.ce, hz.ak, hz.e, hz.r, hz.tm, hz.pr, hz.po, hz.vt, hz.i, hz.en, hz.op, HX.out.dn, hz.rp, hz.de⟩
set_option maxHeartbeats 2000000 in
theorem refonly_14 (x : Wmg) (hq : x.q = 14) (w : World) (hx : x.Ok w []) (C : List Value) (hC : x.cells = C) :
  Calls Tryz.prog 12 #[.agg C.toArray] w (OnlyPost x w) := by
 obtain ⟨wa, hwa⟩ : ∃ wa, wa = (w.alloc (Obj.cells C.toArray 61)).alloc (Obj.cells mz00 61) := ⟨_, rfl⟩
 have hf0 : Fr [] w wa := by rw [hwa]; exact ((Fr.refl [] w).alloc _).alloc _
 have hb0 : Blk wa w.heap.size 61 x.cells.toArray := by rw [hwa, hC]; exact blk_alloc (Blk.new _ _ _)
 have hb1 : Blk wa (w.heap.size + 1) 61 mz00 := by
  have := Blk.new (w.alloc (Obj.cells C.toArray 61)) 61 mz00
  rw [hwa]
  simpa using this
 have hat : x.At wa w.heap.size := Wmg.at_of hb0.range hx
 have hcq : wa.cell? ⟨w.heap.size, 0, none⟩ = some (.int .i64 x.q) := by have h := hat.q 0 _ rfl; simpa using h
 have hcf : wa.cell? ⟨w.heap.size, 1, none⟩ = some (.int .i64 x.f) := by have h := hat.f 0 _ rfl; simpa using h
 have hct : wa.cell? ⟨w.heap.size, 2, none⟩ = some (.int .i64 x.t) := by have h := hat.t 0 _ rfl; simpa using h
 have HX := Lib.hid hx
 have HB0 := Lib.hid hb0
 have HB1 := Lib.hid hb1
 have HF0 := Lib.hid hf0
 have HWA := Lib.hid hwa
 have HSZ : Hid (wa.heap.size = w.heap.size + 2) := Lib.hid (by rw [hwa]; simp)
 obtain ⟨Z, hZ⟩ : ∃ Z, Z = (mz x.q x.f x.t).cells := ⟨_, rfl⟩
 have HBU : Hid (Tryz.prog.built 61 [(0, .int .i64 x.q), (1, .int .i64 x.f), (2, .int .i64 x.t)] = some Z.toArray) := Lib.hid (by rw [hZ]; exact built_mg3 _ _ _)
 have HZL : Hid ((Tryz.prog.info? 61).map (·.size) = some Z.toArray.size) := Lib.hid (by rw [hZ]; exact msg_size (mz_len _ _ _))
 have HZM : Hid (mz00.size = Z.toArray.size) := Lib.hid (by rw [hZ]; unfold mz00; rw [List.size_toArray, List.size_toArray, Wmg.lenz (mz_len _ _ _), Wmg.lenz (mz_len _ _ _)])
 have HZO : Hid (Z.toArray.all (·.oneCell') = true) := Lib.hid (by rw [hZ]; exact all_oneCell_toArray (Wmg.one _))
 have HZ := Lib.hid hZ
 have HQ := Lib.hid hq
 obtain ⟨q, hqq⟩ : ∃ q, q = x.q := ⟨_, rfl⟩
 obtain ⟨f, hff⟩ : ∃ f, f = x.f := ⟨_, rfl⟩
 obtain ⟨t, htt⟩ : ∃ t, t = x.t := ⟨_, rfl⟩
 rw [← hqq] at hcq
 rw [← hff] at hcf
 rw [← htt] at hct
 rw [← hqq, ← hff, ← htt] at HBU HZ
 have HQE := Lib.hid hqq
 have HFE := Lib.hid hff
 have HTE := Lib.hid htt
 clear hx hC hwa hf0 hb0 hb1 hat hZ hq hqq hff htt
 go_enter Tryz.func12, Tryz.ntmps12
 go_upto_region 1 with (fail)
 change Code.wp _ _ _ _ ((w.alloc (Obj.cells C.toArray 61)).alloc (Obj.cells mz00 61))
 rw [← HWA.out]
 go_upto_region 2 with (first
  | (refine wpList_builtg rfl 61 _ rfl _ _ HBU.out rfl ?_)
  | (refine wpList_store_blk rfl 61 _ _ rfl wa.heap.size Z.toArray rfl rfl 61 mz00 (Blk.new wa _ _) HZL.out HZM.out HZO.out ?_; intro w1 hb2 hf2))
 have HB2 : Hid (Blk w1 wa.heap.size 61 (mz q f t).cells.toArray) := Lib.hid (by rw [← HZ.out]; exact hb2)
 have HF1 : Hid (Fr [] wa w1) := Lib.hid (((Fr.refl [] wa).alloc _).go hf2 (by simp))
 clear hb2 hf2 hcf hct
 have hcq := HF1.out.cell hcq (by simp)
 have HB0 := Lib.hid (HB0.out.keep HF1.out (by simp))
 have HB1 := Lib.hid (HB1.out.keep HF1.out (by simp))
 have HBL1 : Hid (wa.heap.size < w1.heap.size) := Lib.hid HB2.out.lt
 have HAT := Lib.hid (Wmg.at_of HB0.out.range HX.out)
 have HZ0 := Lib.hid (mz_len q f t)
 rw [HQE.out, HQ.out] at hcq
 obtain ⟨V, hV⟩ : ∃ V, V = x.de.cells := ⟨_, rfl⟩
 have HVL : Hid (V.length = 8) := Lib.hid (by rw [hV]; exact rfl)
 have HVR : Hid (w1.rangeAt w.heap.size 287 V) := Lib.hid (by rw [hV]; exact HAT.out.de)
 have HV := Lib.hid hV
 clear hV
 have HZX : Hid (Wmg.Len {mz q f t with de := x.de}) := Lib.hid ⟨rfl, rfl, rfl, rfl, rfl, rfl, rfl⟩
 have HBX := Lib.hid (Wmg.blk_de HZ0.out x.de (by rw [← HV.out]; exact HVL.out) HB2.out)
 rw [← HV.out] at HBX
 have HFS : Hid (Fr [wa.heap.size] w1 (w1.setCells wa.heap.size 287 V)) := Lib.hid (Fr.setCells (fun _ => by simp) _ 287 _ (Fr.refl _ _))
 have HTH : Hid (w1.there wa.heap.size 287 V.toArray.size) := Lib.hid (HB2.out.thereM _ _ (by rw [List.size_toArray, List.size_toArray, HVL.out, Wmg.lenz HZ0.out]; decide))
 have HVS : Hid ((Tryz.prog.info? 59).map (·.size) = some V.toArray.size) := Lib.hid (by rw [List.size_toArray, HVL.out]; kernel_rfl)
 have HVO : Hid (V.toArray.all (·.oneCell') = true) := Lib.hid (by rw [HV.out]; exact all_oneCell_toArray (Wdc.one _))
 have HB9 : Hid (Blk (w1.setCells wa.heap.size 287 V) (w.heap.size + 1) 61 mz00) := Lib.hid (HB1.out.keep HFS.out (by have := HSZ.out; simp; omega))
 obtain ⟨E, hE⟩ : ∃ E, E = ({mz q f t with de := x.de} : Wmg).cells := ⟨_, rfl⟩
 have HEL : Hid (E.length = 295) := Lib.hid (by rw [hE]; exact Wmg.lenz HZX.out)
 have HEO : Hid (E.toArray.all (·.oneCell') = true) := Lib.hid (by rw [hE]; exact all_oneCell_toArray (Wmg.one _))
 have HES : Hid ((Tryz.prog.info? 61).map (·.size) = some E.toArray.size) := Lib.hid (by rw [List.size_toArray, HEL.out]; kernel_rfl)
 have HEM : Hid (mz00.size = E.toArray.size) := Lib.hid (by unfold mz00; rw [List.size_toArray, List.size_toArray, HEL.out, Wmg.lenz (mz_len _ _ _)])
 have HER : Hid ((w1.setCells wa.heap.size 287 V).rangeAt wa.heap.size 0 E) := Lib.hid (by rw [hE]; exact HBX.out.range)
 go_wp2_with (first | (refine wpList_load_mid rfl 59 _ rfl w.heap.size 287 rfl V _ HVR.out Tryz.underlying59 rfl (row_dec.of HVL.out).2 ?_) | (refine wpList_store_mid rfl 59 _ _ rfl wa.heap.size 287 V.toArray rfl rfl HTH.out HVS.out HVO.out ?_) | (refine wpList_load_mid rfl 61 _ rfl wa.heap.size 0 rfl E _ HER.out Tryz.underlying61 rfl (row_msg.of HEL.out).2 ?_) | (refine wpList_store_blk rfl 61 _ _ rfl (w.heap.size + 1) E.toArray rfl rfl 61 mz00 HB9.out HES.out HEM.out HEO.out ?_; intro w9 hb9 hf9))
 refine bodyPost_ret (v := .agg E.toArray) (results_cell_row Tryz.results12 _ _ (w.heap.size + 1) 61 E.toArray _ _ rfl hb9 Tryz.underlying61 rfl HES.out) rfl ?_
 have HS9 : Fr [wa.heap.size, w.heap.size + 1] w1 w9 := (HFS.out.mono (by intro k hk _; simp at hk; simp [hk])).trans hf9 (fun k hk _ => by simp at hk; simp [hk])
 refine ⟨{mz q f t with de := x.de}, by rw [hE], ?_, ?_, (HF0.out.and HF1.out (by simp)).go HS9 (by have := HSZ.out; simp; omega)⟩
 · have hqe : x.con.q = 14 := HQ.out
   unfold onlyC
   rw [show x.con.q = x.q from rfl, HQ.out]
   rw [HQE.out, HFE.out, HTE.out, HQ.out]
   rfl
 · have hz := mz_ok w9 [] q f t (by rw [HQE.out]; exact HX.out.q) (by rw [HFE.out]; exact HX.out.f) (by rw [HTE.out]; exact HX.out.t)
   have HW9 : Fr [] w w9 := (HF0.out.and HF1.out (by simp)).go HS9 (by have := HSZ.out; simp; omega)
   exact ⟨hz.q, hz.f, hz.t, hz.cm, hz.st, hz.ce, hz.ak, hz.e, hz.r, hz.tm, hz.pr, hz.po, hz.vt, hz.i, hz.en, hz.op, hz.dn, hz.rp, (HX.out.de.keep (S' := []) HW9 (by simp))⟩
set_option maxHeartbeats 2000000 in
theorem refonly_5 (x : Wmg) (hq : x.q = 5) (w : World) (hx : x.Ok w []) (C : List Value) (hC : x.cells = C) :
  Calls Tryz.prog 12 #[.agg C.toArray] w (OnlyPost x w) := by
 obtain ⟨wa, hwa⟩ : ∃ wa, wa = (w.alloc (Obj.cells C.toArray 61)).alloc (Obj.cells mz00 61) := ⟨_, rfl⟩
 have hf0 : Fr [] w wa := by rw [hwa]; exact ((Fr.refl [] w).alloc _).alloc _
 have hb0 : Blk wa w.heap.size 61 x.cells.toArray := by rw [hwa, hC]; exact blk_alloc (Blk.new _ _ _)
 have hb1 : Blk wa (w.heap.size + 1) 61 mz00 := by
  have := Blk.new (w.alloc (Obj.cells C.toArray 61)) 61 mz00
  rw [hwa]
  simpa using this
 have hat : x.At wa w.heap.size := Wmg.at_of hb0.range hx
 have hcq : wa.cell? ⟨w.heap.size, 0, none⟩ = some (.int .i64 x.q) := by have h := hat.q 0 _ rfl; simpa using h
 have hcf : wa.cell? ⟨w.heap.size, 1, none⟩ = some (.int .i64 x.f) := by have h := hat.f 0 _ rfl; simpa using h
 have hct : wa.cell? ⟨w.heap.size, 2, none⟩ = some (.int .i64 x.t) := by have h := hat.t 0 _ rfl; simpa using h
 have HX := Lib.hid hx
 have HB0 := Lib.hid hb0
 have HB1 := Lib.hid hb1
 have HF0 := Lib.hid hf0
 have HWA := Lib.hid hwa
 have HSZ : Hid (wa.heap.size = w.heap.size + 2) := Lib.hid (by rw [hwa]; simp)
 obtain ⟨Z, hZ⟩ : ∃ Z, Z = (mz x.q x.f x.t).cells := ⟨_, rfl⟩
 have HBU : Hid (Tryz.prog.built 61 [(0, .int .i64 x.q), (1, .int .i64 x.f), (2, .int .i64 x.t)] = some Z.toArray) := Lib.hid (by rw [hZ]; exact built_mg3 _ _ _)
 have HZL : Hid ((Tryz.prog.info? 61).map (·.size) = some Z.toArray.size) := Lib.hid (by rw [hZ]; exact msg_size (mz_len _ _ _))
 have HZM : Hid (mz00.size = Z.toArray.size) := Lib.hid (by rw [hZ]; unfold mz00; rw [List.size_toArray, List.size_toArray, Wmg.lenz (mz_len _ _ _), Wmg.lenz (mz_len _ _ _)])
 have HZO : Hid (Z.toArray.all (·.oneCell') = true) := Lib.hid (by rw [hZ]; exact all_oneCell_toArray (Wmg.one _))
 have HZ := Lib.hid hZ
 have HQ := Lib.hid hq
 obtain ⟨q, hqq⟩ : ∃ q, q = x.q := ⟨_, rfl⟩
 obtain ⟨f, hff⟩ : ∃ f, f = x.f := ⟨_, rfl⟩
 obtain ⟨t, htt⟩ : ∃ t, t = x.t := ⟨_, rfl⟩
 rw [← hqq] at hcq
 rw [← hff] at hcf
 rw [← htt] at hct
 rw [← hqq, ← hff, ← htt] at HBU HZ
 have HQE := Lib.hid hqq
 have HFE := Lib.hid hff
 have HTE := Lib.hid htt
 clear hx hC hwa hf0 hb0 hb1 hat hZ hq hqq hff htt
 go_enter Tryz.func12, Tryz.ntmps12
 go_upto_region 1 with (fail)
 change Code.wp _ _ _ _ ((w.alloc (Obj.cells C.toArray 61)).alloc (Obj.cells mz00 61))
 rw [← HWA.out]
 go_upto_region 2 with (first
  | (refine wpList_builtg rfl 61 _ rfl _ _ HBU.out rfl ?_)
  | (refine wpList_store_blk rfl 61 _ _ rfl wa.heap.size Z.toArray rfl rfl 61 mz00 (Blk.new wa _ _) HZL.out HZM.out HZO.out ?_; intro w1 hb2 hf2))
 have HB2 : Hid (Blk w1 wa.heap.size 61 (mz q f t).cells.toArray) := Lib.hid (by rw [← HZ.out]; exact hb2)
 have HF1 : Hid (Fr [] wa w1) := Lib.hid (((Fr.refl [] wa).alloc _).go hf2 (by simp))
 clear hb2 hf2 hcf hct
 have hcq := HF1.out.cell hcq (by simp)
 have HB0 := Lib.hid (HB0.out.keep HF1.out (by simp))
 have HB1 := Lib.hid (HB1.out.keep HF1.out (by simp))
 have HBL1 : Hid (wa.heap.size < w1.heap.size) := Lib.hid HB2.out.lt
 have HAT := Lib.hid (Wmg.at_of HB0.out.range HX.out)
 have HZ0 := Lib.hid (mz_len q f t)
 rw [HQE.out, HQ.out] at hcq
 have HSI : Hid ((Tryz.prog.info? 3).map (·.size) = some 1) := Lib.hid (by kernel_rfl)
 have HSU : Hid ((Tryz.prog.info? 30).map (·.size) = some 1) := Lib.hid (by kernel_rfl)
 have HSS : Hid ((Tryz.prog.info? 9).map (·.size) = some 1) := Lib.hid (by kernel_rfl)
 have HLT : Hid (∀ y : Wmg, y.Len → ∀ k < 295, k < y.cells.toArray.size) := Lib.hid (fun y hy k hk => by rw [List.size_toArray, Wmg.lenz hy]; exact hk)
 have HCe : Hid (w1.cell? ⟨w.heap.size, 0 + 154, none⟩ = some (.int .i64 x.e)) := Lib.hid (by have h := HAT.out.e 0 _ rfl; simpa using h)
 have HCr : Hid (w1.cell? ⟨w.heap.size, 0 + 155, none⟩ = some (.int .i64 x.r)) := Lib.hid (by have h := HAT.out.r 0 _ rfl; simpa using h)
 have HCm : Hid (w1.cell? ⟨w.heap.size, 0 + 156, none⟩ = some (.int .u64 (x.tm : Int))) := Lib.hid (by have h := HAT.out.tm 0 _ rfl; simpa using h)
 have HNS : Hid (¬ w.heap.size ∈ [wa.heap.size]) := Lib.hid (by have := HSZ.out; simp; omega)
 go_upto_region 13 with (fail)
 refine wp_region_held_drew (S := Fr [wa.heap.size] w1) (by kernel_rfl) (Fr.drew (Fr.refl _ w1)) (fun hHeld => ?_)
 refine run_at (i := 0) (v := ?_) rfl (by kernel_rfl) (by rfl) (fun _ _ _ h => h) hHeld (fun w1 hw1 => ?_) ?_
 rotate_left 1
 · skip
   go_simp
   try first | with_reducible rfl | apply And.intro <;> rfl
 simp only [xPa, xPb, xPc, xPd, xPe]
 refine run_at (i := 1) (v := ?_) rfl (by kernel_rfl) (by rfl) (fun _ _ _ h => h) hHeld (fun w1 hw1 => ?_) ?_
 rotate_left 1
 · skip
   have hcw0 := hw1.cell (HCe.out) (by first | (simp; done) | exact HNS.out)
   go_simp
   try first | with_reducible rfl | apply And.intro <;> rfl
 simp only [xPa, xPb, xPc, xPd, xPe]
 refine run_at (i := 2) (v := ?_) rfl (by kernel_rfl) (by rfl) (fun _ _ _ h => h) hHeld (fun w1 hw1 => ?_) ?_
 rotate_left 1
 · skip
   go_simp
   try first | with_reducible rfl | apply And.intro <;> rfl
 simp only [xPa, xPb, xPc, xPd, xPe]
 refine run_at (i := 3) (v := ?_) rfl (by kernel_rfl) (by rfl) (fun _ _ _ h => h) hHeld (fun w1 hw1 => ?_) ?_
 rotate_left 1
 · skip
   have hcw0 := hw1.cell (HCr.out) (by first | (simp; done) | exact HNS.out)
   go_simp
   try first | with_reducible rfl | apply And.intro <;> rfl
 simp only [xPa, xPb, xPc, xPd, xPe]
 refine run_at (i := 4) (v := ?_) rfl (by kernel_rfl) (by rfl) (fun _ _ _ h => h) hHeld (fun w1 hw1 => ?_) ?_
 rotate_left 1
 · skip
   go_simp
   try first | with_reducible rfl | apply And.intro <;> rfl
 simp only [xPa, xPb, xPc, xPd, xPe]
 refine run_at (i := 5) (v := ?_) rfl (by kernel_rfl) (by rfl) (fun _ _ _ h => h) hHeld (fun w1 hw1 => ?_) ?_
 rotate_left 1
 · skip
   have hcw0 := hw1.cell (HCm.out) (by first | (simp; done) | exact HNS.out)
   go_simp
   try first | with_reducible rfl | apply And.intro <;> rfl
 simp only [xPa, xPb, xPc, xPd, xPe]
 refine run_at (i := 6) (v := ?_) rfl (by kernel_rfl) (by rfl) (fun _ _ _ h => h) hHeld (fun w1 hw1 => ?_) ?_
 rotate_left 1
 · skip
   go_simp
   try first | with_reducible rfl | apply And.intro <;> rfl
 simp only [xPa, xPb, xPc, xPd, xPe]
 have HBx0 := Lib.hid HB2.out.drew
 have HFS : Hid (Fr [wa.heap.size] w1 w1.drew) := Lib.hid hHeld
 generalize w1.drew = v0 at *
 refine step_at (i := 7) rfl (by kernel_rfl) (by rfl) (fun K hK => ?_)
 refine wp_store_at 3 _ _ rfl wa.heap.size 154 (.int .i64 x.e) rfl rfl rfl 61 _ HBx0.out (HLT.out _ HZ0.out 154 (by omega)) HSI.out ?_
 refine hK.out _ _ (Fr.setCells (fun _ => by simp) ([.int .i64 x.e]) 154 _ hHeld) (fun hHeld => ?_)
 clear hK K
 have HBx1 := Lib.hid (Wmg.blk_e HZ0.out x.e HBx0.out)
 have HZx1 : Hid (Wmg.Len {mz q f t with e := x.e}) := Lib.hid ⟨rfl, rfl, rfl, rfl, rfl, rfl, rfl⟩
 have HFS : Hid (Fr [wa.heap.size] w1 (v0.setCells wa.heap.size 154 ([.int .i64 x.e]))) := Lib.hid hHeld
 generalize v0.setCells wa.heap.size 154 ([.int .i64 x.e]) = v1 at *
 simp only [xPa, xPb, xPc, xPd, xPe]
 refine run_at (i := 8) (v := ?_) rfl (by kernel_rfl) (by rfl) (fun _ _ _ h => h) hHeld (fun w1 hw1 => ?_) ?_
 rotate_left 1
 · skip
   go_simp
   try first | with_reducible rfl | apply And.intro <;> rfl
 simp only [xPa, xPb, xPc, xPd, xPe]
 refine step_at (i := 9) rfl (by kernel_rfl) (by rfl) (fun K hK => ?_)
 refine wp_store_at 3 _ _ rfl wa.heap.size 155 (.int .i64 x.r) rfl rfl rfl 61 _ HBx1.out (HLT.out _ HZx1.out 155 (by omega)) HSI.out ?_
 refine hK.out _ _ (Fr.setCells (fun _ => by simp) ([.int .i64 x.r]) 155 _ hHeld) (fun hHeld => ?_)
 clear hK K
 have HBx2 := Lib.hid (Wmg.blk_r HZx1.out x.r HBx1.out)
 have HZx2 : Hid (Wmg.Len {mz q f t with e := x.e, r := x.r}) := Lib.hid ⟨rfl, rfl, rfl, rfl, rfl, rfl, rfl⟩
 have HFS : Hid (Fr [wa.heap.size] w1 (v1.setCells wa.heap.size 155 ([.int .i64 x.r]))) := Lib.hid hHeld
 generalize v1.setCells wa.heap.size 155 ([.int .i64 x.r]) = v2 at *
 simp only [xPa, xPb, xPc, xPd, xPe]
 refine run_at (i := 10) (v := ?_) rfl (by kernel_rfl) (by rfl) (fun _ _ _ h => h) hHeld (fun w1 hw1 => ?_) ?_
 rotate_left 1
 · skip
   go_simp
   try first | with_reducible rfl | apply And.intro <;> rfl
 simp only [xPa, xPb, xPc, xPd, xPe]
 refine step_at (i := 11) rfl (by kernel_rfl) (by rfl) (fun K hK => ?_)
 refine wp_store_at 30 _ _ rfl wa.heap.size 156 (.int .u64 (x.tm : Int)) rfl rfl rfl 61 _ HBx2.out (HLT.out _ HZx2.out 156 (by omega)) HSU.out ?_
 refine hK.out _ _ (Fr.setCells (fun _ => by simp) ([.int .u64 (x.tm : Int)]) 156 _ hHeld) (fun hHeld => ?_)
 clear hK K
 have HBx3 := Lib.hid (Wmg.blk_tm HZx2.out x.tm HBx2.out)
 have HZx3 : Hid (Wmg.Len {mz q f t with e := x.e, r := x.r, tm := x.tm}) := Lib.hid ⟨rfl, rfl, rfl, rfl, rfl, rfl, rfl⟩
 have HFS : Hid (Fr [wa.heap.size] w1 (v2.setCells wa.heap.size 156 ([.int .u64 (x.tm : Int)]))) := Lib.hid hHeld
 generalize v2.setCells wa.heap.size 156 ([.int .u64 (x.tm : Int)]) = v3 at *
 simp only [xPa, xPb, xPc, xPd, xPe]
 refine wpAnyH_done (by kernel_rfl) ?_ _
 have HBX := Lib.hid HBx3.out
 have HZX : Hid (Wmg.Len {mz q f t with e := x.e, r := x.r, tm := x.tm}) := Lib.hid HZx3.out
 have HB9 := Lib.hid (HB1.out.keep HFS.out (by have := HSZ.out; simp; omega))
 obtain ⟨E, hE⟩ : ∃ E, E = ({mz q f t with e := x.e, r := x.r, tm := x.tm} : Wmg).cells := ⟨_, rfl⟩
 have HEL : Hid (E.length = 295) := Lib.hid (by rw [hE]; exact Wmg.lenz HZX.out)
 have HEO : Hid (E.toArray.all (·.oneCell') = true) := Lib.hid (by rw [hE]; exact all_oneCell_toArray (Wmg.one _))
 have HES : Hid ((Tryz.prog.info? 61).map (·.size) = some E.toArray.size) := Lib.hid (by rw [List.size_toArray, HEL.out]; kernel_rfl)
 have HEM : Hid (mz00.size = E.toArray.size) := Lib.hid (by unfold mz00; rw [List.size_toArray, List.size_toArray, HEL.out, Wmg.lenz (mz_len _ _ _)])
 have HER : Hid (v3.rangeAt wa.heap.size 0 E) := Lib.hid (by rw [hE]; exact HBX.out.range)
 go_wp2_with (first | fail | (refine wpList_load_mid rfl 61 _ rfl wa.heap.size 0 rfl E _ HER.out Tryz.underlying61 rfl (row_msg.of HEL.out).2 ?_) | (refine wpList_store_blk rfl 61 _ _ rfl (w.heap.size + 1) E.toArray rfl rfl 61 mz00 HB9.out HES.out HEM.out HEO.out ?_; intro w9 hb9 hf9))
 refine bodyPost_ret (v := .agg E.toArray) (results_cell_row Tryz.results12 _ _ (w.heap.size + 1) 61 E.toArray _ _ rfl hb9 Tryz.underlying61 rfl HES.out) rfl ?_
 have HS9 : Fr [wa.heap.size, w.heap.size + 1] w1 w9 := (HFS.out.mono (by intro k hk _; simp at hk; simp [hk])).trans hf9 (fun k hk _ => by simp at hk; simp [hk])
 refine ⟨{mz q f t with e := x.e, r := x.r, tm := x.tm}, by rw [hE], ?_, ?_, (HF0.out.and HF1.out (by simp)).go HS9 (by have := HSZ.out; simp; omega)⟩
 · have hqe : x.con.q = 5 := HQ.out
   unfold onlyC
   rw [show x.con.q = x.q from rfl, HQ.out]
   rw [HQE.out, HFE.out, HTE.out, HQ.out]
   rfl
 · have hz := mz_ok w9 [] q f t (by rw [HQE.out]; exact HX.out.q) (by rw [HFE.out]; exact HX.out.f) (by rw [HTE.out]; exact HX.out.t)
   have HW9 : Fr [] w w9 := (HF0.out.and HF1.out (by simp)).go HS9 (by have := HSZ.out; simp; omega)
   exact ⟨hz.q, hz.f, hz.t, hz.cm, hz.st, hz.ce, hz.ak, HX.out.e, HX.out.r, HX.out.tm, hz.pr, hz.po, hz.vt, hz.i, hz.en, hz.op, hz.dn, hz.rp, hz.de⟩
set_option maxHeartbeats 2000000 in
theorem refonly_9 (x : Wmg) (hq : x.q = 9) (w : World) (hx : x.Ok w []) (C : List Value) (hC : x.cells = C) :
  Calls Tryz.prog 12 #[.agg C.toArray] w (OnlyPost x w) := by
 obtain ⟨wa, hwa⟩ : ∃ wa, wa = (w.alloc (Obj.cells C.toArray 61)).alloc (Obj.cells mz00 61) := ⟨_, rfl⟩
 have hf0 : Fr [] w wa := by rw [hwa]; exact ((Fr.refl [] w).alloc _).alloc _
 have hb0 : Blk wa w.heap.size 61 x.cells.toArray := by rw [hwa, hC]; exact blk_alloc (Blk.new _ _ _)
 have hb1 : Blk wa (w.heap.size + 1) 61 mz00 := by
  have := Blk.new (w.alloc (Obj.cells C.toArray 61)) 61 mz00
  rw [hwa]
  simpa using this
 have hat : x.At wa w.heap.size := Wmg.at_of hb0.range hx
 have hcq : wa.cell? ⟨w.heap.size, 0, none⟩ = some (.int .i64 x.q) := by have h := hat.q 0 _ rfl; simpa using h
 have hcf : wa.cell? ⟨w.heap.size, 1, none⟩ = some (.int .i64 x.f) := by have h := hat.f 0 _ rfl; simpa using h
 have hct : wa.cell? ⟨w.heap.size, 2, none⟩ = some (.int .i64 x.t) := by have h := hat.t 0 _ rfl; simpa using h
 have HX := Lib.hid hx
 have HB0 := Lib.hid hb0
 have HB1 := Lib.hid hb1
 have HF0 := Lib.hid hf0
 have HWA := Lib.hid hwa
 have HSZ : Hid (wa.heap.size = w.heap.size + 2) := Lib.hid (by rw [hwa]; simp)
 obtain ⟨Z, hZ⟩ : ∃ Z, Z = (mz x.q x.f x.t).cells := ⟨_, rfl⟩
 have HBU : Hid (Tryz.prog.built 61 [(0, .int .i64 x.q), (1, .int .i64 x.f), (2, .int .i64 x.t)] = some Z.toArray) := Lib.hid (by rw [hZ]; exact built_mg3 _ _ _)
 have HZL : Hid ((Tryz.prog.info? 61).map (·.size) = some Z.toArray.size) := Lib.hid (by rw [hZ]; exact msg_size (mz_len _ _ _))
 have HZM : Hid (mz00.size = Z.toArray.size) := Lib.hid (by rw [hZ]; unfold mz00; rw [List.size_toArray, List.size_toArray, Wmg.lenz (mz_len _ _ _), Wmg.lenz (mz_len _ _ _)])
 have HZO : Hid (Z.toArray.all (·.oneCell') = true) := Lib.hid (by rw [hZ]; exact all_oneCell_toArray (Wmg.one _))
 have HZ := Lib.hid hZ
 have HQ := Lib.hid hq
 obtain ⟨q, hqq⟩ : ∃ q, q = x.q := ⟨_, rfl⟩
 obtain ⟨f, hff⟩ : ∃ f, f = x.f := ⟨_, rfl⟩
 obtain ⟨t, htt⟩ : ∃ t, t = x.t := ⟨_, rfl⟩
 rw [← hqq] at hcq
 rw [← hff] at hcf
 rw [← htt] at hct
 rw [← hqq, ← hff, ← htt] at HBU HZ
 have HQE := Lib.hid hqq
 have HFE := Lib.hid hff
 have HTE := Lib.hid htt
 clear hx hC hwa hf0 hb0 hb1 hat hZ hq hqq hff htt
 go_enter Tryz.func12, Tryz.ntmps12
 go_upto_region 1 with (fail)
 change Code.wp _ _ _ _ ((w.alloc (Obj.cells C.toArray 61)).alloc (Obj.cells mz00 61))
 rw [← HWA.out]
 go_upto_region 2 with (first
  | (refine wpList_builtg rfl 61 _ rfl _ _ HBU.out rfl ?_)
  | (refine wpList_store_blk rfl 61 _ _ rfl wa.heap.size Z.toArray rfl rfl 61 mz00 (Blk.new wa _ _) HZL.out HZM.out HZO.out ?_; intro w1 hb2 hf2))
 have HB2 : Hid (Blk w1 wa.heap.size 61 (mz q f t).cells.toArray) := Lib.hid (by rw [← HZ.out]; exact hb2)
 have HF1 : Hid (Fr [] wa w1) := Lib.hid (((Fr.refl [] wa).alloc _).go hf2 (by simp))
 clear hb2 hf2 hcf hct
 have hcq := HF1.out.cell hcq (by simp)
 have HB0 := Lib.hid (HB0.out.keep HF1.out (by simp))
 have HB1 := Lib.hid (HB1.out.keep HF1.out (by simp))
 have HBL1 : Hid (wa.heap.size < w1.heap.size) := Lib.hid HB2.out.lt
 have HAT := Lib.hid (Wmg.at_of HB0.out.range HX.out)
 have HZ0 := Lib.hid (mz_len q f t)
 rw [HQE.out, HQ.out] at hcq
 have HSI : Hid ((Tryz.prog.info? 3).map (·.size) = some 1) := Lib.hid (by kernel_rfl)
 have HSU : Hid ((Tryz.prog.info? 30).map (·.size) = some 1) := Lib.hid (by kernel_rfl)
 have HSS : Hid ((Tryz.prog.info? 9).map (·.size) = some 1) := Lib.hid (by kernel_rfl)
 have HLT : Hid (∀ y : Wmg, y.Len → ∀ k < 295, k < y.cells.toArray.size) := Lib.hid (fun y hy k hk => by rw [List.size_toArray, Wmg.lenz hy]; exact hk)
 have HCi : Hid (w1.cell? ⟨w.heap.size, 0 + 212, none⟩ = some (.int .i64 x.i)) := Lib.hid (by have h := HAT.out.i 0 _ rfl; simpa using h)
 obtain ⟨V, hV⟩ : ∃ V, V = x.en.cells := ⟨_, rfl⟩
 have HVL : Hid (V.length = 35) := Lib.hid (by rw [hV]; exact Wen.len HX.out.en.h)
 have HVR : Hid (w1.rangeAt w.heap.size 213 V) := Lib.hid (by rw [hV]; exact HAT.out.en)
 have HV := Lib.hid hV
 clear hV
 have HNS : Hid (¬ w.heap.size ∈ [wa.heap.size]) := Lib.hid (by have := HSZ.out; simp; omega)
 go_upto_region 21 with (fail)
 refine wp_region_held_drew (S := Fr [wa.heap.size] w1) (by kernel_rfl) (Fr.drew (Fr.refl _ w1)) (fun hHeld => ?_)
 refine run_at (i := 0) (v := ?_) rfl (by kernel_rfl) (by rfl) (fun _ _ _ h => h) hHeld (fun w1 hw1 => ?_) ?_
 rotate_left 1
 · skip
   go_simp
   try first | with_reducible rfl | apply And.intro <;> rfl
 simp only [xPa, xPb, xPc, xPd, xPe]
 refine run_at (i := 1) (v := ?_) rfl (by kernel_rfl) (by rfl) (fun _ _ _ h => h) hHeld (fun w1 hw1 => ?_) ?_
 rotate_left 1
 · skip
   have hcw0 := hw1.cell (HCi.out) (by first | (simp; done) | exact HNS.out)
   go_simp
   try first | with_reducible rfl | apply And.intro <;> rfl
 simp only [xPa, xPb, xPc, xPd, xPe]
 refine run_at (i := 2) (v := ?_) rfl (by kernel_rfl) (by rfl) (fun _ _ _ h => h) hHeld (fun w1 hw1 => ?_) ?_
 rotate_left 1
 · skip
   go_simp
   try first | with_reducible rfl | apply And.intro <;> rfl
 simp only [xPa, xPb, xPc, xPd, xPe]
 refine row_at (i := 3) rfl (by kernel_rfl) (by rfl) _ _ rfl _ _ rfl _ (fun w1 hw1 => hw1.range (HVR.out) (by first | (simp; done) | exact HNS.out)) (row_ent.of HVL.out) (fun _ _ _ h => h) hHeld ?_
 simp only [xPa, xPb, xPc, xPd, xPe]
 refine run_at (i := 4) (v := ?_) rfl (by kernel_rfl) (by rfl) (fun _ _ _ h => h) hHeld (fun w1 hw1 => ?_) ?_
 rotate_left 1
 · skip
   go_simp
   try first | with_reducible rfl | apply And.intro <;> rfl
 simp only [xPa, xPb, xPc, xPd, xPe]
 have HBx0 := Lib.hid HB2.out.drew
 have HFS : Hid (Fr [wa.heap.size] w1 w1.drew) := Lib.hid hHeld
 generalize w1.drew = v0 at *
 refine step_at (i := 5) rfl (by kernel_rfl) (by rfl) (fun K hK => ?_)
 refine wp_store_at 3 _ _ rfl wa.heap.size 212 (.int .i64 x.i) rfl rfl rfl 61 _ HBx0.out (HLT.out _ HZ0.out 212 (by omega)) HSI.out ?_
 refine hK.out _ _ (Fr.setCells (fun _ => by simp) ([.int .i64 x.i]) 212 _ hHeld) (fun hHeld => ?_)
 clear hK K
 have HBx1 := Lib.hid (Wmg.blk_i HZ0.out x.i HBx0.out)
 have HZx1 : Hid (Wmg.Len {mz q f t with i := x.i}) := Lib.hid ⟨rfl, rfl, rfl, rfl, rfl, rfl, rfl⟩
 have HFS : Hid (Fr [wa.heap.size] w1 (v0.setCells wa.heap.size 212 ([.int .i64 x.i]))) := Lib.hid hHeld
 generalize v0.setCells wa.heap.size 212 ([.int .i64 x.i]) = v1 at *
 simp only [xPa, xPb, xPc, xPd, xPe]
 refine run_at (i := 6) (v := ?_) rfl (by kernel_rfl) (by rfl) (fun _ _ _ h => h) hHeld (fun w1 hw1 => ?_) ?_
 rotate_left 1
 · skip
   go_simp
   try first | with_reducible rfl | apply And.intro <;> rfl
 simp only [xPa, xPb, xPc, xPd, xPe]
 refine step_at (i := 7) rfl (by kernel_rfl) (by rfl) (fun K hK => ?_)
 refine wp_store_mid 51 _ _ rfl wa.heap.size 213 V.toArray rfl rfl (HBx1.out.thereM _ _ (by rw [List.size_toArray, List.size_toArray, HVL.out, Wmg.lenz HZx1.out]; decide)) (by rw [List.size_toArray, HVL.out]; kernel_rfl) (by rw [HV.out]; exact all_oneCell_toArray (Wen.one _)) ?_
 refine hK.out _ _ (Fr.setCells (fun _ => by simp) (V) 213 _ hHeld) (fun hHeld => ?_)
 clear hK K
 have HBx2 := Lib.hid (Wmg.blk_en HZx1.out x.en (Wen.len HX.out.en.h) HBx1.out)
 have HZx2 : Hid (Wmg.Len {mz q f t with i := x.i, en := x.en}) := Lib.hid ⟨rfl, rfl, rfl, rfl, rfl, HX.out.en.h, rfl⟩
 rw [← HV.out] at HBx2
 have HFS : Hid (Fr [wa.heap.size] w1 (v1.setCells wa.heap.size 213 (V))) := Lib.hid hHeld
 generalize v1.setCells wa.heap.size 213 (V) = v2 at *
 simp only [xPa, xPb, xPc, xPd, xPe]
 refine wpAnyH_done (by kernel_rfl) ?_ _
 have HBX := Lib.hid HBx2.out
 have HZX : Hid (Wmg.Len {mz q f t with i := x.i, en := x.en}) := Lib.hid HZx2.out
 have HB9 := Lib.hid (HB1.out.keep HFS.out (by have := HSZ.out; simp; omega))
 obtain ⟨E, hE⟩ : ∃ E, E = ({mz q f t with i := x.i, en := x.en} : Wmg).cells := ⟨_, rfl⟩
 have HEL : Hid (E.length = 295) := Lib.hid (by rw [hE]; exact Wmg.lenz HZX.out)
 have HEO : Hid (E.toArray.all (·.oneCell') = true) := Lib.hid (by rw [hE]; exact all_oneCell_toArray (Wmg.one _))
 have HES : Hid ((Tryz.prog.info? 61).map (·.size) = some E.toArray.size) := Lib.hid (by rw [List.size_toArray, HEL.out]; kernel_rfl)
 have HEM : Hid (mz00.size = E.toArray.size) := Lib.hid (by unfold mz00; rw [List.size_toArray, List.size_toArray, HEL.out, Wmg.lenz (mz_len _ _ _)])
 have HER : Hid (v2.rangeAt wa.heap.size 0 E) := Lib.hid (by rw [hE]; exact HBX.out.range)
 go_wp2_with (first | fail | (refine wpList_load_mid rfl 61 _ rfl wa.heap.size 0 rfl E _ HER.out Tryz.underlying61 rfl (row_msg.of HEL.out).2 ?_) | (refine wpList_store_blk rfl 61 _ _ rfl (w.heap.size + 1) E.toArray rfl rfl 61 mz00 HB9.out HES.out HEM.out HEO.out ?_; intro w9 hb9 hf9))
 refine bodyPost_ret (v := .agg E.toArray) (results_cell_row Tryz.results12 _ _ (w.heap.size + 1) 61 E.toArray _ _ rfl hb9 Tryz.underlying61 rfl HES.out) rfl ?_
 have HS9 : Fr [wa.heap.size, w.heap.size + 1] w1 w9 := (HFS.out.mono (by intro k hk _; simp at hk; simp [hk])).trans hf9 (fun k hk _ => by simp at hk; simp [hk])
 refine ⟨{mz q f t with i := x.i, en := x.en}, by rw [hE], ?_, ?_, (HF0.out.and HF1.out (by simp)).go HS9 (by have := HSZ.out; simp; omega)⟩
 · have hqe : x.con.q = 9 := HQ.out
   unfold onlyC
   rw [show x.con.q = x.q from rfl, HQ.out]
   rw [HQE.out, HFE.out, HTE.out, HQ.out]
   rfl
 · have hz := mz_ok w9 [] q f t (by rw [HQE.out]; exact HX.out.q) (by rw [HFE.out]; exact HX.out.f) (by rw [HTE.out]; exact HX.out.t)
   have HW9 : Fr [] w w9 := (HF0.out.and HF1.out (by simp)).go HS9 (by have := HSZ.out; simp; omega)
   exact ⟨hz.q, hz.f, hz.t, hz.cm, hz.st, hz.ce, hz.ak, hz.e, hz.r, hz.tm, hz.pr, hz.po, hz.vt, HX.out.i, HX.out.en, hz.op, hz.dn, hz.rp, hz.de⟩
set_option maxHeartbeats 2000000 in
theorem refonly_13 (x : Wmg) (hq : x.q = 13) (w : World) (hx : x.Ok w []) (C : List Value) (hC : x.cells = C) :
  Calls Tryz.prog 12 #[.agg C.toArray] w (OnlyPost x w) := by
 obtain ⟨wa, hwa⟩ : ∃ wa, wa = (w.alloc (Obj.cells C.toArray 61)).alloc (Obj.cells mz00 61) := ⟨_, rfl⟩
 have hf0 : Fr [] w wa := by rw [hwa]; exact ((Fr.refl [] w).alloc _).alloc _
 have hb0 : Blk wa w.heap.size 61 x.cells.toArray := by rw [hwa, hC]; exact blk_alloc (Blk.new _ _ _)
 have hb1 : Blk wa (w.heap.size + 1) 61 mz00 := by
  have := Blk.new (w.alloc (Obj.cells C.toArray 61)) 61 mz00
  rw [hwa]
  simpa using this
 have hat : x.At wa w.heap.size := Wmg.at_of hb0.range hx
 have hcq : wa.cell? ⟨w.heap.size, 0, none⟩ = some (.int .i64 x.q) := by have h := hat.q 0 _ rfl; simpa using h
 have hcf : wa.cell? ⟨w.heap.size, 1, none⟩ = some (.int .i64 x.f) := by have h := hat.f 0 _ rfl; simpa using h
 have hct : wa.cell? ⟨w.heap.size, 2, none⟩ = some (.int .i64 x.t) := by have h := hat.t 0 _ rfl; simpa using h
 have HX := Lib.hid hx
 have HB0 := Lib.hid hb0
 have HB1 := Lib.hid hb1
 have HF0 := Lib.hid hf0
 have HWA := Lib.hid hwa
 have HSZ : Hid (wa.heap.size = w.heap.size + 2) := Lib.hid (by rw [hwa]; simp)
 obtain ⟨Z, hZ⟩ : ∃ Z, Z = (mz x.q x.f x.t).cells := ⟨_, rfl⟩
 have HBU : Hid (Tryz.prog.built 61 [(0, .int .i64 x.q), (1, .int .i64 x.f), (2, .int .i64 x.t)] = some Z.toArray) := Lib.hid (by rw [hZ]; exact built_mg3 _ _ _)
 have HZL : Hid ((Tryz.prog.info? 61).map (·.size) = some Z.toArray.size) := Lib.hid (by rw [hZ]; exact msg_size (mz_len _ _ _))
 have HZM : Hid (mz00.size = Z.toArray.size) := Lib.hid (by rw [hZ]; unfold mz00; rw [List.size_toArray, List.size_toArray, Wmg.lenz (mz_len _ _ _), Wmg.lenz (mz_len _ _ _)])
 have HZO : Hid (Z.toArray.all (·.oneCell') = true) := Lib.hid (by rw [hZ]; exact all_oneCell_toArray (Wmg.one _))
 have HZ := Lib.hid hZ
 have HQ := Lib.hid hq
 obtain ⟨q, hqq⟩ : ∃ q, q = x.q := ⟨_, rfl⟩
 obtain ⟨f, hff⟩ : ∃ f, f = x.f := ⟨_, rfl⟩
 obtain ⟨t, htt⟩ : ∃ t, t = x.t := ⟨_, rfl⟩
 rw [← hqq] at hcq
 rw [← hff] at hcf
 rw [← htt] at hct
 rw [← hqq, ← hff, ← htt] at HBU HZ
 have HQE := Lib.hid hqq
 have HFE := Lib.hid hff
 have HTE := Lib.hid htt
 clear hx hC hwa hf0 hb0 hb1 hat hZ hq hqq hff htt
 go_enter Tryz.func12, Tryz.ntmps12
 go_upto_region 1 with (fail)
 change Code.wp _ _ _ _ ((w.alloc (Obj.cells C.toArray 61)).alloc (Obj.cells mz00 61))
 rw [← HWA.out]
 go_upto_region 2 with (first
  | (refine wpList_builtg rfl 61 _ rfl _ _ HBU.out rfl ?_)
  | (refine wpList_store_blk rfl 61 _ _ rfl wa.heap.size Z.toArray rfl rfl 61 mz00 (Blk.new wa _ _) HZL.out HZM.out HZO.out ?_; intro w1 hb2 hf2))
 have HB2 : Hid (Blk w1 wa.heap.size 61 (mz q f t).cells.toArray) := Lib.hid (by rw [← HZ.out]; exact hb2)
 have HF1 : Hid (Fr [] wa w1) := Lib.hid (((Fr.refl [] wa).alloc _).go hf2 (by simp))
 clear hb2 hf2 hcf hct
 have hcq := HF1.out.cell hcq (by simp)
 have HB0 := Lib.hid (HB0.out.keep HF1.out (by simp))
 have HB1 := Lib.hid (HB1.out.keep HF1.out (by simp))
 have HBL1 : Hid (wa.heap.size < w1.heap.size) := Lib.hid HB2.out.lt
 have HAT := Lib.hid (Wmg.at_of HB0.out.range HX.out)
 have HZ0 := Lib.hid (mz_len q f t)
 rw [HQE.out, HQ.out] at hcq
 have HSI : Hid ((Tryz.prog.info? 3).map (·.size) = some 1) := Lib.hid (by kernel_rfl)
 have HSU : Hid ((Tryz.prog.info? 30).map (·.size) = some 1) := Lib.hid (by kernel_rfl)
 have HSS : Hid ((Tryz.prog.info? 9).map (·.size) = some 1) := Lib.hid (by kernel_rfl)
 have HLT : Hid (∀ y : Wmg, y.Len → ∀ k < 295, k < y.cells.toArray.size) := Lib.hid (fun y hy k hk => by rw [List.size_toArray, Wmg.lenz hy]; exact hk)
 have HCi : Hid (w1.cell? ⟨w.heap.size, 0 + 212, none⟩ = some (.int .i64 x.i)) := Lib.hid (by have h := HAT.out.i 0 _ rfl; simpa using h)
 have HCs : Hid (w1.cell? ⟨w.heap.size, 0 + 286, none⟩ = some (.string ⟨x.rp.toArray⟩)) := Lib.hid (by have h := HAT.out.rp 0 _ rfl; simpa using h)
 have HNS : Hid (¬ w.heap.size ∈ [wa.heap.size]) := Lib.hid (by have := HSZ.out; simp; omega)
 go_upto_region 29 with (fail)
 refine wp_region_held_drew (S := Fr [wa.heap.size] w1) (by kernel_rfl) (Fr.drew (Fr.refl _ w1)) (fun hHeld => ?_)
 refine run_at (i := 0) (v := ?_) rfl (by kernel_rfl) (by rfl) (fun _ _ _ h => h) hHeld (fun w1 hw1 => ?_) ?_
 rotate_left 1
 · skip
   go_simp
   try first | with_reducible rfl | apply And.intro <;> rfl
 simp only [xPa, xPb, xPc, xPd, xPe]
 refine run_at (i := 1) (v := ?_) rfl (by kernel_rfl) (by rfl) (fun _ _ _ h => h) hHeld (fun w1 hw1 => ?_) ?_
 rotate_left 1
 · skip
   have hcw0 := hw1.cell (HCi.out) (by first | (simp; done) | exact HNS.out)
   go_simp
   try first | with_reducible rfl | apply And.intro <;> rfl
 simp only [xPa, xPb, xPc, xPd, xPe]
 refine run_at (i := 2) (v := ?_) rfl (by kernel_rfl) (by rfl) (fun _ _ _ h => h) hHeld (fun w1 hw1 => ?_) ?_
 rotate_left 1
 · skip
   go_simp
   try first | with_reducible rfl | apply And.intro <;> rfl
 simp only [xPa, xPb, xPc, xPd, xPe]
 refine run_at (i := 3) (v := ?_) rfl (by kernel_rfl) (by rfl) (fun _ _ _ h => h) hHeld (fun w1 hw1 => ?_) ?_
 rotate_left 1
 · skip
   have hcw0 := hw1.cell (HCs.out) (by first | (simp; done) | exact HNS.out)
   go_simp
   try first | with_reducible rfl | apply And.intro <;> rfl
 simp only [xPa, xPb, xPc, xPd, xPe]
 refine run_at (i := 4) (v := ?_) rfl (by kernel_rfl) (by rfl) (fun _ _ _ h => h) hHeld (fun w1 hw1 => ?_) ?_
 rotate_left 1
 · skip
   go_simp
   try first | with_reducible rfl | apply And.intro <;> rfl
 simp only [xPa, xPb, xPc, xPd, xPe]
 have HBx0 := Lib.hid HB2.out.drew
 have HFS : Hid (Fr [wa.heap.size] w1 w1.drew) := Lib.hid hHeld
 generalize w1.drew = v0 at *
 refine step_at (i := 5) rfl (by kernel_rfl) (by rfl) (fun K hK => ?_)
 refine wp_store_at 3 _ _ rfl wa.heap.size 212 (.int .i64 x.i) rfl rfl rfl 61 _ HBx0.out (HLT.out _ HZ0.out 212 (by omega)) HSI.out ?_
 refine hK.out _ _ (Fr.setCells (fun _ => by simp) ([.int .i64 x.i]) 212 _ hHeld) (fun hHeld => ?_)
 clear hK K
 have HBx1 := Lib.hid (Wmg.blk_i HZ0.out x.i HBx0.out)
 have HZx1 : Hid (Wmg.Len {mz q f t with i := x.i}) := Lib.hid ⟨rfl, rfl, rfl, rfl, rfl, rfl, rfl⟩
 have HFS : Hid (Fr [wa.heap.size] w1 (v0.setCells wa.heap.size 212 ([.int .i64 x.i]))) := Lib.hid hHeld
 generalize v0.setCells wa.heap.size 212 ([.int .i64 x.i]) = v1 at *
 simp only [xPa, xPb, xPc, xPd, xPe]
 refine run_at (i := 6) (v := ?_) rfl (by kernel_rfl) (by rfl) (fun _ _ _ h => h) hHeld (fun w1 hw1 => ?_) ?_
 rotate_left 1
 · skip
   go_simp
   try first | with_reducible rfl | apply And.intro <;> rfl
 simp only [xPa, xPb, xPc, xPd, xPe]
 refine step_at (i := 7) rfl (by kernel_rfl) (by rfl) (fun K hK => ?_)
 refine wp_store_at 9 _ _ rfl wa.heap.size 286 (.string ⟨x.rp.toArray⟩) rfl rfl rfl 61 _ HBx1.out (HLT.out _ HZx1.out 286 (by omega)) HSS.out ?_
 refine hK.out _ _ (Fr.setCells (fun _ => by simp) ([.string ⟨x.rp.toArray⟩]) 286 _ hHeld) (fun hHeld => ?_)
 clear hK K
 have HBx2 := Lib.hid (Wmg.blk_rp HZx1.out x.rp HBx1.out)
 have HZx2 : Hid (Wmg.Len {mz q f t with i := x.i, rp := x.rp}) := Lib.hid ⟨rfl, rfl, rfl, rfl, rfl, rfl, rfl⟩
 have HFS : Hid (Fr [wa.heap.size] w1 (v1.setCells wa.heap.size 286 ([.string ⟨x.rp.toArray⟩]))) := Lib.hid hHeld
 generalize v1.setCells wa.heap.size 286 ([.string ⟨x.rp.toArray⟩]) = v2 at *
 simp only [xPa, xPb, xPc, xPd, xPe]
 refine wpAnyH_done (by kernel_rfl) ?_ _
 have HBX := Lib.hid HBx2.out
 have HZX : Hid (Wmg.Len {mz q f t with i := x.i, rp := x.rp}) := Lib.hid HZx2.out
 have HB9 := Lib.hid (HB1.out.keep HFS.out (by have := HSZ.out; simp; omega))
 obtain ⟨E, hE⟩ : ∃ E, E = ({mz q f t with i := x.i, rp := x.rp} : Wmg).cells := ⟨_, rfl⟩
 have HEL : Hid (E.length = 295) := Lib.hid (by rw [hE]; exact Wmg.lenz HZX.out)
 have HEO : Hid (E.toArray.all (·.oneCell') = true) := Lib.hid (by rw [hE]; exact all_oneCell_toArray (Wmg.one _))
 have HES : Hid ((Tryz.prog.info? 61).map (·.size) = some E.toArray.size) := Lib.hid (by rw [List.size_toArray, HEL.out]; kernel_rfl)
 have HEM : Hid (mz00.size = E.toArray.size) := Lib.hid (by unfold mz00; rw [List.size_toArray, List.size_toArray, HEL.out, Wmg.lenz (mz_len _ _ _)])
 have HER : Hid (v2.rangeAt wa.heap.size 0 E) := Lib.hid (by rw [hE]; exact HBX.out.range)
 go_wp2_with (first | fail | (refine wpList_load_mid rfl 61 _ rfl wa.heap.size 0 rfl E _ HER.out Tryz.underlying61 rfl (row_msg.of HEL.out).2 ?_) | (refine wpList_store_blk rfl 61 _ _ rfl (w.heap.size + 1) E.toArray rfl rfl 61 mz00 HB9.out HES.out HEM.out HEO.out ?_; intro w9 hb9 hf9))
 refine bodyPost_ret (v := .agg E.toArray) (results_cell_row Tryz.results12 _ _ (w.heap.size + 1) 61 E.toArray _ _ rfl hb9 Tryz.underlying61 rfl HES.out) rfl ?_
 have HS9 : Fr [wa.heap.size, w.heap.size + 1] w1 w9 := (HFS.out.mono (by intro k hk _; simp at hk; simp [hk])).trans hf9 (fun k hk _ => by simp at hk; simp [hk])
 refine ⟨{mz q f t with i := x.i, rp := x.rp}, by rw [hE], ?_, ?_, (HF0.out.and HF1.out (by simp)).go HS9 (by have := HSZ.out; simp; omega)⟩
 · have hqe : x.con.q = 13 := HQ.out
   unfold onlyC
   rw [show x.con.q = x.q from rfl, HQ.out]
   rw [HQE.out, HFE.out, HTE.out, HQ.out]
   rfl
 · have hz := mz_ok w9 [] q f t (by rw [HQE.out]; exact HX.out.q) (by rw [HFE.out]; exact HX.out.f) (by rw [HTE.out]; exact HX.out.t)
   have HW9 : Fr [] w w9 := (HF0.out.and HF1.out (by simp)).go HS9 (by have := HSZ.out; simp; omega)
   exact ⟨hz.q, hz.f, hz.t, hz.cm, hz.st, hz.ce, hz.ak, hz.e, hz.r, hz.tm, hz.pr, hz.po, hz.vt, HX.out.i, hz.en, hz.op, hz.dn, HX.out.rp, hz.de⟩
set_option maxHeartbeats 2000000 in
theorem refonly_11 (x : Wmg) (hq : x.q = 11) (w : World) (hx : x.Ok w []) (C : List Value) (hC : x.cells = C) :
  Calls Tryz.prog 12 #[.agg C.toArray] w (OnlyPost x w) := by
 obtain ⟨wa, hwa⟩ : ∃ wa, wa = (w.alloc (Obj.cells C.toArray 61)).alloc (Obj.cells mz00 61) := ⟨_, rfl⟩
 have hf0 : Fr [] w wa := by rw [hwa]; exact ((Fr.refl [] w).alloc _).alloc _
 have hb0 : Blk wa w.heap.size 61 x.cells.toArray := by rw [hwa, hC]; exact blk_alloc (Blk.new _ _ _)
 have hb1 : Blk wa (w.heap.size + 1) 61 mz00 := by
  have := Blk.new (w.alloc (Obj.cells C.toArray 61)) 61 mz00
  rw [hwa]
  simpa using this
 have hat : x.At wa w.heap.size := Wmg.at_of hb0.range hx
 have hcq : wa.cell? ⟨w.heap.size, 0, none⟩ = some (.int .i64 x.q) := by have h := hat.q 0 _ rfl; simpa using h
 have hcf : wa.cell? ⟨w.heap.size, 1, none⟩ = some (.int .i64 x.f) := by have h := hat.f 0 _ rfl; simpa using h
 have hct : wa.cell? ⟨w.heap.size, 2, none⟩ = some (.int .i64 x.t) := by have h := hat.t 0 _ rfl; simpa using h
 have HX := Lib.hid hx
 have HB0 := Lib.hid hb0
 have HB1 := Lib.hid hb1
 have HF0 := Lib.hid hf0
 have HWA := Lib.hid hwa
 have HSZ : Hid (wa.heap.size = w.heap.size + 2) := Lib.hid (by rw [hwa]; simp)
 obtain ⟨Z, hZ⟩ : ∃ Z, Z = (mz x.q x.f x.t).cells := ⟨_, rfl⟩
 have HBU : Hid (Tryz.prog.built 61 [(0, .int .i64 x.q), (1, .int .i64 x.f), (2, .int .i64 x.t)] = some Z.toArray) := Lib.hid (by rw [hZ]; exact built_mg3 _ _ _)
 have HZL : Hid ((Tryz.prog.info? 61).map (·.size) = some Z.toArray.size) := Lib.hid (by rw [hZ]; exact msg_size (mz_len _ _ _))
 have HZM : Hid (mz00.size = Z.toArray.size) := Lib.hid (by rw [hZ]; unfold mz00; rw [List.size_toArray, List.size_toArray, Wmg.lenz (mz_len _ _ _), Wmg.lenz (mz_len _ _ _)])
 have HZO : Hid (Z.toArray.all (·.oneCell') = true) := Lib.hid (by rw [hZ]; exact all_oneCell_toArray (Wmg.one _))
 have HZ := Lib.hid hZ
 have HQ := Lib.hid hq
 obtain ⟨q, hqq⟩ : ∃ q, q = x.q := ⟨_, rfl⟩
 obtain ⟨f, hff⟩ : ∃ f, f = x.f := ⟨_, rfl⟩
 obtain ⟨t, htt⟩ : ∃ t, t = x.t := ⟨_, rfl⟩
 rw [← hqq] at hcq
 rw [← hff] at hcf
 rw [← htt] at hct
 rw [← hqq, ← hff, ← htt] at HBU HZ
 have HQE := Lib.hid hqq
 have HFE := Lib.hid hff
 have HTE := Lib.hid htt
 clear hx hC hwa hf0 hb0 hb1 hat hZ hq hqq hff htt
 go_enter Tryz.func12, Tryz.ntmps12
 go_upto_region 1 with (fail)
 change Code.wp _ _ _ _ ((w.alloc (Obj.cells C.toArray 61)).alloc (Obj.cells mz00 61))
 rw [← HWA.out]
 go_upto_region 2 with (first
  | (refine wpList_builtg rfl 61 _ rfl _ _ HBU.out rfl ?_)
  | (refine wpList_store_blk rfl 61 _ _ rfl wa.heap.size Z.toArray rfl rfl 61 mz00 (Blk.new wa _ _) HZL.out HZM.out HZO.out ?_; intro w1 hb2 hf2))
 have HB2 : Hid (Blk w1 wa.heap.size 61 (mz q f t).cells.toArray) := Lib.hid (by rw [← HZ.out]; exact hb2)
 have HF1 : Hid (Fr [] wa w1) := Lib.hid (((Fr.refl [] wa).alloc _).go hf2 (by simp))
 clear hb2 hf2 hcf hct
 have hcq := HF1.out.cell hcq (by simp)
 have HB0 := Lib.hid (HB0.out.keep HF1.out (by simp))
 have HB1 := Lib.hid (HB1.out.keep HF1.out (by simp))
 have HBL1 : Hid (wa.heap.size < w1.heap.size) := Lib.hid HB2.out.lt
 have HAT := Lib.hid (Wmg.at_of HB0.out.range HX.out)
 have HZ0 := Lib.hid (mz_len q f t)
 rw [HQE.out, HQ.out] at hcq
 have HSI : Hid ((Tryz.prog.info? 3).map (·.size) = some 1) := Lib.hid (by kernel_rfl)
 have hci : w1.cell? ⟨w.heap.size, 212, none⟩ = some (.int .i64 x.i) := by have h := HAT.out.i 0 _ rfl; simpa using h
 have HBX := Lib.hid (Wmg.blk_i HZ0.out x.i HB2.out)
 have HZX : Hid (Wmg.Len {mz q f t with i := x.i}) := Lib.hid ⟨rfl, rfl, rfl, rfl, rfl, rfl, rfl⟩
 have HFS : Hid (Fr [wa.heap.size] w1 (w1.setCells wa.heap.size 212 [.int .i64 x.i])) := Lib.hid (Fr.setCells (fun _ => by simp) _ 212 _ (Fr.refl _ _))
 have HB9 : Hid (Blk (w1.setCells wa.heap.size 212 [.int .i64 x.i]) (w.heap.size + 1) 61 mz00) := Lib.hid (HB1.out.keep HFS.out (by have := HSZ.out; simp; omega))
 obtain ⟨E, hE⟩ : ∃ E, E = ({mz q f t with i := x.i} : Wmg).cells := ⟨_, rfl⟩
 have HEL : Hid (E.length = 295) := Lib.hid (by rw [hE]; exact Wmg.lenz HZX.out)
 have HEO : Hid (E.toArray.all (·.oneCell') = true) := Lib.hid (by rw [hE]; exact all_oneCell_toArray (Wmg.one _))
 have HES : Hid ((Tryz.prog.info? 61).map (·.size) = some E.toArray.size) := Lib.hid (by rw [List.size_toArray, HEL.out]; kernel_rfl)
 have HEM : Hid (mz00.size = E.toArray.size) := Lib.hid (by unfold mz00; rw [List.size_toArray, List.size_toArray, HEL.out, Wmg.lenz (mz_len _ _ _)])
 have HER : Hid ((w1.setCells wa.heap.size 212 [.int .i64 x.i]).rangeAt wa.heap.size 0 E) := Lib.hid (by rw [hE]; exact HBX.out.range)
 go_wp2_with (first | (refine wpList_store_at rfl 3 _ _ rfl wa.heap.size 212 (.int .i64 x.i) rfl rfl rfl 61 _ HB2.out (by rw [List.size_toArray, Wmg.lenz HZ0.out]; decide) HSI.out ?_) | (refine wpList_load_mid rfl 61 _ rfl wa.heap.size 0 rfl E _ HER.out Tryz.underlying61 rfl (row_msg.of HEL.out).2 ?_) | (refine wpList_store_blk rfl 61 _ _ rfl (w.heap.size + 1) E.toArray rfl rfl 61 mz00 HB9.out HES.out HEM.out HEO.out ?_; intro w9 hb9 hf9))
 refine bodyPost_ret (v := .agg E.toArray) (results_cell_row Tryz.results12 _ _ (w.heap.size + 1) 61 E.toArray _ _ rfl hb9 Tryz.underlying61 rfl HES.out) rfl ?_
 have HS9 : Fr [wa.heap.size, w.heap.size + 1] w1 w9 := (HFS.out.mono (by intro k hk _; simp at hk; simp [hk])).trans hf9 (fun k hk _ => by simp at hk; simp [hk])
 refine ⟨{mz q f t with i := x.i}, by rw [hE], ?_, ?_, (HF0.out.and HF1.out (by simp)).go HS9 (by have := HSZ.out; simp; omega)⟩
 · have hqe : x.con.q = 11 := HQ.out
   unfold onlyC
   rw [show x.con.q = x.q from rfl, HQ.out]
   rw [HQE.out, HFE.out, HTE.out, HQ.out]
   rfl
 · have hz := mz_ok w9 [] q f t (by rw [HQE.out]; exact HX.out.q) (by rw [HFE.out]; exact HX.out.f) (by rw [HTE.out]; exact HX.out.t)
   have HW9 : Fr [] w w9 := (HF0.out.and HF1.out (by simp)).go HS9 (by have := HSZ.out; simp; omega)
   exact ⟨hz.q, hz.f, hz.t, hz.cm, hz.st, hz.ce, hz.ak, hz.e, hz.r, hz.tm, hz.pr, hz.po, hz.vt, HX.out.i, hz.en, hz.op, hz.dn, hz.rp, hz.de⟩
set_option maxHeartbeats 2000000 in
theorem refonly_none (x : Wmg) (hq : ¬ (1 ≤ x.q ∧ x.q ≤ 14)) (w : World) (hx : x.Ok w []) (C : List Value) (hC : x.cells = C) :
  Calls Tryz.prog 12 #[.agg C.toArray] w (OnlyPost x w) := by
 obtain ⟨wa, hwa⟩ : ∃ wa, wa = (w.alloc (Obj.cells C.toArray 61)).alloc (Obj.cells mz00 61) := ⟨_, rfl⟩
 have hf0 : Fr [] w wa := by rw [hwa]; exact ((Fr.refl [] w).alloc _).alloc _
 have hb0 : Blk wa w.heap.size 61 x.cells.toArray := by rw [hwa, hC]; exact blk_alloc (Blk.new _ _ _)
 have hb1 : Blk wa (w.heap.size + 1) 61 mz00 := by
  have := Blk.new (w.alloc (Obj.cells C.toArray 61)) 61 mz00
  rw [hwa]
  simpa using this
 have hat : x.At wa w.heap.size := Wmg.at_of hb0.range hx
 have hcq : wa.cell? ⟨w.heap.size, 0, none⟩ = some (.int .i64 x.q) := by have h := hat.q 0 _ rfl; simpa using h
 have hcf : wa.cell? ⟨w.heap.size, 1, none⟩ = some (.int .i64 x.f) := by have h := hat.f 0 _ rfl; simpa using h
 have hct : wa.cell? ⟨w.heap.size, 2, none⟩ = some (.int .i64 x.t) := by have h := hat.t 0 _ rfl; simpa using h
 have HX := Lib.hid hx
 have HB0 := Lib.hid hb0
 have HB1 := Lib.hid hb1
 have HF0 := Lib.hid hf0
 have HWA := Lib.hid hwa
 have HSZ : Hid (wa.heap.size = w.heap.size + 2) := Lib.hid (by rw [hwa]; simp)
 obtain ⟨Z, hZ⟩ : ∃ Z, Z = (mz x.q x.f x.t).cells := ⟨_, rfl⟩
 have HBU : Hid (Tryz.prog.built 61 [(0, .int .i64 x.q), (1, .int .i64 x.f), (2, .int .i64 x.t)] = some Z.toArray) := Lib.hid (by rw [hZ]; exact built_mg3 _ _ _)
 have HZL : Hid ((Tryz.prog.info? 61).map (·.size) = some Z.toArray.size) := Lib.hid (by rw [hZ]; exact msg_size (mz_len _ _ _))
 have HZM : Hid (mz00.size = Z.toArray.size) := Lib.hid (by rw [hZ]; unfold mz00; rw [List.size_toArray, List.size_toArray, Wmg.lenz (mz_len _ _ _), Wmg.lenz (mz_len _ _ _)])
 have HZO : Hid (Z.toArray.all (·.oneCell') = true) := Lib.hid (by rw [hZ]; exact all_oneCell_toArray (Wmg.one _))
 have HZ := Lib.hid hZ
 have HQ := Lib.hid hq
 obtain ⟨q, hqq⟩ : ∃ q, q = x.q := ⟨_, rfl⟩
 obtain ⟨f, hff⟩ : ∃ f, f = x.f := ⟨_, rfl⟩
 obtain ⟨t, htt⟩ : ∃ t, t = x.t := ⟨_, rfl⟩
 rw [← hqq] at hcq
 rw [← hff] at hcf
 rw [← htt] at hct
 rw [← hqq, ← hff, ← htt] at HBU HZ
 have HQE := Lib.hid hqq
 have HFE := Lib.hid hff
 have HTE := Lib.hid htt
 clear hx hC hwa hf0 hb0 hb1 hat hZ hq hqq hff htt
 go_enter Tryz.func12, Tryz.ntmps12
 go_upto_region 1 with (fail)
 change Code.wp _ _ _ _ ((w.alloc (Obj.cells C.toArray 61)).alloc (Obj.cells mz00 61))
 rw [← HWA.out]
 go_upto_region 2 with (first
  | (refine wpList_builtg rfl 61 _ rfl _ _ HBU.out rfl ?_)
  | (refine wpList_store_blk rfl 61 _ _ rfl wa.heap.size Z.toArray rfl rfl 61 mz00 (Blk.new wa _ _) HZL.out HZM.out HZO.out ?_; intro w1 hb2 hf2))
 have HB2 : Hid (Blk w1 wa.heap.size 61 (mz q f t).cells.toArray) := Lib.hid (by rw [← HZ.out]; exact hb2)
 have HF1 : Hid (Fr [] wa w1) := Lib.hid (((Fr.refl [] wa).alloc _).go hf2 (by simp))
 clear hb2 hf2 hcf hct
 have hcq := HF1.out.cell hcq (by simp)
 have HB0 := Lib.hid (HB0.out.keep HF1.out (by simp))
 have HB1 := Lib.hid (HB1.out.keep HF1.out (by simp))
 have HBL1 : Hid (wa.heap.size < w1.heap.size) := Lib.hid HB2.out.lt
 have HAT := Lib.hid (Wmg.at_of HB0.out.range HX.out)
 have HZ0 := Lib.hid (mz_len q f t)
 have hq1 : (q == 1) = false := by have h1 := HQ.out; have h2 := HQE.out; simp; omega
 have hq2 : (q == 2) = false := by have h1 := HQ.out; have h2 := HQE.out; simp; omega
 have hq3 : (q == 3) = false := by have h1 := HQ.out; have h2 := HQE.out; simp; omega
 have hq4 : (q == 4) = false := by have h1 := HQ.out; have h2 := HQE.out; simp; omega
 have hq5 : (q == 5) = false := by have h1 := HQ.out; have h2 := HQE.out; simp; omega
 have hq6 : (q == 6) = false := by have h1 := HQ.out; have h2 := HQE.out; simp; omega
 have hq7 : (q == 7) = false := by have h1 := HQ.out; have h2 := HQE.out; simp; omega
 have hq8 : (q == 8) = false := by have h1 := HQ.out; have h2 := HQE.out; simp; omega
 have hq9 : (q == 9) = false := by have h1 := HQ.out; have h2 := HQE.out; simp; omega
 have hq10 : (q == 10) = false := by have h1 := HQ.out; have h2 := HQE.out; simp; omega
 have hq11 : (q == 11) = false := by have h1 := HQ.out; have h2 := HQE.out; simp; omega
 have hq12 : (q == 12) = false := by have h1 := HQ.out; have h2 := HQE.out; simp; omega
 have hq13 : (q == 13) = false := by have h1 := HQ.out; have h2 := HQE.out; simp; omega
 have hq14 : (q == 14) = false := by have h1 := HQ.out; have h2 := HQE.out; simp; omega
 have HB9 := Lib.hid HB1.out
 obtain ⟨E, hE⟩ : ∃ E, E = (mz 0 0 0).cells := ⟨_, rfl⟩
 have HEL : Hid (E.length = 295) := Lib.hid (by rw [hE]; exact Wmg.lenz (mz_len _ _ _))
 have HEB : Hid (Tryz.prog.built 61 [] = some E.toArray) := Lib.hid (by rw [hE]; exact built_mg0)
 have HEO : Hid (E.toArray.all (·.oneCell') = true) := Lib.hid (by rw [hE]; exact all_oneCell_toArray (Wmg.one _))
 have HES : Hid ((Tryz.prog.info? 61).map (·.size) = some E.toArray.size) := Lib.hid (by rw [List.size_toArray, HEL.out]; kernel_rfl)
 have HEM : Hid (mz00.size = E.toArray.size) := Lib.hid (by unfold mz00; rw [List.size_toArray, List.size_toArray, HEL.out, Wmg.lenz (mz_len _ _ _)])
 go_wp2_with (first | (refine wpList_builtg rfl 61 _ rfl _ _ HEB.out rfl ?_) | (refine wpList_store_blk rfl 61 _ _ rfl (w.heap.size + 1) E.toArray rfl rfl 61 mz00 HB9.out HES.out HEM.out HEO.out ?_; intro w9 hb9 hf9))
 refine bodyPost_ret (v := .agg E.toArray) (results_cell_row Tryz.results12 _ _ (w.heap.size + 1) 61 E.toArray _ _ rfl hb9 Tryz.underlying61 rfl HES.out) rfl ?_
 refine ⟨mz 0 0 0, by rw [hE], ?_, mz_ok w9 [] 0 0 0 zero_in zero_in zero_in, (HF0.out.and HF1.out (by simp)).go hf9 (by simp)⟩
 have hn := HQ.out
 unfold onlyC
 rw [show x.con.q = x.q from rfl]
 rw [if_neg (show ¬ x.q = 1 by omega)]
 rw [if_neg (show ¬ x.q = 2 by omega)]
 rw [if_neg (show ¬ x.q = 3 by omega)]
 rw [if_neg (show ¬ x.q = 4 by omega)]
 rw [if_neg (show ¬ x.q = 5 by omega)]
 rw [if_neg (show ¬ x.q = 6 by omega)]
 rw [if_neg (show ¬ x.q = 7 by omega)]
 rw [if_neg (show ¬ x.q = 8 by omega)]
 rw [if_neg (show ¬ x.q = 9 by omega)]
 rw [if_neg (show ¬ x.q = 10 by omega)]
 rw [if_neg (show ¬ x.q = 11 by omega)]
 rw [if_neg (show ¬ x.q = 12 by omega)]
 rw [if_neg (show ¬ x.q = 13 by omega)]
 rw [if_neg (show ¬ x.q = 14 by omega)]
theorem refonly_any (x : Wmg) (w : World) (hx : x.Ok w []) (C : List Value) (hC : x.cells = C) : Calls Tryz.prog 12 #[.agg C.toArray] w (OnlyPost x w) := by
 by_cases hm : 1 ≤ x.q ∧ x.q ≤ 14
 · have h : x.q = 1 ∨ x.q = 2 ∨ x.q = 3 ∨ x.q = 4 ∨ x.q = 5 ∨ x.q = 6 ∨ x.q = 7 ∨ x.q = 8 ∨ x.q = 9 ∨ x.q = 10 ∨ x.q = 11 ∨ x.q = 12 ∨ x.q = 13 ∨ x.q = 14 := by omega
   rcases h with h | h | h | h | h | h | h | h | h | h | h | h | h | h
   · exact refonly_1 x h w hx C hC
   · exact refonly_2 x h w hx C hC
   · exact refonly_3 x h w hx C hC
   · exact refonly_4 x h w hx C hC
   · exact refonly_5 x h w hx C hC
   · exact refonly_6 x h w hx C hC
   · exact refonly_7 x h w hx C hC
   · exact refonly_8 x h w hx C hC
   · exact refonly_9 x h w hx C hC
   · exact refonly_10 x h w hx C hC
   · exact refonly_11 x h w hx C hC
   · exact refonly_12 x h w hx C hC
   · exact refonly_13 x h w hx C hC
   · exact refonly_14 x h w hx C hC
 · exact refonly_none x hm w hx C hC
end Go.Proofs.YtpcnedpheplofaaGreat

namespace Go.Proofs.YtpcnedpheplofaaGreat
open Go.RowKit
set_option maxRecDepth 100000
theorem el_voteS : ElTy Tryz.prog 49 38 80 := ElTy.of (by kernel_rfl)
theorem copyVotes_any (A : Option Addr) (n c : Nat) (l : List Wvt) (w : World) (hr : Lst 38 Wvt.cells (fun _ v => v.Ok) w A n l) (hn : n ≤ 1000000) :
  Calls Tryz.prog 76 #[.slice A n c] w fun e w' => ∃ A' c', e = .returned (.slice A' n c') ∧ NewL 49 38 Wvt.cells w w' A' n c' l := by
 have HR := Lib.hid hr
 have HN := Lib.hid hn
 clear hr hn
 go_enter Tryz.func76, Tryz.ntmps76
 go_wp2_with (at_builtin; refine Stop.mk ?_)
 refine Stop.go ?_
 refine wpList_append_lst _ rfl (.const (.slice none 0 0)) (.tmp 3) _ rfl 49 38 80 Tryz.underlying57 el_voteS (by decide) (by decide) Wvt.one rfl A n c l rfl HR.out HN.out ?_
 intro A1 c1 w1 ho1
 have HO := Lib.hid ho1
 clear ho1
 go_wp2
 go_ret
 exact ⟨A1, c1, rfl, HO.out⟩
theorem cutVotes_any (A : Option Addr) (n c m : Nat) (l : List Wvt) (w : World) (hr : Lst 38 Wvt.cells (fun _ v => v.Ok) w A n l) (hn : n ≤ maxLen) (hc : n ≤ c) (hm : m ≤ 1000000) :
  Calls Tryz.prog 24 #[.slice A n c, .int .i64 m] w fun e w' => ∃ A' c', e = .returned (.slice A' (l.take m).length c') ∧ NewL 49 38 Wvt.cells w w' A' (l.take m).length c' (l.take m) := by
 unfold maxLen at hn
 have HR := Lib.hid hr
 have HL : Hid ((l.take m).length = min m n) := by rw [List.length_take, hr.1]; rfl
 clear hr
 by_cases hnm : n ≤ m
 · have hmin : Hid (min m n = n) := Nat.min_eq_right hnm
   go_enter Tryz.func24, Tryz.ntmps24
   go_wp2_with fail
   rw [show (min (n : Int) (m : Int)).toNat = n by omega]
   refine (copyVotes_any A n c (l.take m) w (by have h := HR.out.1; rw [List.take_of_length_le (by omega)]; exact HR.out) (by omega)).mono ?_
   rintro e w1 ⟨A1, c1, rfl, hN⟩
   have HN := Lib.hid hN
   clear hN
   go_wp2
   go_ret
   rw [HL.out, hmin.out]
   exact ⟨A1, c1, rfl, HN.out⟩
 · have hmin : Hid (min m n = m) := Nat.min_eq_left (by omega)
   have hmc : m ≤ c := by omega
   go_enter Tryz.func24, Tryz.ntmps24
   go_wp2_with fail
   rw [show (min (n : Int) (m : Int)).toNat = m by omega]
   refine (copyVotes_any A m c (l.take m) w (HR.out.take (by omega)) (by omega)).mono ?_
   rintro e w1 ⟨A1, c1, rfl, hN⟩
   have HN := Lib.hid hN
   clear hN
   go_wp2
   go_ret
   rw [HL.out, hmin.out]
   exact ⟨A1, c1, rfl, HN.out⟩
theorem Wmg.blk_pok {w : World} {g : Nat} {t : TypeId} {x : Wmg} (hx : x.Len) (v : Wba) (hb : Blk w g t x.cells.toArray) : Blk (w.setCells g 167 (v.cells)) g t ({x with po := {x.po with k := v}} : Wmg).cells.toArray :=
 Blk.mid_at (v.cells) (x.po.k.cells) ([.int .i64 x.q] ++ ([.int .i64 x.f] ++ ([.int .i64 x.t] ++ (x.cm.cells ++ (x.st.cells ++ (x.ce.cells ++ (x.ak.cells ++ ([.int .i64 x.e] ++ ([.int .i64 x.r] ++ ([.int .u64 (x.tm : Int)] ++ (x.pr.cells ++ ([.int .i64 x.po.e, .int .i64 x.po.r] ++ ([.int .i64 x.po.v] ++ ([.int .i64 x.po.p])))))))))))))) ([.int .i64 x.po.b, .int .i64 x.po.m] ++ (x.vt.cells ++ ([.int .i64 x.i] ++ (x.en.cells ++ (x.op.cells ++ (x.dn.cells ++ ([.string ⟨x.rp.toArray⟩] ++ (x.de.cells)))))))) 167 (by simp only [List.length_append, List.length_cons, List.length_nil, Wcm.len hx.cm, Wst.len hx.st, Wce.len hx.ce, Wst.len hx.ak, Wpr.len x.pr, Wpo.len x.po, Wvt.len hx.vt, Wen.len hx.en, Wop.len hx.op, Wdn.len x.dn, (show x.de.k.cells.length = 5 from rfl), (show x.po.k.cells.length = 5 from rfl)]) rfl _ _ (by simp only [Wmg.cells, Wpo.cells, Wop.cells, Wdc.cells, List.append_assoc, List.append_nil, List.cons_append, List.nil_append]) (by simp only [Wmg.cells, Wpo.cells, Wop.cells, Wdc.cells, List.append_assoc, List.append_nil, List.cons_append, List.nil_append]) hb
theorem Wmg.blk_pov {w : World} {g : Nat} {t : TypeId} {x : Wmg} (hx : x.Len) (v : Int) (hb : Blk w g t x.cells.toArray) : Blk (w.setCells g 165 ([.int .i64 v])) g t ({x with po := {x.po with v := v}} : Wmg).cells.toArray :=
 Blk.mid_at ([.int .i64 v]) ([.int .i64 x.po.v]) ([.int .i64 x.q] ++ ([.int .i64 x.f] ++ ([.int .i64 x.t] ++ (x.cm.cells ++ (x.st.cells ++ (x.ce.cells ++ (x.ak.cells ++ ([.int .i64 x.e] ++ ([.int .i64 x.r] ++ ([.int .u64 (x.tm : Int)] ++ (x.pr.cells ++ ([.int .i64 x.po.e, .int .i64 x.po.r])))))))))))) ([.int .i64 x.po.p] ++ (x.po.k.cells ++ ([.int .i64 x.po.b, .int .i64 x.po.m] ++ (x.vt.cells ++ ([.int .i64 x.i] ++ (x.en.cells ++ (x.op.cells ++ (x.dn.cells ++ ([.string ⟨x.rp.toArray⟩] ++ (x.de.cells)))))))))) 165 (by simp only [List.length_append, List.length_cons, List.length_nil, Wcm.len hx.cm, Wst.len hx.st, Wce.len hx.ce, Wst.len hx.ak, Wpr.len x.pr, Wpo.len x.po, Wvt.len hx.vt, Wen.len hx.en, Wop.len hx.op, Wdn.len x.dn, (show x.de.k.cells.length = 5 from rfl), (show x.po.k.cells.length = 5 from rfl)]) rfl _ _ (by simp only [Wmg.cells, Wpo.cells, Wop.cells, Wdc.cells, List.append_assoc, List.append_nil, List.cons_append, List.nil_append]) (by simp only [Wmg.cells, Wpo.cells, Wop.cells, Wdc.cells, List.append_assoc, List.append_nil, List.cons_append, List.nil_append]) hb
theorem Wmg.blk_dek {w : World} {g : Nat} {t : TypeId} {x : Wmg} (hx : x.Len) (v : Wba) (hb : Blk w g t x.cells.toArray) : Blk (w.setCells g 289 (v.cells)) g t ({x with de := {x.de with k := v}} : Wmg).cells.toArray :=
 Blk.mid_at (v.cells) (x.de.k.cells) ([.int .i64 x.q] ++ ([.int .i64 x.f] ++ ([.int .i64 x.t] ++ (x.cm.cells ++ (x.st.cells ++ (x.ce.cells ++ (x.ak.cells ++ ([.int .i64 x.e] ++ ([.int .i64 x.r] ++ ([.int .u64 (x.tm : Int)] ++ (x.pr.cells ++ (x.po.cells ++ (x.vt.cells ++ ([.int .i64 x.i] ++ (x.en.cells ++ (x.op.cells ++ (x.dn.cells ++ ([.string ⟨x.rp.toArray⟩] ++ ([.int .i64 x.de.e, .int .i64 x.de.r]))))))))))))))))))) ([.slice x.de.A x.de.n x.de.d]) 289 (by simp only [List.length_append, List.length_cons, List.length_nil, Wcm.len hx.cm, Wst.len hx.st, Wce.len hx.ce, Wst.len hx.ak, Wpr.len x.pr, Wpo.len x.po, Wvt.len hx.vt, Wen.len hx.en, Wop.len hx.op, Wdn.len x.dn, (show x.de.k.cells.length = 5 from rfl), (show x.po.k.cells.length = 5 from rfl)]) rfl _ _ (by simp only [Wmg.cells, Wpo.cells, Wop.cells, Wdc.cells, List.append_assoc, List.append_nil, List.cons_append, List.nil_append]) (by simp only [Wmg.cells, Wpo.cells, Wop.cells, Wdc.cells, List.append_assoc, List.append_nil, List.cons_append, List.nil_append]) hb
theorem Wmg.blk_dev {w : World} {g : Nat} {t : TypeId} {x : Wmg} (hx : x.Len) (A : Option Addr) (n d : Nat) (l : List Wvt) (hb : Blk w g t x.cells.toArray) : Blk (w.setCells g 294 ([.slice A n d])) g t ({x with de := {x.de with A := A, n := n, d := d, l := l}} : Wmg).cells.toArray :=
 Blk.mid_at ([.slice A n d]) ([.slice x.de.A x.de.n x.de.d]) ([.int .i64 x.q] ++ ([.int .i64 x.f] ++ ([.int .i64 x.t] ++ (x.cm.cells ++ (x.st.cells ++ (x.ce.cells ++ (x.ak.cells ++ ([.int .i64 x.e] ++ ([.int .i64 x.r] ++ ([.int .u64 (x.tm : Int)] ++ (x.pr.cells ++ (x.po.cells ++ (x.vt.cells ++ ([.int .i64 x.i] ++ (x.en.cells ++ (x.op.cells ++ (x.dn.cells ++ ([.string ⟨x.rp.toArray⟩] ++ ([.int .i64 x.de.e, .int .i64 x.de.r] ++ (x.de.k.cells)))))))))))))))))))) ([]) 294 (by simp only [List.length_append, List.length_cons, List.length_nil, Wcm.len hx.cm, Wst.len hx.st, Wce.len hx.ce, Wst.len hx.ak, Wpr.len x.pr, Wpo.len x.po, Wvt.len hx.vt, Wen.len hx.en, Wop.len hx.op, Wdn.len x.dn, (show x.de.k.cells.length = 5 from rfl), (show x.po.k.cells.length = 5 from rfl)]) rfl _ _ (by simp only [Wmg.cells, Wpo.cells, Wop.cells, Wdc.cells, List.append_assoc, List.append_nil, List.cons_append, List.nil_append]) (by simp only [Wmg.cells, Wpo.cells, Wop.cells, Wdc.cells, List.append_assoc, List.append_nil, List.cons_append, List.nil_append]) hb
theorem Wmg.blk_opp {w : World} {g : Nat} {t : TypeId} {x : Wmg} (hx : x.Len) (A : Option Addr) (n d : Nat) (l : List UInt8) (hb : Blk w g t x.cells.toArray) : Blk (w.setCells g 249 ([.slice A n d])) g t ({x with op := {x.op with A := A, n := n, d := d, p := l}} : Wmg).cells.toArray :=
 Blk.mid_at ([.slice A n d]) ([.slice x.op.A x.op.n x.op.d]) ([.int .i64 x.q] ++ ([.int .i64 x.f] ++ ([.int .i64 x.t] ++ (x.cm.cells ++ (x.st.cells ++ (x.ce.cells ++ (x.ak.cells ++ ([.int .i64 x.e] ++ ([.int .i64 x.r] ++ ([.int .u64 (x.tm : Int)] ++ (x.pr.cells ++ (x.po.cells ++ (x.vt.cells ++ ([.int .i64 x.i] ++ (x.en.cells ++ ([.int .i64 x.op.i])))))))))))))))) (x.op.h.map by8 ++ (x.dn.cells ++ ([.string ⟨x.rp.toArray⟩] ++ (x.de.cells)))) 249 (by simp only [List.length_append, List.length_cons, List.length_nil, Wcm.len hx.cm, Wst.len hx.st, Wce.len hx.ce, Wst.len hx.ak, Wpr.len x.pr, Wpo.len x.po, Wvt.len hx.vt, Wen.len hx.en, Wop.len hx.op, Wdn.len x.dn, (show x.de.k.cells.length = 5 from rfl), (show x.po.k.cells.length = 5 from rfl)]) rfl _ _ (by simp only [Wmg.cells, Wpo.cells, Wop.cells, Wdc.cells, List.append_assoc, List.append_nil, List.cons_append, List.nil_append]) (by simp only [Wmg.cells, Wpo.cells, Wop.cells, Wdc.cells, List.append_assoc, List.append_nil, List.cons_append, List.nil_append]) hb
set_option maxHeartbeats 8000000 in
theorem msmall_ex (x : Wmg) (w : World) (hx : x.In w) (C : List Value) (hC : x.cells = C) :
  Calls Tryz.prog 6 #[.agg C.toArray] w fun e w' => ∃ y : Wmg, e = .returned (.agg y.cells.toArray) ∧ y.po.v < 9223372036854775807 ∧ (∀ S0 : List Nat, (∀ k ∈ S0, k < w.heap.size) → y.Ok w' S0) ∧ Fr [] w w' := by
 obtain ⟨wa, hwa⟩ : ∃ wa, wa = (w.alloc (Obj.cells C.toArray 61)).alloc (Obj.cells mz00 61) := ⟨_, rfl⟩
 have hf0 : Fr [] w wa := by rw [hwa]; exact ((Fr.refl [] w).alloc _).alloc _
 have hb0 : Blk wa w.heap.size 61 x.cells.toArray := by rw [hwa, hC]; exact blk_alloc (Blk.new _ _ _)
 have hb1 : Blk wa (w.heap.size + 1) 61 mz00 := by
  have := Blk.new (w.alloc (Obj.cells C.toArray 61)) 61 mz00
  rw [hwa]
  simpa using this
 have hlen : x.Len := ⟨hx.cm.h, hx.st.h, hx.ce.k.h, hx.ak.h, hx.vt.h, hx.en.h, hx.op.h⟩
 have hat : x.At wa w.heap.size := Wmg.at_len hb0.range hlen
 have HRC : Hid (wa.rangeAt w.heap.size 78 x.ce.cells) := Lib.hid hat.ce
 have HRP : Hid (wa.rangeAt w.heap.size 157 x.pr.cells) := Lib.hid hat.pr
 have HRK : Hid (wa.rangeAt w.heap.size 167 x.po.k.cells) := Lib.hid (ra_head (ra_tail (k := 4) hat.po rfl))
 have HRD : Hid (wa.rangeAt w.heap.size 289 x.de.k.cells) := Lib.hid (ra_head (ra_tail (k := 2) hat.de rfl))
 have HB0 := Lib.hid hb0
 have HB1 := Lib.hid hb1
 have HF0 := Lib.hid hf0
 have HWA := Lib.hid hwa
 have HX := Lib.hid hx
 have HL := Lib.hid hlen
 have HSZ : Hid (wa.heap.size = w.heap.size + 2) := Lib.hid (by rw [hwa]; simp)
 have HLC : Hid (x.ce.cells.length = 38) := Lib.hid (Wce.len hx.ce.k.h)
 clear hwa hf0 hb0 hb1 hlen hat hx hC
 go_enter Tryz.func6, Tryz.ntmps6
 go_upto_region 1 with (fail)
 change Code.wp _ _ _ _ ((w.alloc (Obj.cells C.toArray 61)).alloc (Obj.cells mz00 61))
 rw [← HWA.out]
 refine wp_region_till 15 (Fr [w.heap.size] wa) (Fr [] wa) (by kernel_rfl) (Fr.drew (Fr.refl _ wa)) (Fr.drew (Fr.refl _ wa)) (fun hA hB => ?_)
 have HFD : Hid (Fr [] wa wa.drew) := Lib.hid (Fr.drew (Fr.refl [] wa))
 generalize wa.drew = wd at *
 have HLP : Hid (x.pr.cells.length = 6) := Lib.hid (Wpr.len _)
 have HLK : Hid (x.po.k.cells.length = 5) := Lib.hid rfl
 have HLD : Hid (x.de.k.cells.length = 5) := Lib.hid rfl
 have hcc := certCut_any x.ce.k HX.out.ce.k x.ce.A x.ce.n x.ce.d x.ce.l
 rw [show x.ce.k.cells ++ [Value.slice x.ce.A x.ce.n x.ce.d] = x.ce.cells from rfl] at hcc
 have hpc := promiseCut_any x.pr
 obtain ⟨CL, hCL⟩ : ∃ CL, x.ce.cells = CL := ⟨_, rfl⟩
 obtain ⟨PL, hPL⟩ : ∃ PL, x.pr.cells = PL := ⟨_, rfl⟩
 obtain ⟨KL, hKL⟩ : ∃ KL, x.po.k.cells = KL := ⟨_, rfl⟩
 obtain ⟨DL, hDL⟩ : ∃ DL, x.de.k.cells = DL := ⟨_, rfl⟩
 rw [hCL] at HRC HLC hcc
 rw [hPL] at HRP HLP hpc
 rw [hKL] at HRK HLK
 rw [hDL] at HRD HLD
 have HKL := Lib.hid hKL
 have HDL := Lib.hid hDL
 clear hCL hPL hKL hDL
 refine till_run (i := 0) (v := ?_) rfl (by kernel_rfl) (by rfl) (fun _ _ _ h => h) hA hB (fun w1 hw1 => ?_) ?_
 rotate_left 1
 · skip
   go_simp
   try first | with_reducible rfl | apply And.intro <;> rfl
 simp only [xPa, xPb, xPc, xPd, xPe]
 refine till_row (i := 1) rfl (by kernel_rfl) (by rfl) _ _ rfl _ _ rfl _ (fun w1 hw1 => hw1.range (HRC.out) (by simp)) (row_crt.of HLC.out) (fun _ _ _ h => h) hA hB ?_
 simp only [xPa, xPb, xPc, xPd, xPe]
 refine till_run (i := 3) (v := ?_) rfl (by kernel_rfl) (by rfl) (fun _ _ _ h => h) hA hB (fun w1 hw1 => ?_) ?_
 rotate_left 1
 · skip
   go_simp
   try first | with_reducible rfl | apply And.intro <;> rfl
 simp only [xPa, xPb, xPc, xPd, xPe]
 refine till_row (i := 4) rfl (by kernel_rfl) (by rfl) _ _ rfl _ _ rfl _ (fun w1 hw1 => hw1.range (HRP.out) (by simp)) (row_prm.of HLP.out) (fun _ _ _ h => h) hA hB ?_
 simp only [xPa, xPb, xPc, xPd, xPe]
 refine till_run (i := 6) (v := ?_) rfl (by kernel_rfl) (by rfl) (fun _ _ _ h => h) hA hB (fun w1 hw1 => ?_) ?_
 rotate_left 1
 · skip
   go_simp
   try first | with_reducible rfl | apply And.intro <;> rfl
 simp only [xPa, xPb, xPc, xPd, xPe]
 refine till_run (i := 7) (v := ?_) rfl (by kernel_rfl) (by rfl) (fun _ _ _ h => h) hA hB (fun w1 hw1 => ?_) ?_
 rotate_left 1
 · skip
   go_simp
   try first | with_reducible rfl | apply And.intro <;> rfl
 simp only [xPa, xPb, xPc, xPd, xPe]
 refine till_row (i := 8) rfl (by kernel_rfl) (by rfl) _ _ rfl _ _ rfl _ (fun w1 hw1 => hw1.range (HRK.out) (by simp)) (row_bat.of HLK.out) (fun _ _ _ h => h) hA hB ?_
 simp only [xPa, xPb, xPc, xPd, xPe]
 refine till_run (i := 10) (v := ?_) rfl (by kernel_rfl) (by rfl) (fun _ _ _ h => h) hA hB (fun w1 hw1 => ?_) ?_
 rotate_left 1
 · skip
   go_simp
   try first | with_reducible rfl | apply And.intro <;> rfl
 simp only [xPa, xPb, xPc, xPd, xPe]
 refine till_run (i := 11) (v := ?_) rfl (by kernel_rfl) (by rfl) (fun _ _ _ h => h) hA hB (fun w1 hw1 => ?_) ?_
 rotate_left 1
 · skip
   go_simp
   try first | with_reducible rfl | apply And.intro <;> rfl
 simp only [xPa, xPb, xPc, xPd, xPe]
 refine till_row (i := 12) rfl (by kernel_rfl) (by rfl) _ _ rfl _ _ rfl _ (fun w1 hw1 => hw1.range (HRD.out) (by simp)) (row_bat.of HLD.out) (fun _ _ _ h => h) hA hB ?_
 simp only [xPa, xPb, xPc, xPd, xPe]
 refine till_call (i := 2) (f := ?_) (args := ?_) rfl (by kernel_rfl) (by rfl) ?_ ?_
 rotate_left 2
 · go_simp
   try first | with_reducible rfl | apply And.intro <;> rfl
 refine (hcc wd (HX.out.ce.l.keep' (HF0.out.and HFD.out (by simp)) (by simp) (fun _ _ h => h)) HX.out.ce.n HX.out.ce.d).mono ?_
 clear hcc
 rintro e w1 ⟨A1, d1, rfl, hN⟩
 have hm5 : (x.ce.l.take 5).length ≤ 5 := List.length_take_le _ _
 have hok : ∀ S0 : List Nat, (∀ q ∈ S0, q < wa.heap.size) → (⟨x.ce.k, A1, (x.ce.l.take 5).length, d1, x.ce.l.take 5⟩ : Wce).Ok w1 S0 := fun S0 h0 => ⟨HX.out.ce.k, Lst.of_own (ok := fun (_ : World) (v : Wst) => v.Ok) hN.1 rfl (fun u hu => HX.out.ce.l.2.1 u (List.mem_of_mem_take hu)), hm5, fun hp a ha hin => by
  have ha : A1 = some a := ha
  have h1 := hN.2.2 a.block (by rw [ha]; simp [bk])
  have h2 := h0 _ hin
  have h3 := HFD.out.size
  omega⟩
 have hcl : x.ce.k.cells ++ [Value.slice A1 (x.ce.l.take 5).length d1] = (⟨x.ce.k, A1, (x.ce.l.take 5).length, d1, x.ce.l.take 5⟩ : Wce).cells := rfl
 rw [hcl]
 have hck : (⟨x.ce.k, A1, (x.ce.l.take 5).length, d1, x.ce.l.take 5⟩ : Wce).k.h.length = 32 := HL.out.ce
 generalize (⟨x.ce.k, A1, (x.ce.l.take 5).length, d1, x.ce.l.take 5⟩ : Wce) = c at *
 have HCK := Lib.hid hck
 have hf1 := hN.2.1
 have HC := Lib.hid hok
 have HF1 := Lib.hid hf1
 refine ⟨_, rfl, ⟨hA.go hf1 (by simp), hB.and hf1 (by simp)⟩, fun hB => ?_⟩
 replace hA := hA.go hf1 (by simp)
 clear hN hm5 hok hcl hf1 hck
 simp only [xPa, xPb, xPc, xPd, xPe]
 refine till_run (i := 14) (v := ?_) rfl (by kernel_rfl) (by rfl) (fun _ _ _ h => h) hA hB (fun w1 hw1 => ?_) ?_
 rotate_left 1
 · skip
   go_simp
   try first | with_reducible rfl | apply And.intro <;> rfl
 simp only [xPa, xPb, xPc, xPd, xPe]
 refine till_call (i := 5) (f := ?_) (args := ?_) rfl (by kernel_rfl) (by rfl) ?_ ?_
 rotate_left 2
 · go_simp
   try first | with_reducible rfl | apply And.intro <;> rfl
 refine (hpc w1 HX.out.pr.r HX.out.pr.e HX.out.pr.t HX.out.pr.b HX.out.pr.m (HX.out.pr.l.keep' ((HF0.out.and HFD.out (by simp)).and HF1.out (by simp)) (by simp) (fun _ _ h => h.keep ((HF0.out.and HFD.out (by simp)).and HF1.out (by simp)))) HX.out.pr.n).mono ?_
 clear hpc
 rintro e w2 ⟨A2, d2, ys, rfl, hok, -, hf2⟩
 generalize hq : (⟨x.pr.r, x.pr.e, x.pr.t, A2, (x.pr.l.take 3).length, d2, ys, x.pr.b, x.pr.m⟩ : Wpr) = q at *
 clear hq
 have HQ : Hid (∀ S0 : List Nat, (∀ q ∈ S0, q < wa.heap.size) → q.Ok w2 S0) := Lib.hid (fun S0 h0 => hok S0 (fun k hk => Nat.lt_of_lt_of_le (h0 k hk) (HFD.out.and HF1.out (by simp)).size))
 have HF2 := Lib.hid hf2
 have HC : Hid (∀ S0 : List Nat, (∀ q ∈ S0, q < wa.heap.size) → c.Ok w2 S0) := Lib.hid (fun S0 h0 => (HC.out S0 h0).keep (hf2.mono (by simp)) (fun k hk _ => hk))
 refine ⟨_, rfl, ⟨hA.go hf2 (by simp), hB.and hf2 (by simp)⟩, fun hB => ?_⟩
 replace hA := hA.go hf2 (by simp)
 clear hok hf2
 simp only [xPa, xPb, xPc, xPd, xPe]
 have HFX : Hid (Fr [] wa w2) := Lib.hid ((HFD.out.and HF1.out (by simp)).and HF2.out (by simp))
 clear HF1 HF2 HFD
 refine till_call (i := 9) (f := ?_) (args := ?_) rfl (by kernel_rfl) (by rfl) ?_ ?_
 rotate_left 2
 · go_simp
   try first | with_reducible rfl | apply And.intro <;> rfl
 refine (batchCut_any x.po.k w2 (HX.out.po.k.keep (HF0.out.and HFX.out (by simp))) KL HKL.out).mono ?_
 rintro e w3 ⟨y1, rfl, hyk, hf3⟩
 have HY1 : Hid (∀ S0 : List Nat, (∀ q ∈ S0, q < wa.heap.size) → y1.Ok w3 S0) := Lib.hid (fun S0 h0 => hyk S0 (fun k hk => Nat.lt_of_lt_of_le (h0 k hk) HFX.out.size))
 have HC : Hid (∀ S0 : List Nat, (∀ q ∈ S0, q < wa.heap.size) → c.Ok w3 S0) := Lib.hid (fun S0 h0 => (HC.out S0 h0).keep (hf3.mono (by simp)) (fun k hk _ => hk))
 have HQ : Hid (∀ S0 : List Nat, (∀ q ∈ S0, q < wa.heap.size) → q.Ok w3 S0) := Lib.hid (fun S0 h0 => (HQ.out S0 h0).keep (hf3.mono (by simp)) (fun k hk _ => hk))
 have HFX : Hid (Fr [] wa w3) := Lib.hid (HFX.out.and hf3 (by simp))
 refine ⟨_, rfl, ⟨hA.go hf3 (by simp), hB.and hf3 (by simp)⟩, fun hB => ?_⟩
 replace hA := hA.go hf3 (by simp)
 clear hyk hf3
 unfold Wba.val
 simp only [xPa, xPb, xPc, xPd, xPe]
 refine till_call (i := 13) (f := ?_) (args := ?_) rfl (by kernel_rfl) (by rfl) ?_ ?_
 rotate_left 2
 · go_simp
   try first | with_reducible rfl | apply And.intro <;> rfl
 refine (batchCut_any x.de.k w3 (HX.out.de.k.keep (HF0.out.and HFX.out (by simp))) DL HDL.out).mono ?_
 rintro e w4 ⟨y2, rfl, hyk, hf4⟩
 have HY2 : Hid (∀ S0 : List Nat, (∀ q ∈ S0, q < wa.heap.size) → y2.Ok w4 S0) := Lib.hid (fun S0 h0 => hyk S0 (fun k hk => Nat.lt_of_lt_of_le (h0 k hk) HFX.out.size))
 have HY1 : Hid (∀ S0 : List Nat, (∀ q ∈ S0, q < wa.heap.size) → y1.Ok w4 S0) := Lib.hid (fun S0 h0 => (HY1.out S0 h0).keep (hf4.mono (by simp)) (fun k hk _ => hk))
 have HC : Hid (∀ S0 : List Nat, (∀ q ∈ S0, q < wa.heap.size) → c.Ok w4 S0) := Lib.hid (fun S0 h0 => (HC.out S0 h0).keep (hf4.mono (by simp)) (fun k hk _ => hk))
 have HQ : Hid (∀ S0 : List Nat, (∀ q ∈ S0, q < wa.heap.size) → q.Ok w4 S0) := Lib.hid (fun S0 h0 => (HQ.out S0 h0).keep (hf4.mono (by simp)) (fun k hk _ => hk))
 have HFX : Hid (Fr [] wa w4) := Lib.hid (HFX.out.and hf4 (by simp))
 refine ⟨_, rfl, ⟨hA.go hf4 (by simp), hB.and hf4 (by simp)⟩, fun hB => ?_⟩
 replace hA := hA.go hf4 (by simp)
 clear hyk hf4
 unfold Wba.val
 simp only [xPa, xPb, xPc, xPd, xPe]
 have HB0 := Lib.hid (HB0.out.keep HFX.out (by simp))
 have HB1 := Lib.hid (HB1.out.keep HFX.out (by simp))
 clear HRC HRP HRK HRD HLC HLP HLK HLD HKL HDL
 have hA4 : Fr [w.heap.size] w4 w4 := Fr.refl _ _
 have HS4 := Lib.hid hA4
 clear hA4
 have HLe : Hid (∀ z : Wmg, z.Len → z.cells.length = 295) := Lib.hid (fun z hz => Wmg.lenz hz)
 refine till_step (i := 15) rfl (by kernel_rfl) (by kernel_rfl) (by rfl) (fun K hK => ?_)
 refine wp_store_mid 35 _ _ rfl w.heap.size 78 c.cells.toArray rfl rfl (Blk.thereM HB0.out 78 _ (by rw [List.size_toArray, List.size_toArray, HLe.out _ HL.out, Wce.len HCK.out]; decide)) (by rw [List.size_toArray, Wce.len HCK.out]; kernel_rfl) (all_oneCell_toArray (Wce.one _)) ?_
 refine hK.out _ _ (Fr.setCells (fun _ => by simp) c.cells 78 _ hA) (fun hA => ?_)
 clear hK K
 have HBa : Hid (Blk (w4.setCells w.heap.size 78 c.cells) w.heap.size 61 ({x with ce := c} : Wmg).cells.toArray) := Lib.hid (Wmg.blk_ce HL.out c (Wce.len HCK.out) HB0.out)
 have HLa : Hid (Wmg.Len {x with ce := c}) := Lib.hid ⟨HL.out.cm, HL.out.st, HCK.out, HL.out.ak, HL.out.vt, HL.out.en, HL.out.op⟩
 have HS4 : Hid (Fr [w.heap.size] w4 (w4.setCells w.heap.size 78 c.cells)) := Lib.hid (Fr.setCells (fun _ => by simp) c.cells 78 _ HS4.out)
 generalize w4.setCells w.heap.size 78 c.cells = u1 at *
 simp only [xPa, xPb, xPc, xPd, xPe]
 refine till_step (i := 16) rfl (by kernel_rfl) (by kernel_rfl) (by rfl) (fun K hK => ?_)
 refine wp_run (v := ?_) (w' := ?_) ?_ ?_
 rotate_left 2
 · go_simp
   try first | with_reducible rfl | apply And.intro <;> rfl
 refine hK.out _ _ hA (fun hA => ?_)
 clear hK K
 simp only [xPa, xPb, xPc, xPd, xPe]
 refine till_step (i := 17) rfl (by kernel_rfl) (by kernel_rfl) (by rfl) (fun K hK => ?_)
 refine wp_store_mid 40 _ _ rfl w.heap.size 157 q.cells.toArray rfl rfl (Blk.thereM HBa.out 157 _ (by rw [List.size_toArray, List.size_toArray, HLe.out _ HLa.out, Wpr.len q]; decide)) (by kernel_rfl) (all_oneCell_toArray (Wpr.one _)) ?_
 refine hK.out _ _ (Fr.setCells (fun _ => by simp) q.cells 157 _ hA) (fun hA => ?_)
 clear hK K
 have HBb : Hid (Blk (u1.setCells w.heap.size 157 q.cells) w.heap.size 61 ({x with ce := c, pr := q} : Wmg).cells.toArray) := Lib.hid (Wmg.blk_pr HLa.out q (Wpr.len q) HBa.out)
 have HLb : Hid (Wmg.Len {x with ce := c, pr := q}) := Lib.hid ⟨HL.out.cm, HL.out.st, HCK.out, HL.out.ak, HL.out.vt, HL.out.en, HL.out.op⟩
 have HS4 : Hid (Fr [w.heap.size] w4 (u1.setCells w.heap.size 157 q.cells)) := Lib.hid (Fr.setCells (fun _ => by simp) q.cells 157 _ HS4.out)
 generalize u1.setCells w.heap.size 157 q.cells = u2 at *
 simp only [xPa, xPb, xPc, xPd, xPe]
 refine till_step (i := 18) rfl (by kernel_rfl) (by kernel_rfl) (by rfl) (fun K hK => ?_)
 refine wp_run (v := ?_) (w' := ?_) ?_ ?_
 rotate_left 2
 · go_simp
   try first | with_reducible rfl | apply And.intro <;> rfl
 refine hK.out _ _ hA (fun hA => ?_)
 clear hK K
 simp only [xPa, xPb, xPc, xPd, xPe]
 refine till_step (i := 19) rfl (by kernel_rfl) (by kernel_rfl) (by rfl) (fun K hK => ?_)
 refine wp_run (v := ?_) (w' := ?_) ?_ ?_
 rotate_left 2
 · go_simp
   try first | with_reducible rfl | apply And.intro <;> rfl
 refine hK.out _ _ hA (fun hA => ?_)
 clear hK K
 simp only [xPa, xPb, xPc, xPd, xPe]
 refine till_step (i := 20) rfl (by kernel_rfl) (by kernel_rfl) (by rfl) (fun K hK => ?_)
 refine wp_store_mid 45 _ _ rfl w.heap.size 167 y1.cells.toArray rfl rfl (Blk.thereM HBb.out 167 _ (by rw [List.size_toArray, List.size_toArray, HLe.out _ HLb.out, show y1.cells.length = 5 from rfl]; decide)) (by kernel_rfl) (all_oneCell_toArray (Wba.one _)) ?_
 refine hK.out _ _ (Fr.setCells (fun _ => by simp) y1.cells 167 _ hA) (fun hA => ?_)
 clear hK K
 have HBc : Hid (Blk (u2.setCells w.heap.size 167 y1.cells) w.heap.size 61 ({x with ce := c, pr := q, po := {x.po with k := y1}} : Wmg).cells.toArray) := Lib.hid (Wmg.blk_pok HLb.out y1 HBb.out)
 have HLc : Hid (Wmg.Len {x with ce := c, pr := q, po := {x.po with k := y1}}) := Lib.hid ⟨HL.out.cm, HL.out.st, HCK.out, HL.out.ak, HL.out.vt, HL.out.en, HL.out.op⟩
 have HS4 : Hid (Fr [w.heap.size] w4 (u2.setCells w.heap.size 167 y1.cells)) := Lib.hid (Fr.setCells (fun _ => by simp) y1.cells 167 _ HS4.out)
 generalize u2.setCells w.heap.size 167 y1.cells = u3 at *
 simp only [xPa, xPb, xPc, xPd, xPe]
 refine till_step (i := 21) rfl (by kernel_rfl) (by kernel_rfl) (by rfl) (fun K hK => ?_)
 refine wp_run (v := ?_) (w' := ?_) ?_ ?_
 rotate_left 2
 · go_simp
   try first | with_reducible rfl | apply And.intro <;> rfl
 refine hK.out _ _ hA (fun hA => ?_)
 clear hK K
 simp only [xPa, xPb, xPc, xPd, xPe]
 refine till_step (i := 22) rfl (by kernel_rfl) (by kernel_rfl) (by rfl) (fun K hK => ?_)
 refine wp_run (v := ?_) (w' := ?_) ?_ ?_
 rotate_left 2
 · go_simp
   try first | with_reducible rfl | apply And.intro <;> rfl
 refine hK.out _ _ hA (fun hA => ?_)
 clear hK K
 simp only [xPa, xPb, xPc, xPd, xPe]
 refine till_step (i := 23) rfl (by kernel_rfl) (by kernel_rfl) (by rfl) (fun K hK => ?_)
 refine wp_store_mid 45 _ _ rfl w.heap.size 289 y2.cells.toArray rfl rfl (Blk.thereM HBc.out 289 _ (by rw [List.size_toArray, List.size_toArray, HLe.out _ HLc.out, show y2.cells.length = 5 from rfl]; decide)) (by kernel_rfl) (all_oneCell_toArray (Wba.one _)) ?_
 refine hK.out _ _ (Fr.setCells (fun _ => by simp) y2.cells 289 _ hA) (fun hA => ?_)
 clear hK K
 have HBd : Hid (Blk (u3.setCells w.heap.size 289 y2.cells) w.heap.size 61 ({x with ce := c, pr := q, po := {x.po with k := y1}, de := {x.de with k := y2}} : Wmg).cells.toArray) := Lib.hid (Wmg.blk_dek HLc.out y2 HBc.out)
 have HLd : Hid (Wmg.Len {x with ce := c, pr := q, po := {x.po with k := y1}, de := {x.de with k := y2}}) := Lib.hid ⟨HL.out.cm, HL.out.st, HCK.out, HL.out.ak, HL.out.vt, HL.out.en, HL.out.op⟩
 have HS4 : Hid (Fr [w.heap.size] w4 (u3.setCells w.heap.size 289 y2.cells)) := Lib.hid (Fr.setCells (fun _ => by simp) y2.cells 289 _ HS4.out)
 generalize u3.setCells w.heap.size 289 y2.cells = u4 at *
 simp only [xPa, xPb, xPc, xPd, xPe]
 refine till_done (by kernel_rfl) ?_ _
 have HF4 : Hid (Fr [] w w4) := Lib.hid (HF0.out.and HFX.out (by simp))
 have HB1 := Lib.hid (HB1.out.keep HS4.out (by simp))
 have hop := (Wmg.at_len HBd.out.range HLd.out).op
 have ho1 : u4.cell? ⟨w.heap.size, 249, none⟩ = some (.slice x.op.A x.op.n x.op.d) := by have h := hop 1 _ rfl; simpa using h
 clear hop
 have HSI : Hid ((Tryz.prog.info? 52).map (·.size) = some 1) := Lib.hid (by kernel_rfl)
 have HSV : Hid ((Tryz.prog.info? 57).map (·.size) = some 1) := Lib.hid (by kernel_rfl)
 have HSS : Hid ((Tryz.prog.info? 9).map (·.size) = some 1) := Lib.hid (by kernel_rfl)
 have HSN : Hid ((Tryz.prog.info? 3).map (·.size) = some 1) := Lib.hid (by kernel_rfl)
 have HLT : Hid (∀ y : Wmg, y.Len → ∀ k < 295, k < y.cells.toArray.size) := Lib.hid (fun y hy k hk => by rw [List.size_toArray, Wmg.lenz hy]; exact hk)
 go_wp2_with fail
 have HF04 : Hid (Fr [] w u4) := Lib.hid (HF4.out.go HS4.out (by simp))
 refine (cut_any x.op.A x.op.n x.op.d 260 x.op.p u4 (HX.out.op.p.keep HF04.out (by simp)) HX.out.op.n HX.out.op.d (by omega)).mono ?_
 rintro e_ w5 ⟨A5, c5, rfl, hn5⟩
 have h260 : (x.op.p.take 260).length ≤ 260 := List.length_take_le _ _
 obtain ⟨p5, hp5⟩ : ∃ p5, p5 = x.op.p.take 260 := ⟨_, rfl⟩
 rw [← hp5] at hn5 h260 ⊢
 clear hp5 ho1
 have HN5 := Lib.hid hn5
 have H260 := Lib.hid h260
 have HBd := Lib.hid (HBd.out.keep hn5.2.1 (by simp))
 have HB1 := Lib.hid (HB1.out.keep hn5.2.1 (by simp))
 have HS5 : Hid (Fr [w.heap.size] w4 w5) := Lib.hid (HS4.out.trans (hn5.2.1.mono (by simp)) (fun k hk _ => hk))
 clear hn5 h260
 have HBe := Lib.hid (Wmg.blk_opp HLd.out A5 p5.length c5 p5 HBd.out)
 have HLe5 : Hid (Wmg.Len {x with ce := c, pr := q, po := {x.po with k := y1}, de := {x.de with k := y2}, op := {x.op with A := A5, n := p5.length, d := c5, p := p5}}) := Lib.hid ⟨HL.out.cm, HL.out.st, HCK.out, HL.out.ak, HL.out.vt, HL.out.en, HL.out.op⟩
 go_upto_region 3 with (refine wpList_store_at rfl 52 _ _ rfl w.heap.size 249 (.slice A5 p5.length c5) rfl rfl rfl 61 _ HBd.out (HLT.out _ HLd.out 249 (by omega)) HSI.out ?_)
 change Code.wp _ _ _ _ (w5.setCells w.heap.size 249 [.slice A5 p5.length c5])
 have HBe : Hid (Blk (w5.setCells w.heap.size 249 [.slice A5 p5.length c5]) w.heap.size 61 ({x with ce := c, pr := q, po := {x.po with k := y1}, de := {x.de with k := y2}, op := {x.op with A := A5, n := p5.length, d := c5, p := p5}} : Wmg).cells.toArray) := Lib.hid HBe.out
 have HFS : Hid (Fr [w.heap.size] w5 (w5.setCells w.heap.size 249 [.slice A5 p5.length c5])) := Lib.hid (Fr.setCells (fun _ => by simp) _ 249 _ (Fr.refl _ _))
 generalize w5.setCells w.heap.size 249 [.slice A5 p5.length c5] = u5 at *
 have HB1 := Lib.hid (HB1.out.keep HFS.out (by simp))
 have HS5 : Hid (Fr [w.heap.size] w4 u5) := Lib.hid (HS5.out.trans HFS.out (fun k hk _ => hk))
 have HF05 : Hid (Fr [] w u5) := Lib.hid (HF4.out.go HS5.out (by simp))
 have hde := (Wmg.at_len HBe.out.range HLe5.out).de
 have ho2 : u5.cell? ⟨w.heap.size, 294, none⟩ = some (.slice x.de.A x.de.n x.de.d) := by have h := ra_tail (k := 5) (ra_tail (k := 2) hde rfl) rfl 0 _ rfl; simpa using h
 clear hde
 go_wp2_with fail
 refine (cutVotes_any x.de.A x.de.n x.de.d 5 x.de.l u5 (HX.out.de.l.keep' HF05.out (by simp) (fun _ _ h => h)) HX.out.de.n HX.out.de.d (by omega)).mono ?_
 rintro e_ w6 ⟨A6, c6, rfl, hn6⟩
 have h5 : (x.de.l.take 5).length ≤ 5 := List.length_take_le _ _
 have hv5 : ∀ v ∈ x.de.l.take 5, (Wvt.cells v).length = 38 ∧ v.Ok := fun v hv => HX.out.de.l.2.1 v (List.mem_of_mem_take hv)
 obtain ⟨l6, hl6⟩ : ∃ l6, l6 = x.de.l.take 5 := ⟨_, rfl⟩
 rw [← hl6] at hn6 h5 hv5 ⊢
 clear hl6 ho2
 have HN6 := Lib.hid hn6
 have H5 := Lib.hid h5
 have HV5 := Lib.hid hv5
 have HBe := Lib.hid (HBe.out.keep hn6.2.1 (by simp))
 have HB1 := Lib.hid (HB1.out.keep hn6.2.1 (by simp))
 have HS6 : Hid (Fr [w.heap.size] w4 w6) := Lib.hid (HS5.out.trans (hn6.2.1.mono (by simp)) (fun k hk _ => hk))
 clear hn6 h5 hv5
 have HBf := Lib.hid (Wmg.blk_dev HLe5.out A6 l6.length c6 l6 HBe.out)
 have HLe6 : Hid (Wmg.Len {x with ce := c, pr := q, po := {x.po with k := y1}, de := {x.de with k := y2, A := A6, n := l6.length, d := c6, l := l6}, op := {x.op with A := A5, n := p5.length, d := c5, p := p5}}) := Lib.hid ⟨HL.out.cm, HL.out.st, HCK.out, HL.out.ak, HL.out.vt, HL.out.en, HL.out.op⟩
 go_upto_region 4 with (refine wpList_store_at rfl 57 _ _ rfl w.heap.size 294 (.slice A6 l6.length c6) rfl rfl rfl 61 _ HBe.out (HLT.out _ HLe5.out 294 (by omega)) HSV.out ?_)
 change Code.wp _ _ _ _ (w6.setCells w.heap.size 294 [.slice A6 l6.length c6])
 have HBf : Hid (Blk (w6.setCells w.heap.size 294 [.slice A6 l6.length c6]) w.heap.size 61 ({x with ce := c, pr := q, po := {x.po with k := y1}, de := {x.de with k := y2, A := A6, n := l6.length, d := c6, l := l6}, op := {x.op with A := A5, n := p5.length, d := c5, p := p5}} : Wmg).cells.toArray) := Lib.hid HBf.out
 have HFS6 : Hid (Fr [w.heap.size] w6 (w6.setCells w.heap.size 294 [.slice A6 l6.length c6])) := Lib.hid (Fr.setCells (fun _ => by simp) _ 294 _ (Fr.refl _ _))
 generalize w6.setCells w.heap.size 294 [.slice A6 l6.length c6] = u6 at *
 have HB1 := Lib.hid (HB1.out.keep HFS6.out (by simp))
 have HS6 : Hid (Fr [w.heap.size] w4 u6) := Lib.hid (HS6.out.trans HFS6.out (fun k hk _ => hk))
 have hrp : u6.cell? ⟨w.heap.size, 286, none⟩ = some (.string ⟨x.rp.toArray⟩) := by have h := (Wmg.at_len HBf.out.range HLe6.out).rp 0 _ rfl; simpa using h
 have hpv : u6.cell? ⟨w.heap.size, 165, none⟩ = some (.int .i64 x.po.v) := by have h := (Wmg.at_len HBf.out.range HLe6.out).po 2 _ rfl; simpa using h
 have HT5 : Hid (Fr [w.heap.size] w5 u6) := Lib.hid ((HFS.out.trans (HN6.out.2.1.mono (by simp)) (fun k hk _ => hk)).trans HFS6.out (fun k hk _ => hk))
 have HU6 : Hid (Fr [w.heap.size] w6 u6) := Lib.hid HFS6.out
 have HG5 : Hid (w.heap.size + 2 ≤ u5.heap.size) := Lib.hid (by have h1 := HSZ.out; have h2 := HFX.out.size; have h3 := (HS4.out.trans (HN5.out.2.1.mono (by simp)) (fun k hk _ => hk)).size; have h4 := HFS.out.size; omega)
 clear hpv
 by_cases hrl : 260 < x.rp.length
 case pos =>
  have hd : decide ((260 : Int) < (x.rp.length : Int)) = true := by simp; omega
  have HRPE : Hid (({data := x.rp.toArray} : ByteArray).extract 0 260 = ⟨(x.rp.take 260).toArray⟩) := Lib.hid (by apply ByteArray.ext; simp [ByteArray.data_extract])
  have HBg := Lib.hid (Wmg.blk_rp HLe6.out (x.rp.take 260) HBf.out)
  go_upto_region 6 with (refine wpList_store_at rfl 9 _ _ rfl w.heap.size 286 (.string ⟨(x.rp.take 260).toArray⟩) rfl (by rw [← HRPE.out]; rfl) rfl 61 _ HBf.out (HLT.out _ HLe6.out 286 (by omega)) HSS.out ?_)
  change Code.wp _ _ _ _ (u6.setCells w.heap.size 286 [.string ⟨(x.rp.take 260).toArray⟩])
  have HFg : Hid (Fr [w.heap.size] u6 (u6.setCells w.heap.size 286 [.string ⟨(x.rp.take 260).toArray⟩])) := Lib.hid (Fr.setCells (fun _ => by simp) _ 286 _ (Fr.refl _ _))
  have HBg : Hid (Blk (u6.setCells w.heap.size 286 [.string ⟨(x.rp.take 260).toArray⟩]) w.heap.size 61 ({x with ce := c, pr := q, po := {x.po with k := y1}, de := {x.de with k := y2, A := A6, n := l6.length, d := c6, l := l6}, op := {x.op with A := A5, n := p5.length, d := c5, p := p5}, rp := x.rp.take 260} : Wmg).cells.toArray) := Lib.hid HBg.out
  have HLg : Hid (Wmg.Len {x with ce := c, pr := q, po := {x.po with k := y1}, de := {x.de with k := y2, A := A6, n := l6.length, d := c6, l := l6}, op := {x.op with A := A5, n := p5.length, d := c5, p := p5}, rp := x.rp.take 260}) := Lib.hid ⟨HL.out.cm, HL.out.st, HCK.out, HL.out.ak, HL.out.vt, HL.out.en, HL.out.op⟩
  generalize u6.setCells w.heap.size 286 [.string ⟨(x.rp.take 260).toArray⟩] = u7 at *
  have HB1 := Lib.hid (HB1.out.keep HFg.out (by simp))
  have HS7 : Hid (Fr [w.heap.size] w4 u7) := Lib.hid (HS6.out.trans HFg.out (fun k hk _ => hk))
  have HT5r : Hid (Fr [w.heap.size] w5 u7) := Lib.hid (HT5.out.trans HFg.out (fun k hk _ => hk))
  have HU6r : Hid (Fr [w.heap.size] w6 u7) := Lib.hid (HU6.out.trans HFg.out (fun k hk _ => hk))
  clear hrp hd
  have hpv : u7.cell? ⟨w.heap.size, 165, none⟩ = some (.int .i64 x.po.v) := by have h := (Wmg.at_len HBg.out.range HLg.out).po 2 _ rfl; simpa using h
  by_cases hv : x.po.v = 9223372036854775807
  case pos =>
   have hve : (x.po.v == 9223372036854775807) = true := by simp [hv]
   have HBp := Lib.hid (Wmg.blk_pov HLg.out 0 HBg.out)
   go_upto_region 8 with (refine wpList_store_at rfl 3 _ _ rfl w.heap.size 165 (.int .i64 0) rfl rfl rfl 61 _ HBg.out (HLT.out _ HLg.out 165 (by omega)) HSN.out ?_)
   change Code.wp _ _ _ _ (u7.setCells w.heap.size 165 [.int .i64 0])
   have HFp : Hid (Fr [w.heap.size] u7 (u7.setCells w.heap.size 165 [.int .i64 0])) := Lib.hid (Fr.setCells (fun _ => by simp) _ 165 _ (Fr.refl _ _))
   have HBp : Hid (Blk (u7.setCells w.heap.size 165 [.int .i64 0]) w.heap.size 61 ({x with ce := c, pr := q, po := {x.po with k := y1, v := 0}, de := {x.de with k := y2, A := A6, n := l6.length, d := c6, l := l6}, op := {x.op with A := A5, n := p5.length, d := c5, p := p5}, rp := x.rp.take 260} : Wmg).cells.toArray) := Lib.hid HBp.out
   generalize u7.setCells w.heap.size 165 [.int .i64 0] = up at *
   have HB1 := Lib.hid (HB1.out.keep HFp.out (by simp))
   have HSp : Hid (Fr [w.heap.size] w4 up) := Lib.hid (HS7.out.trans HFp.out (fun k hk _ => hk))
   have HT5rp : Hid (Fr [w.heap.size] w5 up) := Lib.hid (HT5r.out.trans HFp.out (fun k hk _ => hk))
   have HU6rp : Hid (Fr [w.heap.size] w6 up) := Lib.hid (HU6r.out.trans HFp.out (fun k hk _ => hk))
   clear hpv hve hv
   have HLz : Hid (Wmg.Len {x with ce := c, pr := q, po := {x.po with k := y1, v := 0}, de := {x.de with k := y2, A := A6, n := l6.length, d := c6, l := l6}, op := {x.op with A := A5, n := p5.length, d := c5, p := p5}, rp := x.rp.take 260}) := Lib.hid ⟨HL.out.cm, HL.out.st, HCK.out, HL.out.ak, HL.out.vt, HL.out.en, HL.out.op⟩
   obtain ⟨E, hE⟩ : ∃ E, E = ({x with ce := c, pr := q, po := {x.po with k := y1, v := 0}, de := {x.de with k := y2, A := A6, n := l6.length, d := c6, l := l6}, op := {x.op with A := A5, n := p5.length, d := c5, p := p5}, rp := x.rp.take 260} : Wmg).cells := ⟨_, rfl⟩
   have HEL : Hid (E.length = 295) := Lib.hid (by rw [hE]; exact Wmg.lenz HLz.out)
   have HEO : Hid (E.toArray.all (·.oneCell') = true) := Lib.hid (by rw [hE]; exact all_oneCell_toArray (Wmg.one _))
   have HES : Hid ((Tryz.prog.info? 61).map (·.size) = some E.toArray.size) := Lib.hid (by rw [List.size_toArray, HEL.out]; kernel_rfl)
   have HEM : Hid (mz00.size = E.toArray.size) := Lib.hid (by unfold mz00; rw [List.size_toArray, List.size_toArray, HEL.out, Wmg.lenz (mz_len _ _ _)])
   have HER : Hid (up.rangeAt w.heap.size 0 E) := Lib.hid (by rw [hE]; exact HBp.out.range)
   have HB9 := Lib.hid HB1.out
   go_wp2_with (first | (refine wpList_load_mid rfl 61 _ rfl w.heap.size 0 rfl E _ HER.out Tryz.underlying61 rfl (row_msg.of HEL.out).2 ?_) | (refine wpList_store_blk rfl 61 _ _ rfl (w.heap.size + 1) E.toArray rfl rfl 61 mz00 HB9.out HES.out HEM.out HEO.out ?_; intro w9 hb9 hf9))
   refine bodyPost_ret (v := .agg E.toArray) (results_cell_row Tryz.results6 _ _ (w.heap.size + 1) 61 E.toArray _ _ rfl hb9 Tryz.underlying61 rfl HES.out) rfl ?_
   have HS9 : Fr [w.heap.size, w.heap.size + 1] w4 w9 := (HSp.out.mono (by intro k hk _; simp at hk; simp [hk])).trans hf9 (fun k hk _ => by simp at hk; simp [hk])
   have HT9 : Fr [w.heap.size, w.heap.size + 1] w5 w9 := (HT5rp.out.mono (by intro k hk _; simp at hk; simp [hk])).trans hf9 (fun k hk _ => by simp at hk; simp [hk])
   have HU9 : Fr [w.heap.size, w.heap.size + 1] w6 w9 := (HU6rp.out.mono (by intro k hk _; simp at hk; simp [hk])).trans hf9 (fun k hk _ => by simp at hk; simp [hk])
   refine ⟨{x with ce := c, pr := q, po := {x.po with k := y1, v := 0}, de := {x.de with k := y2, A := A6, n := l6.length, d := c6, l := l6}, op := {x.op with A := A5, n := p5.length, d := c5, p := p5}, rp := x.rp.take 260}, by rw [hE], (by first | exact HVB.out | (show (0 : Int) < 9223372036854775807; decide)), fun S0 h0 => ?_, HF4.out.go HS9 (by simp)⟩
   have hall : ∀ k ∈ w.heap.size :: (w.heap.size + 1) :: S0, k < wa.heap.size := by
    intro k hk
    have h1 := HSZ.out
    rcases List.mem_cons.1 hk with rfl | hk
    · omega
    · rcases List.mem_cons.1 hk with rfl | hk
      · omega
      · have := h0 k hk; omega
   have hm : Fr (w.heap.size :: (w.heap.size + 1) :: S0) w4 w9 := HS9.mono (by intro k hk _; simp at hk; rcases hk with rfl | rfl <;> simp)
   have hin : ∀ k ∈ S0, k < w4.heap.size → k ∈ w.heap.size :: (w.heap.size + 1) :: S0 := fun k hk _ => by simp [hk]
   have hn5 : ∀ k ∈ bk A5, w.heap.size + 2 ≤ k := fun k hk => by have h1 := HN5.out.2.2 k hk; have h2 := HFX.out.size; have h3 := HSZ.out; have h4 := HS4.out.size; omega
   have hn6 : ∀ k ∈ bk A6, w.heap.size + 2 ≤ k := fun k hk => by have h1 := HN6.out.2.2 k hk; have h2 := HG5.out; omega
   exact ⟨HX.out.q, HX.out.f, HX.out.t, HX.out.cm, HX.out.st, (HC.out _ hall).keep hm hin, HX.out.ak, HX.out.e, HX.out.r, HX.out.tm, (HQ.out _ hall).keep hm hin,
    ⟨HX.out.po.e, HX.out.po.r, (show i64In 0 from zero_in), HX.out.po.p, (HY1.out _ hall).keep hm hin, HX.out.po.b, HX.out.po.m⟩, HX.out.vt, HX.out.i, HX.out.en,
    ⟨HX.out.op.i, HN5.out.by.keep HT9 (fun ad ha hm => by have := hn5 ad.block (by rw [ha]; simp [bk]); simp at hm; omega), H260.out, fun k hk hm => by have h1 := hn5 k hk; have h2 := h0 k hm; omega, fun k hk => Nat.lt_of_lt_of_le (HN5.out.lt k hk) HT9.size, HX.out.op.h, HN5.out.cap⟩, HX.out.dn, (by rw [List.length_take]; omega),
    ⟨HX.out.de.e, HX.out.de.r, (HY2.out _ hall).keep hm hin, (Lst.of_own (ok := fun (_ : World) (v : Wvt) => v.Ok) HN6.out.1 rfl (fun u hu => HV5.out u hu)).keep' HU9 (fun hp a ha hm => by have h1 := hn6 a.block (by rw [ha]; simp [bk]); simp at hm; omega) (fun _ _ h => h), H5.out, fun hp a ha hm => by have ha : A6 = some a := ha; have h1 := hn6 a.block (by rw [ha]; simp [bk]); have h2 := h0 _ hm; omega⟩⟩
  case neg =>
   have hve : (x.po.v == 9223372036854775807) = false := by simp [hv]
   go_upto_region 8 with (fail)
   have HVB : Hid (x.po.v < 9223372036854775807) := Lib.hid (by have := HX.out.po.v.2; omega)
   clear hpv hve hv
   have HLz : Hid (Wmg.Len {x with ce := c, pr := q, po := {x.po with k := y1}, de := {x.de with k := y2, A := A6, n := l6.length, d := c6, l := l6}, op := {x.op with A := A5, n := p5.length, d := c5, p := p5}, rp := x.rp.take 260}) := Lib.hid ⟨HL.out.cm, HL.out.st, HCK.out, HL.out.ak, HL.out.vt, HL.out.en, HL.out.op⟩
   obtain ⟨E, hE⟩ : ∃ E, E = ({x with ce := c, pr := q, po := {x.po with k := y1}, de := {x.de with k := y2, A := A6, n := l6.length, d := c6, l := l6}, op := {x.op with A := A5, n := p5.length, d := c5, p := p5}, rp := x.rp.take 260} : Wmg).cells := ⟨_, rfl⟩
   have HEL : Hid (E.length = 295) := Lib.hid (by rw [hE]; exact Wmg.lenz HLz.out)
   have HEO : Hid (E.toArray.all (·.oneCell') = true) := Lib.hid (by rw [hE]; exact all_oneCell_toArray (Wmg.one _))
   have HES : Hid ((Tryz.prog.info? 61).map (·.size) = some E.toArray.size) := Lib.hid (by rw [List.size_toArray, HEL.out]; kernel_rfl)
   have HEM : Hid (mz00.size = E.toArray.size) := Lib.hid (by unfold mz00; rw [List.size_toArray, List.size_toArray, HEL.out, Wmg.lenz (mz_len _ _ _)])
   have HER : Hid (u7.rangeAt w.heap.size 0 E) := Lib.hid (by rw [hE]; exact HBg.out.range)
   have HB9 := Lib.hid HB1.out
   go_wp2_with (first | (refine wpList_load_mid rfl 61 _ rfl w.heap.size 0 rfl E _ HER.out Tryz.underlying61 rfl (row_msg.of HEL.out).2 ?_) | (refine wpList_store_blk rfl 61 _ _ rfl (w.heap.size + 1) E.toArray rfl rfl 61 mz00 HB9.out HES.out HEM.out HEO.out ?_; intro w9 hb9 hf9))
   refine bodyPost_ret (v := .agg E.toArray) (results_cell_row Tryz.results6 _ _ (w.heap.size + 1) 61 E.toArray _ _ rfl hb9 Tryz.underlying61 rfl HES.out) rfl ?_
   have HS9 : Fr [w.heap.size, w.heap.size + 1] w4 w9 := (HS7.out.mono (by intro k hk _; simp at hk; simp [hk])).trans hf9 (fun k hk _ => by simp at hk; simp [hk])
   have HT9 : Fr [w.heap.size, w.heap.size + 1] w5 w9 := (HT5r.out.mono (by intro k hk _; simp at hk; simp [hk])).trans hf9 (fun k hk _ => by simp at hk; simp [hk])
   have HU9 : Fr [w.heap.size, w.heap.size + 1] w6 w9 := (HU6r.out.mono (by intro k hk _; simp at hk; simp [hk])).trans hf9 (fun k hk _ => by simp at hk; simp [hk])
   refine ⟨{x with ce := c, pr := q, po := {x.po with k := y1}, de := {x.de with k := y2, A := A6, n := l6.length, d := c6, l := l6}, op := {x.op with A := A5, n := p5.length, d := c5, p := p5}, rp := x.rp.take 260}, by rw [hE], (by first | exact HVB.out | (show (0 : Int) < 9223372036854775807; decide)), fun S0 h0 => ?_, HF4.out.go HS9 (by simp)⟩
   have hall : ∀ k ∈ w.heap.size :: (w.heap.size + 1) :: S0, k < wa.heap.size := by
    intro k hk
    have h1 := HSZ.out
    rcases List.mem_cons.1 hk with rfl | hk
    · omega
    · rcases List.mem_cons.1 hk with rfl | hk
      · omega
      · have := h0 k hk; omega
   have hm : Fr (w.heap.size :: (w.heap.size + 1) :: S0) w4 w9 := HS9.mono (by intro k hk _; simp at hk; rcases hk with rfl | rfl <;> simp)
   have hin : ∀ k ∈ S0, k < w4.heap.size → k ∈ w.heap.size :: (w.heap.size + 1) :: S0 := fun k hk _ => by simp [hk]
   have hn5 : ∀ k ∈ bk A5, w.heap.size + 2 ≤ k := fun k hk => by have h1 := HN5.out.2.2 k hk; have h2 := HFX.out.size; have h3 := HSZ.out; have h4 := HS4.out.size; omega
   have hn6 : ∀ k ∈ bk A6, w.heap.size + 2 ≤ k := fun k hk => by have h1 := HN6.out.2.2 k hk; have h2 := HG5.out; omega
   exact ⟨HX.out.q, HX.out.f, HX.out.t, HX.out.cm, HX.out.st, (HC.out _ hall).keep hm hin, HX.out.ak, HX.out.e, HX.out.r, HX.out.tm, (HQ.out _ hall).keep hm hin,
    ⟨HX.out.po.e, HX.out.po.r, HX.out.po.v, HX.out.po.p, (HY1.out _ hall).keep hm hin, HX.out.po.b, HX.out.po.m⟩, HX.out.vt, HX.out.i, HX.out.en,
    ⟨HX.out.op.i, HN5.out.by.keep HT9 (fun ad ha hm => by have := hn5 ad.block (by rw [ha]; simp [bk]); simp at hm; omega), H260.out, fun k hk hm => by have h1 := hn5 k hk; have h2 := h0 k hm; omega, fun k hk => Nat.lt_of_lt_of_le (HN5.out.lt k hk) HT9.size, HX.out.op.h, HN5.out.cap⟩, HX.out.dn, (by rw [List.length_take]; omega),
    ⟨HX.out.de.e, HX.out.de.r, (HY2.out _ hall).keep hm hin, (Lst.of_own (ok := fun (_ : World) (v : Wvt) => v.Ok) HN6.out.1 rfl (fun u hu => HV5.out u hu)).keep' HU9 (fun hp a ha hm => by have h1 := hn6 a.block (by rw [ha]; simp [bk]); simp at hm; omega) (fun _ _ h => h), H5.out, fun hp a ha hm => by have ha : A6 = some a := ha; have h1 := hn6 a.block (by rw [ha]; simp [bk]); have h2 := h0 _ hm; omega⟩⟩
 case neg =>
  have HRL : Hid (x.rp.length ≤ 260) := Lib.hid (by omega)
  have hd : decide ((260 : Int) < (x.rp.length : Int)) = false := by simp; omega
  go_upto_region 6 with (fail)
  clear hrp hd
  have hpv : u6.cell? ⟨w.heap.size, 165, none⟩ = some (.int .i64 x.po.v) := by have h := (Wmg.at_len HBf.out.range HLe6.out).po 2 _ rfl; simpa using h
  by_cases hv : x.po.v = 9223372036854775807
  case pos =>
   have hve : (x.po.v == 9223372036854775807) = true := by simp [hv]
   have HBp := Lib.hid (Wmg.blk_pov HLe6.out 0 HBf.out)
   go_upto_region 8 with (refine wpList_store_at rfl 3 _ _ rfl w.heap.size 165 (.int .i64 0) rfl rfl rfl 61 _ HBf.out (HLT.out _ HLe6.out 165 (by omega)) HSN.out ?_)
   change Code.wp _ _ _ _ (u6.setCells w.heap.size 165 [.int .i64 0])
   have HFp : Hid (Fr [w.heap.size] u6 (u6.setCells w.heap.size 165 [.int .i64 0])) := Lib.hid (Fr.setCells (fun _ => by simp) _ 165 _ (Fr.refl _ _))
   have HBp : Hid (Blk (u6.setCells w.heap.size 165 [.int .i64 0]) w.heap.size 61 ({x with ce := c, pr := q, po := {x.po with k := y1, v := 0}, de := {x.de with k := y2, A := A6, n := l6.length, d := c6, l := l6}, op := {x.op with A := A5, n := p5.length, d := c5, p := p5}} : Wmg).cells.toArray) := Lib.hid HBp.out
   generalize u6.setCells w.heap.size 165 [.int .i64 0] = up at *
   have HB1 := Lib.hid (HB1.out.keep HFp.out (by simp))
   have HSp : Hid (Fr [w.heap.size] w4 up) := Lib.hid (HS6.out.trans HFp.out (fun k hk _ => hk))
   have HT5p : Hid (Fr [w.heap.size] w5 up) := Lib.hid (HT5.out.trans HFp.out (fun k hk _ => hk))
   have HU6p : Hid (Fr [w.heap.size] w6 up) := Lib.hid (HU6.out.trans HFp.out (fun k hk _ => hk))
   clear hpv hve hv
   have HLz : Hid (Wmg.Len {x with ce := c, pr := q, po := {x.po with k := y1, v := 0}, de := {x.de with k := y2, A := A6, n := l6.length, d := c6, l := l6}, op := {x.op with A := A5, n := p5.length, d := c5, p := p5}}) := Lib.hid ⟨HL.out.cm, HL.out.st, HCK.out, HL.out.ak, HL.out.vt, HL.out.en, HL.out.op⟩
   obtain ⟨E, hE⟩ : ∃ E, E = ({x with ce := c, pr := q, po := {x.po with k := y1, v := 0}, de := {x.de with k := y2, A := A6, n := l6.length, d := c6, l := l6}, op := {x.op with A := A5, n := p5.length, d := c5, p := p5}} : Wmg).cells := ⟨_, rfl⟩
   have HEL : Hid (E.length = 295) := Lib.hid (by rw [hE]; exact Wmg.lenz HLz.out)
   have HEO : Hid (E.toArray.all (·.oneCell') = true) := Lib.hid (by rw [hE]; exact all_oneCell_toArray (Wmg.one _))
   have HES : Hid ((Tryz.prog.info? 61).map (·.size) = some E.toArray.size) := Lib.hid (by rw [List.size_toArray, HEL.out]; kernel_rfl)
   have HEM : Hid (mz00.size = E.toArray.size) := Lib.hid (by unfold mz00; rw [List.size_toArray, List.size_toArray, HEL.out, Wmg.lenz (mz_len _ _ _)])
   have HER : Hid (up.rangeAt w.heap.size 0 E) := Lib.hid (by rw [hE]; exact HBp.out.range)
   have HB9 := Lib.hid HB1.out
   go_wp2_with (first | (refine wpList_load_mid rfl 61 _ rfl w.heap.size 0 rfl E _ HER.out Tryz.underlying61 rfl (row_msg.of HEL.out).2 ?_) | (refine wpList_store_blk rfl 61 _ _ rfl (w.heap.size + 1) E.toArray rfl rfl 61 mz00 HB9.out HES.out HEM.out HEO.out ?_; intro w9 hb9 hf9))
   refine bodyPost_ret (v := .agg E.toArray) (results_cell_row Tryz.results6 _ _ (w.heap.size + 1) 61 E.toArray _ _ rfl hb9 Tryz.underlying61 rfl HES.out) rfl ?_
   have HS9 : Fr [w.heap.size, w.heap.size + 1] w4 w9 := (HSp.out.mono (by intro k hk _; simp at hk; simp [hk])).trans hf9 (fun k hk _ => by simp at hk; simp [hk])
   have HT9 : Fr [w.heap.size, w.heap.size + 1] w5 w9 := (HT5p.out.mono (by intro k hk _; simp at hk; simp [hk])).trans hf9 (fun k hk _ => by simp at hk; simp [hk])
   have HU9 : Fr [w.heap.size, w.heap.size + 1] w6 w9 := (HU6p.out.mono (by intro k hk _; simp at hk; simp [hk])).trans hf9 (fun k hk _ => by simp at hk; simp [hk])
   refine ⟨{x with ce := c, pr := q, po := {x.po with k := y1, v := 0}, de := {x.de with k := y2, A := A6, n := l6.length, d := c6, l := l6}, op := {x.op with A := A5, n := p5.length, d := c5, p := p5}}, by rw [hE], (by first | exact HVB.out | (show (0 : Int) < 9223372036854775807; decide)), fun S0 h0 => ?_, HF4.out.go HS9 (by simp)⟩
   have hall : ∀ k ∈ w.heap.size :: (w.heap.size + 1) :: S0, k < wa.heap.size := by
    intro k hk
    have h1 := HSZ.out
    rcases List.mem_cons.1 hk with rfl | hk
    · omega
    · rcases List.mem_cons.1 hk with rfl | hk
      · omega
      · have := h0 k hk; omega
   have hm : Fr (w.heap.size :: (w.heap.size + 1) :: S0) w4 w9 := HS9.mono (by intro k hk _; simp at hk; rcases hk with rfl | rfl <;> simp)
   have hin : ∀ k ∈ S0, k < w4.heap.size → k ∈ w.heap.size :: (w.heap.size + 1) :: S0 := fun k hk _ => by simp [hk]
   have hn5 : ∀ k ∈ bk A5, w.heap.size + 2 ≤ k := fun k hk => by have h1 := HN5.out.2.2 k hk; have h2 := HFX.out.size; have h3 := HSZ.out; have h4 := HS4.out.size; omega
   have hn6 : ∀ k ∈ bk A6, w.heap.size + 2 ≤ k := fun k hk => by have h1 := HN6.out.2.2 k hk; have h2 := HG5.out; omega
   exact ⟨HX.out.q, HX.out.f, HX.out.t, HX.out.cm, HX.out.st, (HC.out _ hall).keep hm hin, HX.out.ak, HX.out.e, HX.out.r, HX.out.tm, (HQ.out _ hall).keep hm hin,
    ⟨HX.out.po.e, HX.out.po.r, (show i64In 0 from zero_in), HX.out.po.p, (HY1.out _ hall).keep hm hin, HX.out.po.b, HX.out.po.m⟩, HX.out.vt, HX.out.i, HX.out.en,
    ⟨HX.out.op.i, HN5.out.by.keep HT9 (fun ad ha hm => by have := hn5 ad.block (by rw [ha]; simp [bk]); simp at hm; omega), H260.out, fun k hk hm => by have h1 := hn5 k hk; have h2 := h0 k hm; omega, fun k hk => Nat.lt_of_lt_of_le (HN5.out.lt k hk) HT9.size, HX.out.op.h, HN5.out.cap⟩, HX.out.dn, HRL.out,
    ⟨HX.out.de.e, HX.out.de.r, (HY2.out _ hall).keep hm hin, (Lst.of_own (ok := fun (_ : World) (v : Wvt) => v.Ok) HN6.out.1 rfl (fun u hu => HV5.out u hu)).keep' HU9 (fun hp a ha hm => by have h1 := hn6 a.block (by rw [ha]; simp [bk]); simp at hm; omega) (fun _ _ h => h), H5.out, fun hp a ha hm => by have ha : A6 = some a := ha; have h1 := hn6 a.block (by rw [ha]; simp [bk]); have h2 := h0 _ hm; omega⟩⟩
  case neg =>
   have hve : (x.po.v == 9223372036854775807) = false := by simp [hv]
   go_upto_region 8 with (fail)
   have HVB : Hid (x.po.v < 9223372036854775807) := Lib.hid (by have := HX.out.po.v.2; omega)
   clear hpv hve hv
   have HLz : Hid (Wmg.Len {x with ce := c, pr := q, po := {x.po with k := y1}, de := {x.de with k := y2, A := A6, n := l6.length, d := c6, l := l6}, op := {x.op with A := A5, n := p5.length, d := c5, p := p5}}) := Lib.hid ⟨HL.out.cm, HL.out.st, HCK.out, HL.out.ak, HL.out.vt, HL.out.en, HL.out.op⟩
   obtain ⟨E, hE⟩ : ∃ E, E = ({x with ce := c, pr := q, po := {x.po with k := y1}, de := {x.de with k := y2, A := A6, n := l6.length, d := c6, l := l6}, op := {x.op with A := A5, n := p5.length, d := c5, p := p5}} : Wmg).cells := ⟨_, rfl⟩
   have HEL : Hid (E.length = 295) := Lib.hid (by rw [hE]; exact Wmg.lenz HLz.out)
   have HEO : Hid (E.toArray.all (·.oneCell') = true) := Lib.hid (by rw [hE]; exact all_oneCell_toArray (Wmg.one _))
   have HES : Hid ((Tryz.prog.info? 61).map (·.size) = some E.toArray.size) := Lib.hid (by rw [List.size_toArray, HEL.out]; kernel_rfl)
   have HEM : Hid (mz00.size = E.toArray.size) := Lib.hid (by unfold mz00; rw [List.size_toArray, List.size_toArray, HEL.out, Wmg.lenz (mz_len _ _ _)])
   have HER : Hid (u6.rangeAt w.heap.size 0 E) := Lib.hid (by rw [hE]; exact HBf.out.range)
   have HB9 := Lib.hid HB1.out
   go_wp2_with (first | (refine wpList_load_mid rfl 61 _ rfl w.heap.size 0 rfl E _ HER.out Tryz.underlying61 rfl (row_msg.of HEL.out).2 ?_) | (refine wpList_store_blk rfl 61 _ _ rfl (w.heap.size + 1) E.toArray rfl rfl 61 mz00 HB9.out HES.out HEM.out HEO.out ?_; intro w9 hb9 hf9))
   refine bodyPost_ret (v := .agg E.toArray) (results_cell_row Tryz.results6 _ _ (w.heap.size + 1) 61 E.toArray _ _ rfl hb9 Tryz.underlying61 rfl HES.out) rfl ?_
   have HS9 : Fr [w.heap.size, w.heap.size + 1] w4 w9 := (HS6.out.mono (by intro k hk _; simp at hk; simp [hk])).trans hf9 (fun k hk _ => by simp at hk; simp [hk])
   have HT9 : Fr [w.heap.size, w.heap.size + 1] w5 w9 := (HT5.out.mono (by intro k hk _; simp at hk; simp [hk])).trans hf9 (fun k hk _ => by simp at hk; simp [hk])
   have HU9 : Fr [w.heap.size, w.heap.size + 1] w6 w9 := (HU6.out.mono (by intro k hk _; simp at hk; simp [hk])).trans hf9 (fun k hk _ => by simp at hk; simp [hk])
   refine ⟨{x with ce := c, pr := q, po := {x.po with k := y1}, de := {x.de with k := y2, A := A6, n := l6.length, d := c6, l := l6}, op := {x.op with A := A5, n := p5.length, d := c5, p := p5}}, by rw [hE], (by first | exact HVB.out | (show (0 : Int) < 9223372036854775807; decide)), fun S0 h0 => ?_, HF4.out.go HS9 (by simp)⟩
   have hall : ∀ k ∈ w.heap.size :: (w.heap.size + 1) :: S0, k < wa.heap.size := by
    intro k hk
    have h1 := HSZ.out
    rcases List.mem_cons.1 hk with rfl | hk
    · omega
    · rcases List.mem_cons.1 hk with rfl | hk
      · omega
      · have := h0 k hk; omega
   have hm : Fr (w.heap.size :: (w.heap.size + 1) :: S0) w4 w9 := HS9.mono (by intro k hk _; simp at hk; rcases hk with rfl | rfl <;> simp)
   have hin : ∀ k ∈ S0, k < w4.heap.size → k ∈ w.heap.size :: (w.heap.size + 1) :: S0 := fun k hk _ => by simp [hk]
   have hn5 : ∀ k ∈ bk A5, w.heap.size + 2 ≤ k := fun k hk => by have h1 := HN5.out.2.2 k hk; have h2 := HFX.out.size; have h3 := HSZ.out; have h4 := HS4.out.size; omega
   have hn6 : ∀ k ∈ bk A6, w.heap.size + 2 ≤ k := fun k hk => by have h1 := HN6.out.2.2 k hk; have h2 := HG5.out; omega
   exact ⟨HX.out.q, HX.out.f, HX.out.t, HX.out.cm, HX.out.st, (HC.out _ hall).keep hm hin, HX.out.ak, HX.out.e, HX.out.r, HX.out.tm, (HQ.out _ hall).keep hm hin,
    ⟨HX.out.po.e, HX.out.po.r, HX.out.po.v, HX.out.po.p, (HY1.out _ hall).keep hm hin, HX.out.po.b, HX.out.po.m⟩, HX.out.vt, HX.out.i, HX.out.en,
    ⟨HX.out.op.i, HN5.out.by.keep HT9 (fun ad ha hm => by have := hn5 ad.block (by rw [ha]; simp [bk]); simp at hm; omega), H260.out, fun k hk hm => by have h1 := hn5 k hk; have h2 := h0 k hm; omega, fun k hk => Nat.lt_of_lt_of_le (HN5.out.lt k hk) HT9.size, HX.out.op.h, HN5.out.cap⟩, HX.out.dn, HRL.out,
    ⟨HX.out.de.e, HX.out.de.r, (HY2.out _ hall).keep hm hin, (Lst.of_own (ok := fun (_ : World) (v : Wvt) => v.Ok) HN6.out.1 rfl (fun u hu => HV5.out u hu)).keep' HU9 (fun hp a ha hm => by have h1 := hn6 a.block (by rw [ha]; simp [bk]); simp at hm; omega) (fun _ _ h => h), H5.out, fun hp a ha hm => by have ha : A6 = some a := ha; have h1 := hn6 a.block (by rw [ha]; simp [bk]); have h2 := h0 _ hm; omega⟩⟩
end Go.Proofs.YtpcnedpheplofaaGreat

namespace Go.Proofs.YtpcnedpheplofaaGreat
open Go.RowKit
set_option maxRecDepth 100000
end Go.Proofs.YtpcnedpheplofaaGreat

namespace Go.Proofs.YtpcnedpheplofaaGreat
open Go.RowKit
set_option maxRecDepth 100000
def zeroOp : Array Value := (opnCells 0 none 0 0 (List.replicate 32 0)).toArray
end Go.Proofs.YtpcnedpheplofaaGreat

namespace Go.Proofs.YtpcnedpheplofaaGreat
open Go.RowKit
set_option maxRecDepth 100000
theorem part_row (ty : TypeId) (n off : Nat) (xs ys zs : List Value) (h : RowTy Tryz.prog ty n) (hx : xs.length = off) (hy : ys.length = n) (w : World) : (part ty (xs ++ (ys ++ zs)).toArray off).run Tryz.prog w = .ok (.agg ys.toArray) w := by
 obtain ⟨h1, h2⟩ := h
 cases hu : Tryz.prog.underlying ty with
 | none => rw [hu] at h1; cases h1
 | some d =>
   rw [hu] at h1
   cases hi : Tryz.prog.info? ty with
   | none => rw [hi] at h2; cases h2
   | some i =>
     have hs : i.size = n := by simpa [hi] using h2
     have hagg : (isAgg ty).run Tryz.prog w = .ok true w := by
      unfold isAgg
      rw [Sem.run_bind, run_underlying hu w]
      cases d <;> simp_all
     unfold part
     simp [hagg, sizeOf, typeInfo, hi, hs]
     subst hx
     subst hy
     simp
theorem hash_selfd (xs : List UInt8) (hx : xs.length = 32) (d : Nat) (w : World) :
  (Op.equalIn (d + 2) 25 (.agg (xs.map by8).toArray) (.agg (xs.map by8).toArray)).run Tryz.prog w = .ok true w := by
 have h := run_equalIn_bytes (P := Tryz.prog) w d 25 5 32 Tryz.underlying25 Tryz.underlying5 u8_size1 xs xs hx hx
 rw [show (xs == xs) = true by simp] at h
 exact h
theorem int_selfd (z : Int) (d : Nat) (w : World) : (Op.equalIn (d + 1) 3 (.int .i64 z) (.int .i64 z)).run Tryz.prog w = .ok true w := by
 have h := run_equalIn_int (P := Tryz.prog) w d 3 .i64 .i64 z z Tryz.underlying3
 rw [show (z == z) = true by simp] at h
 exact h
theorem stood (t : TypeId) (h : Tryz.prog.stoodInHeld t = false) : Tryz.prog.stoodInHeld t = false := h
set_option maxHeartbeats 1000000 in
theorem name_selfd (a b : Int) (d : Nat) (w : World) : (Op.equalIn (d + 2) 23 (.agg #[.int .i64 a, .int .i64 b]) (.agg #[.int .i64 a, .int .i64 b])).run Tryz.prog w = .ok true w := by
 have h1 := int_selfd a d w
 have h2 := int_selfd b d w
 rw [run_equalIn_struct w (d + 1) 23 _ _ (by kernel_rfl) (by kernel_rfl)]
 go_simp
theorem sig_selfd (a b : Int) (d : Nat) (w : World) : (Op.equalIn (d + 2) 27 (.agg #[.int .i64 a, .int .i64 b]) (.agg #[.int .i64 a, .int .i64 b])).run Tryz.prog w = .ok true w := by
 have h1 := int_selfd a d w
 have h2 := int_selfd b d w
 rw [run_equalIn_struct w (d + 1) 27 _ _ (by kernel_rfl) (by kernel_rfl)]
 go_simp
theorem part_one (off : Nat) (cs : Array Value) (v : Value) (hv : cs[off]? = some v) (w : World) : (part 3 cs off).run Tryz.prog w = .ok v w :=
 run_part_plain w (by kernel_rfl) hv
theorem eqFields_step {P : Program} {d : Nat} {xs : Array Value} {f : Field} {fs : List Field} {v : Value} {w : World} (hn : f.name ≠ "_") (p : (part f.type xs f.offset).run P w = .ok v w) (q : (Op.equalIn d f.type v v).run P w = .ok true w) :
  (Op.eqFields d xs xs (f :: fs)).run P w = (Op.eqFields d xs xs fs).run P w := by
 rw [Op.eqFields, if_pos hn]
 simp only [Sem.run_bind, p, Result.andThen_ok, q]
 simp
theorem commit_self (x : Cm) (hh : x.h.length = 32) (w : World) : (Op.equalIn 10000 29 (.agg x.cells.toArray) (.agg x.cells.toArray)).run Tryz.prog w = .ok true w := by
 have hl : (x.h.map by8).length = 32 := by rw [List.length_map]; exact hh
 have p0 := part_row 23 2 0 [] [.int .i64 x.c, .int .i64 x.s] (x.h.map by8 ++ [.int .i64 x.n, .int .i64 x.b, .int .i64 x.m]) row_name rfl rfl w
 have p1 := part_row 25 32 2 [.int .i64 x.c, .int .i64 x.s] (x.h.map by8) [.int .i64 x.n, .int .i64 x.b, .int .i64 x.m] row_hash rfl hl w
 have p3 := part_row 27 2 35 ([.int .i64 x.c, .int .i64 x.s] ++ x.h.map by8 ++ [.int .i64 x.n]) [.int .i64 x.b, .int .i64 x.m] [] row_sig (by simp [hh]) rfl w
 have e1 : [] ++ ([.int .i64 x.c, .int .i64 x.s] ++ (x.h.map by8 ++ [.int .i64 x.n, .int .i64 x.b, .int .i64 x.m])) = x.cells := rfl
 have e2 : [.int .i64 x.c, .int .i64 x.s] ++ (x.h.map by8 ++ [.int .i64 x.n, .int .i64 x.b, .int .i64 x.m]) = x.cells := rfl
 have e3 : ([.int .i64 x.c, .int .i64 x.s] ++ x.h.map by8 ++ [.int .i64 x.n]) ++ ([.int .i64 x.b, .int .i64 x.m] ++ []) = x.cells := by simp [Cm.cells]
 rw [e1] at p0
 rw [e2] at p1
 rw [e3] at p3
 have h4 : x.cells.toArray[34]? = some (.int .i64 x.n) := by
  rw [List.getElem?_toArray, ← e3, List.getElem?_append_left (by simp [hh]), List.getElem?_append_right (by simp [hh])]; simp [hh]
 have p2 := part_one 34 x.cells.toArray _ h4 w
 have q0 : (Op.equalIn 9999 23 (.agg #[.int .i64 x.c, .int .i64 x.s]) (.agg #[.int .i64 x.c, .int .i64 x.s])).run Tryz.prog w = .ok true w := name_selfd x.c x.s 9997 w
 have q1 : (Op.equalIn 9999 25 (.agg (x.h.map by8).toArray) (.agg (x.h.map by8).toArray)).run Tryz.prog w = .ok true w := hash_selfd x.h hh 9997 w
 have q2 : (Op.equalIn 9999 3 (.int .i64 x.n) (.int .i64 x.n)).run Tryz.prog w = .ok true w := int_selfd x.n 9998 w
 have q3 : (Op.equalIn 9999 27 (.agg #[.int .i64 x.b, .int .i64 x.m]) (.agg #[.int .i64 x.b, .int .i64 x.m])).run Tryz.prog w = .ok true w := sig_selfd x.b x.m 9997 w
 clear e1 e2 e3 h4
 generalize x.cells.toArray = C at *
 rw [run_equalIn_struct w 9999 29 _ _ (by kernel_rfl) (by kernel_rfl)]
 have hfs : (Tryz.prog.fieldsOf 29).toList.map (fun f => (f.type, f.offset, f.name == "_")) = [(23, 0, false), (25, 2, false), (3, 34, false), (27, 35, false)] := by kernel_rfl
 generalize (Tryz.prog.fieldsOf 29).toList = fs at *
 have hl4 : fs.length = 4 := by have := congrArg List.length hfs; simpa using this
 match fs, hl4, hfs with
 | [a, b, c, d], _, hfs =>
   simp only [List.map_cons, List.map_nil, List.cons.injEq, Prod.mk.injEq, beq_eq_false_iff_ne, and_true] at hfs
   obtain ⟨⟨a1, a2, a3⟩, ⟨b1, b2, b3⟩, ⟨c1, c2, c3⟩, ⟨d1, d2, d3⟩⟩ := hfs
   rw [eqFields_step a3 (by rw [a1, a2]; exact p0) (by rw [a1]; exact q0), eqFields_step b3 (by rw [b1, b2]; exact p1) (by rw [b1]; exact q1), eqFields_step c3 (by rw [c1, c2]; exact p2) (by rw [c1]; exact q2), eqFields_step d3 (by rw [d1, d2]; exact p3) (by rw [d1]; exact q3)]
   rfl
end Go.Proofs.YtpcnedpheplofaaGreat
