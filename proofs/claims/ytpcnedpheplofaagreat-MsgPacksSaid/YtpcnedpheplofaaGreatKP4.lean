/- Texts that the proof stands on: msgs.Only, of every kind. (written by gen_mon.py) -/
import Derived.Test.YtpcnedpheplofaaGreatKP3
set_option linter.unusedSimpArgs false
set_option linter.unusedVariables false
set_option maxRecDepth 100000

namespace Go.Proofs.YtpcnedpheplofaaGreat
open Go.RowKit
set_option maxRecDepth 100000
theorem row_stkO : RowTy Tryz.prog 32 38 := ⟨by kernel_rfl, by kernel_rfl⟩
theorem row_akO : RowTy Tryz.prog 37 38 := ⟨by kernel_rfl, by kernel_rfl⟩
theorem row_vtO : RowTy Tryz.prog 49 38 := ⟨by kernel_rfl, by kernel_rfl⟩
theorem row_dnO : RowTy Tryz.prog 56 4 := ⟨by kernel_rfl, by kernel_rfl⟩
def onlyC (c : Cmg) : Cmg :=
 let z : Cmg := (mz c.q c.f c.t).con
 if c.q = 1 then {z with cm := c.cm} else if c.q = 2 then {z with st := c.st} else if c.q = 3 then {z with ce := c.ce} else if c.q = 4 then {z with ak := c.ak} else if c.q = 5 then {z with e := c.e, r := c.r, tm := c.tm}
 else if c.q = 6 then {z with pr := c.pr} else if c.q = 7 then {z with po := c.po} else if c.q = 8 then {z with vt := c.vt} else if c.q = 9 then {z with i := c.i, en := c.en} else if c.q = 10 then {z with op := c.op} else if c.q = 11 then {z with i := c.i}
 else if c.q = 12 then {z with dn := c.dn} else if c.q = 13 then {z with i := c.i, rp := c.rp} else if c.q = 14 then {z with de := c.de} else (mz 0 0 0).con
def OnlyPost (x : Wmg) (w : World) (e : Ending) (w' : World) : Prop := ∃ y : Wmg, e = .returned (.agg y.cells.toArray) ∧ y.con = onlyC x.con ∧ y.Ok w' [] ∧ Fr [] w w'
set_option maxHeartbeats 2000000 in
theorem only_1 (x : Wmg) (hq : x.q = 1) (w : World) (hx : x.Ok w []) (C : List Value) (hC : x.cells = C) :
  Calls Tryz.prog 11 #[.agg C.toArray] w (OnlyPost x w) := by
 obtain ⟨wa, hwa⟩ : ∃ wa, wa = (w.alloc (Obj.cells C.toArray 61)).alloc (Obj.cells mz00 61) := ⟨_, rfl⟩
 have hf0 : Fr [] w wa := by rw [hwa]; exact ((Fr.refl [] w).alloc _).alloc _
 have hb0 : Blk wa w.heap.size 61 x.cells.toArray := by rw [hwa, hC]; exact blk_alloc (Blk.new _ _ _)
 have hb1 : Blk wa (w.heap.size + 1) 61 mz00 := by
  have := Blk.new (w.alloc (Obj.cells C.toArray 61)) 61 mz00
  rw [hwa]
  simpa using this
 have hat : x.At wa w.heap.size := Wmg.at_of hb0.range hx
 have hcq : wa.cell? ⟨w.heap.size, 0, none⟩ = some (.int .i64 x.q) := by have h := hat.q 0 _ rfl; simpa using h
 have hcf : wa.cell? ⟨w.heap.size, 1, none⟩ = some (.int .i64 x.f) := by have h := hat.f 0 _ rfl; simpa using h
 have hct : wa.cell? ⟨w.heap.size, 2, none⟩ = some (.int .i64 x.t) := by have h := hat.t 0 _ rfl; simpa using h
 have HX := Lib.hid hx
 have HB0 := Lib.hid hb0
 have HB1 := Lib.hid hb1
 have HF0 := Lib.hid hf0
 have HWA := Lib.hid hwa
 have HSZ : Hid (wa.heap.size = w.heap.size + 2) := Lib.hid (by rw [hwa]; simp)
 obtain ⟨Z, hZ⟩ : ∃ Z, Z = (mz x.q x.f x.t).cells := ⟨_, rfl⟩
 have HBU : Hid (Tryz.prog.built 61 [(0, .int .i64 x.q), (1, .int .i64 x.f), (2, .int .i64 x.t)] = some Z.toArray) := Lib.hid (by rw [hZ]; exact built_mg3 _ _ _)
 have HZL : Hid ((Tryz.prog.info? 61).map (·.size) = some Z.toArray.size) := Lib.hid (by rw [hZ]; exact msg_size (mz_len _ _ _))
 have HZM : Hid (mz00.size = Z.toArray.size) := Lib.hid (by rw [hZ]; unfold mz00; rw [List.size_toArray, List.size_toArray, Wmg.lenz (mz_len _ _ _), Wmg.lenz (mz_len _ _ _)])
 have HZO : Hid (Z.toArray.all (·.oneCell') = true) := Lib.hid (by rw [hZ]; exact all_oneCell_toArray (Wmg.one _))
 have HZ := Lib.hid hZ
 have HQ := Lib.hid hq
 obtain ⟨q, hqq⟩ : ∃ q, q = x.q := ⟨_, rfl⟩
 obtain ⟨f, hff⟩ : ∃ f, f = x.f := ⟨_, rfl⟩
 obtain ⟨t, htt⟩ : ∃ t, t = x.t := ⟨_, rfl⟩
 rw [← hqq] at hcq
 rw [← hff] at hcf
 rw [← htt] at hct
 rw [← hqq, ← hff, ← htt] at HBU HZ
 have HQE := Lib.hid hqq
 have HFE := Lib.hid hff
 have HTE := Lib.hid htt
 clear hx hC hwa hf0 hb0 hb1 hat hZ hq hqq hff htt
 go_enter Tryz.func11, Tryz.ntmps11
 go_upto_region 1 with (fail)
 change Code.wp _ _ _ _ ((w.alloc (Obj.cells C.toArray 61)).alloc (Obj.cells mz00 61))
 rw [← HWA.out]
 go_upto_region 2 with (first
  | (refine wpList_builtg rfl 61 _ rfl _ _ HBU.out rfl ?_)
  | (refine wpList_store_blk rfl 61 _ _ rfl wa.heap.size Z.toArray rfl rfl 61 mz00 (Blk.new wa _ _) HZL.out HZM.out HZO.out ?_; intro w1 hb2 hf2))
 have HB2 : Hid (Blk w1 wa.heap.size 61 (mz q f t).cells.toArray) := Lib.hid (by rw [← HZ.out]; exact hb2)
 have HF1 : Hid (Fr [] wa w1) := Lib.hid (((Fr.refl [] wa).alloc _).go hf2 (by simp))
 clear hb2 hf2 hcf hct
 have hcq := HF1.out.cell hcq (by simp)
 have HB0 := Lib.hid (HB0.out.keep HF1.out (by simp))
 have HB1 := Lib.hid (HB1.out.keep HF1.out (by simp))
 have HBL1 : Hid (wa.heap.size < w1.heap.size) := Lib.hid HB2.out.lt
 have HAT := Lib.hid (Wmg.at_of HB0.out.range HX.out)
 have HZ0 := Lib.hid (mz_len q f t)
 rw [HQE.out, HQ.out] at hcq
 obtain ⟨V, hV⟩ : ∃ V, V = x.cm.cells := ⟨_, rfl⟩
 have HVL : Hid (V.length = 37) := Lib.hid (by rw [hV]; exact Wcm.len HX.out.cm.h)
 have HVR : Hid (w1.rangeAt w.heap.size 3 V) := Lib.hid (by rw [hV]; exact HAT.out.cm)
 have HV := Lib.hid hV
 clear hV
 have HZX : Hid (Wmg.Len {mz q f t with cm := x.cm}) := Lib.hid ⟨HX.out.cm.h, rfl, rfl, rfl, rfl, rfl, rfl⟩
 have HBX := Lib.hid (Wmg.blk_cm HZ0.out x.cm (by rw [← HV.out]; exact HVL.out) HB2.out)
 rw [← HV.out] at HBX
 have HFS : Hid (Fr [wa.heap.size] w1 (w1.setCells wa.heap.size 3 V)) := Lib.hid (Fr.setCells (fun _ => by simp) _ 3 _ (Fr.refl _ _))
 have HTH : Hid (w1.there wa.heap.size 3 V.toArray.size) := Lib.hid (HB2.out.thereM _ _ (by rw [List.size_toArray, List.size_toArray, HVL.out, Wmg.lenz HZ0.out]; decide))
 have HVS : Hid ((Tryz.prog.info? 29).map (·.size) = some V.toArray.size) := Lib.hid (by rw [List.size_toArray, HVL.out]; kernel_rfl)
 have HVO : Hid (V.toArray.all (·.oneCell') = true) := Lib.hid (by rw [HV.out]; exact all_oneCell_toArray (Wcm.one _))
 have HB9 : Hid (Blk (w1.setCells wa.heap.size 3 V) (w.heap.size + 1) 61 mz00) := Lib.hid (HB1.out.keep HFS.out (by have := HSZ.out; simp; omega))
 obtain ⟨E, hE⟩ : ∃ E, E = ({mz q f t with cm := x.cm} : Wmg).cells := ⟨_, rfl⟩
 have HEL : Hid (E.length = 295) := Lib.hid (by rw [hE]; exact Wmg.lenz HZX.out)
 have HEO : Hid (E.toArray.all (·.oneCell') = true) := Lib.hid (by rw [hE]; exact all_oneCell_toArray (Wmg.one _))
 have HES : Hid ((Tryz.prog.info? 61).map (·.size) = some E.toArray.size) := Lib.hid (by rw [List.size_toArray, HEL.out]; kernel_rfl)
 have HEM : Hid (mz00.size = E.toArray.size) := Lib.hid (by unfold mz00; rw [List.size_toArray, List.size_toArray, HEL.out, Wmg.lenz (mz_len _ _ _)])
 have HER : Hid ((w1.setCells wa.heap.size 3 V).rangeAt wa.heap.size 0 E) := Lib.hid (by rw [hE]; exact HBX.out.range)
 go_wp2_with (first | (refine wpList_load_mid rfl 29 _ rfl w.heap.size 3 rfl V _ HVR.out Tryz.underlying29 rfl (row_cmt.of HVL.out).2 ?_) | (refine wpList_store_mid rfl 29 _ _ rfl wa.heap.size 3 V.toArray rfl rfl HTH.out HVS.out HVO.out ?_) | (refine wpList_load_mid rfl 61 _ rfl wa.heap.size 0 rfl E _ HER.out Tryz.underlying61 rfl (row_msg.of HEL.out).2 ?_) | (refine wpList_store_blk rfl 61 _ _ rfl (w.heap.size + 1) E.toArray rfl rfl 61 mz00 HB9.out HES.out HEM.out HEO.out ?_; intro w9 hb9 hf9))
 refine bodyPost_ret (v := .agg E.toArray) (results_cell_row Tryz.results11 _ _ (w.heap.size + 1) 61 E.toArray _ _ rfl hb9 Tryz.underlying61 rfl HES.out) rfl ?_
 have HS9 : Fr [wa.heap.size, w.heap.size + 1] w1 w9 := (HFS.out.mono (by intro k hk _; simp at hk; simp [hk])).trans hf9 (fun k hk _ => by simp at hk; simp [hk])
 refine ⟨{mz q f t with cm := x.cm}, by rw [hE], ?_, ?_, (HF0.out.and HF1.out (by simp)).go HS9 (by have := HSZ.out; simp; omega)⟩
 · have hqe : x.con.q = 1 := HQ.out
   unfold onlyC
   rw [show x.con.q = x.q from rfl, HQ.out]
   rw [HQE.out, HFE.out, HTE.out, HQ.out]
   rfl
 · have hz := mz_ok w9 [] q f t (by rw [HQE.out]; exact HX.out.q) (by rw [HFE.out]; exact HX.out.f) (by rw [HTE.out]; exact HX.out.t)
   have HW9 : Fr [] w w9 := (HF0.out.and HF1.out (by simp)).go HS9 (by have := HSZ.out; simp; omega)
   exact ⟨hz.q, hz.f, hz.t, HX.out.cm, hz.st, hz.ce, hz.ak, hz.e, hz.r, hz.tm, hz.pr, hz.po, hz.vt, hz.i, hz.en, hz.op, hz.dn, hz.rp, hz.de⟩
set_option maxHeartbeats 2000000 in
theorem only_2 (x : Wmg) (hq : x.q = 2) (w : World) (hx : x.Ok w []) (C : List Value) (hC : x.cells = C) :
  Calls Tryz.prog 11 #[.agg C.toArray] w (OnlyPost x w) := by
 obtain ⟨wa, hwa⟩ : ∃ wa, wa = (w.alloc (Obj.cells C.toArray 61)).alloc (Obj.cells mz00 61) := ⟨_, rfl⟩
 have hf0 : Fr [] w wa := by rw [hwa]; exact ((Fr.refl [] w).alloc _).alloc _
 have hb0 : Blk wa w.heap.size 61 x.cells.toArray := by rw [hwa, hC]; exact blk_alloc (Blk.new _ _ _)
 have hb1 : Blk wa (w.heap.size + 1) 61 mz00 := by
  have := Blk.new (w.alloc (Obj.cells C.toArray 61)) 61 mz00
  rw [hwa]
  simpa using this
 have hat : x.At wa w.heap.size := Wmg.at_of hb0.range hx
 have hcq : wa.cell? ⟨w.heap.size, 0, none⟩ = some (.int .i64 x.q) := by have h := hat.q 0 _ rfl; simpa using h
 have hcf : wa.cell? ⟨w.heap.size, 1, none⟩ = some (.int .i64 x.f) := by have h := hat.f 0 _ rfl; simpa using h
 have hct : wa.cell? ⟨w.heap.size, 2, none⟩ = some (.int .i64 x.t) := by have h := hat.t 0 _ rfl; simpa using h
 have HX := Lib.hid hx
 have HB0 := Lib.hid hb0
 have HB1 := Lib.hid hb1
 have HF0 := Lib.hid hf0
 have HWA := Lib.hid hwa
 have HSZ : Hid (wa.heap.size = w.heap.size + 2) := Lib.hid (by rw [hwa]; simp)
 obtain ⟨Z, hZ⟩ : ∃ Z, Z = (mz x.q x.f x.t).cells := ⟨_, rfl⟩
 have HBU : Hid (Tryz.prog.built 61 [(0, .int .i64 x.q), (1, .int .i64 x.f), (2, .int .i64 x.t)] = some Z.toArray) := Lib.hid (by rw [hZ]; exact built_mg3 _ _ _)
 have HZL : Hid ((Tryz.prog.info? 61).map (·.size) = some Z.toArray.size) := Lib.hid (by rw [hZ]; exact msg_size (mz_len _ _ _))
 have HZM : Hid (mz00.size = Z.toArray.size) := Lib.hid (by rw [hZ]; unfold mz00; rw [List.size_toArray, List.size_toArray, Wmg.lenz (mz_len _ _ _), Wmg.lenz (mz_len _ _ _)])
 have HZO : Hid (Z.toArray.all (·.oneCell') = true) := Lib.hid (by rw [hZ]; exact all_oneCell_toArray (Wmg.one _))
 have HZ := Lib.hid hZ
 have HQ := Lib.hid hq
 obtain ⟨q, hqq⟩ : ∃ q, q = x.q := ⟨_, rfl⟩
 obtain ⟨f, hff⟩ : ∃ f, f = x.f := ⟨_, rfl⟩
 obtain ⟨t, htt⟩ : ∃ t, t = x.t := ⟨_, rfl⟩
 rw [← hqq] at hcq
 rw [← hff] at hcf
 rw [← htt] at hct
 rw [← hqq, ← hff, ← htt] at HBU HZ
 have HQE := Lib.hid hqq
 have HFE := Lib.hid hff
 have HTE := Lib.hid htt
 clear hx hC hwa hf0 hb0 hb1 hat hZ hq hqq hff htt
 go_enter Tryz.func11, Tryz.ntmps11
 go_upto_region 1 with (fail)
 change Code.wp _ _ _ _ ((w.alloc (Obj.cells C.toArray 61)).alloc (Obj.cells mz00 61))
 rw [← HWA.out]
 go_upto_region 2 with (first
  | (refine wpList_builtg rfl 61 _ rfl _ _ HBU.out rfl ?_)
  | (refine wpList_store_blk rfl 61 _ _ rfl wa.heap.size Z.toArray rfl rfl 61 mz00 (Blk.new wa _ _) HZL.out HZM.out HZO.out ?_; intro w1 hb2 hf2))
 have HB2 : Hid (Blk w1 wa.heap.size 61 (mz q f t).cells.toArray) := Lib.hid (by rw [← HZ.out]; exact hb2)
 have HF1 : Hid (Fr [] wa w1) := Lib.hid (((Fr.refl [] wa).alloc _).go hf2 (by simp))
 clear hb2 hf2 hcf hct
 have hcq := HF1.out.cell hcq (by simp)
 have HB0 := Lib.hid (HB0.out.keep HF1.out (by simp))
 have HB1 := Lib.hid (HB1.out.keep HF1.out (by simp))
 have HBL1 : Hid (wa.heap.size < w1.heap.size) := Lib.hid HB2.out.lt
 have HAT := Lib.hid (Wmg.at_of HB0.out.range HX.out)
 have HZ0 := Lib.hid (mz_len q f t)
 rw [HQE.out, HQ.out] at hcq
 obtain ⟨V, hV⟩ : ∃ V, V = x.st.cells := ⟨_, rfl⟩
 have HVL : Hid (V.length = 38) := Lib.hid (by rw [hV]; exact Wst.len HX.out.st.h)
 have HVR : Hid (w1.rangeAt w.heap.size 40 V) := Lib.hid (by rw [hV]; exact HAT.out.st)
 have HV := Lib.hid hV
 clear hV
 have HZX : Hid (Wmg.Len {mz q f t with st := x.st}) := Lib.hid ⟨rfl, HX.out.st.h, rfl, rfl, rfl, rfl, rfl⟩
 have HBX := Lib.hid (Wmg.blk_st HZ0.out x.st (by rw [← HV.out]; exact HVL.out) HB2.out)
 rw [← HV.out] at HBX
 have HFS : Hid (Fr [wa.heap.size] w1 (w1.setCells wa.heap.size 40 V)) := Lib.hid (Fr.setCells (fun _ => by simp) _ 40 _ (Fr.refl _ _))
 have HTH : Hid (w1.there wa.heap.size 40 V.toArray.size) := Lib.hid (HB2.out.thereM _ _ (by rw [List.size_toArray, List.size_toArray, HVL.out, Wmg.lenz HZ0.out]; decide))
 have HVS : Hid ((Tryz.prog.info? 32).map (·.size) = some V.toArray.size) := Lib.hid (by rw [List.size_toArray, HVL.out]; kernel_rfl)
 have HVO : Hid (V.toArray.all (·.oneCell') = true) := Lib.hid (by rw [HV.out]; exact all_oneCell_toArray (Wst.one _))
 have HB9 : Hid (Blk (w1.setCells wa.heap.size 40 V) (w.heap.size + 1) 61 mz00) := Lib.hid (HB1.out.keep HFS.out (by have := HSZ.out; simp; omega))
 obtain ⟨E, hE⟩ : ∃ E, E = ({mz q f t with st := x.st} : Wmg).cells := ⟨_, rfl⟩
 have HEL : Hid (E.length = 295) := Lib.hid (by rw [hE]; exact Wmg.lenz HZX.out)
 have HEO : Hid (E.toArray.all (·.oneCell') = true) := Lib.hid (by rw [hE]; exact all_oneCell_toArray (Wmg.one _))
 have HES : Hid ((Tryz.prog.info? 61).map (·.size) = some E.toArray.size) := Lib.hid (by rw [List.size_toArray, HEL.out]; kernel_rfl)
 have HEM : Hid (mz00.size = E.toArray.size) := Lib.hid (by unfold mz00; rw [List.size_toArray, List.size_toArray, HEL.out, Wmg.lenz (mz_len _ _ _)])
 have HER : Hid ((w1.setCells wa.heap.size 40 V).rangeAt wa.heap.size 0 E) := Lib.hid (by rw [hE]; exact HBX.out.range)
 go_wp2_with (first | (refine wpList_load_mid rfl 32 _ rfl w.heap.size 40 rfl V _ HVR.out Tryz.underlying32 rfl (row_stkO.of HVL.out).2 ?_) | (refine wpList_store_mid rfl 32 _ _ rfl wa.heap.size 40 V.toArray rfl rfl HTH.out HVS.out HVO.out ?_) | (refine wpList_load_mid rfl 61 _ rfl wa.heap.size 0 rfl E _ HER.out Tryz.underlying61 rfl (row_msg.of HEL.out).2 ?_) | (refine wpList_store_blk rfl 61 _ _ rfl (w.heap.size + 1) E.toArray rfl rfl 61 mz00 HB9.out HES.out HEM.out HEO.out ?_; intro w9 hb9 hf9))
 refine bodyPost_ret (v := .agg E.toArray) (results_cell_row Tryz.results11 _ _ (w.heap.size + 1) 61 E.toArray _ _ rfl hb9 Tryz.underlying61 rfl HES.out) rfl ?_
 have HS9 : Fr [wa.heap.size, w.heap.size + 1] w1 w9 := (HFS.out.mono (by intro k hk _; simp at hk; simp [hk])).trans hf9 (fun k hk _ => by simp at hk; simp [hk])
 refine ⟨{mz q f t with st := x.st}, by rw [hE], ?_, ?_, (HF0.out.and HF1.out (by simp)).go HS9 (by have := HSZ.out; simp; omega)⟩
 · have hqe : x.con.q = 2 := HQ.out
   unfold onlyC
   rw [show x.con.q = x.q from rfl, HQ.out]
   rw [HQE.out, HFE.out, HTE.out, HQ.out]
   rfl
 · have hz := mz_ok w9 [] q f t (by rw [HQE.out]; exact HX.out.q) (by rw [HFE.out]; exact HX.out.f) (by rw [HTE.out]; exact HX.out.t)
   have HW9 : Fr [] w w9 := (HF0.out.and HF1.out (by simp)).go HS9 (by have := HSZ.out; simp; omega)
   exact ⟨hz.q, hz.f, hz.t, hz.cm, HX.out.st, hz.ce, hz.ak, hz.e, hz.r, hz.tm, hz.pr, hz.po, hz.vt, hz.i, hz.en, hz.op, hz.dn, hz.rp, hz.de⟩
set_option maxHeartbeats 2000000 in
theorem only_3 (x : Wmg) (hq : x.q = 3) (w : World) (hx : x.Ok w []) (C : List Value) (hC : x.cells = C) :
  Calls Tryz.prog 11 #[.agg C.toArray] w (OnlyPost x w) := by
 obtain ⟨wa, hwa⟩ : ∃ wa, wa = (w.alloc (Obj.cells C.toArray 61)).alloc (Obj.cells mz00 61) := ⟨_, rfl⟩
 have hf0 : Fr [] w wa := by rw [hwa]; exact ((Fr.refl [] w).alloc _).alloc _
 have hb0 : Blk wa w.heap.size 61 x.cells.toArray := by rw [hwa, hC]; exact blk_alloc (Blk.new _ _ _)
 have hb1 : Blk wa (w.heap.size + 1) 61 mz00 := by
  have := Blk.new (w.alloc (Obj.cells C.toArray 61)) 61 mz00
  rw [hwa]
  simpa using this
 have hat : x.At wa w.heap.size := Wmg.at_of hb0.range hx
 have hcq : wa.cell? ⟨w.heap.size, 0, none⟩ = some (.int .i64 x.q) := by have h := hat.q 0 _ rfl; simpa using h
 have hcf : wa.cell? ⟨w.heap.size, 1, none⟩ = some (.int .i64 x.f) := by have h := hat.f 0 _ rfl; simpa using h
 have hct : wa.cell? ⟨w.heap.size, 2, none⟩ = some (.int .i64 x.t) := by have h := hat.t 0 _ rfl; simpa using h
 have HX := Lib.hid hx
 have HB0 := Lib.hid hb0
 have HB1 := Lib.hid hb1
 have HF0 := Lib.hid hf0
 have HWA := Lib.hid hwa
 have HSZ : Hid (wa.heap.size = w.heap.size + 2) := Lib.hid (by rw [hwa]; simp)
 obtain ⟨Z, hZ⟩ : ∃ Z, Z = (mz x.q x.f x.t).cells := ⟨_, rfl⟩
 have HBU : Hid (Tryz.prog.built 61 [(0, .int .i64 x.q), (1, .int .i64 x.f), (2, .int .i64 x.t)] = some Z.toArray) := Lib.hid (by rw [hZ]; exact built_mg3 _ _ _)
 have HZL : Hid ((Tryz.prog.info? 61).map (·.size) = some Z.toArray.size) := Lib.hid (by rw [hZ]; exact msg_size (mz_len _ _ _))
 have HZM : Hid (mz00.size = Z.toArray.size) := Lib.hid (by rw [hZ]; unfold mz00; rw [List.size_toArray, List.size_toArray, Wmg.lenz (mz_len _ _ _), Wmg.lenz (mz_len _ _ _)])
 have HZO : Hid (Z.toArray.all (·.oneCell') = true) := Lib.hid (by rw [hZ]; exact all_oneCell_toArray (Wmg.one _))
 have HZ := Lib.hid hZ
 have HQ := Lib.hid hq
 obtain ⟨q, hqq⟩ : ∃ q, q = x.q := ⟨_, rfl⟩
 obtain ⟨f, hff⟩ : ∃ f, f = x.f := ⟨_, rfl⟩
 obtain ⟨t, htt⟩ : ∃ t, t = x.t := ⟨_, rfl⟩
 rw [← hqq] at hcq
 rw [← hff] at hcf
 rw [← htt] at hct
 rw [← hqq, ← hff, ← htt] at HBU HZ
 have HQE := Lib.hid hqq
 have HFE := Lib.hid hff
 have HTE := Lib.hid htt
 clear hx hC hwa hf0 hb0 hb1 hat hZ hq hqq hff htt
 go_enter Tryz.func11, Tryz.ntmps11
 go_upto_region 1 with (fail)
 change Code.wp _ _ _ _ ((w.alloc (Obj.cells C.toArray 61)).alloc (Obj.cells mz00 61))
 rw [← HWA.out]
 go_upto_region 2 with (first
  | (refine wpList_builtg rfl 61 _ rfl _ _ HBU.out rfl ?_)
  | (refine wpList_store_blk rfl 61 _ _ rfl wa.heap.size Z.toArray rfl rfl 61 mz00 (Blk.new wa _ _) HZL.out HZM.out HZO.out ?_; intro w1 hb2 hf2))
 have HB2 : Hid (Blk w1 wa.heap.size 61 (mz q f t).cells.toArray) := Lib.hid (by rw [← HZ.out]; exact hb2)
 have HF1 : Hid (Fr [] wa w1) := Lib.hid (((Fr.refl [] wa).alloc _).go hf2 (by simp))
 clear hb2 hf2 hcf hct
 have hcq := HF1.out.cell hcq (by simp)
 have HB0 := Lib.hid (HB0.out.keep HF1.out (by simp))
 have HB1 := Lib.hid (HB1.out.keep HF1.out (by simp))
 have HBL1 : Hid (wa.heap.size < w1.heap.size) := Lib.hid HB2.out.lt
 have HAT := Lib.hid (Wmg.at_of HB0.out.range HX.out)
 have HZ0 := Lib.hid (mz_len q f t)
 rw [HQE.out, HQ.out] at hcq
 obtain ⟨V, hV⟩ : ∃ V, V = x.ce.cells := ⟨_, rfl⟩
 have HVL : Hid (V.length = 38) := Lib.hid (by rw [hV]; exact Wce.len HX.out.ce.k.h)
 have HVR : Hid (w1.rangeAt w.heap.size 78 V) := Lib.hid (by rw [hV]; exact HAT.out.ce)
 have HV := Lib.hid hV
 clear hV
 go_wp2_with (refine wpList_load_mid rfl 35 _ rfl w.heap.size 78 rfl V _ HVR.out Tryz.underlying35 rfl (row_crt.of HVL.out).2 ?_)
 have hcp := copyCert_any x.ce w1 (HX.out.ce.keep (HF0.out.and HF1.out (by simp)) (by simp))
 rw [← HV.out] at hcp
 refine hcp.mono ?_
 rintro e_ w2 ⟨y, rfl, hyc, hyok, hf2⟩
 have HYC := Lib.hid hyc
 have HYO := Lib.hid hyok
 have HF2 := Lib.hid hf2
 have HF1 : Hid (Fr [] wa w2) := Lib.hid (HF1.out.and hf2 (by simp))
 have HB2 := Lib.hid (HB2.out.keep hf2 (by simp))
 have HB1 := Lib.hid (HB1.out.keep hf2 (by simp))
 have HSW1 : Hid (wa.heap.size < w1.heap.size) := Lib.hid HBL1.out
 clear hcp hyc hyok hf2
 obtain ⟨U, hU⟩ : ∃ U, U = y.cells := ⟨_, rfl⟩
 have HU := Lib.hid hU
 have HUL : Hid (U.length = 38) := Lib.hid (by rw [hU]; exact Wce.len (HYO.out [] (by simp)).k.h)
 rw [← hU]
 clear hU
 have HZX : Hid (Wmg.Len {mz q f t with ce := y}) := Lib.hid ⟨rfl, rfl, (HYO.out [] (by simp)).k.h, rfl, rfl, rfl, rfl⟩
 have HBX := Lib.hid (Wmg.blk_ce HZ0.out y (by rw [← HU.out]; exact HUL.out) HB2.out)
 rw [← HU.out] at HBX
 have HFS : Hid (Fr [wa.heap.size] w2 (w2.setCells wa.heap.size 78 U)) := Lib.hid (Fr.setCells (fun _ => by simp) _ 78 _ (Fr.refl _ _))
 have HTH : Hid (w2.there wa.heap.size 78 U.toArray.size) := Lib.hid (HB2.out.thereM _ _ (by rw [List.size_toArray, List.size_toArray, HUL.out, Wmg.lenz HZ0.out]; decide))
 have HVS : Hid ((Tryz.prog.info? 35).map (·.size) = some U.toArray.size) := Lib.hid (by rw [List.size_toArray, HUL.out]; kernel_rfl)
 have HVO : Hid (U.toArray.all (·.oneCell') = true) := Lib.hid (by rw [HU.out]; exact all_oneCell_toArray (Wce.one _))
 have HB9 : Hid (Blk (w2.setCells wa.heap.size 78 U) (w.heap.size + 1) 61 mz00) := Lib.hid (HB1.out.keep HFS.out (by have := HSZ.out; simp; omega))
 obtain ⟨E, hE⟩ : ∃ E, E = ({mz q f t with ce := y} : Wmg).cells := ⟨_, rfl⟩
 have HEL : Hid (E.length = 295) := Lib.hid (by rw [hE]; exact Wmg.lenz HZX.out)
 have HEO : Hid (E.toArray.all (·.oneCell') = true) := Lib.hid (by rw [hE]; exact all_oneCell_toArray (Wmg.one _))
 have HES : Hid ((Tryz.prog.info? 61).map (·.size) = some E.toArray.size) := Lib.hid (by rw [List.size_toArray, HEL.out]; kernel_rfl)
 have HEM : Hid (mz00.size = E.toArray.size) := Lib.hid (by unfold mz00; rw [List.size_toArray, List.size_toArray, HEL.out, Wmg.lenz (mz_len _ _ _)])
 have HER : Hid ((w2.setCells wa.heap.size 78 U).rangeAt wa.heap.size 0 E) := Lib.hid (by rw [hE]; exact HBX.out.range)
 go_wp2_with (first | (refine wpList_load_mid rfl 35 _ rfl w.heap.size 78 rfl V _ HVR.out Tryz.underlying35 rfl (row_crt.of HVL.out).2 ?_) | (refine wpList_store_mid rfl 35 _ _ rfl wa.heap.size 78 U.toArray rfl rfl HTH.out HVS.out HVO.out ?_) | (refine wpList_load_mid rfl 61 _ rfl wa.heap.size 0 rfl E _ HER.out Tryz.underlying61 rfl (row_msg.of HEL.out).2 ?_) | (refine wpList_store_blk rfl 61 _ _ rfl (w.heap.size + 1) E.toArray rfl rfl 61 mz00 HB9.out HES.out HEM.out HEO.out ?_; intro w9 hb9 hf9))
 refine bodyPost_ret (v := .agg E.toArray) (results_cell_row Tryz.results11 _ _ (w.heap.size + 1) 61 E.toArray _ _ rfl hb9 Tryz.underlying61 rfl HES.out) rfl ?_
 have HS9 : Fr [wa.heap.size, w.heap.size + 1] w2 w9 := (HFS.out.mono (by intro k hk _; simp at hk; simp [hk])).trans hf9 (fun k hk _ => by simp at hk; simp [hk])
 refine ⟨{mz q f t with ce := y}, by rw [hE], ?_, ?_, (HF0.out.and HF1.out (by simp)).go HS9 (by have := HSZ.out; simp; omega)⟩
 · have hqe : x.con.q = 3 := HQ.out
   unfold onlyC
   rw [show x.con.q = x.q from rfl, HQ.out]
   rw [HQE.out, HFE.out, HTE.out, HQ.out]
   simp only [Wmg.con, HYC.out]; rfl
 · have hz := mz_ok w9 [] q f t (by rw [HQE.out]; exact HX.out.q) (by rw [HFE.out]; exact HX.out.f) (by rw [HTE.out]; exact HX.out.t)
   have HW9 : Fr [] w w9 := (HF0.out.and HF1.out (by simp)).go HS9 (by have := HSZ.out; simp; omega)
   exact ⟨hz.q, hz.f, hz.t, hz.cm, hz.st, ((HYO.out [wa.heap.size, w.heap.size + 1] (by have h1 := HSZ.out; have h2 := HSW1.out; simp; omega)).keep (S' := []) HS9 (by simp)), hz.ak, hz.e, hz.r, hz.tm, hz.pr, hz.po, hz.vt, hz.i, hz.en, hz.op, hz.dn, hz.rp, hz.de⟩
set_option maxHeartbeats 2000000 in
theorem only_4 (x : Wmg) (hq : x.q = 4) (w : World) (hx : x.Ok w []) (C : List Value) (hC : x.cells = C) :
  Calls Tryz.prog 11 #[.agg C.toArray] w (OnlyPost x w) := by
 obtain ⟨wa, hwa⟩ : ∃ wa, wa = (w.alloc (Obj.cells C.toArray 61)).alloc (Obj.cells mz00 61) := ⟨_, rfl⟩
 have hf0 : Fr [] w wa := by rw [hwa]; exact ((Fr.refl [] w).alloc _).alloc _
 have hb0 : Blk wa w.heap.size 61 x.cells.toArray := by rw [hwa, hC]; exact blk_alloc (Blk.new _ _ _)
 have hb1 : Blk wa (w.heap.size + 1) 61 mz00 := by
  have := Blk.new (w.alloc (Obj.cells C.toArray 61)) 61 mz00
  rw [hwa]
  simpa using this
 have hat : x.At wa w.heap.size := Wmg.at_of hb0.range hx
 have hcq : wa.cell? ⟨w.heap.size, 0, none⟩ = some (.int .i64 x.q) := by have h := hat.q 0 _ rfl; simpa using h
 have hcf : wa.cell? ⟨w.heap.size, 1, none⟩ = some (.int .i64 x.f) := by have h := hat.f 0 _ rfl; simpa using h
 have hct : wa.cell? ⟨w.heap.size, 2, none⟩ = some (.int .i64 x.t) := by have h := hat.t 0 _ rfl; simpa using h
 have HX := Lib.hid hx
 have HB0 := Lib.hid hb0
 have HB1 := Lib.hid hb1
 have HF0 := Lib.hid hf0
 have HWA := Lib.hid hwa
 have HSZ : Hid (wa.heap.size = w.heap.size + 2) := Lib.hid (by rw [hwa]; simp)
 obtain ⟨Z, hZ⟩ : ∃ Z, Z = (mz x.q x.f x.t).cells := ⟨_, rfl⟩
 have HBU : Hid (Tryz.prog.built 61 [(0, .int .i64 x.q), (1, .int .i64 x.f), (2, .int .i64 x.t)] = some Z.toArray) := Lib.hid (by rw [hZ]; exact built_mg3 _ _ _)
 have HZL : Hid ((Tryz.prog.info? 61).map (·.size) = some Z.toArray.size) := Lib.hid (by rw [hZ]; exact msg_size (mz_len _ _ _))
 have HZM : Hid (mz00.size = Z.toArray.size) := Lib.hid (by rw [hZ]; unfold mz00; rw [List.size_toArray, List.size_toArray, Wmg.lenz (mz_len _ _ _), Wmg.lenz (mz_len _ _ _)])
 have HZO : Hid (Z.toArray.all (·.oneCell') = true) := Lib.hid (by rw [hZ]; exact all_oneCell_toArray (Wmg.one _))
 have HZ := Lib.hid hZ
 have HQ := Lib.hid hq
 obtain ⟨q, hqq⟩ : ∃ q, q = x.q := ⟨_, rfl⟩
 obtain ⟨f, hff⟩ : ∃ f, f = x.f := ⟨_, rfl⟩
 obtain ⟨t, htt⟩ : ∃ t, t = x.t := ⟨_, rfl⟩
 rw [← hqq] at hcq
 rw [← hff] at hcf
 rw [← htt] at hct
 rw [← hqq, ← hff, ← htt] at HBU HZ
 have HQE := Lib.hid hqq
 have HFE := Lib.hid hff
 have HTE := Lib.hid htt
 clear hx hC hwa hf0 hb0 hb1 hat hZ hq hqq hff htt
 go_enter Tryz.func11, Tryz.ntmps11
 go_upto_region 1 with (fail)
 change Code.wp _ _ _ _ ((w.alloc (Obj.cells C.toArray 61)).alloc (Obj.cells mz00 61))
 rw [← HWA.out]
 go_upto_region 2 with (first
  | (refine wpList_builtg rfl 61 _ rfl _ _ HBU.out rfl ?_)
  | (refine wpList_store_blk rfl 61 _ _ rfl wa.heap.size Z.toArray rfl rfl 61 mz00 (Blk.new wa _ _) HZL.out HZM.out HZO.out ?_; intro w1 hb2 hf2))
 have HB2 : Hid (Blk w1 wa.heap.size 61 (mz q f t).cells.toArray) := Lib.hid (by rw [← HZ.out]; exact hb2)
 have HF1 : Hid (Fr [] wa w1) := Lib.hid (((Fr.refl [] wa).alloc _).go hf2 (by simp))
 clear hb2 hf2 hcf hct
 have hcq := HF1.out.cell hcq (by simp)
 have HB0 := Lib.hid (HB0.out.keep HF1.out (by simp))
 have HB1 := Lib.hid (HB1.out.keep HF1.out (by simp))
 have HBL1 : Hid (wa.heap.size < w1.heap.size) := Lib.hid HB2.out.lt
 have HAT := Lib.hid (Wmg.at_of HB0.out.range HX.out)
 have HZ0 := Lib.hid (mz_len q f t)
 rw [HQE.out, HQ.out] at hcq
 obtain ⟨V, hV⟩ : ∃ V, V = x.ak.cells := ⟨_, rfl⟩
 have HVL : Hid (V.length = 38) := Lib.hid (by rw [hV]; exact Wst.len HX.out.ak.h)
 have HVR : Hid (w1.rangeAt w.heap.size 116 V) := Lib.hid (by rw [hV]; exact HAT.out.ak)
 have HV := Lib.hid hV
 clear hV
 have HZX : Hid (Wmg.Len {mz q f t with ak := x.ak}) := Lib.hid ⟨rfl, rfl, rfl, HX.out.ak.h, rfl, rfl, rfl⟩
 have HBX := Lib.hid (Wmg.blk_ak HZ0.out x.ak (by rw [← HV.out]; exact HVL.out) HB2.out)
 rw [← HV.out] at HBX
 have HFS : Hid (Fr [wa.heap.size] w1 (w1.setCells wa.heap.size 116 V)) := Lib.hid (Fr.setCells (fun _ => by simp) _ 116 _ (Fr.refl _ _))
 have HTH : Hid (w1.there wa.heap.size 116 V.toArray.size) := Lib.hid (HB2.out.thereM _ _ (by rw [List.size_toArray, List.size_toArray, HVL.out, Wmg.lenz HZ0.out]; decide))
 have HVS : Hid ((Tryz.prog.info? 37).map (·.size) = some V.toArray.size) := Lib.hid (by rw [List.size_toArray, HVL.out]; kernel_rfl)
 have HVO : Hid (V.toArray.all (·.oneCell') = true) := Lib.hid (by rw [HV.out]; exact all_oneCell_toArray (Wst.one _))
 have HB9 : Hid (Blk (w1.setCells wa.heap.size 116 V) (w.heap.size + 1) 61 mz00) := Lib.hid (HB1.out.keep HFS.out (by have := HSZ.out; simp; omega))
 obtain ⟨E, hE⟩ : ∃ E, E = ({mz q f t with ak := x.ak} : Wmg).cells := ⟨_, rfl⟩
 have HEL : Hid (E.length = 295) := Lib.hid (by rw [hE]; exact Wmg.lenz HZX.out)
 have HEO : Hid (E.toArray.all (·.oneCell') = true) := Lib.hid (by rw [hE]; exact all_oneCell_toArray (Wmg.one _))
 have HES : Hid ((Tryz.prog.info? 61).map (·.size) = some E.toArray.size) := Lib.hid (by rw [List.size_toArray, HEL.out]; kernel_rfl)
 have HEM : Hid (mz00.size = E.toArray.size) := Lib.hid (by unfold mz00; rw [List.size_toArray, List.size_toArray, HEL.out, Wmg.lenz (mz_len _ _ _)])
 have HER : Hid ((w1.setCells wa.heap.size 116 V).rangeAt wa.heap.size 0 E) := Lib.hid (by rw [hE]; exact HBX.out.range)
 go_wp2_with (first | (refine wpList_load_mid rfl 37 _ rfl w.heap.size 116 rfl V _ HVR.out Tryz.underlying37 rfl (row_akO.of HVL.out).2 ?_) | (refine wpList_store_mid rfl 37 _ _ rfl wa.heap.size 116 V.toArray rfl rfl HTH.out HVS.out HVO.out ?_) | (refine wpList_load_mid rfl 61 _ rfl wa.heap.size 0 rfl E _ HER.out Tryz.underlying61 rfl (row_msg.of HEL.out).2 ?_) | (refine wpList_store_blk rfl 61 _ _ rfl (w.heap.size + 1) E.toArray rfl rfl 61 mz00 HB9.out HES.out HEM.out HEO.out ?_; intro w9 hb9 hf9))
 refine bodyPost_ret (v := .agg E.toArray) (results_cell_row Tryz.results11 _ _ (w.heap.size + 1) 61 E.toArray _ _ rfl hb9 Tryz.underlying61 rfl HES.out) rfl ?_
 have HS9 : Fr [wa.heap.size, w.heap.size + 1] w1 w9 := (HFS.out.mono (by intro k hk _; simp at hk; simp [hk])).trans hf9 (fun k hk _ => by simp at hk; simp [hk])
 refine ⟨{mz q f t with ak := x.ak}, by rw [hE], ?_, ?_, (HF0.out.and HF1.out (by simp)).go HS9 (by have := HSZ.out; simp; omega)⟩
 · have hqe : x.con.q = 4 := HQ.out
   unfold onlyC
   rw [show x.con.q = x.q from rfl, HQ.out]
   rw [HQE.out, HFE.out, HTE.out, HQ.out]
   rfl
 · have hz := mz_ok w9 [] q f t (by rw [HQE.out]; exact HX.out.q) (by rw [HFE.out]; exact HX.out.f) (by rw [HTE.out]; exact HX.out.t)
   have HW9 : Fr [] w w9 := (HF0.out.and HF1.out (by simp)).go HS9 (by have := HSZ.out; simp; omega)
   exact ⟨hz.q, hz.f, hz.t, hz.cm, hz.st, hz.ce, HX.out.ak, hz.e, hz.r, hz.tm, hz.pr, hz.po, hz.vt, hz.i, hz.en, hz.op, hz.dn, hz.rp, hz.de⟩
set_option maxHeartbeats 2000000 in
theorem only_6 (x : Wmg) (hq : x.q = 6) (w : World) (hx : x.Ok w []) (C : List Value) (hC : x.cells = C) :
  Calls Tryz.prog 11 #[.agg C.toArray] w (OnlyPost x w) := by
 obtain ⟨wa, hwa⟩ : ∃ wa, wa = (w.alloc (Obj.cells C.toArray 61)).alloc (Obj.cells mz00 61) := ⟨_, rfl⟩
 have hf0 : Fr [] w wa := by rw [hwa]; exact ((Fr.refl [] w).alloc _).alloc _
 have hb0 : Blk wa w.heap.size 61 x.cells.toArray := by rw [hwa, hC]; exact blk_alloc (Blk.new _ _ _)
 have hb1 : Blk wa (w.heap.size + 1) 61 mz00 := by
  have := Blk.new (w.alloc (Obj.cells C.toArray 61)) 61 mz00
  rw [hwa]
  simpa using this
 have hat : x.At wa w.heap.size := Wmg.at_of hb0.range hx
 have hcq : wa.cell? ⟨w.heap.size, 0, none⟩ = some (.int .i64 x.q) := by have h := hat.q 0 _ rfl; simpa using h
 have hcf : wa.cell? ⟨w.heap.size, 1, none⟩ = some (.int .i64 x.f) := by have h := hat.f 0 _ rfl; simpa using h
 have hct : wa.cell? ⟨w.heap.size, 2, none⟩ = some (.int .i64 x.t) := by have h := hat.t 0 _ rfl; simpa using h
 have HX := Lib.hid hx
 have HB0 := Lib.hid hb0
 have HB1 := Lib.hid hb1
 have HF0 := Lib.hid hf0
 have HWA := Lib.hid hwa
 have HSZ : Hid (wa.heap.size = w.heap.size + 2) := Lib.hid (by rw [hwa]; simp)
 obtain ⟨Z, hZ⟩ : ∃ Z, Z = (mz x.q x.f x.t).cells := ⟨_, rfl⟩
 have HBU : Hid (Tryz.prog.built 61 [(0, .int .i64 x.q), (1, .int .i64 x.f), (2, .int .i64 x.t)] = some Z.toArray) := Lib.hid (by rw [hZ]; exact built_mg3 _ _ _)
 have HZL : Hid ((Tryz.prog.info? 61).map (·.size) = some Z.toArray.size) := Lib.hid (by rw [hZ]; exact msg_size (mz_len _ _ _))
 have HZM : Hid (mz00.size = Z.toArray.size) := Lib.hid (by rw [hZ]; unfold mz00; rw [List.size_toArray, List.size_toArray, Wmg.lenz (mz_len _ _ _), Wmg.lenz (mz_len _ _ _)])
 have HZO : Hid (Z.toArray.all (·.oneCell') = true) := Lib.hid (by rw [hZ]; exact all_oneCell_toArray (Wmg.one _))
 have HZ := Lib.hid hZ
 have HQ := Lib.hid hq
 obtain ⟨q, hqq⟩ : ∃ q, q = x.q := ⟨_, rfl⟩
 obtain ⟨f, hff⟩ : ∃ f, f = x.f := ⟨_, rfl⟩
 obtain ⟨t, htt⟩ : ∃ t, t = x.t := ⟨_, rfl⟩
 rw [← hqq] at hcq
 rw [← hff] at hcf
 rw [← htt] at hct
 rw [← hqq, ← hff, ← htt] at HBU HZ
 have HQE := Lib.hid hqq
 have HFE := Lib.hid hff
 have HTE := Lib.hid htt
 clear hx hC hwa hf0 hb0 hb1 hat hZ hq hqq hff htt
 go_enter Tryz.func11, Tryz.ntmps11
 go_upto_region 1 with (fail)
 change Code.wp _ _ _ _ ((w.alloc (Obj.cells C.toArray 61)).alloc (Obj.cells mz00 61))
 rw [← HWA.out]
 go_upto_region 2 with (first
  | (refine wpList_builtg rfl 61 _ rfl _ _ HBU.out rfl ?_)
  | (refine wpList_store_blk rfl 61 _ _ rfl wa.heap.size Z.toArray rfl rfl 61 mz00 (Blk.new wa _ _) HZL.out HZM.out HZO.out ?_; intro w1 hb2 hf2))
 have HB2 : Hid (Blk w1 wa.heap.size 61 (mz q f t).cells.toArray) := Lib.hid (by rw [← HZ.out]; exact hb2)
 have HF1 : Hid (Fr [] wa w1) := Lib.hid (((Fr.refl [] wa).alloc _).go hf2 (by simp))
 clear hb2 hf2 hcf hct
 have hcq := HF1.out.cell hcq (by simp)
 have HB0 := Lib.hid (HB0.out.keep HF1.out (by simp))
 have HB1 := Lib.hid (HB1.out.keep HF1.out (by simp))
 have HBL1 : Hid (wa.heap.size < w1.heap.size) := Lib.hid HB2.out.lt
 have HAT := Lib.hid (Wmg.at_of HB0.out.range HX.out)
 have HZ0 := Lib.hid (mz_len q f t)
 rw [HQE.out, HQ.out] at hcq
 obtain ⟨V, hV⟩ : ∃ V, V = x.pr.cells := ⟨_, rfl⟩
 have HVL : Hid (V.length = 6) := Lib.hid (by rw [hV]; exact Wpr.len _)
 have HVR : Hid (w1.rangeAt w.heap.size 157 V) := Lib.hid (by rw [hV]; exact HAT.out.pr)
 have HV := Lib.hid hV
 clear hV
 go_wp2_with (refine wpList_load_mid rfl 40 _ rfl w.heap.size 157 rfl V _ HVR.out Tryz.underlying40 rfl (row_prm.of HVL.out).2 ?_)
 have hcp := copyPromise_any x.pr w1 (HX.out.pr.keep (HF0.out.and HF1.out (by simp)) (by simp))
 rw [← HV.out] at hcp
 refine hcp.mono ?_
 rintro e_ w2 ⟨y, rfl, hyc, hyok, hf2⟩
 have HYC := Lib.hid hyc
 have HYO := Lib.hid hyok
 have HF2 := Lib.hid hf2
 have HF1 : Hid (Fr [] wa w2) := Lib.hid (HF1.out.and hf2 (by simp))
 have HB2 := Lib.hid (HB2.out.keep hf2 (by simp))
 have HB1 := Lib.hid (HB1.out.keep hf2 (by simp))
 have HSW1 : Hid (wa.heap.size < w1.heap.size) := Lib.hid HBL1.out
 clear hcp hyc hyok hf2
 obtain ⟨U, hU⟩ : ∃ U, U = y.cells := ⟨_, rfl⟩
 have HU := Lib.hid hU
 have HUL : Hid (U.length = 6) := Lib.hid (by rw [hU]; exact Wpr.len _)
 rw [← hU]
 clear hU
 have HZX : Hid (Wmg.Len {mz q f t with pr := y}) := Lib.hid ⟨rfl, rfl, rfl, rfl, rfl, rfl, rfl⟩
 have HBX := Lib.hid (Wmg.blk_pr HZ0.out y (by rw [← HU.out]; exact HUL.out) HB2.out)
 rw [← HU.out] at HBX
 have HFS : Hid (Fr [wa.heap.size] w2 (w2.setCells wa.heap.size 157 U)) := Lib.hid (Fr.setCells (fun _ => by simp) _ 157 _ (Fr.refl _ _))
 have HTH : Hid (w2.there wa.heap.size 157 U.toArray.size) := Lib.hid (HB2.out.thereM _ _ (by rw [List.size_toArray, List.size_toArray, HUL.out, Wmg.lenz HZ0.out]; decide))
 have HVS : Hid ((Tryz.prog.info? 40).map (·.size) = some U.toArray.size) := Lib.hid (by rw [List.size_toArray, HUL.out]; kernel_rfl)
 have HVO : Hid (U.toArray.all (·.oneCell') = true) := Lib.hid (by rw [HU.out]; exact all_oneCell_toArray (Wpr.one _))
 have HB9 : Hid (Blk (w2.setCells wa.heap.size 157 U) (w.heap.size + 1) 61 mz00) := Lib.hid (HB1.out.keep HFS.out (by have := HSZ.out; simp; omega))
 obtain ⟨E, hE⟩ : ∃ E, E = ({mz q f t with pr := y} : Wmg).cells := ⟨_, rfl⟩
 have HEL : Hid (E.length = 295) := Lib.hid (by rw [hE]; exact Wmg.lenz HZX.out)
 have HEO : Hid (E.toArray.all (·.oneCell') = true) := Lib.hid (by rw [hE]; exact all_oneCell_toArray (Wmg.one _))
 have HES : Hid ((Tryz.prog.info? 61).map (·.size) = some E.toArray.size) := Lib.hid (by rw [List.size_toArray, HEL.out]; kernel_rfl)
 have HEM : Hid (mz00.size = E.toArray.size) := Lib.hid (by unfold mz00; rw [List.size_toArray, List.size_toArray, HEL.out, Wmg.lenz (mz_len _ _ _)])
 have HER : Hid ((w2.setCells wa.heap.size 157 U).rangeAt wa.heap.size 0 E) := Lib.hid (by rw [hE]; exact HBX.out.range)
 go_wp2_with (first | (refine wpList_load_mid rfl 40 _ rfl w.heap.size 157 rfl V _ HVR.out Tryz.underlying40 rfl (row_prm.of HVL.out).2 ?_) | (refine wpList_store_mid rfl 40 _ _ rfl wa.heap.size 157 U.toArray rfl rfl HTH.out HVS.out HVO.out ?_) | (refine wpList_load_mid rfl 61 _ rfl wa.heap.size 0 rfl E _ HER.out Tryz.underlying61 rfl (row_msg.of HEL.out).2 ?_) | (refine wpList_store_blk rfl 61 _ _ rfl (w.heap.size + 1) E.toArray rfl rfl 61 mz00 HB9.out HES.out HEM.out HEO.out ?_; intro w9 hb9 hf9))
 refine bodyPost_ret (v := .agg E.toArray) (results_cell_row Tryz.results11 _ _ (w.heap.size + 1) 61 E.toArray _ _ rfl hb9 Tryz.underlying61 rfl HES.out) rfl ?_
 have HS9 : Fr [wa.heap.size, w.heap.size + 1] w2 w9 := (HFS.out.mono (by intro k hk _; simp at hk; simp [hk])).trans hf9 (fun k hk _ => by simp at hk; simp [hk])
 refine ⟨{mz q f t with pr := y}, by rw [hE], ?_, ?_, (HF0.out.and HF1.out (by simp)).go HS9 (by have := HSZ.out; simp; omega)⟩
 · have hqe : x.con.q = 6 := HQ.out
   unfold onlyC
   rw [show x.con.q = x.q from rfl, HQ.out]
   rw [HQE.out, HFE.out, HTE.out, HQ.out]
   simp only [Wmg.con, HYC.out]; rfl
 · have hz := mz_ok w9 [] q f t (by rw [HQE.out]; exact HX.out.q) (by rw [HFE.out]; exact HX.out.f) (by rw [HTE.out]; exact HX.out.t)
   have HW9 : Fr [] w w9 := (HF0.out.and HF1.out (by simp)).go HS9 (by have := HSZ.out; simp; omega)
   exact ⟨hz.q, hz.f, hz.t, hz.cm, hz.st, hz.ce, hz.ak, hz.e, hz.r, hz.tm, ((HYO.out [wa.heap.size, w.heap.size + 1] (by have h1 := HSZ.out; have h2 := HSW1.out; simp; omega)).keep (S' := []) HS9 (by simp)), hz.po, hz.vt, hz.i, hz.en, hz.op, hz.dn, hz.rp, hz.de⟩
set_option maxHeartbeats 2000000 in
theorem only_7 (x : Wmg) (hq : x.q = 7) (w : World) (hx : x.Ok w []) (C : List Value) (hC : x.cells = C) :
  Calls Tryz.prog 11 #[.agg C.toArray] w (OnlyPost x w) := by
 obtain ⟨wa, hwa⟩ : ∃ wa, wa = (w.alloc (Obj.cells C.toArray 61)).alloc (Obj.cells mz00 61) := ⟨_, rfl⟩
 have hf0 : Fr [] w wa := by rw [hwa]; exact ((Fr.refl [] w).alloc _).alloc _
 have hb0 : Blk wa w.heap.size 61 x.cells.toArray := by rw [hwa, hC]; exact blk_alloc (Blk.new _ _ _)
 have hb1 : Blk wa (w.heap.size + 1) 61 mz00 := by
  have := Blk.new (w.alloc (Obj.cells C.toArray 61)) 61 mz00
  rw [hwa]
  simpa using this
 have hat : x.At wa w.heap.size := Wmg.at_of hb0.range hx
 have hcq : wa.cell? ⟨w.heap.size, 0, none⟩ = some (.int .i64 x.q) := by have h := hat.q 0 _ rfl; simpa using h
 have hcf : wa.cell? ⟨w.heap.size, 1, none⟩ = some (.int .i64 x.f) := by have h := hat.f 0 _ rfl; simpa using h
 have hct : wa.cell? ⟨w.heap.size, 2, none⟩ = some (.int .i64 x.t) := by have h := hat.t 0 _ rfl; simpa using h
 have HX := Lib.hid hx
 have HB0 := Lib.hid hb0
 have HB1 := Lib.hid hb1
 have HF0 := Lib.hid hf0
 have HWA := Lib.hid hwa
 have HSZ : Hid (wa.heap.size = w.heap.size + 2) := Lib.hid (by rw [hwa]; simp)
 obtain ⟨Z, hZ⟩ : ∃ Z, Z = (mz x.q x.f x.t).cells := ⟨_, rfl⟩
 have HBU : Hid (Tryz.prog.built 61 [(0, .int .i64 x.q), (1, .int .i64 x.f), (2, .int .i64 x.t)] = some Z.toArray) := Lib.hid (by rw [hZ]; exact built_mg3 _ _ _)
 have HZL : Hid ((Tryz.prog.info? 61).map (·.size) = some Z.toArray.size) := Lib.hid (by rw [hZ]; exact msg_size (mz_len _ _ _))
 have HZM : Hid (mz00.size = Z.toArray.size) := Lib.hid (by rw [hZ]; unfold mz00; rw [List.size_toArray, List.size_toArray, Wmg.lenz (mz_len _ _ _), Wmg.lenz (mz_len _ _ _)])
 have HZO : Hid (Z.toArray.all (·.oneCell') = true) := Lib.hid (by rw [hZ]; exact all_oneCell_toArray (Wmg.one _))
 have HZ := Lib.hid hZ
 have HQ := Lib.hid hq
 obtain ⟨q, hqq⟩ : ∃ q, q = x.q := ⟨_, rfl⟩
 obtain ⟨f, hff⟩ : ∃ f, f = x.f := ⟨_, rfl⟩
 obtain ⟨t, htt⟩ : ∃ t, t = x.t := ⟨_, rfl⟩
 rw [← hqq] at hcq
 rw [← hff] at hcf
 rw [← htt] at hct
 rw [← hqq, ← hff, ← htt] at HBU HZ
 have HQE := Lib.hid hqq
 have HFE := Lib.hid hff
 have HTE := Lib.hid htt
 clear hx hC hwa hf0 hb0 hb1 hat hZ hq hqq hff htt
 go_enter Tryz.func11, Tryz.ntmps11
 go_upto_region 1 with (fail)
 change Code.wp _ _ _ _ ((w.alloc (Obj.cells C.toArray 61)).alloc (Obj.cells mz00 61))
 rw [← HWA.out]
 go_upto_region 2 with (first
  | (refine wpList_builtg rfl 61 _ rfl _ _ HBU.out rfl ?_)
  | (refine wpList_store_blk rfl 61 _ _ rfl wa.heap.size Z.toArray rfl rfl 61 mz00 (Blk.new wa _ _) HZL.out HZM.out HZO.out ?_; intro w1 hb2 hf2))
 have HB2 : Hid (Blk w1 wa.heap.size 61 (mz q f t).cells.toArray) := Lib.hid (by rw [← HZ.out]; exact hb2)
 have HF1 : Hid (Fr [] wa w1) := Lib.hid (((Fr.refl [] wa).alloc _).go hf2 (by simp))
 clear hb2 hf2 hcf hct
 have hcq := HF1.out.cell hcq (by simp)
 have HB0 := Lib.hid (HB0.out.keep HF1.out (by simp))
 have HB1 := Lib.hid (HB1.out.keep HF1.out (by simp))
 have HBL1 : Hid (wa.heap.size < w1.heap.size) := Lib.hid HB2.out.lt
 have HAT := Lib.hid (Wmg.at_of HB0.out.range HX.out)
 have HZ0 := Lib.hid (mz_len q f t)
 rw [HQE.out, HQ.out] at hcq
 obtain ⟨V, hV⟩ : ∃ V, V = x.po.cells := ⟨_, rfl⟩
 have HVL : Hid (V.length = 11) := Lib.hid (by rw [hV]; exact Wpo.len _)
 have HVR : Hid (w1.rangeAt w.heap.size 163 V) := Lib.hid (by rw [hV]; exact HAT.out.po)
 have HV := Lib.hid hV
 clear hV
 go_wp2_with (refine wpList_load_mid rfl 47 _ rfl w.heap.size 163 rfl V _ HVR.out Tryz.underlying47 rfl (row_poC.of HVL.out).2 ?_)
 have hcp := copyProposal_any x.po w1 (HX.out.po.keep (HF0.out.and HF1.out (by simp)) (by simp))
 rw [← HV.out] at hcp
 refine hcp.mono ?_
 rintro e_ w2 ⟨y, rfl, hyc, hyok, hf2⟩
 have HYC := Lib.hid hyc
 have HYO := Lib.hid hyok
 have HF2 := Lib.hid hf2
 have HF1 : Hid (Fr [] wa w2) := Lib.hid (HF1.out.and hf2 (by simp))
 have HB2 := Lib.hid (HB2.out.keep hf2 (by simp))
 have HB1 := Lib.hid (HB1.out.keep hf2 (by simp))
 have HSW1 : Hid (wa.heap.size < w1.heap.size) := Lib.hid HBL1.out
 clear hcp hyc hyok hf2
 obtain ⟨U, hU⟩ : ∃ U, U = y.cells := ⟨_, rfl⟩
 have HU := Lib.hid hU
 have HUL : Hid (U.length = 11) := Lib.hid (by rw [hU]; exact Wpo.len _)
 rw [← hU]
 clear hU
 have HZX : Hid (Wmg.Len {mz q f t with po := y}) := Lib.hid ⟨rfl, rfl, rfl, rfl, rfl, rfl, rfl⟩
 have HBX := Lib.hid (Wmg.blk_po HZ0.out y (by rw [← HU.out]; exact HUL.out) HB2.out)
 rw [← HU.out] at HBX
 have HFS : Hid (Fr [wa.heap.size] w2 (w2.setCells wa.heap.size 163 U)) := Lib.hid (Fr.setCells (fun _ => by simp) _ 163 _ (Fr.refl _ _))
 have HTH : Hid (w2.there wa.heap.size 163 U.toArray.size) := Lib.hid (HB2.out.thereM _ _ (by rw [List.size_toArray, List.size_toArray, HUL.out, Wmg.lenz HZ0.out]; decide))
 have HVS : Hid ((Tryz.prog.info? 47).map (·.size) = some U.toArray.size) := Lib.hid (by rw [List.size_toArray, HUL.out]; kernel_rfl)
 have HVO : Hid (U.toArray.all (·.oneCell') = true) := Lib.hid (by rw [HU.out]; exact all_oneCell_toArray (Wpo.one _))
 have HB9 : Hid (Blk (w2.setCells wa.heap.size 163 U) (w.heap.size + 1) 61 mz00) := Lib.hid (HB1.out.keep HFS.out (by have := HSZ.out; simp; omega))
 obtain ⟨E, hE⟩ : ∃ E, E = ({mz q f t with po := y} : Wmg).cells := ⟨_, rfl⟩
 have HEL : Hid (E.length = 295) := Lib.hid (by rw [hE]; exact Wmg.lenz HZX.out)
 have HEO : Hid (E.toArray.all (·.oneCell') = true) := Lib.hid (by rw [hE]; exact all_oneCell_toArray (Wmg.one _))
 have HES : Hid ((Tryz.prog.info? 61).map (·.size) = some E.toArray.size) := Lib.hid (by rw [List.size_toArray, HEL.out]; kernel_rfl)
 have HEM : Hid (mz00.size = E.toArray.size) := Lib.hid (by unfold mz00; rw [List.size_toArray, List.size_toArray, HEL.out, Wmg.lenz (mz_len _ _ _)])
 have HER : Hid ((w2.setCells wa.heap.size 163 U).rangeAt wa.heap.size 0 E) := Lib.hid (by rw [hE]; exact HBX.out.range)
 go_wp2_with (first | (refine wpList_load_mid rfl 47 _ rfl w.heap.size 163 rfl V _ HVR.out Tryz.underlying47 rfl (row_poC.of HVL.out).2 ?_) | (refine wpList_store_mid rfl 47 _ _ rfl wa.heap.size 163 U.toArray rfl rfl HTH.out HVS.out HVO.out ?_) | (refine wpList_load_mid rfl 61 _ rfl wa.heap.size 0 rfl E _ HER.out Tryz.underlying61 rfl (row_msg.of HEL.out).2 ?_) | (refine wpList_store_blk rfl 61 _ _ rfl (w.heap.size + 1) E.toArray rfl rfl 61 mz00 HB9.out HES.out HEM.out HEO.out ?_; intro w9 hb9 hf9))
 refine bodyPost_ret (v := .agg E.toArray) (results_cell_row Tryz.results11 _ _ (w.heap.size + 1) 61 E.toArray _ _ rfl hb9 Tryz.underlying61 rfl HES.out) rfl ?_
 have HS9 : Fr [wa.heap.size, w.heap.size + 1] w2 w9 := (HFS.out.mono (by intro k hk _; simp at hk; simp [hk])).trans hf9 (fun k hk _ => by simp at hk; simp [hk])
 refine ⟨{mz q f t with po := y}, by rw [hE], ?_, ?_, (HF0.out.and HF1.out (by simp)).go HS9 (by have := HSZ.out; simp; omega)⟩
 · have hqe : x.con.q = 7 := HQ.out
   unfold onlyC
   rw [show x.con.q = x.q from rfl, HQ.out]
   rw [HQE.out, HFE.out, HTE.out, HQ.out]
   simp only [Wmg.con, HYC.out]; rfl
 · have hz := mz_ok w9 [] q f t (by rw [HQE.out]; exact HX.out.q) (by rw [HFE.out]; exact HX.out.f) (by rw [HTE.out]; exact HX.out.t)
   have HW9 : Fr [] w w9 := (HF0.out.and HF1.out (by simp)).go HS9 (by have := HSZ.out; simp; omega)
   exact ⟨hz.q, hz.f, hz.t, hz.cm, hz.st, hz.ce, hz.ak, hz.e, hz.r, hz.tm, hz.pr, ((HYO.out [wa.heap.size, w.heap.size + 1] (by have h1 := HSZ.out; have h2 := HSW1.out; simp; omega)).keep (S' := []) HS9 (by simp)), hz.vt, hz.i, hz.en, hz.op, hz.dn, hz.rp, hz.de⟩
set_option maxHeartbeats 2000000 in
theorem only_8 (x : Wmg) (hq : x.q = 8) (w : World) (hx : x.Ok w []) (C : List Value) (hC : x.cells = C) :
  Calls Tryz.prog 11 #[.agg C.toArray] w (OnlyPost x w) := by
 obtain ⟨wa, hwa⟩ : ∃ wa, wa = (w.alloc (Obj.cells C.toArray 61)).alloc (Obj.cells mz00 61) := ⟨_, rfl⟩
 have hf0 : Fr [] w wa := by rw [hwa]; exact ((Fr.refl [] w).alloc _).alloc _
 have hb0 : Blk wa w.heap.size 61 x.cells.toArray := by rw [hwa, hC]; exact blk_alloc (Blk.new _ _ _)
 have hb1 : Blk wa (w.heap.size + 1) 61 mz00 := by
  have := Blk.new (w.alloc (Obj.cells C.toArray 61)) 61 mz00
  rw [hwa]
  simpa using this
 have hat : x.At wa w.heap.size := Wmg.at_of hb0.range hx
 have hcq : wa.cell? ⟨w.heap.size, 0, none⟩ = some (.int .i64 x.q) := by have h := hat.q 0 _ rfl; simpa using h
 have hcf : wa.cell? ⟨w.heap.size, 1, none⟩ = some (.int .i64 x.f) := by have h := hat.f 0 _ rfl; simpa using h
 have hct : wa.cell? ⟨w.heap.size, 2, none⟩ = some (.int .i64 x.t) := by have h := hat.t 0 _ rfl; simpa using h
 have HX := Lib.hid hx
 have HB0 := Lib.hid hb0
 have HB1 := Lib.hid hb1
 have HF0 := Lib.hid hf0
 have HWA := Lib.hid hwa
 have HSZ : Hid (wa.heap.size = w.heap.size + 2) := Lib.hid (by rw [hwa]; simp)
 obtain ⟨Z, hZ⟩ : ∃ Z, Z = (mz x.q x.f x.t).cells := ⟨_, rfl⟩
 have HBU : Hid (Tryz.prog.built 61 [(0, .int .i64 x.q), (1, .int .i64 x.f), (2, .int .i64 x.t)] = some Z.toArray) := Lib.hid (by rw [hZ]; exact built_mg3 _ _ _)
 have HZL : Hid ((Tryz.prog.info? 61).map (·.size) = some Z.toArray.size) := Lib.hid (by rw [hZ]; exact msg_size (mz_len _ _ _))
 have HZM : Hid (mz00.size = Z.toArray.size) := Lib.hid (by rw [hZ]; unfold mz00; rw [List.size_toArray, List.size_toArray, Wmg.lenz (mz_len _ _ _), Wmg.lenz (mz_len _ _ _)])
 have HZO : Hid (Z.toArray.all (·.oneCell') = true) := Lib.hid (by rw [hZ]; exact all_oneCell_toArray (Wmg.one _))
 have HZ := Lib.hid hZ
 have HQ := Lib.hid hq
 obtain ⟨q, hqq⟩ : ∃ q, q = x.q := ⟨_, rfl⟩
 obtain ⟨f, hff⟩ : ∃ f, f = x.f := ⟨_, rfl⟩
 obtain ⟨t, htt⟩ : ∃ t, t = x.t := ⟨_, rfl⟩
 rw [← hqq] at hcq
 rw [← hff] at hcf
 rw [← htt] at hct
 rw [← hqq, ← hff, ← htt] at HBU HZ
 have HQE := Lib.hid hqq
 have HFE := Lib.hid hff
 have HTE := Lib.hid htt
 clear hx hC hwa hf0 hb0 hb1 hat hZ hq hqq hff htt
 go_enter Tryz.func11, Tryz.ntmps11
 go_upto_region 1 with (fail)
 change Code.wp _ _ _ _ ((w.alloc (Obj.cells C.toArray 61)).alloc (Obj.cells mz00 61))
 rw [← HWA.out]
 go_upto_region 2 with (first
  | (refine wpList_builtg rfl 61 _ rfl _ _ HBU.out rfl ?_)
  | (refine wpList_store_blk rfl 61 _ _ rfl wa.heap.size Z.toArray rfl rfl 61 mz00 (Blk.new wa _ _) HZL.out HZM.out HZO.out ?_; intro w1 hb2 hf2))
 have HB2 : Hid (Blk w1 wa.heap.size 61 (mz q f t).cells.toArray) := Lib.hid (by rw [← HZ.out]; exact hb2)
 have HF1 : Hid (Fr [] wa w1) := Lib.hid (((Fr.refl [] wa).alloc _).go hf2 (by simp))
 clear hb2 hf2 hcf hct
 have hcq := HF1.out.cell hcq (by simp)
 have HB0 := Lib.hid (HB0.out.keep HF1.out (by simp))
 have HB1 := Lib.hid (HB1.out.keep HF1.out (by simp))
 have HBL1 : Hid (wa.heap.size < w1.heap.size) := Lib.hid HB2.out.lt
 have HAT := Lib.hid (Wmg.at_of HB0.out.range HX.out)
 have HZ0 := Lib.hid (mz_len q f t)
 rw [HQE.out, HQ.out] at hcq
 obtain ⟨V, hV⟩ : ∃ V, V = x.vt.cells := ⟨_, rfl⟩
 have HVL : Hid (V.length = 38) := Lib.hid (by rw [hV]; exact Wvt.len HX.out.vt.h)
 have HVR : Hid (w1.rangeAt w.heap.size 174 V) := Lib.hid (by rw [hV]; exact HAT.out.vt)
 have HV := Lib.hid hV
 clear hV
 have HZX : Hid (Wmg.Len {mz q f t with vt := x.vt}) := Lib.hid ⟨rfl, rfl, rfl, rfl, HX.out.vt.h, rfl, rfl⟩
 have HBX := Lib.hid (Wmg.blk_vt HZ0.out x.vt (by rw [← HV.out]; exact HVL.out) HB2.out)
 rw [← HV.out] at HBX
 have HFS : Hid (Fr [wa.heap.size] w1 (w1.setCells wa.heap.size 174 V)) := Lib.hid (Fr.setCells (fun _ => by simp) _ 174 _ (Fr.refl _ _))
 have HTH : Hid (w1.there wa.heap.size 174 V.toArray.size) := Lib.hid (HB2.out.thereM _ _ (by rw [List.size_toArray, List.size_toArray, HVL.out, Wmg.lenz HZ0.out]; decide))
 have HVS : Hid ((Tryz.prog.info? 49).map (·.size) = some V.toArray.size) := Lib.hid (by rw [List.size_toArray, HVL.out]; kernel_rfl)
 have HVO : Hid (V.toArray.all (·.oneCell') = true) := Lib.hid (by rw [HV.out]; exact all_oneCell_toArray (Wvt.one _))
 have HB9 : Hid (Blk (w1.setCells wa.heap.size 174 V) (w.heap.size + 1) 61 mz00) := Lib.hid (HB1.out.keep HFS.out (by have := HSZ.out; simp; omega))
 obtain ⟨E, hE⟩ : ∃ E, E = ({mz q f t with vt := x.vt} : Wmg).cells := ⟨_, rfl⟩
 have HEL : Hid (E.length = 295) := Lib.hid (by rw [hE]; exact Wmg.lenz HZX.out)
 have HEO : Hid (E.toArray.all (·.oneCell') = true) := Lib.hid (by rw [hE]; exact all_oneCell_toArray (Wmg.one _))
 have HES : Hid ((Tryz.prog.info? 61).map (·.size) = some E.toArray.size) := Lib.hid (by rw [List.size_toArray, HEL.out]; kernel_rfl)
 have HEM : Hid (mz00.size = E.toArray.size) := Lib.hid (by unfold mz00; rw [List.size_toArray, List.size_toArray, HEL.out, Wmg.lenz (mz_len _ _ _)])
 have HER : Hid ((w1.setCells wa.heap.size 174 V).rangeAt wa.heap.size 0 E) := Lib.hid (by rw [hE]; exact HBX.out.range)
 go_wp2_with (first | (refine wpList_load_mid rfl 49 _ rfl w.heap.size 174 rfl V _ HVR.out Tryz.underlying49 rfl (row_vtO.of HVL.out).2 ?_) | (refine wpList_store_mid rfl 49 _ _ rfl wa.heap.size 174 V.toArray rfl rfl HTH.out HVS.out HVO.out ?_) | (refine wpList_load_mid rfl 61 _ rfl wa.heap.size 0 rfl E _ HER.out Tryz.underlying61 rfl (row_msg.of HEL.out).2 ?_) | (refine wpList_store_blk rfl 61 _ _ rfl (w.heap.size + 1) E.toArray rfl rfl 61 mz00 HB9.out HES.out HEM.out HEO.out ?_; intro w9 hb9 hf9))
 refine bodyPost_ret (v := .agg E.toArray) (results_cell_row Tryz.results11 _ _ (w.heap.size + 1) 61 E.toArray _ _ rfl hb9 Tryz.underlying61 rfl HES.out) rfl ?_
 have HS9 : Fr [wa.heap.size, w.heap.size + 1] w1 w9 := (HFS.out.mono (by intro k hk _; simp at hk; simp [hk])).trans hf9 (fun k hk _ => by simp at hk; simp [hk])
 refine ⟨{mz q f t with vt := x.vt}, by rw [hE], ?_, ?_, (HF0.out.and HF1.out (by simp)).go HS9 (by have := HSZ.out; simp; omega)⟩
 · have hqe : x.con.q = 8 := HQ.out
   unfold onlyC
   rw [show x.con.q = x.q from rfl, HQ.out]
   rw [HQE.out, HFE.out, HTE.out, HQ.out]
   rfl
 · have hz := mz_ok w9 [] q f t (by rw [HQE.out]; exact HX.out.q) (by rw [HFE.out]; exact HX.out.f) (by rw [HTE.out]; exact HX.out.t)
   have HW9 : Fr [] w w9 := (HF0.out.and HF1.out (by simp)).go HS9 (by have := HSZ.out; simp; omega)
   exact ⟨hz.q, hz.f, hz.t, hz.cm, hz.st, hz.ce, hz.ak, hz.e, hz.r, hz.tm, hz.pr, hz.po, HX.out.vt, hz.i, hz.en, hz.op, hz.dn, hz.rp, hz.de⟩
set_option maxHeartbeats 2000000 in
theorem only_10 (x : Wmg) (hq : x.q = 10) (w : World) (hx : x.Ok w []) (C : List Value) (hC : x.cells = C) :
  Calls Tryz.prog 11 #[.agg C.toArray] w (OnlyPost x w) := by
 obtain ⟨wa, hwa⟩ : ∃ wa, wa = (w.alloc (Obj.cells C.toArray 61)).alloc (Obj.cells mz00 61) := ⟨_, rfl⟩
 have hf0 : Fr [] w wa := by rw [hwa]; exact ((Fr.refl [] w).alloc _).alloc _
 have hb0 : Blk wa w.heap.size 61 x.cells.toArray := by rw [hwa, hC]; exact blk_alloc (Blk.new _ _ _)
 have hb1 : Blk wa (w.heap.size + 1) 61 mz00 := by
  have := Blk.new (w.alloc (Obj.cells C.toArray 61)) 61 mz00
  rw [hwa]
  simpa using this
 have hat : x.At wa w.heap.size := Wmg.at_of hb0.range hx
 have hcq : wa.cell? ⟨w.heap.size, 0, none⟩ = some (.int .i64 x.q) := by have h := hat.q 0 _ rfl; simpa using h
 have hcf : wa.cell? ⟨w.heap.size, 1, none⟩ = some (.int .i64 x.f) := by have h := hat.f 0 _ rfl; simpa using h
 have hct : wa.cell? ⟨w.heap.size, 2, none⟩ = some (.int .i64 x.t) := by have h := hat.t 0 _ rfl; simpa using h
 have HX := Lib.hid hx
 have HB0 := Lib.hid hb0
 have HB1 := Lib.hid hb1
 have HF0 := Lib.hid hf0
 have HWA := Lib.hid hwa
 have HSZ : Hid (wa.heap.size = w.heap.size + 2) := Lib.hid (by rw [hwa]; simp)
 obtain ⟨Z, hZ⟩ : ∃ Z, Z = (mz x.q x.f x.t).cells := ⟨_, rfl⟩
 have HBU : Hid (Tryz.prog.built 61 [(0, .int .i64 x.q), (1, .int .i64 x.f), (2, .int .i64 x.t)] = some Z.toArray) := Lib.hid (by rw [hZ]; exact built_mg3 _ _ _)
 have HZL : Hid ((Tryz.prog.info? 61).map (·.size) = some Z.toArray.size) := Lib.hid (by rw [hZ]; exact msg_size (mz_len _ _ _))
 have HZM : Hid (mz00.size = Z.toArray.size) := Lib.hid (by rw [hZ]; unfold mz00; rw [List.size_toArray, List.size_toArray, Wmg.lenz (mz_len _ _ _), Wmg.lenz (mz_len _ _ _)])
 have HZO : Hid (Z.toArray.all (·.oneCell') = true) := Lib.hid (by rw [hZ]; exact all_oneCell_toArray (Wmg.one _))
 have HZ := Lib.hid hZ
 have HQ := Lib.hid hq
 obtain ⟨q, hqq⟩ : ∃ q, q = x.q := ⟨_, rfl⟩
 obtain ⟨f, hff⟩ : ∃ f, f = x.f := ⟨_, rfl⟩
 obtain ⟨t, htt⟩ : ∃ t, t = x.t := ⟨_, rfl⟩
 rw [← hqq] at hcq
 rw [← hff] at hcf
 rw [← htt] at hct
 rw [← hqq, ← hff, ← htt] at HBU HZ
 have HQE := Lib.hid hqq
 have HFE := Lib.hid hff
 have HTE := Lib.hid htt
 clear hx hC hwa hf0 hb0 hb1 hat hZ hq hqq hff htt
 go_enter Tryz.func11, Tryz.ntmps11
 go_upto_region 1 with (fail)
 change Code.wp _ _ _ _ ((w.alloc (Obj.cells C.toArray 61)).alloc (Obj.cells mz00 61))
 rw [← HWA.out]
 go_upto_region 2 with (first
  | (refine wpList_builtg rfl 61 _ rfl _ _ HBU.out rfl ?_)
  | (refine wpList_store_blk rfl 61 _ _ rfl wa.heap.size Z.toArray rfl rfl 61 mz00 (Blk.new wa _ _) HZL.out HZM.out HZO.out ?_; intro w1 hb2 hf2))
 have HB2 : Hid (Blk w1 wa.heap.size 61 (mz q f t).cells.toArray) := Lib.hid (by rw [← HZ.out]; exact hb2)
 have HF1 : Hid (Fr [] wa w1) := Lib.hid (((Fr.refl [] wa).alloc _).go hf2 (by simp))
 clear hb2 hf2 hcf hct
 have hcq := HF1.out.cell hcq (by simp)
 have HB0 := Lib.hid (HB0.out.keep HF1.out (by simp))
 have HB1 := Lib.hid (HB1.out.keep HF1.out (by simp))
 have HBL1 : Hid (wa.heap.size < w1.heap.size) := Lib.hid HB2.out.lt
 have HAT := Lib.hid (Wmg.at_of HB0.out.range HX.out)
 have HZ0 := Lib.hid (mz_len q f t)
 rw [HQE.out, HQ.out] at hcq
 obtain ⟨V, hV⟩ : ∃ V, V = x.op.cells := ⟨_, rfl⟩
 have HVL : Hid (V.length = 34) := Lib.hid (by rw [hV]; exact Wop.len HX.out.op.h)
 have HVR : Hid (w1.rangeAt w.heap.size 248 V) := Lib.hid (by rw [hV]; exact HAT.out.op)
 have HV := Lib.hid hV
 clear hV
 go_wp2_with (refine wpList_load_mid rfl 54 _ rfl w.heap.size 248 rfl V _ HVR.out Tryz.underlying54 rfl (row_opn.of HVL.out).2 ?_)
 have hcp := copyOpening_any x.op w1 (HX.out.op.keep (HF0.out.and HF1.out (by simp)) (by simp))
 rw [← HV.out] at hcp
 refine hcp.mono ?_
 rintro e_ w2 ⟨y, rfl, hyc, hyok, hf2⟩
 have HYC := Lib.hid hyc
 have HYO := Lib.hid hyok
 have HF2 := Lib.hid hf2
 have HF1 : Hid (Fr [] wa w2) := Lib.hid (HF1.out.and hf2 (by simp))
 have HB2 := Lib.hid (HB2.out.keep hf2 (by simp))
 have HB1 := Lib.hid (HB1.out.keep hf2 (by simp))
 have HSW1 : Hid (wa.heap.size < w1.heap.size) := Lib.hid HBL1.out
 clear hcp hyc hyok hf2
 obtain ⟨U, hU⟩ : ∃ U, U = y.cells := ⟨_, rfl⟩
 have HU := Lib.hid hU
 have HUL : Hid (U.length = 34) := Lib.hid (by rw [hU]; exact Wop.len (HYO.out [] (by simp)).h)
 rw [← hU]
 clear hU
 have HZX : Hid (Wmg.Len {mz q f t with op := y}) := Lib.hid ⟨rfl, rfl, rfl, rfl, rfl, rfl, (HYO.out [] (by simp)).h⟩
 have HBX := Lib.hid (Wmg.blk_op HZ0.out y (by rw [← HU.out]; exact HUL.out) HB2.out)
 rw [← HU.out] at HBX
 have HFS : Hid (Fr [wa.heap.size] w2 (w2.setCells wa.heap.size 248 U)) := Lib.hid (Fr.setCells (fun _ => by simp) _ 248 _ (Fr.refl _ _))
 have HTH : Hid (w2.there wa.heap.size 248 U.toArray.size) := Lib.hid (HB2.out.thereM _ _ (by rw [List.size_toArray, List.size_toArray, HUL.out, Wmg.lenz HZ0.out]; decide))
 have HVS : Hid ((Tryz.prog.info? 54).map (·.size) = some U.toArray.size) := Lib.hid (by rw [List.size_toArray, HUL.out]; kernel_rfl)
 have HVO : Hid (U.toArray.all (·.oneCell') = true) := Lib.hid (by rw [HU.out]; exact all_oneCell_toArray (Wop.one _))
 have HB9 : Hid (Blk (w2.setCells wa.heap.size 248 U) (w.heap.size + 1) 61 mz00) := Lib.hid (HB1.out.keep HFS.out (by have := HSZ.out; simp; omega))
 obtain ⟨E, hE⟩ : ∃ E, E = ({mz q f t with op := y} : Wmg).cells := ⟨_, rfl⟩
 have HEL : Hid (E.length = 295) := Lib.hid (by rw [hE]; exact Wmg.lenz HZX.out)
 have HEO : Hid (E.toArray.all (·.oneCell') = true) := Lib.hid (by rw [hE]; exact all_oneCell_toArray (Wmg.one _))
 have HES : Hid ((Tryz.prog.info? 61).map (·.size) = some E.toArray.size) := Lib.hid (by rw [List.size_toArray, HEL.out]; kernel_rfl)
 have HEM : Hid (mz00.size = E.toArray.size) := Lib.hid (by unfold mz00; rw [List.size_toArray, List.size_toArray, HEL.out, Wmg.lenz (mz_len _ _ _)])
 have HER : Hid ((w2.setCells wa.heap.size 248 U).rangeAt wa.heap.size 0 E) := Lib.hid (by rw [hE]; exact HBX.out.range)
 go_wp2_with (first | (refine wpList_load_mid rfl 54 _ rfl w.heap.size 248 rfl V _ HVR.out Tryz.underlying54 rfl (row_opn.of HVL.out).2 ?_) | (refine wpList_store_mid rfl 54 _ _ rfl wa.heap.size 248 U.toArray rfl rfl HTH.out HVS.out HVO.out ?_) | (refine wpList_load_mid rfl 61 _ rfl wa.heap.size 0 rfl E _ HER.out Tryz.underlying61 rfl (row_msg.of HEL.out).2 ?_) | (refine wpList_store_blk rfl 61 _ _ rfl (w.heap.size + 1) E.toArray rfl rfl 61 mz00 HB9.out HES.out HEM.out HEO.out ?_; intro w9 hb9 hf9))
 refine bodyPost_ret (v := .agg E.toArray) (results_cell_row Tryz.results11 _ _ (w.heap.size + 1) 61 E.toArray _ _ rfl hb9 Tryz.underlying61 rfl HES.out) rfl ?_
 have HS9 : Fr [wa.heap.size, w.heap.size + 1] w2 w9 := (HFS.out.mono (by intro k hk _; simp at hk; simp [hk])).trans hf9 (fun k hk _ => by simp at hk; simp [hk])
 refine ⟨{mz q f t with op := y}, by rw [hE], ?_, ?_, (HF0.out.and HF1.out (by simp)).go HS9 (by have := HSZ.out; simp; omega)⟩
 · have hqe : x.con.q = 10 := HQ.out
   unfold onlyC
   rw [show x.con.q = x.q from rfl, HQ.out]
   rw [HQE.out, HFE.out, HTE.out, HQ.out]
   simp only [Wmg.con, HYC.out]; rfl
 · have hz := mz_ok w9 [] q f t (by rw [HQE.out]; exact HX.out.q) (by rw [HFE.out]; exact HX.out.f) (by rw [HTE.out]; exact HX.out.t)
   have HW9 : Fr [] w w9 := (HF0.out.and HF1.out (by simp)).go HS9 (by have := HSZ.out; simp; omega)
   exact ⟨hz.q, hz.f, hz.t, hz.cm, hz.st, hz.ce, hz.ak, hz.e, hz.r, hz.tm, hz.pr, hz.po, hz.vt, hz.i, hz.en, ((HYO.out [wa.heap.size, w.heap.size + 1] (by have h1 := HSZ.out; have h2 := HSW1.out; simp; omega)).keep (S' := []) HS9 (by simp)), hz.dn, hz.rp, hz.de⟩
set_option maxHeartbeats 2000000 in
theorem only_12 (x : Wmg) (hq : x.q = 12) (w : World) (hx : x.Ok w []) (C : List Value) (hC : x.cells = C) :
  Calls Tryz.prog 11 #[.agg C.toArray] w (OnlyPost x w) := by
 obtain ⟨wa, hwa⟩ : ∃ wa, wa = (w.alloc (Obj.cells C.toArray 61)).alloc (Obj.cells mz00 61) := ⟨_, rfl⟩
 have hf0 : Fr [] w wa := by rw [hwa]; exact ((Fr.refl [] w).alloc _).alloc _
 have hb0 : Blk wa w.heap.size 61 x.cells.toArray := by rw [hwa, hC]; exact blk_alloc (Blk.new _ _ _)
 have hb1 : Blk wa (w.heap.size + 1) 61 mz00 := by
  have := Blk.new (w.alloc (Obj.cells C.toArray 61)) 61 mz00
  rw [hwa]
  simpa using this
 have hat : x.At wa w.heap.size := Wmg.at_of hb0.range hx
 have hcq : wa.cell? ⟨w.heap.size, 0, none⟩ = some (.int .i64 x.q) := by have h := hat.q 0 _ rfl; simpa using h
 have hcf : wa.cell? ⟨w.heap.size, 1, none⟩ = some (.int .i64 x.f) := by have h := hat.f 0 _ rfl; simpa using h
 have hct : wa.cell? ⟨w.heap.size, 2, none⟩ = some (.int .i64 x.t) := by have h := hat.t 0 _ rfl; simpa using h
 have HX := Lib.hid hx
 have HB0 := Lib.hid hb0
 have HB1 := Lib.hid hb1
 have HF0 := Lib.hid hf0
 have HWA := Lib.hid hwa
 have HSZ : Hid (wa.heap.size = w.heap.size + 2) := Lib.hid (by rw [hwa]; simp)
 obtain ⟨Z, hZ⟩ : ∃ Z, Z = (mz x.q x.f x.t).cells := ⟨_, rfl⟩
 have HBU : Hid (Tryz.prog.built 61 [(0, .int .i64 x.q), (1, .int .i64 x.f), (2, .int .i64 x.t)] = some Z.toArray) := Lib.hid (by rw [hZ]; exact built_mg3 _ _ _)
 have HZL : Hid ((Tryz.prog.info? 61).map (·.size) = some Z.toArray.size) := Lib.hid (by rw [hZ]; exact msg_size (mz_len _ _ _))
 have HZM : Hid (mz00.size = Z.toArray.size) := Lib.hid (by rw [hZ]; unfold mz00; rw [List.size_toArray, List.size_toArray, Wmg.lenz (mz_len _ _ _), Wmg.lenz (mz_len _ _ _)])
 have HZO : Hid (Z.toArray.all (·.oneCell') = true) := Lib.hid (by rw [hZ]; exact all_oneCell_toArray (Wmg.one _))
 have HZ := Lib.hid hZ
 have HQ := Lib.hid hq
 obtain ⟨q, hqq⟩ : ∃ q, q = x.q := ⟨_, rfl⟩
 obtain ⟨f, hff⟩ : ∃ f, f = x.f := ⟨_, rfl⟩
 obtain ⟨t, htt⟩ : ∃ t, t = x.t := ⟨_, rfl⟩
 rw [← hqq] at hcq
 rw [← hff] at hcf
 rw [← htt] at hct
 rw [← hqq, ← hff, ← htt] at HBU HZ
 have HQE := Lib.hid hqq
 have HFE := Lib.hid hff
 have HTE := Lib.hid htt
 clear hx hC hwa hf0 hb0 hb1 hat hZ hq hqq hff htt
 go_enter Tryz.func11, Tryz.ntmps11
 go_upto_region 1 with (fail)
 change Code.wp _ _ _ _ ((w.alloc (Obj.cells C.toArray 61)).alloc (Obj.cells mz00 61))
 rw [← HWA.out]
 go_upto_region 2 with (first
  | (refine wpList_builtg rfl 61 _ rfl _ _ HBU.out rfl ?_)
  | (refine wpList_store_blk rfl 61 _ _ rfl wa.heap.size Z.toArray rfl rfl 61 mz00 (Blk.new wa _ _) HZL.out HZM.out HZO.out ?_; intro w1 hb2 hf2))
 have HB2 : Hid (Blk w1 wa.heap.size 61 (mz q f t).cells.toArray) := Lib.hid (by rw [← HZ.out]; exact hb2)
 have HF1 : Hid (Fr [] wa w1) := Lib.hid (((Fr.refl [] wa).alloc _).go hf2 (by simp))
 clear hb2 hf2 hcf hct
 have hcq := HF1.out.cell hcq (by simp)
 have HB0 := Lib.hid (HB0.out.keep HF1.out (by simp))
 have HB1 := Lib.hid (HB1.out.keep HF1.out (by simp))
 have HBL1 : Hid (wa.heap.size < w1.heap.size) := Lib.hid HB2.out.lt
 have HAT := Lib.hid (Wmg.at_of HB0.out.range HX.out)
 have HZ0 := Lib.hid (mz_len q f t)
 rw [HQE.out, HQ.out] at hcq
 obtain ⟨V, hV⟩ : ∃ V, V = x.dn.cells := ⟨_, rfl⟩
 have HVL : Hid (V.length = 4) := Lib.hid (by rw [hV]; exact Wdn.len _)
 have HVR : Hid (w1.rangeAt w.heap.size 282 V) := Lib.hid (by rw [hV]; exact HAT.out.dn)
 have HV := Lib.hid hV
 clear hV
 have HZX : Hid (Wmg.Len {mz q f t with dn := x.dn}) := Lib.hid ⟨rfl, rfl, rfl, rfl, rfl, rfl, rfl⟩
 have HBX := Lib.hid (Wmg.blk_dn HZ0.out x.dn (by rw [← HV.out]; exact HVL.out) HB2.out)
 rw [← HV.out] at HBX
 have HFS : Hid (Fr [wa.heap.size] w1 (w1.setCells wa.heap.size 282 V)) := Lib.hid (Fr.setCells (fun _ => by simp) _ 282 _ (Fr.refl _ _))
 have HTH : Hid (w1.there wa.heap.size 282 V.toArray.size) := Lib.hid (HB2.out.thereM _ _ (by rw [List.size_toArray, List.size_toArray, HVL.out, Wmg.lenz HZ0.out]; decide))
 have HVS : Hid ((Tryz.prog.info? 56).map (·.size) = some V.toArray.size) := Lib.hid (by rw [List.size_toArray, HVL.out]; kernel_rfl)
 have HVO : Hid (V.toArray.all (·.oneCell') = true) := Lib.hid (by rw [HV.out]; exact all_oneCell_toArray (Wdn.one _))
 have HB9 : Hid (Blk (w1.setCells wa.heap.size 282 V) (w.heap.size + 1) 61 mz00) := Lib.hid (HB1.out.keep HFS.out (by have := HSZ.out; simp; omega))
 obtain ⟨E, hE⟩ : ∃ E, E = ({mz q f t with dn := x.dn} : Wmg).cells := ⟨_, rfl⟩
 have HEL : Hid (E.length = 295) := Lib.hid (by rw [hE]; exact Wmg.lenz HZX.out)
 have HEO : Hid (E.toArray.all (·.oneCell') = true) := Lib.hid (by rw [hE]; exact all_oneCell_toArray (Wmg.one _))
 have HES : Hid ((Tryz.prog.info? 61).map (·.size) = some E.toArray.size) := Lib.hid (by rw [List.size_toArray, HEL.out]; kernel_rfl)
 have HEM : Hid (mz00.size = E.toArray.size) := Lib.hid (by unfold mz00; rw [List.size_toArray, List.size_toArray, HEL.out, Wmg.lenz (mz_len _ _ _)])
 have HER : Hid ((w1.setCells wa.heap.size 282 V).rangeAt wa.heap.size 0 E) := Lib.hid (by rw [hE]; exact HBX.out.range)
 go_wp2_with (first | (refine wpList_load_mid rfl 56 _ rfl w.heap.size 282 rfl V _ HVR.out Tryz.underlying56 rfl (row_dnO.of HVL.out).2 ?_) | (refine wpList_store_mid rfl 56 _ _ rfl wa.heap.size 282 V.toArray rfl rfl HTH.out HVS.out HVO.out ?_) | (refine wpList_load_mid rfl 61 _ rfl wa.heap.size 0 rfl E _ HER.out Tryz.underlying61 rfl (row_msg.of HEL.out).2 ?_) | (refine wpList_store_blk rfl 61 _ _ rfl (w.heap.size + 1) E.toArray rfl rfl 61 mz00 HB9.out HES.out HEM.out HEO.out ?_; intro w9 hb9 hf9))
 refine bodyPost_ret (v := .agg E.toArray) (results_cell_row Tryz.results11 _ _ (w.heap.size + 1) 61 E.toArray _ _ rfl hb9 Tryz.underlying61 rfl HES.out) rfl ?_
 have HS9 : Fr [wa.heap.size, w.heap.size + 1] w1 w9 := (HFS.out.mono (by intro k hk _; simp at hk; simp [hk])).trans hf9 (fun k hk _ => by simp at hk; simp [hk])
 refine ⟨{mz q f t with dn := x.dn}, by rw [hE], ?_, ?_, (HF0.out.and HF1.out (by simp)).go HS9 (by have := HSZ.out; simp; omega)⟩
 · have hqe : x.con.q = 12 := HQ.out
   unfold onlyC
   rw [show x.con.q = x.q from rfl, HQ.out]
   rw [HQE.out, HFE.out, HTE.out, HQ.out]
   rfl
 · have hz := mz_ok w9 [] q f t (by rw [HQE.out]; exact HX.out.q) (by rw [HFE.out]; exact HX.out.f) (by rw [HTE.out]; exact HX.out.t)
   have HW9 : Fr [] w w9 := (HF0.out.and HF1.out (by simp)).go HS9 (by have := HSZ.out; simp; omega)
   exact ⟨hz.q, hz.f, hz.t, hz.cm, hz.st, hz.ce, hz.ak, hz.e, hz.r, hz.tm, hz.pr, hz.po, hz.vt, hz.i, hz.en, hz.op, HX.out.dn, hz.rp, hz.de⟩
set_option maxHeartbeats 2000000 in
theorem only_14 (x : Wmg) (hq : x.q = 14) (w : World) (hx : x.Ok w []) (C : List Value) (hC : x.cells = C) :
  Calls Tryz.prog 11 #[.agg C.toArray] w (OnlyPost x w) := by
 obtain ⟨wa, hwa⟩ : ∃ wa, wa = (w.alloc (Obj.cells C.toArray 61)).alloc (Obj.cells mz00 61) := ⟨_, rfl⟩
 have hf0 : Fr [] w wa := by rw [hwa]; exact ((Fr.refl [] w).alloc _).alloc _
 have hb0 : Blk wa w.heap.size 61 x.cells.toArray := by rw [hwa, hC]; exact blk_alloc (Blk.new _ _ _)
 have hb1 : Blk wa (w.heap.size + 1) 61 mz00 := by
  have := Blk.new (w.alloc (Obj.cells C.toArray 61)) 61 mz00
  rw [hwa]
  simpa using this
 have hat : x.At wa w.heap.size := Wmg.at_of hb0.range hx
 have hcq : wa.cell? ⟨w.heap.size, 0, none⟩ = some (.int .i64 x.q) := by have h := hat.q 0 _ rfl; simpa using h
 have hcf : wa.cell? ⟨w.heap.size, 1, none⟩ = some (.int .i64 x.f) := by have h := hat.f 0 _ rfl; simpa using h
 have hct : wa.cell? ⟨w.heap.size, 2, none⟩ = some (.int .i64 x.t) := by have h := hat.t 0 _ rfl; simpa using h
 have HX := Lib.hid hx
 have HB0 := Lib.hid hb0
 have HB1 := Lib.hid hb1
 have HF0 := Lib.hid hf0
 have HWA := Lib.hid hwa
 have HSZ : Hid (wa.heap.size = w.heap.size + 2) := Lib.hid (by rw [hwa]; simp)
 obtain ⟨Z, hZ⟩ : ∃ Z, Z = (mz x.q x.f x.t).cells := ⟨_, rfl⟩
 have HBU : Hid (Tryz.prog.built 61 [(0, .int .i64 x.q), (1, .int .i64 x.f), (2, .int .i64 x.t)] = some Z.toArray) := Lib.hid (by rw [hZ]; exact built_mg3 _ _ _)
 have HZL : Hid ((Tryz.prog.info? 61).map (·.size) = some Z.toArray.size) := Lib.hid (by rw [hZ]; exact msg_size (mz_len _ _ _))
 have HZM : Hid (mz00.size = Z.toArray.size) := Lib.hid (by rw [hZ]; unfold mz00; rw [List.size_toArray, List.size_toArray, Wmg.lenz (mz_len _ _ _), Wmg.lenz (mz_len _ _ _)])
 have HZO : Hid (Z.toArray.all (·.oneCell') = true) := Lib.hid (by rw [hZ]; exact all_oneCell_toArray (Wmg.one _))
 have HZ := Lib.hid hZ
 have HQ := Lib.hid hq
 obtain ⟨q, hqq⟩ : ∃ q, q = x.q := ⟨_, rfl⟩
 obtain ⟨f, hff⟩ : ∃ f, f = x.f := ⟨_, rfl⟩
 obtain ⟨t, htt⟩ : ∃ t, t = x.t := ⟨_, rfl⟩
 rw [← hqq] at hcq
 rw [← hff] at hcf
 rw [← htt] at hct
 rw [← hqq, ← hff, ← htt] at HBU HZ
 have HQE := Lib.hid hqq
 have HFE := Lib.hid hff
 have HTE := Lib.hid htt
 clear hx hC hwa hf0 hb0 hb1 hat hZ hq hqq hff htt
 go_enter Tryz.func11, Tryz.ntmps11
 go_upto_region 1 with (fail)
 change Code.wp _ _ _ _ ((w.alloc (Obj.cells C.toArray 61)).alloc (Obj.cells mz00 61))
 rw [← HWA.out]
 go_upto_region 2 with (first
  | (refine wpList_builtg rfl 61 _ rfl _ _ HBU.out rfl ?_)
  | (refine wpList_store_blk rfl 61 _ _ rfl wa.heap.size Z.toArray rfl rfl 61 mz00 (Blk.new wa _ _) HZL.out HZM.out HZO.out ?_; intro w1 hb2 hf2))
 have HB2 : Hid (Blk w1 wa.heap.size 61 (mz q f t).cells.toArray) := Lib.hid (by rw [← HZ.out]; exact hb2)
 have HF1 : Hid (Fr [] wa w1) := Lib.hid (((Fr.refl [] wa).alloc _).go hf2 (by simp))
 clear hb2 hf2 hcf hct
 have hcq := HF1.out.cell hcq (by simp)
 have HB0 := Lib.hid (HB0.out.keep HF1.out (by simp))
 have HB1 := Lib.hid (HB1.out.keep HF1.out (by simp))
 have HBL1 : Hid (wa.heap.size < w1.heap.size) := Lib.hid HB2.out.lt
 have HAT := Lib.hid (Wmg.at_of HB0.out.range HX.out)
 have HZ0 := Lib.hid (mz_len q f t)
 rw [HQE.out, HQ.out] at hcq
 obtain ⟨V, hV⟩ : ∃ V, V = x.de.cells := ⟨_, rfl⟩
 have HVL : Hid (V.length = 8) := Lib.hid (by rw [hV]; exact rfl)
 have HVR : Hid (w1.rangeAt w.heap.size 287 V) := Lib.hid (by rw [hV]; exact HAT.out.de)
 have HV := Lib.hid hV
 clear hV
 go_wp2_with (refine wpList_load_mid rfl 59 _ rfl w.heap.size 287 rfl V _ HVR.out Tryz.underlying59 rfl (row_dec.of HVL.out).2 ?_)
 have hcp := copyDecided_any x.de w1 (HX.out.de.keep (HF0.out.and HF1.out (by simp)) (by simp))
 rw [← HV.out] at hcp
 refine hcp.mono ?_
 rintro e_ w2 ⟨y, rfl, hyc, hyok, hf2⟩
 have HYC := Lib.hid hyc
 have HYO := Lib.hid hyok
 have HF2 := Lib.hid hf2
 have HF1 : Hid (Fr [] wa w2) := Lib.hid (HF1.out.and hf2 (by simp))
 have HB2 := Lib.hid (HB2.out.keep hf2 (by simp))
 have HB1 := Lib.hid (HB1.out.keep hf2 (by simp))
 have HSW1 : Hid (wa.heap.size < w1.heap.size) := Lib.hid HBL1.out
 clear hcp hyc hyok hf2
 obtain ⟨U, hU⟩ : ∃ U, U = y.cells := ⟨_, rfl⟩
 have HU := Lib.hid hU
 have HUL : Hid (U.length = 8) := Lib.hid (by rw [hU]; exact rfl)
 rw [← hU]
 clear hU
 have HZX : Hid (Wmg.Len {mz q f t with de := y}) := Lib.hid ⟨rfl, rfl, rfl, rfl, rfl, rfl, rfl⟩
 have HBX := Lib.hid (Wmg.blk_de HZ0.out y (by rw [← HU.out]; exact HUL.out) HB2.out)
 rw [← HU.out] at HBX
 have HFS : Hid (Fr [wa.heap.size] w2 (w2.setCells wa.heap.size 287 U)) := Lib.hid (Fr.setCells (fun _ => by simp) _ 287 _ (Fr.refl _ _))
 have HTH : Hid (w2.there wa.heap.size 287 U.toArray.size) := Lib.hid (HB2.out.thereM _ _ (by rw [List.size_toArray, List.size_toArray, HUL.out, Wmg.lenz HZ0.out]; decide))
 have HVS : Hid ((Tryz.prog.info? 59).map (·.size) = some U.toArray.size) := Lib.hid (by rw [List.size_toArray, HUL.out]; kernel_rfl)
 have HVO : Hid (U.toArray.all (·.oneCell') = true) := Lib.hid (by rw [HU.out]; exact all_oneCell_toArray (Wdc.one _))
 have HB9 : Hid (Blk (w2.setCells wa.heap.size 287 U) (w.heap.size + 1) 61 mz00) := Lib.hid (HB1.out.keep HFS.out (by have := HSZ.out; simp; omega))
 obtain ⟨E, hE⟩ : ∃ E, E = ({mz q f t with de := y} : Wmg).cells := ⟨_, rfl⟩
 have HEL : Hid (E.length = 295) := Lib.hid (by rw [hE]; exact Wmg.lenz HZX.out)
 have HEO : Hid (E.toArray.all (·.oneCell') = true) := Lib.hid (by rw [hE]; exact all_oneCell_toArray (Wmg.one _))
 have HES : Hid ((Tryz.prog.info? 61).map (·.size) = some E.toArray.size) := Lib.hid (by rw [List.size_toArray, HEL.out]; kernel_rfl)
 have HEM : Hid (mz00.size = E.toArray.size) := Lib.hid (by unfold mz00; rw [List.size_toArray, List.size_toArray, HEL.out, Wmg.lenz (mz_len _ _ _)])
 have HER : Hid ((w2.setCells wa.heap.size 287 U).rangeAt wa.heap.size 0 E) := Lib.hid (by rw [hE]; exact HBX.out.range)
 go_wp2_with (first | (refine wpList_load_mid rfl 59 _ rfl w.heap.size 287 rfl V _ HVR.out Tryz.underlying59 rfl (row_dec.of HVL.out).2 ?_) | (refine wpList_store_mid rfl 59 _ _ rfl wa.heap.size 287 U.toArray rfl rfl HTH.out HVS.out HVO.out ?_) | (refine wpList_load_mid rfl 61 _ rfl wa.heap.size 0 rfl E _ HER.out Tryz.underlying61 rfl (row_msg.of HEL.out).2 ?_) | (refine wpList_store_blk rfl 61 _ _ rfl (w.heap.size + 1) E.toArray rfl rfl 61 mz00 HB9.out HES.out HEM.out HEO.out ?_; intro w9 hb9 hf9))
 refine bodyPost_ret (v := .agg E.toArray) (results_cell_row Tryz.results11 _ _ (w.heap.size + 1) 61 E.toArray _ _ rfl hb9 Tryz.underlying61 rfl HES.out) rfl ?_
 have HS9 : Fr [wa.heap.size, w.heap.size + 1] w2 w9 := (HFS.out.mono (by intro k hk _; simp at hk; simp [hk])).trans hf9 (fun k hk _ => by simp at hk; simp [hk])
 refine ⟨{mz q f t with de := y}, by rw [hE], ?_, ?_, (HF0.out.and HF1.out (by simp)).go HS9 (by have := HSZ.out; simp; omega)⟩
 · have hqe : x.con.q = 14 := HQ.out
   unfold onlyC
   rw [show x.con.q = x.q from rfl, HQ.out]
   rw [HQE.out, HFE.out, HTE.out, HQ.out]
   simp only [Wmg.con, HYC.out]; rfl
 · have hz := mz_ok w9 [] q f t (by rw [HQE.out]; exact HX.out.q) (by rw [HFE.out]; exact HX.out.f) (by rw [HTE.out]; exact HX.out.t)
   have HW9 : Fr [] w w9 := (HF0.out.and HF1.out (by simp)).go HS9 (by have := HSZ.out; simp; omega)
   exact ⟨hz.q, hz.f, hz.t, hz.cm, hz.st, hz.ce, hz.ak, hz.e, hz.r, hz.tm, hz.pr, hz.po, hz.vt, hz.i, hz.en, hz.op, hz.dn, hz.rp, ((HYO.out [wa.heap.size, w.heap.size + 1] (by have h1 := HSZ.out; have h2 := HSW1.out; simp; omega)).keep (S' := []) HS9 (by simp))⟩
set_option maxHeartbeats 2000000 in
theorem only_5 (x : Wmg) (hq : x.q = 5) (w : World) (hx : x.Ok w []) (C : List Value) (hC : x.cells = C) :
  Calls Tryz.prog 11 #[.agg C.toArray] w (OnlyPost x w) := by
 obtain ⟨wa, hwa⟩ : ∃ wa, wa = (w.alloc (Obj.cells C.toArray 61)).alloc (Obj.cells mz00 61) := ⟨_, rfl⟩
 have hf0 : Fr [] w wa := by rw [hwa]; exact ((Fr.refl [] w).alloc _).alloc _
 have hb0 : Blk wa w.heap.size 61 x.cells.toArray := by rw [hwa, hC]; exact blk_alloc (Blk.new _ _ _)
 have hb1 : Blk wa (w.heap.size + 1) 61 mz00 := by
  have := Blk.new (w.alloc (Obj.cells C.toArray 61)) 61 mz00
  rw [hwa]
  simpa using this
 have hat : x.At wa w.heap.size := Wmg.at_of hb0.range hx
 have hcq : wa.cell? ⟨w.heap.size, 0, none⟩ = some (.int .i64 x.q) := by have h := hat.q 0 _ rfl; simpa using h
 have hcf : wa.cell? ⟨w.heap.size, 1, none⟩ = some (.int .i64 x.f) := by have h := hat.f 0 _ rfl; simpa using h
 have hct : wa.cell? ⟨w.heap.size, 2, none⟩ = some (.int .i64 x.t) := by have h := hat.t 0 _ rfl; simpa using h
 have HX := Lib.hid hx
 have HB0 := Lib.hid hb0
 have HB1 := Lib.hid hb1
 have HF0 := Lib.hid hf0
 have HWA := Lib.hid hwa
 have HSZ : Hid (wa.heap.size = w.heap.size + 2) := Lib.hid (by rw [hwa]; simp)
 obtain ⟨Z, hZ⟩ : ∃ Z, Z = (mz x.q x.f x.t).cells := ⟨_, rfl⟩
 have HBU : Hid (Tryz.prog.built 61 [(0, .int .i64 x.q), (1, .int .i64 x.f), (2, .int .i64 x.t)] = some Z.toArray) := Lib.hid (by rw [hZ]; exact built_mg3 _ _ _)
 have HZL : Hid ((Tryz.prog.info? 61).map (·.size) = some Z.toArray.size) := Lib.hid (by rw [hZ]; exact msg_size (mz_len _ _ _))
 have HZM : Hid (mz00.size = Z.toArray.size) := Lib.hid (by rw [hZ]; unfold mz00; rw [List.size_toArray, List.size_toArray, Wmg.lenz (mz_len _ _ _), Wmg.lenz (mz_len _ _ _)])
 have HZO : Hid (Z.toArray.all (·.oneCell') = true) := Lib.hid (by rw [hZ]; exact all_oneCell_toArray (Wmg.one _))
 have HZ := Lib.hid hZ
 have HQ := Lib.hid hq
 obtain ⟨q, hqq⟩ : ∃ q, q = x.q := ⟨_, rfl⟩
 obtain ⟨f, hff⟩ : ∃ f, f = x.f := ⟨_, rfl⟩
 obtain ⟨t, htt⟩ : ∃ t, t = x.t := ⟨_, rfl⟩
 rw [← hqq] at hcq
 rw [← hff] at hcf
 rw [← htt] at hct
 rw [← hqq, ← hff, ← htt] at HBU HZ
 have HQE := Lib.hid hqq
 have HFE := Lib.hid hff
 have HTE := Lib.hid htt
 clear hx hC hwa hf0 hb0 hb1 hat hZ hq hqq hff htt
 go_enter Tryz.func11, Tryz.ntmps11
 go_upto_region 1 with (fail)
 change Code.wp _ _ _ _ ((w.alloc (Obj.cells C.toArray 61)).alloc (Obj.cells mz00 61))
 rw [← HWA.out]
 go_upto_region 2 with (first
  | (refine wpList_builtg rfl 61 _ rfl _ _ HBU.out rfl ?_)
  | (refine wpList_store_blk rfl 61 _ _ rfl wa.heap.size Z.toArray rfl rfl 61 mz00 (Blk.new wa _ _) HZL.out HZM.out HZO.out ?_; intro w1 hb2 hf2))
 have HB2 : Hid (Blk w1 wa.heap.size 61 (mz q f t).cells.toArray) := Lib.hid (by rw [← HZ.out]; exact hb2)
 have HF1 : Hid (Fr [] wa w1) := Lib.hid (((Fr.refl [] wa).alloc _).go hf2 (by simp))
 clear hb2 hf2 hcf hct
 have hcq := HF1.out.cell hcq (by simp)
 have HB0 := Lib.hid (HB0.out.keep HF1.out (by simp))
 have HB1 := Lib.hid (HB1.out.keep HF1.out (by simp))
 have HBL1 : Hid (wa.heap.size < w1.heap.size) := Lib.hid HB2.out.lt
 have HAT := Lib.hid (Wmg.at_of HB0.out.range HX.out)
 have HZ0 := Lib.hid (mz_len q f t)
 rw [HQE.out, HQ.out] at hcq
 have HSI : Hid ((Tryz.prog.info? 3).map (·.size) = some 1) := Lib.hid (by kernel_rfl)
 have HSU : Hid ((Tryz.prog.info? 30).map (·.size) = some 1) := Lib.hid (by kernel_rfl)
 have HSS : Hid ((Tryz.prog.info? 9).map (·.size) = some 1) := Lib.hid (by kernel_rfl)
 have HLT : Hid (∀ y : Wmg, y.Len → ∀ k < 295, k < y.cells.toArray.size) := Lib.hid (fun y hy k hk => by rw [List.size_toArray, Wmg.lenz hy]; exact hk)
 have HCe : Hid (w1.cell? ⟨w.heap.size, 0 + 154, none⟩ = some (.int .i64 x.e)) := Lib.hid (by have h := HAT.out.e 0 _ rfl; simpa using h)
 have HCr : Hid (w1.cell? ⟨w.heap.size, 0 + 155, none⟩ = some (.int .i64 x.r)) := Lib.hid (by have h := HAT.out.r 0 _ rfl; simpa using h)
 have HCm : Hid (w1.cell? ⟨w.heap.size, 0 + 156, none⟩ = some (.int .u64 (x.tm : Int))) := Lib.hid (by have h := HAT.out.tm 0 _ rfl; simpa using h)
 have HNS : Hid (¬ w.heap.size ∈ [wa.heap.size]) := Lib.hid (by have := HSZ.out; simp; omega)
 go_upto_region 13 with (fail)
 refine wp_region_held_drew (S := Fr [wa.heap.size] w1) (by kernel_rfl) (Fr.drew (Fr.refl _ w1)) (fun hHeld => ?_)
 refine run_at (i := 0) (v := ?_) rfl (by kernel_rfl) (by rfl) (fun _ _ _ h => h) hHeld (fun w1 hw1 => ?_) ?_
 rotate_left 1
 · skip
   go_simp
   try first | with_reducible rfl | apply And.intro <;> rfl
 simp only [xPa, xPb, xPc, xPd, xPe]
 refine run_at (i := 1) (v := ?_) rfl (by kernel_rfl) (by rfl) (fun _ _ _ h => h) hHeld (fun w1 hw1 => ?_) ?_
 rotate_left 1
 · skip
   have hcw0 := hw1.cell (HCe.out) (by first | (simp; done) | exact HNS.out)
   go_simp
   try first | with_reducible rfl | apply And.intro <;> rfl
 simp only [xPa, xPb, xPc, xPd, xPe]
 refine run_at (i := 2) (v := ?_) rfl (by kernel_rfl) (by rfl) (fun _ _ _ h => h) hHeld (fun w1 hw1 => ?_) ?_
 rotate_left 1
 · skip
   go_simp
   try first | with_reducible rfl | apply And.intro <;> rfl
 simp only [xPa, xPb, xPc, xPd, xPe]
 refine run_at (i := 3) (v := ?_) rfl (by kernel_rfl) (by rfl) (fun _ _ _ h => h) hHeld (fun w1 hw1 => ?_) ?_
 rotate_left 1
 · skip
   have hcw0 := hw1.cell (HCr.out) (by first | (simp; done) | exact HNS.out)
   go_simp
   try first | with_reducible rfl | apply And.intro <;> rfl
 simp only [xPa, xPb, xPc, xPd, xPe]
 refine run_at (i := 4) (v := ?_) rfl (by kernel_rfl) (by rfl) (fun _ _ _ h => h) hHeld (fun w1 hw1 => ?_) ?_
 rotate_left 1
 · skip
   go_simp
   try first | with_reducible rfl | apply And.intro <;> rfl
 simp only [xPa, xPb, xPc, xPd, xPe]
 refine run_at (i := 5) (v := ?_) rfl (by kernel_rfl) (by rfl) (fun _ _ _ h => h) hHeld (fun w1 hw1 => ?_) ?_
 rotate_left 1
 · skip
   have hcw0 := hw1.cell (HCm.out) (by first | (simp; done) | exact HNS.out)
   go_simp
   try first | with_reducible rfl | apply And.intro <;> rfl
 simp only [xPa, xPb, xPc, xPd, xPe]
 refine run_at (i := 6) (v := ?_) rfl (by kernel_rfl) (by rfl) (fun _ _ _ h => h) hHeld (fun w1 hw1 => ?_) ?_
 rotate_left 1
 · skip
   go_simp
   try first | with_reducible rfl | apply And.intro <;> rfl
 simp only [xPa, xPb, xPc, xPd, xPe]
 have HBx0 := Lib.hid HB2.out.drew
 have HFS : Hid (Fr [wa.heap.size] w1 w1.drew) := Lib.hid hHeld
 generalize w1.drew = v0 at *
 refine step_at (i := 7) rfl (by kernel_rfl) (by rfl) (fun K hK => ?_)
 refine wp_store_at 3 _ _ rfl wa.heap.size 154 (.int .i64 x.e) rfl rfl rfl 61 _ HBx0.out (HLT.out _ HZ0.out 154 (by omega)) HSI.out ?_
 refine hK.out _ _ (Fr.setCells (fun _ => by simp) ([.int .i64 x.e]) 154 _ hHeld) (fun hHeld => ?_)
 clear hK K
 have HBx1 := Lib.hid (Wmg.blk_e HZ0.out x.e HBx0.out)
 have HZx1 : Hid (Wmg.Len {mz q f t with e := x.e}) := Lib.hid ⟨rfl, rfl, rfl, rfl, rfl, rfl, rfl⟩
 have HFS : Hid (Fr [wa.heap.size] w1 (v0.setCells wa.heap.size 154 ([.int .i64 x.e]))) := Lib.hid hHeld
 generalize v0.setCells wa.heap.size 154 ([.int .i64 x.e]) = v1 at *
 simp only [xPa, xPb, xPc, xPd, xPe]
 refine run_at (i := 8) (v := ?_) rfl (by kernel_rfl) (by rfl) (fun _ _ _ h => h) hHeld (fun w1 hw1 => ?_) ?_
 rotate_left 1
 · skip
   go_simp
   try first | with_reducible rfl | apply And.intro <;> rfl
 simp only [xPa, xPb, xPc, xPd, xPe]
 refine step_at (i := 9) rfl (by kernel_rfl) (by rfl) (fun K hK => ?_)
 refine wp_store_at 3 _ _ rfl wa.heap.size 155 (.int .i64 x.r) rfl rfl rfl 61 _ HBx1.out (HLT.out _ HZx1.out 155 (by omega)) HSI.out ?_
 refine hK.out _ _ (Fr.setCells (fun _ => by simp) ([.int .i64 x.r]) 155 _ hHeld) (fun hHeld => ?_)
 clear hK K
 have HBx2 := Lib.hid (Wmg.blk_r HZx1.out x.r HBx1.out)
 have HZx2 : Hid (Wmg.Len {mz q f t with e := x.e, r := x.r}) := Lib.hid ⟨rfl, rfl, rfl, rfl, rfl, rfl, rfl⟩
 have HFS : Hid (Fr [wa.heap.size] w1 (v1.setCells wa.heap.size 155 ([.int .i64 x.r]))) := Lib.hid hHeld
 generalize v1.setCells wa.heap.size 155 ([.int .i64 x.r]) = v2 at *
 simp only [xPa, xPb, xPc, xPd, xPe]
 refine run_at (i := 10) (v := ?_) rfl (by kernel_rfl) (by rfl) (fun _ _ _ h => h) hHeld (fun w1 hw1 => ?_) ?_
 rotate_left 1
 · skip
   go_simp
   try first | with_reducible rfl | apply And.intro <;> rfl
 simp only [xPa, xPb, xPc, xPd, xPe]
 refine step_at (i := 11) rfl (by kernel_rfl) (by rfl) (fun K hK => ?_)
 refine wp_store_at 30 _ _ rfl wa.heap.size 156 (.int .u64 (x.tm : Int)) rfl rfl rfl 61 _ HBx2.out (HLT.out _ HZx2.out 156 (by omega)) HSU.out ?_
 refine hK.out _ _ (Fr.setCells (fun _ => by simp) ([.int .u64 (x.tm : Int)]) 156 _ hHeld) (fun hHeld => ?_)
 clear hK K
 have HBx3 := Lib.hid (Wmg.blk_tm HZx2.out x.tm HBx2.out)
 have HZx3 : Hid (Wmg.Len {mz q f t with e := x.e, r := x.r, tm := x.tm}) := Lib.hid ⟨rfl, rfl, rfl, rfl, rfl, rfl, rfl⟩
 have HFS : Hid (Fr [wa.heap.size] w1 (v2.setCells wa.heap.size 156 ([.int .u64 (x.tm : Int)]))) := Lib.hid hHeld
 generalize v2.setCells wa.heap.size 156 ([.int .u64 (x.tm : Int)]) = v3 at *
 simp only [xPa, xPb, xPc, xPd, xPe]
 refine wpAnyH_done (by kernel_rfl) ?_ _
 have HBX := Lib.hid HBx3.out
 have HZX : Hid (Wmg.Len {mz q f t with e := x.e, r := x.r, tm := x.tm}) := Lib.hid HZx3.out
 have HB9 := Lib.hid (HB1.out.keep HFS.out (by have := HSZ.out; simp; omega))
 obtain ⟨E, hE⟩ : ∃ E, E = ({mz q f t with e := x.e, r := x.r, tm := x.tm} : Wmg).cells := ⟨_, rfl⟩
 have HEL : Hid (E.length = 295) := Lib.hid (by rw [hE]; exact Wmg.lenz HZX.out)
 have HEO : Hid (E.toArray.all (·.oneCell') = true) := Lib.hid (by rw [hE]; exact all_oneCell_toArray (Wmg.one _))
 have HES : Hid ((Tryz.prog.info? 61).map (·.size) = some E.toArray.size) := Lib.hid (by rw [List.size_toArray, HEL.out]; kernel_rfl)
 have HEM : Hid (mz00.size = E.toArray.size) := Lib.hid (by unfold mz00; rw [List.size_toArray, List.size_toArray, HEL.out, Wmg.lenz (mz_len _ _ _)])
 have HER : Hid (v3.rangeAt wa.heap.size 0 E) := Lib.hid (by rw [hE]; exact HBX.out.range)
 go_wp2_with (first | fail | (refine wpList_load_mid rfl 61 _ rfl wa.heap.size 0 rfl E _ HER.out Tryz.underlying61 rfl (row_msg.of HEL.out).2 ?_) | (refine wpList_store_blk rfl 61 _ _ rfl (w.heap.size + 1) E.toArray rfl rfl 61 mz00 HB9.out HES.out HEM.out HEO.out ?_; intro w9 hb9 hf9))
 refine bodyPost_ret (v := .agg E.toArray) (results_cell_row Tryz.results11 _ _ (w.heap.size + 1) 61 E.toArray _ _ rfl hb9 Tryz.underlying61 rfl HES.out) rfl ?_
 have HS9 : Fr [wa.heap.size, w.heap.size + 1] w1 w9 := (HFS.out.mono (by intro k hk _; simp at hk; simp [hk])).trans hf9 (fun k hk _ => by simp at hk; simp [hk])
 refine ⟨{mz q f t with e := x.e, r := x.r, tm := x.tm}, by rw [hE], ?_, ?_, (HF0.out.and HF1.out (by simp)).go HS9 (by have := HSZ.out; simp; omega)⟩
 · have hqe : x.con.q = 5 := HQ.out
   unfold onlyC
   rw [show x.con.q = x.q from rfl, HQ.out]
   rw [HQE.out, HFE.out, HTE.out, HQ.out]
   rfl
 · have hz := mz_ok w9 [] q f t (by rw [HQE.out]; exact HX.out.q) (by rw [HFE.out]; exact HX.out.f) (by rw [HTE.out]; exact HX.out.t)
   have HW9 : Fr [] w w9 := (HF0.out.and HF1.out (by simp)).go HS9 (by have := HSZ.out; simp; omega)
   exact ⟨hz.q, hz.f, hz.t, hz.cm, hz.st, hz.ce, hz.ak, HX.out.e, HX.out.r, HX.out.tm, hz.pr, hz.po, hz.vt, hz.i, hz.en, hz.op, hz.dn, hz.rp, hz.de⟩
set_option maxHeartbeats 2000000 in
theorem only_9 (x : Wmg) (hq : x.q = 9) (w : World) (hx : x.Ok w []) (C : List Value) (hC : x.cells = C) :
  Calls Tryz.prog 11 #[.agg C.toArray] w (OnlyPost x w) := by
 obtain ⟨wa, hwa⟩ : ∃ wa, wa = (w.alloc (Obj.cells C.toArray 61)).alloc (Obj.cells mz00 61) := ⟨_, rfl⟩
 have hf0 : Fr [] w wa := by rw [hwa]; exact ((Fr.refl [] w).alloc _).alloc _
 have hb0 : Blk wa w.heap.size 61 x.cells.toArray := by rw [hwa, hC]; exact blk_alloc (Blk.new _ _ _)
 have hb1 : Blk wa (w.heap.size + 1) 61 mz00 := by
  have := Blk.new (w.alloc (Obj.cells C.toArray 61)) 61 mz00
  rw [hwa]
  simpa using this
 have hat : x.At wa w.heap.size := Wmg.at_of hb0.range hx
 have hcq : wa.cell? ⟨w.heap.size, 0, none⟩ = some (.int .i64 x.q) := by have h := hat.q 0 _ rfl; simpa using h
 have hcf : wa.cell? ⟨w.heap.size, 1, none⟩ = some (.int .i64 x.f) := by have h := hat.f 0 _ rfl; simpa using h
 have hct : wa.cell? ⟨w.heap.size, 2, none⟩ = some (.int .i64 x.t) := by have h := hat.t 0 _ rfl; simpa using h
 have HX := Lib.hid hx
 have HB0 := Lib.hid hb0
 have HB1 := Lib.hid hb1
 have HF0 := Lib.hid hf0
 have HWA := Lib.hid hwa
 have HSZ : Hid (wa.heap.size = w.heap.size + 2) := Lib.hid (by rw [hwa]; simp)
 obtain ⟨Z, hZ⟩ : ∃ Z, Z = (mz x.q x.f x.t).cells := ⟨_, rfl⟩
 have HBU : Hid (Tryz.prog.built 61 [(0, .int .i64 x.q), (1, .int .i64 x.f), (2, .int .i64 x.t)] = some Z.toArray) := Lib.hid (by rw [hZ]; exact built_mg3 _ _ _)
 have HZL : Hid ((Tryz.prog.info? 61).map (·.size) = some Z.toArray.size) := Lib.hid (by rw [hZ]; exact msg_size (mz_len _ _ _))
 have HZM : Hid (mz00.size = Z.toArray.size) := Lib.hid (by rw [hZ]; unfold mz00; rw [List.size_toArray, List.size_toArray, Wmg.lenz (mz_len _ _ _), Wmg.lenz (mz_len _ _ _)])
 have HZO : Hid (Z.toArray.all (·.oneCell') = true) := Lib.hid (by rw [hZ]; exact all_oneCell_toArray (Wmg.one _))
 have HZ := Lib.hid hZ
 have HQ := Lib.hid hq
 obtain ⟨q, hqq⟩ : ∃ q, q = x.q := ⟨_, rfl⟩
 obtain ⟨f, hff⟩ : ∃ f, f = x.f := ⟨_, rfl⟩
 obtain ⟨t, htt⟩ : ∃ t, t = x.t := ⟨_, rfl⟩
 rw [← hqq] at hcq
 rw [← hff] at hcf
 rw [← htt] at hct
 rw [← hqq, ← hff, ← htt] at HBU HZ
 have HQE := Lib.hid hqq
 have HFE := Lib.hid hff
 have HTE := Lib.hid htt
 clear hx hC hwa hf0 hb0 hb1 hat hZ hq hqq hff htt
 go_enter Tryz.func11, Tryz.ntmps11
 go_upto_region 1 with (fail)
 change Code.wp _ _ _ _ ((w.alloc (Obj.cells C.toArray 61)).alloc (Obj.cells mz00 61))
 rw [← HWA.out]
 go_upto_region 2 with (first
  | (refine wpList_builtg rfl 61 _ rfl _ _ HBU.out rfl ?_)
  | (refine wpList_store_blk rfl 61 _ _ rfl wa.heap.size Z.toArray rfl rfl 61 mz00 (Blk.new wa _ _) HZL.out HZM.out HZO.out ?_; intro w1 hb2 hf2))
 have HB2 : Hid (Blk w1 wa.heap.size 61 (mz q f t).cells.toArray) := Lib.hid (by rw [← HZ.out]; exact hb2)
 have HF1 : Hid (Fr [] wa w1) := Lib.hid (((Fr.refl [] wa).alloc _).go hf2 (by simp))
 clear hb2 hf2 hcf hct
 have hcq := HF1.out.cell hcq (by simp)
 have HB0 := Lib.hid (HB0.out.keep HF1.out (by simp))
 have HB1 := Lib.hid (HB1.out.keep HF1.out (by simp))
 have HBL1 : Hid (wa.heap.size < w1.heap.size) := Lib.hid HB2.out.lt
 have HAT := Lib.hid (Wmg.at_of HB0.out.range HX.out)
 have HZ0 := Lib.hid (mz_len q f t)
 rw [HQE.out, HQ.out] at hcq
 have HSI : Hid ((Tryz.prog.info? 3).map (·.size) = some 1) := Lib.hid (by kernel_rfl)
 have HSU : Hid ((Tryz.prog.info? 30).map (·.size) = some 1) := Lib.hid (by kernel_rfl)
 have HSS : Hid ((Tryz.prog.info? 9).map (·.size) = some 1) := Lib.hid (by kernel_rfl)
 have HLT : Hid (∀ y : Wmg, y.Len → ∀ k < 295, k < y.cells.toArray.size) := Lib.hid (fun y hy k hk => by rw [List.size_toArray, Wmg.lenz hy]; exact hk)
 have HCi : Hid (w1.cell? ⟨w.heap.size, 0 + 212, none⟩ = some (.int .i64 x.i)) := Lib.hid (by have h := HAT.out.i 0 _ rfl; simpa using h)
 obtain ⟨V, hV⟩ : ∃ V, V = x.en.cells := ⟨_, rfl⟩
 have HVL : Hid (V.length = 35) := Lib.hid (by rw [hV]; exact Wen.len HX.out.en.h)
 have HVR : Hid (w1.rangeAt w.heap.size 213 V) := Lib.hid (by rw [hV]; exact HAT.out.en)
 have HV := Lib.hid hV
 clear hV
 have HNS : Hid (¬ w.heap.size ∈ [wa.heap.size]) := Lib.hid (by have := HSZ.out; simp; omega)
 go_upto_region 21 with (fail)
 refine wp_region_held_drew (S := Fr [wa.heap.size] w1) (by kernel_rfl) (Fr.drew (Fr.refl _ w1)) (fun hHeld => ?_)
 refine run_at (i := 0) (v := ?_) rfl (by kernel_rfl) (by rfl) (fun _ _ _ h => h) hHeld (fun w1 hw1 => ?_) ?_
 rotate_left 1
 · skip
   go_simp
   try first | with_reducible rfl | apply And.intro <;> rfl
 simp only [xPa, xPb, xPc, xPd, xPe]
 refine run_at (i := 1) (v := ?_) rfl (by kernel_rfl) (by rfl) (fun _ _ _ h => h) hHeld (fun w1 hw1 => ?_) ?_
 rotate_left 1
 · skip
   have hcw0 := hw1.cell (HCi.out) (by first | (simp; done) | exact HNS.out)
   go_simp
   try first | with_reducible rfl | apply And.intro <;> rfl
 simp only [xPa, xPb, xPc, xPd, xPe]
 refine run_at (i := 2) (v := ?_) rfl (by kernel_rfl) (by rfl) (fun _ _ _ h => h) hHeld (fun w1 hw1 => ?_) ?_
 rotate_left 1
 · skip
   go_simp
   try first | with_reducible rfl | apply And.intro <;> rfl
 simp only [xPa, xPb, xPc, xPd, xPe]
 refine row_at (i := 3) rfl (by kernel_rfl) (by rfl) _ _ rfl _ _ rfl _ (fun w1 hw1 => hw1.range (HVR.out) (by first | (simp; done) | exact HNS.out)) (row_ent.of HVL.out) (fun _ _ _ h => h) hHeld ?_
 simp only [xPa, xPb, xPc, xPd, xPe]
 refine run_at (i := 4) (v := ?_) rfl (by kernel_rfl) (by rfl) (fun _ _ _ h => h) hHeld (fun w1 hw1 => ?_) ?_
 rotate_left 1
 · skip
   go_simp
   try first | with_reducible rfl | apply And.intro <;> rfl
 simp only [xPa, xPb, xPc, xPd, xPe]
 have HBx0 := Lib.hid HB2.out.drew
 have HFS : Hid (Fr [wa.heap.size] w1 w1.drew) := Lib.hid hHeld
 generalize w1.drew = v0 at *
 refine step_at (i := 5) rfl (by kernel_rfl) (by rfl) (fun K hK => ?_)
 refine wp_store_at 3 _ _ rfl wa.heap.size 212 (.int .i64 x.i) rfl rfl rfl 61 _ HBx0.out (HLT.out _ HZ0.out 212 (by omega)) HSI.out ?_
 refine hK.out _ _ (Fr.setCells (fun _ => by simp) ([.int .i64 x.i]) 212 _ hHeld) (fun hHeld => ?_)
 clear hK K
 have HBx1 := Lib.hid (Wmg.blk_i HZ0.out x.i HBx0.out)
 have HZx1 : Hid (Wmg.Len {mz q f t with i := x.i}) := Lib.hid ⟨rfl, rfl, rfl, rfl, rfl, rfl, rfl⟩
 have HFS : Hid (Fr [wa.heap.size] w1 (v0.setCells wa.heap.size 212 ([.int .i64 x.i]))) := Lib.hid hHeld
 generalize v0.setCells wa.heap.size 212 ([.int .i64 x.i]) = v1 at *
 simp only [xPa, xPb, xPc, xPd, xPe]
 refine run_at (i := 6) (v := ?_) rfl (by kernel_rfl) (by rfl) (fun _ _ _ h => h) hHeld (fun w1 hw1 => ?_) ?_
 rotate_left 1
 · skip
   go_simp
   try first | with_reducible rfl | apply And.intro <;> rfl
 simp only [xPa, xPb, xPc, xPd, xPe]
 refine step_at (i := 7) rfl (by kernel_rfl) (by rfl) (fun K hK => ?_)
 refine wp_store_mid 51 _ _ rfl wa.heap.size 213 V.toArray rfl rfl (HBx1.out.thereM _ _ (by rw [List.size_toArray, List.size_toArray, HVL.out, Wmg.lenz HZx1.out]; decide)) (by rw [List.size_toArray, HVL.out]; kernel_rfl) (by rw [HV.out]; exact all_oneCell_toArray (Wen.one _)) ?_
 refine hK.out _ _ (Fr.setCells (fun _ => by simp) (V) 213 _ hHeld) (fun hHeld => ?_)
 clear hK K
 have HBx2 := Lib.hid (Wmg.blk_en HZx1.out x.en (Wen.len HX.out.en.h) HBx1.out)
 have HZx2 : Hid (Wmg.Len {mz q f t with i := x.i, en := x.en}) := Lib.hid ⟨rfl, rfl, rfl, rfl, rfl, HX.out.en.h, rfl⟩
 rw [← HV.out] at HBx2
 have HFS : Hid (Fr [wa.heap.size] w1 (v1.setCells wa.heap.size 213 (V))) := Lib.hid hHeld
 generalize v1.setCells wa.heap.size 213 (V) = v2 at *
 simp only [xPa, xPb, xPc, xPd, xPe]
 refine wpAnyH_done (by kernel_rfl) ?_ _
 have HBX := Lib.hid HBx2.out
 have HZX : Hid (Wmg.Len {mz q f t with i := x.i, en := x.en}) := Lib.hid HZx2.out
 have HB9 := Lib.hid (HB1.out.keep HFS.out (by have := HSZ.out; simp; omega))
 obtain ⟨E, hE⟩ : ∃ E, E = ({mz q f t with i := x.i, en := x.en} : Wmg).cells := ⟨_, rfl⟩
 have HEL : Hid (E.length = 295) := Lib.hid (by rw [hE]; exact Wmg.lenz HZX.out)
 have HEO : Hid (E.toArray.all (·.oneCell') = true) := Lib.hid (by rw [hE]; exact all_oneCell_toArray (Wmg.one _))
 have HES : Hid ((Tryz.prog.info? 61).map (·.size) = some E.toArray.size) := Lib.hid (by rw [List.size_toArray, HEL.out]; kernel_rfl)
 have HEM : Hid (mz00.size = E.toArray.size) := Lib.hid (by unfold mz00; rw [List.size_toArray, List.size_toArray, HEL.out, Wmg.lenz (mz_len _ _ _)])
 have HER : Hid (v2.rangeAt wa.heap.size 0 E) := Lib.hid (by rw [hE]; exact HBX.out.range)
 go_wp2_with (first | fail | (refine wpList_load_mid rfl 61 _ rfl wa.heap.size 0 rfl E _ HER.out Tryz.underlying61 rfl (row_msg.of HEL.out).2 ?_) | (refine wpList_store_blk rfl 61 _ _ rfl (w.heap.size + 1) E.toArray rfl rfl 61 mz00 HB9.out HES.out HEM.out HEO.out ?_; intro w9 hb9 hf9))
 refine bodyPost_ret (v := .agg E.toArray) (results_cell_row Tryz.results11 _ _ (w.heap.size + 1) 61 E.toArray _ _ rfl hb9 Tryz.underlying61 rfl HES.out) rfl ?_
 have HS9 : Fr [wa.heap.size, w.heap.size + 1] w1 w9 := (HFS.out.mono (by intro k hk _; simp at hk; simp [hk])).trans hf9 (fun k hk _ => by simp at hk; simp [hk])
 refine ⟨{mz q f t with i := x.i, en := x.en}, by rw [hE], ?_, ?_, (HF0.out.and HF1.out (by simp)).go HS9 (by have := HSZ.out; simp; omega)⟩
 · have hqe : x.con.q = 9 := HQ.out
   unfold onlyC
   rw [show x.con.q = x.q from rfl, HQ.out]
   rw [HQE.out, HFE.out, HTE.out, HQ.out]
   rfl
 · have hz := mz_ok w9 [] q f t (by rw [HQE.out]; exact HX.out.q) (by rw [HFE.out]; exact HX.out.f) (by rw [HTE.out]; exact HX.out.t)
   have HW9 : Fr [] w w9 := (HF0.out.and HF1.out (by simp)).go HS9 (by have := HSZ.out; simp; omega)
   exact ⟨hz.q, hz.f, hz.t, hz.cm, hz.st, hz.ce, hz.ak, hz.e, hz.r, hz.tm, hz.pr, hz.po, hz.vt, HX.out.i, HX.out.en, hz.op, hz.dn, hz.rp, hz.de⟩
set_option maxHeartbeats 2000000 in
theorem only_13 (x : Wmg) (hq : x.q = 13) (w : World) (hx : x.Ok w []) (C : List Value) (hC : x.cells = C) :
  Calls Tryz.prog 11 #[.agg C.toArray] w (OnlyPost x w) := by
 obtain ⟨wa, hwa⟩ : ∃ wa, wa = (w.alloc (Obj.cells C.toArray 61)).alloc (Obj.cells mz00 61) := ⟨_, rfl⟩
 have hf0 : Fr [] w wa := by rw [hwa]; exact ((Fr.refl [] w).alloc _).alloc _
 have hb0 : Blk wa w.heap.size 61 x.cells.toArray := by rw [hwa, hC]; exact blk_alloc (Blk.new _ _ _)
 have hb1 : Blk wa (w.heap.size + 1) 61 mz00 := by
  have := Blk.new (w.alloc (Obj.cells C.toArray 61)) 61 mz00
  rw [hwa]
  simpa using this
 have hat : x.At wa w.heap.size := Wmg.at_of hb0.range hx
 have hcq : wa.cell? ⟨w.heap.size, 0, none⟩ = some (.int .i64 x.q) := by have h := hat.q 0 _ rfl; simpa using h
 have hcf : wa.cell? ⟨w.heap.size, 1, none⟩ = some (.int .i64 x.f) := by have h := hat.f 0 _ rfl; simpa using h
 have hct : wa.cell? ⟨w.heap.size, 2, none⟩ = some (.int .i64 x.t) := by have h := hat.t 0 _ rfl; simpa using h
 have HX := Lib.hid hx
 have HB0 := Lib.hid hb0
 have HB1 := Lib.hid hb1
 have HF0 := Lib.hid hf0
 have HWA := Lib.hid hwa
 have HSZ : Hid (wa.heap.size = w.heap.size + 2) := Lib.hid (by rw [hwa]; simp)
 obtain ⟨Z, hZ⟩ : ∃ Z, Z = (mz x.q x.f x.t).cells := ⟨_, rfl⟩
 have HBU : Hid (Tryz.prog.built 61 [(0, .int .i64 x.q), (1, .int .i64 x.f), (2, .int .i64 x.t)] = some Z.toArray) := Lib.hid (by rw [hZ]; exact built_mg3 _ _ _)
 have HZL : Hid ((Tryz.prog.info? 61).map (·.size) = some Z.toArray.size) := Lib.hid (by rw [hZ]; exact msg_size (mz_len _ _ _))
 have HZM : Hid (mz00.size = Z.toArray.size) := Lib.hid (by rw [hZ]; unfold mz00; rw [List.size_toArray, List.size_toArray, Wmg.lenz (mz_len _ _ _), Wmg.lenz (mz_len _ _ _)])
 have HZO : Hid (Z.toArray.all (·.oneCell') = true) := Lib.hid (by rw [hZ]; exact all_oneCell_toArray (Wmg.one _))
 have HZ := Lib.hid hZ
 have HQ := Lib.hid hq
 obtain ⟨q, hqq⟩ : ∃ q, q = x.q := ⟨_, rfl⟩
 obtain ⟨f, hff⟩ : ∃ f, f = x.f := ⟨_, rfl⟩
 obtain ⟨t, htt⟩ : ∃ t, t = x.t := ⟨_, rfl⟩
 rw [← hqq] at hcq
 rw [← hff] at hcf
 rw [← htt] at hct
 rw [← hqq, ← hff, ← htt] at HBU HZ
 have HQE := Lib.hid hqq
 have HFE := Lib.hid hff
 have HTE := Lib.hid htt
 clear hx hC hwa hf0 hb0 hb1 hat hZ hq hqq hff htt
 go_enter Tryz.func11, Tryz.ntmps11
 go_upto_region 1 with (fail)
 change Code.wp _ _ _ _ ((w.alloc (Obj.cells C.toArray 61)).alloc (Obj.cells mz00 61))
 rw [← HWA.out]
 go_upto_region 2 with (first
  | (refine wpList_builtg rfl 61 _ rfl _ _ HBU.out rfl ?_)
  | (refine wpList_store_blk rfl 61 _ _ rfl wa.heap.size Z.toArray rfl rfl 61 mz00 (Blk.new wa _ _) HZL.out HZM.out HZO.out ?_; intro w1 hb2 hf2))
 have HB2 : Hid (Blk w1 wa.heap.size 61 (mz q f t).cells.toArray) := Lib.hid (by rw [← HZ.out]; exact hb2)
 have HF1 : Hid (Fr [] wa w1) := Lib.hid (((Fr.refl [] wa).alloc _).go hf2 (by simp))
 clear hb2 hf2 hcf hct
 have hcq := HF1.out.cell hcq (by simp)
 have HB0 := Lib.hid (HB0.out.keep HF1.out (by simp))
 have HB1 := Lib.hid (HB1.out.keep HF1.out (by simp))
 have HBL1 : Hid (wa.heap.size < w1.heap.size) := Lib.hid HB2.out.lt
 have HAT := Lib.hid (Wmg.at_of HB0.out.range HX.out)
 have HZ0 := Lib.hid (mz_len q f t)
 rw [HQE.out, HQ.out] at hcq
 have HSI : Hid ((Tryz.prog.info? 3).map (·.size) = some 1) := Lib.hid (by kernel_rfl)
 have HSU : Hid ((Tryz.prog.info? 30).map (·.size) = some 1) := Lib.hid (by kernel_rfl)
 have HSS : Hid ((Tryz.prog.info? 9).map (·.size) = some 1) := Lib.hid (by kernel_rfl)
 have HLT : Hid (∀ y : Wmg, y.Len → ∀ k < 295, k < y.cells.toArray.size) := Lib.hid (fun y hy k hk => by rw [List.size_toArray, Wmg.lenz hy]; exact hk)
 have HCi : Hid (w1.cell? ⟨w.heap.size, 0 + 212, none⟩ = some (.int .i64 x.i)) := Lib.hid (by have h := HAT.out.i 0 _ rfl; simpa using h)
 have HCs : Hid (w1.cell? ⟨w.heap.size, 0 + 286, none⟩ = some (.string ⟨x.rp.toArray⟩)) := Lib.hid (by have h := HAT.out.rp 0 _ rfl; simpa using h)
 have HNS : Hid (¬ w.heap.size ∈ [wa.heap.size]) := Lib.hid (by have := HSZ.out; simp; omega)
 go_upto_region 29 with (fail)
 refine wp_region_held_drew (S := Fr [wa.heap.size] w1) (by kernel_rfl) (Fr.drew (Fr.refl _ w1)) (fun hHeld => ?_)
 refine run_at (i := 0) (v := ?_) rfl (by kernel_rfl) (by rfl) (fun _ _ _ h => h) hHeld (fun w1 hw1 => ?_) ?_
 rotate_left 1
 · skip
   go_simp
   try first | with_reducible rfl | apply And.intro <;> rfl
 simp only [xPa, xPb, xPc, xPd, xPe]
 refine run_at (i := 1) (v := ?_) rfl (by kernel_rfl) (by rfl) (fun _ _ _ h => h) hHeld (fun w1 hw1 => ?_) ?_
 rotate_left 1
 · skip
   have hcw0 := hw1.cell (HCi.out) (by first | (simp; done) | exact HNS.out)
   go_simp
   try first | with_reducible rfl | apply And.intro <;> rfl
 simp only [xPa, xPb, xPc, xPd, xPe]
 refine run_at (i := 2) (v := ?_) rfl (by kernel_rfl) (by rfl) (fun _ _ _ h => h) hHeld (fun w1 hw1 => ?_) ?_
 rotate_left 1
 · skip
   go_simp
   try first | with_reducible rfl | apply And.intro <;> rfl
 simp only [xPa, xPb, xPc, xPd, xPe]
 refine run_at (i := 3) (v := ?_) rfl (by kernel_rfl) (by rfl) (fun _ _ _ h => h) hHeld (fun w1 hw1 => ?_) ?_
 rotate_left 1
 · skip
   have hcw0 := hw1.cell (HCs.out) (by first | (simp; done) | exact HNS.out)
   go_simp
   try first | with_reducible rfl | apply And.intro <;> rfl
 simp only [xPa, xPb, xPc, xPd, xPe]
 refine run_at (i := 4) (v := ?_) rfl (by kernel_rfl) (by rfl) (fun _ _ _ h => h) hHeld (fun w1 hw1 => ?_) ?_
 rotate_left 1
 · skip
   go_simp
   try first | with_reducible rfl | apply And.intro <;> rfl
 simp only [xPa, xPb, xPc, xPd, xPe]
 have HBx0 := Lib.hid HB2.out.drew
 have HFS : Hid (Fr [wa.heap.size] w1 w1.drew) := Lib.hid hHeld
 generalize w1.drew = v0 at *
 refine step_at (i := 5) rfl (by kernel_rfl) (by rfl) (fun K hK => ?_)
 refine wp_store_at 3 _ _ rfl wa.heap.size 212 (.int .i64 x.i) rfl rfl rfl 61 _ HBx0.out (HLT.out _ HZ0.out 212 (by omega)) HSI.out ?_
 refine hK.out _ _ (Fr.setCells (fun _ => by simp) ([.int .i64 x.i]) 212 _ hHeld) (fun hHeld => ?_)
 clear hK K
 have HBx1 := Lib.hid (Wmg.blk_i HZ0.out x.i HBx0.out)
 have HZx1 : Hid (Wmg.Len {mz q f t with i := x.i}) := Lib.hid ⟨rfl, rfl, rfl, rfl, rfl, rfl, rfl⟩
 have HFS : Hid (Fr [wa.heap.size] w1 (v0.setCells wa.heap.size 212 ([.int .i64 x.i]))) := Lib.hid hHeld
 generalize v0.setCells wa.heap.size 212 ([.int .i64 x.i]) = v1 at *
 simp only [xPa, xPb, xPc, xPd, xPe]
 refine run_at (i := 6) (v := ?_) rfl (by kernel_rfl) (by rfl) (fun _ _ _ h => h) hHeld (fun w1 hw1 => ?_) ?_
 rotate_left 1
 · skip
   go_simp
   try first | with_reducible rfl | apply And.intro <;> rfl
 simp only [xPa, xPb, xPc, xPd, xPe]
 refine step_at (i := 7) rfl (by kernel_rfl) (by rfl) (fun K hK => ?_)
 refine wp_store_at 9 _ _ rfl wa.heap.size 286 (.string ⟨x.rp.toArray⟩) rfl rfl rfl 61 _ HBx1.out (HLT.out _ HZx1.out 286 (by omega)) HSS.out ?_
 refine hK.out _ _ (Fr.setCells (fun _ => by simp) ([.string ⟨x.rp.toArray⟩]) 286 _ hHeld) (fun hHeld => ?_)
 clear hK K
 have HBx2 := Lib.hid (Wmg.blk_rp HZx1.out x.rp HBx1.out)
 have HZx2 : Hid (Wmg.Len {mz q f t with i := x.i, rp := x.rp}) := Lib.hid ⟨rfl, rfl, rfl, rfl, rfl, rfl, rfl⟩
 have HFS : Hid (Fr [wa.heap.size] w1 (v1.setCells wa.heap.size 286 ([.string ⟨x.rp.toArray⟩]))) := Lib.hid hHeld
 generalize v1.setCells wa.heap.size 286 ([.string ⟨x.rp.toArray⟩]) = v2 at *
 simp only [xPa, xPb, xPc, xPd, xPe]
 refine wpAnyH_done (by kernel_rfl) ?_ _
 have HBX := Lib.hid HBx2.out
 have HZX : Hid (Wmg.Len {mz q f t with i := x.i, rp := x.rp}) := Lib.hid HZx2.out
 have HB9 := Lib.hid (HB1.out.keep HFS.out (by have := HSZ.out; simp; omega))
 obtain ⟨E, hE⟩ : ∃ E, E = ({mz q f t with i := x.i, rp := x.rp} : Wmg).cells := ⟨_, rfl⟩
 have HEL : Hid (E.length = 295) := Lib.hid (by rw [hE]; exact Wmg.lenz HZX.out)
 have HEO : Hid (E.toArray.all (·.oneCell') = true) := Lib.hid (by rw [hE]; exact all_oneCell_toArray (Wmg.one _))
 have HES : Hid ((Tryz.prog.info? 61).map (·.size) = some E.toArray.size) := Lib.hid (by rw [List.size_toArray, HEL.out]; kernel_rfl)
 have HEM : Hid (mz00.size = E.toArray.size) := Lib.hid (by unfold mz00; rw [List.size_toArray, List.size_toArray, HEL.out, Wmg.lenz (mz_len _ _ _)])
 have HER : Hid (v2.rangeAt wa.heap.size 0 E) := Lib.hid (by rw [hE]; exact HBX.out.range)
 go_wp2_with (first | fail | (refine wpList_load_mid rfl 61 _ rfl wa.heap.size 0 rfl E _ HER.out Tryz.underlying61 rfl (row_msg.of HEL.out).2 ?_) | (refine wpList_store_blk rfl 61 _ _ rfl (w.heap.size + 1) E.toArray rfl rfl 61 mz00 HB9.out HES.out HEM.out HEO.out ?_; intro w9 hb9 hf9))
 refine bodyPost_ret (v := .agg E.toArray) (results_cell_row Tryz.results11 _ _ (w.heap.size + 1) 61 E.toArray _ _ rfl hb9 Tryz.underlying61 rfl HES.out) rfl ?_
 have HS9 : Fr [wa.heap.size, w.heap.size + 1] w1 w9 := (HFS.out.mono (by intro k hk _; simp at hk; simp [hk])).trans hf9 (fun k hk _ => by simp at hk; simp [hk])
 refine ⟨{mz q f t with i := x.i, rp := x.rp}, by rw [hE], ?_, ?_, (HF0.out.and HF1.out (by simp)).go HS9 (by have := HSZ.out; simp; omega)⟩
 · have hqe : x.con.q = 13 := HQ.out
   unfold onlyC
   rw [show x.con.q = x.q from rfl, HQ.out]
   rw [HQE.out, HFE.out, HTE.out, HQ.out]
   rfl
 · have hz := mz_ok w9 [] q f t (by rw [HQE.out]; exact HX.out.q) (by rw [HFE.out]; exact HX.out.f) (by rw [HTE.out]; exact HX.out.t)
   have HW9 : Fr [] w w9 := (HF0.out.and HF1.out (by simp)).go HS9 (by have := HSZ.out; simp; omega)
   exact ⟨hz.q, hz.f, hz.t, hz.cm, hz.st, hz.ce, hz.ak, hz.e, hz.r, hz.tm, hz.pr, hz.po, hz.vt, HX.out.i, hz.en, hz.op, hz.dn, HX.out.rp, hz.de⟩
set_option maxHeartbeats 2000000 in
theorem only_11 (x : Wmg) (hq : x.q = 11) (w : World) (hx : x.Ok w []) (C : List Value) (hC : x.cells = C) :
  Calls Tryz.prog 11 #[.agg C.toArray] w (OnlyPost x w) := by
 obtain ⟨wa, hwa⟩ : ∃ wa, wa = (w.alloc (Obj.cells C.toArray 61)).alloc (Obj.cells mz00 61) := ⟨_, rfl⟩
 have hf0 : Fr [] w wa := by rw [hwa]; exact ((Fr.refl [] w).alloc _).alloc _
 have hb0 : Blk wa w.heap.size 61 x.cells.toArray := by rw [hwa, hC]; exact blk_alloc (Blk.new _ _ _)
 have hb1 : Blk wa (w.heap.size + 1) 61 mz00 := by
  have := Blk.new (w.alloc (Obj.cells C.toArray 61)) 61 mz00
  rw [hwa]
  simpa using this
 have hat : x.At wa w.heap.size := Wmg.at_of hb0.range hx
 have hcq : wa.cell? ⟨w.heap.size, 0, none⟩ = some (.int .i64 x.q) := by have h := hat.q 0 _ rfl; simpa using h
 have hcf : wa.cell? ⟨w.heap.size, 1, none⟩ = some (.int .i64 x.f) := by have h := hat.f 0 _ rfl; simpa using h
 have hct : wa.cell? ⟨w.heap.size, 2, none⟩ = some (.int .i64 x.t) := by have h := hat.t 0 _ rfl; simpa using h
 have HX := Lib.hid hx
 have HB0 := Lib.hid hb0
 have HB1 := Lib.hid hb1
 have HF0 := Lib.hid hf0
 have HWA := Lib.hid hwa
 have HSZ : Hid (wa.heap.size = w.heap.size + 2) := Lib.hid (by rw [hwa]; simp)
 obtain ⟨Z, hZ⟩ : ∃ Z, Z = (mz x.q x.f x.t).cells := ⟨_, rfl⟩
 have HBU : Hid (Tryz.prog.built 61 [(0, .int .i64 x.q), (1, .int .i64 x.f), (2, .int .i64 x.t)] = some Z.toArray) := Lib.hid (by rw [hZ]; exact built_mg3 _ _ _)
 have HZL : Hid ((Tryz.prog.info? 61).map (·.size) = some Z.toArray.size) := Lib.hid (by rw [hZ]; exact msg_size (mz_len _ _ _))
 have HZM : Hid (mz00.size = Z.toArray.size) := Lib.hid (by rw [hZ]; unfold mz00; rw [List.size_toArray, List.size_toArray, Wmg.lenz (mz_len _ _ _), Wmg.lenz (mz_len _ _ _)])
 have HZO : Hid (Z.toArray.all (·.oneCell') = true) := Lib.hid (by rw [hZ]; exact all_oneCell_toArray (Wmg.one _))
 have HZ := Lib.hid hZ
 have HQ := Lib.hid hq
 obtain ⟨q, hqq⟩ : ∃ q, q = x.q := ⟨_, rfl⟩
 obtain ⟨f, hff⟩ : ∃ f, f = x.f := ⟨_, rfl⟩
 obtain ⟨t, htt⟩ : ∃ t, t = x.t := ⟨_, rfl⟩
 rw [← hqq] at hcq
 rw [← hff] at hcf
 rw [← htt] at hct
 rw [← hqq, ← hff, ← htt] at HBU HZ
 have HQE := Lib.hid hqq
 have HFE := Lib.hid hff
 have HTE := Lib.hid htt
 clear hx hC hwa hf0 hb0 hb1 hat hZ hq hqq hff htt
 go_enter Tryz.func11, Tryz.ntmps11
 go_upto_region 1 with (fail)
 change Code.wp _ _ _ _ ((w.alloc (Obj.cells C.toArray 61)).alloc (Obj.cells mz00 61))
 rw [← HWA.out]
 go_upto_region 2 with (first
  | (refine wpList_builtg rfl 61 _ rfl _ _ HBU.out rfl ?_)
  | (refine wpList_store_blk rfl 61 _ _ rfl wa.heap.size Z.toArray rfl rfl 61 mz00 (Blk.new wa _ _) HZL.out HZM.out HZO.out ?_; intro w1 hb2 hf2))
 have HB2 : Hid (Blk w1 wa.heap.size 61 (mz q f t).cells.toArray) := Lib.hid (by rw [← HZ.out]; exact hb2)
 have HF1 : Hid (Fr [] wa w1) := Lib.hid (((Fr.refl [] wa).alloc _).go hf2 (by simp))
 clear hb2 hf2 hcf hct
 have hcq := HF1.out.cell hcq (by simp)
 have HB0 := Lib.hid (HB0.out.keep HF1.out (by simp))
 have HB1 := Lib.hid (HB1.out.keep HF1.out (by simp))
 have HBL1 : Hid (wa.heap.size < w1.heap.size) := Lib.hid HB2.out.lt
 have HAT := Lib.hid (Wmg.at_of HB0.out.range HX.out)
 have HZ0 := Lib.hid (mz_len q f t)
 rw [HQE.out, HQ.out] at hcq
 have HSI : Hid ((Tryz.prog.info? 3).map (·.size) = some 1) := Lib.hid (by kernel_rfl)
 have hci : w1.cell? ⟨w.heap.size, 212, none⟩ = some (.int .i64 x.i) := by have h := HAT.out.i 0 _ rfl; simpa using h
 have HBX := Lib.hid (Wmg.blk_i HZ0.out x.i HB2.out)
 have HZX : Hid (Wmg.Len {mz q f t with i := x.i}) := Lib.hid ⟨rfl, rfl, rfl, rfl, rfl, rfl, rfl⟩
 have HFS : Hid (Fr [wa.heap.size] w1 (w1.setCells wa.heap.size 212 [.int .i64 x.i])) := Lib.hid (Fr.setCells (fun _ => by simp) _ 212 _ (Fr.refl _ _))
 have HB9 : Hid (Blk (w1.setCells wa.heap.size 212 [.int .i64 x.i]) (w.heap.size + 1) 61 mz00) := Lib.hid (HB1.out.keep HFS.out (by have := HSZ.out; simp; omega))
 obtain ⟨E, hE⟩ : ∃ E, E = ({mz q f t with i := x.i} : Wmg).cells := ⟨_, rfl⟩
 have HEL : Hid (E.length = 295) := Lib.hid (by rw [hE]; exact Wmg.lenz HZX.out)
 have HEO : Hid (E.toArray.all (·.oneCell') = true) := Lib.hid (by rw [hE]; exact all_oneCell_toArray (Wmg.one _))
 have HES : Hid ((Tryz.prog.info? 61).map (·.size) = some E.toArray.size) := Lib.hid (by rw [List.size_toArray, HEL.out]; kernel_rfl)
 have HEM : Hid (mz00.size = E.toArray.size) := Lib.hid (by unfold mz00; rw [List.size_toArray, List.size_toArray, HEL.out, Wmg.lenz (mz_len _ _ _)])
 have HER : Hid ((w1.setCells wa.heap.size 212 [.int .i64 x.i]).rangeAt wa.heap.size 0 E) := Lib.hid (by rw [hE]; exact HBX.out.range)
 go_wp2_with (first | (refine wpList_store_at rfl 3 _ _ rfl wa.heap.size 212 (.int .i64 x.i) rfl rfl rfl 61 _ HB2.out (by rw [List.size_toArray, Wmg.lenz HZ0.out]; decide) HSI.out ?_) | (refine wpList_load_mid rfl 61 _ rfl wa.heap.size 0 rfl E _ HER.out Tryz.underlying61 rfl (row_msg.of HEL.out).2 ?_) | (refine wpList_store_blk rfl 61 _ _ rfl (w.heap.size + 1) E.toArray rfl rfl 61 mz00 HB9.out HES.out HEM.out HEO.out ?_; intro w9 hb9 hf9))
 refine bodyPost_ret (v := .agg E.toArray) (results_cell_row Tryz.results11 _ _ (w.heap.size + 1) 61 E.toArray _ _ rfl hb9 Tryz.underlying61 rfl HES.out) rfl ?_
 have HS9 : Fr [wa.heap.size, w.heap.size + 1] w1 w9 := (HFS.out.mono (by intro k hk _; simp at hk; simp [hk])).trans hf9 (fun k hk _ => by simp at hk; simp [hk])
 refine ⟨{mz q f t with i := x.i}, by rw [hE], ?_, ?_, (HF0.out.and HF1.out (by simp)).go HS9 (by have := HSZ.out; simp; omega)⟩
 · have hqe : x.con.q = 11 := HQ.out
   unfold onlyC
   rw [show x.con.q = x.q from rfl, HQ.out]
   rw [HQE.out, HFE.out, HTE.out, HQ.out]
   rfl
 · have hz := mz_ok w9 [] q f t (by rw [HQE.out]; exact HX.out.q) (by rw [HFE.out]; exact HX.out.f) (by rw [HTE.out]; exact HX.out.t)
   have HW9 : Fr [] w w9 := (HF0.out.and HF1.out (by simp)).go HS9 (by have := HSZ.out; simp; omega)
   exact ⟨hz.q, hz.f, hz.t, hz.cm, hz.st, hz.ce, hz.ak, hz.e, hz.r, hz.tm, hz.pr, hz.po, hz.vt, HX.out.i, hz.en, hz.op, hz.dn, hz.rp, hz.de⟩
set_option maxHeartbeats 2000000 in
theorem only_none (x : Wmg) (hq : ¬ (1 ≤ x.q ∧ x.q ≤ 14)) (w : World) (hx : x.Ok w []) (C : List Value) (hC : x.cells = C) :
  Calls Tryz.prog 11 #[.agg C.toArray] w (OnlyPost x w) := by
 obtain ⟨wa, hwa⟩ : ∃ wa, wa = (w.alloc (Obj.cells C.toArray 61)).alloc (Obj.cells mz00 61) := ⟨_, rfl⟩
 have hf0 : Fr [] w wa := by rw [hwa]; exact ((Fr.refl [] w).alloc _).alloc _
 have hb0 : Blk wa w.heap.size 61 x.cells.toArray := by rw [hwa, hC]; exact blk_alloc (Blk.new _ _ _)
 have hb1 : Blk wa (w.heap.size + 1) 61 mz00 := by
  have := Blk.new (w.alloc (Obj.cells C.toArray 61)) 61 mz00
  rw [hwa]
  simpa using this
 have hat : x.At wa w.heap.size := Wmg.at_of hb0.range hx
 have hcq : wa.cell? ⟨w.heap.size, 0, none⟩ = some (.int .i64 x.q) := by have h := hat.q 0 _ rfl; simpa using h
 have hcf : wa.cell? ⟨w.heap.size, 1, none⟩ = some (.int .i64 x.f) := by have h := hat.f 0 _ rfl; simpa using h
 have hct : wa.cell? ⟨w.heap.size, 2, none⟩ = some (.int .i64 x.t) := by have h := hat.t 0 _ rfl; simpa using h
 have HX := Lib.hid hx
 have HB0 := Lib.hid hb0
 have HB1 := Lib.hid hb1
 have HF0 := Lib.hid hf0
 have HWA := Lib.hid hwa
 have HSZ : Hid (wa.heap.size = w.heap.size + 2) := Lib.hid (by rw [hwa]; simp)
 obtain ⟨Z, hZ⟩ : ∃ Z, Z = (mz x.q x.f x.t).cells := ⟨_, rfl⟩
 have HBU : Hid (Tryz.prog.built 61 [(0, .int .i64 x.q), (1, .int .i64 x.f), (2, .int .i64 x.t)] = some Z.toArray) := Lib.hid (by rw [hZ]; exact built_mg3 _ _ _)
 have HZL : Hid ((Tryz.prog.info? 61).map (·.size) = some Z.toArray.size) := Lib.hid (by rw [hZ]; exact msg_size (mz_len _ _ _))
 have HZM : Hid (mz00.size = Z.toArray.size) := Lib.hid (by rw [hZ]; unfold mz00; rw [List.size_toArray, List.size_toArray, Wmg.lenz (mz_len _ _ _), Wmg.lenz (mz_len _ _ _)])
 have HZO : Hid (Z.toArray.all (·.oneCell') = true) := Lib.hid (by rw [hZ]; exact all_oneCell_toArray (Wmg.one _))
 have HZ := Lib.hid hZ
 have HQ := Lib.hid hq
 obtain ⟨q, hqq⟩ : ∃ q, q = x.q := ⟨_, rfl⟩
 obtain ⟨f, hff⟩ : ∃ f, f = x.f := ⟨_, rfl⟩
 obtain ⟨t, htt⟩ : ∃ t, t = x.t := ⟨_, rfl⟩
 rw [← hqq] at hcq
 rw [← hff] at hcf
 rw [← htt] at hct
 rw [← hqq, ← hff, ← htt] at HBU HZ
 have HQE := Lib.hid hqq
 have HFE := Lib.hid hff
 have HTE := Lib.hid htt
 clear hx hC hwa hf0 hb0 hb1 hat hZ hq hqq hff htt
 go_enter Tryz.func11, Tryz.ntmps11
 go_upto_region 1 with (fail)
 change Code.wp _ _ _ _ ((w.alloc (Obj.cells C.toArray 61)).alloc (Obj.cells mz00 61))
 rw [← HWA.out]
 go_upto_region 2 with (first
  | (refine wpList_builtg rfl 61 _ rfl _ _ HBU.out rfl ?_)
  | (refine wpList_store_blk rfl 61 _ _ rfl wa.heap.size Z.toArray rfl rfl 61 mz00 (Blk.new wa _ _) HZL.out HZM.out HZO.out ?_; intro w1 hb2 hf2))
 have HB2 : Hid (Blk w1 wa.heap.size 61 (mz q f t).cells.toArray) := Lib.hid (by rw [← HZ.out]; exact hb2)
 have HF1 : Hid (Fr [] wa w1) := Lib.hid (((Fr.refl [] wa).alloc _).go hf2 (by simp))
 clear hb2 hf2 hcf hct
 have hcq := HF1.out.cell hcq (by simp)
 have HB0 := Lib.hid (HB0.out.keep HF1.out (by simp))
 have HB1 := Lib.hid (HB1.out.keep HF1.out (by simp))
 have HBL1 : Hid (wa.heap.size < w1.heap.size) := Lib.hid HB2.out.lt
 have HAT := Lib.hid (Wmg.at_of HB0.out.range HX.out)
 have HZ0 := Lib.hid (mz_len q f t)
 have hq1 : (q == 1) = false := by have h1 := HQ.out; have h2 := HQE.out; simp; omega
 have hq2 : (q == 2) = false := by have h1 := HQ.out; have h2 := HQE.out; simp; omega
 have hq3 : (q == 3) = false := by have h1 := HQ.out; have h2 := HQE.out; simp; omega
 have hq4 : (q == 4) = false := by have h1 := HQ.out; have h2 := HQE.out; simp; omega
 have hq5 : (q == 5) = false := by have h1 := HQ.out; have h2 := HQE.out; simp; omega
 have hq6 : (q == 6) = false := by have h1 := HQ.out; have h2 := HQE.out; simp; omega
 have hq7 : (q == 7) = false := by have h1 := HQ.out; have h2 := HQE.out; simp; omega
 have hq8 : (q == 8) = false := by have h1 := HQ.out; have h2 := HQE.out; simp; omega
 have hq9 : (q == 9) = false := by have h1 := HQ.out; have h2 := HQE.out; simp; omega
 have hq10 : (q == 10) = false := by have h1 := HQ.out; have h2 := HQE.out; simp; omega
 have hq11 : (q == 11) = false := by have h1 := HQ.out; have h2 := HQE.out; simp; omega
 have hq12 : (q == 12) = false := by have h1 := HQ.out; have h2 := HQE.out; simp; omega
 have hq13 : (q == 13) = false := by have h1 := HQ.out; have h2 := HQE.out; simp; omega
 have hq14 : (q == 14) = false := by have h1 := HQ.out; have h2 := HQE.out; simp; omega
 have HB9 := Lib.hid HB1.out
 obtain ⟨E, hE⟩ : ∃ E, E = (mz 0 0 0).cells := ⟨_, rfl⟩
 have HEL : Hid (E.length = 295) := Lib.hid (by rw [hE]; exact Wmg.lenz (mz_len _ _ _))
 have HEB : Hid (Tryz.prog.built 61 [] = some E.toArray) := Lib.hid (by rw [hE]; exact built_mg0)
 have HEO : Hid (E.toArray.all (·.oneCell') = true) := Lib.hid (by rw [hE]; exact all_oneCell_toArray (Wmg.one _))
 have HES : Hid ((Tryz.prog.info? 61).map (·.size) = some E.toArray.size) := Lib.hid (by rw [List.size_toArray, HEL.out]; kernel_rfl)
 have HEM : Hid (mz00.size = E.toArray.size) := Lib.hid (by unfold mz00; rw [List.size_toArray, List.size_toArray, HEL.out, Wmg.lenz (mz_len _ _ _)])
 go_wp2_with (first | (refine wpList_builtg rfl 61 _ rfl _ _ HEB.out rfl ?_) | (refine wpList_store_blk rfl 61 _ _ rfl (w.heap.size + 1) E.toArray rfl rfl 61 mz00 HB9.out HES.out HEM.out HEO.out ?_; intro w9 hb9 hf9))
 refine bodyPost_ret (v := .agg E.toArray) (results_cell_row Tryz.results11 _ _ (w.heap.size + 1) 61 E.toArray _ _ rfl hb9 Tryz.underlying61 rfl HES.out) rfl ?_
 refine ⟨mz 0 0 0, by rw [hE], ?_, mz_ok w9 [] 0 0 0 zero_in zero_in zero_in, (HF0.out.and HF1.out (by simp)).go hf9 (by simp)⟩
 have hn := HQ.out
 unfold onlyC
 rw [show x.con.q = x.q from rfl]
 rw [if_neg (show ¬ x.q = 1 by omega)]
 rw [if_neg (show ¬ x.q = 2 by omega)]
 rw [if_neg (show ¬ x.q = 3 by omega)]
 rw [if_neg (show ¬ x.q = 4 by omega)]
 rw [if_neg (show ¬ x.q = 5 by omega)]
 rw [if_neg (show ¬ x.q = 6 by omega)]
 rw [if_neg (show ¬ x.q = 7 by omega)]
 rw [if_neg (show ¬ x.q = 8 by omega)]
 rw [if_neg (show ¬ x.q = 9 by omega)]
 rw [if_neg (show ¬ x.q = 10 by omega)]
 rw [if_neg (show ¬ x.q = 11 by omega)]
 rw [if_neg (show ¬ x.q = 12 by omega)]
 rw [if_neg (show ¬ x.q = 13 by omega)]
 rw [if_neg (show ¬ x.q = 14 by omega)]
theorem only_any (x : Wmg) (w : World) (hx : x.Ok w []) (C : List Value) (hC : x.cells = C) : Calls Tryz.prog 11 #[.agg C.toArray] w (OnlyPost x w) := by
 by_cases hm : 1 ≤ x.q ∧ x.q ≤ 14
 · have h : x.q = 1 ∨ x.q = 2 ∨ x.q = 3 ∨ x.q = 4 ∨ x.q = 5 ∨ x.q = 6 ∨ x.q = 7 ∨ x.q = 8 ∨ x.q = 9 ∨ x.q = 10 ∨ x.q = 11 ∨ x.q = 12 ∨ x.q = 13 ∨ x.q = 14 := by omega
   rcases h with h | h | h | h | h | h | h | h | h | h | h | h | h | h
   · exact only_1 x h w hx C hC
   · exact only_2 x h w hx C hC
   · exact only_3 x h w hx C hC
   · exact only_4 x h w hx C hC
   · exact only_5 x h w hx C hC
   · exact only_6 x h w hx C hC
   · exact only_7 x h w hx C hC
   · exact only_8 x h w hx C hC
   · exact only_9 x h w hx C hC
   · exact only_10 x h w hx C hC
   · exact only_11 x h w hx C hC
   · exact only_12 x h w hx C hC
   · exact only_13 x h w hx C hC
   · exact only_14 x h w hx C hC
 · exact only_none x hm w hx C hC
end Go.Proofs.YtpcnedpheplofaaGreat
