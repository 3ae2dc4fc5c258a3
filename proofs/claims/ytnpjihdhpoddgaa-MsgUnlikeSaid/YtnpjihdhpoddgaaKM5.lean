/- Texts that the proof stands on: gavelkeep's Proposal and Msg, wherever the parts lie. (written by gen_mke.py) | Promises, certificates, commitments, signatures that come in as arguments. | Openings, tombstones, batches, proposals that come in: what their reading says of cells. (written by gen_wbt.py) | Votes, acks, entries, decided, messages that come in: what their reading says of cells. (written by gen_mo.py) -/
import Derived.Test.YtnpjihdhpoddgaaKM4
set_option maxRecDepth 100000

namespace Go.Proofs.Ytnpjihdhpoddgaa
open Go.RowKit
set_option maxRecDepth 100000
theorem row_vtk : RowTy Try.prog 49 38 := ⟨by kernel_rfl, by kernel_rfl⟩
theorem row_akk : RowTy Try.prog 37 38 := ⟨by kernel_rfl, by kernel_rfl⟩
theorem row_pok : RowTy Try.prog 47 11 := ⟨by kernel_rfl, by kernel_rfl⟩
theorem row_bak : RowTy Try.prog 45 5 := ⟨by kernel_rfl, by kernel_rfl⟩
theorem row_stk2 : RowTy Try.prog 32 38 := ⟨by kernel_rfl, by kernel_rfl⟩

set_option maxHeartbeats 4000000 in
theorem votes_eq (A B : Option Addr) (n d d' : Nat) (l m : List Wvt) (w : World) (hl : Lst 38 Wvt.cells (fun _ v => v.Ok) w A n l) (hm : Lst 38 Wvt.cells (fun _ v => v.Ok) w B n m) (hlm : l.map id = m.map id) (hn : n ≤ 1000) :
    Calls Try.prog 19 #[.slice A n d, .slice B n d'] w fun e w' => e = .returned (.bool true) ∧ Fr [] w w' := by
  have HL := Lib.hid hl
  have HM := Lib.hid hm
  have HLM := Lib.hid hlm
  have HN := Lib.hid hn
  have hn1 : (n : Int) ≤ 9223372036854775807 := by omega
  have hnn : ((n : Int) != (n : Int)) = false := by simp
  clear hl hm hn hlm
  go_enter Try.func19, Try.ntmps19
  go_wp2_with fail
  clear hnn
  go_loopw [5] (fun i wr => ∃ j : Nat, j ≤ n ∧ i = .int .i64 j ∧ Hid (Fr [] w wr)) (fun i _ => n - (intOf i).toNat)
  case atStart => exact ⟨0, by omega, rfl, Lib.hid (Fr.refl _ _)⟩
  case round =>
    obtain ⟨j, hj, rfl, HF⟩ := hrel
    by_cases hlt : j < n
    · obtain ⟨ad, v, hA, hv, hcl, hok, hcells⟩ := HL.out.at (i := j) hlt
      obtain ⟨bd, u, hB, hu, hclu, hoku, hcellu⟩ := HM.out.at (i := j) hlt
      subst hA
      subst hB
      have HVU := Lib.hid (map_at HLM.out hv hu)
      have HCELLS : Hid (∀ i c, (Wvt.cells v)[i]? = some c → wr.cell? ((ad.add (j * 38)).add i) = some c) := Lib.hid (fun i c hc => HF.out.cell (hcells i c hc) (by simp))
      have HCELLU : Hid (∀ i c, (Wvt.cells u)[i]? = some c → wr.cell? ((bd.add (j * 38)).add i) = some c) := Lib.hid (fun i c hc => HF.out.cell (hcellu i c hc) (by simp))
      have HCL := Lib.hid hcl
      have HCLU := Lib.hid hclu
      have HOK := Lib.hid hok
      have HOKU := Lib.hid hoku
      have HJN := Lib.hid hlt
      have hj0 : (0 : Int) ≤ j := by omega
      clear hcells hcl hok hv hcellu hclu hoku hu
      have hvu : v = u := HVU.out
      subst hvu
      have HEQ : Hid (∀ W : World, (Op.equalIn 10000 49 (.agg v.cells.toArray) (.agg v.cells.toArray)).run Try.prog W = .ok true W) := Lib.hid (fun W => by have h := eql_Wvt v v HOK.out.h HOK.out.h W; rw [(Wvt.eqB_iff v v).2 rfl] at h; exact h)
      go_upto_region 6 with (fail)
      refine wp_region_held_drew (S := Fr [] wr) (by kernel_rfl) (Fr.drew (Fr.refl _ wr)) (fun hHeld => ?_)
      generalize wr.drew = w9 at *
      refine run_at (i := 0) (v := ?_) rfl (by kernel_rfl) (by rfl) (fun _ _ _ h => h) hHeld (fun w1 hw1 => ?_) ?_
      rotate_left 1
      · skip
        go_simp
        (try (first | with_reducible rfl | (apply And.intro <;> rfl)))
      simp only [Act.put, List.setIfInBounds_toArray, List.set_cons_zero, List.set_cons_succ]
      refine run_at (i := 1) (v := ?_) rfl (by kernel_rfl) (by rfl) (fun _ _ _ h => h) hHeld (fun w1 hw1 => ?_) ?_
      rotate_left 1
      · skip
        go_simp
        (try (first | with_reducible rfl | (apply And.intro <;> rfl)))
      simp only [Act.put, List.setIfInBounds_toArray, List.set_cons_zero, List.set_cons_succ]
      refine run_at (i := 2) (v := ?_) rfl (by kernel_rfl) (by rfl) (fun _ _ _ h => h) hHeld (fun w1 hw1 => ?_) ?_
      rotate_left 1
      · skip
        go_simp
        (try (first | with_reducible rfl | (apply And.intro <;> rfl)))
      simp only [Act.put, List.setIfInBounds_toArray, List.set_cons_zero, List.set_cons_succ]
      refine crow_at (i := 3) rfl (by kernel_rfl) (by rfl) _ _ rfl _ rfl _ (fun w1 hw1 j v hv => hw1.cell ((HCELLS.out) j v hv) (by simp)) (row_vtk.of HCL.out) (fun _ _ _ h => h) hHeld ?_
      simp only [Act.put, List.setIfInBounds_toArray, List.set_cons_zero, List.set_cons_succ]
      refine run_at (i := 4) (v := ?_) rfl (by kernel_rfl) (by rfl) (fun _ _ _ h => h) hHeld (fun w1 hw1 => ?_) ?_
      rotate_left 1
      · skip
        go_simp
        (try (first | with_reducible rfl | (apply And.intro <;> rfl)))
      simp only [Act.put, List.setIfInBounds_toArray, List.set_cons_zero, List.set_cons_succ]
      refine run_at (i := 5) (v := ?_) rfl (by kernel_rfl) (by rfl) (fun _ _ _ h => h) hHeld (fun w1 hw1 => ?_) ?_
      rotate_left 1
      · skip
        go_simp
        (try (first | with_reducible rfl | (apply And.intro <;> rfl)))
      simp only [Act.put, List.setIfInBounds_toArray, List.set_cons_zero, List.set_cons_succ]
      refine run_at (i := 6) (v := ?_) rfl (by kernel_rfl) (by rfl) (fun _ _ _ h => h) hHeld (fun w1 hw1 => ?_) ?_
      rotate_left 1
      · skip
        go_simp
        (try (first | with_reducible rfl | (apply And.intro <;> rfl)))
      simp only [Act.put, List.setIfInBounds_toArray, List.set_cons_zero, List.set_cons_succ]
      refine crow_at (i := 7) rfl (by kernel_rfl) (by rfl) _ _ rfl _ rfl _ (fun w1 hw1 j v hv => hw1.cell ((HCELLU.out) j v hv) (by simp)) (row_vtk.of HCLU.out) (fun _ _ _ h => h) hHeld ?_
      simp only [Act.put, List.setIfInBounds_toArray, List.set_cons_zero, List.set_cons_succ]
      refine neq_at (i := 8) rfl (by kernel_rfl) (by rfl) _ _ _ _ rfl _ _ rfl rfl _ (by kernel_rfl) (HEQ.out) (fun _ _ _ h => h) hHeld ?_
      simp only [Act.put, List.setIfInBounds_toArray, List.set_cons_zero, List.set_cons_succ]
      refine wpAnyH_done (by kernel_rfl) ?_ _
      have HF9 : Hid (Fr [] w w9) := Lib.hid (HF.out.and hHeld (by simp))
      clear hHeld HCELLS HCL HCELLU HCLU HVU
      clear HOK HOKU
      go_wp2
      go_roundw
      case rel => exact ⟨j + 1, by have := HJN.out; omega, by go_num, HF9⟩
      case measure => have := HJN.out; simp [intOf]; omega
    · have hjn : n = j := by omega
      subst hjn
      clear hlt hj
      go_wp2
      go_ret
      exact ⟨rfl, HF.out⟩

set_option maxHeartbeats 2000000 in
theorem proposal_eq (x y : Wpo) (w : World) (hx : x.Li w []) (hy : y.Li w []) (he : x.con = y.con) (C D : List Value) (hC : x.cells = C) (hD : y.cells = D) :
    Calls Try.prog 16 #[.agg C.toArray, .agg D.toArray] w fun e w' => e = .returned (.bool true) ∧ Fr [] w w' := by
  obtain ⟨wa, hwa⟩ : ∃ wa, wa = (w.alloc (Obj.cells C.toArray 47)).alloc (Obj.cells D.toArray 47) := ⟨_, rfl⟩
  have hf0 : Fr [] w wa := by rw [hwa]; exact ((Fr.refl [] w).alloc _).alloc _
  have hb0 : Blk wa w.heap.size 47 x.cells.toArray := by rw [hwa, hC]; exact blk_alloc (Blk.new _ _ _)
  have hb1 : Blk wa (w.heap.size + 1) 47 y.cells.toArray := by
    have := Blk.new (w.alloc (Obj.cells C.toArray 47)) 47 D.toArray
    rw [hwa, hD]
    simpa using this
  obtain ⟨e, r, v, p, k, b, mm⟩ := x
  obtain ⟨e', r', v', p', k', b', mm'⟩ := y
  unfold Wpo.con at he
  simp only [Cpo.mk.injEq] at he
  obtain ⟨rfl, rfl, rfl, rfl, hk, rfl, rfl⟩ := he
  have hr0 := hb0.range
  have hr1 := hb1.range
  have h00 : wa.cell? ⟨w.heap.size, 0, none⟩ = some (.int .i64 e) := by have h := hr0 0 _ rfl; simpa using h
  have h10 : wa.cell? ⟨w.heap.size + 1, 0, none⟩ = some (.int .i64 e) := by have h := hr1 0 _ rfl; simpa using h
  have h01 : wa.cell? ⟨w.heap.size, 1, none⟩ = some (.int .i64 r) := by have h := hr0 1 _ rfl; simpa using h
  have h11 : wa.cell? ⟨w.heap.size + 1, 1, none⟩ = some (.int .i64 r) := by have h := hr1 1 _ rfl; simpa using h
  have h02 : wa.cell? ⟨w.heap.size, 2, none⟩ = some (.int .i64 v) := by have h := hr0 2 _ rfl; simpa using h
  have h12 : wa.cell? ⟨w.heap.size + 1, 2, none⟩ = some (.int .i64 v) := by have h := hr1 2 _ rfl; simpa using h
  have h03 : wa.cell? ⟨w.heap.size, 3, none⟩ = some (.int .i64 p) := by have h := hr0 3 _ rfl; simpa using h
  have h13 : wa.cell? ⟨w.heap.size + 1, 3, none⟩ = some (.int .i64 p) := by have h := hr1 3 _ rfl; simpa using h
  have HK0 : Hid (wa.rangeAt w.heap.size 4 k.cells) := Lib.hid (rangeAt_sub (o := 0) (xs := [.int .i64 e, .int .i64 r, .int .i64 v, .int .i64 p]) (ys := k.cells) (zs := [.int .i64 b, .int .i64 mm]) hr0)
  have HK1 : Hid (wa.rangeAt (w.heap.size + 1) 4 k'.cells) := Lib.hid (rangeAt_sub (o := 0) (xs := [.int .i64 e, .int .i64 r, .int .i64 v, .int .i64 p]) (ys := k'.cells) (zs := [.int .i64 b, .int .i64 mm]) hr1)
  have HH0 : Hid (wa.rangeAt w.heap.size 9 [.int .i64 b, .int .i64 mm]) := Lib.hid (ra_tail (o := 4) (k := 5) (ra_tail (o := 0) (k := 4) (a := [.int .i64 e, .int .i64 r, .int .i64 v, .int .i64 p]) hr0 rfl) rfl)
  have HH1 : Hid (wa.rangeAt (w.heap.size + 1) 9 [.int .i64 b, .int .i64 mm]) := Lib.hid (ra_tail (o := 4) (k := 5) (ra_tail (o := 0) (k := 4) (a := [.int .i64 e, .int .i64 r, .int .i64 v, .int .i64 p]) hr1 rfl) rfl)
  have HEQ : Hid ((Op.equalIn 10000 27 (.agg #[.int .i64 b, .int .i64 mm]) (.agg #[.int .i64 b, .int .i64 mm])).run Try.prog wa = .ok true wa) := Lib.hid (sig_selfd b mm 9998 wa)
  have HF0 := Lib.hid hf0
  have HWA := Lib.hid hwa
  have HX : Hid (k.Li wa []) := Lib.hid (hx.k.keep hf0 (by simp))
  have HY : Hid (k'.Li wa []) := Lib.hid (hy.k.keep hf0 (by simp))
  have HKK := Lib.hid hk
  have hee : (e == e) = true := by simp
  have hrr : (r == r) = true := by simp
  have hvv : (v == v) = true := by simp
  have hpp : (p == p) = true := by simp
  clear hwa hf0 hb0 hb1 hr0 hr1 hx hy hC hD hk
  obtain ⟨KC, hKC⟩ : ∃ KC, k.cells = KC := ⟨_, rfl⟩
  obtain ⟨KD, hKD⟩ : ∃ KD, k'.cells = KD := ⟨_, rfl⟩
  rw [hKC] at HK0
  rw [hKD] at HK1
  have HLC : Hid (KC.length = 5) := Lib.hid (by rw [← hKC]; rfl)
  have HLD : Hid (KD.length = 5) := Lib.hid (by rw [← hKD]; rfl)
  have HKC := Lib.hid hKC
  have HKD := Lib.hid hKD
  clear hKC hKD
  go_enter Try.func16, Try.ntmps16
  go_upto_region 1 with (fail)
  change Code.wp _ _ _ _ ((w.alloc (Obj.cells C.toArray 47)).alloc (Obj.cells D.toArray 47))
  rw [← HWA.out]
  go_wp2_with (first
    | (refine wpList_midg rfl 27 _ rfl w.heap.size 9 rfl [.int .i64 b, .int .i64 mm] HH0.out row_sg2 ?_)
    | (refine wpList_midg rfl 27 _ rfl (w.heap.size + 1) 9 rfl [.int .i64 b, .int .i64 mm] HH1.out row_sg2 ?_)
    | (refine wpList_midg rfl 45 _ rfl w.heap.size 4 rfl KC HK0.out (row_bak.of HLC.out) ?_)
    | (refine wpList_midg rfl 45 _ rfl (w.heap.size + 1) 4 rfl KD HK1.out (row_bak.of HLD.out) ?_)
    | (refine wpList_eqlg rfl 27 _ _ _ rfl #[.int .i64 b, .int .i64 mm] #[.int .i64 b, .int .i64 mm] rfl rfl true (by kernel_rfl) HEQ.out ?_))
  refine (batch_eq k k' wa HX.out HY.out HKK.out _ _ HKC.out HKD.out).mono ?_
  rintro e_ w1 ⟨rfl, hf1⟩
  have HF1 : Hid (Fr [] w w1) := Lib.hid (HF0.out.and hf1 (by simp))
  clear hf1 h00 h10 h01 h11 h02 h12 h03 h13 hee hrr hvv hpp
  go_wp2
  go_ret
  exact ⟨rfl, HF1.out⟩

theorem Wmg.Li.len {w : World} {S : List Nat} {x : Wmg} (h : x.Li w S) : x.Len := ⟨h.cm.h, h.st.h, h.ce.k.h, h.ak.h, h.vt.h, h.en.h, h.op.h⟩
theorem Wdc.at_k {w : World} {g o : Nat} {x : Wdc} (h : w.rangeAt g o x.cells) : w.cell? ⟨g, o, none⟩ = some (.int .i64 x.e) ∧ w.cell? ⟨g, o + 1, none⟩ = some (.int .i64 x.r) ∧ w.rangeAt g (o + 2) x.k.cells ∧ w.cell? ⟨g, o + 7, none⟩ = some (.slice x.A x.n x.d) := by
  have h2 := ra_tail (k := 2) h rfl
  exact ⟨by have h := h 0 _ rfl; simpa using h, by have h := h 1 _ rfl; simpa using h, ra_head h2, by have h := ra_tail (k := 5) h2 rfl 0 _ rfl; simpa using h⟩
def KmPost (c : Prop) (w : World) (e : Ending) (w' : World) : Prop := ∃ b : Bool, e = .returned (.bool b) ∧ (b = true ↔ c) ∧ Fr [] w w'
theorem KmPost.f {c : Prop} {w w' : World} (h : ¬ c) (hf : Fr [] w w') : KmPost c w (.returned (.bool false)) w' := ⟨false, rfl, by simp [h], hf⟩
theorem KmPost.t {c : Prop} {w w' : World} (h : c) (hf : Fr [] w w') : KmPost c w (.returned (.bool true)) w' := ⟨true, rfl, by simp [h], hf⟩
set_option maxHeartbeats 8000000 in
theorem kmsg_any (x y : Wmg) (w : World) (hx : x.Li w []) (hy : y.Li w []) (hq : x.q = y.q) (hcm : x.cm = y.cm) (hst : x.st = y.st) (hce : x.ce.con = y.ce.con) (hak : x.ak = y.ak) (hpr : x.pr.con = y.pr.con) (hpo : x.po.con = y.po.con) (hop : x.op.con = y.op.con) (hdn : x.dn = y.dn) (hrp : x.rp = y.rp) (hde : x.de.con = y.de.con)
    (C D : List Value) (hC : x.cells = C) (hD : y.cells = D) :
    Calls Try.prog 6 #[.agg C.toArray, .agg D.toArray] w fun e w' => KmPost (x.f = y.f ∧ x.t = y.t ∧ x.e = y.e ∧ x.r = y.r ∧ x.tm = y.tm ∧ x.vt = y.vt ∧ x.i = y.i ∧ x.en = y.en) w e w' := by
  obtain ⟨wa, hwa⟩ : ∃ wa, wa = (w.alloc (Obj.cells C.toArray 61)).alloc (Obj.cells D.toArray 61) := ⟨_, rfl⟩
  have hf0 : Fr [] w wa := by rw [hwa]; exact ((Fr.refl [] w).alloc _).alloc _
  have hb0 : Blk wa w.heap.size 61 x.cells.toArray := by rw [hwa, hC]; exact blk_alloc (Blk.new _ _ _)
  have hb1 : Blk wa (w.heap.size + 1) 61 y.cells.toArray := by
    have := Blk.new (w.alloc (Obj.cells C.toArray 61)) 61 D.toArray
    rw [hwa, hD]
    simpa using this
  obtain ⟨q, f, t, cm, st, ce, ak, e, r, tm, pr, po, vt, i, en, op, dn, rp, de⟩ := x
  obtain ⟨q', f', t', cm', st', ce', ak', e', r', tm', pr', po', vt', i', en', op', dn', rp', de'⟩ := y
  simp only at hq hcm hst hce hak hpr hpo hop hdn hrp hde
  subst hq hcm hst hak hdn hrp
  have HB0 := Lib.hid hb0
  have HB1 := Lib.hid hb1
  have HLX := Lib.hid hx.len
  have HLY := Lib.hid hy.len
  have HF0 := Lib.hid hf0
  have HWA := Lib.hid hwa
  have HX := Lib.hid hx
  have HY := Lib.hid hy
  have HCE := Lib.hid hce
  have HPR := Lib.hid hpr
  have HPO := Lib.hid hpo
  have HOP := Lib.hid hop
  have HDE := Lib.hid hde
  clear hwa hf0 hb0 hb1 hx hy hC hD hce hpr hpo hop hde
  obtain ⟨Ccm, hCcm⟩ : ∃ L, L = cm.cells := ⟨_, rfl⟩
  have HLcm : Hid (Ccm.length = 37) := Lib.hid (by rw [hCcm]; exact Wcm.len HLX.out.cm)
  have HCcm := Lib.hid hCcm
  clear hCcm
  obtain ⟨Cst, hCst⟩ : ∃ L, L = st.cells := ⟨_, rfl⟩
  have HLst : Hid (Cst.length = 38) := Lib.hid (by rw [hCst]; exact Wst.len HLX.out.st)
  have HCst := Lib.hid hCst
  clear hCst
  obtain ⟨Cce, hCce⟩ : ∃ L, L = ce.cells := ⟨_, rfl⟩
  have HLce : Hid (Cce.length = 38) := Lib.hid (by rw [hCce]; exact Wce.len HLX.out.ce)
  have HCce := Lib.hid hCce
  clear hCce
  obtain ⟨Dce, hDce⟩ : ∃ L, L = ce'.cells := ⟨_, rfl⟩
  have HMce : Hid (Dce.length = 38) := Lib.hid (by rw [hDce]; exact Wce.len HLY.out.ce)
  have HDce := Lib.hid hDce
  clear hDce
  obtain ⟨Cak, hCak⟩ : ∃ L, L = ak.cells := ⟨_, rfl⟩
  have HLak : Hid (Cak.length = 38) := Lib.hid (by rw [hCak]; exact Wst.len HLX.out.ak)
  have HCak := Lib.hid hCak
  clear hCak
  obtain ⟨Cpr, hCpr⟩ : ∃ L, L = pr.cells := ⟨_, rfl⟩
  have HLpr : Hid (Cpr.length = 6) := Lib.hid (by rw [hCpr]; exact Wpr.len _)
  have HCpr := Lib.hid hCpr
  clear hCpr
  obtain ⟨Dpr, hDpr⟩ : ∃ L, L = pr'.cells := ⟨_, rfl⟩
  have HMpr : Hid (Dpr.length = 6) := Lib.hid (by rw [hDpr]; exact Wpr.len _)
  have HDpr := Lib.hid hDpr
  clear hDpr
  obtain ⟨Cpo, hCpo⟩ : ∃ L, L = po.cells := ⟨_, rfl⟩
  have HLpo : Hid (Cpo.length = 11) := Lib.hid (by rw [hCpo]; exact Wpo.len _)
  have HCpo := Lib.hid hCpo
  clear hCpo
  obtain ⟨Dpo, hDpo⟩ : ∃ L, L = po'.cells := ⟨_, rfl⟩
  have HMpo : Hid (Dpo.length = 11) := Lib.hid (by rw [hDpo]; exact Wpo.len _)
  have HDpo := Lib.hid hDpo
  clear hDpo
  obtain ⟨Cvt, hCvt⟩ : ∃ L, L = vt.cells := ⟨_, rfl⟩
  have HLvt : Hid (Cvt.length = 38) := Lib.hid (by rw [hCvt]; exact Wvt.len HLX.out.vt)
  have HCvt := Lib.hid hCvt
  clear hCvt
  obtain ⟨Dvt, hDvt⟩ : ∃ L, L = vt'.cells := ⟨_, rfl⟩
  have HMvt : Hid (Dvt.length = 38) := Lib.hid (by rw [hDvt]; exact Wvt.len HLY.out.vt)
  have HDvt := Lib.hid hDvt
  clear hDvt
  obtain ⟨Cen, hCen⟩ : ∃ L, L = en.cells := ⟨_, rfl⟩
  have HLen : Hid (Cen.length = 35) := Lib.hid (by rw [hCen]; exact Wen.len HLX.out.en)
  have HCen := Lib.hid hCen
  clear hCen
  obtain ⟨Den, hDen⟩ : ∃ L, L = en'.cells := ⟨_, rfl⟩
  have HMen : Hid (Den.length = 35) := Lib.hid (by rw [hDen]; exact Wen.len HLY.out.en)
  have HDen := Lib.hid hDen
  clear hDen
  obtain ⟨Cop, hCop⟩ : ∃ L, L = op.cells := ⟨_, rfl⟩
  have HLop : Hid (Cop.length = 34) := Lib.hid (by rw [hCop]; exact Wop.len HLX.out.op)
  have HCop := Lib.hid hCop
  clear hCop
  obtain ⟨Dop, hDop⟩ : ∃ L, L = op'.cells := ⟨_, rfl⟩
  have HMop : Hid (Dop.length = 34) := Lib.hid (by rw [hDop]; exact Wop.len HLY.out.op)
  have HDop := Lib.hid hDop
  clear hDop
  obtain ⟨Cdn, hCdn⟩ : ∃ L, L = dn.cells := ⟨_, rfl⟩
  have HLdn : Hid (Cdn.length = 4) := Lib.hid (by rw [hCdn]; exact Wdn.len _)
  have HCdn := Lib.hid hCdn
  clear hCdn
  go_enter Try.func6, Try.ntmps6
  go_upto_region 1 with (fail)
  change Code.wp _ _ _ _ ((w.alloc (Obj.cells C.toArray 61)).alloc (Obj.cells D.toArray 61))
  rw [← HWA.out]
  have hat0 := Wmg.at_len HB0.out.range HLX.out
  have hau0 := Wmg.at_len HB1.out.range HLY.out
  have cq0 : wa.cell? ⟨w.heap.size, 0, none⟩ = some (.int .i64 (q)) := by have h := hat0.q 0 _ rfl; simpa using h
  have dq0 : wa.cell? ⟨w.heap.size + 1, 0, none⟩ = some (.int .i64 (q)) := by have h := hau0.q 0 _ rfl; simpa using h
  have cf0 : wa.cell? ⟨w.heap.size, 1, none⟩ = some (.int .i64 (f)) := by have h := hat0.f 0 _ rfl; simpa using h
  have df0 : wa.cell? ⟨w.heap.size + 1, 1, none⟩ = some (.int .i64 (f')) := by have h := hau0.f 0 _ rfl; simpa using h
  have ct0 : wa.cell? ⟨w.heap.size, 2, none⟩ = some (.int .i64 (t)) := by have h := hat0.t 0 _ rfl; simpa using h
  have dt0 : wa.cell? ⟨w.heap.size + 1, 2, none⟩ = some (.int .i64 (t')) := by have h := hau0.t 0 _ rfl; simpa using h
  have HRcm0 : Hid (wa.rangeAt w.heap.size 3 Ccm) := Lib.hid (by rw [HCcm.out]; exact hat0.cm)
  have HScm0 : Hid (wa.rangeAt (w.heap.size + 1) 3 Ccm) := Lib.hid (by rw [HCcm.out]; exact hau0.cm)
  have HRst0 : Hid (wa.rangeAt w.heap.size 40 Cst) := Lib.hid (by rw [HCst.out]; exact hat0.st)
  have HSst0 : Hid (wa.rangeAt (w.heap.size + 1) 40 Cst) := Lib.hid (by rw [HCst.out]; exact hau0.st)
  have HRce0 : Hid (wa.rangeAt w.heap.size 78 Cce) := Lib.hid (by rw [HCce.out]; exact hat0.ce)
  have HSce0 : Hid (wa.rangeAt (w.heap.size + 1) 78 Dce) := Lib.hid (by rw [HDce.out]; exact hau0.ce)
  have HQcm : Hid ((Op.equalIn 10000 29 (.agg Ccm.toArray) (.agg Ccm.toArray)).run Try.prog wa = .ok true wa) := Lib.hid (by rw [HCcm.out]; exact eq_Wcm cm HLX.out.cm wa)
  have HQst : Hid ((Op.equalIn 10000 32 (.agg Cst.toArray) (.agg Cst.toArray)).run Try.prog wa = .ok true wa) := Lib.hid (by rw [HCst.out]; have h := eql_Wst st st HLX.out.st HLX.out.st wa; rw [(Wst.eqB_iff st st).2 rfl] at h; exact h)
  clear hat0 hau0
  have gq : ((q : Int) == q) = true := by simp
  by_cases hf : f = f'
  case neg =>
    have gf : ((f : Int) == (f' : Int)) = false := by simp; omega
    iterate 27 (first
        | (show wpList _ _ _ _ _ _; refine wpList_midg (by kernel_rfl) 29 _ rfl w.heap.size 3 rfl Ccm HRcm0.out (row_cmt.of HLcm.out) ?_)
        | (show wpList _ _ _ _ _ _; refine wpList_midg (by kernel_rfl) 29 _ rfl (w.heap.size + 1) 3 rfl Ccm HScm0.out (row_cmt.of HLcm.out) ?_)
        | (show wpList _ _ _ _ _ _; refine wpList_midg (by kernel_rfl) 32 _ rfl w.heap.size 40 rfl Cst HRst0.out (row_stk2.of HLst.out) ?_)
        | (show wpList _ _ _ _ _ _; refine wpList_midg (by kernel_rfl) 32 _ rfl (w.heap.size + 1) 40 rfl Cst HSst0.out (row_stk2.of HLst.out) ?_)
        | (show wpList _ _ _ _ _ _; refine wpList_midg (by kernel_rfl) 35 _ rfl w.heap.size 78 rfl Cce HRce0.out (row_crt.of HLce.out) ?_)
        | (show wpList _ _ _ _ _ _; refine wpList_midg (by kernel_rfl) 35 _ rfl (w.heap.size + 1) 78 rfl Dce HSce0.out (row_crt.of HMce.out) ?_)
        | (show wpList _ _ _ _ _ _; refine wpList_eqlg (by kernel_rfl) 29 _ _ _ rfl Ccm.toArray Ccm.toArray rfl rfl true (by kernel_rfl) HQcm.out ?_)
        | (show wpList _ _ _ _ _ _; refine wpList_eqlg (by kernel_rfl) 32 _ _ _ rfl Cst.toArray Cst.toArray rfl rfl true (by kernel_rfl) HQst.out ?_)
        | go_values
        | go_skip
        | go_guarded
        | go_step
        | go_upon
        | go_back)
    refine wpList_false 17 4 _ (by kernel_rfl) rfl rfl (by kernel_rfl) ?_
    intro T hT
    go_wp2
    go_ret
    rw [hT]
    exact KmPost.f (by simp [hf]) HF0.out
  have gf : ((f : Int) == (f' : Int)) = true := by simp; omega
  by_cases ht : t = t'
  case neg =>
    have gt : ((t : Int) == (t' : Int)) = false := by simp; omega
    iterate 41 (first
        | (show wpList _ _ _ _ _ _; refine wpList_midg (by kernel_rfl) 29 _ rfl w.heap.size 3 rfl Ccm HRcm0.out (row_cmt.of HLcm.out) ?_)
        | (show wpList _ _ _ _ _ _; refine wpList_midg (by kernel_rfl) 29 _ rfl (w.heap.size + 1) 3 rfl Ccm HScm0.out (row_cmt.of HLcm.out) ?_)
        | (show wpList _ _ _ _ _ _; refine wpList_midg (by kernel_rfl) 32 _ rfl w.heap.size 40 rfl Cst HRst0.out (row_stk2.of HLst.out) ?_)
        | (show wpList _ _ _ _ _ _; refine wpList_midg (by kernel_rfl) 32 _ rfl (w.heap.size + 1) 40 rfl Cst HSst0.out (row_stk2.of HLst.out) ?_)
        | (show wpList _ _ _ _ _ _; refine wpList_midg (by kernel_rfl) 35 _ rfl w.heap.size 78 rfl Cce HRce0.out (row_crt.of HLce.out) ?_)
        | (show wpList _ _ _ _ _ _; refine wpList_midg (by kernel_rfl) 35 _ rfl (w.heap.size + 1) 78 rfl Dce HSce0.out (row_crt.of HMce.out) ?_)
        | (show wpList _ _ _ _ _ _; refine wpList_eqlg (by kernel_rfl) 29 _ _ _ rfl Ccm.toArray Ccm.toArray rfl rfl true (by kernel_rfl) HQcm.out ?_)
        | (show wpList _ _ _ _ _ _; refine wpList_eqlg (by kernel_rfl) 32 _ _ _ rfl Cst.toArray Cst.toArray rfl rfl true (by kernel_rfl) HQst.out ?_)
        | go_values
        | go_skip
        | go_guarded
        | go_step
        | go_upon
        | go_back)
    refine wpList_false 24 4 _ (by kernel_rfl) rfl rfl (by kernel_rfl) ?_
    intro T hT
    go_wp2
    go_ret
    rw [hT]
    exact KmPost.f (by simp [ht]) HF0.out
  have gt : ((t : Int) == (t' : Int)) = true := by simp; omega
  repeat (first
      | (show wpList _ _ _ _ _ _; refine wpList_midg (by kernel_rfl) 29 _ rfl w.heap.size 3 rfl Ccm HRcm0.out (row_cmt.of HLcm.out) ?_)
      | (show wpList _ _ _ _ _ _; refine wpList_midg (by kernel_rfl) 29 _ rfl (w.heap.size + 1) 3 rfl Ccm HScm0.out (row_cmt.of HLcm.out) ?_)
      | (show wpList _ _ _ _ _ _; refine wpList_midg (by kernel_rfl) 32 _ rfl w.heap.size 40 rfl Cst HRst0.out (row_stk2.of HLst.out) ?_)
      | (show wpList _ _ _ _ _ _; refine wpList_midg (by kernel_rfl) 32 _ rfl (w.heap.size + 1) 40 rfl Cst HSst0.out (row_stk2.of HLst.out) ?_)
      | (show wpList _ _ _ _ _ _; refine wpList_midg (by kernel_rfl) 35 _ rfl w.heap.size 78 rfl Cce HRce0.out (row_crt.of HLce.out) ?_)
      | (show wpList _ _ _ _ _ _; refine wpList_midg (by kernel_rfl) 35 _ rfl (w.heap.size + 1) 78 rfl Dce HSce0.out (row_crt.of HMce.out) ?_)
      | (show wpList _ _ _ _ _ _; refine wpList_eqlg (by kernel_rfl) 29 _ _ _ rfl Ccm.toArray Ccm.toArray rfl rfl true (by kernel_rfl) HQcm.out ?_)
      | (show wpList _ _ _ _ _ _; refine wpList_eqlg (by kernel_rfl) 32 _ _ _ rfl Cst.toArray Cst.toArray rfl rfl true (by kernel_rfl) HQst.out ?_)
      | go_values
      | go_skip
      | go_guarded
      | go_step
      | go_upon
      | go_back)
  refine (cert_eq ce ce' wa (HX.out.ce.keep HF0.out (by simp)) (HY.out.ce.keep HF0.out (by simp)) HCE.out _ _ HCce.out.symm HDce.out.symm).mono ?_
  rintro e_ w1 ⟨rfl, hf1⟩
  have HF1 : Hid (Fr [] w w1) := Lib.hid (HF0.out.and hf1 (by simp))
  have HB01 := Lib.hid (HB0.out.keep hf1 (by simp))
  have HB11 := Lib.hid (HB1.out.keep hf1 (by simp))
  clear hf1 cq0 dq0 cf0 df0 ct0 dt0 gq gf gt HRcm0 HScm0 HRst0 HSst0 HRce0 HSce0 HQcm HQst
  go_simp
  have hat1 := Wmg.at_len HB01.out.range HLX.out
  have hau1 := Wmg.at_len HB11.out.range HLY.out
  have ce1 : w1.cell? ⟨w.heap.size, 154, none⟩ = some (.int .i64 (e)) := by have h := hat1.e 0 _ rfl; simpa using h
  have de1 : w1.cell? ⟨w.heap.size + 1, 154, none⟩ = some (.int .i64 (e')) := by have h := hau1.e 0 _ rfl; simpa using h
  have cr1 : w1.cell? ⟨w.heap.size, 155, none⟩ = some (.int .i64 (r)) := by have h := hat1.r 0 _ rfl; simpa using h
  have dr1 : w1.cell? ⟨w.heap.size + 1, 155, none⟩ = some (.int .i64 (r')) := by have h := hau1.r 0 _ rfl; simpa using h
  have ctm1 : w1.cell? ⟨w.heap.size, 156, none⟩ = some (.int .u64 (tm : Int)) := by have h := hat1.tm 0 _ rfl; simpa using h
  have dtm1 : w1.cell? ⟨w.heap.size + 1, 156, none⟩ = some (.int .u64 (tm' : Int)) := by have h := hau1.tm 0 _ rfl; simpa using h
  have HRak1 : Hid (w1.rangeAt w.heap.size 116 Cak) := Lib.hid (by rw [HCak.out]; exact hat1.ak)
  have HSak1 : Hid (w1.rangeAt (w.heap.size + 1) 116 Cak) := Lib.hid (by rw [HCak.out]; exact hau1.ak)
  have HRpr1 : Hid (w1.rangeAt w.heap.size 157 Cpr) := Lib.hid (by rw [HCpr.out]; exact hat1.pr)
  have HSpr1 : Hid (w1.rangeAt (w.heap.size + 1) 157 Dpr) := Lib.hid (by rw [HDpr.out]; exact hau1.pr)
  have HQak : Hid ((Op.equalIn 10000 37 (.agg Cak.toArray) (.agg Cak.toArray)).run Try.prog w1 = .ok true w1) := Lib.hid (by rw [HCak.out]; have h := eql_Wak ak ak HLX.out.ak HLX.out.ak w1; rw [(Wst.eqB_iff ak ak).2 rfl] at h; exact h)
  clear hat1 hau1
  by_cases he : e = e'
  case neg =>
    have ge : ((e : Int) == (e' : Int)) = false := by simp; omega
    iterate 30 (first
        | (show wpList _ _ _ _ _ _; refine wpList_midg (by kernel_rfl) 37 _ rfl w.heap.size 116 rfl Cak HRak1.out (row_akk.of HLak.out) ?_)
        | (show wpList _ _ _ _ _ _; refine wpList_midg (by kernel_rfl) 37 _ rfl (w.heap.size + 1) 116 rfl Cak HSak1.out (row_akk.of HLak.out) ?_)
        | (show wpList _ _ _ _ _ _; refine wpList_midg (by kernel_rfl) 40 _ rfl w.heap.size 157 rfl Cpr HRpr1.out (row_prm.of HLpr.out) ?_)
        | (show wpList _ _ _ _ _ _; refine wpList_midg (by kernel_rfl) 40 _ rfl (w.heap.size + 1) 157 rfl Dpr HSpr1.out (row_prm.of HMpr.out) ?_)
        | (show wpList _ _ _ _ _ _; refine wpList_eqlg (by kernel_rfl) 37 _ _ _ rfl Cak.toArray Cak.toArray rfl rfl true (by kernel_rfl) HQak.out ?_)
        | go_values
        | go_skip
        | go_guarded
        | go_step
        | go_upon
        | go_back)
    refine wpList_false 59 4 _ (by kernel_rfl) rfl rfl (by kernel_rfl) ?_
    intro T hT
    go_wp2
    go_ret
    rw [hT]
    exact KmPost.f (by simp [he]) HF1.out
  have ge : ((e : Int) == (e' : Int)) = true := by simp; omega
  by_cases hr : r = r'
  case neg =>
    have gr : ((r : Int) == (r' : Int)) = false := by simp; omega
    iterate 44 (first
        | (show wpList _ _ _ _ _ _; refine wpList_midg (by kernel_rfl) 37 _ rfl w.heap.size 116 rfl Cak HRak1.out (row_akk.of HLak.out) ?_)
        | (show wpList _ _ _ _ _ _; refine wpList_midg (by kernel_rfl) 37 _ rfl (w.heap.size + 1) 116 rfl Cak HSak1.out (row_akk.of HLak.out) ?_)
        | (show wpList _ _ _ _ _ _; refine wpList_midg (by kernel_rfl) 40 _ rfl w.heap.size 157 rfl Cpr HRpr1.out (row_prm.of HLpr.out) ?_)
        | (show wpList _ _ _ _ _ _; refine wpList_midg (by kernel_rfl) 40 _ rfl (w.heap.size + 1) 157 rfl Dpr HSpr1.out (row_prm.of HMpr.out) ?_)
        | (show wpList _ _ _ _ _ _; refine wpList_eqlg (by kernel_rfl) 37 _ _ _ rfl Cak.toArray Cak.toArray rfl rfl true (by kernel_rfl) HQak.out ?_)
        | go_values
        | go_skip
        | go_guarded
        | go_step
        | go_upon
        | go_back)
    refine wpList_false 66 4 _ (by kernel_rfl) rfl rfl (by kernel_rfl) ?_
    intro T hT
    go_wp2
    go_ret
    rw [hT]
    exact KmPost.f (by simp [hr]) HF1.out
  have gr : ((r : Int) == (r' : Int)) = true := by simp; omega
  by_cases htm : tm = tm'
  case neg =>
    have gtm : ((tm : Int) == (tm' : Int)) = false := by simp; omega
    iterate 58 (first
        | (show wpList _ _ _ _ _ _; refine wpList_midg (by kernel_rfl) 37 _ rfl w.heap.size 116 rfl Cak HRak1.out (row_akk.of HLak.out) ?_)
        | (show wpList _ _ _ _ _ _; refine wpList_midg (by kernel_rfl) 37 _ rfl (w.heap.size + 1) 116 rfl Cak HSak1.out (row_akk.of HLak.out) ?_)
        | (show wpList _ _ _ _ _ _; refine wpList_midg (by kernel_rfl) 40 _ rfl w.heap.size 157 rfl Cpr HRpr1.out (row_prm.of HLpr.out) ?_)
        | (show wpList _ _ _ _ _ _; refine wpList_midg (by kernel_rfl) 40 _ rfl (w.heap.size + 1) 157 rfl Dpr HSpr1.out (row_prm.of HMpr.out) ?_)
        | (show wpList _ _ _ _ _ _; refine wpList_eqlg (by kernel_rfl) 37 _ _ _ rfl Cak.toArray Cak.toArray rfl rfl true (by kernel_rfl) HQak.out ?_)
        | go_values
        | go_skip
        | go_guarded
        | go_step
        | go_upon
        | go_back)
    refine wpList_false 73 4 _ (by kernel_rfl) rfl rfl (by kernel_rfl) ?_
    intro T hT
    go_wp2
    go_ret
    rw [hT]
    exact KmPost.f (by simp [htm]) HF1.out
  have gtm : ((tm : Int) == (tm' : Int)) = true := by simp; omega
  repeat (first
      | (show wpList _ _ _ _ _ _; refine wpList_midg (by kernel_rfl) 37 _ rfl w.heap.size 116 rfl Cak HRak1.out (row_akk.of HLak.out) ?_)
      | (show wpList _ _ _ _ _ _; refine wpList_midg (by kernel_rfl) 37 _ rfl (w.heap.size + 1) 116 rfl Cak HSak1.out (row_akk.of HLak.out) ?_)
      | (show wpList _ _ _ _ _ _; refine wpList_midg (by kernel_rfl) 40 _ rfl w.heap.size 157 rfl Cpr HRpr1.out (row_prm.of HLpr.out) ?_)
      | (show wpList _ _ _ _ _ _; refine wpList_midg (by kernel_rfl) 40 _ rfl (w.heap.size + 1) 157 rfl Dpr HSpr1.out (row_prm.of HMpr.out) ?_)
      | (show wpList _ _ _ _ _ _; refine wpList_eqlg (by kernel_rfl) 37 _ _ _ rfl Cak.toArray Cak.toArray rfl rfl true (by kernel_rfl) HQak.out ?_)
      | go_values
      | go_skip
      | go_guarded
      | go_step
      | go_upon
      | go_back)
  refine (promise_eq pr pr' w1 (HX.out.pr.keep HF1.out (by simp)) (HY.out.pr.keep HF1.out (by simp)) HPR.out _ _ HCpr.out.symm HDpr.out.symm).mono ?_
  rintro e_ w2 ⟨rfl, hf2⟩
  have HF2 : Hid (Fr [] w w2) := Lib.hid (HF1.out.and hf2 (by simp))
  have HB02 := Lib.hid (HB01.out.keep hf2 (by simp))
  have HB12 := Lib.hid (HB11.out.keep hf2 (by simp))
  clear hf2 ce1 de1 cr1 dr1 ctm1 dtm1 ge gr gtm HRak1 HSak1 HRpr1 HSpr1 HQak
  go_simp
  have hat2 := Wmg.at_len HB02.out.range HLX.out
  have hau2 := Wmg.at_len HB12.out.range HLY.out
  have HRpo2 : Hid (w2.rangeAt w.heap.size 163 Cpo) := Lib.hid (by rw [HCpo.out]; exact hat2.po)
  have HSpo2 : Hid (w2.rangeAt (w.heap.size + 1) 163 Dpo) := Lib.hid (by rw [HDpo.out]; exact hau2.po)
  clear hat2 hau2
  repeat (first
      | (show wpList _ _ _ _ _ _; refine wpList_midg (by kernel_rfl) 47 _ rfl w.heap.size 163 rfl Cpo HRpo2.out (row_pok.of HLpo.out) ?_)
      | (show wpList _ _ _ _ _ _; refine wpList_midg (by kernel_rfl) 47 _ rfl (w.heap.size + 1) 163 rfl Dpo HSpo2.out (row_pok.of HMpo.out) ?_)
      | go_values
      | go_skip
      | go_guarded
      | go_step
      | go_upon
      | go_back)
  refine (proposal_eq po po' w2 (HX.out.po.keep HF2.out (by simp)) (HY.out.po.keep HF2.out (by simp)) HPO.out _ _ HCpo.out.symm HDpo.out.symm).mono ?_
  rintro e_ w3 ⟨rfl, hf3⟩
  have HF3 : Hid (Fr [] w w3) := Lib.hid (HF2.out.and hf3 (by simp))
  have HB03 := Lib.hid (HB02.out.keep hf3 (by simp))
  have HB13 := Lib.hid (HB12.out.keep hf3 (by simp))
  clear hf3 HRpo2 HSpo2
  go_simp
  have hat3 := Wmg.at_len HB03.out.range HLX.out
  have hau3 := Wmg.at_len HB13.out.range HLY.out
  have ci3 : w3.cell? ⟨w.heap.size, 212, none⟩ = some (.int .i64 (i)) := by have h := hat3.i 0 _ rfl; simpa using h
  have di3 : w3.cell? ⟨w.heap.size + 1, 212, none⟩ = some (.int .i64 (i')) := by have h := hau3.i 0 _ rfl; simpa using h
  have HRvt3 : Hid (w3.rangeAt w.heap.size 174 Cvt) := Lib.hid (by rw [HCvt.out]; exact hat3.vt)
  have HSvt3 : Hid (w3.rangeAt (w.heap.size + 1) 174 Dvt) := Lib.hid (by rw [HDvt.out]; exact hau3.vt)
  have HRen3 : Hid (w3.rangeAt w.heap.size 213 Cen) := Lib.hid (by rw [HCen.out]; exact hat3.en)
  have HSen3 : Hid (w3.rangeAt (w.heap.size + 1) 213 Den) := Lib.hid (by rw [HDen.out]; exact hau3.en)
  have HRop3 : Hid (w3.rangeAt w.heap.size 248 Cop) := Lib.hid (by rw [HCop.out]; exact hat3.op)
  have HSop3 : Hid (w3.rangeAt (w.heap.size + 1) 248 Dop) := Lib.hid (by rw [HDop.out]; exact hau3.op)
  clear hat3 hau3
  have HQvt : Hid ((Op.equalIn 10000 49 (.agg Cvt.toArray) (.agg Dvt.toArray)).run Try.prog w3 = .ok (vt.eqB vt') w3) := Lib.hid (by rw [HCvt.out, HDvt.out]; exact eql_Wvt vt vt' HLX.out.vt HLY.out.vt w3)
  have HQen : Hid ((Op.equalIn 10000 51 (.agg Cen.toArray) (.agg Den.toArray)).run Try.prog w3 = .ok (en.eqB en') w3) := Lib.hid (by rw [HCen.out, HDen.out]; exact eql_Wen en en' HLX.out.en HLY.out.en w3)
  obtain ⟨bv, hbv⟩ : ∃ bv, bv = vt.eqB vt' := ⟨_, rfl⟩
  rw [← hbv] at HQvt
  have HBV : Hid (bv = true ↔ vt = vt') := Lib.hid (by rw [hbv]; exact Wvt.eqB_iff _ _)
  clear hbv
  obtain ⟨bn, hbn⟩ : ∃ bn, bn = en.eqB en' := ⟨_, rfl⟩
  rw [← hbn] at HQen
  have HBN : Hid (bn = true ↔ en = en') := Lib.hid (by rw [hbn]; exact Wen.eqB_iff _ _)
  clear hbn
  cases bv
  case false =>
    iterate 16 (first
        | (show wpList _ _ _ _ _ _; refine wpList_midg (by kernel_rfl) 49 _ rfl w.heap.size 174 rfl Cvt HRvt3.out (row_vtk.of HLvt.out) ?_)
        | (show wpList _ _ _ _ _ _; refine wpList_midg (by kernel_rfl) 49 _ rfl (w.heap.size + 1) 174 rfl Dvt HSvt3.out (row_vtk.of HMvt.out) ?_)
        | (show wpList _ _ _ _ _ _; refine wpList_midg (by kernel_rfl) 51 _ rfl w.heap.size 213 rfl Cen HRen3.out (row_ent.of HLen.out) ?_)
        | (show wpList _ _ _ _ _ _; refine wpList_midg (by kernel_rfl) 51 _ rfl (w.heap.size + 1) 213 rfl Den HSen3.out (row_ent.of HMen.out) ?_)
        | (show wpList _ _ _ _ _ _; refine wpList_midg (by kernel_rfl) 54 _ rfl w.heap.size 248 rfl Cop HRop3.out (row_opS.of HLop.out) ?_)
        | (show wpList _ _ _ _ _ _; refine wpList_midg (by kernel_rfl) 54 _ rfl (w.heap.size + 1) 248 rfl Dop HSop3.out (row_opS.of HMop.out) ?_)
        | (show wpList _ _ _ _ _ _; refine wpList_eqlg (by kernel_rfl) 49 _ _ _ rfl Cvt.toArray Dvt.toArray rfl rfl false (by kernel_rfl) HQvt.out ?_)
        | (show wpList _ _ _ _ _ _; refine wpList_eqlg (by kernel_rfl) 51 _ _ _ rfl Cen.toArray Den.toArray rfl rfl bn (by kernel_rfl) HQen.out ?_)
        | go_values
        | go_skip
        | go_guarded
        | go_step
        | go_upon
        | go_back)
    refine wpList_false 94 4 _ (by kernel_rfl) rfl rfl (by kernel_rfl) ?_
    intro T hT
    go_wp2
    go_ret
    rw [hT]
    exact KmPost.f (by have h := HBV.out; simp at h; simp [h]) HF3.out
  by_cases hi : i = i'
  case neg =>
    have gi : ((i : Int) == (i' : Int)) = false := by simp; omega
    iterate 30 (first
        | (show wpList _ _ _ _ _ _; refine wpList_midg (by kernel_rfl) 49 _ rfl w.heap.size 174 rfl Cvt HRvt3.out (row_vtk.of HLvt.out) ?_)
        | (show wpList _ _ _ _ _ _; refine wpList_midg (by kernel_rfl) 49 _ rfl (w.heap.size + 1) 174 rfl Dvt HSvt3.out (row_vtk.of HMvt.out) ?_)
        | (show wpList _ _ _ _ _ _; refine wpList_midg (by kernel_rfl) 51 _ rfl w.heap.size 213 rfl Cen HRen3.out (row_ent.of HLen.out) ?_)
        | (show wpList _ _ _ _ _ _; refine wpList_midg (by kernel_rfl) 51 _ rfl (w.heap.size + 1) 213 rfl Den HSen3.out (row_ent.of HMen.out) ?_)
        | (show wpList _ _ _ _ _ _; refine wpList_midg (by kernel_rfl) 54 _ rfl w.heap.size 248 rfl Cop HRop3.out (row_opS.of HLop.out) ?_)
        | (show wpList _ _ _ _ _ _; refine wpList_midg (by kernel_rfl) 54 _ rfl (w.heap.size + 1) 248 rfl Dop HSop3.out (row_opS.of HMop.out) ?_)
        | (show wpList _ _ _ _ _ _; refine wpList_eqlg (by kernel_rfl) 49 _ _ _ rfl Cvt.toArray Dvt.toArray rfl rfl true (by kernel_rfl) HQvt.out ?_)
        | (show wpList _ _ _ _ _ _; refine wpList_eqlg (by kernel_rfl) 51 _ _ _ rfl Cen.toArray Den.toArray rfl rfl bn (by kernel_rfl) HQen.out ?_)
        | go_values
        | go_skip
        | go_guarded
        | go_step
        | go_upon
        | go_back)
    refine wpList_false 101 4 _ (by kernel_rfl) rfl rfl (by kernel_rfl) ?_
    intro T hT
    go_wp2
    go_ret
    rw [hT]
    exact KmPost.f (by simp [hi]) HF3.out
  have gi : ((i : Int) == (i' : Int)) = true := by simp; omega
  cases bn
  case false =>
    iterate 41 (first
        | (show wpList _ _ _ _ _ _; refine wpList_midg (by kernel_rfl) 49 _ rfl w.heap.size 174 rfl Cvt HRvt3.out (row_vtk.of HLvt.out) ?_)
        | (show wpList _ _ _ _ _ _; refine wpList_midg (by kernel_rfl) 49 _ rfl (w.heap.size + 1) 174 rfl Dvt HSvt3.out (row_vtk.of HMvt.out) ?_)
        | (show wpList _ _ _ _ _ _; refine wpList_midg (by kernel_rfl) 51 _ rfl w.heap.size 213 rfl Cen HRen3.out (row_ent.of HLen.out) ?_)
        | (show wpList _ _ _ _ _ _; refine wpList_midg (by kernel_rfl) 51 _ rfl (w.heap.size + 1) 213 rfl Den HSen3.out (row_ent.of HMen.out) ?_)
        | (show wpList _ _ _ _ _ _; refine wpList_midg (by kernel_rfl) 54 _ rfl w.heap.size 248 rfl Cop HRop3.out (row_opS.of HLop.out) ?_)
        | (show wpList _ _ _ _ _ _; refine wpList_midg (by kernel_rfl) 54 _ rfl (w.heap.size + 1) 248 rfl Dop HSop3.out (row_opS.of HMop.out) ?_)
        | (show wpList _ _ _ _ _ _; refine wpList_eqlg (by kernel_rfl) 49 _ _ _ rfl Cvt.toArray Dvt.toArray rfl rfl true (by kernel_rfl) HQvt.out ?_)
        | (show wpList _ _ _ _ _ _; refine wpList_eqlg (by kernel_rfl) 51 _ _ _ rfl Cen.toArray Den.toArray rfl rfl false (by kernel_rfl) HQen.out ?_)
        | go_values
        | go_skip
        | go_guarded
        | go_step
        | go_upon
        | go_back)
    refine wpList_false 108 4 _ (by kernel_rfl) rfl rfl (by kernel_rfl) ?_
    intro T hT
    go_wp2
    go_ret
    rw [hT]
    exact KmPost.f (by have h := HBN.out; simp at h; simp [h]) HF3.out
  repeat (first
      | (show wpList _ _ _ _ _ _; refine wpList_midg (by kernel_rfl) 49 _ rfl w.heap.size 174 rfl Cvt HRvt3.out (row_vtk.of HLvt.out) ?_)
      | (show wpList _ _ _ _ _ _; refine wpList_midg (by kernel_rfl) 49 _ rfl (w.heap.size + 1) 174 rfl Dvt HSvt3.out (row_vtk.of HMvt.out) ?_)
      | (show wpList _ _ _ _ _ _; refine wpList_midg (by kernel_rfl) 51 _ rfl w.heap.size 213 rfl Cen HRen3.out (row_ent.of HLen.out) ?_)
      | (show wpList _ _ _ _ _ _; refine wpList_midg (by kernel_rfl) 51 _ rfl (w.heap.size + 1) 213 rfl Den HSen3.out (row_ent.of HMen.out) ?_)
      | (show wpList _ _ _ _ _ _; refine wpList_midg (by kernel_rfl) 54 _ rfl w.heap.size 248 rfl Cop HRop3.out (row_opS.of HLop.out) ?_)
      | (show wpList _ _ _ _ _ _; refine wpList_midg (by kernel_rfl) 54 _ rfl (w.heap.size + 1) 248 rfl Dop HSop3.out (row_opS.of HMop.out) ?_)
      | (show wpList _ _ _ _ _ _; refine wpList_eqlg (by kernel_rfl) 49 _ _ _ rfl Cvt.toArray Dvt.toArray rfl rfl true (by kernel_rfl) HQvt.out ?_)
      | (show wpList _ _ _ _ _ _; refine wpList_eqlg (by kernel_rfl) 51 _ _ _ rfl Cen.toArray Den.toArray rfl rfl true (by kernel_rfl) HQen.out ?_)
      | go_values
      | go_skip
      | go_guarded
      | go_step
      | go_upon
      | go_back)
  refine (opening_eq op op' w3 (HX.out.op.keep HF3.out (by simp)) (HY.out.op.keep HF3.out (by simp)) HOP.out _ _ HCop.out.symm HDop.out.symm).mono ?_
  rintro e_ w4 ⟨rfl, hf4⟩
  have HF4 : Hid (Fr [] w w4) := Lib.hid (HF3.out.and hf4 (by simp))
  have HB04 := Lib.hid (HB03.out.keep hf4 (by simp))
  have HB14 := Lib.hid (HB13.out.keep hf4 (by simp))
  clear hf4 ci3 di3 gi HRvt3 HSvt3 HRen3 HSen3 HRop3 HSop3 HQvt HQen
  go_simp
  have hvt := HBV.out.1 rfl
  have hen := HBN.out.1 rfl
  obtain ⟨ze, zr, zk, zA, zn, zd, zl⟩ := de
  obtain ⟨ze', zr', zk', zA', zn', zd', zl'⟩ := de'
  have hde := HDE.out
  unfold Wdc.con at hde
  simp only [Cdc.mk.injEq] at hde
  obtain ⟨rfl, rfl, hzk, rfl⟩ := hde
  have hzn : zn' = zn := HY.out.de.l.1.symm.trans HX.out.de.l.1
  subst hzn
  have HZK := Lib.hid hzk
  have HALL : Hid (f = f' ∧ t = t' ∧ e = e' ∧ r = r' ∧ tm = tm' ∧ vt = vt' ∧ i = i' ∧ en = en') := Lib.hid ⟨hf, ht, he, hr, htm, hvt, hi, hen⟩
  clear hzk hf ht he hr htm hvt hi hen
  have hat4 := Wmg.at_len HB04.out.range HLX.out
  have hau4 := Wmg.at_len HB14.out.range HLY.out
  have HRdn4 : Hid (w4.rangeAt w.heap.size 282 Cdn) := Lib.hid (by rw [HCdn.out]; exact hat4.dn)
  have HSdn4 : Hid (w4.rangeAt (w.heap.size + 1) 282 Cdn) := Lib.hid (by rw [HCdn.out]; exact hau4.dn)
  have crp4 : w4.cell? ⟨w.heap.size, 286, none⟩ = some (.string ⟨rp.toArray⟩) := by have h := hat4.rp 0 _ rfl; simpa using h
  have drp4 : w4.cell? ⟨w.heap.size + 1, 286, none⟩ = some (.string ⟨rp.toArray⟩) := by have h := hau4.rp 0 _ rfl; simpa using h
  obtain ⟨z0, z1, z2, z3⟩ := Wdc.at_k hat4.de
  obtain ⟨y0, y1, y2, y3⟩ := Wdc.at_k hau4.de
  simp only [Nat.reduceAdd] at z1 z2 z3 y1 y2 y3
  have HZ2 := Lib.hid z2
  have HY2 := Lib.hid y2
  have HZ3 := Lib.hid z3
  have HY3 := Lib.hid y3
  clear z2 z3 y2 y3
  have HQdn : Hid ((Op.equalIn 10000 56 (.agg Cdn.toArray) (.agg Cdn.toArray)).run Try.prog w4 = .ok true w4) := Lib.hid (by rw [HCdn.out]; have h := eql_Wdn dn dn w4; rw [(Wdn.eqB_iff dn dn).2 rfl] at h; exact h)
  have gze : (ze == ze) = true := by simp
  have gzr : (zr == zr) = true := by simp
  obtain ⟨RP, hRP⟩ : ∃ RP : ByteArray, RP = ⟨rp.toArray⟩ := ⟨_, rfl⟩
  rw [← hRP] at crp4 drp4
  clear hat4 hau4 hRP
  repeat (first
      | (show wpList _ _ _ _ _ _; refine wpList_midg (by kernel_rfl) 56 _ rfl w.heap.size 282 rfl Cdn HRdn4.out (row_dnS.of HLdn.out) ?_)
      | (show wpList _ _ _ _ _ _; refine wpList_midg (by kernel_rfl) 56 _ rfl (w.heap.size + 1) 282 rfl Cdn HSdn4.out (row_dnS.of HLdn.out) ?_)
      | (show wpList _ _ _ _ _ _; refine wpList_eqlg (by kernel_rfl) 56 _ _ _ rfl Cdn.toArray Cdn.toArray rfl rfl true (by kernel_rfl) HQdn.out ?_)
      | (show wpList _ _ _ _ _ _; refine wpList_midg (by kernel_rfl) 45 _ rfl w.heap.size 289 rfl zk.cells HZ2.out row_bak ?_)
      | (show wpList _ _ _ _ _ _; refine wpList_midg (by kernel_rfl) 45 _ rfl (w.heap.size + 1) 289 rfl zk'.cells HY2.out row_bak ?_)
      | go_values
      | go_skip
      | go_guarded
      | go_step
      | go_upon
      | go_back)
  refine (batch_eq zk zk' w4 (HX.out.de.k.keep HF4.out (by simp)) (HY.out.de.k.keep HF4.out (by simp)) HZK.out _ _ rfl rfl).mono ?_
  rintro e_ w5 ⟨rfl, hf5⟩
  have HF5 : Hid (Fr [] w w5) := Lib.hid (HF4.out.and hf5 (by simp))
  have HB05 := Lib.hid (HB04.out.keep hf5 (by simp))
  have HB15 := Lib.hid (HB14.out.keep hf5 (by simp))
  have z3 := hf5.cell HZ3.out (by simp)
  have y3 := hf5.cell HY3.out (by simp)
  clear hf5 HRdn4 HSdn4 crp4 drp4 z0 z1 y0 y1 HQdn gze gzr
  go_simp
  go_wp2_with fail
  refine (votes_eq zA zA' zn' zd zd' zl zl w5 (HX.out.de.l.keep' HF5.out (by simp) (fun _ _ h => h)) (HY.out.de.l.keep' HF5.out (by simp) (fun _ _ h => h)) rfl (by have h1 : zn' ≤ 100 := HX.out.de.n; omega)).mono ?_
  rintro e_ w6 ⟨rfl, hf6⟩
  have HF6 : Hid (Fr [] w w6) := Lib.hid (HF5.out.and hf6 (by simp))
  clear hf6 z3 y3
  go_wp2_with fail
  go_ret
  exact KmPost.t HALL.out HF6.out
end Go.Proofs.Ytnpjihdhpoddgaa

namespace Go.Proofs.Ytnpjihdhpoddgaa
open Go.ChangeShapes Go.WideShapes Go.ChangeAt Go.RowKit
set_option maxRecDepth 100000
theorem promise_open {H : Type} {enc : TypeId × Value → H} {W : World} {r : Reach} {base b0 : Nat} {v : Value} {d : DataW H} {p : List MemPlace} {sp : Nat → Bool} {held : Bool} (hv : Value.okWide Try.prog W r base 40 v) (h : DataW.Trod enc Try.prog W b0 sp held 40 v d p) (hb : b0 = 0) :
    ∃ x : Wpr, x.In W ∧ v = x.val := by
  subst hb
  unfold Value.okWide at hv
  rw [Try.underlying40] at hv
  obtain ⟨cs, rfl, -⟩ := hv
  obtain ⟨fuel, hf⟩ := h
  obtain ⟨x, hx, e⟩ := promise_of_trod (show DataW.trod enc Try.prog W 0 sp held fuel 40 cs.toList = some (d, p) from hf)
  exact ⟨x, hx, by show Value.agg cs = Value.agg _; rw [← e, Array.toArray_toList]⟩
theorem cert_open {H : Type} {enc : TypeId × Value → H} {W : World} {r : Reach} {base b0 : Nat} {v : Value} {d : DataW H} {p : List MemPlace} {sp : Nat → Bool} {held : Bool} (hv : Value.okWide Try.prog W r base 35 v) (h : DataW.Trod enc Try.prog W b0 sp held 35 v d p) (hb : b0 = 0) :
    ∃ x : Wce, x.In W ∧ v = x.val := by
  subst hb
  unfold Value.okWide at hv
  rw [Try.underlying35] at hv
  obtain ⟨cs, rfl, -⟩ := hv
  obtain ⟨fuel, hf⟩ := h
  obtain ⟨x, hx, e⟩ := cert_of_trod (show DataW.trod enc Try.prog W 0 sp held fuel 35 cs.toList = some (d, p) from hf)
  exact ⟨x, hx, by show Value.agg cs = Value.agg _; rw [← e, Array.toArray_toList]⟩
theorem sig_open {H : Type} {enc : TypeId × Value → H} {W : World} {r : Reach} {base b0 : Nat} {v : Value} {d : DataW H} {p : List MemPlace} {sp : Nat → Bool} {held : Bool} (hv : Value.okWide Try.prog W r base 27 v) (h : DataW.Trod enc Try.prog W b0 sp held 27 v d p) (hb : b0 = 0) :
    ∃ c s : Int, i64In c ∧ i64In s ∧ v = .agg #[.int .i64 c, .int .i64 s] := by
  subst hb
  unfold Value.okWide at hv
  rw [Try.underlying27] at hv
  obtain ⟨cs, rfl, -⟩ := hv
  obtain ⟨fuel, hf⟩ := h
  obtain ⟨c, s, h1, h2, e⟩ := pair_of_trod Try.underlying27 ⟨rfl, rfl⟩ ⟨rfl, rfl⟩ (by kernel_rfl) (show DataW.trod enc Try.prog W 0 sp held fuel 27 cs.toList = some (d, p) from hf)
  exact ⟨c, s, h1, h2, by rw [← Array.toArray_toList (xs := cs), e]⟩
end Go.Proofs.Ytnpjihdhpoddgaa

namespace Go.Proofs.Ytnpjihdhpoddgaa
open Go.ChangeShapes Go.WideShapes Go.ChangeAt Go.RowKit
set_option maxRecDepth 100000
instance : Inhabited Wpr := ⟨⟨0, 0, 0, none, 0, 0, [], 0, 0⟩⟩
instance : Inhabited Wop := ⟨⟨0, none, 0, 0, [], []⟩⟩
instance : Inhabited Wtb := ⟨⟨0, none, 0, 0, []⟩⟩
theorem opening_of_trod {H : Type} {enc : TypeId × Value → H} {W : World} {sp : Nat → Bool} {held : Bool} {fuel : Nat} {cs : List Value} {x0 : DataW H × List MemPlace} (h : DataW.trod enc Try.prog W 0 sp held fuel 54 cs = some x0) :
    ∃ x : Wop, x.In W ∧ cs = x.cells := by
  obtain ⟨xs, m, _, _, hlen, hxl, hat⟩ := DataW.trod_struct Try.underlying54 h
  rw [show Try.prog.cellsOf 54 = 34 by kernel_rfl] at hlen
  have hx : ∀ i (hi : i < 3), xs[i]? = some (xs[i]'(by rw [hxl]; exact hi)) := fun i hi => List.getElem?_eq_getElem _
  have f0 : DataW.trod enc Try.prog W 0 sp held m 3 ((cs.drop 0).take (Try.prog.cellsOf 3)) = _ := (hat 0 _ rfl).trans (hx 0 (by omega))
  rw [show Try.prog.cellsOf 3 = 1 by kernel_rfl] at f0
  obtain ⟨a0, e0, _, w0⟩ := DataW.trod_int Try.underlying3 f0
  have f1 : DataW.trod enc Try.prog W 0 sp held m 52 ((cs.drop 1).take (Try.prog.cellsOf 52)) = _ := (hat 1 _ rfl).trans (hx 1 (by omega))
  rw [show Try.prog.cellsOf 52 = 1 by kernel_rfl] at f1
  obtain ⟨A1, n1, d1, e1⟩ := Go.Joins.slice_form Try.underlying52 f1
  rw [e1] at f1
  obtain ⟨l1, w1, m1, k1⟩ := by_of_trod f1
  have f2 : DataW.trod enc Try.prog W 0 sp held m 25 ((cs.drop 2).take (Try.prog.cellsOf 25)) = _ := (hat 2 _ rfl).trans (hx 2 (by omega))
  rw [show Try.prog.cellsOf 25 = 32 by kernel_rfl] at f2
  obtain ⟨a2, w2, e2⟩ := hash_of_trod f2
  refine ⟨⟨a0, A1, n1, d1, l1, a2⟩, ⟨i64In_of w0, w1, Nat.le_trans m1 k1, m1, w2⟩, ?_⟩
  have z : cs.drop 34 = [] := List.drop_eq_nil_of_le (by omega)
  have s0 : cs = cs.drop 0 := rfl
  rw [s0, cut_at cs 0 1 1 rfl, e0, cut_at cs 1 1 2 rfl, e1, cut_at cs 2 32 34 rfl, e2, z]
  simp [Wop.cells]
theorem tomb_of_trod {H : Type} {enc : TypeId × Value → H} {W : World} {sp : Nat → Bool} {held : Bool} {fuel : Nat} {cs : List Value} {x0 : DataW H × List MemPlace} (h : DataW.trod enc Try.prog W 0 sp held fuel 118 cs = some x0) :
    ∃ x : Wtb, x.In W ∧ cs = x.cells := by
  obtain ⟨xs, m, _, _, hlen, hxl, hat⟩ := DataW.trod_struct Try.underlying118 h
  rw [show Try.prog.cellsOf 118 = 2 by kernel_rfl] at hlen
  have hx : ∀ i (hi : i < 2), xs[i]? = some (xs[i]'(by rw [hxl]; exact hi)) := fun i hi => List.getElem?_eq_getElem _
  have f0 : DataW.trod enc Try.prog W 0 sp held m 3 ((cs.drop 0).take (Try.prog.cellsOf 3)) = _ := (hat 0 _ rfl).trans (hx 0 (by omega))
  rw [show Try.prog.cellsOf 3 = 1 by kernel_rfl] at f0
  obtain ⟨a0, e0, _, w0⟩ := DataW.trod_int Try.underlying3 f0
  have f1 : DataW.trod enc Try.prog W 0 sp held m 116 ((cs.drop 1).take (Try.prog.cellsOf 116)) = _ := (hat 1 _ rfl).trans (hx 1 (by omega))
  rw [show Try.prog.cellsOf 116 = 1 by kernel_rfl] at f1
  obtain ⟨A1, n1, d1, l1, e1, w1, m1, k1⟩ := lst_of_cells (cells := Wdn.cells) (ok := fun w v => v.Ok) (k := 4) Try.underlying116 (by kernel_rfl) (fun fuel cs x h => deny_of_trod h) f1
  refine ⟨⟨a0, A1, n1, d1, l1⟩, ⟨i64In_of w0, w1, Nat.le_trans m1 k1, m1⟩, ?_⟩
  have z : cs.drop 2 = [] := List.drop_eq_nil_of_le (by omega)
  have s0 : cs = cs.drop 0 := rfl
  rw [s0, cut_at cs 0 1 1 rfl, e0, cut_at cs 1 1 2 rfl, e1, z]
  simp [Wtb.cells]
theorem batch_of_trod {H : Type} {enc : TypeId × Value → H} {W : World} {sp : Nat → Bool} {held : Bool} {fuel : Nat} {cs : List Value} {x0 : DataW H × List MemPlace} (h : DataW.trod enc Try.prog W 0 sp held fuel 45 cs = some x0) :
    ∃ x : Wba, x.In W ∧ cs = x.cells := by
  obtain ⟨xs, m, _, _, hlen, hxl, hat⟩ := DataW.trod_struct Try.underlying45 h
  rw [show Try.prog.cellsOf 45 = 5 by kernel_rfl] at hlen
  have hx : ∀ i (hi : i < 5), xs[i]? = some (xs[i]'(by rw [hxl]; exact hi)) := fun i hi => List.getElem?_eq_getElem _
  have f0 : DataW.trod enc Try.prog W 0 sp held m 3 ((cs.drop 0).take (Try.prog.cellsOf 3)) = _ := (hat 0 _ rfl).trans (hx 0 (by omega))
  rw [show Try.prog.cellsOf 3 = 1 by kernel_rfl] at f0
  obtain ⟨a0, e0, _, w0⟩ := DataW.trod_int Try.underlying3 f0
  have f1 : DataW.trod enc Try.prog W 0 sp held m 30 ((cs.drop 1).take (Try.prog.cellsOf 30)) = _ := (hat 1 _ rfl).trans (hx 1 (by omega))
  rw [show Try.prog.cellsOf 30 = 1 by kernel_rfl] at f1
  obtain ⟨u1, e1, _, w1⟩ := DataW.trod_int Try.underlying30 f1
  obtain ⟨a1, rfl, b1⟩ := u64_of w1
  have f2 : DataW.trod enc Try.prog W 0 sp held m 41 ((cs.drop 2).take (Try.prog.cellsOf 41)) = _ := (hat 2 _ rfl).trans (hx 2 (by omega))
  rw [show Try.prog.cellsOf 41 = 1 by kernel_rfl] at f2
  obtain ⟨A2, n2, d2, l2, e2, w2, m2, k2⟩ := lst_of_cells (cells := Wpr.cells) (ok := fun w v => v.In w) (k := 6) Try.underlying41 (by kernel_rfl) (fun fuel cs x h => promise_of_trod h) f2
  have f3 : DataW.trod enc Try.prog W 0 sp held m 42 ((cs.drop 3).take (Try.prog.cellsOf 42)) = _ := (hat 3 _ rfl).trans (hx 3 (by omega))
  rw [show Try.prog.cellsOf 42 = 1 by kernel_rfl] at f3
  obtain ⟨A3, n3, d3, l3, e3, w3, m3, k3⟩ := lst_of_cells (cells := Wop.cells) (ok := fun w v => v.In w) (k := 34) Try.underlying42 (by kernel_rfl) (fun fuel cs x h => opening_of_trod h) f3
  have f4 : DataW.trod enc Try.prog W 0 sp held m 43 ((cs.drop 4).take (Try.prog.cellsOf 43)) = _ := (hat 4 _ rfl).trans (hx 4 (by omega))
  rw [show Try.prog.cellsOf 43 = 1 by kernel_rfl] at f4
  obtain ⟨A4, n4, d4, l4, e4, w4, m4, k4⟩ := lst_of_cells (cells := Wtb.cells) (ok := fun w v => v.In w) (k := 2) Try.underlying43 (by kernel_rfl) (fun fuel cs x h => tomb_of_trod h) f4
  refine ⟨⟨a0, a1, A2, n2, d2, l2, A3, n3, d3, l3, A4, n4, d4, l4⟩, ⟨i64In_of w0, b1, w2, Nat.le_trans m2 k2, w3, Nat.le_trans m3 k3, w4, Nat.le_trans m4 k4⟩, ?_⟩
  have z : cs.drop 5 = [] := List.drop_eq_nil_of_le (by omega)
  have s0 : cs = cs.drop 0 := rfl
  rw [s0, cut_at cs 0 1 1 rfl, e0, cut_at cs 1 1 2 rfl, e1, cut_at cs 2 1 3 rfl, e2, cut_at cs 3 1 4 rfl, e3, cut_at cs 4 1 5 rfl, e4, z]
  simp [Wba.cells]
theorem proposal_of_trod {H : Type} {enc : TypeId × Value → H} {W : World} {sp : Nat → Bool} {held : Bool} {fuel : Nat} {cs : List Value} {x0 : DataW H × List MemPlace} (h : DataW.trod enc Try.prog W 0 sp held fuel 47 cs = some x0) :
    ∃ x : Wpo, x.In W ∧ cs = x.cells := by
  obtain ⟨xs, m, _, _, hlen, hxl, hat⟩ := DataW.trod_struct Try.underlying47 h
  rw [show Try.prog.cellsOf 47 = 11 by kernel_rfl] at hlen
  have hx : ∀ i (hi : i < 6), xs[i]? = some (xs[i]'(by rw [hxl]; exact hi)) := fun i hi => List.getElem?_eq_getElem _
  have f0 : DataW.trod enc Try.prog W 0 sp held m 3 ((cs.drop 0).take (Try.prog.cellsOf 3)) = _ := (hat 0 _ rfl).trans (hx 0 (by omega))
  rw [show Try.prog.cellsOf 3 = 1 by kernel_rfl] at f0
  obtain ⟨a0, e0, _, w0⟩ := DataW.trod_int Try.underlying3 f0
  have f1 : DataW.trod enc Try.prog W 0 sp held m 3 ((cs.drop 1).take (Try.prog.cellsOf 3)) = _ := (hat 1 _ rfl).trans (hx 1 (by omega))
  rw [show Try.prog.cellsOf 3 = 1 by kernel_rfl] at f1
  obtain ⟨a1, e1, _, w1⟩ := DataW.trod_int Try.underlying3 f1
  have f2 : DataW.trod enc Try.prog W 0 sp held m 3 ((cs.drop 2).take (Try.prog.cellsOf 3)) = _ := (hat 2 _ rfl).trans (hx 2 (by omega))
  rw [show Try.prog.cellsOf 3 = 1 by kernel_rfl] at f2
  obtain ⟨a2, e2, _, w2⟩ := DataW.trod_int Try.underlying3 f2
  have f3 : DataW.trod enc Try.prog W 0 sp held m 3 ((cs.drop 3).take (Try.prog.cellsOf 3)) = _ := (hat 3 _ rfl).trans (hx 3 (by omega))
  rw [show Try.prog.cellsOf 3 = 1 by kernel_rfl] at f3
  obtain ⟨a3, e3, _, w3⟩ := DataW.trod_int Try.underlying3 f3
  have f4 : DataW.trod enc Try.prog W 0 sp held m 45 ((cs.drop 4).take (Try.prog.cellsOf 45)) = _ := (hat 4 _ rfl).trans (hx 4 (by omega))
  rw [show Try.prog.cellsOf 45 = 5 by kernel_rfl] at f4
  obtain ⟨a4, w4, e4⟩ := batch_of_trod f4
  have f5 : DataW.trod enc Try.prog W 0 sp held m 27 ((cs.drop 9).take (Try.prog.cellsOf 27)) = _ := (hat 5 _ rfl).trans (hx 5 (by omega))
  rw [show Try.prog.cellsOf 27 = 2 by kernel_rfl] at f5
  obtain ⟨a5, c5, w5, v5, e5⟩ := pair_of_trod Try.underlying27 ⟨rfl, rfl⟩ ⟨rfl, rfl⟩ (by kernel_rfl) f5
  refine ⟨⟨a0, a1, a2, a3, a4, a5, c5⟩, ⟨i64In_of w0, i64In_of w1, i64In_of w2, i64In_of w3, w4, w5, v5⟩, ?_⟩
  have z : cs.drop 11 = [] := List.drop_eq_nil_of_le (by omega)
  have s0 : cs = cs.drop 0 := rfl
  rw [s0, cut_at cs 0 1 1 rfl, e0, cut_at cs 1 1 2 rfl, e1, cut_at cs 2 1 3 rfl, e2, cut_at cs 3 1 4 rfl, e3, cut_at cs 4 5 9 rfl, e4, cut_at cs 9 2 11 rfl, e5, z]
  simp [Wpo.cells]
theorem batch_open {H : Type} {enc : TypeId × Value → H} {W : World} {r : Reach} {base b0 : Nat} {v : Value} {d : DataW H} {p : List MemPlace} {sp : Nat → Bool} {held : Bool} (hv : Value.okWide Try.prog W r base 45 v) (h : DataW.Trod enc Try.prog W b0 sp held 45 v d p) (hb : b0 = 0) :
    ∃ x : Wba, x.In W ∧ v = x.val := by
  subst hb
  unfold Value.okWide at hv
  rw [Try.underlying45] at hv
  obtain ⟨cs, rfl, -⟩ := hv
  obtain ⟨fuel, hf⟩ := h
  obtain ⟨x, hx, e⟩ := batch_of_trod (show DataW.trod enc Try.prog W 0 sp held fuel 45 cs.toList = some (d, p) from hf)
  exact ⟨x, hx, by show Value.agg cs = Value.agg _; rw [← e, Array.toArray_toList]⟩
theorem proposal_open {H : Type} {enc : TypeId × Value → H} {W : World} {r : Reach} {base b0 : Nat} {v : Value} {d : DataW H} {p : List MemPlace} {sp : Nat → Bool} {held : Bool} (hv : Value.okWide Try.prog W r base 47 v) (h : DataW.Trod enc Try.prog W b0 sp held 47 v d p) (hb : b0 = 0) :
    ∃ x : Wpo, x.In W ∧ v = x.val := by
  subst hb
  unfold Value.okWide at hv
  rw [Try.underlying47] at hv
  obtain ⟨cs, rfl, -⟩ := hv
  obtain ⟨fuel, hf⟩ := h
  obtain ⟨x, hx, e⟩ := proposal_of_trod (show DataW.trod enc Try.prog W 0 sp held fuel 47 cs.toList = some (d, p) from hf)
  exact ⟨x, hx, by show Value.agg cs = Value.agg _; rw [← e, Array.toArray_toList]⟩
end Go.Proofs.Ytnpjihdhpoddgaa

namespace Go.Proofs.Ytnpjihdhpoddgaa
open Go.ChangeShapes Go.WideShapes Go.ChangeAt Go.RowKit
set_option maxRecDepth 100000
instance : Inhabited Wvt := ⟨⟨0, 0, 0, 0, [], 0, 0⟩⟩
/-- what was decided, as it comes in -/
structure Wdc.In (w : World) (x : Wdc) : Prop where
  e : i64In x.e
  r : i64In x.r
  k : x.k.In w
  l : Lst 38 Wvt.cells (fun _ v => v.Ok) w x.A x.n x.l
  n : x.n ≤ maxLen
  d : x.n ≤ x.d
/-- a message that comes in -/
structure Wmg.In (w : World) (x : Wmg) : Prop where
  q : i64In x.q
  f : i64In x.f
  t : i64In x.t
  cm : x.cm.Ok
  st : x.st.Ok
  ce : x.ce.In w
  ak : x.ak.Ok
  e : i64In x.e
  r : i64In x.r
  tm : x.tm < 18446744073709551616
  pr : x.pr.In w
  po : x.po.In w
  vt : x.vt.Ok
  i : i64In x.i
  en : x.en.Ok
  op : x.op.In w
  dn : x.dn.Ok
  rp : x.rp.length ≤ maxLen
  de : x.de.In w
def Wmg.val (x : Wmg) : Value := .agg x.cells.toArray
theorem vote_of_trod {H : Type} {enc : TypeId × Value → H} {W : World} {sp : Nat → Bool} {held : Bool} {fuel : Nat} {cs : List Value} {x0 : DataW H × List MemPlace} (h : DataW.trod enc Try.prog W 0 sp held fuel 49 cs = some x0) :
    ∃ x : Wvt, x.Ok ∧ cs = x.cells := by
  obtain ⟨xs, m, _, _, hlen, hxl, hat⟩ := DataW.trod_struct Try.underlying49 h
  rw [show Try.prog.cellsOf 49 = 38 by kernel_rfl] at hlen
  have hx : ∀ i (hi : i < 6), xs[i]? = some (xs[i]'(by rw [hxl]; exact hi)) := fun i hi => List.getElem?_eq_getElem _
  have f0 : DataW.trod enc Try.prog W 0 sp held m 3 ((cs.drop 0).take (Try.prog.cellsOf 3)) = _ := (hat 0 _ rfl).trans (hx 0 (by omega))
  rw [show Try.prog.cellsOf 3 = 1 by kernel_rfl] at f0
  obtain ⟨a0, e0, _, w0⟩ := DataW.trod_int Try.underlying3 f0
  have f1 : DataW.trod enc Try.prog W 0 sp held m 3 ((cs.drop 1).take (Try.prog.cellsOf 3)) = _ := (hat 1 _ rfl).trans (hx 1 (by omega))
  rw [show Try.prog.cellsOf 3 = 1 by kernel_rfl] at f1
  obtain ⟨a1, e1, _, w1⟩ := DataW.trod_int Try.underlying3 f1
  have f2 : DataW.trod enc Try.prog W 0 sp held m 3 ((cs.drop 2).take (Try.prog.cellsOf 3)) = _ := (hat 2 _ rfl).trans (hx 2 (by omega))
  rw [show Try.prog.cellsOf 3 = 1 by kernel_rfl] at f2
  obtain ⟨a2, e2, _, w2⟩ := DataW.trod_int Try.underlying3 f2
  have f3 : DataW.trod enc Try.prog W 0 sp held m 3 ((cs.drop 3).take (Try.prog.cellsOf 3)) = _ := (hat 3 _ rfl).trans (hx 3 (by omega))
  rw [show Try.prog.cellsOf 3 = 1 by kernel_rfl] at f3
  obtain ⟨a3, e3, _, w3⟩ := DataW.trod_int Try.underlying3 f3
  have f4 : DataW.trod enc Try.prog W 0 sp held m 25 ((cs.drop 4).take (Try.prog.cellsOf 25)) = _ := (hat 4 _ rfl).trans (hx 4 (by omega))
  rw [show Try.prog.cellsOf 25 = 32 by kernel_rfl] at f4
  obtain ⟨a4, w4, e4⟩ := hash_of_trod f4
  have f5 : DataW.trod enc Try.prog W 0 sp held m 27 ((cs.drop 36).take (Try.prog.cellsOf 27)) = _ := (hat 5 _ rfl).trans (hx 5 (by omega))
  rw [show Try.prog.cellsOf 27 = 2 by kernel_rfl] at f5
  obtain ⟨a5, c5, w5, v5, e5⟩ := pair_of_trod Try.underlying27 ⟨rfl, rfl⟩ ⟨rfl, rfl⟩ (by kernel_rfl) f5
  refine ⟨⟨a0, a1, a2, a3, a4, a5, c5⟩, ⟨i64In_of w0, i64In_of w1, i64In_of w2, i64In_of w3, w4, w5, v5⟩, ?_⟩
  have z : cs.drop 38 = [] := List.drop_eq_nil_of_le (by omega)
  have s0 : cs = cs.drop 0 := rfl
  rw [s0, cut_at cs 0 1 1 rfl, e0, cut_at cs 1 1 2 rfl, e1, cut_at cs 2 1 3 rfl, e2, cut_at cs 3 1 4 rfl, e3, cut_at cs 4 32 36 rfl, e4, cut_at cs 36 2 38 rfl, e5, z]
  simp [Wvt.cells]
theorem ack_of_trod {H : Type} {enc : TypeId × Value → H} {W : World} {sp : Nat → Bool} {held : Bool} {fuel : Nat} {cs : List Value} {x0 : DataW H × List MemPlace} (h : DataW.trod enc Try.prog W 0 sp held fuel 37 cs = some x0) :
    ∃ x : Wst, x.Ok ∧ cs = x.cells := by
  obtain ⟨xs, m, _, _, hlen, hxl, hat⟩ := DataW.trod_struct Try.underlying37 h
  rw [show Try.prog.cellsOf 37 = 38 by kernel_rfl] at hlen
  have hx : ∀ i (hi : i < 5), xs[i]? = some (xs[i]'(by rw [hxl]; exact hi)) := fun i hi => List.getElem?_eq_getElem _
  have f0 : DataW.trod enc Try.prog W 0 sp held m 3 ((cs.drop 0).take (Try.prog.cellsOf 3)) = _ := (hat 0 _ rfl).trans (hx 0 (by omega))
  rw [show Try.prog.cellsOf 3 = 1 by kernel_rfl] at f0
  obtain ⟨a0, e0, _, w0⟩ := DataW.trod_int Try.underlying3 f0
  have f1 : DataW.trod enc Try.prog W 0 sp held m 23 ((cs.drop 1).take (Try.prog.cellsOf 23)) = _ := (hat 1 _ rfl).trans (hx 1 (by omega))
  rw [show Try.prog.cellsOf 23 = 2 by kernel_rfl] at f1
  obtain ⟨a1, c1, w1, v1, e1⟩ := pair_of_trod Try.underlying23 ⟨rfl, rfl⟩ ⟨rfl, rfl⟩ (by kernel_rfl) f1
  have f2 : DataW.trod enc Try.prog W 0 sp held m 25 ((cs.drop 3).take (Try.prog.cellsOf 25)) = _ := (hat 2 _ rfl).trans (hx 2 (by omega))
  rw [show Try.prog.cellsOf 25 = 32 by kernel_rfl] at f2
  obtain ⟨a2, w2, e2⟩ := hash_of_trod f2
  have f3 : DataW.trod enc Try.prog W 0 sp held m 30 ((cs.drop 35).take (Try.prog.cellsOf 30)) = _ := (hat 3 _ rfl).trans (hx 3 (by omega))
  rw [show Try.prog.cellsOf 30 = 1 by kernel_rfl] at f3
  obtain ⟨u3, e3, _, w3⟩ := DataW.trod_int Try.underlying30 f3
  obtain ⟨a3, rfl, b3⟩ := u64_of w3
  have f4 : DataW.trod enc Try.prog W 0 sp held m 27 ((cs.drop 36).take (Try.prog.cellsOf 27)) = _ := (hat 4 _ rfl).trans (hx 4 (by omega))
  rw [show Try.prog.cellsOf 27 = 2 by kernel_rfl] at f4
  obtain ⟨a4, c4, w4, v4, e4⟩ := pair_of_trod Try.underlying27 ⟨rfl, rfl⟩ ⟨rfl, rfl⟩ (by kernel_rfl) f4
  refine ⟨⟨a0, a1, c1, a2, a3, a4, c4⟩, ⟨i64In_of w0, w1, v1, w2, b3, w4, v4⟩, ?_⟩
  have z : cs.drop 38 = [] := List.drop_eq_nil_of_le (by omega)
  have s0 : cs = cs.drop 0 := rfl
  rw [s0, cut_at cs 0 1 1 rfl, e0, cut_at cs 1 2 3 rfl, e1, cut_at cs 3 32 35 rfl, e2, cut_at cs 35 1 36 rfl, e3, cut_at cs 36 2 38 rfl, e4, z]
  simp [Wst.cells]
theorem entry_of_trod {H : Type} {enc : TypeId × Value → H} {W : World} {sp : Nat → Bool} {held : Bool} {fuel : Nat} {cs : List Value} {x0 : DataW H × List MemPlace} (h : DataW.trod enc Try.prog W 0 sp held fuel 51 cs = some x0) :
    ∃ x : Wen, x.Ok ∧ cs = x.cells := by
  obtain ⟨xs, m, _, _, hlen, hxl, hat⟩ := DataW.trod_struct Try.underlying51 h
  rw [show Try.prog.cellsOf 51 = 35 by kernel_rfl] at hlen
  have hx : ∀ i (hi : i < 3), xs[i]? = some (xs[i]'(by rw [hxl]; exact hi)) := fun i hi => List.getElem?_eq_getElem _
  have f0 : DataW.trod enc Try.prog W 0 sp held m 23 ((cs.drop 0).take (Try.prog.cellsOf 23)) = _ := (hat 0 _ rfl).trans (hx 0 (by omega))
  rw [show Try.prog.cellsOf 23 = 2 by kernel_rfl] at f0
  obtain ⟨a0, c0, w0, v0, e0⟩ := pair_of_trod Try.underlying23 ⟨rfl, rfl⟩ ⟨rfl, rfl⟩ (by kernel_rfl) f0
  have f1 : DataW.trod enc Try.prog W 0 sp held m 25 ((cs.drop 2).take (Try.prog.cellsOf 25)) = _ := (hat 1 _ rfl).trans (hx 1 (by omega))
  rw [show Try.prog.cellsOf 25 = 32 by kernel_rfl] at f1
  obtain ⟨a1, w1, e1⟩ := hash_of_trod f1
  have f2 : DataW.trod enc Try.prog W 0 sp held m 30 ((cs.drop 34).take (Try.prog.cellsOf 30)) = _ := (hat 2 _ rfl).trans (hx 2 (by omega))
  rw [show Try.prog.cellsOf 30 = 1 by kernel_rfl] at f2
  obtain ⟨u2, e2, _, w2⟩ := DataW.trod_int Try.underlying30 f2
  obtain ⟨a2, rfl, b2⟩ := u64_of w2
  refine ⟨⟨a0, c0, a1, a2⟩, ⟨w0, v0, w1, b2⟩, ?_⟩
  have z : cs.drop 35 = [] := List.drop_eq_nil_of_le (by omega)
  have s0 : cs = cs.drop 0 := rfl
  rw [s0, cut_at cs 0 2 2 rfl, e0, cut_at cs 2 32 34 rfl, e1, cut_at cs 34 1 35 rfl, e2, z]
  simp [Wen.cells]
theorem decided_of_trod {H : Type} {enc : TypeId × Value → H} {W : World} {sp : Nat → Bool} {held : Bool} {fuel : Nat} {cs : List Value} {x0 : DataW H × List MemPlace} (h : DataW.trod enc Try.prog W 0 sp held fuel 59 cs = some x0) :
    ∃ x : Wdc, x.In W ∧ cs = x.cells := by
  obtain ⟨xs, m, _, _, hlen, hxl, hat⟩ := DataW.trod_struct Try.underlying59 h
  rw [show Try.prog.cellsOf 59 = 8 by kernel_rfl] at hlen
  have hx : ∀ i (hi : i < 4), xs[i]? = some (xs[i]'(by rw [hxl]; exact hi)) := fun i hi => List.getElem?_eq_getElem _
  have f0 : DataW.trod enc Try.prog W 0 sp held m 3 ((cs.drop 0).take (Try.prog.cellsOf 3)) = _ := (hat 0 _ rfl).trans (hx 0 (by omega))
  rw [show Try.prog.cellsOf 3 = 1 by kernel_rfl] at f0
  obtain ⟨a0, e0, _, w0⟩ := DataW.trod_int Try.underlying3 f0
  have f1 : DataW.trod enc Try.prog W 0 sp held m 3 ((cs.drop 1).take (Try.prog.cellsOf 3)) = _ := (hat 1 _ rfl).trans (hx 1 (by omega))
  rw [show Try.prog.cellsOf 3 = 1 by kernel_rfl] at f1
  obtain ⟨a1, e1, _, w1⟩ := DataW.trod_int Try.underlying3 f1
  have f2 : DataW.trod enc Try.prog W 0 sp held m 45 ((cs.drop 2).take (Try.prog.cellsOf 45)) = _ := (hat 2 _ rfl).trans (hx 2 (by omega))
  rw [show Try.prog.cellsOf 45 = 5 by kernel_rfl] at f2
  obtain ⟨a2, w2, e2⟩ := batch_of_trod f2
  have f3 : DataW.trod enc Try.prog W 0 sp held m 57 ((cs.drop 7).take (Try.prog.cellsOf 57)) = _ := (hat 3 _ rfl).trans (hx 3 (by omega))
  rw [show Try.prog.cellsOf 57 = 1 by kernel_rfl] at f3
  obtain ⟨A3, n3, d3, l3, e3, w3, m3, k3⟩ := lst_of_cells (cells := Wvt.cells) (ok := fun w v => v.Ok) (k := 38) Try.underlying57 (by kernel_rfl) (fun fuel cs x h => vote_of_trod h) f3
  refine ⟨⟨a0, a1, a2, A3, n3, d3, l3⟩, ⟨i64In_of w0, i64In_of w1, w2, w3, Nat.le_trans m3 k3, m3⟩, ?_⟩
  have z : cs.drop 8 = [] := List.drop_eq_nil_of_le (by omega)
  have s0 : cs = cs.drop 0 := rfl
  rw [s0, cut_at cs 0 1 1 rfl, e0, cut_at cs 1 1 2 rfl, e1, cut_at cs 2 5 7 rfl, e2, cut_at cs 7 1 8 rfl, e3, z]
  simp [Wdc.cells]
theorem msg_of_trod {H : Type} {enc : TypeId × Value → H} {W : World} {sp : Nat → Bool} {held : Bool} {fuel : Nat} {cs : List Value} {x0 : DataW H × List MemPlace} (h : DataW.trod enc Try.prog W 0 sp held fuel 61 cs = some x0) :
    ∃ x : Wmg, x.In W ∧ cs = x.cells := by
  obtain ⟨xs, m, _, _, hlen, hxl, hat⟩ := DataW.trod_struct Try.underlying61 h
  rw [show Try.prog.cellsOf 61 = 295 by kernel_rfl] at hlen
  have hx : ∀ i (hi : i < 19), xs[i]? = some (xs[i]'(by rw [hxl]; exact hi)) := fun i hi => List.getElem?_eq_getElem _
  have f0 : DataW.trod enc Try.prog W 0 sp held m 3 ((cs.drop 0).take (Try.prog.cellsOf 3)) = _ := (hat 0 _ rfl).trans (hx 0 (by omega))
  rw [show Try.prog.cellsOf 3 = 1 by kernel_rfl] at f0
  obtain ⟨a0, e0, _, w0⟩ := DataW.trod_int Try.underlying3 f0
  have f1 : DataW.trod enc Try.prog W 0 sp held m 3 ((cs.drop 1).take (Try.prog.cellsOf 3)) = _ := (hat 1 _ rfl).trans (hx 1 (by omega))
  rw [show Try.prog.cellsOf 3 = 1 by kernel_rfl] at f1
  obtain ⟨a1, e1, _, w1⟩ := DataW.trod_int Try.underlying3 f1
  have f2 : DataW.trod enc Try.prog W 0 sp held m 3 ((cs.drop 2).take (Try.prog.cellsOf 3)) = _ := (hat 2 _ rfl).trans (hx 2 (by omega))
  rw [show Try.prog.cellsOf 3 = 1 by kernel_rfl] at f2
  obtain ⟨a2, e2, _, w2⟩ := DataW.trod_int Try.underlying3 f2
  have f3 : DataW.trod enc Try.prog W 0 sp held m 29 ((cs.drop 3).take (Try.prog.cellsOf 29)) = _ := (hat 3 _ rfl).trans (hx 3 (by omega))
  rw [show Try.prog.cellsOf 29 = 37 by kernel_rfl] at f3
  obtain ⟨a3, w3, e3⟩ := commit_of_trod f3
  have f4 : DataW.trod enc Try.prog W 0 sp held m 32 ((cs.drop 40).take (Try.prog.cellsOf 32)) = _ := (hat 4 _ rfl).trans (hx 4 (by omega))
  rw [show Try.prog.cellsOf 32 = 38 by kernel_rfl] at f4
  obtain ⟨a4, w4, e4⟩ := stamp_of_trod f4
  have f5 : DataW.trod enc Try.prog W 0 sp held m 35 ((cs.drop 78).take (Try.prog.cellsOf 35)) = _ := (hat 5 _ rfl).trans (hx 5 (by omega))
  rw [show Try.prog.cellsOf 35 = 38 by kernel_rfl] at f5
  obtain ⟨a5, w5, e5⟩ := cert_of_trod f5
  have f6 : DataW.trod enc Try.prog W 0 sp held m 37 ((cs.drop 116).take (Try.prog.cellsOf 37)) = _ := (hat 6 _ rfl).trans (hx 6 (by omega))
  rw [show Try.prog.cellsOf 37 = 38 by kernel_rfl] at f6
  obtain ⟨a6, w6, e6⟩ := ack_of_trod f6
  have f7 : DataW.trod enc Try.prog W 0 sp held m 3 ((cs.drop 154).take (Try.prog.cellsOf 3)) = _ := (hat 7 _ rfl).trans (hx 7 (by omega))
  rw [show Try.prog.cellsOf 3 = 1 by kernel_rfl] at f7
  obtain ⟨a7, e7, _, w7⟩ := DataW.trod_int Try.underlying3 f7
  have f8 : DataW.trod enc Try.prog W 0 sp held m 3 ((cs.drop 155).take (Try.prog.cellsOf 3)) = _ := (hat 8 _ rfl).trans (hx 8 (by omega))
  rw [show Try.prog.cellsOf 3 = 1 by kernel_rfl] at f8
  obtain ⟨a8, e8, _, w8⟩ := DataW.trod_int Try.underlying3 f8
  have f9 : DataW.trod enc Try.prog W 0 sp held m 30 ((cs.drop 156).take (Try.prog.cellsOf 30)) = _ := (hat 9 _ rfl).trans (hx 9 (by omega))
  rw [show Try.prog.cellsOf 30 = 1 by kernel_rfl] at f9
  obtain ⟨u9, e9, _, w9⟩ := DataW.trod_int Try.underlying30 f9
  obtain ⟨a9, rfl, b9⟩ := u64_of w9
  have f10 : DataW.trod enc Try.prog W 0 sp held m 40 ((cs.drop 157).take (Try.prog.cellsOf 40)) = _ := (hat 10 _ rfl).trans (hx 10 (by omega))
  rw [show Try.prog.cellsOf 40 = 6 by kernel_rfl] at f10
  obtain ⟨a10, w10, e10⟩ := promise_of_trod f10
  have f11 : DataW.trod enc Try.prog W 0 sp held m 47 ((cs.drop 163).take (Try.prog.cellsOf 47)) = _ := (hat 11 _ rfl).trans (hx 11 (by omega))
  rw [show Try.prog.cellsOf 47 = 11 by kernel_rfl] at f11
  obtain ⟨a11, w11, e11⟩ := proposal_of_trod f11
  have f12 : DataW.trod enc Try.prog W 0 sp held m 49 ((cs.drop 174).take (Try.prog.cellsOf 49)) = _ := (hat 12 _ rfl).trans (hx 12 (by omega))
  rw [show Try.prog.cellsOf 49 = 38 by kernel_rfl] at f12
  obtain ⟨a12, w12, e12⟩ := vote_of_trod f12
  have f13 : DataW.trod enc Try.prog W 0 sp held m 3 ((cs.drop 212).take (Try.prog.cellsOf 3)) = _ := (hat 13 _ rfl).trans (hx 13 (by omega))
  rw [show Try.prog.cellsOf 3 = 1 by kernel_rfl] at f13
  obtain ⟨a13, e13, _, w13⟩ := DataW.trod_int Try.underlying3 f13
  have f14 : DataW.trod enc Try.prog W 0 sp held m 51 ((cs.drop 213).take (Try.prog.cellsOf 51)) = _ := (hat 14 _ rfl).trans (hx 14 (by omega))
  rw [show Try.prog.cellsOf 51 = 35 by kernel_rfl] at f14
  obtain ⟨a14, w14, e14⟩ := entry_of_trod f14
  have f15 : DataW.trod enc Try.prog W 0 sp held m 54 ((cs.drop 248).take (Try.prog.cellsOf 54)) = _ := (hat 15 _ rfl).trans (hx 15 (by omega))
  rw [show Try.prog.cellsOf 54 = 34 by kernel_rfl] at f15
  obtain ⟨a15, w15, e15⟩ := opening_of_trod f15
  have f16 : DataW.trod enc Try.prog W 0 sp held m 56 ((cs.drop 282).take (Try.prog.cellsOf 56)) = _ := (hat 16 _ rfl).trans (hx 16 (by omega))
  rw [show Try.prog.cellsOf 56 = 4 by kernel_rfl] at f16
  obtain ⟨a16, w16, e16⟩ := deny_of_trod f16
  have f17 : DataW.trod enc Try.prog W 0 sp held m 9 ((cs.drop 286).take (Try.prog.cellsOf 9)) = _ := (hat 17 _ rfl).trans (hx 17 (by omega))
  rw [show Try.prog.cellsOf 9 = 1 by kernel_rfl] at f17
  obtain ⟨s17, e17, _, w17⟩ := DataW.trod_string Try.underlying9 f17
  rw [show (Value.string s17) = Value.string ⟨s17.data.toList.toArray⟩ by simp] at e17
  have f18 : DataW.trod enc Try.prog W 0 sp held m 59 ((cs.drop 287).take (Try.prog.cellsOf 59)) = _ := (hat 18 _ rfl).trans (hx 18 (by omega))
  rw [show Try.prog.cellsOf 59 = 8 by kernel_rfl] at f18
  obtain ⟨a18, w18, e18⟩ := decided_of_trod f18
  refine ⟨⟨a0, a1, a2, a3, a4, a5, a6, a7, a8, a9, a10, a11, a12, a13, a14, a15, a16, s17.data.toList, a18⟩, ⟨i64In_of w0, i64In_of w1, i64In_of w2, w3, w4, w5, w6, i64In_of w7, i64In_of w8, b9, w10, w11, w12, i64In_of w13, w14, w15, w16, by rw [Array.length_toList]; exact w17, w18⟩, ?_⟩
  have z : cs.drop 295 = [] := List.drop_eq_nil_of_le (by omega)
  have s0 : cs = cs.drop 0 := rfl
  rw [s0, cut_at cs 0 1 1 rfl, e0, cut_at cs 1 1 2 rfl, e1, cut_at cs 2 1 3 rfl, e2, cut_at cs 3 37 40 rfl, e3, cut_at cs 40 38 78 rfl, e4, cut_at cs 78 38 116 rfl, e5, cut_at cs 116 38 154 rfl, e6, cut_at cs 154 1 155 rfl, e7, cut_at cs 155 1 156 rfl, e8, cut_at cs 156 1 157 rfl, e9, cut_at cs 157 6 163 rfl, e10, cut_at cs 163 11 174 rfl, e11, cut_at cs 174 38 212 rfl, e12, cut_at cs 212 1 213 rfl, e13, cut_at cs 213 35 248 rfl, e14, cut_at cs 248 34 282 rfl, e15, cut_at cs 282 4 286 rfl, e16, cut_at cs 286 1 287 rfl, e17, cut_at cs 287 8 295 rfl, e18, z]
  simp [Wmg.cells]
theorem msg_open {H : Type} {enc : TypeId × Value → H} {W : World} {r : Reach} {base b0 : Nat} {v : Value} {d : DataW H} {p : List MemPlace} {sp : Nat → Bool} {held : Bool} (hv : Value.okWide Try.prog W r base 61 v) (h : DataW.Trod enc Try.prog W b0 sp held 61 v d p) (hb : b0 = 0) :
    ∃ x : Wmg, x.In W ∧ v = x.val := by
  subst hb
  unfold Value.okWide at hv
  rw [Try.underlying61] at hv
  obtain ⟨cs, rfl, -⟩ := hv
  obtain ⟨fuel, hf⟩ := h
  obtain ⟨x, hx, e⟩ := msg_of_trod (show DataW.trod enc Try.prog W 0 sp held fuel 61 cs.toList = some (d, p) from hf)
  exact ⟨x, hx, by show Value.agg cs = Value.agg _; rw [← e, Array.toArray_toList]⟩
end Go.Proofs.Ytnpjihdhpoddgaa
