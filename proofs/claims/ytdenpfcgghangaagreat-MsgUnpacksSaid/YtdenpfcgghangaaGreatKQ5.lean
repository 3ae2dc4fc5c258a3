/- Texts that the proof stands on: gavellaw06.Small: a message that is small enough to be played. (written by gen_msm.py) | gavelref01.Unpack, kind by kind. (written by gen_mu3k.py) -/
import Derived.Test.YtdenpfcgghangaaGreatKQ4
import Derived.Deep.CutBlock
set_option linter.unusedSimpArgs false
set_option linter.unusedVariables false
set_option maxRecDepth 100000

namespace Go.Proofs.YtdenpfcgghangaaGreat
open Go.RowKit
set_option maxRecDepth 100000
theorem el_voteS : ElTy Tryz.prog 49 38 80 := ElTy.of (by kernel_rfl)
theorem copyVotes_any (A : Option Addr) (n c : Nat) (l : List Wvt) (w : World) (hr : Lst 38 Wvt.cells (fun _ v => v.Ok) w A n l) (hn : n ≤ 1000000) :
  Calls Tryz.prog 76 #[.slice A n c] w fun e w' => ∃ A' c', e = .returned (.slice A' n c') ∧ NewL 49 38 Wvt.cells w w' A' n c' l := by
 have HR := Lib.hid hr
 have HN := Lib.hid hn
 clear hr hn
 go_enter Tryz.func76, Tryz.ntmps76
 go_wp2_with (at_builtin; refine Stop.mk ?_)
 refine Stop.go ?_
 refine wpList_append_lst _ rfl (.const (.slice none 0 0)) (.tmp 3) _ rfl 49 38 80 Tryz.underlying57 el_voteS (by decide) (by decide) Wvt.one rfl A n c l rfl HR.out HN.out ?_
 intro A1 c1 w1 ho1
 have HO := Lib.hid ho1
 clear ho1
 go_wp2
 go_ret
 exact ⟨A1, c1, rfl, HO.out⟩
theorem cutVotes_any (A : Option Addr) (n c m : Nat) (l : List Wvt) (w : World) (hr : Lst 38 Wvt.cells (fun _ v => v.Ok) w A n l) (hn : n ≤ maxLen) (hc : n ≤ c) (hm : m ≤ 1000000) :
  Calls Tryz.prog 37 #[.slice A n c, .int .i64 m] w fun e w' => ∃ A' c', e = .returned (.slice A' (l.take m).length c') ∧ NewL 49 38 Wvt.cells w w' A' (l.take m).length c' (l.take m) := by
 unfold maxLen at hn
 have HR := Lib.hid hr
 have HL : Hid ((l.take m).length = min m n) := by rw [List.length_take, hr.1]; rfl
 clear hr
 by_cases hnm : n ≤ m
 · have hmin : Hid (min m n = n) := Nat.min_eq_right hnm
   go_enter Tryz.func37, Tryz.ntmps37
   go_wp2_with fail
   rw [show (min (n : Int) (m : Int)).toNat = n by omega]
   refine (copyVotes_any A n c (l.take m) w (by have h := HR.out.1; rw [List.take_of_length_le (by omega)]; exact HR.out) (by omega)).mono ?_
   rintro e w1 ⟨A1, c1, rfl, hN⟩
   have HN := Lib.hid hN
   clear hN
   go_wp2
   go_ret
   rw [HL.out, hmin.out]
   exact ⟨A1, c1, rfl, HN.out⟩
 · have hmin : Hid (min m n = m) := Nat.min_eq_left (by omega)
   have hmc : m ≤ c := by omega
   go_enter Tryz.func37, Tryz.ntmps37
   go_wp2_with fail
   rw [show (min (n : Int) (m : Int)).toNat = m by omega]
   refine (copyVotes_any A m c (l.take m) w (HR.out.take (by omega)) (by omega)).mono ?_
   rintro e w1 ⟨A1, c1, rfl, hN⟩
   have HN := Lib.hid hN
   clear hN
   go_wp2
   go_ret
   rw [HL.out, hmin.out]
   exact ⟨A1, c1, rfl, HN.out⟩
theorem Wmg.blk_pok {w : World} {g : Nat} {t : TypeId} {x : Wmg} (hx : x.Len) (v : Wba) (hb : Blk w g t x.cells.toArray) : Blk (w.setCells g 167 (v.cells)) g t ({x with po := {x.po with k := v}} : Wmg).cells.toArray :=
 Blk.mid_at (v.cells) (x.po.k.cells) ([.int .i64 x.q] ++ ([.int .i64 x.f] ++ ([.int .i64 x.t] ++ (x.cm.cells ++ (x.st.cells ++ (x.ce.cells ++ (x.ak.cells ++ ([.int .i64 x.e] ++ ([.int .i64 x.r] ++ ([.int .u64 (x.tm : Int)] ++ (x.pr.cells ++ ([.int .i64 x.po.e, .int .i64 x.po.r] ++ ([.int .i64 x.po.v] ++ ([.int .i64 x.po.p])))))))))))))) ([.int .i64 x.po.b, .int .i64 x.po.m] ++ (x.vt.cells ++ ([.int .i64 x.i] ++ (x.en.cells ++ (x.op.cells ++ (x.dn.cells ++ ([.string ⟨x.rp.toArray⟩] ++ (x.de.cells)))))))) 167 (by simp only [List.length_append, List.length_cons, List.length_nil, Wcm.len hx.cm, Wst.len hx.st, Wce.len hx.ce, Wst.len hx.ak, Wpr.len x.pr, Wpo.len x.po, Wvt.len hx.vt, Wen.len hx.en, Wop.len hx.op, Wdn.len x.dn, (show x.de.k.cells.length = 5 from rfl), (show x.po.k.cells.length = 5 from rfl)]) rfl _ _ (by simp only [Wmg.cells, Wpo.cells, Wop.cells, Wdc.cells, List.append_assoc, List.append_nil, List.cons_append, List.nil_append]) (by simp only [Wmg.cells, Wpo.cells, Wop.cells, Wdc.cells, List.append_assoc, List.append_nil, List.cons_append, List.nil_append]) hb
theorem Wmg.blk_pov {w : World} {g : Nat} {t : TypeId} {x : Wmg} (hx : x.Len) (v : Int) (hb : Blk w g t x.cells.toArray) : Blk (w.setCells g 165 ([.int .i64 v])) g t ({x with po := {x.po with v := v}} : Wmg).cells.toArray :=
 Blk.mid_at ([.int .i64 v]) ([.int .i64 x.po.v]) ([.int .i64 x.q] ++ ([.int .i64 x.f] ++ ([.int .i64 x.t] ++ (x.cm.cells ++ (x.st.cells ++ (x.ce.cells ++ (x.ak.cells ++ ([.int .i64 x.e] ++ ([.int .i64 x.r] ++ ([.int .u64 (x.tm : Int)] ++ (x.pr.cells ++ ([.int .i64 x.po.e, .int .i64 x.po.r])))))))))))) ([.int .i64 x.po.p] ++ (x.po.k.cells ++ ([.int .i64 x.po.b, .int .i64 x.po.m] ++ (x.vt.cells ++ ([.int .i64 x.i] ++ (x.en.cells ++ (x.op.cells ++ (x.dn.cells ++ ([.string ⟨x.rp.toArray⟩] ++ (x.de.cells)))))))))) 165 (by simp only [List.length_append, List.length_cons, List.length_nil, Wcm.len hx.cm, Wst.len hx.st, Wce.len hx.ce, Wst.len hx.ak, Wpr.len x.pr, Wpo.len x.po, Wvt.len hx.vt, Wen.len hx.en, Wop.len hx.op, Wdn.len x.dn, (show x.de.k.cells.length = 5 from rfl), (show x.po.k.cells.length = 5 from rfl)]) rfl _ _ (by simp only [Wmg.cells, Wpo.cells, Wop.cells, Wdc.cells, List.append_assoc, List.append_nil, List.cons_append, List.nil_append]) (by simp only [Wmg.cells, Wpo.cells, Wop.cells, Wdc.cells, List.append_assoc, List.append_nil, List.cons_append, List.nil_append]) hb
theorem Wmg.blk_dek {w : World} {g : Nat} {t : TypeId} {x : Wmg} (hx : x.Len) (v : Wba) (hb : Blk w g t x.cells.toArray) : Blk (w.setCells g 289 (v.cells)) g t ({x with de := {x.de with k := v}} : Wmg).cells.toArray :=
 Blk.mid_at (v.cells) (x.de.k.cells) ([.int .i64 x.q] ++ ([.int .i64 x.f] ++ ([.int .i64 x.t] ++ (x.cm.cells ++ (x.st.cells ++ (x.ce.cells ++ (x.ak.cells ++ ([.int .i64 x.e] ++ ([.int .i64 x.r] ++ ([.int .u64 (x.tm : Int)] ++ (x.pr.cells ++ (x.po.cells ++ (x.vt.cells ++ ([.int .i64 x.i] ++ (x.en.cells ++ (x.op.cells ++ (x.dn.cells ++ ([.string ⟨x.rp.toArray⟩] ++ ([.int .i64 x.de.e, .int .i64 x.de.r]))))))))))))))))))) ([.slice x.de.A x.de.n x.de.d]) 289 (by simp only [List.length_append, List.length_cons, List.length_nil, Wcm.len hx.cm, Wst.len hx.st, Wce.len hx.ce, Wst.len hx.ak, Wpr.len x.pr, Wpo.len x.po, Wvt.len hx.vt, Wen.len hx.en, Wop.len hx.op, Wdn.len x.dn, (show x.de.k.cells.length = 5 from rfl), (show x.po.k.cells.length = 5 from rfl)]) rfl _ _ (by simp only [Wmg.cells, Wpo.cells, Wop.cells, Wdc.cells, List.append_assoc, List.append_nil, List.cons_append, List.nil_append]) (by simp only [Wmg.cells, Wpo.cells, Wop.cells, Wdc.cells, List.append_assoc, List.append_nil, List.cons_append, List.nil_append]) hb
theorem Wmg.blk_dev {w : World} {g : Nat} {t : TypeId} {x : Wmg} (hx : x.Len) (A : Option Addr) (n d : Nat) (l : List Wvt) (hb : Blk w g t x.cells.toArray) : Blk (w.setCells g 294 ([.slice A n d])) g t ({x with de := {x.de with A := A, n := n, d := d, l := l}} : Wmg).cells.toArray :=
 Blk.mid_at ([.slice A n d]) ([.slice x.de.A x.de.n x.de.d]) ([.int .i64 x.q] ++ ([.int .i64 x.f] ++ ([.int .i64 x.t] ++ (x.cm.cells ++ (x.st.cells ++ (x.ce.cells ++ (x.ak.cells ++ ([.int .i64 x.e] ++ ([.int .i64 x.r] ++ ([.int .u64 (x.tm : Int)] ++ (x.pr.cells ++ (x.po.cells ++ (x.vt.cells ++ ([.int .i64 x.i] ++ (x.en.cells ++ (x.op.cells ++ (x.dn.cells ++ ([.string ⟨x.rp.toArray⟩] ++ ([.int .i64 x.de.e, .int .i64 x.de.r] ++ (x.de.k.cells)))))))))))))))))))) ([]) 294 (by simp only [List.length_append, List.length_cons, List.length_nil, Wcm.len hx.cm, Wst.len hx.st, Wce.len hx.ce, Wst.len hx.ak, Wpr.len x.pr, Wpo.len x.po, Wvt.len hx.vt, Wen.len hx.en, Wop.len hx.op, Wdn.len x.dn, (show x.de.k.cells.length = 5 from rfl), (show x.po.k.cells.length = 5 from rfl)]) rfl _ _ (by simp only [Wmg.cells, Wpo.cells, Wop.cells, Wdc.cells, List.append_assoc, List.append_nil, List.cons_append, List.nil_append]) (by simp only [Wmg.cells, Wpo.cells, Wop.cells, Wdc.cells, List.append_assoc, List.append_nil, List.cons_append, List.nil_append]) hb
theorem Wmg.blk_opp {w : World} {g : Nat} {t : TypeId} {x : Wmg} (hx : x.Len) (A : Option Addr) (n d : Nat) (l : List UInt8) (hb : Blk w g t x.cells.toArray) : Blk (w.setCells g 249 ([.slice A n d])) g t ({x with op := {x.op with A := A, n := n, d := d, p := l}} : Wmg).cells.toArray :=
 Blk.mid_at ([.slice A n d]) ([.slice x.op.A x.op.n x.op.d]) ([.int .i64 x.q] ++ ([.int .i64 x.f] ++ ([.int .i64 x.t] ++ (x.cm.cells ++ (x.st.cells ++ (x.ce.cells ++ (x.ak.cells ++ ([.int .i64 x.e] ++ ([.int .i64 x.r] ++ ([.int .u64 (x.tm : Int)] ++ (x.pr.cells ++ (x.po.cells ++ (x.vt.cells ++ ([.int .i64 x.i] ++ (x.en.cells ++ ([.int .i64 x.op.i])))))))))))))))) (x.op.h.map by8 ++ (x.dn.cells ++ ([.string ⟨x.rp.toArray⟩] ++ (x.de.cells)))) 249 (by simp only [List.length_append, List.length_cons, List.length_nil, Wcm.len hx.cm, Wst.len hx.st, Wce.len hx.ce, Wst.len hx.ak, Wpr.len x.pr, Wpo.len x.po, Wvt.len hx.vt, Wen.len hx.en, Wop.len hx.op, Wdn.len x.dn, (show x.de.k.cells.length = 5 from rfl), (show x.po.k.cells.length = 5 from rfl)]) rfl _ _ (by simp only [Wmg.cells, Wpo.cells, Wop.cells, Wdc.cells, List.append_assoc, List.append_nil, List.cons_append, List.nil_append]) (by simp only [Wmg.cells, Wpo.cells, Wop.cells, Wdc.cells, List.append_assoc, List.append_nil, List.cons_append, List.nil_append]) hb
set_option maxHeartbeats 8000000 in
theorem msmall_ex (x : Wmg) (w : World) (hx : x.In w) (C : List Value) (hC : x.cells = C) :
  Calls Tryz.prog 6 #[.agg C.toArray] w fun e w' => ∃ y : Wmg, e = .returned (.agg y.cells.toArray) ∧ y.po.v < 9223372036854775807 ∧ (∀ S0 : List Nat, (∀ k ∈ S0, k < w.heap.size) → y.Ok w' S0) ∧ Fr [] w w' := by
 obtain ⟨wa, hwa⟩ : ∃ wa, wa = (w.alloc (Obj.cells C.toArray 61)).alloc (Obj.cells mz00 61) := ⟨_, rfl⟩
 have hf0 : Fr [] w wa := by rw [hwa]; exact ((Fr.refl [] w).alloc _).alloc _
 have hb0 : Blk wa w.heap.size 61 x.cells.toArray := by rw [hwa, hC]; exact blk_alloc (Blk.new _ _ _)
 have hb1 : Blk wa (w.heap.size + 1) 61 mz00 := by
  have := Blk.new (w.alloc (Obj.cells C.toArray 61)) 61 mz00
  rw [hwa]
  simpa using this
 have hlen : x.Len := ⟨hx.cm.h, hx.st.h, hx.ce.k.h, hx.ak.h, hx.vt.h, hx.en.h, hx.op.h⟩
 have hat : x.At wa w.heap.size := Wmg.at_len hb0.range hlen
 have HRC : Hid (wa.rangeAt w.heap.size 78 x.ce.cells) := Lib.hid hat.ce
 have HRP : Hid (wa.rangeAt w.heap.size 157 x.pr.cells) := Lib.hid hat.pr
 have HRK : Hid (wa.rangeAt w.heap.size 167 x.po.k.cells) := Lib.hid (ra_head (ra_tail (k := 4) hat.po rfl))
 have HRD : Hid (wa.rangeAt w.heap.size 289 x.de.k.cells) := Lib.hid (ra_head (ra_tail (k := 2) hat.de rfl))
 have HB0 := Lib.hid hb0
 have HB1 := Lib.hid hb1
 have HF0 := Lib.hid hf0
 have HWA := Lib.hid hwa
 have HX := Lib.hid hx
 have HL := Lib.hid hlen
 have HSZ : Hid (wa.heap.size = w.heap.size + 2) := Lib.hid (by rw [hwa]; simp)
 have HLC : Hid (x.ce.cells.length = 38) := Lib.hid (Wce.len hx.ce.k.h)
 clear hwa hf0 hb0 hb1 hlen hat hx hC
 go_enter Tryz.func6, Tryz.ntmps6
 go_upto_region 1 with (fail)
 change Code.wp _ _ _ _ ((w.alloc (Obj.cells C.toArray 61)).alloc (Obj.cells mz00 61))
 rw [← HWA.out]
 refine wp_region_till 15 (Fr [w.heap.size] wa) (Fr [] wa) (by kernel_rfl) (Fr.drew (Fr.refl _ wa)) (Fr.drew (Fr.refl _ wa)) (fun hA hB => ?_)
 have HFD : Hid (Fr [] wa wa.drew) := Lib.hid (Fr.drew (Fr.refl [] wa))
 generalize wa.drew = wd at *
 have HLP : Hid (x.pr.cells.length = 6) := Lib.hid (Wpr.len _)
 have HLK : Hid (x.po.k.cells.length = 5) := Lib.hid rfl
 have HLD : Hid (x.de.k.cells.length = 5) := Lib.hid rfl
 have hcc := certCut_any x.ce.k HX.out.ce.k x.ce.A x.ce.n x.ce.d x.ce.l
 rw [show x.ce.k.cells ++ [Value.slice x.ce.A x.ce.n x.ce.d] = x.ce.cells from rfl] at hcc
 have hpc := promiseCut_any x.pr
 obtain ⟨CL, hCL⟩ : ∃ CL, x.ce.cells = CL := ⟨_, rfl⟩
 obtain ⟨PL, hPL⟩ : ∃ PL, x.pr.cells = PL := ⟨_, rfl⟩
 obtain ⟨KL, hKL⟩ : ∃ KL, x.po.k.cells = KL := ⟨_, rfl⟩
 obtain ⟨DL, hDL⟩ : ∃ DL, x.de.k.cells = DL := ⟨_, rfl⟩
 rw [hCL] at HRC HLC hcc
 rw [hPL] at HRP HLP hpc
 rw [hKL] at HRK HLK
 rw [hDL] at HRD HLD
 have HKL := Lib.hid hKL
 have HDL := Lib.hid hDL
 clear hCL hPL hKL hDL
 refine till_run (i := 0) (v := ?_) rfl (by kernel_rfl) (by rfl) (fun _ _ _ h => h) hA hB (fun w1 hw1 => ?_) ?_
 rotate_left 1
 · skip
   go_simp
   try first | with_reducible rfl | apply And.intro <;> rfl
 simp only [xPa, xPb, xPc, xPd, xPe]
 refine till_row (i := 1) rfl (by kernel_rfl) (by rfl) _ _ rfl _ _ rfl _ (fun w1 hw1 => hw1.range (HRC.out) (by simp)) (row_crt.of HLC.out) (fun _ _ _ h => h) hA hB ?_
 simp only [xPa, xPb, xPc, xPd, xPe]
 refine till_run (i := 3) (v := ?_) rfl (by kernel_rfl) (by rfl) (fun _ _ _ h => h) hA hB (fun w1 hw1 => ?_) ?_
 rotate_left 1
 · skip
   go_simp
   try first | with_reducible rfl | apply And.intro <;> rfl
 simp only [xPa, xPb, xPc, xPd, xPe]
 refine till_row (i := 4) rfl (by kernel_rfl) (by rfl) _ _ rfl _ _ rfl _ (fun w1 hw1 => hw1.range (HRP.out) (by simp)) (row_prm.of HLP.out) (fun _ _ _ h => h) hA hB ?_
 simp only [xPa, xPb, xPc, xPd, xPe]
 refine till_run (i := 6) (v := ?_) rfl (by kernel_rfl) (by rfl) (fun _ _ _ h => h) hA hB (fun w1 hw1 => ?_) ?_
 rotate_left 1
 · skip
   go_simp
   try first | with_reducible rfl | apply And.intro <;> rfl
 simp only [xPa, xPb, xPc, xPd, xPe]
 refine till_run (i := 7) (v := ?_) rfl (by kernel_rfl) (by rfl) (fun _ _ _ h => h) hA hB (fun w1 hw1 => ?_) ?_
 rotate_left 1
 · skip
   go_simp
   try first | with_reducible rfl | apply And.intro <;> rfl
 simp only [xPa, xPb, xPc, xPd, xPe]
 refine till_row (i := 8) rfl (by kernel_rfl) (by rfl) _ _ rfl _ _ rfl _ (fun w1 hw1 => hw1.range (HRK.out) (by simp)) (row_bat.of HLK.out) (fun _ _ _ h => h) hA hB ?_
 simp only [xPa, xPb, xPc, xPd, xPe]
 refine till_run (i := 10) (v := ?_) rfl (by kernel_rfl) (by rfl) (fun _ _ _ h => h) hA hB (fun w1 hw1 => ?_) ?_
 rotate_left 1
 · skip
   go_simp
   try first | with_reducible rfl | apply And.intro <;> rfl
 simp only [xPa, xPb, xPc, xPd, xPe]
 refine till_run (i := 11) (v := ?_) rfl (by kernel_rfl) (by rfl) (fun _ _ _ h => h) hA hB (fun w1 hw1 => ?_) ?_
 rotate_left 1
 · skip
   go_simp
   try first | with_reducible rfl | apply And.intro <;> rfl
 simp only [xPa, xPb, xPc, xPd, xPe]
 refine till_row (i := 12) rfl (by kernel_rfl) (by rfl) _ _ rfl _ _ rfl _ (fun w1 hw1 => hw1.range (HRD.out) (by simp)) (row_bat.of HLD.out) (fun _ _ _ h => h) hA hB ?_
 simp only [xPa, xPb, xPc, xPd, xPe]
 refine till_call (i := 2) (f := ?_) (args := ?_) rfl (by kernel_rfl) (by rfl) ?_ ?_
 rotate_left 2
 · go_simp
   try first | with_reducible rfl | apply And.intro <;> rfl
 refine (hcc wd (HX.out.ce.l.keep' (HF0.out.and HFD.out (by simp)) (by simp) (fun _ _ h => h)) HX.out.ce.n HX.out.ce.d).mono ?_
 clear hcc
 rintro e w1 ⟨A1, d1, rfl, hN⟩
 have hm5 : (x.ce.l.take 5).length ≤ 5 := List.length_take_le _ _
 have hok : ∀ S0 : List Nat, (∀ q ∈ S0, q < wa.heap.size) → (⟨x.ce.k, A1, (x.ce.l.take 5).length, d1, x.ce.l.take 5⟩ : Wce).Ok w1 S0 := fun S0 h0 => ⟨HX.out.ce.k, Lst.of_own (ok := fun (_ : World) (v : Wst) => v.Ok) hN.1 rfl (fun u hu => HX.out.ce.l.2.1 u (List.mem_of_mem_take hu)), hm5, fun hp a ha hin => by
  have ha : A1 = some a := ha
  have h1 := hN.2.2 a.block (by rw [ha]; simp [bk])
  have h2 := h0 _ hin
  have h3 := HFD.out.size
  omega⟩
 have hcl : x.ce.k.cells ++ [Value.slice A1 (x.ce.l.take 5).length d1] = (⟨x.ce.k, A1, (x.ce.l.take 5).length, d1, x.ce.l.take 5⟩ : Wce).cells := rfl
 rw [hcl]
 have hck : (⟨x.ce.k, A1, (x.ce.l.take 5).length, d1, x.ce.l.take 5⟩ : Wce).k.h.length = 32 := HL.out.ce
 generalize (⟨x.ce.k, A1, (x.ce.l.take 5).length, d1, x.ce.l.take 5⟩ : Wce) = c at *
 have HCK := Lib.hid hck
 have hf1 := hN.2.1
 have HC := Lib.hid hok
 have HF1 := Lib.hid hf1
 refine ⟨_, rfl, ⟨hA.go hf1 (by simp), hB.and hf1 (by simp)⟩, fun hB => ?_⟩
 replace hA := hA.go hf1 (by simp)
 clear hN hm5 hok hcl hf1 hck
 simp only [xPa, xPb, xPc, xPd, xPe]
 refine till_run (i := 14) (v := ?_) rfl (by kernel_rfl) (by rfl) (fun _ _ _ h => h) hA hB (fun w1 hw1 => ?_) ?_
 rotate_left 1
 · skip
   go_simp
   try first | with_reducible rfl | apply And.intro <;> rfl
 simp only [xPa, xPb, xPc, xPd, xPe]
 refine till_call (i := 5) (f := ?_) (args := ?_) rfl (by kernel_rfl) (by rfl) ?_ ?_
 rotate_left 2
 · go_simp
   try first | with_reducible rfl | apply And.intro <;> rfl
 refine (hpc w1 HX.out.pr.r HX.out.pr.e HX.out.pr.t HX.out.pr.b HX.out.pr.m (HX.out.pr.l.keep' ((HF0.out.and HFD.out (by simp)).and HF1.out (by simp)) (by simp) (fun _ _ h => h.keep ((HF0.out.and HFD.out (by simp)).and HF1.out (by simp)))) HX.out.pr.n).mono ?_
 clear hpc
 rintro e w2 ⟨A2, d2, ys, rfl, hok, -, hf2⟩
 generalize hq : (⟨x.pr.r, x.pr.e, x.pr.t, A2, (x.pr.l.take 3).length, d2, ys, x.pr.b, x.pr.m⟩ : Wpr) = q at *
 clear hq
 have HQ : Hid (∀ S0 : List Nat, (∀ q ∈ S0, q < wa.heap.size) → q.Ok w2 S0) := Lib.hid (fun S0 h0 => hok S0 (fun k hk => Nat.lt_of_lt_of_le (h0 k hk) (HFD.out.and HF1.out (by simp)).size))
 have HF2 := Lib.hid hf2
 have HC : Hid (∀ S0 : List Nat, (∀ q ∈ S0, q < wa.heap.size) → c.Ok w2 S0) := Lib.hid (fun S0 h0 => (HC.out S0 h0).keep (hf2.mono (by simp)) (fun k hk _ => hk))
 refine ⟨_, rfl, ⟨hA.go hf2 (by simp), hB.and hf2 (by simp)⟩, fun hB => ?_⟩
 replace hA := hA.go hf2 (by simp)
 clear hok hf2
 simp only [xPa, xPb, xPc, xPd, xPe]
 have HFX : Hid (Fr [] wa w2) := Lib.hid ((HFD.out.and HF1.out (by simp)).and HF2.out (by simp))
 clear HF1 HF2 HFD
 refine till_call (i := 9) (f := ?_) (args := ?_) rfl (by kernel_rfl) (by rfl) ?_ ?_
 rotate_left 2
 · go_simp
   try first | with_reducible rfl | apply And.intro <;> rfl
 refine (batchCut_any x.po.k w2 (HX.out.po.k.keep (HF0.out.and HFX.out (by simp))) KL HKL.out).mono ?_
 rintro e w3 ⟨y1, rfl, hyk, hf3⟩
 have HY1 : Hid (∀ S0 : List Nat, (∀ q ∈ S0, q < wa.heap.size) → y1.Ok w3 S0) := Lib.hid (fun S0 h0 => hyk S0 (fun k hk => Nat.lt_of_lt_of_le (h0 k hk) HFX.out.size))
 have HC : Hid (∀ S0 : List Nat, (∀ q ∈ S0, q < wa.heap.size) → c.Ok w3 S0) := Lib.hid (fun S0 h0 => (HC.out S0 h0).keep (hf3.mono (by simp)) (fun k hk _ => hk))
 have HQ : Hid (∀ S0 : List Nat, (∀ q ∈ S0, q < wa.heap.size) → q.Ok w3 S0) := Lib.hid (fun S0 h0 => (HQ.out S0 h0).keep (hf3.mono (by simp)) (fun k hk _ => hk))
 have HFX : Hid (Fr [] wa w3) := Lib.hid (HFX.out.and hf3 (by simp))
 refine ⟨_, rfl, ⟨hA.go hf3 (by simp), hB.and hf3 (by simp)⟩, fun hB => ?_⟩
 replace hA := hA.go hf3 (by simp)
 clear hyk hf3
 unfold Wba.val
 simp only [xPa, xPb, xPc, xPd, xPe]
 refine till_call (i := 13) (f := ?_) (args := ?_) rfl (by kernel_rfl) (by rfl) ?_ ?_
 rotate_left 2
 · go_simp
   try first | with_reducible rfl | apply And.intro <;> rfl
 refine (batchCut_any x.de.k w3 (HX.out.de.k.keep (HF0.out.and HFX.out (by simp))) DL HDL.out).mono ?_
 rintro e w4 ⟨y2, rfl, hyk, hf4⟩
 have HY2 : Hid (∀ S0 : List Nat, (∀ q ∈ S0, q < wa.heap.size) → y2.Ok w4 S0) := Lib.hid (fun S0 h0 => hyk S0 (fun k hk => Nat.lt_of_lt_of_le (h0 k hk) HFX.out.size))
 have HY1 : Hid (∀ S0 : List Nat, (∀ q ∈ S0, q < wa.heap.size) → y1.Ok w4 S0) := Lib.hid (fun S0 h0 => (HY1.out S0 h0).keep (hf4.mono (by simp)) (fun k hk _ => hk))
 have HC : Hid (∀ S0 : List Nat, (∀ q ∈ S0, q < wa.heap.size) → c.Ok w4 S0) := Lib.hid (fun S0 h0 => (HC.out S0 h0).keep (hf4.mono (by simp)) (fun k hk _ => hk))
 have HQ : Hid (∀ S0 : List Nat, (∀ q ∈ S0, q < wa.heap.size) → q.Ok w4 S0) := Lib.hid (fun S0 h0 => (HQ.out S0 h0).keep (hf4.mono (by simp)) (fun k hk _ => hk))
 have HFX : Hid (Fr [] wa w4) := Lib.hid (HFX.out.and hf4 (by simp))
 refine ⟨_, rfl, ⟨hA.go hf4 (by simp), hB.and hf4 (by simp)⟩, fun hB => ?_⟩
 replace hA := hA.go hf4 (by simp)
 clear hyk hf4
 unfold Wba.val
 simp only [xPa, xPb, xPc, xPd, xPe]
 have HB0 := Lib.hid (HB0.out.keep HFX.out (by simp))
 have HB1 := Lib.hid (HB1.out.keep HFX.out (by simp))
 clear HRC HRP HRK HRD HLC HLP HLK HLD HKL HDL
 have hA4 : Fr [w.heap.size] w4 w4 := Fr.refl _ _
 have HS4 := Lib.hid hA4
 clear hA4
 have HLe : Hid (∀ z : Wmg, z.Len → z.cells.length = 295) := Lib.hid (fun z hz => Wmg.lenz hz)
 refine till_step (i := 15) rfl (by kernel_rfl) (by kernel_rfl) (by rfl) (fun K hK => ?_)
 refine wp_store_mid 35 _ _ rfl w.heap.size 78 c.cells.toArray rfl rfl (Blk.thereM HB0.out 78 _ (by rw [List.size_toArray, List.size_toArray, HLe.out _ HL.out, Wce.len HCK.out]; decide)) (by rw [List.size_toArray, Wce.len HCK.out]; kernel_rfl) (all_oneCell_toArray (Wce.one _)) ?_
 refine hK.out _ _ (Fr.setCells (fun _ => by simp) c.cells 78 _ hA) (fun hA => ?_)
 clear hK K
 have HBa : Hid (Blk (w4.setCells w.heap.size 78 c.cells) w.heap.size 61 ({x with ce := c} : Wmg).cells.toArray) := Lib.hid (Wmg.blk_ce HL.out c (Wce.len HCK.out) HB0.out)
 have HLa : Hid (Wmg.Len {x with ce := c}) := Lib.hid ⟨HL.out.cm, HL.out.st, HCK.out, HL.out.ak, HL.out.vt, HL.out.en, HL.out.op⟩
 have HS4 : Hid (Fr [w.heap.size] w4 (w4.setCells w.heap.size 78 c.cells)) := Lib.hid (Fr.setCells (fun _ => by simp) c.cells 78 _ HS4.out)
 generalize w4.setCells w.heap.size 78 c.cells = u1 at *
 simp only [xPa, xPb, xPc, xPd, xPe]
 refine till_step (i := 16) rfl (by kernel_rfl) (by kernel_rfl) (by rfl) (fun K hK => ?_)
 refine wp_run (v := ?_) (w' := ?_) ?_ ?_
 rotate_left 2
 · go_simp
   try first | with_reducible rfl | apply And.intro <;> rfl
 refine hK.out _ _ hA (fun hA => ?_)
 clear hK K
 simp only [xPa, xPb, xPc, xPd, xPe]
 refine till_step (i := 17) rfl (by kernel_rfl) (by kernel_rfl) (by rfl) (fun K hK => ?_)
 refine wp_store_mid 40 _ _ rfl w.heap.size 157 q.cells.toArray rfl rfl (Blk.thereM HBa.out 157 _ (by rw [List.size_toArray, List.size_toArray, HLe.out _ HLa.out, Wpr.len q]; decide)) (by kernel_rfl) (all_oneCell_toArray (Wpr.one _)) ?_
 refine hK.out _ _ (Fr.setCells (fun _ => by simp) q.cells 157 _ hA) (fun hA => ?_)
 clear hK K
 have HBb : Hid (Blk (u1.setCells w.heap.size 157 q.cells) w.heap.size 61 ({x with ce := c, pr := q} : Wmg).cells.toArray) := Lib.hid (Wmg.blk_pr HLa.out q (Wpr.len q) HBa.out)
 have HLb : Hid (Wmg.Len {x with ce := c, pr := q}) := Lib.hid ⟨HL.out.cm, HL.out.st, HCK.out, HL.out.ak, HL.out.vt, HL.out.en, HL.out.op⟩
 have HS4 : Hid (Fr [w.heap.size] w4 (u1.setCells w.heap.size 157 q.cells)) := Lib.hid (Fr.setCells (fun _ => by simp) q.cells 157 _ HS4.out)
 generalize u1.setCells w.heap.size 157 q.cells = u2 at *
 simp only [xPa, xPb, xPc, xPd, xPe]
 refine till_step (i := 18) rfl (by kernel_rfl) (by kernel_rfl) (by rfl) (fun K hK => ?_)
 refine wp_run (v := ?_) (w' := ?_) ?_ ?_
 rotate_left 2
 · go_simp
   try first | with_reducible rfl | apply And.intro <;> rfl
 refine hK.out _ _ hA (fun hA => ?_)
 clear hK K
 simp only [xPa, xPb, xPc, xPd, xPe]
 refine till_step (i := 19) rfl (by kernel_rfl) (by kernel_rfl) (by rfl) (fun K hK => ?_)
 refine wp_run (v := ?_) (w' := ?_) ?_ ?_
 rotate_left 2
 · go_simp
   try first | with_reducible rfl | apply And.intro <;> rfl
 refine hK.out _ _ hA (fun hA => ?_)
 clear hK K
 simp only [xPa, xPb, xPc, xPd, xPe]
 refine till_step (i := 20) rfl (by kernel_rfl) (by kernel_rfl) (by rfl) (fun K hK => ?_)
 refine wp_store_mid 45 _ _ rfl w.heap.size 167 y1.cells.toArray rfl rfl (Blk.thereM HBb.out 167 _ (by rw [List.size_toArray, List.size_toArray, HLe.out _ HLb.out, show y1.cells.length = 5 from rfl]; decide)) (by kernel_rfl) (all_oneCell_toArray (Wba.one _)) ?_
 refine hK.out _ _ (Fr.setCells (fun _ => by simp) y1.cells 167 _ hA) (fun hA => ?_)
 clear hK K
 have HBc : Hid (Blk (u2.setCells w.heap.size 167 y1.cells) w.heap.size 61 ({x with ce := c, pr := q, po := {x.po with k := y1}} : Wmg).cells.toArray) := Lib.hid (Wmg.blk_pok HLb.out y1 HBb.out)
 have HLc : Hid (Wmg.Len {x with ce := c, pr := q, po := {x.po with k := y1}}) := Lib.hid ⟨HL.out.cm, HL.out.st, HCK.out, HL.out.ak, HL.out.vt, HL.out.en, HL.out.op⟩
 have HS4 : Hid (Fr [w.heap.size] w4 (u2.setCells w.heap.size 167 y1.cells)) := Lib.hid (Fr.setCells (fun _ => by simp) y1.cells 167 _ HS4.out)
 generalize u2.setCells w.heap.size 167 y1.cells = u3 at *
 simp only [xPa, xPb, xPc, xPd, xPe]
 refine till_step (i := 21) rfl (by kernel_rfl) (by kernel_rfl) (by rfl) (fun K hK => ?_)
 refine wp_run (v := ?_) (w' := ?_) ?_ ?_
 rotate_left 2
 · go_simp
   try first | with_reducible rfl | apply And.intro <;> rfl
 refine hK.out _ _ hA (fun hA => ?_)
 clear hK K
 simp only [xPa, xPb, xPc, xPd, xPe]
 refine till_step (i := 22) rfl (by kernel_rfl) (by kernel_rfl) (by rfl) (fun K hK => ?_)
 refine wp_run (v := ?_) (w' := ?_) ?_ ?_
 rotate_left 2
 · go_simp
   try first | with_reducible rfl | apply And.intro <;> rfl
 refine hK.out _ _ hA (fun hA => ?_)
 clear hK K
 simp only [xPa, xPb, xPc, xPd, xPe]
 refine till_step (i := 23) rfl (by kernel_rfl) (by kernel_rfl) (by rfl) (fun K hK => ?_)
 refine wp_store_mid 45 _ _ rfl w.heap.size 289 y2.cells.toArray rfl rfl (Blk.thereM HBc.out 289 _ (by rw [List.size_toArray, List.size_toArray, HLe.out _ HLc.out, show y2.cells.length = 5 from rfl]; decide)) (by kernel_rfl) (all_oneCell_toArray (Wba.one _)) ?_
 refine hK.out _ _ (Fr.setCells (fun _ => by simp) y2.cells 289 _ hA) (fun hA => ?_)
 clear hK K
 have HBd : Hid (Blk (u3.setCells w.heap.size 289 y2.cells) w.heap.size 61 ({x with ce := c, pr := q, po := {x.po with k := y1}, de := {x.de with k := y2}} : Wmg).cells.toArray) := Lib.hid (Wmg.blk_dek HLc.out y2 HBc.out)
 have HLd : Hid (Wmg.Len {x with ce := c, pr := q, po := {x.po with k := y1}, de := {x.de with k := y2}}) := Lib.hid ⟨HL.out.cm, HL.out.st, HCK.out, HL.out.ak, HL.out.vt, HL.out.en, HL.out.op⟩
 have HS4 : Hid (Fr [w.heap.size] w4 (u3.setCells w.heap.size 289 y2.cells)) := Lib.hid (Fr.setCells (fun _ => by simp) y2.cells 289 _ HS4.out)
 generalize u3.setCells w.heap.size 289 y2.cells = u4 at *
 simp only [xPa, xPb, xPc, xPd, xPe]
 refine till_done (by kernel_rfl) ?_ _
 have HF4 : Hid (Fr [] w w4) := Lib.hid (HF0.out.and HFX.out (by simp))
 have HB1 := Lib.hid (HB1.out.keep HS4.out (by simp))
 have hop := (Wmg.at_len HBd.out.range HLd.out).op
 have ho1 : u4.cell? ⟨w.heap.size, 249, none⟩ = some (.slice x.op.A x.op.n x.op.d) := by have h := hop 1 _ rfl; simpa using h
 clear hop
 have HSI : Hid ((Tryz.prog.info? 52).map (·.size) = some 1) := Lib.hid (by kernel_rfl)
 have HSV : Hid ((Tryz.prog.info? 57).map (·.size) = some 1) := Lib.hid (by kernel_rfl)
 have HSS : Hid ((Tryz.prog.info? 9).map (·.size) = some 1) := Lib.hid (by kernel_rfl)
 have HSN : Hid ((Tryz.prog.info? 3).map (·.size) = some 1) := Lib.hid (by kernel_rfl)
 have HLT : Hid (∀ y : Wmg, y.Len → ∀ k < 295, k < y.cells.toArray.size) := Lib.hid (fun y hy k hk => by rw [List.size_toArray, Wmg.lenz hy]; exact hk)
 go_wp2_with fail
 have HF04 : Hid (Fr [] w u4) := Lib.hid (HF4.out.go HS4.out (by simp))
 refine (cut_any x.op.A x.op.n x.op.d 260 x.op.p u4 (HX.out.op.p.keep HF04.out (by simp)) HX.out.op.n HX.out.op.d (by omega)).mono ?_
 rintro e_ w5 ⟨A5, c5, rfl, hn5⟩
 have h260 : (x.op.p.take 260).length ≤ 260 := List.length_take_le _ _
 obtain ⟨p5, hp5⟩ : ∃ p5, p5 = x.op.p.take 260 := ⟨_, rfl⟩
 rw [← hp5] at hn5 h260 ⊢
 clear hp5 ho1
 have HN5 := Lib.hid hn5
 have H260 := Lib.hid h260
 have HBd := Lib.hid (HBd.out.keep hn5.2.1 (by simp))
 have HB1 := Lib.hid (HB1.out.keep hn5.2.1 (by simp))
 have HS5 : Hid (Fr [w.heap.size] w4 w5) := Lib.hid (HS4.out.trans (hn5.2.1.mono (by simp)) (fun k hk _ => hk))
 clear hn5 h260
 have HBe := Lib.hid (Wmg.blk_opp HLd.out A5 p5.length c5 p5 HBd.out)
 have HLe5 : Hid (Wmg.Len {x with ce := c, pr := q, po := {x.po with k := y1}, de := {x.de with k := y2}, op := {x.op with A := A5, n := p5.length, d := c5, p := p5}}) := Lib.hid ⟨HL.out.cm, HL.out.st, HCK.out, HL.out.ak, HL.out.vt, HL.out.en, HL.out.op⟩
 go_upto_region 3 with (refine wpList_store_at rfl 52 _ _ rfl w.heap.size 249 (.slice A5 p5.length c5) rfl rfl rfl 61 _ HBd.out (HLT.out _ HLd.out 249 (by omega)) HSI.out ?_)
 change Code.wp _ _ _ _ (w5.setCells w.heap.size 249 [.slice A5 p5.length c5])
 have HBe : Hid (Blk (w5.setCells w.heap.size 249 [.slice A5 p5.length c5]) w.heap.size 61 ({x with ce := c, pr := q, po := {x.po with k := y1}, de := {x.de with k := y2}, op := {x.op with A := A5, n := p5.length, d := c5, p := p5}} : Wmg).cells.toArray) := Lib.hid HBe.out
 have HFS : Hid (Fr [w.heap.size] w5 (w5.setCells w.heap.size 249 [.slice A5 p5.length c5])) := Lib.hid (Fr.setCells (fun _ => by simp) _ 249 _ (Fr.refl _ _))
 generalize w5.setCells w.heap.size 249 [.slice A5 p5.length c5] = u5 at *
 have HB1 := Lib.hid (HB1.out.keep HFS.out (by simp))
 have HS5 : Hid (Fr [w.heap.size] w4 u5) := Lib.hid (HS5.out.trans HFS.out (fun k hk _ => hk))
 have HF05 : Hid (Fr [] w u5) := Lib.hid (HF4.out.go HS5.out (by simp))
 have hde := (Wmg.at_len HBe.out.range HLe5.out).de
 have ho2 : u5.cell? ⟨w.heap.size, 294, none⟩ = some (.slice x.de.A x.de.n x.de.d) := by have h := ra_tail (k := 5) (ra_tail (k := 2) hde rfl) rfl 0 _ rfl; simpa using h
 clear hde
 go_wp2_with fail
 refine (cutVotes_any x.de.A x.de.n x.de.d 5 x.de.l u5 (HX.out.de.l.keep' HF05.out (by simp) (fun _ _ h => h)) HX.out.de.n HX.out.de.d (by omega)).mono ?_
 rintro e_ w6 ⟨A6, c6, rfl, hn6⟩
 have h5 : (x.de.l.take 5).length ≤ 5 := List.length_take_le _ _
 have hv5 : ∀ v ∈ x.de.l.take 5, (Wvt.cells v).length = 38 ∧ v.Ok := fun v hv => HX.out.de.l.2.1 v (List.mem_of_mem_take hv)
 obtain ⟨l6, hl6⟩ : ∃ l6, l6 = x.de.l.take 5 := ⟨_, rfl⟩
 rw [← hl6] at hn6 h5 hv5 ⊢
 clear hl6 ho2
 have HN6 := Lib.hid hn6
 have H5 := Lib.hid h5
 have HV5 := Lib.hid hv5
 have HBe := Lib.hid (HBe.out.keep hn6.2.1 (by simp))
 have HB1 := Lib.hid (HB1.out.keep hn6.2.1 (by simp))
 have HS6 : Hid (Fr [w.heap.size] w4 w6) := Lib.hid (HS5.out.trans (hn6.2.1.mono (by simp)) (fun k hk _ => hk))
 clear hn6 h5 hv5
 have HBf := Lib.hid (Wmg.blk_dev HLe5.out A6 l6.length c6 l6 HBe.out)
 have HLe6 : Hid (Wmg.Len {x with ce := c, pr := q, po := {x.po with k := y1}, de := {x.de with k := y2, A := A6, n := l6.length, d := c6, l := l6}, op := {x.op with A := A5, n := p5.length, d := c5, p := p5}}) := Lib.hid ⟨HL.out.cm, HL.out.st, HCK.out, HL.out.ak, HL.out.vt, HL.out.en, HL.out.op⟩
 go_upto_region 4 with (refine wpList_store_at rfl 57 _ _ rfl w.heap.size 294 (.slice A6 l6.length c6) rfl rfl rfl 61 _ HBe.out (HLT.out _ HLe5.out 294 (by omega)) HSV.out ?_)
 change Code.wp _ _ _ _ (w6.setCells w.heap.size 294 [.slice A6 l6.length c6])
 have HBf : Hid (Blk (w6.setCells w.heap.size 294 [.slice A6 l6.length c6]) w.heap.size 61 ({x with ce := c, pr := q, po := {x.po with k := y1}, de := {x.de with k := y2, A := A6, n := l6.length, d := c6, l := l6}, op := {x.op with A := A5, n := p5.length, d := c5, p := p5}} : Wmg).cells.toArray) := Lib.hid HBf.out
 have HFS6 : Hid (Fr [w.heap.size] w6 (w6.setCells w.heap.size 294 [.slice A6 l6.length c6])) := Lib.hid (Fr.setCells (fun _ => by simp) _ 294 _ (Fr.refl _ _))
 generalize w6.setCells w.heap.size 294 [.slice A6 l6.length c6] = u6 at *
 have HB1 := Lib.hid (HB1.out.keep HFS6.out (by simp))
 have HS6 : Hid (Fr [w.heap.size] w4 u6) := Lib.hid (HS6.out.trans HFS6.out (fun k hk _ => hk))
 have hrp : u6.cell? ⟨w.heap.size, 286, none⟩ = some (.string ⟨x.rp.toArray⟩) := by have h := (Wmg.at_len HBf.out.range HLe6.out).rp 0 _ rfl; simpa using h
 have hpv : u6.cell? ⟨w.heap.size, 165, none⟩ = some (.int .i64 x.po.v) := by have h := (Wmg.at_len HBf.out.range HLe6.out).po 2 _ rfl; simpa using h
 have HT5 : Hid (Fr [w.heap.size] w5 u6) := Lib.hid ((HFS.out.trans (HN6.out.2.1.mono (by simp)) (fun k hk _ => hk)).trans HFS6.out (fun k hk _ => hk))
 have HU6 : Hid (Fr [w.heap.size] w6 u6) := Lib.hid HFS6.out
 have HG5 : Hid (w.heap.size + 2 ≤ u5.heap.size) := Lib.hid (by have h1 := HSZ.out; have h2 := HFX.out.size; have h3 := (HS4.out.trans (HN5.out.2.1.mono (by simp)) (fun k hk _ => hk)).size; have h4 := HFS.out.size; omega)
 clear hpv
 by_cases hrl : 260 < x.rp.length
 case pos =>
  have hd : decide ((260 : Int) < (x.rp.length : Int)) = true := by simp; omega
  have HRPE : Hid (({data := x.rp.toArray} : ByteArray).extract 0 260 = ⟨(x.rp.take 260).toArray⟩) := Lib.hid (by apply ByteArray.ext; simp [ByteArray.data_extract])
  have HBg := Lib.hid (Wmg.blk_rp HLe6.out (x.rp.take 260) HBf.out)
  go_upto_region 6 with (refine wpList_store_at rfl 9 _ _ rfl w.heap.size 286 (.string ⟨(x.rp.take 260).toArray⟩) rfl (by rw [← HRPE.out]; rfl) rfl 61 _ HBf.out (HLT.out _ HLe6.out 286 (by omega)) HSS.out ?_)
  change Code.wp _ _ _ _ (u6.setCells w.heap.size 286 [.string ⟨(x.rp.take 260).toArray⟩])
  have HFg : Hid (Fr [w.heap.size] u6 (u6.setCells w.heap.size 286 [.string ⟨(x.rp.take 260).toArray⟩])) := Lib.hid (Fr.setCells (fun _ => by simp) _ 286 _ (Fr.refl _ _))
  have HBg : Hid (Blk (u6.setCells w.heap.size 286 [.string ⟨(x.rp.take 260).toArray⟩]) w.heap.size 61 ({x with ce := c, pr := q, po := {x.po with k := y1}, de := {x.de with k := y2, A := A6, n := l6.length, d := c6, l := l6}, op := {x.op with A := A5, n := p5.length, d := c5, p := p5}, rp := x.rp.take 260} : Wmg).cells.toArray) := Lib.hid HBg.out
  have HLg : Hid (Wmg.Len {x with ce := c, pr := q, po := {x.po with k := y1}, de := {x.de with k := y2, A := A6, n := l6.length, d := c6, l := l6}, op := {x.op with A := A5, n := p5.length, d := c5, p := p5}, rp := x.rp.take 260}) := Lib.hid ⟨HL.out.cm, HL.out.st, HCK.out, HL.out.ak, HL.out.vt, HL.out.en, HL.out.op⟩
  generalize u6.setCells w.heap.size 286 [.string ⟨(x.rp.take 260).toArray⟩] = u7 at *
  have HB1 := Lib.hid (HB1.out.keep HFg.out (by simp))
  have HS7 : Hid (Fr [w.heap.size] w4 u7) := Lib.hid (HS6.out.trans HFg.out (fun k hk _ => hk))
  have HT5r : Hid (Fr [w.heap.size] w5 u7) := Lib.hid (HT5.out.trans HFg.out (fun k hk _ => hk))
  have HU6r : Hid (Fr [w.heap.size] w6 u7) := Lib.hid (HU6.out.trans HFg.out (fun k hk _ => hk))
  clear hrp hd
  have hpv : u7.cell? ⟨w.heap.size, 165, none⟩ = some (.int .i64 x.po.v) := by have h := (Wmg.at_len HBg.out.range HLg.out).po 2 _ rfl; simpa using h
  by_cases hv : x.po.v = 9223372036854775807
  case pos =>
   have hve : (x.po.v == 9223372036854775807) = true := by simp [hv]
   have HBp := Lib.hid (Wmg.blk_pov HLg.out 0 HBg.out)
   go_upto_region 8 with (refine wpList_store_at rfl 3 _ _ rfl w.heap.size 165 (.int .i64 0) rfl rfl rfl 61 _ HBg.out (HLT.out _ HLg.out 165 (by omega)) HSN.out ?_)
   change Code.wp _ _ _ _ (u7.setCells w.heap.size 165 [.int .i64 0])
   have HFp : Hid (Fr [w.heap.size] u7 (u7.setCells w.heap.size 165 [.int .i64 0])) := Lib.hid (Fr.setCells (fun _ => by simp) _ 165 _ (Fr.refl _ _))
   have HBp : Hid (Blk (u7.setCells w.heap.size 165 [.int .i64 0]) w.heap.size 61 ({x with ce := c, pr := q, po := {x.po with k := y1, v := 0}, de := {x.de with k := y2, A := A6, n := l6.length, d := c6, l := l6}, op := {x.op with A := A5, n := p5.length, d := c5, p := p5}, rp := x.rp.take 260} : Wmg).cells.toArray) := Lib.hid HBp.out
   generalize u7.setCells w.heap.size 165 [.int .i64 0] = up at *
   have HB1 := Lib.hid (HB1.out.keep HFp.out (by simp))
   have HSp : Hid (Fr [w.heap.size] w4 up) := Lib.hid (HS7.out.trans HFp.out (fun k hk _ => hk))
   have HT5rp : Hid (Fr [w.heap.size] w5 up) := Lib.hid (HT5r.out.trans HFp.out (fun k hk _ => hk))
   have HU6rp : Hid (Fr [w.heap.size] w6 up) := Lib.hid (HU6r.out.trans HFp.out (fun k hk _ => hk))
   clear hpv hve hv
   have HLz : Hid (Wmg.Len {x with ce := c, pr := q, po := {x.po with k := y1, v := 0}, de := {x.de with k := y2, A := A6, n := l6.length, d := c6, l := l6}, op := {x.op with A := A5, n := p5.length, d := c5, p := p5}, rp := x.rp.take 260}) := Lib.hid ⟨HL.out.cm, HL.out.st, HCK.out, HL.out.ak, HL.out.vt, HL.out.en, HL.out.op⟩
   obtain ⟨E, hE⟩ : ∃ E, E = ({x with ce := c, pr := q, po := {x.po with k := y1, v := 0}, de := {x.de with k := y2, A := A6, n := l6.length, d := c6, l := l6}, op := {x.op with A := A5, n := p5.length, d := c5, p := p5}, rp := x.rp.take 260} : Wmg).cells := ⟨_, rfl⟩
   have HEL : Hid (E.length = 295) := Lib.hid (by rw [hE]; exact Wmg.lenz HLz.out)
   have HEO : Hid (E.toArray.all (·.oneCell') = true) := Lib.hid (by rw [hE]; exact all_oneCell_toArray (Wmg.one _))
   have HES : Hid ((Tryz.prog.info? 61).map (·.size) = some E.toArray.size) := Lib.hid (by rw [List.size_toArray, HEL.out]; kernel_rfl)
   have HEM : Hid (mz00.size = E.toArray.size) := Lib.hid (by unfold mz00; rw [List.size_toArray, List.size_toArray, HEL.out, Wmg.lenz (mz_len _ _ _)])
   have HER : Hid (up.rangeAt w.heap.size 0 E) := Lib.hid (by rw [hE]; exact HBp.out.range)
   have HB9 := Lib.hid HB1.out
   go_wp2_with (first | (refine wpList_load_mid rfl 61 _ rfl w.heap.size 0 rfl E _ HER.out Tryz.underlying61 rfl (row_msg.of HEL.out).2 ?_) | (refine wpList_store_blk rfl 61 _ _ rfl (w.heap.size + 1) E.toArray rfl rfl 61 mz00 HB9.out HES.out HEM.out HEO.out ?_; intro w9 hb9 hf9))
   refine bodyPost_ret (v := .agg E.toArray) (results_cell_row Tryz.results6 _ _ (w.heap.size + 1) 61 E.toArray _ _ rfl hb9 Tryz.underlying61 rfl HES.out) rfl ?_
   have HS9 : Fr [w.heap.size, w.heap.size + 1] w4 w9 := (HSp.out.mono (by intro k hk _; simp at hk; simp [hk])).trans hf9 (fun k hk _ => by simp at hk; simp [hk])
   have HT9 : Fr [w.heap.size, w.heap.size + 1] w5 w9 := (HT5rp.out.mono (by intro k hk _; simp at hk; simp [hk])).trans hf9 (fun k hk _ => by simp at hk; simp [hk])
   have HU9 : Fr [w.heap.size, w.heap.size + 1] w6 w9 := (HU6rp.out.mono (by intro k hk _; simp at hk; simp [hk])).trans hf9 (fun k hk _ => by simp at hk; simp [hk])
   refine ⟨{x with ce := c, pr := q, po := {x.po with k := y1, v := 0}, de := {x.de with k := y2, A := A6, n := l6.length, d := c6, l := l6}, op := {x.op with A := A5, n := p5.length, d := c5, p := p5}, rp := x.rp.take 260}, by rw [hE], (by first | exact HVB.out | (show (0 : Int) < 9223372036854775807; decide)), fun S0 h0 => ?_, HF4.out.go HS9 (by simp)⟩
   have hall : ∀ k ∈ w.heap.size :: (w.heap.size + 1) :: S0, k < wa.heap.size := by
    intro k hk
    have h1 := HSZ.out
    rcases List.mem_cons.1 hk with rfl | hk
    · omega
    · rcases List.mem_cons.1 hk with rfl | hk
      · omega
      · have := h0 k hk; omega
   have hm : Fr (w.heap.size :: (w.heap.size + 1) :: S0) w4 w9 := HS9.mono (by intro k hk _; simp at hk; rcases hk with rfl | rfl <;> simp)
   have hin : ∀ k ∈ S0, k < w4.heap.size → k ∈ w.heap.size :: (w.heap.size + 1) :: S0 := fun k hk _ => by simp [hk]
   have hn5 : ∀ k ∈ bk A5, w.heap.size + 2 ≤ k := fun k hk => by have h1 := HN5.out.2.2 k hk; have h2 := HFX.out.size; have h3 := HSZ.out; have h4 := HS4.out.size; omega
   have hn6 : ∀ k ∈ bk A6, w.heap.size + 2 ≤ k := fun k hk => by have h1 := HN6.out.2.2 k hk; have h2 := HG5.out; omega
   exact ⟨HX.out.q, HX.out.f, HX.out.t, HX.out.cm, HX.out.st, (HC.out _ hall).keep hm hin, HX.out.ak, HX.out.e, HX.out.r, HX.out.tm, (HQ.out _ hall).keep hm hin,
    ⟨HX.out.po.e, HX.out.po.r, (show i64In 0 from zero_in), HX.out.po.p, (HY1.out _ hall).keep hm hin, HX.out.po.b, HX.out.po.m⟩, HX.out.vt, HX.out.i, HX.out.en,
    ⟨HX.out.op.i, HN5.out.by.keep HT9 (fun ad ha hm => by have := hn5 ad.block (by rw [ha]; simp [bk]); simp at hm; omega), H260.out, fun k hk hm => by have h1 := hn5 k hk; have h2 := h0 k hm; omega, fun k hk => Nat.lt_of_lt_of_le (HN5.out.lt k hk) HT9.size, HX.out.op.h, HN5.out.cap⟩, HX.out.dn, (by rw [List.length_take]; omega),
    ⟨HX.out.de.e, HX.out.de.r, (HY2.out _ hall).keep hm hin, (Lst.of_own (ok := fun (_ : World) (v : Wvt) => v.Ok) HN6.out.1 rfl (fun u hu => HV5.out u hu)).keep' HU9 (fun hp a ha hm => by have h1 := hn6 a.block (by rw [ha]; simp [bk]); simp at hm; omega) (fun _ _ h => h), H5.out, fun hp a ha hm => by have ha : A6 = some a := ha; have h1 := hn6 a.block (by rw [ha]; simp [bk]); have h2 := h0 _ hm; omega⟩⟩
  case neg =>
   have hve : (x.po.v == 9223372036854775807) = false := by simp [hv]
   go_upto_region 8 with (fail)
   have HVB : Hid (x.po.v < 9223372036854775807) := Lib.hid (by have := HX.out.po.v.2; omega)
   clear hpv hve hv
   have HLz : Hid (Wmg.Len {x with ce := c, pr := q, po := {x.po with k := y1}, de := {x.de with k := y2, A := A6, n := l6.length, d := c6, l := l6}, op := {x.op with A := A5, n := p5.length, d := c5, p := p5}, rp := x.rp.take 260}) := Lib.hid ⟨HL.out.cm, HL.out.st, HCK.out, HL.out.ak, HL.out.vt, HL.out.en, HL.out.op⟩
   obtain ⟨E, hE⟩ : ∃ E, E = ({x with ce := c, pr := q, po := {x.po with k := y1}, de := {x.de with k := y2, A := A6, n := l6.length, d := c6, l := l6}, op := {x.op with A := A5, n := p5.length, d := c5, p := p5}, rp := x.rp.take 260} : Wmg).cells := ⟨_, rfl⟩
   have HEL : Hid (E.length = 295) := Lib.hid (by rw [hE]; exact Wmg.lenz HLz.out)
   have HEO : Hid (E.toArray.all (·.oneCell') = true) := Lib.hid (by rw [hE]; exact all_oneCell_toArray (Wmg.one _))
   have HES : Hid ((Tryz.prog.info? 61).map (·.size) = some E.toArray.size) := Lib.hid (by rw [List.size_toArray, HEL.out]; kernel_rfl)
   have HEM : Hid (mz00.size = E.toArray.size) := Lib.hid (by unfold mz00; rw [List.size_toArray, List.size_toArray, HEL.out, Wmg.lenz (mz_len _ _ _)])
   have HER : Hid (u7.rangeAt w.heap.size 0 E) := Lib.hid (by rw [hE]; exact HBg.out.range)
   have HB9 := Lib.hid HB1.out
   go_wp2_with (first | (refine wpList_load_mid rfl 61 _ rfl w.heap.size 0 rfl E _ HER.out Tryz.underlying61 rfl (row_msg.of HEL.out).2 ?_) | (refine wpList_store_blk rfl 61 _ _ rfl (w.heap.size + 1) E.toArray rfl rfl 61 mz00 HB9.out HES.out HEM.out HEO.out ?_; intro w9 hb9 hf9))
   refine bodyPost_ret (v := .agg E.toArray) (results_cell_row Tryz.results6 _ _ (w.heap.size + 1) 61 E.toArray _ _ rfl hb9 Tryz.underlying61 rfl HES.out) rfl ?_
   have HS9 : Fr [w.heap.size, w.heap.size + 1] w4 w9 := (HS7.out.mono (by intro k hk _; simp at hk; simp [hk])).trans hf9 (fun k hk _ => by simp at hk; simp [hk])
   have HT9 : Fr [w.heap.size, w.heap.size + 1] w5 w9 := (HT5r.out.mono (by intro k hk _; simp at hk; simp [hk])).trans hf9 (fun k hk _ => by simp at hk; simp [hk])
   have HU9 : Fr [w.heap.size, w.heap.size + 1] w6 w9 := (HU6r.out.mono (by intro k hk _; simp at hk; simp [hk])).trans hf9 (fun k hk _ => by simp at hk; simp [hk])
   refine ⟨{x with ce := c, pr := q, po := {x.po with k := y1}, de := {x.de with k := y2, A := A6, n := l6.length, d := c6, l := l6}, op := {x.op with A := A5, n := p5.length, d := c5, p := p5}, rp := x.rp.take 260}, by rw [hE], (by first | exact HVB.out | (show (0 : Int) < 9223372036854775807; decide)), fun S0 h0 => ?_, HF4.out.go HS9 (by simp)⟩
   have hall : ∀ k ∈ w.heap.size :: (w.heap.size + 1) :: S0, k < wa.heap.size := by
    intro k hk
    have h1 := HSZ.out
    rcases List.mem_cons.1 hk with rfl | hk
    · omega
    · rcases List.mem_cons.1 hk with rfl | hk
      · omega
      · have := h0 k hk; omega
   have hm : Fr (w.heap.size :: (w.heap.size + 1) :: S0) w4 w9 := HS9.mono (by intro k hk _; simp at hk; rcases hk with rfl | rfl <;> simp)
   have hin : ∀ k ∈ S0, k < w4.heap.size → k ∈ w.heap.size :: (w.heap.size + 1) :: S0 := fun k hk _ => by simp [hk]
   have hn5 : ∀ k ∈ bk A5, w.heap.size + 2 ≤ k := fun k hk => by have h1 := HN5.out.2.2 k hk; have h2 := HFX.out.size; have h3 := HSZ.out; have h4 := HS4.out.size; omega
   have hn6 : ∀ k ∈ bk A6, w.heap.size + 2 ≤ k := fun k hk => by have h1 := HN6.out.2.2 k hk; have h2 := HG5.out; omega
   exact ⟨HX.out.q, HX.out.f, HX.out.t, HX.out.cm, HX.out.st, (HC.out _ hall).keep hm hin, HX.out.ak, HX.out.e, HX.out.r, HX.out.tm, (HQ.out _ hall).keep hm hin,
    ⟨HX.out.po.e, HX.out.po.r, HX.out.po.v, HX.out.po.p, (HY1.out _ hall).keep hm hin, HX.out.po.b, HX.out.po.m⟩, HX.out.vt, HX.out.i, HX.out.en,
    ⟨HX.out.op.i, HN5.out.by.keep HT9 (fun ad ha hm => by have := hn5 ad.block (by rw [ha]; simp [bk]); simp at hm; omega), H260.out, fun k hk hm => by have h1 := hn5 k hk; have h2 := h0 k hm; omega, fun k hk => Nat.lt_of_lt_of_le (HN5.out.lt k hk) HT9.size, HX.out.op.h, HN5.out.cap⟩, HX.out.dn, (by rw [List.length_take]; omega),
    ⟨HX.out.de.e, HX.out.de.r, (HY2.out _ hall).keep hm hin, (Lst.of_own (ok := fun (_ : World) (v : Wvt) => v.Ok) HN6.out.1 rfl (fun u hu => HV5.out u hu)).keep' HU9 (fun hp a ha hm => by have h1 := hn6 a.block (by rw [ha]; simp [bk]); simp at hm; omega) (fun _ _ h => h), H5.out, fun hp a ha hm => by have ha : A6 = some a := ha; have h1 := hn6 a.block (by rw [ha]; simp [bk]); have h2 := h0 _ hm; omega⟩⟩
 case neg =>
  have HRL : Hid (x.rp.length ≤ 260) := Lib.hid (by omega)
  have hd : decide ((260 : Int) < (x.rp.length : Int)) = false := by simp; omega
  go_upto_region 6 with (fail)
  clear hrp hd
  have hpv : u6.cell? ⟨w.heap.size, 165, none⟩ = some (.int .i64 x.po.v) := by have h := (Wmg.at_len HBf.out.range HLe6.out).po 2 _ rfl; simpa using h
  by_cases hv : x.po.v = 9223372036854775807
  case pos =>
   have hve : (x.po.v == 9223372036854775807) = true := by simp [hv]
   have HBp := Lib.hid (Wmg.blk_pov HLe6.out 0 HBf.out)
   go_upto_region 8 with (refine wpList_store_at rfl 3 _ _ rfl w.heap.size 165 (.int .i64 0) rfl rfl rfl 61 _ HBf.out (HLT.out _ HLe6.out 165 (by omega)) HSN.out ?_)
   change Code.wp _ _ _ _ (u6.setCells w.heap.size 165 [.int .i64 0])
   have HFp : Hid (Fr [w.heap.size] u6 (u6.setCells w.heap.size 165 [.int .i64 0])) := Lib.hid (Fr.setCells (fun _ => by simp) _ 165 _ (Fr.refl _ _))
   have HBp : Hid (Blk (u6.setCells w.heap.size 165 [.int .i64 0]) w.heap.size 61 ({x with ce := c, pr := q, po := {x.po with k := y1, v := 0}, de := {x.de with k := y2, A := A6, n := l6.length, d := c6, l := l6}, op := {x.op with A := A5, n := p5.length, d := c5, p := p5}} : Wmg).cells.toArray) := Lib.hid HBp.out
   generalize u6.setCells w.heap.size 165 [.int .i64 0] = up at *
   have HB1 := Lib.hid (HB1.out.keep HFp.out (by simp))
   have HSp : Hid (Fr [w.heap.size] w4 up) := Lib.hid (HS6.out.trans HFp.out (fun k hk _ => hk))
   have HT5p : Hid (Fr [w.heap.size] w5 up) := Lib.hid (HT5.out.trans HFp.out (fun k hk _ => hk))
   have HU6p : Hid (Fr [w.heap.size] w6 up) := Lib.hid (HU6.out.trans HFp.out (fun k hk _ => hk))
   clear hpv hve hv
   have HLz : Hid (Wmg.Len {x with ce := c, pr := q, po := {x.po with k := y1, v := 0}, de := {x.de with k := y2, A := A6, n := l6.length, d := c6, l := l6}, op := {x.op with A := A5, n := p5.length, d := c5, p := p5}}) := Lib.hid ⟨HL.out.cm, HL.out.st, HCK.out, HL.out.ak, HL.out.vt, HL.out.en, HL.out.op⟩
   obtain ⟨E, hE⟩ : ∃ E, E = ({x with ce := c, pr := q, po := {x.po with k := y1, v := 0}, de := {x.de with k := y2, A := A6, n := l6.length, d := c6, l := l6}, op := {x.op with A := A5, n := p5.length, d := c5, p := p5}} : Wmg).cells := ⟨_, rfl⟩
   have HEL : Hid (E.length = 295) := Lib.hid (by rw [hE]; exact Wmg.lenz HLz.out)
   have HEO : Hid (E.toArray.all (·.oneCell') = true) := Lib.hid (by rw [hE]; exact all_oneCell_toArray (Wmg.one _))
   have HES : Hid ((Tryz.prog.info? 61).map (·.size) = some E.toArray.size) := Lib.hid (by rw [List.size_toArray, HEL.out]; kernel_rfl)
   have HEM : Hid (mz00.size = E.toArray.size) := Lib.hid (by unfold mz00; rw [List.size_toArray, List.size_toArray, HEL.out, Wmg.lenz (mz_len _ _ _)])
   have HER : Hid (up.rangeAt w.heap.size 0 E) := Lib.hid (by rw [hE]; exact HBp.out.range)
   have HB9 := Lib.hid HB1.out
   go_wp2_with (first | (refine wpList_load_mid rfl 61 _ rfl w.heap.size 0 rfl E _ HER.out Tryz.underlying61 rfl (row_msg.of HEL.out).2 ?_) | (refine wpList_store_blk rfl 61 _ _ rfl (w.heap.size + 1) E.toArray rfl rfl 61 mz00 HB9.out HES.out HEM.out HEO.out ?_; intro w9 hb9 hf9))
   refine bodyPost_ret (v := .agg E.toArray) (results_cell_row Tryz.results6 _ _ (w.heap.size + 1) 61 E.toArray _ _ rfl hb9 Tryz.underlying61 rfl HES.out) rfl ?_
   have HS9 : Fr [w.heap.size, w.heap.size + 1] w4 w9 := (HSp.out.mono (by intro k hk _; simp at hk; simp [hk])).trans hf9 (fun k hk _ => by simp at hk; simp [hk])
   have HT9 : Fr [w.heap.size, w.heap.size + 1] w5 w9 := (HT5p.out.mono (by intro k hk _; simp at hk; simp [hk])).trans hf9 (fun k hk _ => by simp at hk; simp [hk])
   have HU9 : Fr [w.heap.size, w.heap.size + 1] w6 w9 := (HU6p.out.mono (by intro k hk _; simp at hk; simp [hk])).trans hf9 (fun k hk _ => by simp at hk; simp [hk])
   refine ⟨{x with ce := c, pr := q, po := {x.po with k := y1, v := 0}, de := {x.de with k := y2, A := A6, n := l6.length, d := c6, l := l6}, op := {x.op with A := A5, n := p5.length, d := c5, p := p5}}, by rw [hE], (by first | exact HVB.out | (show (0 : Int) < 9223372036854775807; decide)), fun S0 h0 => ?_, HF4.out.go HS9 (by simp)⟩
   have hall : ∀ k ∈ w.heap.size :: (w.heap.size + 1) :: S0, k < wa.heap.size := by
    intro k hk
    have h1 := HSZ.out
    rcases List.mem_cons.1 hk with rfl | hk
    · omega
    · rcases List.mem_cons.1 hk with rfl | hk
      · omega
      · have := h0 k hk; omega
   have hm : Fr (w.heap.size :: (w.heap.size + 1) :: S0) w4 w9 := HS9.mono (by intro k hk _; simp at hk; rcases hk with rfl | rfl <;> simp)
   have hin : ∀ k ∈ S0, k < w4.heap.size → k ∈ w.heap.size :: (w.heap.size + 1) :: S0 := fun k hk _ => by simp [hk]
   have hn5 : ∀ k ∈ bk A5, w.heap.size + 2 ≤ k := fun k hk => by have h1 := HN5.out.2.2 k hk; have h2 := HFX.out.size; have h3 := HSZ.out; have h4 := HS4.out.size; omega
   have hn6 : ∀ k ∈ bk A6, w.heap.size + 2 ≤ k := fun k hk => by have h1 := HN6.out.2.2 k hk; have h2 := HG5.out; omega
   exact ⟨HX.out.q, HX.out.f, HX.out.t, HX.out.cm, HX.out.st, (HC.out _ hall).keep hm hin, HX.out.ak, HX.out.e, HX.out.r, HX.out.tm, (HQ.out _ hall).keep hm hin,
    ⟨HX.out.po.e, HX.out.po.r, (show i64In 0 from zero_in), HX.out.po.p, (HY1.out _ hall).keep hm hin, HX.out.po.b, HX.out.po.m⟩, HX.out.vt, HX.out.i, HX.out.en,
    ⟨HX.out.op.i, HN5.out.by.keep HT9 (fun ad ha hm => by have := hn5 ad.block (by rw [ha]; simp [bk]); simp at hm; omega), H260.out, fun k hk hm => by have h1 := hn5 k hk; have h2 := h0 k hm; omega, fun k hk => Nat.lt_of_lt_of_le (HN5.out.lt k hk) HT9.size, HX.out.op.h, HN5.out.cap⟩, HX.out.dn, HRL.out,
    ⟨HX.out.de.e, HX.out.de.r, (HY2.out _ hall).keep hm hin, (Lst.of_own (ok := fun (_ : World) (v : Wvt) => v.Ok) HN6.out.1 rfl (fun u hu => HV5.out u hu)).keep' HU9 (fun hp a ha hm => by have h1 := hn6 a.block (by rw [ha]; simp [bk]); simp at hm; omega) (fun _ _ h => h), H5.out, fun hp a ha hm => by have ha : A6 = some a := ha; have h1 := hn6 a.block (by rw [ha]; simp [bk]); have h2 := h0 _ hm; omega⟩⟩
  case neg =>
   have hve : (x.po.v == 9223372036854775807) = false := by simp [hv]
   go_upto_region 8 with (fail)
   have HVB : Hid (x.po.v < 9223372036854775807) := Lib.hid (by have := HX.out.po.v.2; omega)
   clear hpv hve hv
   have HLz : Hid (Wmg.Len {x with ce := c, pr := q, po := {x.po with k := y1}, de := {x.de with k := y2, A := A6, n := l6.length, d := c6, l := l6}, op := {x.op with A := A5, n := p5.length, d := c5, p := p5}}) := Lib.hid ⟨HL.out.cm, HL.out.st, HCK.out, HL.out.ak, HL.out.vt, HL.out.en, HL.out.op⟩
   obtain ⟨E, hE⟩ : ∃ E, E = ({x with ce := c, pr := q, po := {x.po with k := y1}, de := {x.de with k := y2, A := A6, n := l6.length, d := c6, l := l6}, op := {x.op with A := A5, n := p5.length, d := c5, p := p5}} : Wmg).cells := ⟨_, rfl⟩
   have HEL : Hid (E.length = 295) := Lib.hid (by rw [hE]; exact Wmg.lenz HLz.out)
   have HEO : Hid (E.toArray.all (·.oneCell') = true) := Lib.hid (by rw [hE]; exact all_oneCell_toArray (Wmg.one _))
   have HES : Hid ((Tryz.prog.info? 61).map (·.size) = some E.toArray.size) := Lib.hid (by rw [List.size_toArray, HEL.out]; kernel_rfl)
   have HEM : Hid (mz00.size = E.toArray.size) := Lib.hid (by unfold mz00; rw [List.size_toArray, List.size_toArray, HEL.out, Wmg.lenz (mz_len _ _ _)])
   have HER : Hid (u6.rangeAt w.heap.size 0 E) := Lib.hid (by rw [hE]; exact HBf.out.range)
   have HB9 := Lib.hid HB1.out
   go_wp2_with (first | (refine wpList_load_mid rfl 61 _ rfl w.heap.size 0 rfl E _ HER.out Tryz.underlying61 rfl (row_msg.of HEL.out).2 ?_) | (refine wpList_store_blk rfl 61 _ _ rfl (w.heap.size + 1) E.toArray rfl rfl 61 mz00 HB9.out HES.out HEM.out HEO.out ?_; intro w9 hb9 hf9))
   refine bodyPost_ret (v := .agg E.toArray) (results_cell_row Tryz.results6 _ _ (w.heap.size + 1) 61 E.toArray _ _ rfl hb9 Tryz.underlying61 rfl HES.out) rfl ?_
   have HS9 : Fr [w.heap.size, w.heap.size + 1] w4 w9 := (HS6.out.mono (by intro k hk _; simp at hk; simp [hk])).trans hf9 (fun k hk _ => by simp at hk; simp [hk])
   have HT9 : Fr [w.heap.size, w.heap.size + 1] w5 w9 := (HT5.out.mono (by intro k hk _; simp at hk; simp [hk])).trans hf9 (fun k hk _ => by simp at hk; simp [hk])
   have HU9 : Fr [w.heap.size, w.heap.size + 1] w6 w9 := (HU6.out.mono (by intro k hk _; simp at hk; simp [hk])).trans hf9 (fun k hk _ => by simp at hk; simp [hk])
   refine ⟨{x with ce := c, pr := q, po := {x.po with k := y1}, de := {x.de with k := y2, A := A6, n := l6.length, d := c6, l := l6}, op := {x.op with A := A5, n := p5.length, d := c5, p := p5}}, by rw [hE], (by first | exact HVB.out | (show (0 : Int) < 9223372036854775807; decide)), fun S0 h0 => ?_, HF4.out.go HS9 (by simp)⟩
   have hall : ∀ k ∈ w.heap.size :: (w.heap.size + 1) :: S0, k < wa.heap.size := by
    intro k hk
    have h1 := HSZ.out
    rcases List.mem_cons.1 hk with rfl | hk
    · omega
    · rcases List.mem_cons.1 hk with rfl | hk
      · omega
      · have := h0 k hk; omega
   have hm : Fr (w.heap.size :: (w.heap.size + 1) :: S0) w4 w9 := HS9.mono (by intro k hk _; simp at hk; rcases hk with rfl | rfl <;> simp)
   have hin : ∀ k ∈ S0, k < w4.heap.size → k ∈ w.heap.size :: (w.heap.size + 1) :: S0 := fun k hk _ => by simp [hk]
   have hn5 : ∀ k ∈ bk A5, w.heap.size + 2 ≤ k := fun k hk => by have h1 := HN5.out.2.2 k hk; have h2 := HFX.out.size; have h3 := HSZ.out; have h4 := HS4.out.size; omega
   have hn6 : ∀ k ∈ bk A6, w.heap.size + 2 ≤ k := fun k hk => by have h1 := HN6.out.2.2 k hk; have h2 := HG5.out; omega
   exact ⟨HX.out.q, HX.out.f, HX.out.t, HX.out.cm, HX.out.st, (HC.out _ hall).keep hm hin, HX.out.ak, HX.out.e, HX.out.r, HX.out.tm, (HQ.out _ hall).keep hm hin,
    ⟨HX.out.po.e, HX.out.po.r, HX.out.po.v, HX.out.po.p, (HY1.out _ hall).keep hm hin, HX.out.po.b, HX.out.po.m⟩, HX.out.vt, HX.out.i, HX.out.en,
    ⟨HX.out.op.i, HN5.out.by.keep HT9 (fun ad ha hm => by have := hn5 ad.block (by rw [ha]; simp [bk]); simp at hm; omega), H260.out, fun k hk hm => by have h1 := hn5 k hk; have h2 := h0 k hm; omega, fun k hk => Nat.lt_of_lt_of_le (HN5.out.lt k hk) HT9.size, HX.out.op.h, HN5.out.cap⟩, HX.out.dn, HRL.out,
    ⟨HX.out.de.e, HX.out.de.r, (HY2.out _ hall).keep hm hin, (Lst.of_own (ok := fun (_ : World) (v : Wvt) => v.Ok) HN6.out.1 rfl (fun u hu => HV5.out u hu)).keep' HU9 (fun hp a ha hm => by have h1 := hn6 a.block (by rw [ha]; simp [bk]); simp at hm; omega) (fun _ _ h => h), H5.out, fun hp a ha hm => by have ha : A6 = some a := ha; have h1 := hn6 a.block (by rw [ha]; simp [bk]); have h2 := h0 _ hm; omega⟩⟩
end Go.Proofs.YtdenpfcgghangaaGreat

namespace Go.Proofs.YtdenpfcgghangaaGreat
set_option maxRecDepth 100000
open Go.RowKit
theorem pVt_badQ {s : Ps} (h : (pVt s).2.2 = false) : s.2 = false := pI_bad (pI_bad (pI_bad (pI_bad (pH_badQ (p2_bad h)))))
theorem pVt_stop : (pVt ([], true)).2 = ([], true) := rfl
theorem qVoteI_any : QItem 53 Wvt.cells (fun _ _ v => v.Ok) id pVt := qitem_of (fun _ _ _ _ hr => qVote_any hr) pVt_ok
theorem built_dc3 (e r : Int) (k : Wba) : Tryz.prog.built 59 [(0, .int .i64 e), (1, .int .i64 r), (2, .agg k.cells.toArray)] = some (Wdc.cells ⟨e, r, k, none, 0, 0, []⟩).toArray := by kernel_rfl
theorem Wmg.dv_cell {w : World} {g : Nat} {t : TypeId} {x : Wmg} (hx : x.Len) (hb : Blk w g t x.cells.toArray) : w.cell? ⟨g, 294, none⟩ = some (.slice x.de.A x.de.n x.de.d) := (Wdc.at_k ((Wmg.at_len hb.range hx).de)).2.2.2
def PkM (l : List UInt8) (F : List Nat) (g gm wh : Nat) (w6 wx : World) : Prop := ∃ (y : Wmg) (y0 : Cmg) (s6 : Ps), Hid (Blk wx gm 61 y.cells.toArray) ∧ Hid (Qs wx F g s6) ∧ Hid (Fr [g, gm] w6 wx) ∧ Hid y.Len ∧ Hid (∀ W, Fr [g, gm, wh] wx W → ∀ S0 : List Nat, (∀ q ∈ S0, q < wh) → y.Li W S0) ∧ Hid (pU l = if s6.2 = false ∧ s6.1 = [] then (y0, true) else ((mz 0 0 0).con, false)) ∧ Hid (s6.2 = false → y.con = y0)
set_option maxHeartbeats 40000000 in
theorem runpack_in (A : Option Addr) (n c : Nat) (l : List UInt8) (w : World) (hy : By w A n l) (hn : n ≤ 65536) (hk : 1 ≤ (pI (l, false)).1 ∧ (pI (l, false)).1 ≤ 14) :
  Calls Tryz.prog 11 #[.slice A n c] w fun e w' => ∃ y : Wmg, e = .returned (.tuple #[.agg y.cells.toArray, .bool (pU l).2]) ∧ y.con = (pU l).1 ∧ y.Len ∧ (∀ S0 : List Nat, (∀ k ∈ S0, k < w.heap.size) → y.Li w' S0) ∧ Fr [] w w' := by
 obtain ⟨Z, hZ⟩ : ∃ Z, Z = (mz 0 0 0).cells.toArray := ⟨_, rfl⟩
 obtain ⟨wa, hwa⟩ : ∃ wa, wa = w.alloc (Obj.cells Z 61) := ⟨_, rfl⟩
 have hf0 : Fr [] w wa := by rw [hwa]; exact (Fr.refl [] w).alloc _
 have HBZ : Hid (Blk wa w.heap.size 61 Z) := Lib.hid (by rw [hwa]; exact Blk.new _ _ _)
 have HWS : Hid (wa.heap.size = w.heap.size + 1) := Lib.hid (by rw [hwa]; simp)
 have HY := Lib.hid (hy.keep hf0 (by simp))
 have HN := Lib.hid hn
 have HLN := Lib.hid hy.1
 have HF0 := Lib.hid hf0
 have HWA := Lib.hid hwa
 have HZ := Lib.hid hZ
 have HZT : Hid ((Tryz.prog.info? 61).map (·.size) = some Z.size) := Lib.hid (by rw [hZ]; exact msg_size (mz_len 0 0 0))
 have HZO : Hid (Z.all (·.oneCell') = true) := Lib.hid (by rw [hZ]; exact all_oneCell_toArray (Wmg.one _))
 have HB0 : Hid (Tryz.prog.built 61 [] = some Z) := Lib.hid (by rw [hZ]; exact built_mg0)
 have HK := Lib.hid hk
 clear hwa hf0 hy hn hZ hk
 go_enter Tryz.func11, Tryz.ntmps11
 go_upto_region 1 with (fail)
 change Code.wp _ _ _ _ (w.alloc (Obj.cells (mz 0 0 0).cells.toArray 61))
 rw [← HZ.out, ← HWA.out]
 go_upto_region 2 with (first
  | (refine wpList_append_copyv _ rfl (.const (.slice none 0 0)) (.tmp 8) _ rfl 5 (.int .u8 0) 1 Tryz.underlying52 info_u8m rfl rfl A n c (l.map by8) rfl (by rw [List.length_map]; exact HY.out.1) (fun h => HY.out.2 h) (by have := HN.out; omega) (by omega) ?_
     intro A1 c1 w1 ho1 hf1 hn1)
  | (refine wpList_builtg rfl 101 _ rfl _ _ (built_rdr A1 n c1) rfl ?_))
 have hcap := own_capq ho1
 have hby1 : By w1 A1 n l := By.of_own ho1
 have HW1 : Hid (∀ k ∈ bk A1, wa.heap.size ≤ k ∧ k < w1.heap.size) := Lib.hid (fun k hk => ⟨hn1 k hk, own_lt ho1 k ((bk_mem A1 n c1 k).2 hk)⟩)
 obtain ⟨w2, hw2⟩ : ∃ w2, w2 = w1.alloc (Obj.cells #[.slice A1 n c1, .bool false] 101) := ⟨_, rfl⟩
 have hf2 : Fr [] w1 w2 := by rw [hw2]; exact (Fr.refl [] w1).alloc _
 have hb2 : Blk w2 w1.heap.size 101 #[.slice A1 n c1, .bool false] := by rw [hw2]; exact Blk.new _ _ _
 rw [← hw2]
 obtain ⟨g, hg⟩ : ∃ g, g = w1.heap.size := ⟨_, rfl⟩
 rw [← hg] at hb2 ⊢
 have HR1 : Hid (Qs w2 (bk A1) g (l, false)) := Lib.hid ⟨⟨A1, n, c1, fun k hk => ⟨hk, fun e => by have := (HW1.out k hk).2; omega⟩, hb2, hby1.keep hf2 (by simp), hcap⟩, by have := HLN.out; have := HN.out; simp only; omega, fun k hk => by have := (HW1.out k hk).2; have := hf2.size; omega, fun h => by cases h⟩
 have HG : Hid (w.heap.size < g ∧ g < w2.heap.size) := Lib.hid ⟨by have := HWS.out; have := hf1.size; omega, hb2.lt⟩
 have HNF : Hid (∀ k ∈ bk A1, w.heap.size < k ∧ k < w2.heap.size) := Lib.hid (fun k hk => by have h := HW1.out k hk; have := HWS.out; have := hf2.size; omega)
 have HF1 : Hid (Fr [] w w2) := Lib.hid ((HF0.out.and hf1 (by simp)).and hf2 (by simp))
 have HB1 := Lib.hid ((HBZ.out.keep hf1 (by simp)).keep hf2 (by simp))
 generalize bk A1 = F at *
 clear hf1 hf2 hb2 hw2 hg hcap hby1 ho1 hn1
 go_wp2_with fail
 refine (qInt_any HR1.out).mono ?_
 rintro e_ w3 ⟨rfl, h1, h2⟩
 have HR2 := Lib.hid h1
 have HF2 : Hid (Fr [g] w2 w3) := Lib.hid (h2)
 clear h1 h2
 go_wp2_with fail
 refine (qInt_any HR2.out).mono ?_
 rintro e_ w4 ⟨rfl, h1, h2⟩
 have HR3 := Lib.hid h1
 have HF3 : Hid (Fr [g] w2 w4) := Lib.hid (HF2.out.trans h2 (fun x hx _ => hx))
 clear h1 h2
 go_wp2_with fail
 refine (qInt_any HR3.out).mono ?_
 rintro e_ w5 ⟨rfl, h1, h2⟩
 have HR4 := Lib.hid h1
 have HF4 : Hid (Fr [g] w2 w5) := Lib.hid (HF3.out.trans h2 (fun x hx _ => hx))
 clear h1 h2
 have HB4 := Lib.hid (HB1.out.keep HF4.out (by have := HG.out; simp; omega))
 have HS4 : Hid (w2.heap.size ≤ w5.heap.size) := Lib.hid HF4.out.size
 have HBN : Hid (Blk (w5.alloc (Obj.cells (mz 0 0 0).cells.toArray 61)) w5.heap.size 61 Z) := Lib.hid (by rw [HZ.out]; exact Blk.new _ _ _)
 obtain ⟨x, hx⟩ : ∃ x, x = mz (pI (l, false)).1 (pI (pI (l, false)).2).1 (pI (pI (pI (l, false)).2).2).1 := ⟨_, rfl⟩
 have HXL : Hid x.Len := Lib.hid (by rw [hx]; exact mz_len _ _ _)
 have HXM : Hid (1 ≤ x.q ∧ x.q ≤ 14) := Lib.hid (by rw [hx]; exact HK.out)
 have HX := Lib.hid hx
 have HXI : Hid (∀ W S0, x.Li W S0) := Lib.hid (fun W S0 => by rw [hx]; exact mz_li W S0 _ _ _)
 have HBU : Hid (Tryz.prog.built 61 [(0, .int .i64 (pI (l, false)).1), (1, .int .i64 (pI (pI (l, false)).2).1), (2, .int .i64 (pI (pI (pI (l, false)).2).2).1)] = some x.cells.toArray) := Lib.hid (by rw [hx]; exact built_mg3 _ _ _)
 have HVT : Hid ((Tryz.prog.info? 61).map (·.size) = some x.cells.toArray.size) := Lib.hid (msg_size HXL.out)
 have HVO : Hid (x.cells.toArray.all (·.oneCell') = true) := Lib.hid (all_oneCell_toArray (Wmg.one _))
 have HVZ : Hid (Z.size = x.cells.toArray.size) := Lib.hid (by rw [HZ.out, List.size_toArray, List.size_toArray, Wmg.lenz (mz_len _ _ _), Wmg.lenz HXL.out])
 clear hx
 go_upto_region 3 with (first
  | (refine wpList_builtg rfl 61 _ rfl _ _ HBU.out rfl ?_)
  | (refine wpList_store_blk rfl 61 _ _ rfl w5.heap.size x.cells.toArray rfl rfl 61 Z HBN.out HVT.out HVZ.out HVO.out ?_
     intro w6 hb5 hf5))
 have HB5 := Lib.hid hb5
 have HF5 : Hid (Fr [w5.heap.size] w5 w6) := Lib.hid ((((Fr.refl [w5.heap.size] w5).alloc _)).trans hf5 (fun x hx _ => hx))
 obtain ⟨gm, hgm⟩ : ∃ gm, gm = w5.heap.size := ⟨_, rfl⟩
 rw [← hgm] at HB5 HF5 ⊢
 have HGM : Hid (g < gm ∧ w.heap.size < gm ∧ w2.heap.size ≤ gm ∧ gm < w6.heap.size) := Lib.hid ⟨by have := HG.out; have := HS4.out; omega, by have := HG.out; have := HS4.out; omega, by have := HS4.out; omega, HB5.out.lt⟩
 clear hb5 hf5 hgm
 have HR5 := Lib.hid (HR4.out.fr HF5.out (by have := HGM.out; simp; omega) (fun k hk hm => by have := HNF.out k hk; have := HGM.out; simp at hm; omega))
 have HBZ5 := Lib.hid (HB4.out.keep HF5.out (by have := HGM.out; simp; omega))
 have HFW5 : Hid (Fr [g, gm] w2 w6) := Lib.hid ((HF4.out.mono (T := [g, gm]) (fun q hq _ => by simp at hq; simp [hq])).trans HF5.out (fun q hq _ => by simp at hq; simp [hq]))
 have hq0 : w6.cell? ⟨gm, 0, none⟩ = some (.int .i64 x.q) := HB5.out.range (cs := x.cells) 0 (.int .i64 x.q) rfl
 obtain ⟨z, hz⟩ : ∃ z, z = (pI (pI (pI (l, false)).2).2).2 := ⟨_, rfl⟩
 have HPZ : Hid (∀ (y : Cmg) (s6 : Ps), pM x.con z = (y, s6) → pU l = if s6.2 = false ∧ s6.1 = [] then (y, true) else ((mz 0 0 0).con, false)) := Lib.hid (fun y s6 h => pU_of HX.out hz HXM.out h)
 rw [← hz] at HR5
 clear hz
 go_upto_block 0 with (fail)
 clear hq0
 go_cut [6, 7] (fun _ _ wx => PkM l F g gm w.heap.size w6 wx)
 case first =>
  have hs : x.q = 1 ∨ x.q = 2 ∨ x.q = 3 ∨ x.q = 4 ∨ x.q = 5 ∨ x.q = 6 ∨ x.q = 7 ∨ x.q = 8 ∨ x.q = 9 ∨ x.q = 10 ∨ x.q = 11 ∨ x.q = 12 ∨ x.q = 13 ∨ x.q = 14 := by have := HXM.out; omega
  rcases hs with h | h | h | h | h | h | h | h | h | h | h | h | h | h
  · as_aux_lemma =>
     have HXQ := Lib.hid h
     have n1 : (x.q == (1 : Int)) = true := by rw [h]; rfl
     clear h
     go_wp2_with fail
     refine (qCommit_any HR5.out).mono ?_
     rintro e_ w7 ⟨rfl, h1, h2⟩
     have HRzw7 := Lib.hid h1
     have HFzw7 : Hid (Fr [g, gm] w6 w7) := Lib.hid (h2.mono (fun q hq _ => by simp at hq; simp [hq]))
     have HBzw7 := Lib.hid (HB5.out.keep h2 (by have := HGM.out; simp; omega))
     clear h1 h2
     obtain ⟨v, hv⟩ : ∃ v, v = (pCm z).1 := ⟨_, rfl⟩
     have HVK : Hid v.Ok := Lib.hid (by rw [hv]; exact pCm_ok _)
     rw [← hv]
     have HVE := Lib.hid hv
     have HVL : Hid (v.cells.length = 37) := Lib.hid (Wcm.len HVK.out.h)
     have HONE : Hid (v.cells.toArray.all (·.oneCell') = true) := Lib.hid (all_oneCell_toArray (Wcm.one v))
     have HB8 : Hid (Blk (w7.setCells gm 3 v.cells) gm 61 ({x with cm := v} : Wmg).cells.toArray) := Lib.hid (Wmg.blk_cm HXL.out v HVL.out HBzw7.out)
     have HBS : Hid (x.cells.toArray.size = 295) := Lib.hid (by rw [List.size_toArray]; exact Wmg.lenz HXL.out)
     have HTH : Hid (w7.there gm 3 v.cells.toArray.size) := Lib.hid (HBzw7.out.thereM _ _ (by rw [List.size_toArray, HVL.out, HBS.out]; omega))
     have HSZ : Hid ((Tryz.prog.info? 29).map (·.size) = some v.cells.toArray.size) := Lib.hid (by rw [List.size_toArray, HVL.out]; kernel_rfl)
     have HF8 : Hid (Fr [gm] w7 (w7.setCells gm 3 v.cells)) := Lib.hid (Fr.setCells (fun _ => by simp) v.cells 3 w7 (Fr.refl _ _))
     clear hv
     obtain ⟨V, hV⟩ : ∃ V : List Value, V = v.cells := ⟨_, rfl⟩
     rw [← hV] at HVL HONE HTH HSZ HF8 HB8 ⊢
     clear hV
     generalize hwE : w7.setCells gm 3 V = w8 at *
     have HR8 := Lib.hid (HRzw7.out.fr HF8.out (by have := HGM.out; simp; omega) (fun k hk hm => by have := HNF.out k hk; have := HGM.out; simp at hm; omega))
     have HF9 : Hid (Fr [g, gm] w6 w8) := Lib.hid (HFzw7.out.trans (HF8.out.mono (T := [g, gm]) (fun q hq _ => by simp at hq; simp [hq])) (fun q hq _ => hq))
     obtain ⟨y, hy⟩ : ∃ y : Wmg, y = {x with cm := v} := ⟨_, rfl⟩
     have HYL : Hid y.Len := Lib.hid (by rw [hy]; exact ⟨HVK.out.h, HXL.out.st, HXL.out.ce, HXL.out.ak, HXL.out.vt, HXL.out.en, HXL.out.op⟩)
     have HYI : Hid (∀ W, Fr [g, gm, w.heap.size] w8 W → ∀ S0 : List Nat, (∀ q ∈ S0, q < w.heap.size) → y.Li W S0) := Lib.hid (fun W hW S0 h0 => by rw [hy]; exact ⟨HVK.out, (HXI.out W S0).st, (HXI.out W S0).ce, (HXI.out W S0).ak, (HXI.out W S0).pr, (HXI.out W S0).po, (HXI.out W S0).vt, (HXI.out W S0).en, (HXI.out W S0).op, (HXI.out W S0).dn, (HXI.out W S0).de⟩)
     obtain ⟨y0, hy0⟩ : ∃ y0 : Cmg, y0 = {x.con with cm := (pCm z).1} := ⟨_, rfl⟩
     obtain ⟨s6, hs6⟩ : ∃ s6 : Ps, s6 = (pCm z).2 := ⟨_, rfl⟩
     have HPU := Lib.hid (HPZ.out y0 s6 (by rw [pM_1 _ (show x.con.q = 1 from HXQ.out), hy0, hs6]))
     have HYC : Hid (s6.2 = false → y.con = y0) := Lib.hid (fun hb => by rw [hy, hy0, HVE.out]; rfl)
     have HR8 : Hid (Qs w8 F g s6) := Lib.hid (by rw [hs6]; exact HR8.out)
     rw [← hy] at HB8
     clear hy hy0 hs6
     subst hwE
     go_wp2_with (refine wpList_store_mid rfl 29 _ _ rfl gm 3 V.toArray rfl rfl HTH.out HSZ.out HONE.out ?_)
     go_meet
     exact ⟨y, y0, s6, HB8, HR8, HF9, HYL, HYI, HPU, HYC⟩
  · as_aux_lemma =>
     have HXQ := Lib.hid h
     have n1 : (x.q == (1 : Int)) = false := by rw [h]; rfl
     have n2 : (x.q == (2 : Int)) = true := by rw [h]; rfl
     clear h
     go_wp2_with fail
     refine (qStamp_any HR5.out).mono ?_
     rintro e_ w7 ⟨rfl, h1, h2⟩
     have HRzw7 := Lib.hid h1
     have HFzw7 : Hid (Fr [g, gm] w6 w7) := Lib.hid (h2.mono (fun q hq _ => by simp at hq; simp [hq]))
     have HBzw7 := Lib.hid (HB5.out.keep h2 (by have := HGM.out; simp; omega))
     clear h1 h2
     obtain ⟨v, hv⟩ : ∃ v, v = (pSt z).1 := ⟨_, rfl⟩
     have HVK : Hid v.Ok := Lib.hid (by rw [hv]; exact pSt_ok _)
     rw [← hv]
     have HVE := Lib.hid hv
     have HVL : Hid (v.cells.length = 38) := Lib.hid (Wst.len HVK.out.h)
     have HONE : Hid (v.cells.toArray.all (·.oneCell') = true) := Lib.hid (all_oneCell_toArray (Wst.one v))
     have HB8 : Hid (Blk (w7.setCells gm 40 v.cells) gm 61 ({x with st := v} : Wmg).cells.toArray) := Lib.hid (Wmg.blk_st HXL.out v HVL.out HBzw7.out)
     have HBS : Hid (x.cells.toArray.size = 295) := Lib.hid (by rw [List.size_toArray]; exact Wmg.lenz HXL.out)
     have HTH : Hid (w7.there gm 40 v.cells.toArray.size) := Lib.hid (HBzw7.out.thereM _ _ (by rw [List.size_toArray, HVL.out, HBS.out]; omega))
     have HSZ : Hid ((Tryz.prog.info? 32).map (·.size) = some v.cells.toArray.size) := Lib.hid (by rw [List.size_toArray, HVL.out]; kernel_rfl)
     have HF8 : Hid (Fr [gm] w7 (w7.setCells gm 40 v.cells)) := Lib.hid (Fr.setCells (fun _ => by simp) v.cells 40 w7 (Fr.refl _ _))
     clear hv
     obtain ⟨V, hV⟩ : ∃ V : List Value, V = v.cells := ⟨_, rfl⟩
     rw [← hV] at HVL HONE HTH HSZ HF8 HB8 ⊢
     clear hV
     generalize hwE : w7.setCells gm 40 V = w8 at *
     have HR8 := Lib.hid (HRzw7.out.fr HF8.out (by have := HGM.out; simp; omega) (fun k hk hm => by have := HNF.out k hk; have := HGM.out; simp at hm; omega))
     have HF9 : Hid (Fr [g, gm] w6 w8) := Lib.hid (HFzw7.out.trans (HF8.out.mono (T := [g, gm]) (fun q hq _ => by simp at hq; simp [hq])) (fun q hq _ => hq))
     obtain ⟨y, hy⟩ : ∃ y : Wmg, y = {x with st := v} := ⟨_, rfl⟩
     have HYL : Hid y.Len := Lib.hid (by rw [hy]; exact ⟨HXL.out.cm, HVK.out.h, HXL.out.ce, HXL.out.ak, HXL.out.vt, HXL.out.en, HXL.out.op⟩)
     have HYI : Hid (∀ W, Fr [g, gm, w.heap.size] w8 W → ∀ S0 : List Nat, (∀ q ∈ S0, q < w.heap.size) → y.Li W S0) := Lib.hid (fun W hW S0 h0 => by rw [hy]; exact ⟨(HXI.out W S0).cm, HVK.out, (HXI.out W S0).ce, (HXI.out W S0).ak, (HXI.out W S0).pr, (HXI.out W S0).po, (HXI.out W S0).vt, (HXI.out W S0).en, (HXI.out W S0).op, (HXI.out W S0).dn, (HXI.out W S0).de⟩)
     obtain ⟨y0, hy0⟩ : ∃ y0 : Cmg, y0 = {x.con with st := (pSt z).1} := ⟨_, rfl⟩
     obtain ⟨s6, hs6⟩ : ∃ s6 : Ps, s6 = (pSt z).2 := ⟨_, rfl⟩
     have HPU := Lib.hid (HPZ.out y0 s6 (by rw [pM_2 _ (show x.con.q = 2 from HXQ.out), hy0, hs6]))
     have HYC : Hid (s6.2 = false → y.con = y0) := Lib.hid (fun hb => by rw [hy, hy0, HVE.out]; rfl)
     have HR8 : Hid (Qs w8 F g s6) := Lib.hid (by rw [hs6]; exact HR8.out)
     rw [← hy] at HB8
     clear hy hy0 hs6
     subst hwE
     go_wp2_with (refine wpList_store_mid rfl 32 _ _ rfl gm 40 V.toArray rfl rfl HTH.out HSZ.out HONE.out ?_)
     go_meet
     exact ⟨y, y0, s6, HB8, HR8, HF9, HYL, HYI, HPU, HYC⟩
  · as_aux_lemma =>
     have HXQ := Lib.hid h
     have n1 : (x.q == (1 : Int)) = false := by rw [h]; rfl
     have n2 : (x.q == (2 : Int)) = false := by rw [h]; rfl
     have n3 : (x.q == (3 : Int)) = true := by rw [h]; rfl
     clear h
     go_wp2_with fail
     refine (qCert_any _ F g _ HR5.out).mono ?_
     rintro e_ w7 ⟨v, rfl, hc, hok, h1, h2⟩
     have HRzw7 := Lib.hid h1
     have HFzw7 : Hid (Fr [g, gm] w6 w7) := Lib.hid (h2.mono (fun q hq _ => by simp at hq; simp [hq]))
     have HCv := Lib.hid hc
     have HOv : Hid (∀ W, Fr [g, gm, w.heap.size] w7 W → ∀ S0 : List Nat, (∀ q ∈ S0, q < w.heap.size) → v.Li W S0) := Lib.hid (fun W hW S0 h0 => (hok (g :: gm :: w.heap.size :: S0) (fun q hq => by
      have h3 := HG.out; have h4 := HGM.out; have h5 : w6.heap.size ≤ w6.heap.size := Nat.le_refl _
      rcases List.mem_cons.1 hq with rfl | hq
      · omega
      · rcases List.mem_cons.1 hq with rfl | hq
        · omega
        · rcases List.mem_cons.1 hq with rfl | hq
          · omega
          · have := h0 q hq; omega)).keep (hW.mono (fun k hk _ => by simp at hk; simp; omega)) (fun k hk _ => by simp [hk]))
     clear hc hok
     have HBzw7 := Lib.hid (HB5.out.keep h2 (by have := HGM.out; simp; omega))
     clear h1 h2
     have HVLi := Lib.hid (HOv.out w7 (Fr.refl _ _) [] (by simp))
     have HVL : Hid (v.cells.length = 38) := Lib.hid (Wce.len HVLi.out.k.h)
     have HONE : Hid ((v.cells).toArray.all (·.oneCell') = true) := Lib.hid (all_oneCell_toArray (Wce.one v))
     have HB8 : Hid (Blk (w7.setCells gm 78 (v.cells)) gm 61 ({x with ce := v} : Wmg).cells.toArray) := Lib.hid (Wmg.blk_ce HXL.out v HVL.out HBzw7.out)
     have HBS : Hid ((x).cells.toArray.size = 295) := Lib.hid (by rw [List.size_toArray]; exact Wmg.lenz HXL.out)
     have HTH : Hid (w7.there gm 78 (v.cells).toArray.size) := Lib.hid (HBzw7.out.thereM _ _ (by rw [List.size_toArray, HVL.out, HBS.out]; omega))
     have HSZ : Hid ((Tryz.prog.info? 35).map (·.size) = some (v.cells).toArray.size) := Lib.hid (by rw [List.size_toArray, HVL.out]; kernel_rfl)
     have HF8 : Hid (Fr [gm] w7 (w7.setCells gm 78 (v.cells))) := Lib.hid (Fr.setCells (fun _ => by simp) (v.cells) 78 w7 (Fr.refl _ _))
     obtain ⟨V, hV⟩ : ∃ V : List Value, V = v.cells := ⟨_, rfl⟩
     rw [← hV] at HVL HONE HTH HSZ HF8 HB8 ⊢
     clear hV
     generalize hwE : w7.setCells gm 78 V = w8 at *
     have HR8 := Lib.hid (HRzw7.out.fr HF8.out (by have := HGM.out; simp; omega) (fun k hk hm => by have := HNF.out k hk; have := HGM.out; simp at hm; omega))
     have HF9 : Hid (Fr [g, gm] w6 w8) := Lib.hid (HFzw7.out.trans (HF8.out.mono (T := [g, gm]) (fun q hq _ => by simp at hq; simp [hq])) (fun q hq _ => hq))
     obtain ⟨y, hy⟩ : ∃ y : Wmg, y = {x with ce := v} := ⟨_, rfl⟩
     have HYL : Hid y.Len := Lib.hid (by rw [hy]; exact ⟨HXL.out.cm, HXL.out.st, HVLi.out.k.h, HXL.out.ak, HXL.out.vt, HXL.out.en, HXL.out.op⟩)
     have HYI : Hid (∀ W, Fr [g, gm, w.heap.size] w8 W → ∀ S0 : List Nat, (∀ q ∈ S0, q < w.heap.size) → y.Li W S0) := Lib.hid (fun W hW S0 h0 => by rw [hy]; exact ⟨(HXI.out W S0).cm, (HXI.out W S0).st, HOv.out W ((HF8.out.mono (T := [g, gm, w.heap.size]) (fun q hq _ => by simp at hq; simp [hq])).trans hW (fun q hq _ => hq)) S0 h0, (HXI.out W S0).ak, (HXI.out W S0).pr, (HXI.out W S0).po, (HXI.out W S0).vt, (HXI.out W S0).en, (HXI.out W S0).op, (HXI.out W S0).dn, (HXI.out W S0).de⟩)
     obtain ⟨y0, hy0⟩ : ∃ y0 : Cmg, y0 = {x.con with ce := (pCe z).1} := ⟨_, rfl⟩
     obtain ⟨s6, hs6⟩ : ∃ s6 : Ps, s6 = (pCe z).2 := ⟨_, rfl⟩
     have HPU := Lib.hid (HPZ.out y0 s6 (by rw [pM_3 _ (show x.con.q = 3 from HXQ.out), hy0, hs6]))
     have HYC : Hid (s6.2 = false → y.con = y0) := Lib.hid (fun hb => by rw [hs6] at hb; rw [hy, hy0, ← HCv.out hb]; rfl)
     have HR8 : Hid (Qs w8 F g s6) := Lib.hid (by rw [hs6]; exact HR8.out)
     rw [← hy] at HB8
     clear hy hy0 hs6
     subst hwE
     go_wp2_with (first
      | (refine wpList_store_mid rfl 35 _ _ rfl gm 78 V.toArray rfl rfl HTH.out HSZ.out HONE.out ?_))
     go_meet
     exact ⟨y, y0, s6, HB8, HR8, HF9, HYL, HYI, HPU, HYC⟩
  · as_aux_lemma =>
     have HXQ := Lib.hid h
     have n1 : (x.q == (1 : Int)) = false := by rw [h]; rfl
     have n2 : (x.q == (2 : Int)) = false := by rw [h]; rfl
     have n3 : (x.q == (3 : Int)) = false := by rw [h]; rfl
     have n4 : (x.q == (4 : Int)) = true := by rw [h]; rfl
     clear h
     go_wp2_with fail
     refine (qInt_any HR5.out).mono ?_
     rintro e_ w7 ⟨rfl, h1, h2⟩
     have HRzw7 := Lib.hid h1
     have HFzw7 : Hid (Fr [g, gm] w6 w7) := Lib.hid (h2.mono (fun q hq _ => by simp at hq; simp [hq]))
     have HBzw7 := Lib.hid (HB5.out.keep h2 (by have := HGM.out; simp; omega))
     clear h1 h2
     go_wp2_with fail
     refine (qName_any HRzw7.out).mono ?_
     rintro e_ w8 ⟨rfl, h1, h2⟩
     have HRzw8 := Lib.hid h1
     have HFzw8 : Hid (Fr [g, gm] w6 w8) := Lib.hid (HFzw7.out.trans (h2.mono (T := [g, gm]) (fun q hq _ => by simp at hq; simp [hq])) (fun q hq _ => hq))
     have HBzw8 := Lib.hid (HBzw7.out.keep h2 (by have := HGM.out; simp; omega))
     clear h1 h2
     go_wp2_with fail
     refine (qHash_any HRzw8.out).mono ?_
     rintro e_ w9 ⟨rfl, h1, h2⟩
     have HRzw9 := Lib.hid h1
     have HFzw9 : Hid (Fr [g, gm] w6 w9) := Lib.hid (HFzw8.out.trans (h2.mono (T := [g, gm]) (fun q hq _ => by simp at hq; simp [hq])) (fun q hq _ => hq))
     have HBzw9 := Lib.hid (HBzw8.out.keep h2 (by have := HGM.out; simp; omega))
     clear h1 h2
     go_wp2_with fail
     refine (qNum_any HRzw9.out).mono ?_
     rintro e_ w10 ⟨rfl, h1, h2⟩
     have HRzw10 := Lib.hid h1
     have HFzw10 : Hid (Fr [g, gm] w6 w10) := Lib.hid (HFzw9.out.trans (h2.mono (T := [g, gm]) (fun q hq _ => by simp at hq; simp [hq])) (fun q hq _ => hq))
     have HBzw10 := Lib.hid (HBzw9.out.keep h2 (by have := HGM.out; simp; omega))
     clear h1 h2
     go_wp2_with fail
     refine (qSig_any HRzw10.out).mono ?_
     rintro e_ w11 ⟨rfl, h1, h2⟩
     have HRzw11 := Lib.hid h1
     have HFzw11 : Hid (Fr [g, gm] w6 w11) := Lib.hid (HFzw10.out.trans (h2.mono (T := [g, gm]) (fun q hq _ => by simp at hq; simp [hq])) (fun q hq _ => hq))
     have HBzw11 := Lib.hid (HBzw10.out.keep h2 (by have := HGM.out; simp; omega))
     clear h1 h2
     obtain ⟨v, hv⟩ : ∃ v, v = (pSt z).1 := ⟨_, rfl⟩
     have HVK : Hid v.Ok := Lib.hid (by rw [hv]; exact pSt_ok _)
     have HBU2 : Hid (Tryz.prog.built 37 [(0, .int .i64 (pI z).1), (1, .agg #[.int .i64 (p2 (pI z).2).1.1, .int .i64 (p2 (pI z).2).1.2]), (2, .agg ((pH (p2 (pI z).2).2).1.map by8).toArray), (3, .int .u64 ((pN (pH (p2 (pI z).2).2).2).1 : Int)), (4, .agg #[.int .i64 (p2 (pN (pH (p2 (pI z).2).2).2).2).1.1, .int .i64 (p2 (pN (pH (p2 (pI z).2).2).2).2).1.2])] = some v.cells.toArray) := Lib.hid (by rw [hv]; exact built_akR _ _ _ _ _ _ _ (pSt_ok z).h)
     have HVE := Lib.hid hv
     clear hv
     have HVL : Hid (v.cells.length = 38) := Lib.hid (Wst.len HVK.out.h)
     have HONE : Hid ((v.cells).toArray.all (·.oneCell') = true) := Lib.hid (all_oneCell_toArray (Wst.one v))
     have HB8 : Hid (Blk (w11.setCells gm 116 (v.cells)) gm 61 ({x with ak := v} : Wmg).cells.toArray) := Lib.hid (Wmg.blk_ak HXL.out v HVL.out HBzw11.out)
     have HBS : Hid ((x).cells.toArray.size = 295) := Lib.hid (by rw [List.size_toArray]; exact Wmg.lenz HXL.out)
     have HTH : Hid (w11.there gm 116 (v.cells).toArray.size) := Lib.hid (HBzw11.out.thereM _ _ (by rw [List.size_toArray, HVL.out, HBS.out]; omega))
     have HSZ : Hid ((Tryz.prog.info? 37).map (·.size) = some (v.cells).toArray.size) := Lib.hid (by rw [List.size_toArray, HVL.out]; kernel_rfl)
     have HF8 : Hid (Fr [gm] w11 (w11.setCells gm 116 (v.cells))) := Lib.hid (Fr.setCells (fun _ => by simp) (v.cells) 116 w11 (Fr.refl _ _))
     obtain ⟨V, hV⟩ : ∃ V : List Value, V = v.cells := ⟨_, rfl⟩
     rw [← hV] at HVL HONE HTH HSZ HF8 HB8 HBU2
     clear hV
     generalize hwE : w11.setCells gm 116 V = w12 at *
     have HR8 := Lib.hid (HRzw11.out.fr HF8.out (by have := HGM.out; simp; omega) (fun k hk hm => by have := HNF.out k hk; have := HGM.out; simp at hm; omega))
     have HF9 : Hid (Fr [g, gm] w6 w12) := Lib.hid (HFzw11.out.trans (HF8.out.mono (T := [g, gm]) (fun q hq _ => by simp at hq; simp [hq])) (fun q hq _ => hq))
     obtain ⟨y, hy⟩ : ∃ y : Wmg, y = {x with ak := v} := ⟨_, rfl⟩
     have HYL : Hid y.Len := Lib.hid (by rw [hy]; exact ⟨HXL.out.cm, HXL.out.st, HXL.out.ce, HVK.out.h, HXL.out.vt, HXL.out.en, HXL.out.op⟩)
     have HYI : Hid (∀ W, Fr [g, gm, w.heap.size] w12 W → ∀ S0 : List Nat, (∀ q ∈ S0, q < w.heap.size) → y.Li W S0) := Lib.hid (fun W hW S0 h0 => by rw [hy]; exact ⟨(HXI.out W S0).cm, (HXI.out W S0).st, (HXI.out W S0).ce, HVK.out, (HXI.out W S0).pr, (HXI.out W S0).po, (HXI.out W S0).vt, (HXI.out W S0).en, (HXI.out W S0).op, (HXI.out W S0).dn, (HXI.out W S0).de⟩)
     obtain ⟨y0, hy0⟩ : ∃ y0 : Cmg, y0 = {x.con with ak := (pSt z).1} := ⟨_, rfl⟩
     obtain ⟨s6, hs6⟩ : ∃ s6 : Ps, s6 = (pSt z).2 := ⟨_, rfl⟩
     have HPU := Lib.hid (HPZ.out y0 s6 (by rw [pM_4 _ (show x.con.q = 4 from HXQ.out), hy0, hs6]))
     have HYC : Hid (s6.2 = false → y.con = y0) := Lib.hid (fun hb => by rw [hy, hy0, HVE.out]; rfl)
     have HR8 : Hid (Qs w12 F g s6) := Lib.hid (by rw [hs6]; exact HR8.out)
     rw [← hy] at HB8
     clear hy hy0 hs6
     subst hwE
     go_wp2_with (first
      | (refine wpList_builtg rfl 37 _ rfl _ _ HBU2.out rfl ?_)
      | (refine wpList_store_mid rfl 37 _ _ rfl gm 116 V.toArray rfl rfl HTH.out HSZ.out HONE.out ?_))
     go_meet
     exact ⟨y, y0, s6, HB8, HR8, HF9, HYL, HYI, HPU, HYC⟩
  · as_aux_lemma =>
     have HXQ := Lib.hid h
     have n1 : (x.q == (1 : Int)) = false := by rw [h]; rfl
     have n2 : (x.q == (2 : Int)) = false := by rw [h]; rfl
     have n3 : (x.q == (3 : Int)) = false := by rw [h]; rfl
     have n4 : (x.q == (4 : Int)) = false := by rw [h]; rfl
     have n5 : (x.q == (5 : Int)) = true := by rw [h]; rfl
     clear h
     have HSI : Hid ((Tryz.prog.info? 3).map (·.size) = some 1) := Lib.hid (by kernel_rfl)
     have HSU : Hid ((Tryz.prog.info? 30).map (·.size) = some 1) := Lib.hid (by kernel_rfl)
     have HSS : Hid ((Tryz.prog.info? 9).map (·.size) = some 1) := Lib.hid (by kernel_rfl)
     have HLT : Hid (∀ y : Wmg, y.Len → ∀ k < 295, k < y.cells.toArray.size) := Lib.hid (fun y hy k hk => by rw [List.size_toArray, Wmg.lenz hy]; exact hk)
     go_wp2_with fail
     refine (qInt_any HR5.out).mono ?_
     rintro e_ w7 ⟨rfl, h1, h2⟩
     have HRzw7 := Lib.hid h1
     have HFzw7 : Hid (Fr [g, gm] w6 w7) := Lib.hid (h2.mono (fun q hq _ => by simp at hq; simp [hq]))
     have HBzw7 := Lib.hid (HB5.out.keep h2 (by have := HGM.out; simp; omega))
     clear h1 h2
     go_wp2_with fail
     refine (qInt_any HRzw7.out).mono ?_
     rintro e_ w8 ⟨rfl, h1, h2⟩
     have HRzw8 := Lib.hid h1
     have HFzw8 : Hid (Fr [g, gm] w6 w8) := Lib.hid (HFzw7.out.trans (h2.mono (T := [g, gm]) (fun q hq _ => by simp at hq; simp [hq])) (fun q hq _ => hq))
     have HBzw8 := Lib.hid (HBzw7.out.keep h2 (by have := HGM.out; simp; omega))
     clear h1 h2
     go_wp2_with fail
     refine (qNum_any HRzw8.out).mono ?_
     rintro e_ w9 ⟨rfl, h1, h2⟩
     have HRzw9 := Lib.hid h1
     have HFzw9 : Hid (Fr [g, gm] w6 w9) := Lib.hid (HFzw8.out.trans (h2.mono (T := [g, gm]) (fun q hq _ => by simp at hq; simp [hq])) (fun q hq _ => hq))
     have HBzw9 := Lib.hid (HBzw8.out.keep h2 (by have := HGM.out; simp; omega))
     clear h1 h2
     obtain ⟨a, ha⟩ : ∃ a, a = (pI z).1 := ⟨_, rfl⟩
     obtain ⟨b, hb⟩ : ∃ b, b = (pI (pI z).2).1 := ⟨_, rfl⟩
     obtain ⟨d, hd⟩ : ∃ d, d = (pN (pI (pI z).2).2).1 := ⟨_, rfl⟩
     rw [← ha, ← hb, ← hd]
     have HVE : Hid (a = (pI z).1 ∧ b = (pI (pI z).2).1 ∧ d = (pN (pI (pI z).2).2).1) := Lib.hid ⟨ha, hb, hd⟩
     clear ha hb hd
     have HZ1 : Hid (Wmg.Len {x with e := a}) := Lib.hid ⟨HXL.out.cm, HXL.out.st, HXL.out.ce, HXL.out.ak, HXL.out.vt, HXL.out.en, HXL.out.op⟩
     have HZ2 : Hid (Wmg.Len {x with e := a, r := b}) := Lib.hid ⟨HXL.out.cm, HXL.out.st, HXL.out.ce, HXL.out.ak, HXL.out.vt, HXL.out.en, HXL.out.op⟩
     have HBa := Lib.hid (Wmg.blk_e HXL.out a HBzw9.out)
     have HBb := Lib.hid (Wmg.blk_r HZ1.out b HBa.out)
     have HBc := Lib.hid (Wmg.blk_tm HZ2.out d HBb.out)
     have HFS : Hid (Fr [gm] w9 (((w9.setCells gm 154 [.int .i64 a]).setCells gm 155 [.int .i64 b]).setCells gm 156 [.int .u64 (d : Nat)])) := Lib.hid (Fr.setCells (fun _ => by simp) [.int .u64 (d : Nat)] 156 _ (Fr.setCells (fun _ => by simp) [.int .i64 b] 155 _ (Fr.setCells (fun _ => by simp) [.int .i64 a] 154 _ (Fr.refl _ _))))
     generalize hwE : ((w9.setCells gm 154 [.int .i64 a]).setCells gm 155 [.int .i64 b]).setCells gm 156 [.int .u64 (d : Nat)] = w10 at *
     have HR8 := Lib.hid (HRzw9.out.fr HFS.out (by have := HGM.out; simp; omega) (fun k hk hm => by have := HNF.out k hk; have := HGM.out; simp at hm; omega))
     have HF9 : Hid (Fr [g, gm] w6 w10) := Lib.hid (HFzw9.out.trans (HFS.out.mono (T := [g, gm]) (fun q hq _ => by simp at hq; simp [hq])) (fun q hq _ => hq))
     obtain ⟨y, hy⟩ : ∃ y : Wmg, y = {x with e := a, r := b, tm := d} := ⟨_, rfl⟩
     have HYL : Hid y.Len := Lib.hid (by rw [hy]; exact ⟨HXL.out.cm, HXL.out.st, HXL.out.ce, HXL.out.ak, HXL.out.vt, HXL.out.en, HXL.out.op⟩)
     have HYI : Hid (∀ W, Fr [g, gm, w.heap.size] w10 W → ∀ S0 : List Nat, (∀ q ∈ S0, q < w.heap.size) → y.Li W S0) := Lib.hid (fun W hW S0 h0 => by rw [hy]; exact ⟨(HXI.out W S0).cm, (HXI.out W S0).st, (HXI.out W S0).ce, (HXI.out W S0).ak, (HXI.out W S0).pr, (HXI.out W S0).po, (HXI.out W S0).vt, (HXI.out W S0).en, (HXI.out W S0).op, (HXI.out W S0).dn, (HXI.out W S0).de⟩)
     obtain ⟨y0, hy0⟩ : ∃ y0 : Cmg, y0 = {x.con with e := (pI z).1, r := (pI (pI z).2).1, tm := (pN (pI (pI z).2).2).1} := ⟨_, rfl⟩
     obtain ⟨s6, hs6⟩ : ∃ s6 : Ps, s6 = (pN (pI (pI z).2).2).2 := ⟨_, rfl⟩
     have HPU := Lib.hid (HPZ.out y0 s6 (by rw [pM_5 _ (show x.con.q = 5 from HXQ.out), hy0, hs6]))
     have HYC : Hid (s6.2 = false → y.con = y0) := Lib.hid (fun hb => by rw [hy, hy0, HVE.out.1, HVE.out.2.1, HVE.out.2.2]; rfl)
     have HR8 : Hid (Qs w10 F g s6) := Lib.hid (by rw [hs6]; exact HR8.out)
     rw [← hy] at HBc
     clear hy hy0 hs6
     subst hwE
     go_wp2_with (first
      | (refine wpList_store_at rfl 3 _ _ rfl gm 154 (.int .i64 a) rfl rfl rfl 61 _ HBzw9.out (HLT.out _ HXL.out 154 (by omega)) HSI.out ?_)
      | (refine wpList_store_at rfl 3 _ _ rfl gm 155 (.int .i64 b) rfl rfl rfl 61 _ HBa.out (HLT.out _ HZ1.out 155 (by omega)) HSI.out ?_)
      | (refine wpList_store_at rfl 30 _ _ rfl gm 156 (.int .u64 (d : Nat)) rfl rfl rfl 61 _ HBb.out (HLT.out _ HZ2.out 156 (by omega)) HSU.out ?_))
     go_meet
     exact ⟨y, y0, s6, HBc, HR8, HF9, HYL, HYI, HPU, HYC⟩
  · as_aux_lemma =>
     have HXQ := Lib.hid h
     have n1 : (x.q == (1 : Int)) = false := by rw [h]; rfl
     have n2 : (x.q == (2 : Int)) = false := by rw [h]; rfl
     have n3 : (x.q == (3 : Int)) = false := by rw [h]; rfl
     have n4 : (x.q == (4 : Int)) = false := by rw [h]; rfl
     have n5 : (x.q == (5 : Int)) = false := by rw [h]; rfl
     have n6 : (x.q == (6 : Int)) = true := by rw [h]; rfl
     clear h
     go_wp2_with fail
     refine (qPromise_any _ F g _ HR5.out).mono ?_
     rintro e_ w7 ⟨v, rfl, hc, hok, h1, h2⟩
     have HRzw7 := Lib.hid h1
     have HFzw7 : Hid (Fr [g, gm] w6 w7) := Lib.hid (h2.mono (fun q hq _ => by simp at hq; simp [hq]))
     have HCv := Lib.hid hc
     have HOv : Hid (∀ W, Fr [g, gm, w.heap.size] w7 W → ∀ S0 : List Nat, (∀ q ∈ S0, q < w.heap.size) → v.Li W S0) := Lib.hid (fun W hW S0 h0 => (hok (g :: gm :: w.heap.size :: S0) (fun q hq => by
      have h3 := HG.out; have h4 := HGM.out; have h5 : w6.heap.size ≤ w6.heap.size := Nat.le_refl _
      rcases List.mem_cons.1 hq with rfl | hq
      · omega
      · rcases List.mem_cons.1 hq with rfl | hq
        · omega
        · rcases List.mem_cons.1 hq with rfl | hq
          · omega
          · have := h0 q hq; omega)).keep (hW.mono (fun k hk _ => by simp at hk; simp; omega)) (fun k hk _ => by simp [hk]))
     clear hc hok
     have HBzw7 := Lib.hid (HB5.out.keep h2 (by have := HGM.out; simp; omega))
     clear h1 h2
     have HVLi := Lib.hid (HOv.out w7 (Fr.refl _ _) [] (by simp))
     have HVL : Hid (v.cells.length = 6) := Lib.hid (rfl)
     have HONE : Hid ((v.cells).toArray.all (·.oneCell') = true) := Lib.hid (all_oneCell_toArray (Wpr.one v))
     have HB8 : Hid (Blk (w7.setCells gm 157 (v.cells)) gm 61 ({x with pr := v} : Wmg).cells.toArray) := Lib.hid (Wmg.blk_pr HXL.out v HVL.out HBzw7.out)
     have HBS : Hid ((x).cells.toArray.size = 295) := Lib.hid (by rw [List.size_toArray]; exact Wmg.lenz HXL.out)
     have HTH : Hid (w7.there gm 157 (v.cells).toArray.size) := Lib.hid (HBzw7.out.thereM _ _ (by rw [List.size_toArray, HVL.out, HBS.out]; omega))
     have HSZ : Hid ((Tryz.prog.info? 40).map (·.size) = some (v.cells).toArray.size) := Lib.hid (by rw [List.size_toArray, HVL.out]; kernel_rfl)
     have HF8 : Hid (Fr [gm] w7 (w7.setCells gm 157 (v.cells))) := Lib.hid (Fr.setCells (fun _ => by simp) (v.cells) 157 w7 (Fr.refl _ _))
     obtain ⟨V, hV⟩ : ∃ V : List Value, V = v.cells := ⟨_, rfl⟩
     rw [← hV] at HVL HONE HTH HSZ HF8 HB8 ⊢
     clear hV
     generalize hwE : w7.setCells gm 157 V = w8 at *
     have HR8 := Lib.hid (HRzw7.out.fr HF8.out (by have := HGM.out; simp; omega) (fun k hk hm => by have := HNF.out k hk; have := HGM.out; simp at hm; omega))
     have HF9 : Hid (Fr [g, gm] w6 w8) := Lib.hid (HFzw7.out.trans (HF8.out.mono (T := [g, gm]) (fun q hq _ => by simp at hq; simp [hq])) (fun q hq _ => hq))
     obtain ⟨y, hy⟩ : ∃ y : Wmg, y = {x with pr := v} := ⟨_, rfl⟩
     have HYL : Hid y.Len := Lib.hid (by rw [hy]; exact ⟨HXL.out.cm, HXL.out.st, HXL.out.ce, HXL.out.ak, HXL.out.vt, HXL.out.en, HXL.out.op⟩)
     have HYI : Hid (∀ W, Fr [g, gm, w.heap.size] w8 W → ∀ S0 : List Nat, (∀ q ∈ S0, q < w.heap.size) → y.Li W S0) := Lib.hid (fun W hW S0 h0 => by rw [hy]; exact ⟨(HXI.out W S0).cm, (HXI.out W S0).st, (HXI.out W S0).ce, (HXI.out W S0).ak, HOv.out W ((HF8.out.mono (T := [g, gm, w.heap.size]) (fun q hq _ => by simp at hq; simp [hq])).trans hW (fun q hq _ => hq)) S0 h0, (HXI.out W S0).po, (HXI.out W S0).vt, (HXI.out W S0).en, (HXI.out W S0).op, (HXI.out W S0).dn, (HXI.out W S0).de⟩)
     obtain ⟨y0, hy0⟩ : ∃ y0 : Cmg, y0 = {x.con with pr := (pPr z).1} := ⟨_, rfl⟩
     obtain ⟨s6, hs6⟩ : ∃ s6 : Ps, s6 = (pPr z).2 := ⟨_, rfl⟩
     have HPU := Lib.hid (HPZ.out y0 s6 (by rw [pM_6 _ (show x.con.q = 6 from HXQ.out), hy0, hs6]))
     have HYC : Hid (s6.2 = false → y.con = y0) := Lib.hid (fun hb => by rw [hs6] at hb; rw [hy, hy0, ← HCv.out hb]; rfl)
     have HR8 : Hid (Qs w8 F g s6) := Lib.hid (by rw [hs6]; exact HR8.out)
     rw [← hy] at HB8
     clear hy hy0 hs6
     subst hwE
     go_wp2_with (first
      | (refine wpList_store_mid rfl 40 _ _ rfl gm 157 V.toArray rfl rfl HTH.out HSZ.out HONE.out ?_))
     go_meet
     exact ⟨y, y0, s6, HB8, HR8, HF9, HYL, HYI, HPU, HYC⟩
  · as_aux_lemma =>
     have HXQ := Lib.hid h
     have n1 : (x.q == (1 : Int)) = false := by rw [h]; rfl
     have n2 : (x.q == (2 : Int)) = false := by rw [h]; rfl
     have n3 : (x.q == (3 : Int)) = false := by rw [h]; rfl
     have n4 : (x.q == (4 : Int)) = false := by rw [h]; rfl
     have n5 : (x.q == (5 : Int)) = false := by rw [h]; rfl
     have n6 : (x.q == (6 : Int)) = false := by rw [h]; rfl
     have n7 : (x.q == (7 : Int)) = true := by rw [h]; rfl
     clear h
     go_wp2_with fail
     refine (qInt_any HR5.out).mono ?_
     rintro e_ w7 ⟨rfl, h1, h2⟩
     have HRzw7 := Lib.hid h1
     have HFzw7 : Hid (Fr [g, gm] w6 w7) := Lib.hid (h2.mono (fun q hq _ => by simp at hq; simp [hq]))
     have HBzw7 := Lib.hid (HB5.out.keep h2 (by have := HGM.out; simp; omega))
     clear h1 h2
     go_wp2_with fail
     refine (qInt_any HRzw7.out).mono ?_
     rintro e_ w8 ⟨rfl, h1, h2⟩
     have HRzw8 := Lib.hid h1
     have HFzw8 : Hid (Fr [g, gm] w6 w8) := Lib.hid (HFzw7.out.trans (h2.mono (T := [g, gm]) (fun q hq _ => by simp at hq; simp [hq])) (fun q hq _ => hq))
     have HBzw8 := Lib.hid (HBzw7.out.keep h2 (by have := HGM.out; simp; omega))
     clear h1 h2
     go_wp2_with fail
     refine (qInt_any HRzw8.out).mono ?_
     rintro e_ w9 ⟨rfl, h1, h2⟩
     have HRzw9 := Lib.hid h1
     have HFzw9 : Hid (Fr [g, gm] w6 w9) := Lib.hid (HFzw8.out.trans (h2.mono (T := [g, gm]) (fun q hq _ => by simp at hq; simp [hq])) (fun q hq _ => hq))
     have HBzw9 := Lib.hid (HBzw8.out.keep h2 (by have := HGM.out; simp; omega))
     clear h1 h2
     go_wp2_with fail
     refine (qInt_any HRzw9.out).mono ?_
     rintro e_ w10 ⟨rfl, h1, h2⟩
     have HRzw10 := Lib.hid h1
     have HFzw10 : Hid (Fr [g, gm] w6 w10) := Lib.hid (HFzw9.out.trans (h2.mono (T := [g, gm]) (fun q hq _ => by simp at hq; simp [hq])) (fun q hq _ => hq))
     have HBzw10 := Lib.hid (HBzw9.out.keep h2 (by have := HGM.out; simp; omega))
     clear h1 h2
     go_wp2_with fail
     refine (qBatch_any _ F g _ HRzw10.out).mono ?_
     rintro e_ w11 ⟨vb, rfl, hc, hok, h1, h2⟩
     have HRzw11 := Lib.hid h1
     have HFzw11 : Hid (Fr [g, gm] w6 w11) := Lib.hid (HFzw10.out.trans (h2.mono (T := [g, gm]) (fun q hq _ => by simp at hq; simp [hq])) (fun q hq _ => hq))
     have HCvb := Lib.hid hc
     have HOvb : Hid (∀ W, Fr [g, gm, w.heap.size] w11 W → ∀ S0 : List Nat, (∀ q ∈ S0, q < w.heap.size) → vb.Li W S0) := Lib.hid (fun W hW S0 h0 => (hok (g :: gm :: w.heap.size :: S0) (fun q hq => by
      have h3 := HG.out; have h4 := HGM.out; have h5 : w6.heap.size ≤ w10.heap.size := HFzw10.out.size
      rcases List.mem_cons.1 hq with rfl | hq
      · omega
      · rcases List.mem_cons.1 hq with rfl | hq
        · omega
        · rcases List.mem_cons.1 hq with rfl | hq
          · omega
          · have := h0 q hq; omega)).keep (hW.mono (fun k hk _ => by simp at hk; simp; omega)) (fun k hk _ => by simp [hk]))
     clear hc hok
     have HBzw11 := Lib.hid (HBzw10.out.keep h2 (by have := HGM.out; simp; omega))
     clear h1 h2
     go_wp2_with fail
     refine (qSig_any HRzw11.out).mono ?_
     rintro e_ w12 ⟨rfl, h1, h2⟩
     have HFvb0 : Hid (Fr [g, gm, w.heap.size] w11 w12) := Lib.hid (h2.mono (fun q hq _ => by simp at hq; simp [hq]))
     have HRzw12 := Lib.hid h1
     have HFzw12 : Hid (Fr [g, gm] w6 w12) := Lib.hid (HFzw11.out.trans (h2.mono (T := [g, gm]) (fun q hq _ => by simp at hq; simp [hq])) (fun q hq _ => hq))
     have HBzw12 := Lib.hid (HBzw11.out.keep h2 (by have := HGM.out; simp; omega))
     clear h1 h2
     have HBU2 := Lib.hid (built_poR (pI z).1 (pI (pI z).2).1 (wrap64 ((pI (pI (pI z).2).2).1 - 1)) (pI (pI (pI (pI z).2).2).2).1 vb (p2 (pBa (pI (pI (pI (pI z).2).2).2).2).2).1.1 (p2 (pBa (pI (pI (pI (pI z).2).2).2).2).2).1.2)
     obtain ⟨v, hv⟩ : ∃ v : Wpo, v = ⟨(pI z).1, (pI (pI z).2).1, wrap64 ((pI (pI (pI z).2).2).1 - 1), (pI (pI (pI (pI z).2).2).2).1, vb, (p2 (pBa (pI (pI (pI (pI z).2).2).2).2).2).1.1, (p2 (pBa (pI (pI (pI (pI z).2).2).2).2).2).1.2⟩ := ⟨_, rfl⟩
     have HVL0 : Hid (v.cells.length = 11) := Lib.hid (by rw [hv]; rfl)
     have HFvb : Hid (Fr [g, gm, w.heap.size] w11 w12) := Lib.hid (HFvb0.out)
     have HVI : Hid (∀ W, Fr [g, gm, w.heap.size] w12 W → ∀ S0 : List Nat, (∀ q ∈ S0, q < w.heap.size) → v.Li W S0) := Lib.hid (fun W hW S0 h0 => by rw [hv]; exact ⟨pI_in _, pI_in _, pI_lessW _, pI_in _, HOvb.out W (HFvb.out.trans hW (fun q hq _ => hq)) S0 h0, pI_in _, pI_in _⟩)
     have HVC : Hid ((pPo z).2.2 = false → v.con = (pPo z).1) := Lib.hid (fun hb => by
      unfold pPo at hb ⊢
      dsimp only at hb ⊢
      have h1 := HCvb.out (p2_bad hb)
      rw [hv]; unfold Wpo.con; simp only [h1, pI_wrap])
     rw [← hv] at HBU2
     clear hv
     have HVL : Hid (v.cells.length = 11) := Lib.hid (HVL0.out)
     have HONE : Hid ((v.cells).toArray.all (·.oneCell') = true) := Lib.hid (all_oneCell_toArray (Wpo.one v))
     have HB8 : Hid (Blk (w12.setCells gm 163 (v.cells)) gm 61 ({x with po := v} : Wmg).cells.toArray) := Lib.hid (Wmg.blk_po HXL.out v HVL.out HBzw12.out)
     have HBS : Hid ((x).cells.toArray.size = 295) := Lib.hid (by rw [List.size_toArray]; exact Wmg.lenz HXL.out)
     have HTH : Hid (w12.there gm 163 (v.cells).toArray.size) := Lib.hid (HBzw12.out.thereM _ _ (by rw [List.size_toArray, HVL.out, HBS.out]; omega))
     have HSZ : Hid ((Tryz.prog.info? 47).map (·.size) = some (v.cells).toArray.size) := Lib.hid (by rw [List.size_toArray, HVL.out]; kernel_rfl)
     have HF8 : Hid (Fr [gm] w12 (w12.setCells gm 163 (v.cells))) := Lib.hid (Fr.setCells (fun _ => by simp) (v.cells) 163 w12 (Fr.refl _ _))
     obtain ⟨V, hV⟩ : ∃ V : List Value, V = v.cells := ⟨_, rfl⟩
     rw [← hV] at HVL HONE HTH HSZ HF8 HB8 HBU2
     clear hV
     generalize hwE : w12.setCells gm 163 V = w13 at *
     have HR8 := Lib.hid (HRzw12.out.fr HF8.out (by have := HGM.out; simp; omega) (fun k hk hm => by have := HNF.out k hk; have := HGM.out; simp at hm; omega))
     have HF9 : Hid (Fr [g, gm] w6 w13) := Lib.hid (HFzw12.out.trans (HF8.out.mono (T := [g, gm]) (fun q hq _ => by simp at hq; simp [hq])) (fun q hq _ => hq))
     obtain ⟨y, hy⟩ : ∃ y : Wmg, y = {x with po := v} := ⟨_, rfl⟩
     have HYL : Hid y.Len := Lib.hid (by rw [hy]; exact ⟨HXL.out.cm, HXL.out.st, HXL.out.ce, HXL.out.ak, HXL.out.vt, HXL.out.en, HXL.out.op⟩)
     have HYI : Hid (∀ W, Fr [g, gm, w.heap.size] w13 W → ∀ S0 : List Nat, (∀ q ∈ S0, q < w.heap.size) → y.Li W S0) := Lib.hid (fun W hW S0 h0 => by rw [hy]; exact ⟨(HXI.out W S0).cm, (HXI.out W S0).st, (HXI.out W S0).ce, (HXI.out W S0).ak, (HXI.out W S0).pr, HVI.out W ((HF8.out.mono (T := [g, gm, w.heap.size]) (fun q hq _ => by simp at hq; simp [hq])).trans hW (fun q hq _ => hq)) S0 h0, (HXI.out W S0).vt, (HXI.out W S0).en, (HXI.out W S0).op, (HXI.out W S0).dn, (HXI.out W S0).de⟩)
     obtain ⟨y0, hy0⟩ : ∃ y0 : Cmg, y0 = {x.con with po := (pPo z).1} := ⟨_, rfl⟩
     obtain ⟨s6, hs6⟩ : ∃ s6 : Ps, s6 = (pPo z).2 := ⟨_, rfl⟩
     have HPU := Lib.hid (HPZ.out y0 s6 (by rw [pM_7 _ (show x.con.q = 7 from HXQ.out), hy0, hs6]))
     have HYC : Hid (s6.2 = false → y.con = y0) := Lib.hid (fun hb => by rw [hs6] at hb; rw [hy, hy0, ← HVC.out hb]; rfl)
     have HR8 : Hid (Qs w13 F g s6) := Lib.hid (by rw [hs6]; unfold pPo; exact HR8.out)
     rw [← hy] at HB8
     clear hy hy0 hs6
     subst hwE
     go_wp2_with (first
      | (refine wpList_builtg rfl 47 _ rfl _ _ HBU2.out rfl ?_)
      | (refine wpList_store_mid rfl 47 _ _ rfl gm 163 V.toArray rfl rfl HTH.out HSZ.out HONE.out ?_))
     go_meet
     exact ⟨y, y0, s6, HB8, HR8, HF9, HYL, HYI, HPU, HYC⟩
  · as_aux_lemma =>
     have HXQ := Lib.hid h
     have n1 : (x.q == (1 : Int)) = false := by rw [h]; rfl
     have n2 : (x.q == (2 : Int)) = false := by rw [h]; rfl
     have n3 : (x.q == (3 : Int)) = false := by rw [h]; rfl
     have n4 : (x.q == (4 : Int)) = false := by rw [h]; rfl
     have n5 : (x.q == (5 : Int)) = false := by rw [h]; rfl
     have n6 : (x.q == (6 : Int)) = false := by rw [h]; rfl
     have n7 : (x.q == (7 : Int)) = false := by rw [h]; rfl
     have n8 : (x.q == (8 : Int)) = true := by rw [h]; rfl
     clear h
     go_wp2_with fail
     refine (qVote_any HR5.out).mono ?_
     rintro e_ w7 ⟨rfl, h1, h2⟩
     have HRzw7 := Lib.hid h1
     have HFzw7 : Hid (Fr [g, gm] w6 w7) := Lib.hid (h2.mono (fun q hq _ => by simp at hq; simp [hq]))
     have HBzw7 := Lib.hid (HB5.out.keep h2 (by have := HGM.out; simp; omega))
     clear h1 h2
     obtain ⟨v, hv⟩ : ∃ v, v = (pVt z).1 := ⟨_, rfl⟩
     have HVK : Hid v.Ok := Lib.hid (by rw [hv]; exact pVt_ok _)
     rw [← hv]
     have HVE := Lib.hid hv
     have HVL : Hid (v.cells.length = 38) := Lib.hid (Wvt.len HVK.out.h)
     have HONE : Hid (v.cells.toArray.all (·.oneCell') = true) := Lib.hid (all_oneCell_toArray (Wvt.one v))
     have HB8 : Hid (Blk (w7.setCells gm 174 v.cells) gm 61 ({x with vt := v} : Wmg).cells.toArray) := Lib.hid (Wmg.blk_vt HXL.out v HVL.out HBzw7.out)
     have HBS : Hid (x.cells.toArray.size = 295) := Lib.hid (by rw [List.size_toArray]; exact Wmg.lenz HXL.out)
     have HTH : Hid (w7.there gm 174 v.cells.toArray.size) := Lib.hid (HBzw7.out.thereM _ _ (by rw [List.size_toArray, HVL.out, HBS.out]; omega))
     have HSZ : Hid ((Tryz.prog.info? 49).map (·.size) = some v.cells.toArray.size) := Lib.hid (by rw [List.size_toArray, HVL.out]; kernel_rfl)
     have HF8 : Hid (Fr [gm] w7 (w7.setCells gm 174 v.cells)) := Lib.hid (Fr.setCells (fun _ => by simp) v.cells 174 w7 (Fr.refl _ _))
     clear hv
     obtain ⟨V, hV⟩ : ∃ V : List Value, V = v.cells := ⟨_, rfl⟩
     rw [← hV] at HVL HONE HTH HSZ HF8 HB8 ⊢
     clear hV
     generalize hwE : w7.setCells gm 174 V = w8 at *
     have HR8 := Lib.hid (HRzw7.out.fr HF8.out (by have := HGM.out; simp; omega) (fun k hk hm => by have := HNF.out k hk; have := HGM.out; simp at hm; omega))
     have HF9 : Hid (Fr [g, gm] w6 w8) := Lib.hid (HFzw7.out.trans (HF8.out.mono (T := [g, gm]) (fun q hq _ => by simp at hq; simp [hq])) (fun q hq _ => hq))
     obtain ⟨y, hy⟩ : ∃ y : Wmg, y = {x with vt := v} := ⟨_, rfl⟩
     have HYL : Hid y.Len := Lib.hid (by rw [hy]; exact ⟨HXL.out.cm, HXL.out.st, HXL.out.ce, HXL.out.ak, HVK.out.h, HXL.out.en, HXL.out.op⟩)
     have HYI : Hid (∀ W, Fr [g, gm, w.heap.size] w8 W → ∀ S0 : List Nat, (∀ q ∈ S0, q < w.heap.size) → y.Li W S0) := Lib.hid (fun W hW S0 h0 => by rw [hy]; exact ⟨(HXI.out W S0).cm, (HXI.out W S0).st, (HXI.out W S0).ce, (HXI.out W S0).ak, (HXI.out W S0).pr, (HXI.out W S0).po, HVK.out, (HXI.out W S0).en, (HXI.out W S0).op, (HXI.out W S0).dn, (HXI.out W S0).de⟩)
     obtain ⟨y0, hy0⟩ : ∃ y0 : Cmg, y0 = {x.con with vt := (pVt z).1} := ⟨_, rfl⟩
     obtain ⟨s6, hs6⟩ : ∃ s6 : Ps, s6 = (pVt z).2 := ⟨_, rfl⟩
     have HPU := Lib.hid (HPZ.out y0 s6 (by rw [pM_8 _ (show x.con.q = 8 from HXQ.out), hy0, hs6]))
     have HYC : Hid (s6.2 = false → y.con = y0) := Lib.hid (fun hb => by rw [hy, hy0, HVE.out]; rfl)
     have HR8 : Hid (Qs w8 F g s6) := Lib.hid (by rw [hs6]; exact HR8.out)
     rw [← hy] at HB8
     clear hy hy0 hs6
     subst hwE
     go_wp2_with (refine wpList_store_mid rfl 49 _ _ rfl gm 174 V.toArray rfl rfl HTH.out HSZ.out HONE.out ?_)
     go_meet
     exact ⟨y, y0, s6, HB8, HR8, HF9, HYL, HYI, HPU, HYC⟩
  · as_aux_lemma =>
     have HXQ := Lib.hid h
     have n1 : (x.q == (1 : Int)) = false := by rw [h]; rfl
     have n2 : (x.q == (2 : Int)) = false := by rw [h]; rfl
     have n3 : (x.q == (3 : Int)) = false := by rw [h]; rfl
     have n4 : (x.q == (4 : Int)) = false := by rw [h]; rfl
     have n5 : (x.q == (5 : Int)) = false := by rw [h]; rfl
     have n6 : (x.q == (6 : Int)) = false := by rw [h]; rfl
     have n7 : (x.q == (7 : Int)) = false := by rw [h]; rfl
     have n8 : (x.q == (8 : Int)) = false := by rw [h]; rfl
     have n9 : (x.q == (9 : Int)) = true := by rw [h]; rfl
     clear h
     have HSI : Hid ((Tryz.prog.info? 3).map (·.size) = some 1) := Lib.hid (by kernel_rfl)
     have HSU : Hid ((Tryz.prog.info? 30).map (·.size) = some 1) := Lib.hid (by kernel_rfl)
     have HSS : Hid ((Tryz.prog.info? 9).map (·.size) = some 1) := Lib.hid (by kernel_rfl)
     have HLT : Hid (∀ y : Wmg, y.Len → ∀ k < 295, k < y.cells.toArray.size) := Lib.hid (fun y hy k hk => by rw [List.size_toArray, Wmg.lenz hy]; exact hk)
     go_wp2_with fail
     refine (qInt_any HR5.out).mono ?_
     rintro e_ w7 ⟨rfl, h1, h2⟩
     have HRzw7 := Lib.hid h1
     have HFzw7 : Hid (Fr [g, gm] w6 w7) := Lib.hid (h2.mono (fun q hq _ => by simp at hq; simp [hq]))
     have HBzw7 := Lib.hid (HB5.out.keep h2 (by have := HGM.out; simp; omega))
     clear h1 h2
     obtain ⟨v, hv⟩ : ∃ v, v = (pI z).1 := ⟨_, rfl⟩
     rw [← hv]
     have HVE := Lib.hid hv
     have HBI := Lib.hid (Wmg.blk_i HXL.out v HBzw7.out)
     have HFI : Hid (Fr [gm] w7 (w7.setCells gm 212 [.int .i64 v])) := Lib.hid (Fr.setCells (fun _ => by simp) [.int .i64 v] 212 _ (Fr.refl _ _))
     clear hv
     go_wp2_with (refine wpList_store_at rfl 3 _ _ rfl gm 212 (.int .i64 v) rfl rfl rfl 61 _ HBzw7.out (HLT.out _ HXL.out 212 (by omega)) HSI.out ?_)
     change Calls _ _ _ (w7.setCells gm 212 [.int .i64 v]) _
     generalize w7.setCells gm 212 [.int .i64 v] = w8 at *
     have HR8 := Lib.hid (HRzw7.out.fr HFI.out (by have := HGM.out; simp; omega) (fun k hk hm => by have := HNF.out k hk; have := HGM.out; simp at hm; omega))
     have HF9 : Hid (Fr [g, gm] w6 w8) := Lib.hid (HFzw7.out.trans (HFI.out.mono (T := [g, gm]) (fun q hq _ => by simp at hq; simp [hq])) (fun q hq _ => hq))
     obtain ⟨x1, hx1⟩ : ∃ x1 : Wmg, x1 = {x with i := v} := ⟨_, rfl⟩
     have HX1L : Hid x1.Len := Lib.hid (by rw [hx1]; exact ⟨HXL.out.cm, HXL.out.st, HXL.out.ce, HXL.out.ak, HXL.out.vt, HXL.out.en, HXL.out.op⟩)
     rw [← hx1] at HBI
     have HX1 := Lib.hid hx1
     clear hx1
     go_wp2_with fail
     refine (qName_any HR8.out).mono ?_
     rintro e_ w9 ⟨rfl, h1, h2⟩
     have HRzw9 := Lib.hid h1
     have HFzw9 : Hid (Fr [g, gm] w6 w9) := Lib.hid (HF9.out.trans (h2.mono (T := [g, gm]) (fun q hq _ => by simp at hq; simp [hq])) (fun q hq _ => hq))
     have HBzw9 := Lib.hid (HBI.out.keep h2 (by have := HGM.out; simp; omega))
     clear h1 h2
     go_wp2_with fail
     refine (qHash_any HRzw9.out).mono ?_
     rintro e_ w10 ⟨rfl, h1, h2⟩
     have HRzw10 := Lib.hid h1
     have HFzw10 : Hid (Fr [g, gm] w6 w10) := Lib.hid (HFzw9.out.trans (h2.mono (T := [g, gm]) (fun q hq _ => by simp at hq; simp [hq])) (fun q hq _ => hq))
     have HBzw10 := Lib.hid (HBzw9.out.keep h2 (by have := HGM.out; simp; omega))
     clear h1 h2
     go_wp2_with fail
     refine (qNum_any HRzw10.out).mono ?_
     rintro e_ w11 ⟨rfl, h1, h2⟩
     have HRzw11 := Lib.hid h1
     have HFzw11 : Hid (Fr [g, gm] w6 w11) := Lib.hid (HFzw10.out.trans (h2.mono (T := [g, gm]) (fun q hq _ => by simp at hq; simp [hq])) (fun q hq _ => hq))
     have HBzw11 := Lib.hid (HBzw10.out.keep h2 (by have := HGM.out; simp; omega))
     clear h1 h2
     obtain ⟨u, hu⟩ : ∃ u, u = (pEn (pI z).2).1 := ⟨_, rfl⟩
     have HUK : Hid u.Ok := Lib.hid (by rw [hu]; exact pEn_ok _)
     have HBU2 : Hid (Tryz.prog.built 51 [(0, .agg #[.int .i64 (p2 (pI z).2).1.1, .int .i64 (p2 (pI z).2).1.2]), (1, .agg ((pH (p2 (pI z).2).2).1.map by8).toArray), (2, .int .u64 ((pN (pH (p2 (pI z).2).2).2).1 : Int))] = some u.cells.toArray) := Lib.hid (by rw [hu]; exact built_enR _ _ _ _ (pEn_ok _).h)
     have HUE := Lib.hid hu
     clear hu
     have HVL : Hid (u.cells.length = 35) := Lib.hid (Wen.len HUK.out.h)
     have HONE : Hid ((u.cells).toArray.all (·.oneCell') = true) := Lib.hid (all_oneCell_toArray (Wen.one u))
     have HB8 : Hid (Blk (w11.setCells gm 213 (u.cells)) gm 61 ({x1 with en := u} : Wmg).cells.toArray) := Lib.hid (Wmg.blk_en HX1L.out u HVL.out HBzw11.out)
     have HBS : Hid ((x1).cells.toArray.size = 295) := Lib.hid (by rw [List.size_toArray]; exact Wmg.lenz HX1L.out)
     have HTH : Hid (w11.there gm 213 (u.cells).toArray.size) := Lib.hid (HBzw11.out.thereM _ _ (by rw [List.size_toArray, HVL.out, HBS.out]; omega))
     have HSZ : Hid ((Tryz.prog.info? 51).map (·.size) = some (u.cells).toArray.size) := Lib.hid (by rw [List.size_toArray, HVL.out]; kernel_rfl)
     have HF8 : Hid (Fr [gm] w11 (w11.setCells gm 213 (u.cells))) := Lib.hid (Fr.setCells (fun _ => by simp) (u.cells) 213 w11 (Fr.refl _ _))
     obtain ⟨V, hV⟩ : ∃ V : List Value, V = u.cells := ⟨_, rfl⟩
     rw [← hV] at HVL HONE HTH HSZ HF8 HB8 HBU2
     clear hV
     generalize hwE : w11.setCells gm 213 V = w12 at *
     have HR9 := Lib.hid (HRzw11.out.fr HF8.out (by have := HGM.out; simp; omega) (fun k hk hm => by have := HNF.out k hk; have := HGM.out; simp at hm; omega))
     have HF10 : Hid (Fr [g, gm] w6 w12) := Lib.hid (HFzw11.out.trans (HF8.out.mono (T := [g, gm]) (fun q hq _ => by simp at hq; simp [hq])) (fun q hq _ => hq))
     rw [HX1.out] at HB8
     obtain ⟨y, hy⟩ : ∃ y : Wmg, y = {x with i := v, en := u} := ⟨_, rfl⟩
     have HYL : Hid y.Len := Lib.hid (by rw [hy]; exact ⟨HXL.out.cm, HXL.out.st, HXL.out.ce, HXL.out.ak, HXL.out.vt, HUK.out.h, HXL.out.op⟩)
     have HYI : Hid (∀ W, Fr [g, gm, w.heap.size] w12 W → ∀ S0 : List Nat, (∀ q ∈ S0, q < w.heap.size) → y.Li W S0) := Lib.hid (fun W hW S0 h0 => by rw [hy]; exact ⟨(HXI.out W S0).cm, (HXI.out W S0).st, (HXI.out W S0).ce, (HXI.out W S0).ak, (HXI.out W S0).pr, (HXI.out W S0).po, (HXI.out W S0).vt, HUK.out, (HXI.out W S0).op, (HXI.out W S0).dn, (HXI.out W S0).de⟩)
     obtain ⟨y0, hy0⟩ : ∃ y0 : Cmg, y0 = {x.con with i := (pI z).1, en := (pEn (pI z).2).1} := ⟨_, rfl⟩
     obtain ⟨s6, hs6⟩ : ∃ s6 : Ps, s6 = (pEn (pI z).2).2 := ⟨_, rfl⟩
     have HPU := Lib.hid (HPZ.out y0 s6 (by rw [pM_9 _ (show x.con.q = 9 from HXQ.out), hy0, hs6]))
     have HYC : Hid (s6.2 = false → y.con = y0) := Lib.hid (fun hb => by rw [hy, hy0, HVE.out, HUE.out]; rfl)
     have HR9 : Hid (Qs w12 F g s6) := Lib.hid (by rw [hs6]; exact HR9.out)
     rw [← hy] at HB8
     clear hy hy0 hs6
     subst hwE
     go_wp2_with (first
      | (refine wpList_builtg rfl 51 _ rfl _ _ HBU2.out rfl ?_)
      | (refine wpList_store_mid rfl 51 _ _ rfl gm 213 V.toArray rfl rfl HTH.out HSZ.out HONE.out ?_))
     go_meet
     exact ⟨y, y0, s6, HB8, HR9, HF10, HYL, HYI, HPU, HYC⟩
  · as_aux_lemma =>
     have HXQ := Lib.hid h
     have n1 : (x.q == (1 : Int)) = false := by rw [h]; rfl
     have n2 : (x.q == (2 : Int)) = false := by rw [h]; rfl
     have n3 : (x.q == (3 : Int)) = false := by rw [h]; rfl
     have n4 : (x.q == (4 : Int)) = false := by rw [h]; rfl
     have n5 : (x.q == (5 : Int)) = false := by rw [h]; rfl
     have n6 : (x.q == (6 : Int)) = false := by rw [h]; rfl
     have n7 : (x.q == (7 : Int)) = false := by rw [h]; rfl
     have n8 : (x.q == (8 : Int)) = false := by rw [h]; rfl
     have n9 : (x.q == (9 : Int)) = false := by rw [h]; rfl
     have n10 : (x.q == (10 : Int)) = true := by rw [h]; rfl
     clear h
     go_wp2_with fail
     refine (qOpeningI_any _ F g _ HR5.out).mono ?_
     rintro e_ w7 ⟨v, rfl, hc, hok, h1, h2⟩
     have HRzw7 := Lib.hid h1
     have HFzw7 : Hid (Fr [g, gm] w6 w7) := Lib.hid (h2.mono (fun q hq _ => by simp at hq; simp [hq]))
     have HCv := Lib.hid hc
     have HOv : Hid (∀ W, Fr [g, gm, w.heap.size] w7 W → ∀ S0 : List Nat, (∀ q ∈ S0, q < w.heap.size) → v.Ok W S0) := Lib.hid (fun W hW S0 h0 => (hok (g :: gm :: w.heap.size :: S0) (fun q hq => by
      have h3 := HG.out; have h4 := HGM.out; have h5 : w6.heap.size ≤ w6.heap.size := Nat.le_refl _
      rcases List.mem_cons.1 hq with rfl | hq
      · omega
      · rcases List.mem_cons.1 hq with rfl | hq
        · omega
        · rcases List.mem_cons.1 hq with rfl | hq
          · omega
          · have := h0 q hq; omega)).keep (hW.mono (fun k hk _ => by simp at hk; simp; omega)) (fun k hk _ => by simp [hk]))
     clear hc hok
     have HBzw7 := Lib.hid (HB5.out.keep h2 (by have := HGM.out; simp; omega))
     clear h1 h2
     have HVLi := Lib.hid (HOv.out w7 (Fr.refl _ _) [] (by simp))
     have HVL : Hid (v.cells.length = 34) := Lib.hid (Wop.len HVLi.out.h)
     have HONE : Hid ((v.cells).toArray.all (·.oneCell') = true) := Lib.hid (all_oneCell_toArray (Wop.one v))
     have HB8 : Hid (Blk (w7.setCells gm 248 (v.cells)) gm 61 ({x with op := v} : Wmg).cells.toArray) := Lib.hid (Wmg.blk_op HXL.out v HVL.out HBzw7.out)
     have HBS : Hid ((x).cells.toArray.size = 295) := Lib.hid (by rw [List.size_toArray]; exact Wmg.lenz HXL.out)
     have HTH : Hid (w7.there gm 248 (v.cells).toArray.size) := Lib.hid (HBzw7.out.thereM _ _ (by rw [List.size_toArray, HVL.out, HBS.out]; omega))
     have HSZ : Hid ((Tryz.prog.info? 54).map (·.size) = some (v.cells).toArray.size) := Lib.hid (by rw [List.size_toArray, HVL.out]; kernel_rfl)
     have HF8 : Hid (Fr [gm] w7 (w7.setCells gm 248 (v.cells))) := Lib.hid (Fr.setCells (fun _ => by simp) (v.cells) 248 w7 (Fr.refl _ _))
     obtain ⟨V, hV⟩ : ∃ V : List Value, V = v.cells := ⟨_, rfl⟩
     rw [← hV] at HVL HONE HTH HSZ HF8 HB8 ⊢
     clear hV
     generalize hwE : w7.setCells gm 248 V = w8 at *
     have HR8 := Lib.hid (HRzw7.out.fr HF8.out (by have := HGM.out; simp; omega) (fun k hk hm => by have := HNF.out k hk; have := HGM.out; simp at hm; omega))
     have HF9 : Hid (Fr [g, gm] w6 w8) := Lib.hid (HFzw7.out.trans (HF8.out.mono (T := [g, gm]) (fun q hq _ => by simp at hq; simp [hq])) (fun q hq _ => hq))
     obtain ⟨y, hy⟩ : ∃ y : Wmg, y = {x with op := v} := ⟨_, rfl⟩
     have HYL : Hid y.Len := Lib.hid (by rw [hy]; exact ⟨HXL.out.cm, HXL.out.st, HXL.out.ce, HXL.out.ak, HXL.out.vt, HXL.out.en, HVLi.out.h⟩)
     have HYI : Hid (∀ W, Fr [g, gm, w.heap.size] w8 W → ∀ S0 : List Nat, (∀ q ∈ S0, q < w.heap.size) → y.Li W S0) := Lib.hid (fun W hW S0 h0 => by rw [hy]; exact ⟨(HXI.out W S0).cm, (HXI.out W S0).st, (HXI.out W S0).ce, (HXI.out W S0).ak, (HXI.out W S0).pr, (HXI.out W S0).po, (HXI.out W S0).vt, (HXI.out W S0).en, HOv.out W ((HF8.out.mono (T := [g, gm, w.heap.size]) (fun q hq _ => by simp at hq; simp [hq])).trans hW (fun q hq _ => hq)) S0 h0, (HXI.out W S0).dn, (HXI.out W S0).de⟩)
     obtain ⟨y0, hy0⟩ : ∃ y0 : Cmg, y0 = {x.con with op := (pOp z).1} := ⟨_, rfl⟩
     obtain ⟨s6, hs6⟩ : ∃ s6 : Ps, s6 = (pOp z).2 := ⟨_, rfl⟩
     have HPU := Lib.hid (HPZ.out y0 s6 (by rw [pM_10 _ (show x.con.q = 10 from HXQ.out), hy0, hs6]))
     have HYC : Hid (s6.2 = false → y.con = y0) := Lib.hid (fun hb => by rw [hs6] at hb; rw [hy, hy0, ← HCv.out hb]; rfl)
     have HR8 : Hid (Qs w8 F g s6) := Lib.hid (by rw [hs6]; exact HR8.out)
     rw [← hy] at HB8
     clear hy hy0 hs6
     subst hwE
     go_wp2_with (first
      | (refine wpList_store_mid rfl 54 _ _ rfl gm 248 V.toArray rfl rfl HTH.out HSZ.out HONE.out ?_))
     go_meet
     exact ⟨y, y0, s6, HB8, HR8, HF9, HYL, HYI, HPU, HYC⟩
  · as_aux_lemma =>
     have HXQ := Lib.hid h
     have n1 : (x.q == (1 : Int)) = false := by rw [h]; rfl
     have n2 : (x.q == (2 : Int)) = false := by rw [h]; rfl
     have n3 : (x.q == (3 : Int)) = false := by rw [h]; rfl
     have n4 : (x.q == (4 : Int)) = false := by rw [h]; rfl
     have n5 : (x.q == (5 : Int)) = false := by rw [h]; rfl
     have n6 : (x.q == (6 : Int)) = false := by rw [h]; rfl
     have n7 : (x.q == (7 : Int)) = false := by rw [h]; rfl
     have n8 : (x.q == (8 : Int)) = false := by rw [h]; rfl
     have n9 : (x.q == (9 : Int)) = false := by rw [h]; rfl
     have n10 : (x.q == (10 : Int)) = false := by rw [h]; rfl
     have n11 : (x.q == (11 : Int)) = true := by rw [h]; rfl
     clear h
     have HSI : Hid ((Tryz.prog.info? 3).map (·.size) = some 1) := Lib.hid (by kernel_rfl)
     have HSU : Hid ((Tryz.prog.info? 30).map (·.size) = some 1) := Lib.hid (by kernel_rfl)
     have HSS : Hid ((Tryz.prog.info? 9).map (·.size) = some 1) := Lib.hid (by kernel_rfl)
     have HLT : Hid (∀ y : Wmg, y.Len → ∀ k < 295, k < y.cells.toArray.size) := Lib.hid (fun y hy k hk => by rw [List.size_toArray, Wmg.lenz hy]; exact hk)
     go_wp2_with fail
     refine (qInt_any HR5.out).mono ?_
     rintro e_ w7 ⟨rfl, h1, h2⟩
     have HRzw7 := Lib.hid h1
     have HFzw7 : Hid (Fr [g, gm] w6 w7) := Lib.hid (h2.mono (fun q hq _ => by simp at hq; simp [hq]))
     have HBzw7 := Lib.hid (HB5.out.keep h2 (by have := HGM.out; simp; omega))
     clear h1 h2
     obtain ⟨v, hv⟩ : ∃ v, v = (pI z).1 := ⟨_, rfl⟩
     rw [← hv]
     have HVE := Lib.hid hv
     have HBI := Lib.hid (Wmg.blk_i HXL.out v HBzw7.out)
     have HFI : Hid (Fr [gm] w7 (w7.setCells gm 212 [.int .i64 v])) := Lib.hid (Fr.setCells (fun _ => by simp) [.int .i64 v] 212 _ (Fr.refl _ _))
     clear hv
     generalize hwE : w7.setCells gm 212 [.int .i64 v] = w8 at *
     have HR8 := Lib.hid (HRzw7.out.fr HFI.out (by have := HGM.out; simp; omega) (fun k hk hm => by have := HNF.out k hk; have := HGM.out; simp at hm; omega))
     have HF9 : Hid (Fr [g, gm] w6 w8) := Lib.hid (HFzw7.out.trans (HFI.out.mono (T := [g, gm]) (fun q hq _ => by simp at hq; simp [hq])) (fun q hq _ => hq))
     obtain ⟨y, hy⟩ : ∃ y : Wmg, y = {x with i := v} := ⟨_, rfl⟩
     have HYL : Hid y.Len := Lib.hid (by rw [hy]; exact ⟨HXL.out.cm, HXL.out.st, HXL.out.ce, HXL.out.ak, HXL.out.vt, HXL.out.en, HXL.out.op⟩)
     have HYI : Hid (∀ W, Fr [g, gm, w.heap.size] w8 W → ∀ S0 : List Nat, (∀ q ∈ S0, q < w.heap.size) → y.Li W S0) := Lib.hid (fun W hW S0 h0 => by rw [hy]; exact ⟨(HXI.out W S0).cm, (HXI.out W S0).st, (HXI.out W S0).ce, (HXI.out W S0).ak, (HXI.out W S0).pr, (HXI.out W S0).po, (HXI.out W S0).vt, (HXI.out W S0).en, (HXI.out W S0).op, (HXI.out W S0).dn, (HXI.out W S0).de⟩)
     obtain ⟨y0, hy0⟩ : ∃ y0 : Cmg, y0 = {x.con with i := (pI z).1} := ⟨_, rfl⟩
     obtain ⟨s6, hs6⟩ : ∃ s6 : Ps, s6 = (pI z).2 := ⟨_, rfl⟩
     have HPU := Lib.hid (HPZ.out y0 s6 (by rw [pM_11 _ (show x.con.q = 11 from HXQ.out), hy0, hs6]))
     have HYC : Hid (s6.2 = false → y.con = y0) := Lib.hid (fun hb => by rw [hy, hy0, HVE.out]; rfl)
     have HR8 : Hid (Qs w8 F g s6) := Lib.hid (by rw [hs6]; exact HR8.out)
     rw [← hy] at HBI
     clear hy hy0 hs6
     subst hwE
     go_wp2_with (refine wpList_store_at rfl 3 _ _ rfl gm 212 (.int .i64 v) rfl rfl rfl 61 _ HBzw7.out (HLT.out _ HXL.out 212 (by omega)) HSI.out ?_)
     go_meet
     exact ⟨y, y0, s6, HBI, HR8, HF9, HYL, HYI, HPU, HYC⟩
  · as_aux_lemma =>
     have HXQ := Lib.hid h
     have n1 : (x.q == (1 : Int)) = false := by rw [h]; rfl
     have n2 : (x.q == (2 : Int)) = false := by rw [h]; rfl
     have n3 : (x.q == (3 : Int)) = false := by rw [h]; rfl
     have n4 : (x.q == (4 : Int)) = false := by rw [h]; rfl
     have n5 : (x.q == (5 : Int)) = false := by rw [h]; rfl
     have n6 : (x.q == (6 : Int)) = false := by rw [h]; rfl
     have n7 : (x.q == (7 : Int)) = false := by rw [h]; rfl
     have n8 : (x.q == (8 : Int)) = false := by rw [h]; rfl
     have n9 : (x.q == (9 : Int)) = false := by rw [h]; rfl
     have n10 : (x.q == (10 : Int)) = false := by rw [h]; rfl
     have n11 : (x.q == (11 : Int)) = false := by rw [h]; rfl
     have n12 : (x.q == (12 : Int)) = true := by rw [h]; rfl
     clear h
     go_wp2_with fail
     refine (qDeny_any HR5.out).mono ?_
     rintro e_ w7 ⟨rfl, h1, h2⟩
     have HRzw7 := Lib.hid h1
     have HFzw7 : Hid (Fr [g, gm] w6 w7) := Lib.hid (h2.mono (fun q hq _ => by simp at hq; simp [hq]))
     have HBzw7 := Lib.hid (HB5.out.keep h2 (by have := HGM.out; simp; omega))
     clear h1 h2
     obtain ⟨v, hv⟩ : ∃ v, v = (pDn z).1 := ⟨_, rfl⟩
     have HVK : Hid v.Ok := Lib.hid (by rw [hv]; exact pDn_ok _)
     rw [← hv]
     have HVE := Lib.hid hv
     have HVL : Hid (v.cells.length = 4) := Lib.hid (rfl)
     have HONE : Hid (v.cells.toArray.all (·.oneCell') = true) := Lib.hid (all_oneCell_toArray (Wdn.one v))
     have HB8 : Hid (Blk (w7.setCells gm 282 v.cells) gm 61 ({x with dn := v} : Wmg).cells.toArray) := Lib.hid (Wmg.blk_dn HXL.out v HVL.out HBzw7.out)
     have HBS : Hid (x.cells.toArray.size = 295) := Lib.hid (by rw [List.size_toArray]; exact Wmg.lenz HXL.out)
     have HTH : Hid (w7.there gm 282 v.cells.toArray.size) := Lib.hid (HBzw7.out.thereM _ _ (by rw [List.size_toArray, HVL.out, HBS.out]; omega))
     have HSZ : Hid ((Tryz.prog.info? 56).map (·.size) = some v.cells.toArray.size) := Lib.hid (by rw [List.size_toArray, HVL.out]; kernel_rfl)
     have HF8 : Hid (Fr [gm] w7 (w7.setCells gm 282 v.cells)) := Lib.hid (Fr.setCells (fun _ => by simp) v.cells 282 w7 (Fr.refl _ _))
     clear hv
     obtain ⟨V, hV⟩ : ∃ V : List Value, V = v.cells := ⟨_, rfl⟩
     rw [← hV] at HVL HONE HTH HSZ HF8 HB8 ⊢
     clear hV
     generalize hwE : w7.setCells gm 282 V = w8 at *
     have HR8 := Lib.hid (HRzw7.out.fr HF8.out (by have := HGM.out; simp; omega) (fun k hk hm => by have := HNF.out k hk; have := HGM.out; simp at hm; omega))
     have HF9 : Hid (Fr [g, gm] w6 w8) := Lib.hid (HFzw7.out.trans (HF8.out.mono (T := [g, gm]) (fun q hq _ => by simp at hq; simp [hq])) (fun q hq _ => hq))
     obtain ⟨y, hy⟩ : ∃ y : Wmg, y = {x with dn := v} := ⟨_, rfl⟩
     have HYL : Hid y.Len := Lib.hid (by rw [hy]; exact ⟨HXL.out.cm, HXL.out.st, HXL.out.ce, HXL.out.ak, HXL.out.vt, HXL.out.en, HXL.out.op⟩)
     have HYI : Hid (∀ W, Fr [g, gm, w.heap.size] w8 W → ∀ S0 : List Nat, (∀ q ∈ S0, q < w.heap.size) → y.Li W S0) := Lib.hid (fun W hW S0 h0 => by rw [hy]; exact ⟨(HXI.out W S0).cm, (HXI.out W S0).st, (HXI.out W S0).ce, (HXI.out W S0).ak, (HXI.out W S0).pr, (HXI.out W S0).po, (HXI.out W S0).vt, (HXI.out W S0).en, (HXI.out W S0).op, HVK.out, (HXI.out W S0).de⟩)
     obtain ⟨y0, hy0⟩ : ∃ y0 : Cmg, y0 = {x.con with dn := (pDn z).1} := ⟨_, rfl⟩
     obtain ⟨s6, hs6⟩ : ∃ s6 : Ps, s6 = (pDn z).2 := ⟨_, rfl⟩
     have HPU := Lib.hid (HPZ.out y0 s6 (by rw [pM_12 _ (show x.con.q = 12 from HXQ.out), hy0, hs6]))
     have HYC : Hid (s6.2 = false → y.con = y0) := Lib.hid (fun hb => by rw [hy, hy0, HVE.out]; rfl)
     have HR8 : Hid (Qs w8 F g s6) := Lib.hid (by rw [hs6]; exact HR8.out)
     rw [← hy] at HB8
     clear hy hy0 hs6
     subst hwE
     go_wp2_with (refine wpList_store_mid rfl 56 _ _ rfl gm 282 V.toArray rfl rfl HTH.out HSZ.out HONE.out ?_)
     go_meet
     exact ⟨y, y0, s6, HB8, HR8, HF9, HYL, HYI, HPU, HYC⟩
  · as_aux_lemma =>
     have HXQ := Lib.hid h
     have n1 : (x.q == (1 : Int)) = false := by rw [h]; rfl
     have n2 : (x.q == (2 : Int)) = false := by rw [h]; rfl
     have n3 : (x.q == (3 : Int)) = false := by rw [h]; rfl
     have n4 : (x.q == (4 : Int)) = false := by rw [h]; rfl
     have n5 : (x.q == (5 : Int)) = false := by rw [h]; rfl
     have n6 : (x.q == (6 : Int)) = false := by rw [h]; rfl
     have n7 : (x.q == (7 : Int)) = false := by rw [h]; rfl
     have n8 : (x.q == (8 : Int)) = false := by rw [h]; rfl
     have n9 : (x.q == (9 : Int)) = false := by rw [h]; rfl
     have n10 : (x.q == (10 : Int)) = false := by rw [h]; rfl
     have n11 : (x.q == (11 : Int)) = false := by rw [h]; rfl
     have n12 : (x.q == (12 : Int)) = false := by rw [h]; rfl
     have n13 : (x.q == (13 : Int)) = true := by rw [h]; rfl
     clear h
     have HSI : Hid ((Tryz.prog.info? 3).map (·.size) = some 1) := Lib.hid (by kernel_rfl)
     have HSU : Hid ((Tryz.prog.info? 30).map (·.size) = some 1) := Lib.hid (by kernel_rfl)
     have HSS : Hid ((Tryz.prog.info? 9).map (·.size) = some 1) := Lib.hid (by kernel_rfl)
     have HLT : Hid (∀ y : Wmg, y.Len → ∀ k < 295, k < y.cells.toArray.size) := Lib.hid (fun y hy k hk => by rw [List.size_toArray, Wmg.lenz hy]; exact hk)
     go_wp2_with fail
     refine (qInt_any HR5.out).mono ?_
     rintro e_ w7 ⟨rfl, h1, h2⟩
     have HRzw7 := Lib.hid h1
     have HFzw7 : Hid (Fr [g, gm] w6 w7) := Lib.hid (h2.mono (fun q hq _ => by simp at hq; simp [hq]))
     have HBzw7 := Lib.hid (HB5.out.keep h2 (by have := HGM.out; simp; omega))
     clear h1 h2
     obtain ⟨v, hv⟩ : ∃ v, v = (pI z).1 := ⟨_, rfl⟩
     rw [← hv]
     have HVE := Lib.hid hv
     have HBI := Lib.hid (Wmg.blk_i HXL.out v HBzw7.out)
     have HFI : Hid (Fr [gm] w7 (w7.setCells gm 212 [.int .i64 v])) := Lib.hid (Fr.setCells (fun _ => by simp) [.int .i64 v] 212 _ (Fr.refl _ _))
     clear hv
     go_wp2_with (refine wpList_store_at rfl 3 _ _ rfl gm 212 (.int .i64 v) rfl rfl rfl 61 _ HBzw7.out (HLT.out _ HXL.out 212 (by omega)) HSI.out ?_)
     change Calls _ _ _ (w7.setCells gm 212 [.int .i64 v]) _
     generalize w7.setCells gm 212 [.int .i64 v] = w8 at *
     have HR8 := Lib.hid (HRzw7.out.fr HFI.out (by have := HGM.out; simp; omega) (fun k hk hm => by have := HNF.out k hk; have := HGM.out; simp at hm; omega))
     have HF9 : Hid (Fr [g, gm] w6 w8) := Lib.hid (HFzw7.out.trans (HFI.out.mono (T := [g, gm]) (fun q hq _ => by simp at hq; simp [hq])) (fun q hq _ => hq))
     obtain ⟨x1, hx1⟩ : ∃ x1 : Wmg, x1 = {x with i := v} := ⟨_, rfl⟩
     have HX1L : Hid x1.Len := Lib.hid (by rw [hx1]; exact ⟨HXL.out.cm, HXL.out.st, HXL.out.ce, HXL.out.ak, HXL.out.vt, HXL.out.en, HXL.out.op⟩)
     rw [← hx1] at HBI
     have HX1 := Lib.hid hx1
     clear hx1
     go_wp2_with fail
     refine (qRow_any HR8.out).mono ?_
     rintro e_ w9 ⟨A9, c9, rfl, hy9, hbk, hlc, h1, h2⟩
     have hconv := conv_back (c := c9) hy9
     clear hy9 hbk hlc
     have HRzw9 := Lib.hid h1
     have HFzw9 : Hid (Fr [g, gm] w6 w9) := Lib.hid (HF9.out.trans (h2.mono (T := [g, gm]) (fun q hq _ => by simp at hq; simp [hq])) (fun q hq _ => hq))
     have HBzw9 := Lib.hid (HBI.out.keep h2 (by have := HGM.out; simp; omega))
     clear h1 h2
     have HBP := Lib.hid (Wmg.blk_rp HX1L.out (pR (pI z).2).1 HBzw9.out)
     have HFP : Hid (Fr [gm] w9 (w9.setCells gm 286 [.string ⟨(pR (pI z).2).1.toArray⟩])) := Lib.hid (Fr.setCells (fun _ => by simp) _ 286 _ (Fr.refl _ _))
     generalize hwE : w9.setCells gm 286 [.string ⟨(pR (pI z).2).1.toArray⟩] = w10 at *
     have HR9 := Lib.hid (HRzw9.out.fr HFP.out (by have := HGM.out; simp; omega) (fun k hk hm => by have := HNF.out k hk; have := HGM.out; simp at hm; omega))
     have HF10 : Hid (Fr [g, gm] w6 w10) := Lib.hid (HFzw9.out.trans (HFP.out.mono (T := [g, gm]) (fun q hq _ => by simp at hq; simp [hq])) (fun q hq _ => hq))
     rw [HX1.out] at HBP
     obtain ⟨y, hy⟩ : ∃ y : Wmg, y = {x with i := v, rp := (pR (pI z).2).1} := ⟨_, rfl⟩
     have HYL : Hid y.Len := Lib.hid (by rw [hy]; exact ⟨HXL.out.cm, HXL.out.st, HXL.out.ce, HXL.out.ak, HXL.out.vt, HXL.out.en, HXL.out.op⟩)
     have HYI : Hid (∀ W, Fr [g, gm, w.heap.size] w10 W → ∀ S0 : List Nat, (∀ q ∈ S0, q < w.heap.size) → y.Li W S0) := Lib.hid (fun W hW S0 h0 => by rw [hy]; exact ⟨(HXI.out W S0).cm, (HXI.out W S0).st, (HXI.out W S0).ce, (HXI.out W S0).ak, (HXI.out W S0).pr, (HXI.out W S0).po, (HXI.out W S0).vt, (HXI.out W S0).en, (HXI.out W S0).op, (HXI.out W S0).dn, (HXI.out W S0).de⟩)
     obtain ⟨y0, hy0⟩ : ∃ y0 : Cmg, y0 = {x.con with i := (pI z).1, rp := (pR (pI z).2).1} := ⟨_, rfl⟩
     obtain ⟨s6, hs6⟩ : ∃ s6 : Ps, s6 = (pR (pI z).2).2 := ⟨_, rfl⟩
     have HPU := Lib.hid (HPZ.out y0 s6 (by rw [pM_13 _ (show x.con.q = 13 from HXQ.out), hy0, hs6]))
     have HYC : Hid (s6.2 = false → y.con = y0) := Lib.hid (fun hb => by rw [hy, hy0, HVE.out]; rfl)
     have HR9 : Hid (Qs w10 F g s6) := Lib.hid (by rw [hs6]; exact HR9.out)
     rw [← hy] at HBP
     clear hy hy0 hs6
     subst hwE
     go_wp2_with (refine wpList_store_at rfl 9 _ _ rfl gm 286 (.string ⟨(pR (pI z).2).1.toArray⟩) rfl rfl rfl 61 _ HBzw9.out (HLT.out _ HX1L.out 286 (by omega)) HSS.out ?_)
     go_meet
     exact ⟨y, y0, s6, HBP, HR9, HF10, HYL, HYI, HPU, HYC⟩
  · as_aux_lemma =>
     have HXQ := Lib.hid h
     have n1 : (x.q == (1 : Int)) = false := by rw [h]; rfl
     have n2 : (x.q == (2 : Int)) = false := by rw [h]; rfl
     have n3 : (x.q == (3 : Int)) = false := by rw [h]; rfl
     have n4 : (x.q == (4 : Int)) = false := by rw [h]; rfl
     have n5 : (x.q == (5 : Int)) = false := by rw [h]; rfl
     have n6 : (x.q == (6 : Int)) = false := by rw [h]; rfl
     have n7 : (x.q == (7 : Int)) = false := by rw [h]; rfl
     have n8 : (x.q == (8 : Int)) = false := by rw [h]; rfl
     have n9 : (x.q == (9 : Int)) = false := by rw [h]; rfl
     have n10 : (x.q == (10 : Int)) = false := by rw [h]; rfl
     have n11 : (x.q == (11 : Int)) = false := by rw [h]; rfl
     have n12 : (x.q == (12 : Int)) = false := by rw [h]; rfl
     have n13 : (x.q == (13 : Int)) = false := by rw [h]; rfl
     have n14 : (x.q == (14 : Int)) = true := by rw [h]; rfl
     clear h
     have HSI : Hid ((Tryz.prog.info? 3).map (·.size) = some 1) := Lib.hid (by kernel_rfl)
     have HSU : Hid ((Tryz.prog.info? 30).map (·.size) = some 1) := Lib.hid (by kernel_rfl)
     have HSS : Hid ((Tryz.prog.info? 9).map (·.size) = some 1) := Lib.hid (by kernel_rfl)
     have HLT : Hid (∀ y : Wmg, y.Len → ∀ k < 295, k < y.cells.toArray.size) := Lib.hid (fun y hy k hk => by rw [List.size_toArray, Wmg.lenz hy]; exact hk)
     have HGG := Lib.hid HG.out
     go_wp2_with fail
     refine (qInt_any HR5.out).mono ?_
     rintro e_ w7 ⟨rfl, h1, h2⟩
     have HRzw7 := Lib.hid h1
     have HFzw7 : Hid (Fr [g, gm] w6 w7) := Lib.hid (h2.mono (fun q hq _ => by simp at hq; simp [hq]))
     have HBzw7 := Lib.hid (HB5.out.keep h2 (by have := HGM.out; simp; omega))
     clear h1 h2
     go_wp2_with fail
     refine (qInt_any HRzw7.out).mono ?_
     rintro e_ w8 ⟨rfl, h1, h2⟩
     have HRzw8 := Lib.hid h1
     have HFzw8 : Hid (Fr [g, gm] w6 w8) := Lib.hid (HFzw7.out.trans (h2.mono (T := [g, gm]) (fun q hq _ => by simp at hq; simp [hq])) (fun q hq _ => hq))
     have HBzw8 := Lib.hid (HBzw7.out.keep h2 (by have := HGM.out; simp; omega))
     clear h1 h2
     go_wp2_with fail
     refine (qBatch_any _ F g _ HRzw8.out).mono ?_
     rintro e_ w9 ⟨vb, rfl, hc, hok, h1, h2⟩
     have HRzw9 := Lib.hid h1
     have HFzw9 : Hid (Fr [g, gm] w6 w9) := Lib.hid (HFzw8.out.trans (h2.mono (T := [g, gm]) (fun q hq _ => by simp at hq; simp [hq])) (fun q hq _ => hq))
     have HCvb := Lib.hid hc
     have HOvb : Hid (∀ W, Fr [g, gm, w.heap.size] w9 W → ∀ S0 : List Nat, (∀ q ∈ S0, q < w.heap.size) → vb.Li W S0) := Lib.hid (fun W hW S0 h0 => (hok (g :: gm :: w.heap.size :: S0) (fun q hq => by
      have h3 := HG.out; have h4 := HGM.out; have h5 : w6.heap.size ≤ w8.heap.size := HFzw8.out.size
      rcases List.mem_cons.1 hq with rfl | hq
      · omega
      · rcases List.mem_cons.1 hq with rfl | hq
        · omega
        · rcases List.mem_cons.1 hq with rfl | hq
          · omega
          · have := h0 q hq; omega)).keep (hW.mono (fun k hk _ => by simp at hk; simp; omega)) (fun k hk _ => by simp [hk]))
     clear hc hok
     have HBzw9 := Lib.hid (HBzw8.out.keep h2 (by have := HGM.out; simp; omega))
     clear h1 h2
     obtain ⟨e0, he0⟩ : ∃ e0, e0 = (pI z).1 := ⟨_, rfl⟩
     obtain ⟨r0, hr0⟩ : ∃ r0, r0 = (pI (pI z).2).1 := ⟨_, rfl⟩
     have HE0 : Hid (e0 = (pI z).1 ∧ r0 = (pI (pI z).2).1 ∧ i64In e0 ∧ i64In r0) := Lib.hid ⟨he0, hr0, by rw [he0]; exact pI_in _, by rw [hr0]; exact pI_in _⟩
     rw [← he0, ← hr0]
     clear he0 hr0
     obtain ⟨d0, hd0⟩ : ∃ d0 : Wdc, d0 = ⟨e0, r0, vb, none, 0, 0, []⟩ := ⟨_, rfl⟩
     have HBU2 : Hid (Tryz.prog.built 59 [(0, .int .i64 e0), (1, .int .i64 r0), (2, .agg vb.cells.toArray)] = some d0.cells.toArray) := Lib.hid (by rw [hd0]; exact built_dc3 e0 r0 vb)
     have HDL0 : Hid (d0.cells.length = 8) := Lib.hid (by rw [hd0]; rfl)
     have HVL : Hid (d0.cells.length = 8) := Lib.hid (HDL0.out)
     have HONE : Hid ((d0.cells).toArray.all (·.oneCell') = true) := Lib.hid (all_oneCell_toArray (Wdc.one d0))
     have HB8 : Hid (Blk (w9.setCells gm 287 (d0.cells)) gm 61 ({x with de := d0} : Wmg).cells.toArray) := Lib.hid (Wmg.blk_de HXL.out d0 HVL.out HBzw9.out)
     have HBS : Hid ((x).cells.toArray.size = 295) := Lib.hid (by rw [List.size_toArray]; exact Wmg.lenz HXL.out)
     have HTH : Hid (w9.there gm 287 (d0.cells).toArray.size) := Lib.hid (HBzw9.out.thereM _ _ (by rw [List.size_toArray, HVL.out, HBS.out]; omega))
     have HSZ : Hid ((Tryz.prog.info? 59).map (·.size) = some (d0.cells).toArray.size) := Lib.hid (by rw [List.size_toArray, HVL.out]; kernel_rfl)
     have HF8 : Hid (Fr [gm] w9 (w9.setCells gm 287 (d0.cells))) := Lib.hid (Fr.setCells (fun _ => by simp) (d0.cells) 287 w9 (Fr.refl _ _))
     obtain ⟨V, hV⟩ : ∃ V : List Value, V = d0.cells := ⟨_, rfl⟩
     rw [← hV] at HVL HONE HTH HSZ HF8 HB8 HBU2
     clear hV
     go_upto_region 35 with (first
      | (refine wpList_builtg rfl 59 _ rfl _ _ HBU2.out rfl ?_)
      | (refine wpList_store_mid rfl 59 _ _ rfl gm 287 V.toArray rfl rfl HTH.out HSZ.out HONE.out ?_))
     change Code.wp _ _ _ _ (w9.setCells gm 287 V)
     generalize w9.setCells gm 287 V = w10 at *
     have HR8 := Lib.hid (HRzw9.out.fr HF8.out (by have := HGM.out; simp; omega) (fun k hk hm => by have := HNF.out k hk; have := HGM.out; simp at hm; omega))
     have HF9 : Hid (Fr [g, gm] w6 w10) := Lib.hid (HFzw9.out.trans (HF8.out.mono (T := [g, gm]) (fun q hq _ => by simp at hq; simp [hq])) (fun q hq _ => hq))
     rw [hd0] at HB8
     obtain ⟨zs, hzs⟩ : ∃ zs, zs = (pBa (pI (pI z).2).2).2 := ⟨_, rfl⟩
     rw [← hzs] at HR8
     have HZS := Lib.hid hzs
     clear hd0 hzs
     have HDL : Hid (∀ d : Wdc, Wmg.Len {x with de := d}) := Lib.hid (fun d => ⟨HXL.out.cm, HXL.out.st, HXL.out.ce, HXL.out.ak, HXL.out.vt, HXL.out.en, HXL.out.op⟩)
     have HGX : Hid (w2.heap.size ≤ gm ∧ gm < w10.heap.size) := Lib.hid ⟨HGM.out.2.2.1, HB8.out.lt⟩
     have HFL : Hid (∀ k ∈ F, k < w2.heap.size) := Lib.hid (fun k hk => (HNF.out k hk).2)
     have HG : Hid (g < w2.heap.size) := Lib.hid HGG.out.2
     go_wp2_with fail
     refine (qCount_any HR8.out).mono ?_
     rintro e_ wN ⟨rfl, h1, h2⟩
     have HRn := Lib.hid h1
     have HFn : Hid (Fr [g] w10 wN) := Lib.hid h2
     have HXn := Lib.hid (HB8.out.keep h2 (by have h1 := HGX.out; have h2 := HG.out; simp; omega))
     have HPL : Hid (pL pVt zs = pRep pVt (pC zs).1 (pC zs).2) := Lib.hid rfl
     have hn := pC_le zs
     clear h1 h2
     generalize (pC zs).1 = n at *
     generalize (pC zs).2 = s1 at *
     have HN := Lib.hid hn
     have HSZ : Hid (w2.heap.size ≤ wN.heap.size ∧ gm < wN.heap.size) := Lib.hid (by have h1 := HGX.out; have h2 := HFn.out.size; omega)
     clear hn HR8 HB8
     have HEXIT : Hid (∀ (wx : World) (A4 : Option Addr) (m4 c4 : Nat) (ys : List Wvt), Hid (GQ 49 38 Wvt.cells (fun _ _ v => v.Ok) id wN.heap.size wx A4 m4 c4 ys (pL pVt zs).1 (pL pVt zs).2.2) → Hid (Blk wx gm 61 ({x with de := ⟨e0, r0, vb, A4, m4, c4, ys⟩} : Wmg).cells.toArray) → Hid (Qs wx F g (pL pVt zs).2) → Hid (Fr [g, gm] wN wx) →
       ∃ v : Wdc, Hid (Blk wx gm 61 ({x with de := v} : Wmg).cells.toArray) ∧ Hid (Qs wx F g (pDc z).2) ∧ Hid (Fr [g, gm] w6 wx) ∧ Hid (∀ W, Fr [g, gm, w.heap.size] wx W → ∀ S0 : List Nat, (∀ q ∈ S0, q < w.heap.size) → v.Li W S0) ∧ Hid ((pDc z).2.2 = false → v.con = (pDc z).1)) := Lib.hid (by
      intro wx A4 m4 c4 ys HGQ HXx HQx HFx
      have HF10 : Hid (Fr [g, gm] w6 wN) := Lib.hid (HF9.out.trans (HFn.out.mono (T := [g, gm]) (fun q hq _ => by simp at hq; simp [hq])) (fun q hq _ => hq))
      have HFzx : Hid (Fr [g, gm] w6 wx) := Lib.hid (HF10.out.trans HFx.out (fun q hq _ => hq))
      have HF9x : Hid (Fr [g, gm, w.heap.size] w9 wx) := Lib.hid (((HF8.out.mono (T := [g, gm, w.heap.size]) (fun q hq _ => by simp at hq; simp [hq])).trans (HFn.out.mono (T := [g, gm, w.heap.size]) (fun q hq _ => by simp at hq; simp [hq])) (fun q hq _ => hq)).trans (HFx.out.mono (T := [g, gm, w.heap.size]) (fun q hq _ => by simp at hq ⊢; rcases hq with h | h <;> simp [h])) (fun q hq _ => hq))
      have HVI : Hid (∀ W, Fr [g, gm, w.heap.size] wx W → ∀ S0 : List Nat, (∀ q ∈ S0, q < w.heap.size) → Wdc.Li W S0 ⟨e0, r0, vb, A4, m4, c4, ys⟩) := Lib.hid (fun W hW S0 h0 => by
       have h9 := HGQ.out.keep (fun h _ _ => h) hW (fun q hq => by have h1 := HGX.out; have h2 := HGG.out; have h3 := HSZ.out; simp at hq; omega)
       obtain ⟨l1, l2⟩ := h9.lst (fun _ _ _ h => Wvt.len h.h) (S0 := S0) (fun q hq => by have h1 := h0 q hq; have h2 := HGG.out; have h3 := HSZ.out; omega)
       exact ⟨HE0.out.2.2.1, HE0.out.2.2.2, HOvb.out W (HF9x.out.trans hW (fun q hq _ => hq)) S0 h0, l1, HGQ.out.few, l2⟩)
      have HDC : Hid (pDc z = (⟨(pI z).1, (pI (pI z).2).1, (pBa (pI (pI z).2).2).1, (pL pVt zs).1⟩, (pL pVt zs).2)) := Lib.hid (by rw [HZS.out]; unfold pDc; rfl)
      refine ⟨⟨e0, r0, vb, A4, m4, c4, ys⟩, HXx, ?_, HFzx, HVI, Lib.hid (fun hb => ?_)⟩
      · rw [HDC.out]; exact HQx
      · rw [HDC.out] at hb ⊢
        have h1 := HGQ.out.con hb
        have h3 := pL_badQ pVt_badQ hb
        rw [HZS.out] at h3
        have h2 := HCvb.out h3
        rw [List.map_id] at h1
        unfold Wdc.con
        simp only [h1, h2, HE0.out.1, HE0.out.2.1])
     have HEXJ : Hid (∀ (wx : World) (A4 : Option Addr) (m4 c4 : Nat) (ys : List Wvt), Hid (GQ 49 38 Wvt.cells (fun _ _ v => v.Ok) id wN.heap.size wx A4 m4 c4 ys (pL pVt zs).1 (pL pVt zs).2.2) → Hid (Blk wx gm 61 ({x with de := ⟨e0, r0, vb, A4, m4, c4, ys⟩} : Wmg).cells.toArray) → Hid (Qs wx F g (pL pVt zs).2) → Hid (Fr [g, gm] wN wx) → PkM l F g gm w.heap.size w6 wx) := Lib.hid (by
      intro wx A4 m4 c4 ys h1 h2 h3 h4
      obtain ⟨v, HXx, HQx, HFzx, HVI, HVC⟩ := HEXIT.out wx A4 m4 c4 ys h1 h2 h3 h4
      obtain ⟨y, hy⟩ : ∃ y : Wmg, y = {x with de := v} := ⟨_, rfl⟩
      have HYL : Hid y.Len := Lib.hid (by rw [hy]; exact ⟨HXL.out.cm, HXL.out.st, HXL.out.ce, HXL.out.ak, HXL.out.vt, HXL.out.en, HXL.out.op⟩)
      have HYI : Hid (∀ W, Fr [g, gm, w.heap.size] wx W → ∀ S0 : List Nat, (∀ q ∈ S0, q < w.heap.size) → y.Li W S0) := Lib.hid (fun W hW S0 h0 => by rw [hy]; exact ⟨(HXI.out W S0).cm, (HXI.out W S0).st, (HXI.out W S0).ce, (HXI.out W S0).ak, (HXI.out W S0).pr, (HXI.out W S0).po, (HXI.out W S0).vt, (HXI.out W S0).en, (HXI.out W S0).op, (HXI.out W S0).dn, HVI.out W hW S0 h0⟩)
      obtain ⟨y0, hy0⟩ : ∃ y0 : Cmg, y0 = {x.con with de := (pDc z).1} := ⟨_, rfl⟩
      obtain ⟨s6, hs6⟩ : ∃ s6 : Ps, s6 = (pDc z).2 := ⟨_, rfl⟩
      have HPU := Lib.hid (HPZ.out y0 s6 (by rw [pM_14 _ (show x.con.q = 14 from HXQ.out), hy0, hs6]))
      have HYC : Hid (s6.2 = false → y.con = y0) := Lib.hid (fun hb => by rw [hs6] at hb; rw [hy, hy0, ← HVC.out hb]; rfl)
      have HQx : Hid (Qs wx F g s6) := Lib.hid (by rw [hs6]; exact HQx.out)
      rw [← hy] at HXx
      clear hy hy0 hs6
      exact ⟨y, y0, s6, HXx, HQx, HFzx, HYL, HYI, HPU, HYC⟩)
     go_wp2_with fail
     go_loopw [7] (fun i wr => ∃ (k : Nat) (A : Option Addr) (c : Nat) (ys : List Wvt), k ≤ n ∧ i = .int .i64 k ∧ Hid (GQ 49 38 Wvt.cells (fun _ _ v => v.Ok) id wN.heap.size wr A k c ys (pRep pVt k s1).1 (pRep pVt k s1).2.2) ∧ Hid (Blk wr gm 61 ({x with de := ⟨e0, r0, vb, A, k, c, ys⟩} : Wmg).cells.toArray) ∧ Hid (Qs wr F g (pRep pVt k s1).2) ∧ Hid (Fr [g, gm] wN wr)) (fun i _ => n - (intOf i).toNat)
     case atStart => exact ⟨0, none, 0, [], by omega, rfl, Lib.hid (GQ.nil _), HXn, HRn, Lib.hid (Fr.refl _ _)⟩
     case round =>
      obtain ⟨k, A4, c4, ys, hk, rfl, HQQ, HX, HQ, HF⟩ := hrel
      have hkS : (k : Int) + 1 ≤ 1000 := by have := HN.out; omega
      have hk0 : (0 : Int) ≤ k := by omega
      obtain ⟨R, bd, hst⟩ : ∃ R bd, (pRep pVt k s1).2 = (R, bd) := ⟨_, _, rfl⟩
      have HST := Lib.hid hst
      rw [hst] at HQ HQQ
      by_cases hlt : k < n
      · have HKN : Hid (k ≤ n) := Lib.hid (by omega)
        have HKL : Hid (k < n) := Lib.hid hlt
        obtain ⟨A', n', c', hA', hb', hy', hnc'⟩ := HQ.out.rd
        have hbc := hb'.cell 1
        simp at hbc
        clear hA' hb' hy' hnc' hst
        cases bd
        · have hkn : (k : Int) < n := by omega
          have HXC : Hid (wr.cell? ⟨gm, 294, none⟩ = some (.slice A4 k c4)) := Lib.hid (Wmg.dv_cell (HDL.out _) HX.out)
          have HNS : Hid (¬ gm ∈ g :: bk A4) := Lib.hid (by have h1 := HGX.out; have h2 := HG.out; have h3 := HSZ.out; intro hm; rcases List.mem_cons.1 hm with h | h; omega; have := HQQ.out.new _ h; omega)
          have HPE : Hid (pRep pVt (k + 1) s1 = ((pRep pVt k s1).1 ++ [(pVt (R, false)).1], (pVt (R, false)).2)) := Lib.hid (by
           show ((pRep pVt k s1).1 ++ [(pVt (pRep pVt k s1).2).1], (pVt (pRep pVt k s1).2).2) = _
           rw [HST.out])
          clear hlt
          go_upto_region 39 with (fail)
          clear hbc
          refine wp_region_till 9 (Fr (g :: gm :: bk A4) wr) (Fr (g :: bk A4) wr) (by kernel_rfl) (Fr.drew (Fr.refl _ wr)) (Fr.drew (Fr.refl _ wr)) (fun hA hB => ?_)
          have HWD : Hid (Fr [] wr wr.drew) := Lib.hid (Fr.drew (Fr.refl [] wr))
          have HQd := Lib.hid (HQ.out.fr (Fr.drew (Fr.refl [] wr)) (by simp) (by simp))
          have HQQd := Lib.hid (HQQ.out.keep (fun h _ _ => h) (Fr.drew (Fr.refl [] wr)) (by simp))
          have HSd : Hid (wr.drew.heap.size = wr.heap.size ∧ wN.heap.size ≤ wr.heap.size) := Lib.hid ⟨rfl, HF.out.size⟩
          have HXd := Lib.hid (HX.out.keep (Fr.drew (Fr.refl [] wr)) (by simp))
          have HFd : Hid (Fr [g, gm] wN wr.drew) := Lib.hid (Fr.drew HF.out)
          generalize wr.drew = wd at *
          refine till_run (i := 0) (v := ?_) rfl (by kernel_rfl) (by rfl) (fun _ _ _ h => h) hA hB (fun w1 hw1 => ?_) ?_
          rotate_left 1
          · skip
            go_simp
            try first | with_reducible rfl | apply And.intro <;> rfl
          simp only [xPa, xPb, xPc, xPd, xPe]
          refine till_run (i := 1) (v := ?_) rfl (by kernel_rfl) (by rfl) (fun _ _ _ h => h) hA hB (fun w1 hw1 => ?_) ?_
          rotate_left 1
          · skip
            go_simp
            try first | with_reducible rfl | apply And.intro <;> rfl
          simp only [xPa, xPb, xPc, xPd, xPe]
          refine till_run (i := 2) (v := ?_) rfl (by kernel_rfl) (by rfl) (fun _ _ _ h => h) hA hB (fun w1 hw1 => ?_) ?_
          rotate_left 1
          · skip
            have hcw0 := hw1.cell (HXC.out) (by first | (simp; done) | exact HNS.out)
            go_simp
            try first | with_reducible rfl | apply And.intro <;> rfl
          simp only [xPa, xPb, xPc, xPd, xPe]
          refine till_run (i := 3) (v := ?_) rfl (by kernel_rfl) (by rfl) (fun _ _ _ h => h) hA hB (fun w1 hw1 => ?_) ?_
          rotate_left 1
          · skip
            go_simp
            try first | with_reducible rfl | apply And.intro <;> rfl
          simp only [xPa, xPb, xPc, xPd, xPe]
          refine till_call (i := 4) (f := ?_) (args := ?_) rfl (by kernel_rfl) (by rfl) ?_ ?_
          rotate_left 2
          · go_simp
            try first | with_reducible rfl | apply And.intro <;> rfl
          refine (qVoteI_any wd F g _ HQd.out).mono ?_
          rintro e_ w5 ⟨y, rfl, hyc, hyok, h1, h2⟩
          have HQ5 := Lib.hid h1
          have HF5 : Hid (Fr [g] wd w5) := Lib.hid h2
          have HYC := Lib.hid hyc
          have HYOK := Lib.hid hyok
          refine ⟨_, rfl, ⟨hA.trans h2 (fun x hx _ => by simp at hx; simp [hx]), hB.trans h2 (fun x hx _ => by simp at hx; simp [hx])⟩, fun hB => ?_⟩
          replace hA := hA.trans h2 (fun x hx _ => by simp at hx; simp [hx])
          have HD : Hid ((Wvt.cells y).length = 38) := Lib.hid (Wvt.len (hyok [] (by simp)).h)
          have HD1 : Hid (∀ u ∈ Wvt.cells y, u.oneCell' = true) := Lib.hid (Wvt.one y)
          have HO5 := Lib.hid (own_keep HQQd.out.own h2 (fun q hq hm => by have h1 := HQQd.out.new q ((bk_mem A4 k c4 q).1 hq); have h2 := HG.out; have h3 := HSZ.out; simp at hm; omega))
          have HX5 := Lib.hid (HXd.out.keep h2 (by have h1 := HGX.out; have h2 := HG.out; simp; omega))
          clear h1 h2 hyc hyok
          obtain ⟨D, hD⟩ : ∃ D, Wvt.cells y = D := ⟨_, rfl⟩
          have HDY := Lib.hid hD
          rw [hD] at HD HD1 ⊢
          clear hD
          simp only [xPa, xPb, xPc, xPd, xPe]
          refine till_stepQ (i := 5) rfl (by kernel_rfl) (by rfl) (fun K hK => ?_)
          refine wp_build_one 57 49 _ rfl Tryz.underlying57 D 80 (by rw [HD.out]; exact el_voteM) rfl (by rw [HD.out]; decide) (by rw [HD.out]; decide) ?_
          refine hK.out _ _ (hA.alloc _) (hB.alloc _) (fun hA hB => ?_)
          clear hK K
          simp only [xPa, xPb, xPc, xPd, xPe]
          refine till_stepQ (i := 6) rfl (by kernel_rfl) (by rfl) (fun K hK => ?_)
          refine wp_append_oneq _ _ 57 49 rfl Tryz.underlying57 38 80 el_voteM (by decide) 0 (.slice A4 k c4) k _ D rfl (HO5.out.alloc _) (Nat.zero_le _) HD.out HD1.out w5.heap.size 49 rfl (Blk.new _ _ _) (by have := HKL.out; have := HN.out; omega) (by decide) ?_
          intro A9 c9 w9 ho9 hf9 hb9
          rw [bk_own] at hf9
          have HF9 : Hid (Fr (bk A4) w5 w9) := Lib.hid ((((Fr.refl [] w5).alloc _).mono (by simp)).trans hf9 (fun x hx _ => hx))
          have HB9 : Hid (∀ q ∈ bk A9, q ∈ bk A4 ∨ w5.heap.size ≤ q) := Lib.hid (by
           intro q hq
           rw [← bk_own A9 (k + 1) c9] at hq
           rcases hb9 with h | h
           · rw [h, bk_own] at hq; exact .inl hq
           · rw [h] at hq; simp at hq; exact .inr (by omega))
          have HO9 := Lib.hid ho9
          refine hK.out _ _ (hA.trans hf9 (fun x hx _ => by simp [hx])) (hB.trans hf9 (fun x hx _ => by simp [hx])) (fun hA hB => ?_)
          clear hK K ho9 hf9 hb9
          have HX9 := Lib.hid (HX5.out.keep HF9.out (fun hm => HNS.out (by simp [hm])))
          have HGS := Lib.hid (HQQd.out.step (fun h _ _ => h) (y' := (pVt (R, false)).1) (bad' := (pVt (R, false)).2.2) (by have := HKL.out; have := HN.out; omega) (by have := HSZ.out; have := HG.out; omega) (by have := HSd.out; omega) HF5.out HYOK.out (fun hb => ⟨rfl, HYC.out hb⟩) (by have h := HO9.out; rw [← HDY.out] at h; exact h) HF9.out HB9.out)
          simp only [xPa, xPb, xPc, xPd, xPe]
          refine till_stepQ (i := 7) rfl (by kernel_rfl) (by rfl) (fun K hK => ?_)
          refine wp_run (v := ?_) (w' := ?_) ?_ ?_
          rotate_left 2
          · go_simp
            try first | with_reducible rfl | apply And.intro <;> rfl
          refine hK.out _ _ hA hB (fun hA hB => ?_)
          clear hK K
          simp only [xPa, xPb, xPc, xPd, xPe]
          refine till_stepQ (i := 8) rfl (by kernel_rfl) (by rfl) (fun K hK => ?_)
          refine wp_run (v := ?_) (w' := ?_) ?_ ?_
          rotate_left 2
          · go_simp
            try first | with_reducible rfl | apply And.intro <;> rfl
          refine hK.out _ _ hA hB (fun hA hB => ?_)
          clear hK K
          simp only [xPa, xPb, xPc, xPd, xPe]
          refine till_step (i := 9) rfl (by kernel_rfl) (by kernel_rfl) (by rfl) (fun K hK => ?_)
          refine wp_store_at 57 _ _ rfl gm 294 (.slice A9 (k + 1) c9) rfl rfl rfl 61 _ HX9.out (HLT.out _ (HDL.out _) 294 (by omega)) (by kernel_rfl) ?_
          have hb7 : Blk (w9.setCells gm 294 [.slice A9 (k + 1) c9]) gm 61 ({x with de := ⟨e0, r0, vb, A9, (k + 1), c9, (ys ++ [y])⟩} : Wmg).cells.toArray := Wmg.blk_dev (HDL.out _) A9 (k + 1) c9 (ys ++ [y]) HX9.out
          have HB7 := Lib.hid hb7
          have HF7 : Hid (Fr [gm] w9 (w9.setCells gm 294 [.slice A9 (k + 1) c9])) := Lib.hid (Fr.setCells (fun _ => by simp) _ _ _ (Fr.refl _ _))
          refine hK.out _ _ (hA.trans HF7.out (fun q hq _ => by simp at hq; simp [hq])) (fun hA => ?_)
          clear hK K hb7
          generalize w9.setCells gm 294 [.slice A9 (k + 1) c9] = w10 at *
          simp only [xPa, xPb, xPc, xPd, xPe]
          refine till_done (by kernel_rfl) ?_ _
          have HG10 := Lib.hid (HGS.out.keep (fun h _ _ => h) HF7.out (by intro q hq; simp at hq; subst hq; exact HSZ.out.2))
          have HFF : Hid (Fr [g, gm] wN w10) := Lib.hid (((HFd.out.trans HF5.out (fun x hx _ => by simp at hx; simp [hx])).trans HF9.out (fun x hx hl => by have := HQQd.out.new x hx; omega)).trans HF7.out (fun x hx _ => by simp at hx; simp [hx]))
          have HQ10 := Lib.hid ((HQ5.out.fr HF9.out (fun hm => by have h1 := HQQd.out.new _ hm; have h2 := HG.out; have h3 := HSZ.out; omega) (fun q hq hm => by have h1 := HQQd.out.new q hm; have h2 := HFL.out q hq; have h3 := HSZ.out; omega)).fr HF7.out (by have h1 := HGX.out; have h2 := HG.out; simp; omega) (fun q hq hm => by have h1 := HGX.out; have h2 := HFL.out q hq; simp at hm; omega))
          clear hA
          go_wp2
          go_roundw
          case rel => exact ⟨k + 1, A9, c9, ys ++ [y], by have := HKL.out; omega, by go_num, by rw [HPE.out]; exact HG10, HB7, by rw [HPE.out]; exact HQ10, HFF⟩
          case measure => have := HKL.out; simp [intOf]; omega
        · skip
          have HEND : Hid (pRep pVt n s1 = ((pRep pVt n s1).1, ([], true))) := Lib.hid (by
           have h3 : R = [] := HQ.out.bz rfl
           have h2 := HST.out
           rw [h3] at h2
           have h4 := pRep_stop pVt_stop h2 (n - k)
           rw [show k + (n - k) = n by have := HKL.out; omega] at h4
           rw [← h4])
          have HRE : Hid (R = []) := Lib.hid (HQ.out.bz rfl)
          rw [HRE.out] at HQ
          have HGF : Hid (GQ 49 38 Wvt.cells (fun _ _ v => v.Ok) id wN.heap.size wr A4 k c4 ys (pL pVt zs).1 (pL pVt zs).2.2) := Lib.hid (by rw [HPL.out, HEND.out]; exact HQQ.out.fail)
          have HQF : Hid (Qs wr F g (pL pVt zs).2) := Lib.hid (by rw [HPL.out, HEND.out]; exact HQ.out)
          have hkn : (k : Int) < n := by omega
          clear hlt
          go_wp2_with fail
          all_goals
           go_meet
           exact HEXJ.out _ _ _ _ _ HGF HX HQF HF
      · have hkn : n = k := by omega
        subst hkn
        have HGF : Hid (GQ 49 38 Wvt.cells (fun _ _ v => v.Ok) id wN.heap.size wr A4 n c4 ys (pL pVt zs).1 (pL pVt zs).2.2) := Lib.hid (by rw [HPL.out, HST.out]; exact HQQ.out)
        have HQF : Hid (Qs wr F g (pL pVt zs).2) := Lib.hid (by rw [HPL.out, HST.out]; exact HQ.out)
        clear hlt hk hst
        go_wp2_with fail
        all_goals
         go_meet
         exact HEXJ.out _ _ _ _ _ HGF HX HQF HF
 case rest =>
  obtain ⟨y, y0, s6, HBx, HRx, HFx, HYL, HYI, HPU, HYC⟩ := hcut
  rename World => wx
  have HRE := Lib.hid (HRx.out)
  have HBE := Lib.hid (HBx.out)
  have HBZ8 := Lib.hid (HBZ5.out.keep HFx.out (by have := HG.out; have := HGM.out; simp; omega))
  have HFF8 : Hid (Fr [] w wx) := Lib.hid (HF1.out.trans (HFW5.out.trans HFx.out (fun q hq _ => hq)) (fun q hq hl => by have := HG.out; have := HGM.out; simp at hq; omega))
  have HLY := Lib.hid HYL.out
  obtain ⟨R, bad⟩ := s6
  obtain ⟨AR, nR, cR, hAR, hbR, hyR, hcR⟩ := HRE.out.rd
  have HyR := Lib.hid hyR
  have hc0 := hbR.cell 0
  have hc1 := hbR.cell 1
  simp at hc0 hc1
  clear hbR hAR hcR hyR
  cases bad with
  | true =>
    go_wp2_with (first
     | (refine wpList_builtg rfl 61 _ rfl _ _ HB0.out rfl ?_)
     | (refine wpList_store_blk rfl 61 _ _ rfl w.heap.size Z rfl rfl 61 Z HBZ8.out HZT.out rfl HZO.out ?_
        intro w9 hb9 hf9
        have HB9 := Lib.hid hb9
        have HF9 := Lib.hid hf9
        clear hb9 hf9))
    have HPF : Hid (pU l = ((mz 0 0 0).con, false)) := Lib.hid (by rw [HPU.out]; exact if_neg (by intro h; exact absurd h.1 (by simp)))
    refine bodyPost_ret (v := .tuple #[.agg Z, .bool false]) (results_row_tmp Tryz.results11 _ _ w.heap.size 61 Z _ _ (.bool false) rfl rfl HB9.out Tryz.underlying61 rfl HZT.out) rfl ⟨mz 0 0 0, by rw [HPF.out, HZ.out], by rw [HPF.out], mz_len 0 0 0, fun S0 _ => mz_li w9 S0 0 0 0, ?_⟩
    exact HFF8.out.trans HF9.out (fun q hq hl => by simp at hq; omega)
  | false =>
    cases R with
    | cons a R =>
      have hpos : (0 : Int) < (nR : Int) := by have h := HyR.out.1; simp at h; omega
      go_wp2_with (first
       | (refine wpList_builtg rfl 61 _ rfl _ _ HB0.out rfl ?_)
       | (refine wpList_store_blk rfl 61 _ _ rfl w.heap.size Z rfl rfl 61 Z HBZ8.out HZT.out rfl HZO.out ?_
          intro w9 hb9 hf9
          have HB9 := Lib.hid hb9
          have HF9 := Lib.hid hf9
          clear hb9 hf9))
      have HPF : Hid (pU l = ((mz 0 0 0).con, false)) := Lib.hid (by rw [HPU.out]; exact if_neg (by intro h; exact absurd h.2 (by simp)))
      refine bodyPost_ret (v := .tuple #[.agg Z, .bool false]) (results_row_tmp Tryz.results11 _ _ w.heap.size 61 Z _ _ (.bool false) rfl rfl HB9.out Tryz.underlying61 rfl HZT.out) rfl ⟨mz 0 0 0, by rw [HPF.out, HZ.out], by rw [HPF.out], mz_len 0 0 0, fun S0 _ => mz_li w9 S0 0 0 0, ?_⟩
      exact HFF8.out.trans HF9.out (fun q hq hl => by simp at hq; omega)
    | nil =>
      obtain ⟨Y, hY⟩ : ∃ Y : List Value, Y = y.cells := ⟨_, rfl⟩
      have HYL' : Hid (Y.length = 295) := Lib.hid (by rw [hY]; exact Wmg.lenz HLY.out)
      have HYT : Hid ((Tryz.prog.info? 61).map (·.size) = some Y.toArray.size) := Lib.hid (by rw [hY]; exact msg_size HLY.out)
      have HYO : Hid (Y.toArray.all (·.oneCell') = true) := Lib.hid (by rw [hY]; exact all_oneCell_toArray (Wmg.one _))
      have HYZ : Hid (Z.size = Y.toArray.size) := Lib.hid (by rw [hY, HZ.out, List.size_toArray, List.size_toArray, Wmg.lenz (mz_len _ _ _), Wmg.lenz HLY.out])
      have HYB : Hid (Blk wx gm 61 Y.toArray) := Lib.hid (by rw [hY]; exact HBE.out)
      have HYY := Lib.hid hY
      clear hY
      have hnR : nR = 0 := HyR.out.1.symm
      subst hnR
      have hbig : ¬ (65536 < (n : Int)) := by have := HN.out; omega
      go_wp2_with (first
       | (refine wpList_load_row rfl 61 _ rfl gm rfl 61 Y.toArray _ _ HYB.out Tryz.underlying61 rfl HYT.out ?_)
       | (refine wpList_store_blk rfl 61 _ _ rfl w.heap.size Y.toArray rfl rfl 61 Z HBZ8.out HYT.out HYZ.out HYO.out ?_
          intro w9 hb9 hf9
          have HB9 := Lib.hid hb9
          have HF9 := Lib.hid hf9
          clear hb9 hf9))
      have HPF : Hid (pU l = (y0, true)) := Lib.hid (by rw [HPU.out]; exact if_pos ⟨by first | rfl | trivial, by first | rfl | trivial⟩)
      refine bodyPost_ret (v := .tuple #[.agg Y.toArray, .bool true]) (results_row_tmp Tryz.results11 _ _ w.heap.size 61 Y.toArray _ _ (.bool true) rfl rfl HB9.out Tryz.underlying61 rfl HYT.out) rfl ⟨y, by rw [HPF.out, HYY.out], by rw [HPF.out]; exact HYC.out (by first | rfl | trivial), HLY.out, fun S0 h0 => HYI.out w9 (HF9.out.mono (fun q hq _ => by simp at hq; simp [hq])) S0 h0, ?_⟩
      exact HFF8.out.trans HF9.out (fun q hq hl => by simp at hq; omega)
set_option maxHeartbeats 8000000 in
theorem runpack_no (A : Option Addr) (n c : Nat) (l : List UInt8) (w : World) (hy : By w A n l) (hn : n ≤ 65536) (hk : ¬ (1 ≤ (pI (l, false)).1 ∧ (pI (l, false)).1 ≤ 14)) :
  Calls Tryz.prog 11 #[.slice A n c] w fun e w' => ∃ y : Wmg, e = .returned (.tuple #[.agg y.cells.toArray, .bool (pU l).2]) ∧ y.con = (pU l).1 ∧ y.Len ∧ (∀ S0 : List Nat, (∀ k ∈ S0, k < w.heap.size) → y.Li w' S0) ∧ Fr [] w w' := by
 obtain ⟨Z, hZ⟩ : ∃ Z, Z = (mz 0 0 0).cells.toArray := ⟨_, rfl⟩
 obtain ⟨wa, hwa⟩ : ∃ wa, wa = w.alloc (Obj.cells Z 61) := ⟨_, rfl⟩
 have hf0 : Fr [] w wa := by rw [hwa]; exact (Fr.refl [] w).alloc _
 have HBZ : Hid (Blk wa w.heap.size 61 Z) := Lib.hid (by rw [hwa]; exact Blk.new _ _ _)
 have HWS : Hid (wa.heap.size = w.heap.size + 1) := Lib.hid (by rw [hwa]; simp)
 have HY := Lib.hid (hy.keep hf0 (by simp))
 have HN := Lib.hid hn
 have HLN := Lib.hid hy.1
 have HF0 := Lib.hid hf0
 have HWA := Lib.hid hwa
 have HZ := Lib.hid hZ
 have HZT : Hid ((Tryz.prog.info? 61).map (·.size) = some Z.size) := Lib.hid (by rw [hZ]; exact msg_size (mz_len 0 0 0))
 have HZO : Hid (Z.all (·.oneCell') = true) := Lib.hid (by rw [hZ]; exact all_oneCell_toArray (Wmg.one _))
 have HB0 : Hid (Tryz.prog.built 61 [] = some Z) := Lib.hid (by rw [hZ]; exact built_mg0)
 have HK := Lib.hid hk
 clear hwa hf0 hy hn hZ hk
 go_enter Tryz.func11, Tryz.ntmps11
 go_upto_region 1 with (fail)
 change Code.wp _ _ _ _ (w.alloc (Obj.cells (mz 0 0 0).cells.toArray 61))
 rw [← HZ.out, ← HWA.out]
 go_upto_region 2 with (first
  | (refine wpList_append_copyv _ rfl (.const (.slice none 0 0)) (.tmp 8) _ rfl 5 (.int .u8 0) 1 Tryz.underlying52 info_u8m rfl rfl A n c (l.map by8) rfl (by rw [List.length_map]; exact HY.out.1) (fun h => HY.out.2 h) (by have := HN.out; omega) (by omega) ?_
     intro A1 c1 w1 ho1 hf1 hn1)
  | (refine wpList_builtg rfl 101 _ rfl _ _ (built_rdr A1 n c1) rfl ?_))
 have hcap := own_capq ho1
 have hby1 : By w1 A1 n l := By.of_own ho1
 have HW1 : Hid (∀ k ∈ bk A1, wa.heap.size ≤ k ∧ k < w1.heap.size) := Lib.hid (fun k hk => ⟨hn1 k hk, own_lt ho1 k ((bk_mem A1 n c1 k).2 hk)⟩)
 obtain ⟨w2, hw2⟩ : ∃ w2, w2 = w1.alloc (Obj.cells #[.slice A1 n c1, .bool false] 101) := ⟨_, rfl⟩
 have hf2 : Fr [] w1 w2 := by rw [hw2]; exact (Fr.refl [] w1).alloc _
 have hb2 : Blk w2 w1.heap.size 101 #[.slice A1 n c1, .bool false] := by rw [hw2]; exact Blk.new _ _ _
 rw [← hw2]
 obtain ⟨g, hg⟩ : ∃ g, g = w1.heap.size := ⟨_, rfl⟩
 rw [← hg] at hb2 ⊢
 have HR1 : Hid (Qs w2 (bk A1) g (l, false)) := Lib.hid ⟨⟨A1, n, c1, fun k hk => ⟨hk, fun e => by have := (HW1.out k hk).2; omega⟩, hb2, hby1.keep hf2 (by simp), hcap⟩, by have := HLN.out; have := HN.out; simp only; omega, fun k hk => by have := (HW1.out k hk).2; have := hf2.size; omega, fun h => by cases h⟩
 have HG : Hid (w.heap.size < g ∧ g < w2.heap.size) := Lib.hid ⟨by have := HWS.out; have := hf1.size; omega, hb2.lt⟩
 have HNF : Hid (∀ k ∈ bk A1, w.heap.size < k ∧ k < w2.heap.size) := Lib.hid (fun k hk => by have h := HW1.out k hk; have := HWS.out; have := hf2.size; omega)
 have HF1 : Hid (Fr [] w w2) := Lib.hid ((HF0.out.and hf1 (by simp)).and hf2 (by simp))
 have HB1 := Lib.hid ((HBZ.out.keep hf1 (by simp)).keep hf2 (by simp))
 generalize bk A1 = F at *
 clear hf1 hf2 hb2 hw2 hg hcap hby1 ho1 hn1
 go_wp2_with fail
 refine (qInt_any HR1.out).mono ?_
 rintro e_ w3 ⟨rfl, h1, h2⟩
 have HR2 := Lib.hid h1
 have HF2 : Hid (Fr [g] w2 w3) := Lib.hid (h2)
 clear h1 h2
 go_wp2_with fail
 refine (qInt_any HR2.out).mono ?_
 rintro e_ w4 ⟨rfl, h1, h2⟩
 have HR3 := Lib.hid h1
 have HF3 : Hid (Fr [g] w2 w4) := Lib.hid (HF2.out.trans h2 (fun x hx _ => hx))
 clear h1 h2
 go_wp2_with fail
 refine (qInt_any HR3.out).mono ?_
 rintro e_ w5 ⟨rfl, h1, h2⟩
 have HR4 := Lib.hid h1
 have HF4 : Hid (Fr [g] w2 w5) := Lib.hid (HF3.out.trans h2 (fun x hx _ => hx))
 clear h1 h2
 have HB4 := Lib.hid (HB1.out.keep HF4.out (by have := HG.out; simp; omega))
 have HS4 : Hid (w2.heap.size ≤ w5.heap.size) := Lib.hid HF4.out.size
 have HBN : Hid (Blk (w5.alloc (Obj.cells (mz 0 0 0).cells.toArray 61)) w5.heap.size 61 Z) := Lib.hid (by rw [HZ.out]; exact Blk.new _ _ _)
 obtain ⟨x, hx⟩ : ∃ x, x = mz (pI (l, false)).1 (pI (pI (l, false)).2).1 (pI (pI (pI (l, false)).2).2).1 := ⟨_, rfl⟩
 have HXL : Hid x.Len := Lib.hid (by rw [hx]; exact mz_len _ _ _)
 have HXQ : Hid (¬ (1 ≤ x.q ∧ x.q ≤ 14)) := Lib.hid (by rw [hx]; exact HK.out)
 have HX := Lib.hid hx
 have HXI : Hid (∀ W S0, x.Li W S0) := Lib.hid (fun W S0 => by rw [hx]; exact mz_li W S0 _ _ _)
 have HBU : Hid (Tryz.prog.built 61 [(0, .int .i64 (pI (l, false)).1), (1, .int .i64 (pI (pI (l, false)).2).1), (2, .int .i64 (pI (pI (pI (l, false)).2).2).1)] = some x.cells.toArray) := Lib.hid (by rw [hx]; exact built_mg3 _ _ _)
 have HVT : Hid ((Tryz.prog.info? 61).map (·.size) = some x.cells.toArray.size) := Lib.hid (msg_size HXL.out)
 have HVO : Hid (x.cells.toArray.all (·.oneCell') = true) := Lib.hid (all_oneCell_toArray (Wmg.one _))
 have HVZ : Hid (Z.size = x.cells.toArray.size) := Lib.hid (by rw [HZ.out, List.size_toArray, List.size_toArray, Wmg.lenz (mz_len _ _ _), Wmg.lenz HXL.out])
 clear hx
 go_upto_region 3 with (first
  | (refine wpList_builtg rfl 61 _ rfl _ _ HBU.out rfl ?_)
  | (refine wpList_store_blk rfl 61 _ _ rfl w5.heap.size x.cells.toArray rfl rfl 61 Z HBN.out HVT.out HVZ.out HVO.out ?_
     intro w6 hb5 hf5))
 have HB5 := Lib.hid hb5
 have HF5 : Hid (Fr [w5.heap.size] w5 w6) := Lib.hid ((((Fr.refl [w5.heap.size] w5).alloc _)).trans hf5 (fun x hx _ => hx))
 obtain ⟨gm, hgm⟩ : ∃ gm, gm = w5.heap.size := ⟨_, rfl⟩
 rw [← hgm] at HB5 HF5 ⊢
 have HGM : Hid (g < gm ∧ w.heap.size < gm ∧ w2.heap.size ≤ gm ∧ gm < w6.heap.size) := Lib.hid ⟨by have := HG.out; have := HS4.out; omega, by have := HG.out; have := HS4.out; omega, by have := HS4.out; omega, HB5.out.lt⟩
 clear hb5 hf5 hgm
 have HR5 := Lib.hid (HR4.out.fr HF5.out (by have := HGM.out; simp; omega) (fun k hk hm => by have := HNF.out k hk; have := HGM.out; simp at hm; omega))
 have HBZ5 := Lib.hid (HB4.out.keep HF5.out (by have := HGM.out; simp; omega))
 have HFW5 : Hid (Fr [g, gm] w2 w6) := Lib.hid ((HF4.out.mono (T := [g, gm]) (fun q hq _ => by simp at hq; simp [hq])).trans HF5.out (fun q hq _ => by simp at hq; simp [hq]))
 have hq0 : w6.cell? ⟨gm, 0, none⟩ = some (.int .i64 x.q) := HB5.out.range (cs := x.cells) 0 (.int .i64 x.q) rfl
 have n1 : (x.q == (1 : Int)) = false := by have := HXQ.out; simp; omega
 have n2 : (x.q == (2 : Int)) = false := by have := HXQ.out; simp; omega
 have n3 : (x.q == (3 : Int)) = false := by have := HXQ.out; simp; omega
 have n4 : (x.q == (4 : Int)) = false := by have := HXQ.out; simp; omega
 have n5 : (x.q == (5 : Int)) = false := by have := HXQ.out; simp; omega
 have n6 : (x.q == (6 : Int)) = false := by have := HXQ.out; simp; omega
 have n7 : (x.q == (7 : Int)) = false := by have := HXQ.out; simp; omega
 have n8 : (x.q == (8 : Int)) = false := by have := HXQ.out; simp; omega
 have n9 : (x.q == (9 : Int)) = false := by have := HXQ.out; simp; omega
 have n10 : (x.q == (10 : Int)) = false := by have := HXQ.out; simp; omega
 have n11 : (x.q == (11 : Int)) = false := by have := HXQ.out; simp; omega
 have n12 : (x.q == (12 : Int)) = false := by have := HXQ.out; simp; omega
 have n13 : (x.q == (13 : Int)) = false := by have := HXQ.out; simp; omega
 have n14 : (x.q == (14 : Int)) = false := by have := HXQ.out; simp; omega
 go_wp2_with (first
  | (refine wpList_builtg rfl 61 _ rfl _ _ HB0.out rfl ?_)
  | (refine wpList_store_blk rfl 61 _ _ rfl w.heap.size Z rfl rfl 61 Z HBZ5.out HZT.out rfl HZO.out ?_
     intro w9 hb9 hf9
     have HB9 := Lib.hid hb9
     have HF9 := Lib.hid hf9
     clear hb9 hf9))
 have HPF : Hid (pU l = ((mz 0 0 0).con, false)) := Lib.hid (by unfold pU; exact if_neg (fun h => HK.out ⟨h.1, h.2.1⟩))
 refine bodyPost_ret (v := .tuple #[.agg Z, .bool false]) (results_row_tmp Tryz.results11 _ _ w.heap.size 61 Z _ _ (.bool false) rfl rfl HB9.out Tryz.underlying61 rfl HZT.out) rfl ⟨mz 0 0 0, by rw [HPF.out, HZ.out], by rw [HPF.out], mz_len 0 0 0, fun S0 _ => mz_li w9 S0 0 0 0, ?_⟩
 exact (HF1.out.trans HFW5.out (fun q hq hl => by have := HG.out; have := HGM.out; simp at hq; omega)).trans HF9.out (fun q hq hl => by simp at hq; omega)
theorem runpack_any (A : Option Addr) (n c : Nat) (l : List UInt8) (w : World) (hy : By w A n l) (hn : n ≤ 65536) :
  Calls Tryz.prog 11 #[.slice A n c] w fun e w' => ∃ y : Wmg, e = .returned (.tuple #[.agg y.cells.toArray, .bool (pU l).2]) ∧ y.con = (pU l).1 ∧ y.Len ∧ (∀ S0 : List Nat, (∀ k ∈ S0, k < w.heap.size) → y.Li w' S0) ∧ Fr [] w w' := by
 by_cases hm : 1 ≤ (pI (l, false)).1 ∧ (pI (l, false)).1 ≤ 14
 · exact runpack_in A n c l w hy hn hm
 · exact runpack_no A n c l w hy hn hm
end Go.Proofs.YtdenpfcgghangaaGreat
