/- Texts that the proof stands on: A message as a value; what msgs.put writes of each kind. (written by gen_mg.py) | msgs.Pack of any message. | Cells in the middle of a block; gavellaw05's up, niceName, niceSig. (written by gen_nic.py) | gavellaw05's nice: a certificate of numbers from 0 on, not too great. (written by gen_nic2.py) | msgs.get, kind by kind. (written by gen_mh.py) | msgs.get of the kinds that store more than a part. (written by gen_mi.py) | Package wire: GetCert, GetPromise, GetBatch: all of it, or the zero value. (written by gen_rp4.py) | A message as it is read; msgs.get of any kind. (written by gen_mj.py) | msgs.Unpack of bytes that are not too many. (written by gen_mk.py) | gavellaw06.wakes. | No number's bytes are the beginning of another one's. | Messages of small numbers: their bytes tell them apart. -/
import Derived.Test.YtnpjihdhpoddgaaKM2
import Derived.Test.YtnpjihdhpoddgaaRegT
import Derived.Laws.ResultCell
import Derived.Test.YtnpjihdhpoddgaaWr
set_option maxRecDepth 100000

namespace Go.Proofs.Ytnpjihdhpoddgaa
open Go.RowKit
set_option maxRecDepth 100000
/-- a message -/
structure Wmg where
  q : Int
  f : Int
  t : Int
  cm : Wcm
  st : Wst
  ce : Wce
  ak : Wst
  e : Int
  r : Int
  tm : Nat
  pr : Wpr
  po : Wpo
  vt : Wvt
  i : Int
  en : Wen
  op : Wop
  dn : Wdn
  rp : List UInt8
  de : Wdc
def Wmg.cells (x : Wmg) : List Value := [.int .i64 x.q] ++ ([.int .i64 x.f] ++ ([.int .i64 x.t] ++ (x.cm.cells ++ (x.st.cells ++ (x.ce.cells ++ (x.ak.cells ++ ([.int .i64 x.e] ++ ([.int .i64 x.r] ++ ([.int .u64 (x.tm : Int)] ++ (x.pr.cells ++ (x.po.cells ++ (x.vt.cells ++ ([.int .i64 x.i] ++ (x.en.cells ++ (x.op.cells ++ (x.dn.cells ++ ([.string ⟨x.rp.toArray⟩] ++ (x.de.cells))))))))))))))))))
/-- it lies in w, apart from S -/
structure Wmg.Ok (w : World) (S : List Nat) (x : Wmg) : Prop where
  q : i64In x.q
  f : i64In x.f
  t : i64In x.t
  cm : x.cm.Ok
  st : x.st.Ok
  ce : x.ce.Ok w S
  ak : x.ak.Ok
  e : i64In x.e
  r : i64In x.r
  tm : x.tm < 18446744073709551616
  pr : x.pr.Ok w S
  po : x.po.OkS w S
  vt : x.vt.Ok
  i : i64In x.i
  en : x.en.Ok
  op : x.op.Ok w S
  dn : x.dn.Ok
  rp : x.rp.length ≤ 260
  de : x.de.Ok w S
theorem ra_head {w : World} {g o : Nat} {a b : List Value} (h : w.rangeAt g o (a ++ b)) : w.rangeAt g o a := fun j v hv => h j v (by rw [List.getElem?_append_left (List.getElem?_eq_some_iff.1 hv).1]; exact hv)
theorem ra_tail {w : World} {g o k : Nat} {a b : List Value} (h : w.rangeAt g o (a ++ b)) (hk : a.length = k) : w.rangeAt g (o + k) b := by
  intro j v hv
  have := h (k + j) v (by rw [List.getElem?_append_right (by omega), hk]; simpa using hv)
  rw [← Nat.add_assoc] at this
  exact this
/-- its fields, where it lies -/
structure Wmg.At (w : World) (g : Nat) (x : Wmg) : Prop where
  q : w.rangeAt g 0 ([.int .i64 x.q] : List Value)
  f : w.rangeAt g 1 ([.int .i64 x.f] : List Value)
  t : w.rangeAt g 2 ([.int .i64 x.t] : List Value)
  cm : w.rangeAt g 3 x.cm.cells
  st : w.rangeAt g 40 x.st.cells
  ce : w.rangeAt g 78 x.ce.cells
  ak : w.rangeAt g 116 x.ak.cells
  e : w.rangeAt g 154 ([.int .i64 x.e] : List Value)
  r : w.rangeAt g 155 ([.int .i64 x.r] : List Value)
  tm : w.rangeAt g 156 ([.int .u64 (x.tm : Int)] : List Value)
  pr : w.rangeAt g 157 x.pr.cells
  po : w.rangeAt g 163 x.po.cells
  vt : w.rangeAt g 174 x.vt.cells
  i : w.rangeAt g 212 ([.int .i64 x.i] : List Value)
  en : w.rangeAt g 213 x.en.cells
  op : w.rangeAt g 248 x.op.cells
  dn : w.rangeAt g 282 x.dn.cells
  rp : w.rangeAt g 286 ([.string ⟨x.rp.toArray⟩] : List Value)
  de : w.rangeAt g 287 x.de.cells
theorem Wmg.at_of {w W : World} {S : List Nat} {g : Nat} {x : Wmg} (hr : w.rangeAt g 0 x.cells) (hx : x.Ok W S) : x.At w g := by
  unfold Wmg.cells at hr
  have t0 := ra_tail hr (k := 1) (rfl)
  have t1 := ra_tail t0 (k := 1) (rfl)
  have t2 := ra_tail t1 (k := 1) (rfl)
  have t3 := ra_tail t2 (k := 37) (Wcm.len hx.cm.h)
  have t4 := ra_tail t3 (k := 38) (Wst.len hx.st.h)
  have t5 := ra_tail t4 (k := 38) (Wce.len hx.ce.k.h)
  have t6 := ra_tail t5 (k := 38) (Wst.len hx.ak.h)
  have t7 := ra_tail t6 (k := 1) (rfl)
  have t8 := ra_tail t7 (k := 1) (rfl)
  have t9 := ra_tail t8 (k := 1) (rfl)
  have t10 := ra_tail t9 (k := 6) (Wpr.len x.pr)
  have t11 := ra_tail t10 (k := 11) (Wpo.len x.po)
  have t12 := ra_tail t11 (k := 38) (Wvt.len hx.vt.h)
  have t13 := ra_tail t12 (k := 1) (rfl)
  have t14 := ra_tail t13 (k := 35) (Wen.len hx.en.h)
  have t15 := ra_tail t14 (k := 34) (Wop.len hx.op.h)
  have t16 := ra_tail t15 (k := 4) (Wdn.len x.dn)
  have t17 := ra_tail t16 (k := 1) (rfl)
  exact ⟨ra_head hr, ra_head t0, ra_head t1, ra_head t2, ra_head t3, ra_head t4, ra_head t5, ra_head t6, ra_head t7, ra_head t8, ra_head t9, ra_head t10, ra_head t11, ra_head t12, ra_head t13, ra_head t14, ra_head t15, ra_head t16, t17⟩
theorem putOpening_any' (x : Wop) (C : List Value) (hC : x.cells = C) (w : World) (S : List Nat) (g : Nat) (l : List UInt8) (hw : Wr w S g l) (hl : l.length + 500 ≤ 1073741000) (hx : x.Ok w S) :
    Calls Try.prog 30 #[.pointer (some ⟨g, 0, none⟩), .agg C.toArray] w fun e w' => e = .returned (.pointer (some ⟨g, 0, none⟩)) ∧ Gr w S g (l ++ x.full) w' := by
  subst hC
  exact putOpening_any x w S g l hw hl hx
theorem Wpo.OkS.keep {w W : World} {S S' : List Nat} {x : Wpo} (h : x.OkS w S) (hf : Fr S w W) (hs : ∀ k ∈ S', k < w.heap.size → k ∈ S) : x.OkS W S' :=
  ⟨h.e, h.r, h.v, h.p, h.k.keep hf hs, h.b, h.m⟩
theorem Wdc.Ok.keep {w W : World} {S S' : List Nat} {x : Wdc} (h : x.Ok w S) (hf : Fr S w W) (hs : ∀ k ∈ S', k < w.heap.size → k ∈ S) : x.Ok W S' :=
  ⟨h.e, h.r, h.k.keep hf hs, h.l.keep' hf h.ap (fun _ _ h => h), h.n, fun hn a ha hin => h.ap hn a ha (hs _ hin (h.l.lt hn (by decide) (fun v hv => Wvt.len (h.l.2.1 v hv).2.h) a ha))⟩
theorem Wmg.Ok.keep {w W : World} {S S' : List Nat} {x : Wmg} (h : x.Ok w S) (hf : Fr S w W) (hs : ∀ k ∈ S', k < w.heap.size → k ∈ S) : x.Ok W S' :=
  ⟨h.q, h.f, h.t, h.cm, h.st, h.ce.keep hf hs, h.ak, h.e, h.r, h.tm, h.pr.keep hf hs, h.po.keep hf hs, h.vt, h.i, h.en, h.op.keep hf hs, h.dn, h.rp, h.de.keep hf hs⟩
set_option maxHeartbeats 2000000 in
theorem mput_cm (x : Wmg) (hq : x.q = 1) (w : World) (S : List Nat) (g : Nat) (l : List UInt8) (hw : Wr w S g l) (hl : l.length + 70000 ≤ 1073741000) (hx : x.Ok w S) (C : List Value) (hC : x.cells = C) :
    Calls Try.prog 12 #[.pointer (some ⟨g, 0, none⟩), .agg C.toArray] w fun e w' => e = .returned (.bool true) ∧ Gr w S g (l ++ x.cm.full) w' := by
  obtain ⟨wa, hwa⟩ : ∃ wa, wa = w.alloc (Obj.cells C.toArray 61) := ⟨_, rfl⟩
  have hf0 : Fr [] w wa := by rw [hwa]; exact (Fr.refl [] w).alloc _
  have hb0 : Blk wa w.heap.size 61 x.cells.toArray := by rw [hwa, hC]; exact Blk.new _ _ _
  have HNS : Hid (¬ w.heap.size ∈ S) := Lib.hid (fun h => by have := hw.lt _ h; omega)
  have HG0 := Lib.hid (Gr.refl (hw.keep hf0 (by simp)))
  have hat : x.At wa w.heap.size := Wmg.at_of hb0.range hx
  have hq0 : wa.cell? ⟨w.heap.size, 0, none⟩ = some (.int .i64 1) := by have h := hat.q 0 _ rfl; rw [hq] at h; exact h
  have HXA : Hid (x.Ok wa S) := Lib.hid (hx.keep (hf0.mono (T := S) (by simp)) (fun k hk _ => hk))
  have HK : Hid (wa.rangeAt w.heap.size 3 x.cm.cells) := Lib.hid hat.cm
  have HKL : Hid (x.cm.cells.length = 37) := Lib.hid (Wcm.len hx.cm.h)
  have HF0 := Lib.hid hf0
  have HWA := Lib.hid hwa
  have HL := Lib.hid hl
  have HX := Lib.hid hx
  clear hwa hf0 hb0 hat hl hw hx hC hq
  generalize hK : x.cm.cells = K at *
  have HRK := Lib.hid hK
  clear hK
  go_enter Try.func12, Try.ntmps12
  go_upto_region 1 with (fail)
  change Code.wp _ _ _ _ (w.alloc (Obj.cells C.toArray 61))
  rw [← HWA.out]
  go_wp2_with (refine wpList_load_mid rfl 29 _ rfl w.heap.size 3 rfl K _ HK.out Try.underlying29 rfl (row_cmt.of HKL.out).2 ?_)
  refine (HG0.out.call fun S1 k1 => putCommit_any' x.cm HX.out.cm K HRK.out _ S1 g _ k1 (by have h0 := HL.out; omega)).mono ?_
  rintro e w1 ⟨rfl, hg1⟩
  have HG1 := Lib.hid hg1
  clear hg1 HG0
  go_wp2_with fail
  go_ret
  exact ⟨rfl, (HG1.out.from_ HF0.out).eq rfl⟩
set_option maxHeartbeats 2000000 in
theorem mput_st (x : Wmg) (hq : x.q = 2) (w : World) (S : List Nat) (g : Nat) (l : List UInt8) (hw : Wr w S g l) (hl : l.length + 70000 ≤ 1073741000) (hx : x.Ok w S) (C : List Value) (hC : x.cells = C) :
    Calls Try.prog 12 #[.pointer (some ⟨g, 0, none⟩), .agg C.toArray] w fun e w' => e = .returned (.bool true) ∧ Gr w S g (l ++ x.st.full) w' := by
  obtain ⟨wa, hwa⟩ : ∃ wa, wa = w.alloc (Obj.cells C.toArray 61) := ⟨_, rfl⟩
  have hf0 : Fr [] w wa := by rw [hwa]; exact (Fr.refl [] w).alloc _
  have hb0 : Blk wa w.heap.size 61 x.cells.toArray := by rw [hwa, hC]; exact Blk.new _ _ _
  have HNS : Hid (¬ w.heap.size ∈ S) := Lib.hid (fun h => by have := hw.lt _ h; omega)
  have HG0 := Lib.hid (Gr.refl (hw.keep hf0 (by simp)))
  have hat : x.At wa w.heap.size := Wmg.at_of hb0.range hx
  have hq0 : wa.cell? ⟨w.heap.size, 0, none⟩ = some (.int .i64 2) := by have h := hat.q 0 _ rfl; rw [hq] at h; exact h
  have HXA : Hid (x.Ok wa S) := Lib.hid (hx.keep (hf0.mono (T := S) (by simp)) (fun k hk _ => hk))
  have HK : Hid (wa.rangeAt w.heap.size 40 x.st.cells) := Lib.hid hat.st
  have HKL : Hid (x.st.cells.length = 38) := Lib.hid (Wst.len hx.st.h)
  have HF0 := Lib.hid hf0
  have HWA := Lib.hid hwa
  have HL := Lib.hid hl
  have HX := Lib.hid hx
  clear hwa hf0 hb0 hat hl hw hx hC hq
  generalize hK : x.st.cells = K at *
  have HRK := Lib.hid hK
  clear hK
  go_enter Try.func12, Try.ntmps12
  go_upto_region 1 with (fail)
  change Code.wp _ _ _ _ (w.alloc (Obj.cells C.toArray 61))
  rw [← HWA.out]
  go_wp2_with (refine wpList_load_mid rfl 32 _ rfl w.heap.size 40 rfl K _ HK.out Try.underlying32 rfl (row_stamp.of HKL.out).2 ?_)
  refine (HG0.out.call fun S1 k1 => putStamp_any' x.st HX.out.st K HRK.out _ S1 g _ k1 (by have h0 := HL.out; omega)).mono ?_
  rintro e w1 ⟨rfl, hg1⟩
  have HG1 := Lib.hid hg1
  clear hg1 HG0
  go_wp2_with fail
  go_ret
  exact ⟨rfl, (HG1.out.from_ HF0.out).eq rfl⟩
set_option maxHeartbeats 2000000 in
theorem mput_ce (x : Wmg) (hq : x.q = 3) (w : World) (S : List Nat) (g : Nat) (l : List UInt8) (hw : Wr w S g l) (hl : l.length + 70000 ≤ 1073741000) (hx : x.Ok w S) (C : List Value) (hC : x.cells = C) :
    Calls Try.prog 12 #[.pointer (some ⟨g, 0, none⟩), .agg C.toArray] w fun e w' => e = .returned (.bool true) ∧ Gr w S g (l ++ x.ce.full) w' := by
  obtain ⟨wa, hwa⟩ : ∃ wa, wa = w.alloc (Obj.cells C.toArray 61) := ⟨_, rfl⟩
  have hf0 : Fr [] w wa := by rw [hwa]; exact (Fr.refl [] w).alloc _
  have hb0 : Blk wa w.heap.size 61 x.cells.toArray := by rw [hwa, hC]; exact Blk.new _ _ _
  have HNS : Hid (¬ w.heap.size ∈ S) := Lib.hid (fun h => by have := hw.lt _ h; omega)
  have HG0 := Lib.hid (Gr.refl (hw.keep hf0 (by simp)))
  have hat : x.At wa w.heap.size := Wmg.at_of hb0.range hx
  have hq0 : wa.cell? ⟨w.heap.size, 0, none⟩ = some (.int .i64 3) := by have h := hat.q 0 _ rfl; rw [hq] at h; exact h
  have HXA : Hid (x.Ok wa S) := Lib.hid (hx.keep (hf0.mono (T := S) (by simp)) (fun k hk _ => hk))
  have HK : Hid (wa.rangeAt w.heap.size 78 x.ce.cells) := Lib.hid hat.ce
  have HKL : Hid (x.ce.cells.length = 38) := Lib.hid (Wce.len hx.ce.k.h)
  have HF0 := Lib.hid hf0
  have HWA := Lib.hid hwa
  have HL := Lib.hid hl
  have HX := Lib.hid hx
  clear hwa hf0 hb0 hat hl hw hx hC hq
  generalize hK : x.ce.cells = K at *
  have HRK := Lib.hid hK
  clear hK
  go_enter Try.func12, Try.ntmps12
  go_upto_region 1 with (fail)
  change Code.wp _ _ _ _ (w.alloc (Obj.cells C.toArray 61))
  rw [← HWA.out]
  go_wp2_with (refine wpList_load_mid rfl 35 _ rfl w.heap.size 78 rfl K _ HK.out Try.underlying35 rfl (row_crt.of HKL.out).2 ?_)
  refine (HG0.out.calls fun S1 k1 f1 s1 => putCert_any' x.ce K HRK.out _ S1 g _ k1 (by have h0 := HL.out; omega) ((HXA.out.ce).keep f1 s1)).mono ?_
  rintro e w1 ⟨rfl, hg1⟩
  have HG1 := Lib.hid hg1
  clear hg1 HG0
  go_wp2_with fail
  go_ret
  exact ⟨rfl, (HG1.out.from_ HF0.out).eq rfl⟩
set_option maxHeartbeats 2000000 in
theorem mput_ak (x : Wmg) (hq : x.q = 4) (w : World) (S : List Nat) (g : Nat) (l : List UInt8) (hw : Wr w S g l) (hl : l.length + 70000 ≤ 1073741000) (hx : x.Ok w S) (C : List Value) (hC : x.cells = C) :
    Calls Try.prog 12 #[.pointer (some ⟨g, 0, none⟩), .agg C.toArray] w fun e w' => e = .returned (.bool true) ∧ Gr w S g (l ++ x.ak.full) w' := by
  obtain ⟨wa, hwa⟩ : ∃ wa, wa = w.alloc (Obj.cells C.toArray 61) := ⟨_, rfl⟩
  have hf0 : Fr [] w wa := by rw [hwa]; exact (Fr.refl [] w).alloc _
  have hb0 : Blk wa w.heap.size 61 x.cells.toArray := by rw [hwa, hC]; exact Blk.new _ _ _
  have HNS : Hid (¬ w.heap.size ∈ S) := Lib.hid (fun h => by have := hw.lt _ h; omega)
  have HG0 := Lib.hid (Gr.refl (hw.keep hf0 (by simp)))
  have hat : x.At wa w.heap.size := Wmg.at_of hb0.range hx
  have hq0 : wa.cell? ⟨w.heap.size, 0, none⟩ = some (.int .i64 4) := by have h := hat.q 0 _ rfl; rw [hq] at h; exact h
  have HXA : Hid (x.Ok wa S) := Lib.hid (hx.keep (hf0.mono (T := S) (by simp)) (fun k hk _ => hk))
  have HK : Hid (wa.rangeAt w.heap.size 116 x.ak.cells) := Lib.hid hat.ak
  have HKL : Hid (x.ak.cells.length = 38) := Lib.hid (Wst.len hx.ak.h)
  have HF0 := Lib.hid hf0
  have HWA := Lib.hid hwa
  have HL := Lib.hid hl
  have HX := Lib.hid hx
  clear hwa hf0 hb0 hat hl hw hx hC hq
  generalize hK : x.ak.cells = K at *
  have HRK := Lib.hid hK
  clear hK
  go_enter Try.func12, Try.ntmps12
  go_upto_region 1 with (fail)
  change Code.wp _ _ _ _ (w.alloc (Obj.cells C.toArray 61))
  rw [← HWA.out]
  go_wp2_with (refine wpList_load_mid rfl 37 _ rfl w.heap.size 116 rfl K _ HK.out Try.underlying37 rfl (row_ack.of HKL.out).2 ?_)
  refine (HG0.out.call fun S1 k1 => putAck_any' x.ak HX.out.ak K HRK.out _ S1 g _ k1 (by have h0 := HL.out; omega)).mono ?_
  rintro e w1 ⟨rfl, hg1⟩
  have HG1 := Lib.hid hg1
  clear hg1 HG0
  go_wp2_with fail
  go_ret
  exact ⟨rfl, (HG1.out.from_ HF0.out).eq rfl⟩
set_option maxHeartbeats 2000000 in
theorem mput_pr (x : Wmg) (hq : x.q = 6) (w : World) (S : List Nat) (g : Nat) (l : List UInt8) (hw : Wr w S g l) (hl : l.length + 70000 ≤ 1073741000) (hx : x.Ok w S) (C : List Value) (hC : x.cells = C) :
    Calls Try.prog 12 #[.pointer (some ⟨g, 0, none⟩), .agg C.toArray] w fun e w' => e = .returned (.bool true) ∧ Gr w S g (l ++ x.pr.full) w' := by
  obtain ⟨wa, hwa⟩ : ∃ wa, wa = w.alloc (Obj.cells C.toArray 61) := ⟨_, rfl⟩
  have hf0 : Fr [] w wa := by rw [hwa]; exact (Fr.refl [] w).alloc _
  have hb0 : Blk wa w.heap.size 61 x.cells.toArray := by rw [hwa, hC]; exact Blk.new _ _ _
  have HNS : Hid (¬ w.heap.size ∈ S) := Lib.hid (fun h => by have := hw.lt _ h; omega)
  have HG0 := Lib.hid (Gr.refl (hw.keep hf0 (by simp)))
  have hat : x.At wa w.heap.size := Wmg.at_of hb0.range hx
  have hq0 : wa.cell? ⟨w.heap.size, 0, none⟩ = some (.int .i64 6) := by have h := hat.q 0 _ rfl; rw [hq] at h; exact h
  have HXA : Hid (x.Ok wa S) := Lib.hid (hx.keep (hf0.mono (T := S) (by simp)) (fun k hk _ => hk))
  have HK : Hid (wa.rangeAt w.heap.size 157 x.pr.cells) := Lib.hid hat.pr
  have HKL : Hid (x.pr.cells.length = 6) := Lib.hid (Wpr.len x.pr)
  have HF0 := Lib.hid hf0
  have HWA := Lib.hid hwa
  have HL := Lib.hid hl
  have HX := Lib.hid hx
  clear hwa hf0 hb0 hat hl hw hx hC hq
  generalize hK : x.pr.cells = K at *
  have HRK := Lib.hid hK
  clear hK
  go_enter Try.func12, Try.ntmps12
  go_upto_region 1 with (fail)
  change Code.wp _ _ _ _ (w.alloc (Obj.cells C.toArray 61))
  rw [← HWA.out]
  go_wp2_with (refine wpList_load_mid rfl 40 _ rfl w.heap.size 157 rfl K _ HK.out Try.underlying40 rfl (row_prm.of HKL.out).2 ?_)
  refine (HG0.out.calls fun S1 k1 f1 s1 => putPromise_any' x.pr K HRK.out _ S1 g _ k1 (by have h0 := HL.out; omega) ((HXA.out.pr).keep f1 s1)).mono ?_
  rintro e w1 ⟨rfl, hg1⟩
  have HG1 := Lib.hid hg1
  clear hg1 HG0
  go_wp2_with fail
  go_ret
  exact ⟨rfl, (HG1.out.from_ HF0.out).eq rfl⟩
set_option maxHeartbeats 2000000 in
theorem mput_po (x : Wmg) (hq : x.q = 7) (w : World) (S : List Nat) (g : Nat) (l : List UInt8) (hw : Wr w S g l) (hl : l.length + 70000 ≤ 1073741000) (hx : x.Ok w S) (C : List Value) (hC : x.cells = C) :
    Calls Try.prog 12 #[.pointer (some ⟨g, 0, none⟩), .agg C.toArray] w fun e w' => e = .returned (.bool true) ∧ Gr w S g (l ++ x.po.full) w' := by
  obtain ⟨wa, hwa⟩ : ∃ wa, wa = w.alloc (Obj.cells C.toArray 61) := ⟨_, rfl⟩
  have hf0 : Fr [] w wa := by rw [hwa]; exact (Fr.refl [] w).alloc _
  have hb0 : Blk wa w.heap.size 61 x.cells.toArray := by rw [hwa, hC]; exact Blk.new _ _ _
  have HNS : Hid (¬ w.heap.size ∈ S) := Lib.hid (fun h => by have := hw.lt _ h; omega)
  have HG0 := Lib.hid (Gr.refl (hw.keep hf0 (by simp)))
  have hat : x.At wa w.heap.size := Wmg.at_of hb0.range hx
  have hq0 : wa.cell? ⟨w.heap.size, 0, none⟩ = some (.int .i64 7) := by have h := hat.q 0 _ rfl; rw [hq] at h; exact h
  have HXA : Hid (x.Ok wa S) := Lib.hid (hx.keep (hf0.mono (T := S) (by simp)) (fun k hk _ => hk))
  have HK : Hid (wa.rangeAt w.heap.size 163 x.po.cells) := Lib.hid hat.po
  have HKL : Hid (x.po.cells.length = 11) := Lib.hid (Wpo.len x.po)
  have HF0 := Lib.hid hf0
  have HWA := Lib.hid hwa
  have HL := Lib.hid hl
  have HX := Lib.hid hx
  clear hwa hf0 hb0 hat hl hw hx hC hq
  generalize hK : x.po.cells = K at *
  have HRK := Lib.hid hK
  clear hK
  go_enter Try.func12, Try.ntmps12
  go_upto_region 1 with (fail)
  change Code.wp _ _ _ _ (w.alloc (Obj.cells C.toArray 61))
  rw [← HWA.out]
  go_wp2_with (refine wpList_load_mid rfl 47 _ rfl w.heap.size 163 rfl K _ HK.out Try.underlying47 rfl (row_prop.of HKL.out).2 ?_)
  refine (HG0.out.calls fun S1 k1 f1 s1 => putProposal_any' x.po K HRK.out _ S1 g _ k1 (by have h0 := HL.out; omega) ((HXA.out.po).keep f1 s1)).mono ?_
  rintro e w1 ⟨rfl, hg1⟩
  have HG1 := Lib.hid hg1
  clear hg1 HG0
  go_wp2_with fail
  go_ret
  exact ⟨rfl, (HG1.out.from_ HF0.out).eq rfl⟩
set_option maxHeartbeats 2000000 in
theorem mput_vt (x : Wmg) (hq : x.q = 8) (w : World) (S : List Nat) (g : Nat) (l : List UInt8) (hw : Wr w S g l) (hl : l.length + 70000 ≤ 1073741000) (hx : x.Ok w S) (C : List Value) (hC : x.cells = C) :
    Calls Try.prog 12 #[.pointer (some ⟨g, 0, none⟩), .agg C.toArray] w fun e w' => e = .returned (.bool true) ∧ Gr w S g (l ++ x.vt.full) w' := by
  obtain ⟨wa, hwa⟩ : ∃ wa, wa = w.alloc (Obj.cells C.toArray 61) := ⟨_, rfl⟩
  have hf0 : Fr [] w wa := by rw [hwa]; exact (Fr.refl [] w).alloc _
  have hb0 : Blk wa w.heap.size 61 x.cells.toArray := by rw [hwa, hC]; exact Blk.new _ _ _
  have HNS : Hid (¬ w.heap.size ∈ S) := Lib.hid (fun h => by have := hw.lt _ h; omega)
  have HG0 := Lib.hid (Gr.refl (hw.keep hf0 (by simp)))
  have hat : x.At wa w.heap.size := Wmg.at_of hb0.range hx
  have hq0 : wa.cell? ⟨w.heap.size, 0, none⟩ = some (.int .i64 8) := by have h := hat.q 0 _ rfl; rw [hq] at h; exact h
  have HXA : Hid (x.Ok wa S) := Lib.hid (hx.keep (hf0.mono (T := S) (by simp)) (fun k hk _ => hk))
  have HK : Hid (wa.rangeAt w.heap.size 174 x.vt.cells) := Lib.hid hat.vt
  have HKL : Hid (x.vt.cells.length = 38) := Lib.hid (Wvt.len hx.vt.h)
  have HF0 := Lib.hid hf0
  have HWA := Lib.hid hwa
  have HL := Lib.hid hl
  have HX := Lib.hid hx
  clear hwa hf0 hb0 hat hl hw hx hC hq
  generalize hK : x.vt.cells = K at *
  have HRK := Lib.hid hK
  clear hK
  go_enter Try.func12, Try.ntmps12
  go_upto_region 1 with (fail)
  change Code.wp _ _ _ _ (w.alloc (Obj.cells C.toArray 61))
  rw [← HWA.out]
  go_wp2_with (refine wpList_load_mid rfl 49 _ rfl w.heap.size 174 rfl K _ HK.out Try.underlying49 rfl (row_vote.of HKL.out).2 ?_)
  refine (HG0.out.call fun S1 k1 => putVote_any' x.vt HX.out.vt K HRK.out _ S1 g _ k1 (by have h0 := HL.out; omega)).mono ?_
  rintro e w1 ⟨rfl, hg1⟩
  have HG1 := Lib.hid hg1
  clear hg1 HG0
  go_wp2_with fail
  go_ret
  exact ⟨rfl, (HG1.out.from_ HF0.out).eq rfl⟩
set_option maxHeartbeats 2000000 in
theorem mput_op (x : Wmg) (hq : x.q = 10) (w : World) (S : List Nat) (g : Nat) (l : List UInt8) (hw : Wr w S g l) (hl : l.length + 70000 ≤ 1073741000) (hx : x.Ok w S) (C : List Value) (hC : x.cells = C) :
    Calls Try.prog 12 #[.pointer (some ⟨g, 0, none⟩), .agg C.toArray] w fun e w' => e = .returned (.bool true) ∧ Gr w S g (l ++ x.op.full) w' := by
  obtain ⟨wa, hwa⟩ : ∃ wa, wa = w.alloc (Obj.cells C.toArray 61) := ⟨_, rfl⟩
  have hf0 : Fr [] w wa := by rw [hwa]; exact (Fr.refl [] w).alloc _
  have hb0 : Blk wa w.heap.size 61 x.cells.toArray := by rw [hwa, hC]; exact Blk.new _ _ _
  have HNS : Hid (¬ w.heap.size ∈ S) := Lib.hid (fun h => by have := hw.lt _ h; omega)
  have HG0 := Lib.hid (Gr.refl (hw.keep hf0 (by simp)))
  have hat : x.At wa w.heap.size := Wmg.at_of hb0.range hx
  have hq0 : wa.cell? ⟨w.heap.size, 0, none⟩ = some (.int .i64 10) := by have h := hat.q 0 _ rfl; rw [hq] at h; exact h
  have HXA : Hid (x.Ok wa S) := Lib.hid (hx.keep (hf0.mono (T := S) (by simp)) (fun k hk _ => hk))
  have HK : Hid (wa.rangeAt w.heap.size 248 x.op.cells) := Lib.hid hat.op
  have HKL : Hid (x.op.cells.length = 34) := Lib.hid (Wop.len hx.op.h)
  have HF0 := Lib.hid hf0
  have HWA := Lib.hid hwa
  have HL := Lib.hid hl
  have HX := Lib.hid hx
  clear hwa hf0 hb0 hat hl hw hx hC hq
  generalize hK : x.op.cells = K at *
  have HRK := Lib.hid hK
  clear hK
  go_enter Try.func12, Try.ntmps12
  go_upto_region 1 with (fail)
  change Code.wp _ _ _ _ (w.alloc (Obj.cells C.toArray 61))
  rw [← HWA.out]
  go_wp2_with (refine wpList_load_mid rfl 54 _ rfl w.heap.size 248 rfl K _ HK.out Try.underlying54 rfl (row_opn.of HKL.out).2 ?_)
  refine (HG0.out.calls fun S1 k1 f1 s1 => putOpening_any' x.op K HRK.out _ S1 g _ k1 (by have h0 := HL.out; omega) ((HXA.out.op).keep f1 s1)).mono ?_
  rintro e w1 ⟨rfl, hg1⟩
  have HG1 := Lib.hid hg1
  clear hg1 HG0
  go_wp2_with fail
  go_ret
  exact ⟨rfl, (HG1.out.from_ HF0.out).eq rfl⟩
set_option maxHeartbeats 2000000 in
theorem mput_dn (x : Wmg) (hq : x.q = 12) (w : World) (S : List Nat) (g : Nat) (l : List UInt8) (hw : Wr w S g l) (hl : l.length + 70000 ≤ 1073741000) (hx : x.Ok w S) (C : List Value) (hC : x.cells = C) :
    Calls Try.prog 12 #[.pointer (some ⟨g, 0, none⟩), .agg C.toArray] w fun e w' => e = .returned (.bool true) ∧ Gr w S g (l ++ x.dn.full) w' := by
  obtain ⟨wa, hwa⟩ : ∃ wa, wa = w.alloc (Obj.cells C.toArray 61) := ⟨_, rfl⟩
  have hf0 : Fr [] w wa := by rw [hwa]; exact (Fr.refl [] w).alloc _
  have hb0 : Blk wa w.heap.size 61 x.cells.toArray := by rw [hwa, hC]; exact Blk.new _ _ _
  have HNS : Hid (¬ w.heap.size ∈ S) := Lib.hid (fun h => by have := hw.lt _ h; omega)
  have HG0 := Lib.hid (Gr.refl (hw.keep hf0 (by simp)))
  have hat : x.At wa w.heap.size := Wmg.at_of hb0.range hx
  have hq0 : wa.cell? ⟨w.heap.size, 0, none⟩ = some (.int .i64 12) := by have h := hat.q 0 _ rfl; rw [hq] at h; exact h
  have HXA : Hid (x.Ok wa S) := Lib.hid (hx.keep (hf0.mono (T := S) (by simp)) (fun k hk _ => hk))
  have HK : Hid (wa.rangeAt w.heap.size 282 x.dn.cells) := Lib.hid hat.dn
  have HKL : Hid (x.dn.cells.length = 4) := Lib.hid (Wdn.len x.dn)
  have HF0 := Lib.hid hf0
  have HWA := Lib.hid hwa
  have HL := Lib.hid hl
  have HX := Lib.hid hx
  clear hwa hf0 hb0 hat hl hw hx hC hq
  generalize hK : x.dn.cells = K at *
  have HRK := Lib.hid hK
  clear hK
  go_enter Try.func12, Try.ntmps12
  go_upto_region 1 with (fail)
  change Code.wp _ _ _ _ (w.alloc (Obj.cells C.toArray 61))
  rw [← HWA.out]
  go_wp2_with (refine wpList_load_mid rfl 56 _ rfl w.heap.size 282 rfl K _ HK.out Try.underlying56 rfl (row_deny.of HKL.out).2 ?_)
  refine (HG0.out.call fun S1 k1 => putDeny_any' x.dn HX.out.dn K HRK.out _ S1 g _ k1 (by have h0 := HL.out; omega)).mono ?_
  rintro e w1 ⟨rfl, hg1⟩
  have HG1 := Lib.hid hg1
  clear hg1 HG0
  go_wp2_with fail
  go_ret
  exact ⟨rfl, (HG1.out.from_ HF0.out).eq rfl⟩
set_option maxHeartbeats 2000000 in
theorem mput_de (x : Wmg) (hq : x.q = 14) (w : World) (S : List Nat) (g : Nat) (l : List UInt8) (hw : Wr w S g l) (hl : l.length + 70000 ≤ 1073741000) (hx : x.Ok w S) (C : List Value) (hC : x.cells = C) :
    Calls Try.prog 12 #[.pointer (some ⟨g, 0, none⟩), .agg C.toArray] w fun e w' => e = .returned (.bool true) ∧ Gr w S g (l ++ x.de.full) w' := by
  obtain ⟨wa, hwa⟩ : ∃ wa, wa = w.alloc (Obj.cells C.toArray 61) := ⟨_, rfl⟩
  have hf0 : Fr [] w wa := by rw [hwa]; exact (Fr.refl [] w).alloc _
  have hb0 : Blk wa w.heap.size 61 x.cells.toArray := by rw [hwa, hC]; exact Blk.new _ _ _
  have HNS : Hid (¬ w.heap.size ∈ S) := Lib.hid (fun h => by have := hw.lt _ h; omega)
  have HG0 := Lib.hid (Gr.refl (hw.keep hf0 (by simp)))
  have hat : x.At wa w.heap.size := Wmg.at_of hb0.range hx
  have hq0 : wa.cell? ⟨w.heap.size, 0, none⟩ = some (.int .i64 14) := by have h := hat.q 0 _ rfl; rw [hq] at h; exact h
  have HXA : Hid (x.Ok wa S) := Lib.hid (hx.keep (hf0.mono (T := S) (by simp)) (fun k hk _ => hk))
  have HK : Hid (wa.rangeAt w.heap.size 287 x.de.cells) := Lib.hid hat.de
  have HKL : Hid (x.de.cells.length = 8) := Lib.hid (Wdc.len x.de)
  have HF0 := Lib.hid hf0
  have HWA := Lib.hid hwa
  have HL := Lib.hid hl
  have HX := Lib.hid hx
  clear hwa hf0 hb0 hat hl hw hx hC hq
  generalize hK : x.de.cells = K at *
  have HRK := Lib.hid hK
  clear hK
  go_enter Try.func12, Try.ntmps12
  go_upto_region 1 with (fail)
  change Code.wp _ _ _ _ (w.alloc (Obj.cells C.toArray 61))
  rw [← HWA.out]
  go_wp2_with (refine wpList_load_mid rfl 59 _ rfl w.heap.size 287 rfl K _ HK.out Try.underlying59 rfl (row_dec.of HKL.out).2 ?_)
  refine (HG0.out.calls fun S1 k1 f1 s1 => putDecided_any' x.de K HRK.out _ S1 g _ k1 (by have h0 := HL.out; omega) ((HXA.out.de).keep f1 s1)).mono ?_
  rintro e w1 ⟨rfl, hg1⟩
  have HG1 := Lib.hid hg1
  clear hg1 HG0
  go_wp2_with fail
  go_ret
  exact ⟨rfl, (HG1.out.from_ HF0.out).eq rfl⟩
set_option maxHeartbeats 2000000 in
theorem mput_i (x : Wmg) (hq : x.q = 11) (w : World) (S : List Nat) (g : Nat) (l : List UInt8) (hw : Wr w S g l) (hl : l.length + 70000 ≤ 1073741000) (hx : x.Ok w S) (C : List Value) (hC : x.cells = C) :
    Calls Try.prog 12 #[.pointer (some ⟨g, 0, none⟩), .agg C.toArray] w fun e w' => e = .returned (.bool true) ∧ Gr w S g (l ++ encI x.i) w' := by
  obtain ⟨wa, hwa⟩ : ∃ wa, wa = w.alloc (Obj.cells C.toArray 61) := ⟨_, rfl⟩
  have hf0 : Fr [] w wa := by rw [hwa]; exact (Fr.refl [] w).alloc _
  have hb0 : Blk wa w.heap.size 61 x.cells.toArray := by rw [hwa, hC]; exact Blk.new _ _ _
  have HNS : Hid (¬ w.heap.size ∈ S) := Lib.hid (fun h => by have := hw.lt _ h; omega)
  have HG0 := Lib.hid (Gr.refl (hw.keep hf0 (by simp)))
  have hat : x.At wa w.heap.size := Wmg.at_of hb0.range hx
  have hq0 : wa.cell? ⟨w.heap.size, 0, none⟩ = some (.int .i64 11) := by have h := hat.q 0 _ rfl; rw [hq] at h; exact h
  have HXA : Hid (x.Ok wa S) := Lib.hid (hx.keep (hf0.mono (T := S) (by simp)) (fun k hk _ => hk))
  have hi0 : wa.cell? ⟨w.heap.size, 212, none⟩ = some (.int .i64 x.i) := hat.i 0 _ rfl
  have HF0 := Lib.hid hf0
  have HWA := Lib.hid hwa
  have HL := Lib.hid hl
  have HX := Lib.hid hx
  clear hwa hf0 hb0 hat hl hw hx hC hq
  go_enter Try.func12, Try.ntmps12
  go_upto_region 1 with (fail)
  change Code.wp _ _ _ _ (w.alloc (Obj.cells C.toArray 61))
  rw [← HWA.out]
  go_wp2_with fail
  refine (HG0.out.call fun S1 k1 => int_any x.i HX.out.i.1 HX.out.i.2 _ S1 g _ k1 (by have h0 := HL.out; omega)).mono ?_
  rintro e w1 ⟨rfl, hg1⟩
  have HG1 := Lib.hid hg1
  clear hg1 HG0
  go_wp2_with fail
  go_ret
  exact ⟨rfl, (HG1.out.from_ HF0.out).eq rfl⟩
set_option maxHeartbeats 2000000 in
theorem mput_close (x : Wmg) (hq : x.q = 5) (w : World) (S : List Nat) (g : Nat) (l : List UInt8) (hw : Wr w S g l) (hl : l.length + 70000 ≤ 1073741000) (hx : x.Ok w S) (C : List Value) (hC : x.cells = C) :
    Calls Try.prog 12 #[.pointer (some ⟨g, 0, none⟩), .agg C.toArray] w fun e w' => e = .returned (.bool true) ∧ Gr w S g (l ++ (encI x.e ++ encI x.r ++ enc x.tm)) w' := by
  obtain ⟨wa, hwa⟩ : ∃ wa, wa = w.alloc (Obj.cells C.toArray 61) := ⟨_, rfl⟩
  have hf0 : Fr [] w wa := by rw [hwa]; exact (Fr.refl [] w).alloc _
  have hb0 : Blk wa w.heap.size 61 x.cells.toArray := by rw [hwa, hC]; exact Blk.new _ _ _
  have HNS : Hid (¬ w.heap.size ∈ S) := Lib.hid (fun h => by have := hw.lt _ h; omega)
  have HG0 := Lib.hid (Gr.begin hw hf0)
  have hat : x.At wa w.heap.size := Wmg.at_of hb0.range hx
  have hq0 : wa.cell? ⟨w.heap.size, 0, none⟩ = some (.int .i64 5) := by have h := hat.q 0 _ rfl; rw [hq] at h; exact h
  have HXA : Hid (x.Ok wa S) := Lib.hid (hx.keep (hf0.mono (T := S) (by simp)) (fun k hk _ => hk))
  have HC0 : Hid (wa.cell? ⟨w.heap.size, 0 + 154, none⟩ = some (.int .i64 x.e)) := Lib.hid (hat.e 0 _ rfl)
  have HC1 : Hid (wa.cell? ⟨w.heap.size, 0 + 155, none⟩ = some (.int .i64 x.r)) := Lib.hid (hat.r 0 _ rfl)
  have HC2 : Hid (wa.cell? ⟨w.heap.size, 0 + 156, none⟩ = some (.int .u64 (x.tm : Int))) := Lib.hid (hat.tm 0 _ rfl)
  have HF0 := Lib.hid hf0
  have HWA := Lib.hid hwa
  have HL := Lib.hid hl
  have HX := Lib.hid hx
  clear hwa hf0 hb0 hat hl hw hx hC hq
  go_enter Try.func12, Try.ntmps12
  go_upto_region 1 with (fail)
  change Code.wp _ _ _ _ (w.alloc (Obj.cells C.toArray 61))
  rw [← HWA.out]
  go_wp2_with fail
  refine wp_region_held_drew (S := Fr S wa) (by kernel_rfl) (Fr.drew (Fr.refl _ wa)) (fun hHeld => ?_)
  refine run_at (i := 0) (v := ?_) rfl (by kernel_rfl) (by rfl) (fun _ _ _ h => h) hHeld (fun w1 hw1 => ?_) ?_
  rotate_left 1
  · skip
    go_simp
    (try (first | with_reducible rfl | (apply And.intro <;> rfl)))
  simp only [Act.put, List.setIfInBounds_toArray, List.set_cons_zero, List.set_cons_succ]
  refine run_at (i := 1) (v := ?_) rfl (by kernel_rfl) (by rfl) (fun _ _ _ h => h) hHeld (fun w1 hw1 => ?_) ?_
  rotate_left 1
  · skip
    go_simp
    (try (first | with_reducible rfl | (apply And.intro <;> rfl)))
  simp only [Act.put, List.setIfInBounds_toArray, List.set_cons_zero, List.set_cons_succ]
  refine run_at (i := 2) (v := ?_) rfl (by kernel_rfl) (by rfl) (fun _ _ _ h => h) hHeld (fun w1 hw1 => ?_) ?_
  rotate_left 1
  · skip
    have hcw0 := hw1.cell (HC0.out) (by first | (simp; done) | exact HNS.out | exact HNW.out | (intro hm; have hlt := HSB.out _ hm; (try dsimp only at hlt); omega))
    go_simp
    (try (first | with_reducible rfl | (apply And.intro <;> rfl)))
  simp only [Act.put, List.setIfInBounds_toArray, List.set_cons_zero, List.set_cons_succ]
  refine run_at (i := 4) (v := ?_) rfl (by kernel_rfl) (by rfl) (fun _ _ _ h => h) hHeld (fun w1 hw1 => ?_) ?_
  rotate_left 1
  · skip
    go_simp
    (try (first | with_reducible rfl | (apply And.intro <;> rfl)))
  simp only [Act.put, List.setIfInBounds_toArray, List.set_cons_zero, List.set_cons_succ]
  refine run_at (i := 5) (v := ?_) rfl (by kernel_rfl) (by rfl) (fun _ _ _ h => h) hHeld (fun w1 hw1 => ?_) ?_
  rotate_left 1
  · skip
    have hcw0 := hw1.cell (HC1.out) (by first | (simp; done) | exact HNS.out | exact HNW.out | (intro hm; have hlt := HSB.out _ hm; (try dsimp only at hlt); omega))
    go_simp
    (try (first | with_reducible rfl | (apply And.intro <;> rfl)))
  simp only [Act.put, List.setIfInBounds_toArray, List.set_cons_zero, List.set_cons_succ]
  refine run_at (i := 7) (v := ?_) rfl (by kernel_rfl) (by rfl) (fun _ _ _ h => h) hHeld (fun w1 hw1 => ?_) ?_
  rotate_left 1
  · skip
    go_simp
    (try (first | with_reducible rfl | (apply And.intro <;> rfl)))
  simp only [Act.put, List.setIfInBounds_toArray, List.set_cons_zero, List.set_cons_succ]
  refine run_at (i := 8) (v := ?_) rfl (by kernel_rfl) (by rfl) (fun _ _ _ h => h) hHeld (fun w1 hw1 => ?_) ?_
  rotate_left 1
  · skip
    have hcw0 := hw1.cell (HC2.out) (by first | (simp; done) | exact HNS.out | exact HNW.out | (intro hm; have hlt := HSB.out _ hm; (try dsimp only at hlt); omega))
    go_simp
    (try (first | with_reducible rfl | (apply And.intro <;> rfl)))
  simp only [Act.put, List.setIfInBounds_toArray, List.set_cons_zero, List.set_cons_succ]
  refine call_at (i := 3) (f := ?_) (args := ?_) rfl (by kernel_rfl) (by rfl) ?_ ?_
  rotate_left 2
  · go_simp
    (try (first | with_reducible rfl | (apply And.intro <;> rfl)))
  refine (HG0.out.call fun S1 k1 => int_any x.e HX.out.e.1 HX.out.e.2 _ S1 g _ k1 (by have h0 := HL.out; (try simp only [List.length_append, sgL, nmL] at *); omega)).mono ?_
  rintro e w1 ⟨rfl, hg1⟩
  have HG1 := Lib.hid hg1
  refine ⟨_, rfl, hg1.fr, fun hHeld => ?_⟩
  clear hg1 HG0
  simp only [Act.put, List.setIfInBounds_toArray, List.set_cons_zero, List.set_cons_succ]
  refine call_at (i := 6) (f := ?_) (args := ?_) rfl (by kernel_rfl) (by rfl) ?_ ?_
  rotate_left 2
  · go_simp
    (try (first | with_reducible rfl | (apply And.intro <;> rfl)))
  refine (HG1.out.call fun S1 k1 => int_any x.r HX.out.r.1 HX.out.r.2 _ S1 g _ k1 (by have h0 := HL.out; have b0 := encI_len x.e HX.out.e.2; (try simp only [List.length_append, sgL, nmL] at *); omega)).mono ?_
  rintro e w2 ⟨rfl, hg2⟩
  have HG2 := Lib.hid hg2
  refine ⟨_, rfl, hg2.fr, fun hHeld => ?_⟩
  clear hg2 HG1
  simp only [Act.put, List.setIfInBounds_toArray, List.set_cons_zero, List.set_cons_succ]
  refine call_at (i := 9) (f := ?_) (args := ?_) rfl (by kernel_rfl) (by rfl) ?_ ?_
  rotate_left 2
  · go_simp
    (try (first | with_reducible rfl | (apply And.intro <;> rfl)))
  refine (HG2.out.call fun S1 k1 => num_any x.tm HX.out.tm _ S1 g _ k1 (by have h0 := HL.out; have b0 := encI_len x.e HX.out.e.2; have b1 := encI_len x.r HX.out.r.2; (try simp only [List.length_append, sgL, nmL] at *); omega)).mono ?_
  rintro e w3 ⟨rfl, hg3⟩
  have HG3 := Lib.hid hg3
  refine ⟨_, rfl, hg3.fr, fun hHeld => ?_⟩
  clear hg3 HG2
  simp only [Act.put, List.setIfInBounds_toArray, List.set_cons_zero, List.set_cons_succ]
  refine wpAnyH_done (by kernel_rfl) ?_ _
  go_wp2_with fail
  go_ret
  exact ⟨rfl, (HG3.out.from_ HF0.out).eq (by simp [List.append_assoc])⟩
theorem row_ent : RowTy Try.prog 51 35 := ⟨by kernel_rfl, by kernel_rfl⟩
set_option maxHeartbeats 2000000 in
theorem mput_en (x : Wmg) (hq : x.q = 9) (w : World) (S : List Nat) (g : Nat) (l : List UInt8) (hw : Wr w S g l) (hl : l.length + 70000 ≤ 1073741000) (hx : x.Ok w S) (C : List Value) (hC : x.cells = C) :
    Calls Try.prog 12 #[.pointer (some ⟨g, 0, none⟩), .agg C.toArray] w fun e w' => e = .returned (.bool true) ∧ Gr w S g (l ++ (encI x.i ++ x.en.full)) w' := by
  obtain ⟨wa, hwa⟩ : ∃ wa, wa = w.alloc (Obj.cells C.toArray 61) := ⟨_, rfl⟩
  have hf0 : Fr [] w wa := by rw [hwa]; exact (Fr.refl [] w).alloc _
  have hb0 : Blk wa w.heap.size 61 x.cells.toArray := by rw [hwa, hC]; exact Blk.new _ _ _
  have HNS : Hid (¬ w.heap.size ∈ S) := Lib.hid (fun h => by have := hw.lt _ h; omega)
  have HG0 := Lib.hid (Gr.begin hw hf0)
  have hat : x.At wa w.heap.size := Wmg.at_of hb0.range hx
  have hq0 : wa.cell? ⟨w.heap.size, 0, none⟩ = some (.int .i64 9) := by have h := hat.q 0 _ rfl; rw [hq] at h; exact h
  have HXA : Hid (x.Ok wa S) := Lib.hid (hx.keep (hf0.mono (T := S) (by simp)) (fun k hk _ => hk))
  have HC0 : Hid (wa.cell? ⟨w.heap.size, 0 + 212, none⟩ = some (.int .i64 x.i)) := Lib.hid (hat.i 0 _ rfl)
  have HK : Hid (wa.rangeAt w.heap.size (0 + 213) x.en.cells) := Lib.hid hat.en
  have HKL : Hid (x.en.cells.length = 35) := Lib.hid (Wen.len hx.en.h)
  have HF0 := Lib.hid hf0
  have HWA := Lib.hid hwa
  have HL := Lib.hid hl
  have HX := Lib.hid hx
  clear hwa hf0 hb0 hat hl hw hx hC hq
  generalize hK : x.en.cells = K at *
  have HRK := Lib.hid hK
  clear hK
  go_enter Try.func12, Try.ntmps12
  go_upto_region 1 with (fail)
  change Code.wp _ _ _ _ (w.alloc (Obj.cells C.toArray 61))
  rw [← HWA.out]
  go_wp2_with fail
  refine wp_region_held_drew (S := Fr S wa) (by kernel_rfl) (Fr.drew (Fr.refl _ wa)) (fun hHeld => ?_)
  refine run_at (i := 0) (v := ?_) rfl (by kernel_rfl) (by rfl) (fun _ _ _ h => h) hHeld (fun w1 hw1 => ?_) ?_
  rotate_left 1
  · skip
    go_simp
    (try (first | with_reducible rfl | (apply And.intro <;> rfl)))
  simp only [Act.put, List.setIfInBounds_toArray, List.set_cons_zero, List.set_cons_succ]
  refine run_at (i := 1) (v := ?_) rfl (by kernel_rfl) (by rfl) (fun _ _ _ h => h) hHeld (fun w1 hw1 => ?_) ?_
  rotate_left 1
  · skip
    go_simp
    (try (first | with_reducible rfl | (apply And.intro <;> rfl)))
  simp only [Act.put, List.setIfInBounds_toArray, List.set_cons_zero, List.set_cons_succ]
  refine run_at (i := 2) (v := ?_) rfl (by kernel_rfl) (by rfl) (fun _ _ _ h => h) hHeld (fun w1 hw1 => ?_) ?_
  rotate_left 1
  · skip
    have hcw0 := hw1.cell (HC0.out) (by first | (simp; done) | exact HNS.out | exact HNW.out | (intro hm; have hlt := HSB.out _ hm; (try dsimp only at hlt); omega))
    go_simp
    (try (first | with_reducible rfl | (apply And.intro <;> rfl)))
  simp only [Act.put, List.setIfInBounds_toArray, List.set_cons_zero, List.set_cons_succ]
  refine run_at (i := 4) (v := ?_) rfl (by kernel_rfl) (by rfl) (fun _ _ _ h => h) hHeld (fun w1 hw1 => ?_) ?_
  rotate_left 1
  · skip
    go_simp
    (try (first | with_reducible rfl | (apply And.intro <;> rfl)))
  simp only [Act.put, List.setIfInBounds_toArray, List.set_cons_zero, List.set_cons_succ]
  refine row_at (i := 5) rfl (by kernel_rfl) (by rfl) _ _ rfl _ _ rfl _ (fun w1 hw1 => hw1.range (HK.out) (by first | (simp; done) | exact HNS.out | exact HNW.out | (intro hm; have hlt := HSB.out _ hm; (try dsimp only at hlt); omega))) (row_ent.of HKL.out) (fun _ _ _ h => h) hHeld ?_
  simp only [Act.put, List.setIfInBounds_toArray, List.set_cons_zero, List.set_cons_succ]
  refine call_at (i := 3) (f := ?_) (args := ?_) rfl (by kernel_rfl) (by rfl) ?_ ?_
  rotate_left 2
  · go_simp
    (try (first | with_reducible rfl | (apply And.intro <;> rfl)))
  refine (HG0.out.call fun S1 k1 => int_any x.i HX.out.i.1 HX.out.i.2 _ S1 g _ k1 (by have h0 := HL.out; (try simp only [List.length_append, sgL, nmL] at *); omega)).mono ?_
  rintro e w1 ⟨rfl, hg1⟩
  have HG1 := Lib.hid hg1
  refine ⟨_, rfl, hg1.fr, fun hHeld => ?_⟩
  clear hg1 HG0
  simp only [Act.put, List.setIfInBounds_toArray, List.set_cons_zero, List.set_cons_succ]
  refine call_at (i := 6) (f := ?_) (args := ?_) rfl (by kernel_rfl) (by rfl) ?_ ?_
  rotate_left 2
  · go_simp
    (try (first | with_reducible rfl | (apply And.intro <;> rfl)))
  refine (HG1.out.call fun S1 k1 => putEntry_any' x.en HX.out.en K HRK.out _ S1 g _ k1 (by have h0 := HL.out; have b0 := encI_len x.i HX.out.i.2; (try simp only [List.length_append, sgL, nmL] at *); omega)).mono ?_
  rintro e w2 ⟨rfl, hg2⟩
  have HG2 := Lib.hid hg2
  refine ⟨_, rfl, hg2.fr, fun hHeld => ?_⟩
  clear hg2 HG1
  simp only [Act.put, List.setIfInBounds_toArray, List.set_cons_zero, List.set_cons_succ]
  refine wpAnyH_done (by kernel_rfl) ?_ _
  go_wp2_with fail
  go_ret
  exact ⟨rfl, (HG2.out.from_ HF0.out).eq (by simp [List.append_assoc])⟩
set_option maxHeartbeats 2000000 in
theorem mput_reply (x : Wmg) (hq : x.q = 13) (w : World) (S : List Nat) (g : Nat) (l : List UInt8) (hw : Wr w S g l) (hl : l.length + 70000 ≤ 1073741000) (hx : x.Ok w S) (C : List Value) (hC : x.cells = C) :
    Calls Try.prog 12 #[.pointer (some ⟨g, 0, none⟩), .agg C.toArray] w fun e w' => e = .returned (.bool true) ∧ Gr w S g (l ++ (encI x.i ++ (enc x.rp.length ++ x.rp))) w' := by
  obtain ⟨wa, hwa⟩ : ∃ wa, wa = w.alloc (Obj.cells C.toArray 61) := ⟨_, rfl⟩
  have hf0 : Fr [] w wa := by rw [hwa]; exact (Fr.refl [] w).alloc _
  have hb0 : Blk wa w.heap.size 61 x.cells.toArray := by rw [hwa, hC]; exact Blk.new _ _ _
  have HNS : Hid (¬ w.heap.size ∈ S) := Lib.hid (fun h => by have := hw.lt _ h; omega)
  have HG0 := Lib.hid (Gr.begin hw hf0)
  have hat : x.At wa w.heap.size := Wmg.at_of hb0.range hx
  have hq0 : wa.cell? ⟨w.heap.size, 0, none⟩ = some (.int .i64 13) := by have h := hat.q 0 _ rfl; rw [hq] at h; exact h
  have HXA : Hid (x.Ok wa S) := Lib.hid (hx.keep (hf0.mono (T := S) (by simp)) (fun k hk _ => hk))
  have HC0 : Hid (wa.cell? ⟨w.heap.size, 0 + 212, none⟩ = some (.int .i64 x.i)) := Lib.hid (hat.i 0 _ rfl)
  have HC1 : Hid (wa.cell? ⟨w.heap.size, 0 + 286, none⟩ = some (.string ⟨x.rp.toArray⟩)) := Lib.hid (hat.rp 0 _ rfl)
  have HW0 : Hid (Wr wa.drew S g l) := Lib.hid (hw.keep hf0.drew (by simp))
  have HSL : Hid (∀ k ∈ S, k < wa.heap.size) := Lib.hid (fun k hk => Nat.lt_of_lt_of_le (hw.lt k hk) hf0.size)
  have HF0 := Lib.hid hf0
  have HWA := Lib.hid hwa
  have HL := Lib.hid hl
  have HX := Lib.hid hx
  clear hwa hf0 hb0 hat hl hw hx hC hq
  go_enter Try.func12, Try.ntmps12
  go_upto_region 1 with (fail)
  change Code.wp _ _ _ _ (w.alloc (Obj.cells C.toArray 61))
  rw [← HWA.out]
  go_wp2_with fail
  refine wp_region_held_drew (S := Fr S wa) (by kernel_rfl) (Fr.drew (Fr.refl _ wa)) (fun hHeld => ?_)
  refine run_at (i := 0) (v := ?_) rfl (by kernel_rfl) (by rfl) (fun _ _ _ h => h) hHeld (fun w1 hw1 => ?_) ?_
  rotate_left 1
  · skip
    go_simp
    (try (first | with_reducible rfl | (apply And.intro <;> rfl)))
  simp only [Act.put, List.setIfInBounds_toArray, List.set_cons_zero, List.set_cons_succ]
  refine run_at (i := 1) (v := ?_) rfl (by kernel_rfl) (by rfl) (fun _ _ _ h => h) hHeld (fun w1 hw1 => ?_) ?_
  rotate_left 1
  · skip
    go_simp
    (try (first | with_reducible rfl | (apply And.intro <;> rfl)))
  simp only [Act.put, List.setIfInBounds_toArray, List.set_cons_zero, List.set_cons_succ]
  refine run_at (i := 2) (v := ?_) rfl (by kernel_rfl) (by rfl) (fun _ _ _ h => h) hHeld (fun w1 hw1 => ?_) ?_
  rotate_left 1
  · skip
    have hcw0 := hw1.cell (HC0.out) (by first | (simp; done) | exact HNS.out | exact HNW.out | (intro hm; have hlt := HSB.out _ hm; (try dsimp only at hlt); omega))
    go_simp
    (try (first | with_reducible rfl | (apply And.intro <;> rfl)))
  simp only [Act.put, List.setIfInBounds_toArray, List.set_cons_zero, List.set_cons_succ]
  refine run_at (i := 4) (v := ?_) rfl (by kernel_rfl) (by rfl) (fun _ _ _ h => h) hHeld (fun w1 hw1 => ?_) ?_
  rotate_left 1
  · skip
    go_simp
    (try (first | with_reducible rfl | (apply And.intro <;> rfl)))
  simp only [Act.put, List.setIfInBounds_toArray, List.set_cons_zero, List.set_cons_succ]
  refine run_at (i := 5) (v := ?_) rfl (by kernel_rfl) (by rfl) (fun _ _ _ h => h) hHeld (fun w1 hw1 => ?_) ?_
  rotate_left 1
  · skip
    have hcw0 := hw1.cell (HC1.out) (by first | (simp; done) | exact HNS.out | exact HNW.out | (intro hm; have hlt := HSB.out _ hm; (try dsimp only at hlt); omega))
    go_simp
    (try (first | with_reducible rfl | (apply And.intro <;> rfl)))
  simp only [Act.put, List.setIfInBounds_toArray, List.set_cons_zero, List.set_cons_succ]
  refine two_at (i := 3) (j := 6) rfl rfl (by kernel_rfl) (by rfl) (by rfl) (fun K hK => ?_) (fun K hK => ?_)
  focus
    refine wp_call (f := ?_) (args := ?_) ?_ ?_
    rotate_left 2
    · go_simp
      (try (first | with_reducible rfl | (apply And.intro <;> rfl)))
    refine (int_any x.i HX.out.i.1 HX.out.i.2 _ S g _ HW0.out (by have h0 := HL.out; omega)).mono ?_
    rintro e w1 ⟨rfl, S1, hw1, hf1, hs1⟩
    refine ⟨_, rfl, hK.out _ _ (hHeld.trans hf1 (fun x hx _ => hx)) (fun hHeld => ?_)⟩
    clear hK K
    simp only [Act.put, List.setIfInBounds_toArray, List.set_cons_zero, List.set_cons_succ]
    obtain ⟨w2, A, cc, hconv, hf2, hy2, hbk⟩ := conv_str w1 x.rp
    refine step_at (i := 6) rfl (by kernel_rfl) (by rfl) (fun K hK => ?_)
    refine wp_run (v := ?_) (w' := ?_) ?_ ?_
    rotate_left 2
    · have hrun := hconv
      go_simp
      (try (first | with_reducible rfl | (apply And.intro <;> rfl)))
    refine hK.out _ _ (hHeld.trans (hf2.mono (T := S) (by simp)) (fun x hx _ => hx)) (fun hHeld => ?_)
    clear hK K
    simp only [Act.put, List.setIfInBounds_toArray, List.set_cons_zero, List.set_cons_succ]
    have HW : Hid (Wr w2 S1 g (l ++ encI x.i)) := Lib.hid (hw1.keep hf2 (by simp))
    have HS : Hid (∀ k ∈ S1, k < wa.heap.size → k ∈ S) := Lib.hid hs1
    have HY := Lib.hid hy2
    have HA : Hid (∀ k ∈ bk A, ¬ k ∈ S1) := Lib.hid (fun k hk hin => by have h1 := (hbk k hk).1; have h2 := hw1.lt _ hin; omega)
    have HN : Hid (wa.heap.size ≤ w2.heap.size) := Lib.hid (Nat.le_trans hf1.size hf2.size)
    clear hconv hw1 hf1 hf2 hy2 hbk hs1
    generalize w2 = wz at *
  rotate_left
  focus
    obtain ⟨w2, A, cc, hconv, hf2, hy2, hbk⟩ := conv_str wa.drew x.rp
    refine wp_run (v := ?_) (w' := ?_) ?_ ?_
    rotate_left 2
    · have hrun := hconv
      go_simp
      (try (first | with_reducible rfl | (apply And.intro <;> rfl)))
    refine hK.out _ _ (hHeld.trans (hf2.mono (T := S) (by simp)) (fun x hx _ => hx)) (fun hHeld => ?_)
    clear hK K
    simp only [Act.put, List.setIfInBounds_toArray, List.set_cons_zero, List.set_cons_succ]
    refine call_at (i := 3) (f := ?_) (args := ?_) rfl (by kernel_rfl) (by rfl) ?_ ?_
    rotate_left 2
    · go_simp
      (try (first | with_reducible rfl | (apply And.intro <;> rfl)))
    refine (int_any x.i HX.out.i.1 HX.out.i.2 _ S g _ (HW0.out.keep hf2 (by simp)) (by have h0 := HL.out; omega)).mono ?_
    rintro e w1 ⟨rfl, S1, hw1, hf1, hs1⟩
    refine ⟨_, rfl, hHeld.trans hf1 (fun x hx _ => hx), fun hHeld => ?_⟩
    simp only [Act.put, List.setIfInBounds_toArray, List.set_cons_zero, List.set_cons_succ]
    have HW : Hid (Wr w1 S1 g (l ++ encI x.i)) := Lib.hid hw1
    have HS : Hid (∀ k ∈ S1, k < wa.heap.size → k ∈ S) := Lib.hid (fun k hk hl => hs1 k hk (Nat.lt_of_lt_of_le hl hf2.size))
    have HY := Lib.hid (hy2.keep hf1 (fun a ha hin => by have h1 : wa.heap.size ≤ a.block := (hbk a.block (by rw [ha]; simp [bk])).1; have h2 := HSL.out _ hin; omega))
    have HA : Hid (∀ k ∈ bk A, ¬ k ∈ S1) := Lib.hid (fun k hk hin => by have h1 := hbk k hk; have h3 : wa.heap.size ≤ k := h1.1; have h2 := HSL.out _ (hs1 k hin h1.2); omega)
    have HN : Hid (wa.heap.size ≤ w1.heap.size) := Lib.hid (Nat.le_trans (show wa.heap.size ≤ w2.heap.size from hf2.size) hf1.size)
    clear hconv hw1 hf1 hf2 hy2 hbk hs1
    generalize w1 = wz at *
  all_goals
    refine call_at (i := 7) (f := ?_) (args := ?_) rfl (by kernel_rfl) (by rfl) ?_ ?_
    rotate_left 2
    · go_simp
      (try (first | with_reducible rfl | (apply And.intro <;> rfl)))
    refine (row_any A x.rp.length cc x.rp wz HY.out (by have := HX.out.rp; omega) S1 HA.out g _ HW.out (by have h0 := HL.out; have b0 := encI_len x.i HX.out.i.2; simp only [List.length_append]; omega)).mono ?_
    rintro e w3 ⟨rfl, S3, hw3, hf3, hs3⟩
    refine ⟨_, rfl, hHeld.trans hf3 HS.out, fun hHeld => ?_⟩
    simp only [Act.put, List.setIfInBounds_toArray, List.set_cons_zero, List.set_cons_succ]
    have HG : Hid (Gr wa S g (l ++ encI x.i ++ (enc x.rp.length ++ x.rp)) w3) := Lib.hid ⟨S3, hw3, hHeld, fun k hk hl => HS.out k (hs3 k hk (Nat.lt_of_lt_of_le hl HN.out)) hl⟩
    clear hw3 hf3 hs3
    refine wpAnyH_done (by kernel_rfl) ?_ _
    go_wp2_with fail
    go_ret
    exact ⟨rfl, (HG.out.from_ HF0.out).eq (by simp [List.append_assoc])⟩
set_option maxHeartbeats 2000000 in
theorem mput_none (x : Wmg) (hq : ¬ (1 ≤ x.q ∧ x.q ≤ 14)) (w : World) (S : List Nat) (g : Nat) (l : List UInt8) (hw : Wr w S g l) (hl : l.length + 70000 ≤ 1073741000) (hx : x.Ok w S) (C : List Value) (hC : x.cells = C) :
    Calls Try.prog 12 #[.pointer (some ⟨g, 0, none⟩), .agg C.toArray] w fun e w' => e = .returned (.bool false) ∧ Gr w S g l w' := by
  obtain ⟨wa, hwa⟩ : ∃ wa, wa = w.alloc (Obj.cells C.toArray 61) := ⟨_, rfl⟩
  have hf0 : Fr [] w wa := by rw [hwa]; exact (Fr.refl [] w).alloc _
  have hb0 : Blk wa w.heap.size 61 x.cells.toArray := by rw [hwa, hC]; exact Blk.new _ _ _
  have HNS : Hid (¬ w.heap.size ∈ S) := Lib.hid (fun h => by have := hw.lt _ h; omega)
  have HG0 := Lib.hid (Gr.refl (hw.keep hf0 (by simp)))
  have hat : x.At wa w.heap.size := Wmg.at_of hb0.range hx
  have hq0 : wa.cell? ⟨w.heap.size, 0, none⟩ = some (.int .i64 x.q) := hat.q 0 _ rfl
  have HXA : Hid (x.Ok wa S) := Lib.hid (hx.keep (hf0.mono (T := S) (by simp)) (fun k hk _ => hk))
  have HQ := Lib.hid hq
  have HF0 := Lib.hid hf0
  have HWA := Lib.hid hwa
  have HL := Lib.hid hl
  have HX := Lib.hid hx
  clear hwa hf0 hb0 hat hl hw hx hC hq
  go_enter Try.func12, Try.ntmps12
  go_upto_region 1 with (fail)
  change Code.wp _ _ _ _ (w.alloc (Obj.cells C.toArray 61))
  rw [← HWA.out]
  have n1 : (x.q == (1 : Int)) = false := by have := HQ.out; simp; omega
  have n2 : (x.q == (2 : Int)) = false := by have := HQ.out; simp; omega
  have n3 : (x.q == (3 : Int)) = false := by have := HQ.out; simp; omega
  have n4 : (x.q == (4 : Int)) = false := by have := HQ.out; simp; omega
  have n5 : (x.q == (5 : Int)) = false := by have := HQ.out; simp; omega
  have n6 : (x.q == (6 : Int)) = false := by have := HQ.out; simp; omega
  have n7 : (x.q == (7 : Int)) = false := by have := HQ.out; simp; omega
  have n8 : (x.q == (8 : Int)) = false := by have := HQ.out; simp; omega
  have n9 : (x.q == (9 : Int)) = false := by have := HQ.out; simp; omega
  have n10 : (x.q == (10 : Int)) = false := by have := HQ.out; simp; omega
  have n11 : (x.q == (11 : Int)) = false := by have := HQ.out; simp; omega
  have n12 : (x.q == (12 : Int)) = false := by have := HQ.out; simp; omega
  have n13 : (x.q == (13 : Int)) = false := by have := HQ.out; simp; omega
  have n14 : (x.q == (14 : Int)) = false := by have := HQ.out; simp; omega
  go_wp2_with fail
  go_ret
  exact ⟨rfl, HG0.out.from_ HF0.out⟩
/-- what its kind names, as bytes -/
def Wmg.body (x : Wmg) : List UInt8 := if x.q = 1 then x.cm.full else if x.q = 2 then x.st.full else if x.q = 3 then x.ce.full else if x.q = 4 then x.ak.full else if x.q = 5 then encI x.e ++ encI x.r ++ enc x.tm else if x.q = 6 then x.pr.full else if x.q = 7 then x.po.full else if x.q = 8 then x.vt.full else if x.q = 9 then encI x.i ++ x.en.full else if x.q = 10 then x.op.full else if x.q = 11 then encI x.i else if x.q = 12 then x.dn.full else if x.q = 13 then encI x.i ++ (enc x.rp.length ++ x.rp) else if x.q = 14 then x.de.full else []
def Wmg.bytes (x : Wmg) : List UInt8 := encI x.q ++ encI x.f ++ encI x.t ++ x.body
theorem Wmg.body_1 {x : Wmg} (h : x.q = 1) : x.body = x.cm.full := by simp [Wmg.body, h]
theorem Wmg.body_2 {x : Wmg} (h : x.q = 2) : x.body = x.st.full := by simp [Wmg.body, h]
theorem Wmg.body_3 {x : Wmg} (h : x.q = 3) : x.body = x.ce.full := by simp [Wmg.body, h]
theorem Wmg.body_4 {x : Wmg} (h : x.q = 4) : x.body = x.ak.full := by simp [Wmg.body, h]
theorem Wmg.body_5 {x : Wmg} (h : x.q = 5) : x.body = encI x.e ++ encI x.r ++ enc x.tm := by simp [Wmg.body, h]
theorem Wmg.body_6 {x : Wmg} (h : x.q = 6) : x.body = x.pr.full := by simp [Wmg.body, h]
theorem Wmg.body_7 {x : Wmg} (h : x.q = 7) : x.body = x.po.full := by simp [Wmg.body, h]
theorem Wmg.body_8 {x : Wmg} (h : x.q = 8) : x.body = x.vt.full := by simp [Wmg.body, h]
theorem Wmg.body_9 {x : Wmg} (h : x.q = 9) : x.body = encI x.i ++ x.en.full := by simp [Wmg.body, h]
theorem Wmg.body_10 {x : Wmg} (h : x.q = 10) : x.body = x.op.full := by simp [Wmg.body, h]
theorem Wmg.body_11 {x : Wmg} (h : x.q = 11) : x.body = encI x.i := by simp [Wmg.body, h]
theorem Wmg.body_12 {x : Wmg} (h : x.q = 12) : x.body = x.dn.full := by simp [Wmg.body, h]
theorem Wmg.body_13 {x : Wmg} (h : x.q = 13) : x.body = encI x.i ++ (enc x.rp.length ++ x.rp) := by simp [Wmg.body, h]
theorem Wmg.body_14 {x : Wmg} (h : x.q = 14) : x.body = x.de.full := by simp [Wmg.body, h]
theorem Wmg.body_none {x : Wmg} (h : ¬ (1 ≤ x.q ∧ x.q ≤ 14)) : x.body = [] := by
  unfold Wmg.body
  rw [if_neg (by omega)]
  rw [if_neg (by omega)]
  rw [if_neg (by omega)]
  rw [if_neg (by omega)]
  rw [if_neg (by omega)]
  rw [if_neg (by omega)]
  rw [if_neg (by omega)]
  rw [if_neg (by omega)]
  rw [if_neg (by omega)]
  rw [if_neg (by omega)]
  rw [if_neg (by omega)]
  rw [if_neg (by omega)]
  rw [if_neg (by omega)]
  rw [if_neg (by omega)]
theorem Wmg.body_len {w : World} {S : List Nat} {x : Wmg} (hx : x.Ok w S) : x.body.length ≤ 15000 := by
  by_cases hm : 1 ≤ x.q ∧ x.q ≤ 14
  · have hs : x.q = 1 ∨ x.q = 2 ∨ x.q = 3 ∨ x.q = 4 ∨ x.q = 5 ∨ x.q = 6 ∨ x.q = 7 ∨ x.q = 8 ∨ x.q = 9 ∨ x.q = 10 ∨ x.q = 11 ∨ x.q = 12 ∨ x.q = 13 ∨ x.q = 14 := by omega
    rcases hs with h | h | h | h | h | h | h | h | h | h | h | h | h | h
    · rw [Wmg.body_1 h]
      have b0 := Wcm.full_len hx.cm
      omega
    · rw [Wmg.body_2 h]
      have b0 := Wst.full_len hx.st
      omega
    · rw [Wmg.body_3 h]
      have b0 := Wce.full_len hx.ce
      omega
    · rw [Wmg.body_4 h]
      have b0 := Wst.full_len hx.ak
      omega
    · rw [Wmg.body_5 h]
      have b0 := encI_len x.e hx.e.2
      have b1 := encI_len x.r hx.r.2
      have b2 := enc_ten hx.tm
      simp only [List.length_append]
      omega
    · rw [Wmg.body_6 h]
      have b0 := Wpr.full_len hx.pr
      omega
    · rw [Wmg.body_7 h]
      have b0 := Wpo.full_len hx.po
      omega
    · rw [Wmg.body_8 h]
      have b0 := Wvt.full_len hx.vt
      omega
    · rw [Wmg.body_9 h]
      have b0 := encI_len x.i hx.i.2
      have b1 := Wen.full_len hx.en
      simp only [List.length_append]
      omega
    · rw [Wmg.body_10 h]
      have b0 := Wop.full_len hx.op
      omega
    · rw [Wmg.body_11 h]
      have b0 := encI_len x.i hx.i.2
      omega
    · rw [Wmg.body_12 h]
      have b0 := Wdn.full_len hx.dn
      omega
    · rw [Wmg.body_13 h]
      have b0 := encI_len x.i hx.i.2
      have b1 := enc_ten (m := x.rp.length) (by have := hx.rp; omega)
      have b2 := hx.rp
      simp only [List.length_append]
      omega
    · rw [Wmg.body_14 h]
      have b0 := Wdc.full_len hx.de
      omega
  · rw [Wmg.body_none hm]
    exact Nat.zero_le _
theorem mput_any (x : Wmg) (w : World) (S : List Nat) (g : Nat) (l : List UInt8) (hw : Wr w S g l) (hl : l.length + 70000 ≤ 1073741000) (hx : x.Ok w S) (C : List Value) (hC : x.cells = C) :
    Calls Try.prog 12 #[.pointer (some ⟨g, 0, none⟩), .agg C.toArray] w fun e w' => e = .returned (.bool (decide (1 ≤ x.q ∧ x.q ≤ 14))) ∧ Gr w S g (l ++ x.body) w' := by
  by_cases hm : 1 ≤ x.q ∧ x.q ≤ 14
  · rw [decide_eq_true hm]
    have hs : x.q = 1 ∨ x.q = 2 ∨ x.q = 3 ∨ x.q = 4 ∨ x.q = 5 ∨ x.q = 6 ∨ x.q = 7 ∨ x.q = 8 ∨ x.q = 9 ∨ x.q = 10 ∨ x.q = 11 ∨ x.q = 12 ∨ x.q = 13 ∨ x.q = 14 := by omega
    rcases hs with h | h | h | h | h | h | h | h | h | h | h | h | h | h
    · rw [Wmg.body_1 h]; exact mput_cm x h w S g l hw hl hx C hC
    · rw [Wmg.body_2 h]; exact mput_st x h w S g l hw hl hx C hC
    · rw [Wmg.body_3 h]; exact mput_ce x h w S g l hw hl hx C hC
    · rw [Wmg.body_4 h]; exact mput_ak x h w S g l hw hl hx C hC
    · rw [Wmg.body_5 h]; exact mput_close x h w S g l hw hl hx C hC
    · rw [Wmg.body_6 h]; exact mput_pr x h w S g l hw hl hx C hC
    · rw [Wmg.body_7 h]; exact mput_po x h w S g l hw hl hx C hC
    · rw [Wmg.body_8 h]; exact mput_vt x h w S g l hw hl hx C hC
    · rw [Wmg.body_9 h]; exact mput_en x h w S g l hw hl hx C hC
    · rw [Wmg.body_10 h]; exact mput_op x h w S g l hw hl hx C hC
    · rw [Wmg.body_11 h]; exact mput_i x h w S g l hw hl hx C hC
    · rw [Wmg.body_12 h]; exact mput_dn x h w S g l hw hl hx C hC
    · rw [Wmg.body_13 h]; exact mput_reply x h w S g l hw hl hx C hC
    · rw [Wmg.body_14 h]; exact mput_de x h w S g l hw hl hx C hC
  · rw [decide_eq_false hm, Wmg.body_none hm, List.append_nil]
    exact mput_none x hm w S g l hw hl hx C hC
end Go.Proofs.Ytnpjihdhpoddgaa

namespace Go.Proofs.Ytnpjihdhpoddgaa
open Go.RowKit
set_option maxRecDepth 100000
theorem row_msg : RowTy Try.prog 61 295 := ⟨by kernel_rfl, by kernel_rfl⟩
theorem Wmg.len {w : World} {S : List Nat} {x : Wmg} (hx : x.Ok w S) : x.cells.length = 295 := by
  simp only [Wmg.cells, List.length_append, List.length_cons, List.length_nil, Wcm.len hx.cm.h, Wst.len hx.st.h, Wce.len hx.ce.k.h, Wst.len hx.ak.h, Wpr.len, Wpo.len, Wvt.len hx.vt.h, Wen.len hx.en.h, Wop.len hx.op.h, Wdn.len, Wdc.len]
theorem Wmg.bytes_len {w : World} {S : List Nat} {x : Wmg} (hx : x.Ok w S) : x.bytes.length ≤ 15030 := by
  have b0 := encI_len x.q hx.q.2
  have b1 := encI_len x.f hx.f.2
  have b2 := encI_len x.t hx.t.2
  have b3 := Wmg.body_len hx
  simp only [Wmg.bytes, List.length_append]
  omega
/-- what Pack answers -/
def PackPost (w : World) (x : Wmg) (e : Ending) (w' : World) : Prop :=
  if 1 ≤ x.q ∧ x.q ≤ 14 then ∃ A c, e = .returned (.tuple #[.slice A x.bytes.length c, .bool true]) ∧ NewB w w' A x.bytes.length c x.bytes
  else e = .returned (.tuple #[.slice none 0 0, .bool false]) ∧ Fr [] w w'
set_option maxHeartbeats 2000000 in
theorem mpack_any (x : Wmg) (w : World) (hx : x.Ok w []) (C : List Value) (hC : x.cells = C) :
    Calls Try.prog 5 #[.agg C.toArray] w (PackPost w x) := by
  obtain ⟨wa, hwa⟩ : ∃ wa, wa = w.alloc (Obj.cells C.toArray 61) := ⟨_, rfl⟩
  have hf0 : Fr [] w wa := by rw [hwa]; exact (Fr.refl [] w).alloc _
  have hb0 : Blk wa w.heap.size 61 x.cells.toArray := by rw [hwa, hC]; exact Blk.new _ _ _
  have hat : x.At wa w.heap.size := Wmg.at_of hb0.range hx
  have HC0 : Hid (wa.cell? ⟨w.heap.size, 0 + 0, none⟩ = some (.int .i64 x.q)) := Lib.hid (hat.q 0 _ rfl)
  have HC1 : Hid (wa.cell? ⟨w.heap.size, 0 + 1, none⟩ = some (.int .i64 x.f)) := Lib.hid (hat.f 0 _ rfl)
  have HC2 : Hid (wa.cell? ⟨w.heap.size, 0 + 2, none⟩ = some (.int .i64 x.t)) := Lib.hid (hat.t 0 _ rfl)
  have HRG : Hid (wa.rangeAt w.heap.size 0 C) := Lib.hid (hC ▸ hb0.range)
  have HLN : Hid (C.length = 295) := Lib.hid (hC ▸ Wmg.len hx)
  have HXA : Hid (x.Ok wa []) := Lib.hid (hx.keep hf0 (by simp))
  have HBL := Lib.hid (Wmg.bytes_len hx)
  have HBD := Lib.hid (Wmg.body_len hx)
  have HRC := Lib.hid hC
  have HF0 := Lib.hid hf0
  have HWA := Lib.hid hwa
  have HX := Lib.hid hx
  clear hwa hf0 hb0 hat hx hC
  go_enter Try.func5, Try.ntmps5
  go_wp2
  rw [← HWA.out]
  refine wp_region_held_drew (S := Fr [] wa) (by kernel_rfl) (Fr.drew (Fr.refl _ wa)) (fun hHeld => ?_)
  refine run_at (i := 1) (v := ?_) rfl (by kernel_rfl) (by rfl) (fun _ _ _ h => h) hHeld (fun w1 hw1 => ?_) ?_
  rotate_left 1
  · skip
    go_simp
    (try (first | with_reducible rfl | (apply And.intro <;> rfl)))
  simp only [Act.put, List.setIfInBounds_toArray, List.set_cons_zero, List.set_cons_succ]
  refine run_at (i := 2) (v := ?_) rfl (by kernel_rfl) (by rfl) (fun _ _ _ h => h) hHeld (fun w1 hw1 => ?_) ?_
  rotate_left 1
  · skip
    have hcw0 := hw1.cell (HC0.out) (by first | (simp; done) | exact HNS.out | exact HNW.out | (intro hm; have hlt := HSB.out _ hm; (try dsimp only at hlt); omega))
    go_simp
    (try (first | with_reducible rfl | (apply And.intro <;> rfl)))
  simp only [Act.put, List.setIfInBounds_toArray, List.set_cons_zero, List.set_cons_succ]
  refine run_at (i := 4) (v := ?_) rfl (by kernel_rfl) (by rfl) (fun _ _ _ h => h) hHeld (fun w1 hw1 => ?_) ?_
  rotate_left 1
  · skip
    go_simp
    (try (first | with_reducible rfl | (apply And.intro <;> rfl)))
  simp only [Act.put, List.setIfInBounds_toArray, List.set_cons_zero, List.set_cons_succ]
  refine run_at (i := 5) (v := ?_) rfl (by kernel_rfl) (by rfl) (fun _ _ _ h => h) hHeld (fun w1 hw1 => ?_) ?_
  rotate_left 1
  · skip
    have hcw0 := hw1.cell (HC1.out) (by first | (simp; done) | exact HNS.out | exact HNW.out | (intro hm; have hlt := HSB.out _ hm; (try dsimp only at hlt); omega))
    go_simp
    (try (first | with_reducible rfl | (apply And.intro <;> rfl)))
  simp only [Act.put, List.setIfInBounds_toArray, List.set_cons_zero, List.set_cons_succ]
  refine run_at (i := 7) (v := ?_) rfl (by kernel_rfl) (by rfl) (fun _ _ _ h => h) hHeld (fun w1 hw1 => ?_) ?_
  rotate_left 1
  · skip
    go_simp
    (try (first | with_reducible rfl | (apply And.intro <;> rfl)))
  simp only [Act.put, List.setIfInBounds_toArray, List.set_cons_zero, List.set_cons_succ]
  refine run_at (i := 8) (v := ?_) rfl (by kernel_rfl) (by rfl) (fun _ _ _ h => h) hHeld (fun w1 hw1 => ?_) ?_
  rotate_left 1
  · skip
    have hcw0 := hw1.cell (HC2.out) (by first | (simp; done) | exact HNS.out | exact HNW.out | (intro hm; have hlt := HSB.out _ hm; (try dsimp only at hlt); omega))
    go_simp
    (try (first | with_reducible rfl | (apply And.intro <;> rfl)))
  simp only [Act.put, List.setIfInBounds_toArray, List.set_cons_zero, List.set_cons_succ]
  refine call_at (i := 0) (f := ?_) (args := ?_) rfl (by kernel_rfl) (by rfl) ?_ ?_
  rotate_left 2
  · go_simp
    (try (first | with_reducible rfl | (apply And.intro <;> rfl)))
  refine (newWriter_any _).mono ?_
  rintro e w1 ⟨rfl, hw1, hf1⟩
  obtain ⟨g, hg⟩ : ∃ g, g = wa.drew.heap.size := ⟨_, rfl⟩
  have HW1 : Hid (NewWr wa w1 g []) := Lib.hid ⟨[g], hg ▸ hw1, (Fr.drew (Fr.refl [] wa)).trans hf1 (by simp), fun x hx => by simp at hx; subst hx; rw [hg]; exact Nat.le_refl _⟩
  rw [← hg]
  refine ⟨_, rfl, HW1.out.fr, fun hHeld => ?_⟩
  clear hw1 hf1 hg
  simp only [Act.put, List.setIfInBounds_toArray, List.set_cons_zero, List.set_cons_succ]
  refine call_at (i := 3) (f := ?_) (args := ?_) rfl (by kernel_rfl) (by rfl) ?_ ?_
  rotate_left 2
  · go_simp
    (try (first | with_reducible rfl | (apply And.intro <;> rfl)))
  refine (int_head wa w1 g _ HW1.out x.q HX.out.q.1 HX.out.q.2 (by decide)).mono ?_
  rintro e w2 ⟨rfl, hw2⟩
  have HW2 := Lib.hid hw2
  refine ⟨_, rfl, hw2.fr, fun hHeld => ?_⟩
  clear hw2 HW1
  simp only [Act.put, List.setIfInBounds_toArray, List.set_cons_zero, List.set_cons_succ]
  refine call_at (i := 6) (f := ?_) (args := ?_) rfl (by kernel_rfl) (by rfl) ?_ ?_
  rotate_left 2
  · go_simp
    (try (first | with_reducible rfl | (apply And.intro <;> rfl)))
  refine (int_head wa w2 g _ HW2.out x.f HX.out.f.1 HX.out.f.2 (by have b0 := encI_len x.q HX.out.q.2; simp only [List.nil_append]; omega)).mono ?_
  rintro e w3 ⟨rfl, hw3⟩
  have HW3 := Lib.hid hw3
  refine ⟨_, rfl, hw3.fr, fun hHeld => ?_⟩
  clear hw3 HW2
  simp only [Act.put, List.setIfInBounds_toArray, List.set_cons_zero, List.set_cons_succ]
  refine call_at (i := 9) (f := ?_) (args := ?_) rfl (by kernel_rfl) (by rfl) ?_ ?_
  rotate_left 2
  · go_simp
    (try (first | with_reducible rfl | (apply And.intro <;> rfl)))
  refine (int_head wa w3 g _ HW3.out x.t HX.out.t.1 HX.out.t.2 (by have b0 := encI_len x.q HX.out.q.2; have b1 := encI_len x.f HX.out.f.2; simp only [List.nil_append, List.length_append]; omega)).mono ?_
  rintro e w4 ⟨rfl, hw4⟩
  have HW4 := Lib.hid hw4
  refine ⟨_, rfl, hw4.fr, fun hHeld => ?_⟩
  clear hw4 HW3
  simp only [Act.put, List.setIfInBounds_toArray, List.set_cons_zero, List.set_cons_succ]
  refine run_at (i := 10) (v := ?_) rfl (by kernel_rfl) (by rfl) (fun _ _ _ h => h) hHeld (fun w1 hw1 => ?_) ?_
  rotate_left 1
  · skip
    go_simp
    (try (first | with_reducible rfl | (apply And.intro <;> rfl)))
  simp only [Act.put, List.setIfInBounds_toArray, List.set_cons_zero, List.set_cons_succ]
  refine wpAnyH_done (by kernel_rfl) ?_ _
  have HR4 : Hid (w4.rangeAt w.heap.size 0 C) := Lib.hid (HW4.out.fr.range HRG.out (by simp))
  go_wp2_with (refine wpList_load_mid rfl 61 _ rfl w.heap.size 0 rfl C _ HR4.out Try.underlying61 rfl (row_msg.of HLN.out).2 ?_)
  refine (HW4.out.calls fun S1 k1 f1 s1 => mput_any x w4 S1 g _ k1 (by have b0 := encI_len x.q HX.out.q.2; have b1 := encI_len x.f HX.out.f.2; have b2 := encI_len x.t HX.out.t.2; simp only [List.nil_append, List.length_append]; omega) (HXA.out.keep f1 (fun k hk hl => absurd (s1 k hk) (by omega))) C HRC.out).mono ?_
  rintro e w5 ⟨rfl, hw5⟩
  have HW5 : Hid (NewWr wa w5 g x.bytes) := Lib.hid (by rw [Wmg.bytes]; simpa using hw5)
  clear hw5 HW4
  by_cases hm : 1 ≤ x.q ∧ x.q ≤ 14
  · rw [decide_eq_true hm]
    have HM := Lib.hid hm
    clear hm
    go_wp2_with fail
    refine (bytes_head wa w5 g _ HW5.out (by have := HBL.out; omega)).mono ?_
    rintro e w6 ⟨A6, c6, rfl, hn6⟩
    have HN6 := Lib.hid hn6
    clear hn6 HW5
    have hbig : ¬ (65536 < (x.bytes.length : Int)) := by have := HBL.out; omega
    have hbig2 : ¬ (65536 < x.bytes.length) := by have := HBL.out; omega
    go_wp2_with fail
    go_ret2
    unfold PackPost
    rw [if_pos HM.out]
    exact ⟨A6, c6, rfl, HN6.out.1, HF0.out.and HN6.out.2.1 (by simp), fun k hk => Nat.le_trans HF0.out.size (HN6.out.2.2 k hk)⟩
  · rw [decide_eq_false hm]
    have HM := Lib.hid hm
    clear hm
    go_wp2_with fail
    go_ret2
    unfold PackPost
    rw [if_neg HM.out]
    exact ⟨rfl, HF0.out.and HW5.out.fr (by simp)⟩
end Go.Proofs.Ytnpjihdhpoddgaa

namespace Go.Proofs.Ytnpjihdhpoddgaa
open Go.RowKit
set_option maxRecDepth 100000

theorem Blk.mid {g : Nat} {t : TypeId} : ∀ (V M P Z : List Value) (w : World), V.length = M.length → Blk w g t (P ++ (M ++ Z)).toArray → Blk (w.setCells g P.length V) g t (P ++ (V ++ Z)).toArray
  | [], M, P, Z, w, h, hb => by
    have : M = [] := List.eq_nil_of_length_eq_zero (by simpa using h.symm)
    subst this
    exact hb
  | v :: V, [], P, Z, w, h, hb => by simp at h
  | v :: V, m :: M, P, Z, w, h, hb => by
    have h1 := hb.set P.length v
    rw [List.setIfInBounds_toArray, List.set_append_right _ _ (Nat.le_refl _), Nat.sub_self] at h1
    have h2 := Blk.mid V M (P ++ [v]) Z (w.setCell ⟨g, P.length, none⟩ v) (by simpa using h) (by simpa using h1)
    have e : (P ++ [v]).length = P.length + 1 := by simp
    rw [e] at h2
    simpa [World.setCells] using h2
theorem Blk.mid_at {g : Nat} {t : TypeId} {w : World} (V M P Z : List Value) (o : Nat) (ho : P.length = o) (h : V.length = M.length) (cs cs' : List Value) (hc : cs = P ++ (M ++ Z)) (hc' : cs' = P ++ (V ++ Z)) (hb : Blk w g t cs.toArray) : Blk (w.setCells g o V) g t cs'.toArray := by
  subst ho
  subst hc
  subst hc'
  exact Blk.mid V M P Z w h hb
theorem Fr.setCells {S : List Nat} {a : World} {g : Nat} (hg : g < a.heap.size → g ∈ S) : ∀ (V : List Value) (o : Nat) (w : World), Fr S a w → Fr S a (w.setCells g o V)
  | [], _, _, h => h
  | v :: V, o, w, h => Fr.setCells hg V (o + 1) _ (h.setCell ⟨g, o, none⟩ hg v)
theorem own_blk {w : World} {base : Nat} {e : TypeId} {k n c g : Nat} {xs : List Value} (h : w.ownsRow base e k (.slice (some ⟨g, 0, none⟩) n c) n xs) : ∃ R : List Value, Blk w g e (xs ++ R).toArray ∧ (xs ++ R).length = c * k ∧ n ≤ c ∧ c ≤ maxLen ∧ base ≤ g := by
  rcases h.2 with ⟨hv, _⟩ | ⟨g', cap, cur, hv, hb, hh, hnc, hcm, hcs, htk⟩
  · injection hv with h1
    cases h1
  · injection hv with h1 h2 h3
    injection h1 with h1
    injection h1 with h1
    subst h1
    subst h3
    refine ⟨cur.toList.drop (n * k), ?_, ?_, hnc, hcm, hb⟩
    · have e : (xs ++ cur.toList.drop (n * k)).toArray = cur := by rw [← htk, List.take_append_drop]
      unfold Blk
      rw [e]
      exact hh
    · rw [← htk, List.take_append_drop]
      simpa using hcs
/-- an element of a row that the call owns is stored -/
theorem own_put {α : Type} {cells : α → List Value} {w : World} {base : Nat} {e : TypeId} {k n c g : Nat} {l : List α} (h : w.ownsRow base e k (.slice (some ⟨g, 0, none⟩) n c) n (l.flatMap cells)) (hk : ∀ v ∈ l, (cells v).length = k) {i : Nat} (hi : i < l.length) (v : α) (hv : (cells v).length = k) :
    (w.setCells g (i * k) (cells v)).ownsRow base e k (.slice (some ⟨g, 0, none⟩) n c) n ((l.set i v).flatMap cells) ∧ w.there g (i * k) k := by
  obtain ⟨P, x, Q, rfl, hP⟩ : ∃ P x Q, l = P ++ x :: Q ∧ P.length = i := ⟨l.take i, l[i], l.drop (i + 1), by simp, by simp; omega⟩
  obtain ⟨R, hb, hl, hnc, hcm, hbase⟩ := own_blk h
  have hp : (P.flatMap cells).length = i * k := by rw [cells_flat_len (fun u hu => hk u (by simp [hu])), hP]
  have hx : (cells x).length = k := hk x (by simp)
  have hs : (P ++ x :: Q).set i v = P ++ v :: Q := by rw [← hP, List.set_append_right _ _ (Nat.le_refl _), Nat.sub_self]; rfl
  rw [hs]
  have hc : (P ++ x :: Q).flatMap cells ++ R = P.flatMap cells ++ (cells x ++ (Q.flatMap cells ++ R)) := by simp
  have hc' : (P ++ v :: Q).flatMap cells ++ R = P.flatMap cells ++ (cells v ++ (Q.flatMap cells ++ R)) := by simp
  have hb2 := Blk.mid_at (cells v) (cells x) (P.flatMap cells) (Q.flatMap cells ++ R) (i * k) hp (by rw [hv, hx]) _ _ hc hc' hb
  have hlen : ((P ++ v :: Q).flatMap cells).length = ((P ++ x :: Q).flatMap cells).length := by simp [hv, hx]
  have h1 := h.1
  refine ⟨⟨by rw [hlen]; exact h1, .inr ⟨g, c, _, rfl, hbase, hb2, hnc, hcm, ?_, ?_⟩⟩, hb.there _ _ ?_⟩
  · rw [List.size_toArray, ← hl, List.length_append, List.length_append, hlen]
  · rw [← h1, ← hlen]
    exact List.take_left
  · rw [List.size_toArray, hc]
    simp only [List.length_append]
    omega
theorem add_at (g o : Nat) : (⟨g, 0, none⟩ : Addr).add o = ⟨g, o, none⟩ := by unfold Addr.add; split <;> simp_all

def upI (v : Int) : Int := v % 1099511627776
theorem upI_in (v : Int) : i64In (upI v) := by unfold i64In upI; omega
theorem upI_idem (v : Int) : upI (upI v) = upI v := by unfold upI; omega
theorem row_nm2 : RowTy Try.prog 23 2 := ⟨by kernel_rfl, by kernel_rfl⟩
theorem row_sg2 : RowTy Try.prog 27 2 := ⟨by kernel_rfl, by kernel_rfl⟩
theorem built_nm3 (c s : Int) : Try.prog.built 23 [(0, .int .i64 c), (1, .int .i64 s)] = some #[.int .i64 c, .int .i64 s] := by kernel_rfl
theorem built_sg3 (c s : Int) : Try.prog.built 27 [(0, .int .i64 c), (1, .int .i64 s)] = some #[.int .i64 c, .int .i64 s] := by kernel_rfl

end Go.Proofs.Ytnpjihdhpoddgaa

namespace Go.Proofs.Ytnpjihdhpoddgaa
open Go.RowKit
set_option maxRecDepth 100000
def nst (x : Wst) : Wst := ⟨upI x.r, upI x.c, upI x.s, x.h, x.t, upI x.b, upI x.m⟩
def ncm (x : Wcm) : Wcm := ⟨upI x.c, upI x.s, x.h, upI x.n, upI x.b, upI x.m⟩
theorem nst_idem (x : Wst) : nst (nst x) = nst x := by simp [nst, upI_idem]
theorem ncm_idem (x : Wcm) : ncm (ncm x) = ncm x := by simp [ncm, upI_idem]
theorem nst_ok {x : Wst} (h : x.Ok) : (nst x).Ok := ⟨upI_in _, upI_in _, upI_in _, h.h, h.t, upI_in _, upI_in _⟩
theorem ncm_ok {x : Wcm} (h : x.Ok) : (ncm x).Ok := ⟨upI_in _, upI_in _, h.h, upI_in _, upI_in _, upI_in _⟩
theorem mix_set {α : Type} (f : α → α) (l : List α) {k : Nat} (hk : k < l.length) : ((l.take k).map f ++ l.drop k).set k (f l[k]) = (l.take (k + 1)).map f ++ l.drop (k + 1) := by
  have h1 : ((l.take k).map f).length = k := by simp; omega
  rw [List.set_append_right _ _ (by omega), h1, Nat.sub_self, List.drop_eq_getElem_cons hk, List.set_cons_zero, List.take_succ_eq_append_getElem hk, List.map_append, List.append_assoc]
  rfl
theorem mix_get {α : Type} (f : α → α) (l : List α) {k : Nat} (hk : k < l.length) : ((l.take k).map f ++ l.drop k)[k]? = some l[k] := by
  have h1 : ((l.take k).map f).length = k := by simp; omega
  rw [List.getElem?_append_right (by omega), h1, Nat.sub_self, List.drop_eq_getElem_cons hk]
  rfl
theorem mix_len {α : Type} (f : α → α) (l : List α) (k : Nat) : ((l.take k).map f ++ l.drop k).length = l.length := by simp; omega
theorem mix_mem {α : Type} (f : α → α) (l : List α) (k : Nat) {v : α} (hv : v ∈ (l.take k).map f ++ l.drop k) : v ∈ l ∨ ∃ u ∈ l, v = f u := by
  rcases List.mem_append.1 hv with h | h
  · obtain ⟨u, hu, rfl⟩ := List.mem_map.1 h
    exact .inr ⟨u, List.mem_of_mem_take hu, rfl⟩
  · exact .inl (List.mem_of_mem_drop h)
theorem row_stm : RowTy Try.prog 32 38 := ⟨by kernel_rfl, by kernel_rfl⟩
/-- one cell of a block that is known whole is stored -/
theorem wp_store_at {P : Program} {op : Oper} {a : Act} {w : World} {K : Act → World → Prop} {Q : Exit → Act → World → Prop} (ty : TypeId) (x y : Operand) (ho : op.op = .store ty x y)
    (g i : Nat) (v : Value) (hx : a.eval x = .pointer (some ⟨g, i, none⟩)) (hy : a.eval y = v) (h1 : v.oneCell' = true) (t : TypeId) (cs : Array Value) (hb : Blk w g t cs) (hi : i < cs.size) (hsz : (P.info? ty).map (·.size) = some 1)
    (h : K (a.put op.dst undef) (w.setCells g i [v])) : op.wp P a w K Q := by
  subst hy
  have hc := hb.cell i
  rw [Array.getElem?_eq_getElem hi] at hc
  have := run_storeCells_cells (P := P) g i [a.eval y] 0 w (fun j hj => by simp at hj; subst hj; simpa using (by rw [hc]; rfl : (w.cell? ⟨g, i, none⟩).isSome = true)) (fun j hj => by simp at hj; subst hj; simpa using hb.frozen i) (fun u hu => by simp at hu; subst hu; exact h1)
  have hcl : (a.eval y).cells = #[a.eval y] := by cases hv : a.eval y <;> first | rfl | (rw [hv] at h1; cases h1)
  have hrun : (storeVar ty ⟨g, i, none⟩ (a.eval y)).run P w = .ok () (w.setCells g i [a.eval y]) := by
    cases hq : P.info? ty with
    | none => simp [hq] at hsz
    | some j =>
      have hs : j.size = 1 := by simpa [hq] using hsz
      simp only [Nat.add_zero] at this
      simp [storeVar, sizeOf, typeInfo, hq, hcl, hs, this]
  unfold Oper.wp execOp
  simp only [ho, hx, Instr.storeAt, Instr.sureAddr, Sem.run_bind, Sem.run_pure, Result.andThen_ok, hrun]
  exact h
/-- a whole element is stored into a row that the call owns -/
theorem wp_store_el {P : Program} {op : Oper} {a : Act} {w : World} {K : Act → World → Prop} {Q : Exit → Act → World → Prop} (ty : TypeId) (x y : Operand) (ho : op.op = .store ty x y)
    (b o : Nat) (cs : List Value) (hx : a.eval x = .pointer (some ((⟨b, 0, none⟩ : Addr).add o))) (hy : a.eval y = .agg cs.toArray)
    (ht : w.there b o cs.length) (hi : (P.info? ty).map (·.size) = some cs.length) (h1 : cs.toArray.all (·.oneCell') = true)
    (h : K (a.put op.dst undef) (w.setCells b o cs)) : op.wp P a w K Q :=
  wp_store_mid ty x y ho b o cs.toArray (by rw [hx, add_at]) hy (by simpa using ht) (by simpa using hi) h1 (by simpa using h)
theorem wpList_store_el {P : Program} {ops : Array Oper} {rest : List Oper} {op : Oper} {a : Act} {w : World} {Q : Exit → Act → World → Prop} (hg : op.guard = none) (ty : TypeId) (x y : Operand) (ho : op.op = .store ty x y)
    (b o : Nat) (cs : List Value) (hx : a.eval x = .pointer (some ((⟨b, 0, none⟩ : Addr).add o))) (hy : a.eval y = .agg cs.toArray)
    (ht : w.there b o cs.length) (hi : (P.info? ty).map (·.size) = some cs.length) (h1 : cs.toArray.all (·.oneCell') = true)
    (h : wpList P ops Q rest (a.put op.dst undef) (w.setCells b o cs)) : wpList P ops Q (op :: rest) a w :=
  wpList_plain hg fun _ hK => wp_store_el ty x y ho b o cs hx hy ht hi h1 (hK _ _ h)
theorem blk_ce1 {w : World} {g : Nat} {t : TypeId} {k : Wcm} {c s : Int} {u : Value} (hb : Blk w g t (k.cells ++ [u]).toArray) :
    Blk (w.setCells g 0 [.int .i64 c, .int .i64 s]) g t ((⟨c, s, k.h, k.n, k.b, k.m⟩ : Wcm).cells ++ [u]).toArray :=
  Blk.mid_at [.int .i64 c, .int .i64 s] [.int .i64 k.c, .int .i64 k.s] [] (k.h.map by8 ++ [.int .i64 k.n, .int .i64 k.b, .int .i64 k.m] ++ [u]) 0 rfl rfl _ _ (by simp [Wcm.cells]) (by simp [Wcm.cells]) hb
theorem blk_ce2 {w : World} {g : Nat} {t : TypeId} {k : Wcm} (hh : k.h.length = 32) {n : Int} {u : Value} (hb : Blk w g t (k.cells ++ [u]).toArray) :
    Blk (w.setCells g 34 [.int .i64 n]) g t ((⟨k.c, k.s, k.h, n, k.b, k.m⟩ : Wcm).cells ++ [u]).toArray :=
  Blk.mid_at [.int .i64 n] [.int .i64 k.n] ([.int .i64 k.c, .int .i64 k.s] ++ k.h.map by8) ([.int .i64 k.b, .int .i64 k.m] ++ [u]) 34 (by simp [hh]) rfl _ _ (by simp [Wcm.cells]) (by simp [Wcm.cells]) hb
theorem blk_ce3 {w : World} {g : Nat} {t : TypeId} {k : Wcm} (hh : k.h.length = 32) {b m : Int} {u : Value} (hb : Blk w g t (k.cells ++ [u]).toArray) :
    Blk (w.setCells g 35 [.int .i64 b, .int .i64 m]) g t ((⟨k.c, k.s, k.h, k.n, b, m⟩ : Wcm).cells ++ [u]).toArray :=
  Blk.mid_at [.int .i64 b, .int .i64 m] [.int .i64 k.b, .int .i64 k.m] ([.int .i64 k.c, .int .i64 k.s] ++ k.h.map by8 ++ [.int .i64 k.n]) [u] 35 (by simp [hh]) rfl _ _ (by simp [Wcm.cells]) (by simp [Wcm.cells]) hb
theorem blk_st1 {w : World} {g : Nat} {t : TypeId} {x : Wst} {r : Int} (hb : Blk w g t x.cells.toArray) : Blk (w.setCells g 0 [.int .i64 r]) g t (⟨r, x.c, x.s, x.h, x.t, x.b, x.m⟩ : Wst).cells.toArray :=
  Blk.mid_at [.int .i64 r] [.int .i64 x.r] [] ([.int .i64 x.c, .int .i64 x.s] ++ (x.h.map by8 ++ [.int .u64 (x.t : Int), .int .i64 x.b, .int .i64 x.m])) 0 rfl rfl _ _ (by simp [Wst.cells]) (by simp [Wst.cells]) hb
theorem blk_st2 {w : World} {g : Nat} {t : TypeId} {x : Wst} {c s : Int} (hb : Blk w g t x.cells.toArray) : Blk (w.setCells g 1 [.int .i64 c, .int .i64 s]) g t (⟨x.r, c, s, x.h, x.t, x.b, x.m⟩ : Wst).cells.toArray :=
  Blk.mid_at [.int .i64 c, .int .i64 s] [.int .i64 x.c, .int .i64 x.s] [.int .i64 x.r] (x.h.map by8 ++ [.int .u64 (x.t : Int), .int .i64 x.b, .int .i64 x.m]) 1 rfl rfl _ _ (by simp [Wst.cells]) (by simp [Wst.cells]) hb
theorem blk_st3 {w : World} {g : Nat} {t : TypeId} {x : Wst} (hh : x.h.length = 32) {b m : Int} (hb : Blk w g t x.cells.toArray) : Blk (w.setCells g 36 [.int .i64 b, .int .i64 m]) g t (⟨x.r, x.c, x.s, x.h, x.t, b, m⟩ : Wst).cells.toArray :=
  Blk.mid_at [.int .i64 b, .int .i64 m] [.int .i64 x.b, .int .i64 x.m] ([.int .i64 x.r, .int .i64 x.c, .int .i64 x.s] ++ x.h.map by8 ++ [.int .u64 (x.t : Int)]) [] 36 (by simp [hh]) rfl _ _ (by simp [Wst.cells]) (by simp [Wst.cells]) hb

end Go.Proofs.Ytnpjihdhpoddgaa

namespace Go.Proofs.Ytnpjihdhpoddgaa
open Go.RowKit
set_option maxRecDepth 100000
/-- its hashes are hashes -/
structure Wmg.Len (x : Wmg) : Prop where
  cm : x.cm.h.length = 32
  st : x.st.h.length = 32
  ce : x.ce.k.h.length = 32
  ak : x.ak.h.length = 32
  vt : x.vt.h.length = 32
  en : x.en.h.length = 32
  op : x.op.h.length = 32
def mh0 : List UInt8 := List.replicate 32 0
def mb0 : Wba := ⟨0, 0, none, 0, 0, [], none, 0, 0, [], none, 0, 0, []⟩
/-- a message of nothing but its kind, whom it is from and to -/
def mz (q f t : Int) : Wmg := ⟨q, f, t, ⟨0, 0, mh0, 0, 0, 0⟩, ⟨0, 0, 0, mh0, 0, 0, 0⟩, ⟨⟨0, 0, mh0, 0, 0, 0⟩, none, 0, 0, []⟩, ⟨0, 0, 0, mh0, 0, 0, 0⟩, 0, 0, 0, ⟨0, 0, 0, none, 0, 0, [], 0, 0⟩, ⟨0, 0, 0, 0, mb0, 0, 0⟩, ⟨0, 0, 0, 0, mh0, 0, 0⟩, 0, ⟨0, 0, mh0, 0⟩, ⟨0, none, 0, 0, [], mh0⟩, ⟨0, 0, 0, 0⟩, [], ⟨0, 0, mb0, none, 0, 0, []⟩⟩
theorem mz_len (q f t : Int) : (mz q f t).Len := ⟨rfl, rfl, rfl, rfl, rfl, rfl, rfl⟩
theorem Wpo.Li.keep {w W : World} {S S' : List Nat} {x : Wpo} (h : x.Li w S) (hf : Fr S w W) (hs : ∀ k ∈ S', k < w.heap.size → k ∈ S) : x.Li W S' :=
  ⟨h.e, h.r, h.v, h.p, h.k.keep hf hs, h.b, h.m⟩
theorem Wdc.Li.keep {w W : World} {S S' : List Nat} {x : Wdc} (h : x.Li w S) (hf : Fr S w W) (hs : ∀ k ∈ S', k < w.heap.size → k ∈ S) : x.Li W S' :=
  ⟨h.e, h.r, h.k.keep hf hs, h.l.keep' hf h.ap (fun _ _ h => h), h.n, fun hn a ha hin => h.ap hn a ha (hs _ hin (h.l.lt hn (by decide) (fun v hv => Wvt.len (h.l.2.1 v hv).2.h) a ha))⟩
theorem Blk.thereM {w : World} {g : Nat} {t : TypeId} {cs : Array Value} (h : Blk w g t cs) (o n : Nat) (hn : o + n ≤ cs.size) : w.there g o n := fun j hj => by
  have hc := h.cell (o + j)
  rw [Array.getElem?_eq_getElem (by omega)] at hc
  exact ⟨by rw [hc]; rfl, h.frozen (o + j)⟩
theorem Wmg.lenz {x : Wmg} (hx : x.Len) : x.cells.length = 295 := by
  simp only [Wmg.cells, List.length_append, List.length_cons, List.length_nil, Wcm.len hx.cm, Wst.len hx.st, Wce.len hx.ce, Wst.len hx.ak, Wpr.len, Wpo.len, Wvt.len hx.vt, Wen.len hx.en, Wop.len hx.op, Wdn.len, Wdc.len]
theorem Wmg.blk_cm {w : World} {g : Nat} {t : TypeId} {x : Wmg} (hx : x.Len) (v : Wcm) (hv : v.cells.length = 37) (hb : Blk w g t x.cells.toArray) : Blk (w.setCells g 3 v.cells) g t ({x with cm := v} : Wmg).cells.toArray :=
  Blk.mid_at v.cells x.cm.cells ([.int .i64 x.q] ++ ([.int .i64 x.f] ++ ([.int .i64 x.t]))) (x.st.cells ++ (x.ce.cells ++ (x.ak.cells ++ ([.int .i64 x.e] ++ ([.int .i64 x.r] ++ ([.int .u64 (x.tm : Int)] ++ (x.pr.cells ++ (x.po.cells ++ (x.vt.cells ++ ([.int .i64 x.i] ++ (x.en.cells ++ (x.op.cells ++ (x.dn.cells ++ ([.string ⟨x.rp.toArray⟩] ++ (x.de.cells))))))))))))))) 3 (by simp only [List.length_append, List.length_cons, List.length_nil]) (by rw [hv, Wcm.len hx.cm]) _ _ (by simp only [Wmg.cells, List.append_assoc, List.append_nil]) (by simp only [Wmg.cells, List.append_assoc, List.append_nil]) hb
set_option maxHeartbeats 2000000 in
theorem mget_cm (x : Wmg) (hz : x.Len) (hq : x.q = 1) (w : World) (F : List Nat) (g gm : Nat) (s : Ps) (hr : Rs w F g s) (hb : Blk w gm 61 x.cells.toArray) (hgm : gm ≠ g) (hF : ¬ gm ∈ F) :
    Calls Try.prog 41 #[.pointer (some ⟨g, 0, none⟩), .pointer (some ⟨gm, 0, none⟩)] w fun e w' => ∃ v : Wcm, e = .returned (.bool true) ∧ v = (pCm s).1 ∧ (∀ S0 : List Nat, (∀ q ∈ S0, q < w.heap.size) → v.Ok) ∧ Blk w' gm 61 ({x with cm := v} : Wmg).cells.toArray ∧ Rs w' F g (pCm s).2 ∧ Fr [g, gm] w w' := by
  have hq0 : w.cell? ⟨gm, 0, none⟩ = some (.int .i64 1) := by have h := hb.range (cs := x.cells) 0 (.int .i64 x.q) rfl; rw [hq] at h; exact h
  have HR := Lib.hid hr
  have HB := Lib.hid hb
  have HGM := Lib.hid hgm
  have HNF := Lib.hid hF
  have HZ := Lib.hid hz
  have HBS : Hid (x.cells.toArray.size = 295) := Lib.hid (by rw [List.size_toArray]; exact Wmg.lenz hz)
  clear hr hb hgm hF hq hz
  go_enter Try.func41, Try.ntmps41
  go_wp2_with fail
  refine ((gets_of (fun _ _ _ _ hr => getCommit_any hr) pCm_ok) w F g s HR.out).mono ?_
  rintro e w1 ⟨v, rfl, hcv, hok, h1, h2⟩
  have HB1 := Lib.hid (HB.out.keep h2 (by have := HGM.out; simpa using this))
  have HCV := Lib.hid hcv
  have HOK := Lib.hid hok
  have HR1 := Lib.hid h1
  have HF1 := Lib.hid h2
  have HVL : Hid (v.cells.length = 37) := Lib.hid (by have hok_ := hok [] (by simp); exact Wcm.len (hok_.h))
  have HONE : Hid (v.cells.toArray.all (·.oneCell') = true) := Lib.hid (all_oneCell_toArray (Wcm.one v))
  have HB2 := Lib.hid (Wmg.blk_cm HZ.out v HVL.out HB1.out)
  have HTH : Hid (w1.there gm 3 v.cells.toArray.size) := Lib.hid (HB1.out.thereM _ _ (by rw [List.size_toArray, HVL.out, HBS.out]; omega))
  have HSZ : Hid ((Try.prog.info? 29).map (·.size) = some v.cells.toArray.size) := Lib.hid (by rw [List.size_toArray, HVL.out]; kernel_rfl)
  have HF2 : Hid (Fr [gm] w1 (w1.setCells gm 3 v.cells)) := Lib.hid (Fr.setCells (fun _ => by simp) v.cells 3 w1 (Fr.refl _ _))
  clear hcv hok h1 h2
  obtain ⟨V, hV⟩ : ∃ V : List Value, V = v.cells := ⟨_, rfl⟩
  rw [← hV] at HVL HONE HTH HSZ HF2 HB2 ⊢
  have HVV := Lib.hid hV
  clear hV
  go_wp2_with (refine wpList_store_mid rfl 29 _ _ rfl gm 3 V.toArray rfl rfl HTH.out HSZ.out HONE.out ?_)
  change bodyPost _ _ _ _ _ (w1.setCells gm 3 V)
  generalize w1.setCells gm 3 V = w2 at *
  go_ret
  exact ⟨v, rfl, HCV.out, fun S0 h0 => HOK.out S0 h0, HB2.out, HR1.out.fr HF2.out (by have := HGM.out; simp; exact fun h => this h.symm) (fun q hq hm => HNF.out (by simp at hm; exact hm ▸ hq)), (HF1.out.mono (fun q hq _ => by simp at hq; simp [hq])).trans HF2.out (fun q hq _ => by simp at hq; simp [hq])⟩
theorem Wmg.blk_st {w : World} {g : Nat} {t : TypeId} {x : Wmg} (hx : x.Len) (v : Wst) (hv : v.cells.length = 38) (hb : Blk w g t x.cells.toArray) : Blk (w.setCells g 40 v.cells) g t ({x with st := v} : Wmg).cells.toArray :=
  Blk.mid_at v.cells x.st.cells ([.int .i64 x.q] ++ ([.int .i64 x.f] ++ ([.int .i64 x.t] ++ (x.cm.cells)))) (x.ce.cells ++ (x.ak.cells ++ ([.int .i64 x.e] ++ ([.int .i64 x.r] ++ ([.int .u64 (x.tm : Int)] ++ (x.pr.cells ++ (x.po.cells ++ (x.vt.cells ++ ([.int .i64 x.i] ++ (x.en.cells ++ (x.op.cells ++ (x.dn.cells ++ ([.string ⟨x.rp.toArray⟩] ++ (x.de.cells)))))))))))))) 40 (by simp only [List.length_append, List.length_cons, List.length_nil, Wcm.len hx.cm]) (by rw [hv, Wst.len hx.st]) _ _ (by simp only [Wmg.cells, List.append_assoc, List.append_nil]) (by simp only [Wmg.cells, List.append_assoc, List.append_nil]) hb
set_option maxHeartbeats 2000000 in
theorem mget_st (x : Wmg) (hz : x.Len) (hq : x.q = 2) (w : World) (F : List Nat) (g gm : Nat) (s : Ps) (hr : Rs w F g s) (hb : Blk w gm 61 x.cells.toArray) (hgm : gm ≠ g) (hF : ¬ gm ∈ F) :
    Calls Try.prog 41 #[.pointer (some ⟨g, 0, none⟩), .pointer (some ⟨gm, 0, none⟩)] w fun e w' => ∃ v : Wst, e = .returned (.bool true) ∧ v = (pSt s).1 ∧ (∀ S0 : List Nat, (∀ q ∈ S0, q < w.heap.size) → v.Ok) ∧ Blk w' gm 61 ({x with st := v} : Wmg).cells.toArray ∧ Rs w' F g (pSt s).2 ∧ Fr [g, gm] w w' := by
  have hq0 : w.cell? ⟨gm, 0, none⟩ = some (.int .i64 2) := by have h := hb.range (cs := x.cells) 0 (.int .i64 x.q) rfl; rw [hq] at h; exact h
  have HR := Lib.hid hr
  have HB := Lib.hid hb
  have HGM := Lib.hid hgm
  have HNF := Lib.hid hF
  have HZ := Lib.hid hz
  have HBS : Hid (x.cells.toArray.size = 295) := Lib.hid (by rw [List.size_toArray]; exact Wmg.lenz hz)
  clear hr hb hgm hF hq hz
  go_enter Try.func41, Try.ntmps41
  go_wp2_with fail
  refine ((gets_of (fun _ _ _ _ hr => getStamp_any hr) pSt_ok) w F g s HR.out).mono ?_
  rintro e w1 ⟨v, rfl, hcv, hok, h1, h2⟩
  have HB1 := Lib.hid (HB.out.keep h2 (by have := HGM.out; simpa using this))
  have HCV := Lib.hid hcv
  have HOK := Lib.hid hok
  have HR1 := Lib.hid h1
  have HF1 := Lib.hid h2
  have HVL : Hid (v.cells.length = 38) := Lib.hid (by have hok_ := hok [] (by simp); exact Wst.len (hok_.h))
  have HONE : Hid (v.cells.toArray.all (·.oneCell') = true) := Lib.hid (all_oneCell_toArray (Wst.one v))
  have HB2 := Lib.hid (Wmg.blk_st HZ.out v HVL.out HB1.out)
  have HTH : Hid (w1.there gm 40 v.cells.toArray.size) := Lib.hid (HB1.out.thereM _ _ (by rw [List.size_toArray, HVL.out, HBS.out]; omega))
  have HSZ : Hid ((Try.prog.info? 32).map (·.size) = some v.cells.toArray.size) := Lib.hid (by rw [List.size_toArray, HVL.out]; kernel_rfl)
  have HF2 : Hid (Fr [gm] w1 (w1.setCells gm 40 v.cells)) := Lib.hid (Fr.setCells (fun _ => by simp) v.cells 40 w1 (Fr.refl _ _))
  clear hcv hok h1 h2
  obtain ⟨V, hV⟩ : ∃ V : List Value, V = v.cells := ⟨_, rfl⟩
  rw [← hV] at HVL HONE HTH HSZ HF2 HB2 ⊢
  have HVV := Lib.hid hV
  clear hV
  go_wp2_with (refine wpList_store_mid rfl 32 _ _ rfl gm 40 V.toArray rfl rfl HTH.out HSZ.out HONE.out ?_)
  change bodyPost _ _ _ _ _ (w1.setCells gm 40 V)
  generalize w1.setCells gm 40 V = w2 at *
  go_ret
  exact ⟨v, rfl, HCV.out, fun S0 h0 => HOK.out S0 h0, HB2.out, HR1.out.fr HF2.out (by have := HGM.out; simp; exact fun h => this h.symm) (fun q hq hm => HNF.out (by simp at hm; exact hm ▸ hq)), (HF1.out.mono (fun q hq _ => by simp at hq; simp [hq])).trans HF2.out (fun q hq _ => by simp at hq; simp [hq])⟩
theorem Wmg.blk_ce {w : World} {g : Nat} {t : TypeId} {x : Wmg} (hx : x.Len) (v : Wce) (hv : v.cells.length = 38) (hb : Blk w g t x.cells.toArray) : Blk (w.setCells g 78 v.cells) g t ({x with ce := v} : Wmg).cells.toArray :=
  Blk.mid_at v.cells x.ce.cells ([.int .i64 x.q] ++ ([.int .i64 x.f] ++ ([.int .i64 x.t] ++ (x.cm.cells ++ (x.st.cells))))) (x.ak.cells ++ ([.int .i64 x.e] ++ ([.int .i64 x.r] ++ ([.int .u64 (x.tm : Int)] ++ (x.pr.cells ++ (x.po.cells ++ (x.vt.cells ++ ([.int .i64 x.i] ++ (x.en.cells ++ (x.op.cells ++ (x.dn.cells ++ ([.string ⟨x.rp.toArray⟩] ++ (x.de.cells))))))))))))) 78 (by simp only [List.length_append, List.length_cons, List.length_nil, Wcm.len hx.cm, Wst.len hx.st]) (by rw [hv, Wce.len hx.ce]) _ _ (by simp only [Wmg.cells, List.append_assoc, List.append_nil]) (by simp only [Wmg.cells, List.append_assoc, List.append_nil]) hb
set_option maxHeartbeats 2000000 in
theorem mget_ce (x : Wmg) (hz : x.Len) (hq : x.q = 3) (w : World) (F : List Nat) (g gm : Nat) (s : Ps) (hr : Rs w F g s) (hb : Blk w gm 61 x.cells.toArray) (hgm : gm ≠ g) (hF : ¬ gm ∈ F) :
    Calls Try.prog 41 #[.pointer (some ⟨g, 0, none⟩), .pointer (some ⟨gm, 0, none⟩)] w fun e w' => ∃ v : Wce, e = .returned (.bool true) ∧ v.con = (pCe s).1 ∧ (∀ S0 : List Nat, (∀ q ∈ S0, q < w.heap.size) → v.Li w' S0) ∧ Blk w' gm 61 ({x with ce := v} : Wmg).cells.toArray ∧ Rs w' F g (pCe s).2 ∧ Fr [g, gm] w w' := by
  have hq0 : w.cell? ⟨gm, 0, none⟩ = some (.int .i64 3) := by have h := hb.range (cs := x.cells) 0 (.int .i64 x.q) rfl; rw [hq] at h; exact h
  have HR := Lib.hid hr
  have HB := Lib.hid hb
  have HGM := Lib.hid hgm
  have HNF := Lib.hid hF
  have HZ := Lib.hid hz
  have HBS : Hid (x.cells.toArray.size = 295) := Lib.hid (by rw [List.size_toArray]; exact Wmg.lenz hz)
  clear hr hb hgm hF hq hz
  go_enter Try.func41, Try.ntmps41
  go_wp2_with fail
  refine (getCert_any w F g s HR.out).mono ?_
  rintro e w1 ⟨v, rfl, hcv, hok, h1, h2⟩
  have HB1 := Lib.hid (HB.out.keep h2 (by have := HGM.out; simpa using this))
  have HCV := Lib.hid hcv
  have HOK := Lib.hid hok
  have HR1 := Lib.hid h1
  have HF1 := Lib.hid h2
  have HVL : Hid (v.cells.length = 38) := Lib.hid (by have hok_ := hok [] (by simp); exact Wce.len (hok_.k.h))
  have HONE : Hid (v.cells.toArray.all (·.oneCell') = true) := Lib.hid (all_oneCell_toArray (Wce.one v))
  have HB2 := Lib.hid (Wmg.blk_ce HZ.out v HVL.out HB1.out)
  have HTH : Hid (w1.there gm 78 v.cells.toArray.size) := Lib.hid (HB1.out.thereM _ _ (by rw [List.size_toArray, HVL.out, HBS.out]; omega))
  have HSZ : Hid ((Try.prog.info? 35).map (·.size) = some v.cells.toArray.size) := Lib.hid (by rw [List.size_toArray, HVL.out]; kernel_rfl)
  have HF2 : Hid (Fr [gm] w1 (w1.setCells gm 78 v.cells)) := Lib.hid (Fr.setCells (fun _ => by simp) v.cells 78 w1 (Fr.refl _ _))
  clear hcv hok h1 h2
  obtain ⟨V, hV⟩ : ∃ V : List Value, V = v.cells := ⟨_, rfl⟩
  rw [← hV] at HVL HONE HTH HSZ HF2 HB2 ⊢
  have HVV := Lib.hid hV
  clear hV
  go_wp2_with (refine wpList_store_mid rfl 35 _ _ rfl gm 78 V.toArray rfl rfl HTH.out HSZ.out HONE.out ?_)
  change bodyPost _ _ _ _ _ (w1.setCells gm 78 V)
  generalize w1.setCells gm 78 V = w2 at *
  go_ret
  exact ⟨v, rfl, HCV.out, fun S0 h0 => (HOK.out (gm :: S0) (fun q hq => by rcases List.mem_cons.1 hq with rfl | hq; exact HB.out.lt; exact h0 q hq)).keep (HF2.out.mono (fun q hq _ => by simp at hq; simp [hq])) (fun q hq _ => by simp [hq]), HB2.out, HR1.out.fr HF2.out (by have := HGM.out; simp; exact fun h => this h.symm) (fun q hq hm => HNF.out (by simp at hm; exact hm ▸ hq)), (HF1.out.mono (fun q hq _ => by simp at hq; simp [hq])).trans HF2.out (fun q hq _ => by simp at hq; simp [hq])⟩
theorem Wmg.blk_ak {w : World} {g : Nat} {t : TypeId} {x : Wmg} (hx : x.Len) (v : Wst) (hv : v.cells.length = 38) (hb : Blk w g t x.cells.toArray) : Blk (w.setCells g 116 v.cells) g t ({x with ak := v} : Wmg).cells.toArray :=
  Blk.mid_at v.cells x.ak.cells ([.int .i64 x.q] ++ ([.int .i64 x.f] ++ ([.int .i64 x.t] ++ (x.cm.cells ++ (x.st.cells ++ (x.ce.cells)))))) ([.int .i64 x.e] ++ ([.int .i64 x.r] ++ ([.int .u64 (x.tm : Int)] ++ (x.pr.cells ++ (x.po.cells ++ (x.vt.cells ++ ([.int .i64 x.i] ++ (x.en.cells ++ (x.op.cells ++ (x.dn.cells ++ ([.string ⟨x.rp.toArray⟩] ++ (x.de.cells)))))))))))) 116 (by simp only [List.length_append, List.length_cons, List.length_nil, Wcm.len hx.cm, Wst.len hx.st, Wce.len hx.ce]) (by rw [hv, Wst.len hx.ak]) _ _ (by simp only [Wmg.cells, List.append_assoc, List.append_nil]) (by simp only [Wmg.cells, List.append_assoc, List.append_nil]) hb
set_option maxHeartbeats 2000000 in
theorem mget_ak (x : Wmg) (hz : x.Len) (hq : x.q = 4) (w : World) (F : List Nat) (g gm : Nat) (s : Ps) (hr : Rs w F g s) (hb : Blk w gm 61 x.cells.toArray) (hgm : gm ≠ g) (hF : ¬ gm ∈ F) :
    Calls Try.prog 41 #[.pointer (some ⟨g, 0, none⟩), .pointer (some ⟨gm, 0, none⟩)] w fun e w' => ∃ v : Wst, e = .returned (.bool true) ∧ v = (pSt s).1 ∧ (∀ S0 : List Nat, (∀ q ∈ S0, q < w.heap.size) → v.Ok) ∧ Blk w' gm 61 ({x with ak := v} : Wmg).cells.toArray ∧ Rs w' F g (pSt s).2 ∧ Fr [g, gm] w w' := by
  have hq0 : w.cell? ⟨gm, 0, none⟩ = some (.int .i64 4) := by have h := hb.range (cs := x.cells) 0 (.int .i64 x.q) rfl; rw [hq] at h; exact h
  have HR := Lib.hid hr
  have HB := Lib.hid hb
  have HGM := Lib.hid hgm
  have HNF := Lib.hid hF
  have HZ := Lib.hid hz
  have HBS : Hid (x.cells.toArray.size = 295) := Lib.hid (by rw [List.size_toArray]; exact Wmg.lenz hz)
  clear hr hb hgm hF hq hz
  go_enter Try.func41, Try.ntmps41
  go_wp2_with fail
  refine ((gets_of (fun _ _ _ _ hr => getAck_any hr) pSt_ok) w F g s HR.out).mono ?_
  rintro e w1 ⟨v, rfl, hcv, hok, h1, h2⟩
  have HB1 := Lib.hid (HB.out.keep h2 (by have := HGM.out; simpa using this))
  have HCV := Lib.hid hcv
  have HOK := Lib.hid hok
  have HR1 := Lib.hid h1
  have HF1 := Lib.hid h2
  have HVL : Hid (v.cells.length = 38) := Lib.hid (by have hok_ := hok [] (by simp); exact Wst.len (hok_.h))
  have HONE : Hid (v.cells.toArray.all (·.oneCell') = true) := Lib.hid (all_oneCell_toArray (Wst.one v))
  have HB2 := Lib.hid (Wmg.blk_ak HZ.out v HVL.out HB1.out)
  have HTH : Hid (w1.there gm 116 v.cells.toArray.size) := Lib.hid (HB1.out.thereM _ _ (by rw [List.size_toArray, HVL.out, HBS.out]; omega))
  have HSZ : Hid ((Try.prog.info? 37).map (·.size) = some v.cells.toArray.size) := Lib.hid (by rw [List.size_toArray, HVL.out]; kernel_rfl)
  have HF2 : Hid (Fr [gm] w1 (w1.setCells gm 116 v.cells)) := Lib.hid (Fr.setCells (fun _ => by simp) v.cells 116 w1 (Fr.refl _ _))
  clear hcv hok h1 h2
  obtain ⟨V, hV⟩ : ∃ V : List Value, V = v.cells := ⟨_, rfl⟩
  rw [← hV] at HVL HONE HTH HSZ HF2 HB2 ⊢
  have HVV := Lib.hid hV
  clear hV
  go_wp2_with (refine wpList_store_mid rfl 37 _ _ rfl gm 116 V.toArray rfl rfl HTH.out HSZ.out HONE.out ?_)
  change bodyPost _ _ _ _ _ (w1.setCells gm 116 V)
  generalize w1.setCells gm 116 V = w2 at *
  go_ret
  exact ⟨v, rfl, HCV.out, fun S0 h0 => HOK.out S0 h0, HB2.out, HR1.out.fr HF2.out (by have := HGM.out; simp; exact fun h => this h.symm) (fun q hq hm => HNF.out (by simp at hm; exact hm ▸ hq)), (HF1.out.mono (fun q hq _ => by simp at hq; simp [hq])).trans HF2.out (fun q hq _ => by simp at hq; simp [hq])⟩
theorem Wmg.blk_pr {w : World} {g : Nat} {t : TypeId} {x : Wmg} (hx : x.Len) (v : Wpr) (hv : v.cells.length = 6) (hb : Blk w g t x.cells.toArray) : Blk (w.setCells g 157 v.cells) g t ({x with pr := v} : Wmg).cells.toArray :=
  Blk.mid_at v.cells x.pr.cells ([.int .i64 x.q] ++ ([.int .i64 x.f] ++ ([.int .i64 x.t] ++ (x.cm.cells ++ (x.st.cells ++ (x.ce.cells ++ (x.ak.cells ++ ([.int .i64 x.e] ++ ([.int .i64 x.r] ++ ([.int .u64 (x.tm : Int)])))))))))) (x.po.cells ++ (x.vt.cells ++ ([.int .i64 x.i] ++ (x.en.cells ++ (x.op.cells ++ (x.dn.cells ++ ([.string ⟨x.rp.toArray⟩] ++ (x.de.cells)))))))) 157 (by simp only [List.length_append, List.length_cons, List.length_nil, Wcm.len hx.cm, Wst.len hx.st, Wce.len hx.ce, Wst.len hx.ak]) (by rw [hv, Wpr.len x.pr]) _ _ (by simp only [Wmg.cells, List.append_assoc, List.append_nil]) (by simp only [Wmg.cells, List.append_assoc, List.append_nil]) hb
set_option maxHeartbeats 2000000 in
theorem mget_pr (x : Wmg) (hz : x.Len) (hq : x.q = 6) (w : World) (F : List Nat) (g gm : Nat) (s : Ps) (hr : Rs w F g s) (hb : Blk w gm 61 x.cells.toArray) (hgm : gm ≠ g) (hF : ¬ gm ∈ F) :
    Calls Try.prog 41 #[.pointer (some ⟨g, 0, none⟩), .pointer (some ⟨gm, 0, none⟩)] w fun e w' => ∃ v : Wpr, e = .returned (.bool true) ∧ v.con = (pPr s).1 ∧ (∀ S0 : List Nat, (∀ q ∈ S0, q < w.heap.size) → v.Li w' S0) ∧ Blk w' gm 61 ({x with pr := v} : Wmg).cells.toArray ∧ Rs w' F g (pPr s).2 ∧ Fr [g, gm] w w' := by
  have hq0 : w.cell? ⟨gm, 0, none⟩ = some (.int .i64 6) := by have h := hb.range (cs := x.cells) 0 (.int .i64 x.q) rfl; rw [hq] at h; exact h
  have HR := Lib.hid hr
  have HB := Lib.hid hb
  have HGM := Lib.hid hgm
  have HNF := Lib.hid hF
  have HZ := Lib.hid hz
  have HBS : Hid (x.cells.toArray.size = 295) := Lib.hid (by rw [List.size_toArray]; exact Wmg.lenz hz)
  clear hr hb hgm hF hq hz
  go_enter Try.func41, Try.ntmps41
  go_wp2_with fail
  refine (getPromise_any w F g s HR.out).mono ?_
  rintro e w1 ⟨v, rfl, hcv, hok, h1, h2⟩
  have HB1 := Lib.hid (HB.out.keep h2 (by have := HGM.out; simpa using this))
  have HCV := Lib.hid hcv
  have HOK := Lib.hid hok
  have HR1 := Lib.hid h1
  have HF1 := Lib.hid h2
  have HVL : Hid (v.cells.length = 6) := Lib.hid (by have hok_ := hok [] (by simp); exact Wpr.len v)
  have HONE : Hid (v.cells.toArray.all (·.oneCell') = true) := Lib.hid (all_oneCell_toArray (Wpr.one v))
  have HB2 := Lib.hid (Wmg.blk_pr HZ.out v HVL.out HB1.out)
  have HTH : Hid (w1.there gm 157 v.cells.toArray.size) := Lib.hid (HB1.out.thereM _ _ (by rw [List.size_toArray, HVL.out, HBS.out]; omega))
  have HSZ : Hid ((Try.prog.info? 40).map (·.size) = some v.cells.toArray.size) := Lib.hid (by rw [List.size_toArray, HVL.out]; kernel_rfl)
  have HF2 : Hid (Fr [gm] w1 (w1.setCells gm 157 v.cells)) := Lib.hid (Fr.setCells (fun _ => by simp) v.cells 157 w1 (Fr.refl _ _))
  clear hcv hok h1 h2
  obtain ⟨V, hV⟩ : ∃ V : List Value, V = v.cells := ⟨_, rfl⟩
  rw [← hV] at HVL HONE HTH HSZ HF2 HB2 ⊢
  have HVV := Lib.hid hV
  clear hV
  go_wp2_with (refine wpList_store_mid rfl 40 _ _ rfl gm 157 V.toArray rfl rfl HTH.out HSZ.out HONE.out ?_)
  change bodyPost _ _ _ _ _ (w1.setCells gm 157 V)
  generalize w1.setCells gm 157 V = w2 at *
  go_ret
  exact ⟨v, rfl, HCV.out, fun S0 h0 => (HOK.out (gm :: S0) (fun q hq => by rcases List.mem_cons.1 hq with rfl | hq; exact HB.out.lt; exact h0 q hq)).keep (HF2.out.mono (fun q hq _ => by simp at hq; simp [hq])) (fun q hq _ => by simp [hq]), HB2.out, HR1.out.fr HF2.out (by have := HGM.out; simp; exact fun h => this h.symm) (fun q hq hm => HNF.out (by simp at hm; exact hm ▸ hq)), (HF1.out.mono (fun q hq _ => by simp at hq; simp [hq])).trans HF2.out (fun q hq _ => by simp at hq; simp [hq])⟩
theorem Wmg.blk_po {w : World} {g : Nat} {t : TypeId} {x : Wmg} (hx : x.Len) (v : Wpo) (hv : v.cells.length = 11) (hb : Blk w g t x.cells.toArray) : Blk (w.setCells g 163 v.cells) g t ({x with po := v} : Wmg).cells.toArray :=
  Blk.mid_at v.cells x.po.cells ([.int .i64 x.q] ++ ([.int .i64 x.f] ++ ([.int .i64 x.t] ++ (x.cm.cells ++ (x.st.cells ++ (x.ce.cells ++ (x.ak.cells ++ ([.int .i64 x.e] ++ ([.int .i64 x.r] ++ ([.int .u64 (x.tm : Int)] ++ (x.pr.cells))))))))))) (x.vt.cells ++ ([.int .i64 x.i] ++ (x.en.cells ++ (x.op.cells ++ (x.dn.cells ++ ([.string ⟨x.rp.toArray⟩] ++ (x.de.cells))))))) 163 (by simp only [List.length_append, List.length_cons, List.length_nil, Wcm.len hx.cm, Wst.len hx.st, Wce.len hx.ce, Wst.len hx.ak, Wpr.len x.pr]) (by rw [hv, Wpo.len x.po]) _ _ (by simp only [Wmg.cells, List.append_assoc, List.append_nil]) (by simp only [Wmg.cells, List.append_assoc, List.append_nil]) hb
set_option maxHeartbeats 2000000 in
theorem mget_po (x : Wmg) (hz : x.Len) (hq : x.q = 7) (w : World) (F : List Nat) (g gm : Nat) (s : Ps) (hr : Rs w F g s) (hb : Blk w gm 61 x.cells.toArray) (hgm : gm ≠ g) (hF : ¬ gm ∈ F) :
    Calls Try.prog 41 #[.pointer (some ⟨g, 0, none⟩), .pointer (some ⟨gm, 0, none⟩)] w fun e w' => ∃ v : Wpo, e = .returned (.bool true) ∧ v.con = (pPo s).1 ∧ (∀ S0 : List Nat, (∀ q ∈ S0, q < w.heap.size) → v.Li w' S0) ∧ Blk w' gm 61 ({x with po := v} : Wmg).cells.toArray ∧ Rs w' F g (pPo s).2 ∧ Fr [g, gm] w w' := by
  have hq0 : w.cell? ⟨gm, 0, none⟩ = some (.int .i64 7) := by have h := hb.range (cs := x.cells) 0 (.int .i64 x.q) rfl; rw [hq] at h; exact h
  have HR := Lib.hid hr
  have HB := Lib.hid hb
  have HGM := Lib.hid hgm
  have HNF := Lib.hid hF
  have HZ := Lib.hid hz
  have HBS : Hid (x.cells.toArray.size = 295) := Lib.hid (by rw [List.size_toArray]; exact Wmg.lenz hz)
  clear hr hb hgm hF hq hz
  go_enter Try.func41, Try.ntmps41
  go_wp2_with fail
  refine (getProposal_any w F g s HR.out).mono ?_
  rintro e w1 ⟨v, rfl, hcv, hok, h1, h2⟩
  have HB1 := Lib.hid (HB.out.keep h2 (by have := HGM.out; simpa using this))
  have HCV := Lib.hid hcv
  have HOK := Lib.hid hok
  have HR1 := Lib.hid h1
  have HF1 := Lib.hid h2
  have HVL : Hid (v.cells.length = 11) := Lib.hid (by have hok_ := hok [] (by simp); exact Wpo.len v)
  have HONE : Hid (v.cells.toArray.all (·.oneCell') = true) := Lib.hid (all_oneCell_toArray (Wpo.one v))
  have HB2 := Lib.hid (Wmg.blk_po HZ.out v HVL.out HB1.out)
  have HTH : Hid (w1.there gm 163 v.cells.toArray.size) := Lib.hid (HB1.out.thereM _ _ (by rw [List.size_toArray, HVL.out, HBS.out]; omega))
  have HSZ : Hid ((Try.prog.info? 47).map (·.size) = some v.cells.toArray.size) := Lib.hid (by rw [List.size_toArray, HVL.out]; kernel_rfl)
  have HF2 : Hid (Fr [gm] w1 (w1.setCells gm 163 v.cells)) := Lib.hid (Fr.setCells (fun _ => by simp) v.cells 163 w1 (Fr.refl _ _))
  clear hcv hok h1 h2
  obtain ⟨V, hV⟩ : ∃ V : List Value, V = v.cells := ⟨_, rfl⟩
  rw [← hV] at HVL HONE HTH HSZ HF2 HB2 ⊢
  have HVV := Lib.hid hV
  clear hV
  go_wp2_with (refine wpList_store_mid rfl 47 _ _ rfl gm 163 V.toArray rfl rfl HTH.out HSZ.out HONE.out ?_)
  change bodyPost _ _ _ _ _ (w1.setCells gm 163 V)
  generalize w1.setCells gm 163 V = w2 at *
  go_ret
  exact ⟨v, rfl, HCV.out, fun S0 h0 => (HOK.out (gm :: S0) (fun q hq => by rcases List.mem_cons.1 hq with rfl | hq; exact HB.out.lt; exact h0 q hq)).keep (HF2.out.mono (fun q hq _ => by simp at hq; simp [hq])) (fun q hq _ => by simp [hq]), HB2.out, HR1.out.fr HF2.out (by have := HGM.out; simp; exact fun h => this h.symm) (fun q hq hm => HNF.out (by simp at hm; exact hm ▸ hq)), (HF1.out.mono (fun q hq _ => by simp at hq; simp [hq])).trans HF2.out (fun q hq _ => by simp at hq; simp [hq])⟩
theorem Wmg.blk_vt {w : World} {g : Nat} {t : TypeId} {x : Wmg} (hx : x.Len) (v : Wvt) (hv : v.cells.length = 38) (hb : Blk w g t x.cells.toArray) : Blk (w.setCells g 174 v.cells) g t ({x with vt := v} : Wmg).cells.toArray :=
  Blk.mid_at v.cells x.vt.cells ([.int .i64 x.q] ++ ([.int .i64 x.f] ++ ([.int .i64 x.t] ++ (x.cm.cells ++ (x.st.cells ++ (x.ce.cells ++ (x.ak.cells ++ ([.int .i64 x.e] ++ ([.int .i64 x.r] ++ ([.int .u64 (x.tm : Int)] ++ (x.pr.cells ++ (x.po.cells)))))))))))) ([.int .i64 x.i] ++ (x.en.cells ++ (x.op.cells ++ (x.dn.cells ++ ([.string ⟨x.rp.toArray⟩] ++ (x.de.cells)))))) 174 (by simp only [List.length_append, List.length_cons, List.length_nil, Wcm.len hx.cm, Wst.len hx.st, Wce.len hx.ce, Wst.len hx.ak, Wpr.len x.pr, Wpo.len x.po]) (by rw [hv, Wvt.len hx.vt]) _ _ (by simp only [Wmg.cells, List.append_assoc, List.append_nil]) (by simp only [Wmg.cells, List.append_assoc, List.append_nil]) hb
set_option maxHeartbeats 2000000 in
theorem mget_vt (x : Wmg) (hz : x.Len) (hq : x.q = 8) (w : World) (F : List Nat) (g gm : Nat) (s : Ps) (hr : Rs w F g s) (hb : Blk w gm 61 x.cells.toArray) (hgm : gm ≠ g) (hF : ¬ gm ∈ F) :
    Calls Try.prog 41 #[.pointer (some ⟨g, 0, none⟩), .pointer (some ⟨gm, 0, none⟩)] w fun e w' => ∃ v : Wvt, e = .returned (.bool true) ∧ v = (pVt s).1 ∧ (∀ S0 : List Nat, (∀ q ∈ S0, q < w.heap.size) → v.Ok) ∧ Blk w' gm 61 ({x with vt := v} : Wmg).cells.toArray ∧ Rs w' F g (pVt s).2 ∧ Fr [g, gm] w w' := by
  have hq0 : w.cell? ⟨gm, 0, none⟩ = some (.int .i64 8) := by have h := hb.range (cs := x.cells) 0 (.int .i64 x.q) rfl; rw [hq] at h; exact h
  have HR := Lib.hid hr
  have HB := Lib.hid hb
  have HGM := Lib.hid hgm
  have HNF := Lib.hid hF
  have HZ := Lib.hid hz
  have HBS : Hid (x.cells.toArray.size = 295) := Lib.hid (by rw [List.size_toArray]; exact Wmg.lenz hz)
  clear hr hb hgm hF hq hz
  go_enter Try.func41, Try.ntmps41
  go_wp2_with fail
  refine ((gets_of (fun _ _ _ _ hr => getVote_any hr) pVt_ok) w F g s HR.out).mono ?_
  rintro e w1 ⟨v, rfl, hcv, hok, h1, h2⟩
  have HB1 := Lib.hid (HB.out.keep h2 (by have := HGM.out; simpa using this))
  have HCV := Lib.hid hcv
  have HOK := Lib.hid hok
  have HR1 := Lib.hid h1
  have HF1 := Lib.hid h2
  have HVL : Hid (v.cells.length = 38) := Lib.hid (by have hok_ := hok [] (by simp); exact Wvt.len (hok_.h))
  have HONE : Hid (v.cells.toArray.all (·.oneCell') = true) := Lib.hid (all_oneCell_toArray (Wvt.one v))
  have HB2 := Lib.hid (Wmg.blk_vt HZ.out v HVL.out HB1.out)
  have HTH : Hid (w1.there gm 174 v.cells.toArray.size) := Lib.hid (HB1.out.thereM _ _ (by rw [List.size_toArray, HVL.out, HBS.out]; omega))
  have HSZ : Hid ((Try.prog.info? 49).map (·.size) = some v.cells.toArray.size) := Lib.hid (by rw [List.size_toArray, HVL.out]; kernel_rfl)
  have HF2 : Hid (Fr [gm] w1 (w1.setCells gm 174 v.cells)) := Lib.hid (Fr.setCells (fun _ => by simp) v.cells 174 w1 (Fr.refl _ _))
  clear hcv hok h1 h2
  obtain ⟨V, hV⟩ : ∃ V : List Value, V = v.cells := ⟨_, rfl⟩
  rw [← hV] at HVL HONE HTH HSZ HF2 HB2 ⊢
  have HVV := Lib.hid hV
  clear hV
  go_wp2_with (refine wpList_store_mid rfl 49 _ _ rfl gm 174 V.toArray rfl rfl HTH.out HSZ.out HONE.out ?_)
  change bodyPost _ _ _ _ _ (w1.setCells gm 174 V)
  generalize w1.setCells gm 174 V = w2 at *
  go_ret
  exact ⟨v, rfl, HCV.out, fun S0 h0 => HOK.out S0 h0, HB2.out, HR1.out.fr HF2.out (by have := HGM.out; simp; exact fun h => this h.symm) (fun q hq hm => HNF.out (by simp at hm; exact hm ▸ hq)), (HF1.out.mono (fun q hq _ => by simp at hq; simp [hq])).trans HF2.out (fun q hq _ => by simp at hq; simp [hq])⟩
theorem Wmg.blk_op {w : World} {g : Nat} {t : TypeId} {x : Wmg} (hx : x.Len) (v : Wop) (hv : v.cells.length = 34) (hb : Blk w g t x.cells.toArray) : Blk (w.setCells g 248 v.cells) g t ({x with op := v} : Wmg).cells.toArray :=
  Blk.mid_at v.cells x.op.cells ([.int .i64 x.q] ++ ([.int .i64 x.f] ++ ([.int .i64 x.t] ++ (x.cm.cells ++ (x.st.cells ++ (x.ce.cells ++ (x.ak.cells ++ ([.int .i64 x.e] ++ ([.int .i64 x.r] ++ ([.int .u64 (x.tm : Int)] ++ (x.pr.cells ++ (x.po.cells ++ (x.vt.cells ++ ([.int .i64 x.i] ++ (x.en.cells))))))))))))))) (x.dn.cells ++ ([.string ⟨x.rp.toArray⟩] ++ (x.de.cells))) 248 (by simp only [List.length_append, List.length_cons, List.length_nil, Wcm.len hx.cm, Wst.len hx.st, Wce.len hx.ce, Wst.len hx.ak, Wpr.len x.pr, Wpo.len x.po, Wvt.len hx.vt, Wen.len hx.en]) (by rw [hv, Wop.len hx.op]) _ _ (by simp only [Wmg.cells, List.append_assoc, List.append_nil]) (by simp only [Wmg.cells, List.append_assoc, List.append_nil]) hb
set_option maxHeartbeats 2000000 in
theorem mget_op (x : Wmg) (hz : x.Len) (hq : x.q = 10) (w : World) (F : List Nat) (g gm : Nat) (s : Ps) (hr : Rs w F g s) (hb : Blk w gm 61 x.cells.toArray) (hgm : gm ≠ g) (hF : ¬ gm ∈ F) :
    Calls Try.prog 41 #[.pointer (some ⟨g, 0, none⟩), .pointer (some ⟨gm, 0, none⟩)] w fun e w' => ∃ v : Wop, e = .returned (.bool true) ∧ v.con = (pOp s).1 ∧ (∀ S0 : List Nat, (∀ q ∈ S0, q < w.heap.size) → v.Ok w' S0) ∧ Blk w' gm 61 ({x with op := v} : Wmg).cells.toArray ∧ Rs w' F g (pOp s).2 ∧ Fr [g, gm] w w' := by
  have hq0 : w.cell? ⟨gm, 0, none⟩ = some (.int .i64 10) := by have h := hb.range (cs := x.cells) 0 (.int .i64 x.q) rfl; rw [hq] at h; exact h
  have HR := Lib.hid hr
  have HB := Lib.hid hb
  have HGM := Lib.hid hgm
  have HNF := Lib.hid hF
  have HZ := Lib.hid hz
  have HBS : Hid (x.cells.toArray.size = 295) := Lib.hid (by rw [List.size_toArray]; exact Wmg.lenz hz)
  clear hr hb hgm hF hq hz
  go_enter Try.func41, Try.ntmps41
  go_wp2_with fail
  refine (getOpening_any w F g s HR.out).mono ?_
  rintro e w1 ⟨v, rfl, hcv, hok, h1, h2⟩
  have HB1 := Lib.hid (HB.out.keep h2 (by have := HGM.out; simpa using this))
  have HCV := Lib.hid hcv
  have HOK := Lib.hid hok
  have HR1 := Lib.hid h1
  have HF1 := Lib.hid h2
  have HVL : Hid (v.cells.length = 34) := Lib.hid (by have hok_ := hok [] (by simp); exact Wop.len (hok_.h))
  have HONE : Hid (v.cells.toArray.all (·.oneCell') = true) := Lib.hid (all_oneCell_toArray (Wop.one v))
  have HB2 := Lib.hid (Wmg.blk_op HZ.out v HVL.out HB1.out)
  have HTH : Hid (w1.there gm 248 v.cells.toArray.size) := Lib.hid (HB1.out.thereM _ _ (by rw [List.size_toArray, HVL.out, HBS.out]; omega))
  have HSZ : Hid ((Try.prog.info? 54).map (·.size) = some v.cells.toArray.size) := Lib.hid (by rw [List.size_toArray, HVL.out]; kernel_rfl)
  have HF2 : Hid (Fr [gm] w1 (w1.setCells gm 248 v.cells)) := Lib.hid (Fr.setCells (fun _ => by simp) v.cells 248 w1 (Fr.refl _ _))
  clear hcv hok h1 h2
  obtain ⟨V, hV⟩ : ∃ V : List Value, V = v.cells := ⟨_, rfl⟩
  rw [← hV] at HVL HONE HTH HSZ HF2 HB2 ⊢
  have HVV := Lib.hid hV
  clear hV
  go_wp2_with (refine wpList_store_mid rfl 54 _ _ rfl gm 248 V.toArray rfl rfl HTH.out HSZ.out HONE.out ?_)
  change bodyPost _ _ _ _ _ (w1.setCells gm 248 V)
  generalize w1.setCells gm 248 V = w2 at *
  go_ret
  exact ⟨v, rfl, HCV.out, fun S0 h0 => (HOK.out (gm :: S0) (fun q hq => by rcases List.mem_cons.1 hq with rfl | hq; exact HB.out.lt; exact h0 q hq)).keep (HF2.out.mono (fun q hq _ => by simp at hq; simp [hq])) (fun q hq _ => by simp [hq]), HB2.out, HR1.out.fr HF2.out (by have := HGM.out; simp; exact fun h => this h.symm) (fun q hq hm => HNF.out (by simp at hm; exact hm ▸ hq)), (HF1.out.mono (fun q hq _ => by simp at hq; simp [hq])).trans HF2.out (fun q hq _ => by simp at hq; simp [hq])⟩
theorem Wmg.blk_dn {w : World} {g : Nat} {t : TypeId} {x : Wmg} (hx : x.Len) (v : Wdn) (hv : v.cells.length = 4) (hb : Blk w g t x.cells.toArray) : Blk (w.setCells g 282 v.cells) g t ({x with dn := v} : Wmg).cells.toArray :=
  Blk.mid_at v.cells x.dn.cells ([.int .i64 x.q] ++ ([.int .i64 x.f] ++ ([.int .i64 x.t] ++ (x.cm.cells ++ (x.st.cells ++ (x.ce.cells ++ (x.ak.cells ++ ([.int .i64 x.e] ++ ([.int .i64 x.r] ++ ([.int .u64 (x.tm : Int)] ++ (x.pr.cells ++ (x.po.cells ++ (x.vt.cells ++ ([.int .i64 x.i] ++ (x.en.cells ++ (x.op.cells)))))))))))))))) ([.string ⟨x.rp.toArray⟩] ++ (x.de.cells)) 282 (by simp only [List.length_append, List.length_cons, List.length_nil, Wcm.len hx.cm, Wst.len hx.st, Wce.len hx.ce, Wst.len hx.ak, Wpr.len x.pr, Wpo.len x.po, Wvt.len hx.vt, Wen.len hx.en, Wop.len hx.op]) (by rw [hv, Wdn.len x.dn]) _ _ (by simp only [Wmg.cells, List.append_assoc, List.append_nil]) (by simp only [Wmg.cells, List.append_assoc, List.append_nil]) hb
set_option maxHeartbeats 2000000 in
theorem mget_dn (x : Wmg) (hz : x.Len) (hq : x.q = 12) (w : World) (F : List Nat) (g gm : Nat) (s : Ps) (hr : Rs w F g s) (hb : Blk w gm 61 x.cells.toArray) (hgm : gm ≠ g) (hF : ¬ gm ∈ F) :
    Calls Try.prog 41 #[.pointer (some ⟨g, 0, none⟩), .pointer (some ⟨gm, 0, none⟩)] w fun e w' => ∃ v : Wdn, e = .returned (.bool true) ∧ v = (pDn s).1 ∧ (∀ S0 : List Nat, (∀ q ∈ S0, q < w.heap.size) → v.Ok) ∧ Blk w' gm 61 ({x with dn := v} : Wmg).cells.toArray ∧ Rs w' F g (pDn s).2 ∧ Fr [g, gm] w w' := by
  have hq0 : w.cell? ⟨gm, 0, none⟩ = some (.int .i64 12) := by have h := hb.range (cs := x.cells) 0 (.int .i64 x.q) rfl; rw [hq] at h; exact h
  have HR := Lib.hid hr
  have HB := Lib.hid hb
  have HGM := Lib.hid hgm
  have HNF := Lib.hid hF
  have HZ := Lib.hid hz
  have HBS : Hid (x.cells.toArray.size = 295) := Lib.hid (by rw [List.size_toArray]; exact Wmg.lenz hz)
  clear hr hb hgm hF hq hz
  go_enter Try.func41, Try.ntmps41
  go_wp2_with fail
  refine ((gets_of (fun _ _ _ _ hr => getDeny_any hr) pDn_ok) w F g s HR.out).mono ?_
  rintro e w1 ⟨v, rfl, hcv, hok, h1, h2⟩
  have HB1 := Lib.hid (HB.out.keep h2 (by have := HGM.out; simpa using this))
  have HCV := Lib.hid hcv
  have HOK := Lib.hid hok
  have HR1 := Lib.hid h1
  have HF1 := Lib.hid h2
  have HVL : Hid (v.cells.length = 4) := Lib.hid (by have hok_ := hok [] (by simp); exact Wdn.len v)
  have HONE : Hid (v.cells.toArray.all (·.oneCell') = true) := Lib.hid (all_oneCell_toArray (Wdn.one v))
  have HB2 := Lib.hid (Wmg.blk_dn HZ.out v HVL.out HB1.out)
  have HTH : Hid (w1.there gm 282 v.cells.toArray.size) := Lib.hid (HB1.out.thereM _ _ (by rw [List.size_toArray, HVL.out, HBS.out]; omega))
  have HSZ : Hid ((Try.prog.info? 56).map (·.size) = some v.cells.toArray.size) := Lib.hid (by rw [List.size_toArray, HVL.out]; kernel_rfl)
  have HF2 : Hid (Fr [gm] w1 (w1.setCells gm 282 v.cells)) := Lib.hid (Fr.setCells (fun _ => by simp) v.cells 282 w1 (Fr.refl _ _))
  clear hcv hok h1 h2
  obtain ⟨V, hV⟩ : ∃ V : List Value, V = v.cells := ⟨_, rfl⟩
  rw [← hV] at HVL HONE HTH HSZ HF2 HB2 ⊢
  have HVV := Lib.hid hV
  clear hV
  go_wp2_with (refine wpList_store_mid rfl 56 _ _ rfl gm 282 V.toArray rfl rfl HTH.out HSZ.out HONE.out ?_)
  change bodyPost _ _ _ _ _ (w1.setCells gm 282 V)
  generalize w1.setCells gm 282 V = w2 at *
  go_ret
  exact ⟨v, rfl, HCV.out, fun S0 h0 => HOK.out S0 h0, HB2.out, HR1.out.fr HF2.out (by have := HGM.out; simp; exact fun h => this h.symm) (fun q hq hm => HNF.out (by simp at hm; exact hm ▸ hq)), (HF1.out.mono (fun q hq _ => by simp at hq; simp [hq])).trans HF2.out (fun q hq _ => by simp at hq; simp [hq])⟩
theorem Wmg.blk_de {w : World} {g : Nat} {t : TypeId} {x : Wmg} (hx : x.Len) (v : Wdc) (hv : v.cells.length = 8) (hb : Blk w g t x.cells.toArray) : Blk (w.setCells g 287 v.cells) g t ({x with de := v} : Wmg).cells.toArray :=
  Blk.mid_at v.cells x.de.cells ([.int .i64 x.q] ++ ([.int .i64 x.f] ++ ([.int .i64 x.t] ++ (x.cm.cells ++ (x.st.cells ++ (x.ce.cells ++ (x.ak.cells ++ ([.int .i64 x.e] ++ ([.int .i64 x.r] ++ ([.int .u64 (x.tm : Int)] ++ (x.pr.cells ++ (x.po.cells ++ (x.vt.cells ++ ([.int .i64 x.i] ++ (x.en.cells ++ (x.op.cells ++ (x.dn.cells ++ ([.string ⟨x.rp.toArray⟩])))))))))))))))))) ([]) 287 (by simp only [List.length_append, List.length_cons, List.length_nil, Wcm.len hx.cm, Wst.len hx.st, Wce.len hx.ce, Wst.len hx.ak, Wpr.len x.pr, Wpo.len x.po, Wvt.len hx.vt, Wen.len hx.en, Wop.len hx.op, Wdn.len x.dn]) (by rw [hv, Wdc.len x.de]) _ _ (by simp only [Wmg.cells, List.append_assoc, List.append_nil]) (by simp only [Wmg.cells, List.append_assoc, List.append_nil]) hb
set_option maxHeartbeats 2000000 in
theorem mget_de (x : Wmg) (hz : x.Len) (hq : x.q = 14) (w : World) (F : List Nat) (g gm : Nat) (s : Ps) (hr : Rs w F g s) (hb : Blk w gm 61 x.cells.toArray) (hgm : gm ≠ g) (hF : ¬ gm ∈ F) :
    Calls Try.prog 41 #[.pointer (some ⟨g, 0, none⟩), .pointer (some ⟨gm, 0, none⟩)] w fun e w' => ∃ v : Wdc, e = .returned (.bool true) ∧ v.con = (pDc s).1 ∧ (∀ S0 : List Nat, (∀ q ∈ S0, q < w.heap.size) → v.Li w' S0) ∧ Blk w' gm 61 ({x with de := v} : Wmg).cells.toArray ∧ Rs w' F g (pDc s).2 ∧ Fr [g, gm] w w' := by
  have hq0 : w.cell? ⟨gm, 0, none⟩ = some (.int .i64 14) := by have h := hb.range (cs := x.cells) 0 (.int .i64 x.q) rfl; rw [hq] at h; exact h
  have HR := Lib.hid hr
  have HB := Lib.hid hb
  have HGM := Lib.hid hgm
  have HNF := Lib.hid hF
  have HZ := Lib.hid hz
  have HBS : Hid (x.cells.toArray.size = 295) := Lib.hid (by rw [List.size_toArray]; exact Wmg.lenz hz)
  clear hr hb hgm hF hq hz
  go_enter Try.func41, Try.ntmps41
  go_wp2_with fail
  refine (getDecided_any w F g s HR.out).mono ?_
  rintro e w1 ⟨v, rfl, hcv, hok, h1, h2⟩
  have HB1 := Lib.hid (HB.out.keep h2 (by have := HGM.out; simpa using this))
  have HCV := Lib.hid hcv
  have HOK := Lib.hid hok
  have HR1 := Lib.hid h1
  have HF1 := Lib.hid h2
  have HVL : Hid (v.cells.length = 8) := Lib.hid (by have hok_ := hok [] (by simp); exact Wdc.len v)
  have HONE : Hid (v.cells.toArray.all (·.oneCell') = true) := Lib.hid (all_oneCell_toArray (Wdc.one v))
  have HB2 := Lib.hid (Wmg.blk_de HZ.out v HVL.out HB1.out)
  have HTH : Hid (w1.there gm 287 v.cells.toArray.size) := Lib.hid (HB1.out.thereM _ _ (by rw [List.size_toArray, HVL.out, HBS.out]; omega))
  have HSZ : Hid ((Try.prog.info? 59).map (·.size) = some v.cells.toArray.size) := Lib.hid (by rw [List.size_toArray, HVL.out]; kernel_rfl)
  have HF2 : Hid (Fr [gm] w1 (w1.setCells gm 287 v.cells)) := Lib.hid (Fr.setCells (fun _ => by simp) v.cells 287 w1 (Fr.refl _ _))
  clear hcv hok h1 h2
  obtain ⟨V, hV⟩ : ∃ V : List Value, V = v.cells := ⟨_, rfl⟩
  rw [← hV] at HVL HONE HTH HSZ HF2 HB2 ⊢
  have HVV := Lib.hid hV
  clear hV
  go_wp2_with (refine wpList_store_mid rfl 59 _ _ rfl gm 287 V.toArray rfl rfl HTH.out HSZ.out HONE.out ?_)
  change bodyPost _ _ _ _ _ (w1.setCells gm 287 V)
  generalize w1.setCells gm 287 V = w2 at *
  go_ret
  exact ⟨v, rfl, HCV.out, fun S0 h0 => (HOK.out (gm :: S0) (fun q hq => by rcases List.mem_cons.1 hq with rfl | hq; exact HB.out.lt; exact h0 q hq)).keep (HF2.out.mono (fun q hq _ => by simp at hq; simp [hq])) (fun q hq _ => by simp [hq]), HB2.out, HR1.out.fr HF2.out (by have := HGM.out; simp; exact fun h => this h.symm) (fun q hq hm => HNF.out (by simp at hm; exact hm ▸ hq)), (HF1.out.mono (fun q hq _ => by simp at hq; simp [hq])).trans HF2.out (fun q hq _ => by simp at hq; simp [hq])⟩
end Go.Proofs.Ytnpjihdhpoddgaa

namespace Go.Proofs.Ytnpjihdhpoddgaa
open Go.RowKit
set_option maxRecDepth 100000
theorem wpList_store_at {P : Program} {ops : Array Oper} {rest : List Oper} {op : Oper} {a : Act} {w : World} {Q : Exit → Act → World → Prop} (hg : op.guard = none) (ty : TypeId) (x y : Operand) (ho : op.op = .store ty x y)
    (g i : Nat) (v : Value) (hx : a.eval x = .pointer (some ⟨g, i, none⟩)) (hy : a.eval y = v) (h1 : v.oneCell' = true) (t : TypeId) (cs : Array Value) (hb : Blk w g t cs) (hi : i < cs.size) (hsz : (P.info? ty).map (·.size) = some 1)
    (h : wpList P ops Q rest (a.put op.dst undef) (w.setCells g i [v])) : wpList P ops Q (op :: rest) a w :=
  wpList_plain hg fun _ hK => wp_store_at ty x y ho g i v hx hy h1 t cs hb hi hsz (hK _ _ h)
theorem Wmg.blk_i {w : World} {g : Nat} {t : TypeId} {x : Wmg} (hx : x.Len) (v : Int) (hb : Blk w g t x.cells.toArray) : Blk (w.setCells g 212 [.int .i64 v]) g t ({x with i := v} : Wmg).cells.toArray :=
  Blk.mid_at [.int .i64 v] [.int .i64 x.i] ([.int .i64 x.q] ++ ([.int .i64 x.f] ++ ([.int .i64 x.t] ++ (x.cm.cells ++ (x.st.cells ++ (x.ce.cells ++ (x.ak.cells ++ ([.int .i64 x.e] ++ ([.int .i64 x.r] ++ ([.int .u64 (x.tm : Int)] ++ (x.pr.cells ++ (x.po.cells ++ (x.vt.cells))))))))))))) (x.en.cells ++ (x.op.cells ++ (x.dn.cells ++ ([.string ⟨x.rp.toArray⟩] ++ (x.de.cells))))) 212 (by simp only [List.length_append, List.length_cons, List.length_nil, Wcm.len hx.cm, Wst.len hx.st, Wce.len hx.ce, Wst.len hx.ak, Wpr.len x.pr, Wpo.len x.po, Wvt.len hx.vt]) rfl _ _ (by simp only [Wmg.cells, List.append_assoc, List.append_nil]) (by simp only [Wmg.cells, List.append_assoc, List.append_nil]) hb
theorem Wmg.blk_e {w : World} {g : Nat} {t : TypeId} {x : Wmg} (hx : x.Len) (v : Int) (hb : Blk w g t x.cells.toArray) : Blk (w.setCells g 154 [.int .i64 v]) g t ({x with e := v} : Wmg).cells.toArray :=
  Blk.mid_at [.int .i64 v] [.int .i64 x.e] ([.int .i64 x.q] ++ ([.int .i64 x.f] ++ ([.int .i64 x.t] ++ (x.cm.cells ++ (x.st.cells ++ (x.ce.cells ++ (x.ak.cells))))))) ([.int .i64 x.r] ++ ([.int .u64 (x.tm : Int)] ++ (x.pr.cells ++ (x.po.cells ++ (x.vt.cells ++ ([.int .i64 x.i] ++ (x.en.cells ++ (x.op.cells ++ (x.dn.cells ++ ([.string ⟨x.rp.toArray⟩] ++ (x.de.cells))))))))))) 154 (by simp only [List.length_append, List.length_cons, List.length_nil, Wcm.len hx.cm, Wst.len hx.st, Wce.len hx.ce, Wst.len hx.ak]) rfl _ _ (by simp only [Wmg.cells, List.append_assoc, List.append_nil]) (by simp only [Wmg.cells, List.append_assoc, List.append_nil]) hb
theorem Wmg.blk_r {w : World} {g : Nat} {t : TypeId} {x : Wmg} (hx : x.Len) (v : Int) (hb : Blk w g t x.cells.toArray) : Blk (w.setCells g 155 [.int .i64 v]) g t ({x with r := v} : Wmg).cells.toArray :=
  Blk.mid_at [.int .i64 v] [.int .i64 x.r] ([.int .i64 x.q] ++ ([.int .i64 x.f] ++ ([.int .i64 x.t] ++ (x.cm.cells ++ (x.st.cells ++ (x.ce.cells ++ (x.ak.cells ++ ([.int .i64 x.e])))))))) ([.int .u64 (x.tm : Int)] ++ (x.pr.cells ++ (x.po.cells ++ (x.vt.cells ++ ([.int .i64 x.i] ++ (x.en.cells ++ (x.op.cells ++ (x.dn.cells ++ ([.string ⟨x.rp.toArray⟩] ++ (x.de.cells)))))))))) 155 (by simp only [List.length_append, List.length_cons, List.length_nil, Wcm.len hx.cm, Wst.len hx.st, Wce.len hx.ce, Wst.len hx.ak]) rfl _ _ (by simp only [Wmg.cells, List.append_assoc, List.append_nil]) (by simp only [Wmg.cells, List.append_assoc, List.append_nil]) hb
theorem Wmg.blk_tm {w : World} {g : Nat} {t : TypeId} {x : Wmg} (hx : x.Len) (v : Nat) (hb : Blk w g t x.cells.toArray) : Blk (w.setCells g 156 [.int .u64 (v : Int)]) g t ({x with tm := v} : Wmg).cells.toArray :=
  Blk.mid_at [.int .u64 (v : Int)] [.int .u64 (x.tm : Int)] ([.int .i64 x.q] ++ ([.int .i64 x.f] ++ ([.int .i64 x.t] ++ (x.cm.cells ++ (x.st.cells ++ (x.ce.cells ++ (x.ak.cells ++ ([.int .i64 x.e] ++ ([.int .i64 x.r]))))))))) (x.pr.cells ++ (x.po.cells ++ (x.vt.cells ++ ([.int .i64 x.i] ++ (x.en.cells ++ (x.op.cells ++ (x.dn.cells ++ ([.string ⟨x.rp.toArray⟩] ++ (x.de.cells))))))))) 156 (by simp only [List.length_append, List.length_cons, List.length_nil, Wcm.len hx.cm, Wst.len hx.st, Wce.len hx.ce, Wst.len hx.ak]) rfl _ _ (by simp only [Wmg.cells, List.append_assoc, List.append_nil]) (by simp only [Wmg.cells, List.append_assoc, List.append_nil]) hb
theorem Wmg.blk_rp {w : World} {g : Nat} {t : TypeId} {x : Wmg} (hx : x.Len) (v : List UInt8) (hb : Blk w g t x.cells.toArray) : Blk (w.setCells g 286 [.string ⟨(v).toArray⟩]) g t ({x with rp := v} : Wmg).cells.toArray :=
  Blk.mid_at [.string ⟨(v).toArray⟩] [.string ⟨x.rp.toArray⟩] ([.int .i64 x.q] ++ ([.int .i64 x.f] ++ ([.int .i64 x.t] ++ (x.cm.cells ++ (x.st.cells ++ (x.ce.cells ++ (x.ak.cells ++ ([.int .i64 x.e] ++ ([.int .i64 x.r] ++ ([.int .u64 (x.tm : Int)] ++ (x.pr.cells ++ (x.po.cells ++ (x.vt.cells ++ ([.int .i64 x.i] ++ (x.en.cells ++ (x.op.cells ++ (x.dn.cells))))))))))))))))) (x.de.cells) 286 (by simp only [List.length_append, List.length_cons, List.length_nil, Wcm.len hx.cm, Wst.len hx.st, Wce.len hx.ce, Wst.len hx.ak, Wpr.len x.pr, Wpo.len x.po, Wvt.len hx.vt, Wen.len hx.en, Wop.len hx.op, Wdn.len x.dn]) rfl _ _ (by simp only [Wmg.cells, List.append_assoc, List.append_nil]) (by simp only [Wmg.cells, List.append_assoc, List.append_nil]) hb
theorem Wmg.blk_en {w : World} {g : Nat} {t : TypeId} {x : Wmg} (hx : x.Len) (v : Wen) (hv : v.cells.length = 35) (hb : Blk w g t x.cells.toArray) : Blk (w.setCells g 213 v.cells) g t ({x with en := v} : Wmg).cells.toArray :=
  Blk.mid_at v.cells x.en.cells ([.int .i64 x.q] ++ ([.int .i64 x.f] ++ ([.int .i64 x.t] ++ (x.cm.cells ++ (x.st.cells ++ (x.ce.cells ++ (x.ak.cells ++ ([.int .i64 x.e] ++ ([.int .i64 x.r] ++ ([.int .u64 (x.tm : Int)] ++ (x.pr.cells ++ (x.po.cells ++ (x.vt.cells ++ ([.int .i64 x.i])))))))))))))) (x.op.cells ++ (x.dn.cells ++ ([.string ⟨x.rp.toArray⟩] ++ (x.de.cells)))) 213 (by simp only [List.length_append, List.length_cons, List.length_nil, Wcm.len hx.cm, Wst.len hx.st, Wce.len hx.ce, Wst.len hx.ak, Wpr.len x.pr, Wpo.len x.po, Wvt.len hx.vt]) (by rw [hv, Wen.len hx.en]) _ _ (by simp only [Wmg.cells, List.append_assoc, List.append_nil]) (by simp only [Wmg.cells, List.append_assoc, List.append_nil]) hb
set_option maxHeartbeats 2000000 in
theorem mget_i (x : Wmg) (hz : x.Len) (hq : x.q = 11) (w : World) (F : List Nat) (g gm : Nat) (s : Ps) (hr : Rs w F g s) (hb : Blk w gm 61 x.cells.toArray) (hgm : gm ≠ g) (hF : ¬ gm ∈ F) :
    Calls Try.prog 41 #[.pointer (some ⟨g, 0, none⟩), .pointer (some ⟨gm, 0, none⟩)] w fun e w' => e = .returned (.bool true) ∧ Blk w' gm 61 ({x with i := (pI s).1} : Wmg).cells.toArray ∧ Rs w' F g (pI s).2 ∧ Fr [g, gm] w w' := by
  have hq0 : w.cell? ⟨gm, 0, none⟩ = some (.int .i64 11) := by have h := hb.range (cs := x.cells) 0 (.int .i64 x.q) rfl; rw [hq] at h; exact h
  have HR := Lib.hid hr
  have HB := Lib.hid hb
  have HGM := Lib.hid hgm
  have HNF := Lib.hid hF
  have HZ := Lib.hid hz
  have HSI : Hid ((Try.prog.info? 3).map (·.size) = some 1) := Lib.hid (by kernel_rfl)
  have HSU : Hid ((Try.prog.info? 30).map (·.size) = some 1) := Lib.hid (by kernel_rfl)
  have HLT : Hid (∀ y : Wmg, y.Len → ∀ k < 295, k < y.cells.toArray.size) := Lib.hid (fun y hy k hk => by rw [List.size_toArray, Wmg.lenz hy]; exact hk)
  clear hr hb hgm hF hq hz
  go_enter Try.func41, Try.ntmps41
  go_wp2_with fail
  refine (getInt_any HR.out).mono ?_
  rintro e_ w1 ⟨rfl, h1, h2⟩
  have HB1 := Lib.hid (HB.out.keep h2 (by have := HGM.out; simpa using this))
  have HR1 := Lib.hid h1
  have HF1 : Hid (Fr [g] w w1) := Lib.hid (h2)
  clear h1 h2
  have HFS : Hid (Fr [gm] w1 (w1.setCells gm 212 [.int .i64 (pI s).1])) := Lib.hid (Fr.setCells (fun _ => by simp) [.int .i64 (pI s).1] 212 _ (Fr.refl _ _))
  have HBZ := Lib.hid (Wmg.blk_i HZ.out (pI s).1 HB1.out)
  go_wp2_with (refine wpList_store_at rfl 3 _ _ rfl gm 212 (.int .i64 (pI s).1) rfl rfl rfl 61 _ HB1.out (HLT.out _ HZ.out 212 (by omega)) HSI.out ?_)
  change bodyPost _ _ _ _ _ (w1.setCells gm 212 [.int .i64 (pI s).1])
  generalize w1.setCells gm 212 [.int .i64 (pI s).1] = wz at *
  go_ret
  exact ⟨rfl, HBZ.out, HR1.out.fr HFS.out (by have := HGM.out; simp; exact fun h => this h.symm) (fun q hq hm => HNF.out (by simp at hm; exact hm ▸ hq)), (HF1.out.mono (fun q hq _ => by simp at hq; simp [hq])).trans HFS.out (fun q hq _ => by simp at hq; simp [hq])⟩
set_option maxHeartbeats 2000000 in
theorem mget_en (x : Wmg) (hz : x.Len) (hq : x.q = 9) (w : World) (F : List Nat) (g gm : Nat) (s : Ps) (hr : Rs w F g s) (hb : Blk w gm 61 x.cells.toArray) (hgm : gm ≠ g) (hF : ¬ gm ∈ F) :
    Calls Try.prog 41 #[.pointer (some ⟨g, 0, none⟩), .pointer (some ⟨gm, 0, none⟩)] w fun e w' => e = .returned (.bool true) ∧ Blk w' gm 61 ({x with i := (pI s).1, en := (pEn (pI s).2).1} : Wmg).cells.toArray ∧ Rs w' F g (pEn (pI s).2).2 ∧ Fr [g, gm] w w' := by
  have hq0 : w.cell? ⟨gm, 0, none⟩ = some (.int .i64 9) := by have h := hb.range (cs := x.cells) 0 (.int .i64 x.q) rfl; rw [hq] at h; exact h
  have HR := Lib.hid hr
  have HB := Lib.hid hb
  have HGM := Lib.hid hgm
  have HNF := Lib.hid hF
  have HZ := Lib.hid hz
  have HSI : Hid ((Try.prog.info? 3).map (·.size) = some 1) := Lib.hid (by kernel_rfl)
  have HSU : Hid ((Try.prog.info? 30).map (·.size) = some 1) := Lib.hid (by kernel_rfl)
  have HLT : Hid (∀ y : Wmg, y.Len → ∀ k < 295, k < y.cells.toArray.size) := Lib.hid (fun y hy k hk => by rw [List.size_toArray, Wmg.lenz hy]; exact hk)
  clear hr hb hgm hF hq hz
  go_enter Try.func41, Try.ntmps41
  go_wp2_with fail
  refine (getInt_any HR.out).mono ?_
  rintro e_ w1 ⟨rfl, h1, h2⟩
  have HB1 := Lib.hid (HB.out.keep h2 (by have := HGM.out; simpa using this))
  have HR1 := Lib.hid h1
  have HF1 : Hid (Fr [g] w w1) := Lib.hid (h2)
  clear h1 h2
  go_wp2_with fail
  refine (getEntry_any HR1.out).mono ?_
  rintro e_ w2 ⟨rfl, h1, h2⟩
  have HB2 := Lib.hid (HB1.out.keep h2 (by have := HGM.out; simpa using this))
  have HR2 := Lib.hid h1
  have HF2 : Hid (Fr [g] w w2) := Lib.hid (HF1.out.trans h2 (fun q hq _ => hq))
  clear h1 h2
  have HVL : Hid ((pEn (pI s).2).1.cells.length = 35) := Lib.hid (Wen.len (pEn_ok _).h)
  have HONE : Hid ((pEn (pI s).2).1.cells.toArray.all (·.oneCell') = true) := Lib.hid (all_oneCell_toArray (Wen.one _))
  have HBI := Lib.hid (Wmg.blk_i HZ.out (pI s).1 HB2.out)
  have HZ1 : Hid (Wmg.Len {x with i := (pI s).1}) := Lib.hid ⟨HZ.out.cm, HZ.out.st, HZ.out.ce, HZ.out.ak, HZ.out.vt, HZ.out.en, HZ.out.op⟩
  have HBZ := Lib.hid (Wmg.blk_en HZ1.out (pEn (pI s).2).1 HVL.out HBI.out)
  have HTH : Hid ((w2.setCells gm 212 [.int .i64 (pI s).1]).there gm 213 (pEn (pI s).2).1.cells.toArray.size) := Lib.hid (HBI.out.thereM _ _ (by rw [List.size_toArray, HVL.out, List.size_toArray, Wmg.lenz HZ1.out]; omega))
  have HSZ : Hid ((Try.prog.info? 51).map (·.size) = some (pEn (pI s).2).1.cells.toArray.size) := Lib.hid (by rw [List.size_toArray, HVL.out]; kernel_rfl)
  obtain ⟨V, hV⟩ : ∃ V : List Value, V = (pEn (pI s).2).1.cells := ⟨_, rfl⟩
  rw [← hV] at HVL HONE HTH HSZ HBZ ⊢
  have HVV := Lib.hid hV
  clear hV
  have HFS : Hid (Fr [gm] w2 ((w2.setCells gm 212 [.int .i64 (pI s).1]).setCells gm 213 V)) := Lib.hid (Fr.setCells (fun _ => by simp) V 213 _ (Fr.setCells (fun _ => by simp) [.int .i64 (pI s).1] 212 _ (Fr.refl _ _)))
  go_wp2_with (first
    | (refine wpList_store_at rfl 3 _ _ rfl gm 212 (.int .i64 (pI s).1) rfl rfl rfl 61 _ HB2.out (HLT.out _ HZ.out 212 (by omega)) HSI.out ?_)
    | (refine wpList_store_mid rfl 51 _ _ rfl gm 213 V.toArray rfl rfl HTH.out HSZ.out HONE.out ?_))
  change bodyPost _ _ _ _ _ ((w2.setCells gm 212 [.int .i64 (pI s).1]).setCells gm 213 V)
  generalize (w2.setCells gm 212 [.int .i64 (pI s).1]).setCells gm 213 V = wz at *
  go_ret
  exact ⟨rfl, HBZ.out, HR2.out.fr HFS.out (by have := HGM.out; simp; exact fun h => this h.symm) (fun q hq hm => HNF.out (by simp at hm; exact hm ▸ hq)), (HF2.out.mono (fun q hq _ => by simp at hq; simp [hq])).trans HFS.out (fun q hq _ => by simp at hq; simp [hq])⟩
set_option maxHeartbeats 2000000 in
theorem mget_close (x : Wmg) (hz : x.Len) (hq : x.q = 5) (w : World) (F : List Nat) (g gm : Nat) (s : Ps) (hr : Rs w F g s) (hb : Blk w gm 61 x.cells.toArray) (hgm : gm ≠ g) (hF : ¬ gm ∈ F) :
    Calls Try.prog 41 #[.pointer (some ⟨g, 0, none⟩), .pointer (some ⟨gm, 0, none⟩)] w fun e w' => e = .returned (.bool true) ∧ Blk w' gm 61 ({x with e := (pI s).1, r := (pI (pI s).2).1, tm := (pN (pI (pI s).2).2).1} : Wmg).cells.toArray ∧ Rs w' F g (pN (pI (pI s).2).2).2 ∧ Fr [g, gm] w w' := by
  have hq0 : w.cell? ⟨gm, 0, none⟩ = some (.int .i64 5) := by have h := hb.range (cs := x.cells) 0 (.int .i64 x.q) rfl; rw [hq] at h; exact h
  have HR := Lib.hid hr
  have HB := Lib.hid hb
  have HGM := Lib.hid hgm
  have HNF := Lib.hid hF
  have HZ := Lib.hid hz
  have HSI : Hid ((Try.prog.info? 3).map (·.size) = some 1) := Lib.hid (by kernel_rfl)
  have HSU : Hid ((Try.prog.info? 30).map (·.size) = some 1) := Lib.hid (by kernel_rfl)
  have HLT : Hid (∀ y : Wmg, y.Len → ∀ k < 295, k < y.cells.toArray.size) := Lib.hid (fun y hy k hk => by rw [List.size_toArray, Wmg.lenz hy]; exact hk)
  clear hr hb hgm hF hq hz
  go_enter Try.func41, Try.ntmps41
  go_wp2_with fail
  refine (getInt_any HR.out).mono ?_
  rintro e_ w1 ⟨rfl, h1, h2⟩
  have HB1 := Lib.hid (HB.out.keep h2 (by have := HGM.out; simpa using this))
  have HR1 := Lib.hid h1
  have HF1 : Hid (Fr [g] w w1) := Lib.hid (h2)
  clear h1 h2
  go_wp2_with fail
  refine (getInt_any HR1.out).mono ?_
  rintro e_ w2 ⟨rfl, h1, h2⟩
  have HB2 := Lib.hid (HB1.out.keep h2 (by have := HGM.out; simpa using this))
  have HR2 := Lib.hid h1
  have HF2 : Hid (Fr [g] w w2) := Lib.hid (HF1.out.trans h2 (fun q hq _ => hq))
  clear h1 h2
  go_wp2_with fail
  refine (getNum_any HR2.out).mono ?_
  rintro e_ w3 ⟨rfl, h1, h2⟩
  have HB3 := Lib.hid (HB2.out.keep h2 (by have := HGM.out; simpa using this))
  have HR3 := Lib.hid h1
  have HF3 : Hid (Fr [g] w w3) := Lib.hid (HF2.out.trans h2 (fun q hq _ => hq))
  clear h1 h2
  have HZ1 : Hid (Wmg.Len {x with e := (pI s).1}) := Lib.hid ⟨HZ.out.cm, HZ.out.st, HZ.out.ce, HZ.out.ak, HZ.out.vt, HZ.out.en, HZ.out.op⟩
  have HZ2 : Hid (Wmg.Len {x with e := (pI s).1, r := (pI (pI s).2).1}) := Lib.hid ⟨HZ.out.cm, HZ.out.st, HZ.out.ce, HZ.out.ak, HZ.out.vt, HZ.out.en, HZ.out.op⟩
  have HB4 := Lib.hid (Wmg.blk_e HZ.out (pI s).1 HB3.out)
  have HB5 := Lib.hid (Wmg.blk_r HZ1.out (pI (pI s).2).1 HB4.out)
  have HBZ := Lib.hid (Wmg.blk_tm HZ2.out (pN (pI (pI s).2).2).1 HB5.out)
  have HFS : Hid (Fr [gm] w3 (((w3.setCells gm 154 [.int .i64 (pI s).1]).setCells gm 155 [.int .i64 (pI (pI s).2).1]).setCells gm 156 [.int .u64 ((pN (pI (pI s).2).2).1 : Nat)])) := Lib.hid (Fr.setCells (fun _ => by simp) [.int .u64 ((pN (pI (pI s).2).2).1 : Nat)] 156 _ (Fr.setCells (fun _ => by simp) [.int .i64 (pI (pI s).2).1] 155 _ (Fr.setCells (fun _ => by simp) [.int .i64 (pI s).1] 154 _ (Fr.refl _ _))))
  go_wp2_with (first
    | (refine wpList_store_at rfl 3 _ _ rfl gm 154 (.int .i64 (pI s).1) rfl rfl rfl 61 _ HB3.out (HLT.out _ HZ.out 154 (by omega)) HSI.out ?_)
    | (refine wpList_store_at rfl 3 _ _ rfl gm 155 (.int .i64 (pI (pI s).2).1) rfl rfl rfl 61 _ HB4.out (HLT.out _ HZ1.out 155 (by omega)) HSI.out ?_)
    | (refine wpList_store_at rfl 30 _ _ rfl gm 156 (.int .u64 ((pN (pI (pI s).2).2).1 : Nat)) rfl rfl rfl 61 _ HB5.out (HLT.out _ HZ2.out 156 (by omega)) HSU.out ?_))
  change bodyPost _ _ _ _ _ (((w3.setCells gm 154 [.int .i64 (pI s).1]).setCells gm 155 [.int .i64 (pI (pI s).2).1]).setCells gm 156 [.int .u64 ((pN (pI (pI s).2).2).1 : Nat)])
  generalize ((w3.setCells gm 154 [.int .i64 (pI s).1]).setCells gm 155 [.int .i64 (pI (pI s).2).1]).setCells gm 156 [.int .u64 ((pN (pI (pI s).2).2).1 : Nat)] = wz at *
  go_ret
  exact ⟨rfl, HBZ.out, HR3.out.fr HFS.out (by have := HGM.out; simp; exact fun h => this h.symm) (fun q hq hm => HNF.out (by simp at hm; exact hm ▸ hq)), (HF3.out.mono (fun q hq _ => by simp at hq; simp [hq])).trans HFS.out (fun q hq _ => by simp at hq; simp [hq])⟩
theorem conv_back {w : World} {A : Option Addr} {n c : Nat} {l : List UInt8} (hy : By w A n l) : (convert 52 9 (.slice A n c)).run Try.prog w = .ok (.string ⟨l.toArray⟩) w := by
  cases A with
  | none =>
    obtain ⟨rfl, rfl⟩ := hy.none_
    rw [run_convert_bytes_string w 52 9 5 none 0 c Try.underlying52 Try.underlying5 Try.underlying9]
    rfl
  | some a =>
    obtain ⟨hl, hc⟩ := hy
    subst hl
    refine run_convert_bytes_back w 52 9 5 a c l Try.underlying52 Try.underlying5 Try.underlying9 (fun j hj => ?_)
    obtain ⟨ad, e, hc⟩ := hc (by omega)
    injection e with e
    subst e
    exact hc j _ (by simp [List.getElem?_eq_getElem hj, by8])
set_option maxHeartbeats 2000000 in
theorem mget_reply (x : Wmg) (hz : x.Len) (hq : x.q = 13) (w : World) (F : List Nat) (g gm : Nat) (s : Ps) (hr : Rs w F g s) (hb : Blk w gm 61 x.cells.toArray) (hgm : gm ≠ g) (hF : ¬ gm ∈ F) :
    Calls Try.prog 41 #[.pointer (some ⟨g, 0, none⟩), .pointer (some ⟨gm, 0, none⟩)] w fun e w' => e = .returned (.bool true) ∧ Blk w' gm 61 ({x with i := (pI s).1, rp := (pR (pI s).2).1} : Wmg).cells.toArray ∧ Rs w' F g (pR (pI s).2).2 ∧ Fr [g, gm] w w' := by
  have hq0 : w.cell? ⟨gm, 0, none⟩ = some (.int .i64 13) := by have h := hb.range (cs := x.cells) 0 (.int .i64 x.q) rfl; rw [hq] at h; exact h
  have HR := Lib.hid hr
  have HB := Lib.hid hb
  have HGM := Lib.hid hgm
  have HNF := Lib.hid hF
  have HZ := Lib.hid hz
  have HSI : Hid ((Try.prog.info? 3).map (·.size) = some 1) := Lib.hid (by kernel_rfl)
  have HSU : Hid ((Try.prog.info? 30).map (·.size) = some 1) := Lib.hid (by kernel_rfl)
  have HLT : Hid (∀ y : Wmg, y.Len → ∀ k < 295, k < y.cells.toArray.size) := Lib.hid (fun y hy k hk => by rw [List.size_toArray, Wmg.lenz hy]; exact hk)
  clear hr hb hgm hF hq hz
  go_enter Try.func41, Try.ntmps41
  go_wp2_with fail
  refine (getInt_any HR.out).mono ?_
  rintro e_ w1 ⟨rfl, h1, h2⟩
  have HB1 := Lib.hid (HB.out.keep h2 (by have := HGM.out; simpa using this))
  have HR1 := Lib.hid h1
  have HF1 : Hid (Fr [g] w w1) := Lib.hid (h2)
  clear h1 h2
  go_wp2_with fail
  refine (getRow_any HR1.out).mono ?_
  rintro e_ w2 ⟨A, c, rfl, hy, hbk, hlc, h1, h2⟩
  have hconv := conv_back (c := c) hy
  clear hy hbk hlc
  have HB2 := Lib.hid (HB1.out.keep h2 (by have := HGM.out; simpa using this))
  have HR2 := Lib.hid h1
  have HF2 : Hid (Fr [g] w w2) := Lib.hid (HF1.out.trans h2 (fun q hq _ => hq))
  clear h1 h2
  have HBI := Lib.hid (Wmg.blk_i HZ.out (pI s).1 HB2.out)
  have HZ1 : Hid (Wmg.Len {x with i := (pI s).1}) := Lib.hid ⟨HZ.out.cm, HZ.out.st, HZ.out.ce, HZ.out.ak, HZ.out.vt, HZ.out.en, HZ.out.op⟩
  have HSS : Hid ((Try.prog.info? 9).map (·.size) = some 1) := Lib.hid (by kernel_rfl)
  have HBZ := Lib.hid (Wmg.blk_rp HZ1.out (pR (pI s).2).1 HBI.out)
  have HFS : Hid (Fr [gm] w2 ((w2.setCells gm 212 [.int .i64 (pI s).1]).setCells gm 286 [.string ⟨(pR (pI s).2).1.toArray⟩])) := Lib.hid (Fr.setCells (fun _ => by simp) [.string ⟨(pR (pI s).2).1.toArray⟩] 286 _ (Fr.setCells (fun _ => by simp) [.int .i64 (pI s).1] 212 _ (Fr.refl _ _)))
  go_wp2_with (first
    | (refine wpList_store_at rfl 3 _ _ rfl gm 212 (.int .i64 (pI s).1) rfl rfl rfl 61 _ HB2.out (HLT.out _ HZ.out 212 (by omega)) HSI.out ?_)
    | (refine wpList_store_at rfl 9 _ _ rfl gm 286 (.string ⟨(pR (pI s).2).1.toArray⟩) rfl rfl rfl 61 _ HBI.out (HLT.out _ HZ1.out 286 (by omega)) HSS.out ?_))
  change bodyPost _ _ _ _ _ ((w2.setCells gm 212 [.int .i64 (pI s).1]).setCells gm 286 [.string ⟨(pR (pI s).2).1.toArray⟩])
  generalize (w2.setCells gm 212 [.int .i64 (pI s).1]).setCells gm 286 [.string ⟨(pR (pI s).2).1.toArray⟩] = wz at *
  go_ret
  exact ⟨rfl, HBZ.out, HR2.out.fr HFS.out (by have := HGM.out; simp; exact fun h => this h.symm) (fun q hq hm => HNF.out (by simp at hm; exact hm ▸ hq)), (HF2.out.mono (fun q hq _ => by simp at hq; simp [hq])).trans HFS.out (fun q hq _ => by simp at hq; simp [hq])⟩
set_option maxHeartbeats 2000000 in
theorem mget_none (x : Wmg) (hq : ¬ (1 ≤ x.q ∧ x.q ≤ 14)) (w : World) (g gm : Nat) (hb : Blk w gm 61 x.cells.toArray) :
    Calls Try.prog 41 #[.pointer (some ⟨g, 0, none⟩), .pointer (some ⟨gm, 0, none⟩)] w fun e w' => e = .returned (.bool false) ∧ w = w' := by
  have hq0 : w.cell? ⟨gm, 0, none⟩ = some (.int .i64 x.q) := hb.range (cs := x.cells) 0 (.int .i64 x.q) rfl
  have HQ := Lib.hid hq
  clear hb hq
  go_enter Try.func41, Try.ntmps41
  have n1 : (x.q == (1 : Int)) = false := by have := HQ.out; simp; omega
  have n2 : (x.q == (2 : Int)) = false := by have := HQ.out; simp; omega
  have n3 : (x.q == (3 : Int)) = false := by have := HQ.out; simp; omega
  have n4 : (x.q == (4 : Int)) = false := by have := HQ.out; simp; omega
  have n5 : (x.q == (5 : Int)) = false := by have := HQ.out; simp; omega
  have n6 : (x.q == (6 : Int)) = false := by have := HQ.out; simp; omega
  have n7 : (x.q == (7 : Int)) = false := by have := HQ.out; simp; omega
  have n8 : (x.q == (8 : Int)) = false := by have := HQ.out; simp; omega
  have n9 : (x.q == (9 : Int)) = false := by have := HQ.out; simp; omega
  have n10 : (x.q == (10 : Int)) = false := by have := HQ.out; simp; omega
  have n11 : (x.q == (11 : Int)) = false := by have := HQ.out; simp; omega
  have n12 : (x.q == (12 : Int)) = false := by have := HQ.out; simp; omega
  have n13 : (x.q == (13 : Int)) = false := by have := HQ.out; simp; omega
  have n14 : (x.q == (14 : Int)) = false := by have := HQ.out; simp; omega
  go_wp2_with fail
  go_ret
  exact ⟨rfl, rfl⟩
end Go.Proofs.Ytnpjihdhpoddgaa

namespace Go.Proofs.Ytnpjihdhpoddgaa
open Go.RowKit
set_option maxRecDepth 100000
def pW {α : Type} (z : α) (p : Ps → α × Ps) (s : Ps) : α × Ps := (if (p s).2.2 then z else (p s).1, (p s).2)
def zWce : Wce := ⟨⟨0, 0, List.replicate 32 0, 0, 0, 0⟩, none, 0, 0, []⟩
def zWpr : Wpr := ⟨0, 0, 0, none, 0, 0, [], 0, 0⟩
def zWba : Wba := ⟨0, 0, none, 0, 0, [], none, 0, 0, [], none, 0, 0, []⟩
theorem zero_in : i64In 0 := by unfold i64In; omega
theorem zWce_ok (w : World) (S : List Nat) : zWce.Li w S := ⟨⟨zero_in, zero_in, rfl, zero_in, zero_in, zero_in⟩, Lst.nil _, by decide, fun h => absurd h (by decide)⟩
theorem zWpr_ok (w : World) (S : List Nat) : zWpr.Li w S := ⟨zero_in, zero_in, by decide, Lst.nil _, by decide, fun h => absurd h (by decide), zero_in, zero_in⟩
theorem zWba_ok (w : World) (S : List Nat) : zWba.Li w S := ⟨zero_in, by decide, Lst.nil _, by decide, fun h => absurd h (by decide), Lst.nil _, by decide, fun h => absurd h (by decide), Lst.nil _, by decide, fun h => absurd h (by decide)⟩

end Go.Proofs.Ytnpjihdhpoddgaa

namespace Go.Proofs.Ytnpjihdhpoddgaa
open Go.RowKit
set_option maxRecDepth 100000
/-- what a message says -/
structure Cmg where
  q : Int
  f : Int
  t : Int
  cm : Wcm
  st : Wst
  ce : Cce
  ak : Wst
  e : Int
  r : Int
  tm : Nat
  pr : Cpr
  po : Cpo
  vt : Wvt
  i : Int
  en : Wen
  op : Cop
  dn : Wdn
  rp : List UInt8
  de : Cdc
def Wmg.con (x : Wmg) : Cmg := ⟨x.q, x.f, x.t, x.cm, x.st, x.ce.con, x.ak, x.e, x.r, x.tm, x.pr.con, x.po.con, x.vt, x.i, x.en, x.op.con, x.dn, x.rp, x.de.con⟩
/-- what its kind names, read -/
def pM (c : Cmg) (s : Ps) : Cmg × Ps := if c.q = 1 then ({c with cm := (pCm s).1}, (pCm s).2) else if c.q = 2 then ({c with st := (pSt s).1}, (pSt s).2) else if c.q = 3 then ({c with ce := (pCe s).1}, (pCe s).2) else if c.q = 4 then ({c with ak := (pSt s).1}, (pSt s).2) else if c.q = 5 then ({c with e := (pI s).1, r := (pI (pI s).2).1, tm := (pN (pI (pI s).2).2).1}, (pN (pI (pI s).2).2).2) else if c.q = 6 then ({c with pr := (pPr s).1}, (pPr s).2) else if c.q = 7 then ({c with po := (pPo s).1}, (pPo s).2) else if c.q = 8 then ({c with vt := (pVt s).1}, (pVt s).2) else if c.q = 9 then ({c with i := (pI s).1, en := (pEn (pI s).2).1}, (pEn (pI s).2).2) else if c.q = 10 then ({c with op := (pOp s).1}, (pOp s).2) else if c.q = 11 then ({c with i := (pI s).1}, (pI s).2) else if c.q = 12 then ({c with dn := (pDn s).1}, (pDn s).2) else if c.q = 13 then ({c with i := (pI s).1, rp := (pR (pI s).2).1}, (pR (pI s).2).2) else if c.q = 14 then ({c with de := (pDc s).1}, (pDc s).2) else (c, s)
theorem pM_1 {c : Cmg} (s : Ps) (h : c.q = 1) : pM c s = ({c with cm := (pCm s).1}, (pCm s).2) := by simp [pM, h]
theorem pM_2 {c : Cmg} (s : Ps) (h : c.q = 2) : pM c s = ({c with st := (pSt s).1}, (pSt s).2) := by simp [pM, h]
theorem pM_3 {c : Cmg} (s : Ps) (h : c.q = 3) : pM c s = ({c with ce := (pCe s).1}, (pCe s).2) := by simp [pM, h]
theorem pM_4 {c : Cmg} (s : Ps) (h : c.q = 4) : pM c s = ({c with ak := (pSt s).1}, (pSt s).2) := by simp [pM, h]
theorem pM_5 {c : Cmg} (s : Ps) (h : c.q = 5) : pM c s = ({c with e := (pI s).1, r := (pI (pI s).2).1, tm := (pN (pI (pI s).2).2).1}, (pN (pI (pI s).2).2).2) := by simp [pM, h]
theorem pM_6 {c : Cmg} (s : Ps) (h : c.q = 6) : pM c s = ({c with pr := (pPr s).1}, (pPr s).2) := by simp [pM, h]
theorem pM_7 {c : Cmg} (s : Ps) (h : c.q = 7) : pM c s = ({c with po := (pPo s).1}, (pPo s).2) := by simp [pM, h]
theorem pM_8 {c : Cmg} (s : Ps) (h : c.q = 8) : pM c s = ({c with vt := (pVt s).1}, (pVt s).2) := by simp [pM, h]
theorem pM_9 {c : Cmg} (s : Ps) (h : c.q = 9) : pM c s = ({c with i := (pI s).1, en := (pEn (pI s).2).1}, (pEn (pI s).2).2) := by simp [pM, h]
theorem pM_10 {c : Cmg} (s : Ps) (h : c.q = 10) : pM c s = ({c with op := (pOp s).1}, (pOp s).2) := by simp [pM, h]
theorem pM_11 {c : Cmg} (s : Ps) (h : c.q = 11) : pM c s = ({c with i := (pI s).1}, (pI s).2) := by simp [pM, h]
theorem pM_12 {c : Cmg} (s : Ps) (h : c.q = 12) : pM c s = ({c with dn := (pDn s).1}, (pDn s).2) := by simp [pM, h]
theorem pM_13 {c : Cmg} (s : Ps) (h : c.q = 13) : pM c s = ({c with i := (pI s).1, rp := (pR (pI s).2).1}, (pR (pI s).2).2) := by simp [pM, h]
theorem pM_14 {c : Cmg} (s : Ps) (h : c.q = 14) : pM c s = ({c with de := (pDc s).1}, (pDc s).2) := by simp [pM, h]
theorem pM_none {c : Cmg} (s : Ps) (h : ¬ (1 ≤ c.q ∧ c.q ≤ 14)) : pM c s = (c, s) := by
  unfold pM
  rw [if_neg (by omega)]
  rw [if_neg (by omega)]
  rw [if_neg (by omega)]
  rw [if_neg (by omega)]
  rw [if_neg (by omega)]
  rw [if_neg (by omega)]
  rw [if_neg (by omega)]
  rw [if_neg (by omega)]
  rw [if_neg (by omega)]
  rw [if_neg (by omega)]
  rw [if_neg (by omega)]
  rw [if_neg (by omega)]
  rw [if_neg (by omega)]
  rw [if_neg (by omega)]
structure Wmg.Li (w : World) (S : List Nat) (x : Wmg) : Prop where
  cm : x.cm.Ok
  st : x.st.Ok
  ce : x.ce.Li w S
  ak : x.ak.Ok
  pr : x.pr.Li w S
  po : x.po.Li w S
  vt : x.vt.Ok
  en : x.en.Ok
  op : x.op.Ok w S
  dn : x.dn.Ok
  de : x.de.Li w S
theorem mb0_ok (w : World) (S : List Nat) : mb0.Li w S := ⟨zero_in, by decide, Lst.nil _, by decide, fun h => absurd h (by decide), Lst.nil _, by decide, fun h => absurd h (by decide), Lst.nil _, by decide, fun h => absurd h (by decide)⟩
theorem mz_li (w : World) (S : List Nat) (q f t : Int) : (mz q f t).Li w S :=
  ⟨⟨zero_in, zero_in, rfl, zero_in, zero_in, zero_in⟩, ⟨zero_in, zero_in, zero_in, rfl, (show 0 < 18446744073709551616 by decide), zero_in, zero_in⟩, zWce_ok w S, ⟨zero_in, zero_in, zero_in, rfl, (show 0 < 18446744073709551616 by decide), zero_in, zero_in⟩,
   zWpr_ok w S, ⟨zero_in, zero_in, zero_in, zero_in, mb0_ok w S, zero_in, zero_in⟩, ⟨zero_in, zero_in, zero_in, zero_in, rfl, zero_in, zero_in⟩, ⟨zero_in, zero_in, rfl, (show 0 < 18446744073709551616 by decide)⟩,
   ⟨zero_in, By.nil _ _, (show 0 ≤ 260 by decide), fun k hk => by simp [mz, bk] at hk, fun k hk => by simp [mz, bk] at hk, rfl, (show 0 ≤ 0 by decide)⟩, ⟨zero_in, zero_in, zero_in, zero_in⟩, ⟨zero_in, zero_in, mb0_ok w S, Lst.nil _, (show 0 ≤ 100 by decide), fun h => absurd h (show ¬ 0 < 0 by decide)⟩⟩
theorem mget_any (q f t : Int) (w : World) (F : List Nat) (g gm : Nat) (s : Ps) (hr : Rs w F g s) (hb : Blk w gm 61 (mz q f t).cells.toArray) (hgm : gm ≠ g) (hF : ¬ gm ∈ F) :
    Calls Try.prog 41 #[.pointer (some ⟨g, 0, none⟩), .pointer (some ⟨gm, 0, none⟩)] w fun e w' => ∃ y : Wmg, e = .returned (.bool (decide (1 ≤ q ∧ q ≤ 14))) ∧ y.con = (pM (mz q f t).con s).1 ∧ y.Len ∧ (∀ S0 : List Nat, (∀ k ∈ S0, k < w.heap.size) → y.Li w' S0) ∧ Blk w' gm 61 y.cells.toArray ∧ Rs w' F g (pM (mz q f t).con s).2 ∧ Fr [g, gm] w w' := by
  by_cases hm : 1 ≤ q ∧ q ≤ 14
  · rw [decide_eq_true hm]
    have hs : q = 1 ∨ q = 2 ∨ q = 3 ∨ q = 4 ∨ q = 5 ∨ q = 6 ∨ q = 7 ∨ q = 8 ∨ q = 9 ∨ q = 10 ∨ q = 11 ∨ q = 12 ∨ q = 13 ∨ q = 14 := by omega
    rcases hs with h | h | h | h | h | h | h | h | h | h | h | h | h | h
    · rw [pM_1 s (show (mz q f t).con.q = 1 from h)]
      refine (mget_cm (mz q f t) (mz_len q f t) h w F g gm s hr hb hgm hF).mono ?_
      rintro e w' ⟨v, rfl, hc, hok, hb', hr', hf'⟩
      exact ⟨{mz q f t with cm := v}, rfl, by rw [← hc]; rfl, ⟨(hok [] (by simp)).h, rfl, rfl, rfl, rfl, rfl, rfl⟩, fun S0 h0 => ⟨hok S0 h0, (mz_li w' S0 q f t).st, (mz_li w' S0 q f t).ce, (mz_li w' S0 q f t).ak, (mz_li w' S0 q f t).pr, (mz_li w' S0 q f t).po, (mz_li w' S0 q f t).vt, (mz_li w' S0 q f t).en, (mz_li w' S0 q f t).op, (mz_li w' S0 q f t).dn, (mz_li w' S0 q f t).de⟩, hb', hr', hf'⟩
    · rw [pM_2 s (show (mz q f t).con.q = 2 from h)]
      refine (mget_st (mz q f t) (mz_len q f t) h w F g gm s hr hb hgm hF).mono ?_
      rintro e w' ⟨v, rfl, hc, hok, hb', hr', hf'⟩
      exact ⟨{mz q f t with st := v}, rfl, by rw [← hc]; rfl, ⟨rfl, (hok [] (by simp)).h, rfl, rfl, rfl, rfl, rfl⟩, fun S0 h0 => ⟨(mz_li w' S0 q f t).cm, hok S0 h0, (mz_li w' S0 q f t).ce, (mz_li w' S0 q f t).ak, (mz_li w' S0 q f t).pr, (mz_li w' S0 q f t).po, (mz_li w' S0 q f t).vt, (mz_li w' S0 q f t).en, (mz_li w' S0 q f t).op, (mz_li w' S0 q f t).dn, (mz_li w' S0 q f t).de⟩, hb', hr', hf'⟩
    · rw [pM_3 s (show (mz q f t).con.q = 3 from h)]
      refine (mget_ce (mz q f t) (mz_len q f t) h w F g gm s hr hb hgm hF).mono ?_
      rintro e w' ⟨v, rfl, hc, hok, hb', hr', hf'⟩
      exact ⟨{mz q f t with ce := v}, rfl, by rw [← hc]; rfl, ⟨rfl, rfl, (hok [] (by simp)).k.h, rfl, rfl, rfl, rfl⟩, fun S0 h0 => ⟨(mz_li w' S0 q f t).cm, (mz_li w' S0 q f t).st, hok S0 h0, (mz_li w' S0 q f t).ak, (mz_li w' S0 q f t).pr, (mz_li w' S0 q f t).po, (mz_li w' S0 q f t).vt, (mz_li w' S0 q f t).en, (mz_li w' S0 q f t).op, (mz_li w' S0 q f t).dn, (mz_li w' S0 q f t).de⟩, hb', hr', hf'⟩
    · rw [pM_4 s (show (mz q f t).con.q = 4 from h)]
      refine (mget_ak (mz q f t) (mz_len q f t) h w F g gm s hr hb hgm hF).mono ?_
      rintro e w' ⟨v, rfl, hc, hok, hb', hr', hf'⟩
      exact ⟨{mz q f t with ak := v}, rfl, by rw [← hc]; rfl, ⟨rfl, rfl, rfl, (hok [] (by simp)).h, rfl, rfl, rfl⟩, fun S0 h0 => ⟨(mz_li w' S0 q f t).cm, (mz_li w' S0 q f t).st, (mz_li w' S0 q f t).ce, hok S0 h0, (mz_li w' S0 q f t).pr, (mz_li w' S0 q f t).po, (mz_li w' S0 q f t).vt, (mz_li w' S0 q f t).en, (mz_li w' S0 q f t).op, (mz_li w' S0 q f t).dn, (mz_li w' S0 q f t).de⟩, hb', hr', hf'⟩
    · rw [pM_5 s (show (mz q f t).con.q = 5 from h)]
      refine (mget_close (mz q f t) (mz_len q f t) h w F g gm s hr hb hgm hF).mono ?_
      rintro e w' ⟨rfl, hb', hr', hf'⟩
      exact ⟨{mz q f t with e := (pI s).1, r := (pI (pI s).2).1, tm := (pN (pI (pI s).2).2).1}, rfl, rfl, ⟨rfl, rfl, rfl, rfl, rfl, rfl, rfl⟩, fun S0 _ => ⟨(mz_li w' S0 q f t).cm, (mz_li w' S0 q f t).st, (mz_li w' S0 q f t).ce, (mz_li w' S0 q f t).ak, (mz_li w' S0 q f t).pr, (mz_li w' S0 q f t).po, (mz_li w' S0 q f t).vt, (mz_li w' S0 q f t).en, (mz_li w' S0 q f t).op, (mz_li w' S0 q f t).dn, (mz_li w' S0 q f t).de⟩, hb', hr', hf'⟩
    · rw [pM_6 s (show (mz q f t).con.q = 6 from h)]
      refine (mget_pr (mz q f t) (mz_len q f t) h w F g gm s hr hb hgm hF).mono ?_
      rintro e w' ⟨v, rfl, hc, hok, hb', hr', hf'⟩
      exact ⟨{mz q f t with pr := v}, rfl, by rw [← hc]; rfl, ⟨rfl, rfl, rfl, rfl, rfl, rfl, rfl⟩, fun S0 h0 => ⟨(mz_li w' S0 q f t).cm, (mz_li w' S0 q f t).st, (mz_li w' S0 q f t).ce, (mz_li w' S0 q f t).ak, hok S0 h0, (mz_li w' S0 q f t).po, (mz_li w' S0 q f t).vt, (mz_li w' S0 q f t).en, (mz_li w' S0 q f t).op, (mz_li w' S0 q f t).dn, (mz_li w' S0 q f t).de⟩, hb', hr', hf'⟩
    · rw [pM_7 s (show (mz q f t).con.q = 7 from h)]
      refine (mget_po (mz q f t) (mz_len q f t) h w F g gm s hr hb hgm hF).mono ?_
      rintro e w' ⟨v, rfl, hc, hok, hb', hr', hf'⟩
      exact ⟨{mz q f t with po := v}, rfl, by rw [← hc]; rfl, ⟨rfl, rfl, rfl, rfl, rfl, rfl, rfl⟩, fun S0 h0 => ⟨(mz_li w' S0 q f t).cm, (mz_li w' S0 q f t).st, (mz_li w' S0 q f t).ce, (mz_li w' S0 q f t).ak, (mz_li w' S0 q f t).pr, hok S0 h0, (mz_li w' S0 q f t).vt, (mz_li w' S0 q f t).en, (mz_li w' S0 q f t).op, (mz_li w' S0 q f t).dn, (mz_li w' S0 q f t).de⟩, hb', hr', hf'⟩
    · rw [pM_8 s (show (mz q f t).con.q = 8 from h)]
      refine (mget_vt (mz q f t) (mz_len q f t) h w F g gm s hr hb hgm hF).mono ?_
      rintro e w' ⟨v, rfl, hc, hok, hb', hr', hf'⟩
      exact ⟨{mz q f t with vt := v}, rfl, by rw [← hc]; rfl, ⟨rfl, rfl, rfl, rfl, (hok [] (by simp)).h, rfl, rfl⟩, fun S0 h0 => ⟨(mz_li w' S0 q f t).cm, (mz_li w' S0 q f t).st, (mz_li w' S0 q f t).ce, (mz_li w' S0 q f t).ak, (mz_li w' S0 q f t).pr, (mz_li w' S0 q f t).po, hok S0 h0, (mz_li w' S0 q f t).en, (mz_li w' S0 q f t).op, (mz_li w' S0 q f t).dn, (mz_li w' S0 q f t).de⟩, hb', hr', hf'⟩
    · rw [pM_9 s (show (mz q f t).con.q = 9 from h)]
      refine (mget_en (mz q f t) (mz_len q f t) h w F g gm s hr hb hgm hF).mono ?_
      rintro e w' ⟨rfl, hb', hr', hf'⟩
      exact ⟨{mz q f t with i := (pI s).1, en := (pEn (pI s).2).1}, rfl, rfl, ⟨rfl, rfl, rfl, rfl, rfl, (pEn_ok _).h, rfl⟩, fun S0 _ => ⟨(mz_li w' S0 q f t).cm, (mz_li w' S0 q f t).st, (mz_li w' S0 q f t).ce, (mz_li w' S0 q f t).ak, (mz_li w' S0 q f t).pr, (mz_li w' S0 q f t).po, (mz_li w' S0 q f t).vt, pEn_ok _, (mz_li w' S0 q f t).op, (mz_li w' S0 q f t).dn, (mz_li w' S0 q f t).de⟩, hb', hr', hf'⟩
    · rw [pM_10 s (show (mz q f t).con.q = 10 from h)]
      refine (mget_op (mz q f t) (mz_len q f t) h w F g gm s hr hb hgm hF).mono ?_
      rintro e w' ⟨v, rfl, hc, hok, hb', hr', hf'⟩
      exact ⟨{mz q f t with op := v}, rfl, by rw [← hc]; rfl, ⟨rfl, rfl, rfl, rfl, rfl, rfl, (hok [] (by simp)).h⟩, fun S0 h0 => ⟨(mz_li w' S0 q f t).cm, (mz_li w' S0 q f t).st, (mz_li w' S0 q f t).ce, (mz_li w' S0 q f t).ak, (mz_li w' S0 q f t).pr, (mz_li w' S0 q f t).po, (mz_li w' S0 q f t).vt, (mz_li w' S0 q f t).en, hok S0 h0, (mz_li w' S0 q f t).dn, (mz_li w' S0 q f t).de⟩, hb', hr', hf'⟩
    · rw [pM_11 s (show (mz q f t).con.q = 11 from h)]
      refine (mget_i (mz q f t) (mz_len q f t) h w F g gm s hr hb hgm hF).mono ?_
      rintro e w' ⟨rfl, hb', hr', hf'⟩
      exact ⟨{mz q f t with i := (pI s).1}, rfl, rfl, ⟨rfl, rfl, rfl, rfl, rfl, rfl, rfl⟩, fun S0 _ => ⟨(mz_li w' S0 q f t).cm, (mz_li w' S0 q f t).st, (mz_li w' S0 q f t).ce, (mz_li w' S0 q f t).ak, (mz_li w' S0 q f t).pr, (mz_li w' S0 q f t).po, (mz_li w' S0 q f t).vt, (mz_li w' S0 q f t).en, (mz_li w' S0 q f t).op, (mz_li w' S0 q f t).dn, (mz_li w' S0 q f t).de⟩, hb', hr', hf'⟩
    · rw [pM_12 s (show (mz q f t).con.q = 12 from h)]
      refine (mget_dn (mz q f t) (mz_len q f t) h w F g gm s hr hb hgm hF).mono ?_
      rintro e w' ⟨v, rfl, hc, hok, hb', hr', hf'⟩
      exact ⟨{mz q f t with dn := v}, rfl, by rw [← hc]; rfl, ⟨rfl, rfl, rfl, rfl, rfl, rfl, rfl⟩, fun S0 h0 => ⟨(mz_li w' S0 q f t).cm, (mz_li w' S0 q f t).st, (mz_li w' S0 q f t).ce, (mz_li w' S0 q f t).ak, (mz_li w' S0 q f t).pr, (mz_li w' S0 q f t).po, (mz_li w' S0 q f t).vt, (mz_li w' S0 q f t).en, (mz_li w' S0 q f t).op, hok S0 h0, (mz_li w' S0 q f t).de⟩, hb', hr', hf'⟩
    · rw [pM_13 s (show (mz q f t).con.q = 13 from h)]
      refine (mget_reply (mz q f t) (mz_len q f t) h w F g gm s hr hb hgm hF).mono ?_
      rintro e w' ⟨rfl, hb', hr', hf'⟩
      exact ⟨{mz q f t with i := (pI s).1, rp := (pR (pI s).2).1}, rfl, rfl, ⟨rfl, rfl, rfl, rfl, rfl, rfl, rfl⟩, fun S0 _ => ⟨(mz_li w' S0 q f t).cm, (mz_li w' S0 q f t).st, (mz_li w' S0 q f t).ce, (mz_li w' S0 q f t).ak, (mz_li w' S0 q f t).pr, (mz_li w' S0 q f t).po, (mz_li w' S0 q f t).vt, (mz_li w' S0 q f t).en, (mz_li w' S0 q f t).op, (mz_li w' S0 q f t).dn, (mz_li w' S0 q f t).de⟩, hb', hr', hf'⟩
    · rw [pM_14 s (show (mz q f t).con.q = 14 from h)]
      refine (mget_de (mz q f t) (mz_len q f t) h w F g gm s hr hb hgm hF).mono ?_
      rintro e w' ⟨v, rfl, hc, hok, hb', hr', hf'⟩
      exact ⟨{mz q f t with de := v}, rfl, by rw [← hc]; rfl, ⟨rfl, rfl, rfl, rfl, rfl, rfl, rfl⟩, fun S0 h0 => ⟨(mz_li w' S0 q f t).cm, (mz_li w' S0 q f t).st, (mz_li w' S0 q f t).ce, (mz_li w' S0 q f t).ak, (mz_li w' S0 q f t).pr, (mz_li w' S0 q f t).po, (mz_li w' S0 q f t).vt, (mz_li w' S0 q f t).en, (mz_li w' S0 q f t).op, (mz_li w' S0 q f t).dn, hok S0 h0⟩, hb', hr', hf'⟩
  · rw [decide_eq_false hm, pM_none s (show ¬ (1 ≤ (mz q f t).con.q ∧ (mz q f t).con.q ≤ 14) from hm)]
    refine (mget_none (mz q f t) hm w g gm hb).mono ?_
    rintro e w' ⟨rfl, rfl⟩
    exact ⟨mz q f t, rfl, rfl, mz_len q f t, fun S0 _ => mz_li w S0 q f t, hb, hr, Fr.refl _ _⟩
theorem Wmg.one (x : Wmg) : ∀ v ∈ x.cells, v.oneCell' = true := by
  intro v hv
  simp only [Wmg.cells, List.mem_append, List.mem_singleton] at hv
  rcases hv with rfl | rfl | rfl | hv | hv | hv | hv | rfl | rfl | rfl | hv | hv | hv | rfl | hv | hv | hv | rfl | hv
  · rfl
  · rfl
  · rfl
  · exact Wcm.one _ v hv
  · exact Wst.one _ v hv
  · exact Wce.one _ v hv
  · exact Wst.one _ v hv
  · rfl
  · rfl
  · rfl
  · exact Wpr.one _ v hv
  · exact Wpo.one _ v hv
  · exact Wvt.one _ v hv
  · rfl
  · exact Wen.one _ v hv
  · exact Wop.one _ v hv
  · exact Wdn.one _ v hv
  · rfl
  · exact Wdc.one _ v hv
end Go.Proofs.Ytnpjihdhpoddgaa

namespace Go.Proofs.Ytnpjihdhpoddgaa
open Go.RowKit
set_option maxRecDepth 100000
theorem results_row_tmp {P : Program} {fn : Func} {p u : Tmp} {ty : TypeId} (h : fn.results = #[.cell p ty, .tmp u]) (tmps : Array Value) (w : World) (g : Nat) (t : TypeId) (cs : Array Value) (fr : Nat × Nat) (d : TypeDesc) (b : Value)
    (hp : tmps.getD p undef = .pointer (some ⟨g, 0, none⟩)) (hb : tmps.getD u undef = b) (hg : w.heap[g]? = some (.cells cs t fr))
    (hu : P.underlying ty = some d) (hd : (match d with | .struct _ | .array _ _ => true | _ => false) = true) (hi : (P.info? ty).map (·.size) = some cs.size) :
    (results fn tmps).run P w = .ok (.tuple #[.agg cs, b]) w := by
  rw [results_cell_tmp h, hp, hb]
  simp [asAddr, Result.andThen, run_loadVar_row w g t ty cs fr d hg hu hd hi]
/-- what Unpack tells of bytes -/
def pU (l : List UInt8) : Cmg × Bool :=
  if 1 ≤ (pI (l, false)).1 ∧ (pI (l, false)).1 ≤ 14 ∧ (pM (mz (pI (l, false)).1 (pI (pI (l, false)).2).1 (pI (pI (pI (l, false)).2).2).1).con (pI (pI (pI (l, false)).2).2).2).2.2 = false ∧ (pM (mz (pI (l, false)).1 (pI (pI (l, false)).2).1 (pI (pI (pI (l, false)).2).2).1).con (pI (pI (pI (l, false)).2).2).2).2.1 = [] then ((pM (mz (pI (l, false)).1 (pI (pI (l, false)).2).1 (pI (pI (pI (l, false)).2).2).1).con (pI (pI (pI (l, false)).2).2).2).1, true) else ((mz 0 0 0).con, false)
theorem Wmg.Li.keep {w W : World} {S S' : List Nat} {x : Wmg} (h : x.Li w S) (hf : Fr S w W) (hs : ∀ k ∈ S', k < w.heap.size → k ∈ S) : x.Li W S' :=
  ⟨h.cm, h.st, h.ce.keep hf hs, h.ak, h.pr.keep hf hs, h.po.keep hf hs, h.vt, h.en, h.op.keep hf hs, h.dn, h.de.keep hf hs⟩
theorem built_mg0 : Try.prog.built 61 [] = some (mz 0 0 0).cells.toArray := by kernel_rfl
theorem built_mg3 (q f t : Int) : Try.prog.built 61 [(0, .int .i64 q), (1, .int .i64 f), (2, .int .i64 t)] = some (mz q f t).cells.toArray := by kernel_rfl
theorem msg_size {x : Wmg} (hx : x.Len) : (Try.prog.info? 61).map (·.size) = some x.cells.toArray.size := by rw [List.size_toArray, Wmg.lenz hx]; kernel_rfl
set_option maxHeartbeats 4000000 in
theorem munpack_any (A : Option Addr) (n c : Nat) (l : List UInt8) (w : World) (hy : By w A n l) (hn : n ≤ 65536) :
    Calls Try.prog 20 #[.slice A n c] w fun e w' => ∃ y : Wmg, e = .returned (.tuple #[.agg y.cells.toArray, .bool (pU l).2]) ∧ y.con = (pU l).1 ∧ y.Len ∧ (∀ S0 : List Nat, (∀ k ∈ S0, k < w.heap.size) → y.Li w' S0) ∧ Fr [] w w' := by
  obtain ⟨Z, hZ⟩ : ∃ Z, Z = (mz 0 0 0).cells.toArray := ⟨_, rfl⟩
  obtain ⟨wa, hwa⟩ : ∃ wa, wa = w.alloc (Obj.cells Z 61) := ⟨_, rfl⟩
  have hf0 : Fr [] w wa := by rw [hwa]; exact (Fr.refl [] w).alloc _
  have HBZ : Hid (Blk wa w.heap.size 61 Z) := Lib.hid (by rw [hwa]; exact Blk.new _ _ _)
  have HWS : Hid (wa.heap.size = w.heap.size + 1) := Lib.hid (by rw [hwa]; simp)
  have HY := Lib.hid (hy.keep hf0 (by simp))
  have HN := Lib.hid hn
  have HLN := Lib.hid hy.1
  have HF0 := Lib.hid hf0
  have HWA := Lib.hid hwa
  have HZ := Lib.hid hZ
  have HZT : Hid ((Try.prog.info? 61).map (·.size) = some Z.size) := Lib.hid (by rw [hZ]; exact msg_size (mz_len 0 0 0))
  have HZO : Hid (Z.all (·.oneCell') = true) := Lib.hid (by rw [hZ]; exact all_oneCell_toArray (Wmg.one _))
  have HB0 : Hid (Try.prog.built 61 [] = some Z) := Lib.hid (by rw [hZ]; exact built_mg0)
  have hbig : ¬ (65536 < (n : Int)) := by omega
  have hbig2 : ¬ (65536 < n) := by omega
  have HPU : Hid (pU l = if 1 ≤ (pI (l, false)).1 ∧ (pI (l, false)).1 ≤ 14 ∧ (pM (mz (pI (l, false)).1 (pI (pI (l, false)).2).1 (pI (pI (pI (l, false)).2).2).1).con (pI (pI (pI (l, false)).2).2).2).2.2 = false ∧ (pM (mz (pI (l, false)).1 (pI (pI (l, false)).2).1 (pI (pI (pI (l, false)).2).2).1).con (pI (pI (pI (l, false)).2).2).2).2.1 = [] then ((pM (mz (pI (l, false)).1 (pI (pI (l, false)).2).1 (pI (pI (pI (l, false)).2).2).1).con (pI (pI (pI (l, false)).2).2).2).1, true) else ((mz 0 0 0).con, false)) := Lib.hid rfl
  clear hwa hf0 hy hn hZ
  go_enter Try.func20, Try.ntmps20
  go_upto_region 1 with (fail)
  change Code.wp _ _ _ _ (w.alloc (Obj.cells (mz 0 0 0).cells.toArray 61))
  rw [← HZ.out, ← HWA.out]
  go_wp2_with fail
  refine (newReader_any A n c l wa HY.out (by have := HN.out; omega)).mono ?_
  rintro e_ w1 ⟨g, F, rfl, h1, h2, h3, h4⟩
  have HR1 : Hid (Rs w1 F g (l, false)) := Lib.hid ⟨h1, by have := HLN.out; have := HN.out; simp only; omega, fun k hk => (h4 k hk).2⟩
  have HG : Hid (w.heap.size < g ∧ g < w1.heap.size) := Lib.hid ⟨by have := HWS.out; omega, h1.lt⟩
  have HNF : Hid (∀ k ∈ F, w.heap.size < k ∧ k < w1.heap.size) := Lib.hid (fun k hk => by have h := h4 k hk; have := HWS.out; omega)
  have HF1 : Hid (Fr [] w w1) := Lib.hid (HF0.out.and h2 (by simp))
  have HB1 := Lib.hid (HBZ.out.keep h2 (by simp))
  clear h1 h2 h3 h4 hbig hbig2
  go_wp2_with fail
  refine (getInt_any HR1.out).mono ?_
  rintro e_ w2 ⟨rfl, h1, h2⟩
  have HR2 := Lib.hid h1
  have HF2 : Hid (Fr [g] w1 w2) := Lib.hid h2
  clear h1 h2
  go_wp2_with fail
  refine (getInt_any HR2.out).mono ?_
  rintro e_ w3 ⟨rfl, h1, h2⟩
  have HR3 := Lib.hid h1
  have HF3 : Hid (Fr [g] w1 w3) := Lib.hid (HF2.out.trans h2 (fun x hx _ => hx))
  clear h1 h2
  go_wp2_with fail
  refine (getInt_any HR3.out).mono ?_
  rintro e_ w4 ⟨rfl, h1, h2⟩
  have HR4 := Lib.hid h1
  have HF4 : Hid (Fr [g] w1 w4) := Lib.hid (HF3.out.trans h2 (fun x hx _ => hx))
  clear h1 h2
  have HB4 := Lib.hid (HB1.out.keep HF4.out (by have := HG.out; simp; omega))
  have HS4 : Hid (w1.heap.size ≤ w4.heap.size) := Lib.hid HF4.out.size
  have HBN : Hid (Blk (w4.alloc (Obj.cells (mz 0 0 0).cells.toArray 61)) w4.heap.size 61 Z) := Lib.hid (by rw [HZ.out]; exact Blk.new _ _ _)
  obtain ⟨V, hV⟩ : ∃ V, V = (mz (pI (l, false)).1 (pI (pI (l, false)).2).1 (pI (pI (pI (l, false)).2).2).1).cells.toArray := ⟨_, rfl⟩
  have HBU : Hid (Try.prog.built 61 [(0, .int .i64 (pI (l, false)).1), (1, .int .i64 (pI (pI (l, false)).2).1), (2, .int .i64 (pI (pI (pI (l, false)).2).2).1)] = some V) := Lib.hid (by rw [hV]; exact built_mg3 _ _ _)
  have HVT : Hid ((Try.prog.info? 61).map (·.size) = some V.size) := Lib.hid (by rw [hV]; exact msg_size (mz_len _ _ _))
  have HVO : Hid (V.all (·.oneCell') = true) := Lib.hid (by rw [hV]; exact all_oneCell_toArray (Wmg.one _))
  have HVZ : Hid (Z.size = V.size) := Lib.hid (by rw [hV, HZ.out, List.size_toArray, List.size_toArray, Wmg.lenz (mz_len _ _ _), Wmg.lenz (mz_len _ _ _)])
  have HV := Lib.hid hV
  clear hV
  go_wp2_with (first
    | (refine wpList_builtg rfl 61 _ rfl _ _ HBU.out rfl ?_)
    | (refine wpList_store_blk rfl 61 _ _ rfl w4.heap.size V rfl rfl 61 Z HBN.out HVT.out HVZ.out HVO.out ?_
       intro w5 hb5 hf5
       have HB5 := Lib.hid hb5
       have HF5 := Lib.hid ((((Fr.refl [w4.heap.size] w4).alloc _)).trans hf5 (fun x hx _ => hx))
       clear hb5 hf5))
  have HR5 := Lib.hid (HR4.out.fr HF5.out (by have := HG.out; have := HS4.out; simp; omega) (fun k hk hm => by have := HNF.out k hk; have := HS4.out; simp at hm; omega))
  have HBZ5 := Lib.hid (HB4.out.keep HF5.out (by have := HG.out; have := HS4.out; simp; omega))
  refine (mget_any (pI (l, false)).1 (pI (pI (l, false)).2).1 (pI (pI (pI (l, false)).2).2).1 w5 F g w4.heap.size (pI (pI (pI (l, false)).2).2).2 HR5.out (by rw [← HV.out]; exact HB5.out) (by have := HG.out; have := HS4.out; omega) (fun hm => by have := HNF.out _ hm; have := HS4.out; omega)).mono ?_
  rintro e_ w6 ⟨y, rfl, hc, hln, hli, hb6, hr6, hf6⟩
  have HCY := Lib.hid hc
  have HLY := Lib.hid hln
  have HLI := Lib.hid hli
  have HB6 := Lib.hid hb6
  have HFG6 : Hid (Fr [g, w4.heap.size] w5 w6) := Lib.hid hf6
  have HBZ6 := Lib.hid (HBZ5.out.keep hf6 (by have := HG.out; have := HS4.out; simp; omega))
  have HFF6 : Hid (Fr [] w w6) := Lib.hid ((HF1.out.trans (((HF4.out.mono (T := [g, w4.heap.size]) (fun q hq _ => by simp at hq; simp [hq])).trans HF5.out (fun q hq _ => by simp at hq; simp [hq])).trans hf6 (fun q hq _ => hq)) (fun q hq hl => by have := HG.out; have := HS4.out; have := HF1.out.size; simp at hq; omega)))
  obtain ⟨R, bad⟩ : Ps := ⟨[], false⟩
  clear R bad
  obtain ⟨s6, hs6⟩ : ∃ s6, s6 = (pM (mz (pI (l, false)).1 (pI (pI (l, false)).2).1 (pI (pI (pI (l, false)).2).2).1).con (pI (pI (pI (l, false)).2).2).2).2 := ⟨_, rfl⟩
  rw [← hs6] at hr6
  rw [← hs6] at HPU
  clear hs6
  obtain ⟨R, bad⟩ := s6
  have HR6 := Lib.hid hr6
  clear hc hln hli hb6 hr6 hf6
  obtain ⟨m, hm_⟩ : ∃ m, m = (decide (1 ≤ (pI (l, false)).1 ∧ (pI (l, false)).1 ≤ 14)) := ⟨_, rfl⟩
  rw [← hm_]
  have HM := Lib.hid hm_
  clear hm_
  cases m with
  | false =>
    go_wp2_with (first
      | (refine wpList_builtg rfl 61 _ rfl _ _ HB0.out rfl ?_)
      | (refine wpList_store_blk rfl 61 _ _ rfl w.heap.size Z rfl rfl 61 Z HBZ6.out HZT.out rfl HZO.out ?_
         intro w9 hb9 hf9
         have HB9 := Lib.hid hb9
         have HF9 := Lib.hid hf9
         clear hb9 hf9))
    have HPF : Hid (pU l = ((mz 0 0 0).con, false)) := Lib.hid (by rw [HPU.out]; exact if_neg (by intro h; have := HM.out; have h2 := (decide_eq_false_iff_not.1 this.symm); exact h2 ⟨h.1, h.2.1⟩))
    refine bodyPost_ret (v := .tuple #[.agg Z, .bool false]) (results_row_tmp Try.results20 _ _ w.heap.size 61 Z _ _ (.bool false) rfl rfl HB9.out Try.underlying61 rfl HZT.out) rfl ⟨mz 0 0 0, by rw [HPF.out, HZ.out], by rw [HPF.out], mz_len 0 0 0, fun S0 _ => mz_li w9 S0 0 0 0, ?_⟩
    exact HFF6.out.trans HF9.out (fun q hq hl => by simp at hq; omega)
  | true =>
    go_wp2_with fail
    refine (ok_any w6 g F R bad HR6.out.rd).mono ?_
    rintro e_ w7 ⟨rfl, rfl⟩
    cases bad with
    | true =>
      go_wp2_with (first
        | (refine wpList_builtg rfl 61 _ rfl _ _ HB0.out rfl ?_)
        | (refine wpList_store_blk rfl 61 _ _ rfl w.heap.size Z rfl rfl 61 Z HBZ6.out HZT.out rfl HZO.out ?_
           intro w9 hb9 hf9
           have HB9 := Lib.hid hb9
           have HF9 := Lib.hid hf9
           clear hb9 hf9))
      have HPF : Hid (pU l = ((mz 0 0 0).con, false)) := Lib.hid (by rw [HPU.out]; exact if_neg (by intro h; exact absurd h.2.2.1 (by simp)))
      refine bodyPost_ret (v := .tuple #[.agg Z, .bool false]) (results_row_tmp Try.results20 _ _ w.heap.size 61 Z _ _ (.bool false) rfl rfl HB9.out Try.underlying61 rfl HZT.out) rfl ⟨mz 0 0 0, by rw [HPF.out, HZ.out], by rw [HPF.out], mz_len 0 0 0, fun S0 _ => mz_li w9 S0 0 0 0, ?_⟩
      exact HFF6.out.trans HF9.out (fun q hq hl => by simp at hq; omega)
    | false =>
      go_wp2_with fail
      refine (left_any w6 g F R false HR6.out.rd).mono ?_
      rintro e_ w7 ⟨rfl, rfl⟩
      cases R with
      | cons a R =>
        have hpos : (0 : Int) < ((a :: R).length : Int) := by simp
        go_wp2_with (first
          | (refine wpList_builtg rfl 61 _ rfl _ _ HB0.out rfl ?_)
          | (refine wpList_store_blk rfl 61 _ _ rfl w.heap.size Z rfl rfl 61 Z HBZ6.out HZT.out rfl HZO.out ?_
             intro w9 hb9 hf9
             have HB9 := Lib.hid hb9
             have HF9 := Lib.hid hf9
             clear hb9 hf9))
        have HPF : Hid (pU l = ((mz 0 0 0).con, false)) := Lib.hid (by rw [HPU.out]; exact if_neg (by intro h; exact absurd h.2.2.2 (by simp)))
        refine bodyPost_ret (v := .tuple #[.agg Z, .bool false]) (results_row_tmp Try.results20 _ _ w.heap.size 61 Z _ _ (.bool false) rfl rfl HB9.out Try.underlying61 rfl HZT.out) rfl ⟨mz 0 0 0, by rw [HPF.out, HZ.out], by rw [HPF.out], mz_len 0 0 0, fun S0 _ => mz_li w9 S0 0 0 0, ?_⟩
        exact HFF6.out.trans HF9.out (fun q hq hl => by simp at hq; omega)
      | nil =>
        obtain ⟨Y, hY⟩ : ∃ Y : List Value, Y = y.cells := ⟨_, rfl⟩
        have HYL : Hid (Y.length = 295) := Lib.hid (by rw [hY]; exact Wmg.lenz HLY.out)
        have HYT : Hid ((Try.prog.info? 61).map (·.size) = some Y.toArray.size) := Lib.hid (by rw [hY]; exact msg_size HLY.out)
        have HYO : Hid (Y.toArray.all (·.oneCell') = true) := Lib.hid (by rw [hY]; exact all_oneCell_toArray (Wmg.one _))
        have HYZ : Hid (Z.size = Y.toArray.size) := Lib.hid (by rw [hY, HZ.out, List.size_toArray, List.size_toArray, Wmg.lenz (mz_len _ _ _), Wmg.lenz HLY.out])
        have HYB : Hid (Blk w6 w4.heap.size 61 Y.toArray) := Lib.hid (by rw [hY]; exact HB6.out)
        have HYY := Lib.hid hY
        clear hY
        have hz0 : ¬ ((0 : Int) < ((([] : List UInt8).length : Nat) : Int)) := by simp
        go_wp2_with (first
          | (refine wpList_load_row rfl 61 _ rfl w4.heap.size rfl 61 Y.toArray _ _ HYB.out Try.underlying61 rfl HYT.out ?_)
          | (refine wpList_store_blk rfl 61 _ _ rfl w.heap.size Y.toArray rfl rfl 61 Z HBZ6.out HYT.out HYZ.out HYO.out ?_
             intro w9 hb9 hf9
             have HB9 := Lib.hid hb9
             have HF9 := Lib.hid hf9
             clear hb9 hf9))
        have HPF : Hid (pU l = ((pM (mz (pI (l, false)).1 (pI (pI (l, false)).2).1 (pI (pI (pI (l, false)).2).2).1).con (pI (pI (pI (l, false)).2).2).2).1, true)) := Lib.hid (by rw [HPU.out]; exact if_pos (by have h := of_decide_eq_true HM.out.symm; exact ⟨h.1, h.2, by first | rfl | trivial, by first | rfl | trivial⟩))
        refine bodyPost_ret (v := .tuple #[.agg Y.toArray, .bool true]) (results_row_tmp Try.results20 _ _ w.heap.size 61 Y.toArray _ _ (.bool true) rfl rfl HB9.out Try.underlying61 rfl HYT.out) rfl ⟨y, by rw [HPF.out, HYY.out], by rw [HPF.out]; exact HCY.out, HLY.out, fun S0 h0 => ?_, ?_⟩
        · exact (HLI.out (w.heap.size :: S0) (fun q hq => by rcases List.mem_cons.1 hq with rfl | hq; exact HBZ5.out.lt; exact Nat.lt_trans (h0 q hq) HBZ5.out.lt)).keep (HF9.out.mono (fun q hq _ => by simp at hq; simp [hq])) (fun q hq _ => by simp [hq])
        · exact HFF6.out.trans HF9.out (fun q hq hl => by simp at hq; omega)
end Go.Proofs.Ytnpjihdhpoddgaa

namespace Go.Proofs.Ytnpjihdhpoddgaa
open Go.RowKit
set_option maxRecDepth 100000
theorem pU_nil : (pU []).2 = false := by decide
theorem mz_ok (w : World) (S : List Nat) (q f t : Int) (hq : i64In q) (hf : i64In f) (ht : i64In t) : (mz q f t).Ok w S := by
  have b0 : mb0.Ok w S := ⟨zero_in, (show 0 < 18446744073709551616 by decide), Lst.nil _, Nat.zero_le _, fun h => absurd h (show ¬ 0 < 0 by decide), Lst.nil _, Nat.zero_le _, fun h => absurd h (show ¬ 0 < 0 by decide), Lst.nil _, Nat.zero_le _, fun h => absurd h (show ¬ 0 < 0 by decide)⟩
  exact ⟨hq, hf, ht, (mz_li w S 0 0 0).cm, (mz_li w S 0 0 0).st, ⟨(mz_li w S 0 0 0).cm, Lst.nil _, Nat.zero_le _, fun h => absurd h (show ¬ 0 < 0 by decide)⟩, (mz_li w S 0 0 0).ak, zero_in, zero_in, (show 0 < 18446744073709551616 by decide),
    ⟨zero_in, zero_in, (show 0 < 18446744073709551616 by decide), Lst.nil _, Nat.zero_le _, fun h => absurd h (show ¬ 0 < 0 by decide), zero_in, zero_in⟩, ⟨zero_in, zero_in, zero_in, zero_in, b0, zero_in, zero_in⟩, (mz_li w S 0 0 0).vt, zero_in, (mz_li w S 0 0 0).en, (mz_li w S 0 0 0).op, (mz_li w S 0 0 0).dn, (show 0 ≤ 260 by decide),
    ⟨zero_in, zero_in, b0, Lst.nil _, Nat.zero_le _, fun h => absurd h (show ¬ 0 < 0 by decide)⟩⟩
theorem built_mgk (q : Int) : Try.prog.built 61 [(0, .int .i64 q)] = some (mz q 0 0).cells.toArray := by kernel_rfl
theorem mz_bytes_pos (q f t : Int) : 0 < (mz q f t).bytes.length := by
  have h : 0 < (encI (mz q f t).q).length := by unfold encI; (first | exact enc_pos _ | (split <;> first | exact enc_pos _ | simp))
  simp only [Wmg.bytes, List.length_append]
  omega
set_option maxHeartbeats 4000000 in
theorem mwakes_any (w : World) : Calls Try.prog 9 #[] w fun e w' => e = .returned (.bool true) ∧ Fr [] w w' := by
  go_enter Try.func9, Try.ntmps9
  go_wp2_with fail
  refine (munpack_any none 0 0 [] w (By.nil w none) (by omega)).mono ?_
  rintro e_ w1 ⟨y, rfl, _, hln, _, hf1⟩
  rw [pU_nil]
  have HF1 := Lib.hid hf1
  have HLY := Lib.hid hln
  obtain ⟨Y, hY⟩ : ∃ Y : List Value, Y = y.cells := ⟨_, rfl⟩
  have HYT : Hid ((Try.prog.info? 61).map (·.size) = some Y.toArray.size) := Lib.hid (by rw [hY]; exact msg_size hln)
  have HYO : Hid (Y.toArray.all (·.oneCell') = true) := Lib.hid (by rw [hY]; exact all_oneCell_toArray (Wmg.one _))
  obtain ⟨Z, hZ⟩ : ∃ Z, Z = (mz 0 0 0).cells.toArray := ⟨_, rfl⟩
  have HYZ : Hid (Z.size = Y.toArray.size) := Lib.hid (by rw [hY, hZ, List.size_toArray, List.size_toArray, Wmg.lenz (mz_len _ _ _), Wmg.lenz hln])
  have HBN : Hid (Blk (w1.alloc (Obj.cells (mz 0 0 0).cells.toArray 61)) w1.heap.size 61 Z) := Lib.hid (by rw [hZ]; exact Blk.new _ _ _)
  rw [← hY]
  obtain ⟨C, hC⟩ : ∃ C : List Value, (mz 11 0 0).cells = C := ⟨_, rfl⟩
  have HBU : Hid (Try.prog.built 61 [(0, .int .i64 11)] = some C.toArray) := Lib.hid (by rw [← hC]; exact built_mgk 11)
  have HC := Lib.hid hC
  clear hf1 hln hY hZ hC
  go_wp2_with (first
    | (refine wpList_builtg rfl 61 _ rfl _ _ HBU.out rfl ?_)
    | (refine wpList_store_blk rfl 61 _ _ rfl w1.heap.size Y.toArray rfl rfl 61 Z HBN.out HYT.out HYZ.out HYO.out ?_
       intro w2 hb2 hf2
       have HF2 := Lib.hid ((((Fr.refl [w1.heap.size] w1).alloc _)).trans hf2 (fun x hx _ => hx))
       clear hb2 hf2))
  refine (mpack_any (mz 11 0 0) w2 (mz_ok w2 [] 11 0 0 (by unfold i64In; omega) zero_in zero_in) C HC.out).mono ?_
  intro e_ w3 hp
  unfold PackPost at hp
  rw [if_pos (show 1 ≤ (mz 11 0 0).q ∧ (mz 11 0 0).q ≤ 14 from (by decide : 1 ≤ (11 : Int) ∧ (11 : Int) ≤ 14))] at hp
  obtain ⟨A3, c3, rfl, hn3⟩ := hp
  have HF3 : Hid (Fr [] w w3) := Lib.hid ((HF1.out.trans (HF2.out) (fun q hq hl => by have := HF1.out.size; simp at hq; omega)).and hn3.2.1 (by simp))
  have hpos : (0 : Int) < (((mz 11 0 0).bytes.length : Nat) : Int) := by have := mz_bytes_pos 11 0 0; omega
  have hpos2 := mz_bytes_pos 11 0 0
  clear hn3
  generalize (mz 11 0 0).bytes.length = n at *
  go_wp2_with fail
  go_ret
  exact ⟨rfl, HF3.out⟩
end Go.Proofs.Ytnpjihdhpoddgaa

namespace Go.Proofs.Ytnpjihdhpoddgaa
open Go.RowKit
theorem u8_ne {a b : Nat} (ha : a < 256) (hb : b < 256) (h : UInt8.ofNat a = UInt8.ofNat b) : a = b := by
  have := congrArg UInt8.toNat h
  simp only [UInt8.toNat_ofNat'] at this
  omega
theorem enc_prefix : ∀ (a b : Nat) (s t : List UInt8), enc a ++ s = enc b ++ t → a = b ∧ s = t := by
  intro a
  induction a using Nat.strongRecOn with
  | _ a ih =>
    intro b s t h
    by_cases ha : a < 128 <;> by_cases hb : b < 128
    · rw [enc_small ha, enc_small hb] at h
      simp only [List.cons_append, List.nil_append, List.cons.injEq] at h
      exact ⟨u8_ne (by omega) (by omega) h.1, h.2⟩
    · rw [enc_small ha, enc_great hb] at h
      simp only [List.cons_append, List.nil_append, List.cons.injEq] at h
      have := u8_ne (by omega) (by omega) h.1
      omega
    · rw [enc_great ha, enc_small hb] at h
      simp only [List.cons_append, List.nil_append, List.cons.injEq] at h
      have := u8_ne (by omega) (by omega) h.1
      omega
    · rw [enc_great ha, enc_great hb] at h
      simp only [List.cons_append, List.cons.injEq] at h
      have h1 := u8_ne (by omega) (by omega) h.1
      obtain ⟨h2, h3⟩ := ih (a / 128) (by omega) (b / 128) s t h.2
      exact ⟨by omega, h3⟩
end Go.Proofs.Ytnpjihdhpoddgaa

namespace Go.Proofs.Ytnpjihdhpoddgaa
open Go.RowKit
set_option maxRecDepth 100000
def tn0 (f t e r : Int) (tm : Nat) : Wmg := {mz 5 f t with e := e, r := r, tm := tm}
def tn1 (f t i : Int) : Wmg := {mz 11 f t with i := i}
def tn2 (f t i s : Int) (tm : Nat) : Wmg := {mz 9 f t with i := i, en := ⟨0, s, mh0, tm⟩}
def tn3 (f t r p : Int) : Wmg := {mz 8 f t with vt := ⟨1, 0, r, p, mh0, 0, 0⟩}
theorem encI_pre {a b : Int} (ha : 0 ≤ a) (hb : 0 ≤ b) {s t : List UInt8} (h : encI a ++ s = encI b ++ t) : a = b ∧ s = t := by
  obtain ⟨h1, h2⟩ := enc_prefix a.toNat b.toNat s t h
  exact ⟨by omega, h2⟩
theorem enc_inj {a b : Nat} (h : enc a = enc b) : a = b := (enc_prefix a b [] [] (by simpa using h)).1
theorem mbytes_eq (x : Wmg) : x.bytes = encI x.q ++ (encI x.f ++ (encI x.t ++ x.body)) := by simp only [Wmg.bytes, List.append_assoc]
theorem tn0_inj {f t e r : Int} {tm : Nat} {f' t' e' r' : Int} {tm' : Nat} (hf : 0 ≤ f) (hf' : 0 ≤ f') (ht : 0 ≤ t) (ht' : 0 ≤ t') (he : 0 ≤ e) (he' : 0 ≤ e') (hr : 0 ≤ r) (hr' : 0 ≤ r') (h : (tn0 f t e r tm).bytes = (tn0 f' t' e' r' tm').bytes) : f = f' ∧ t = t' ∧ e = e' ∧ r = r' ∧ tm = tm' := by
  rw [mbytes_eq, mbytes_eq, Wmg.body_5 rfl, Wmg.body_5 rfl, List.append_assoc, List.append_assoc] at h
  obtain ⟨_, h⟩ := encI_pre (a := 5) (b := 5) (by decide) (by decide) h
  obtain ⟨h1, h⟩ := encI_pre (a := f) (b := f') hf hf' h
  obtain ⟨h2, h⟩ := encI_pre (a := t) (b := t') ht ht' h
  obtain ⟨h3, h⟩ := encI_pre (a := e) (b := e') he he' h
  obtain ⟨h4, h⟩ := encI_pre (a := r) (b := r') hr hr' h
  exact ⟨h1, h2, h3, h4, enc_inj h⟩
theorem tn1_inj {f t i : Int} {f' t' i' : Int} (hf : 0 ≤ f) (hf' : 0 ≤ f') (ht : 0 ≤ t) (ht' : 0 ≤ t') (hi : 0 ≤ i) (hi' : 0 ≤ i') (h : (tn1 f t i).bytes = (tn1 f' t' i').bytes) : f = f' ∧ t = t' ∧ i = i' := by
  rw [mbytes_eq, mbytes_eq, Wmg.body_11 rfl, Wmg.body_11 rfl] at h
  obtain ⟨_, h⟩ := encI_pre (a := 11) (b := 11) (by decide) (by decide) h
  obtain ⟨h1, h⟩ := encI_pre (a := f) (b := f') hf hf' h
  obtain ⟨h2, h⟩ := encI_pre (a := t) (b := t') ht ht' h
  obtain ⟨h3, h⟩ := encI_pre (a := i) (b := i') (s := []) (t := []) hi hi' (by rw [List.append_nil, List.append_nil]; exact h)
  exact ⟨h1, h2, h3⟩
theorem tn2_inj {f t i s : Int} {tm : Nat} {f' t' i' s' : Int} {tm' : Nat} (hf : 0 ≤ f) (hf' : 0 ≤ f') (ht : 0 ≤ t) (ht' : 0 ≤ t') (hi : 0 ≤ i) (hi' : 0 ≤ i') (hs : 0 ≤ s) (hs' : 0 ≤ s') (h : (tn2 f t i s tm).bytes = (tn2 f' t' i' s' tm').bytes) : f = f' ∧ t = t' ∧ i = i' ∧ s = s' ∧ tm = tm' := by
  rw [mbytes_eq, mbytes_eq, Wmg.body_9 rfl, Wmg.body_9 rfl] at h
  obtain ⟨_, h⟩ := encI_pre (a := 9) (b := 9) (by decide) (by decide) h
  obtain ⟨h1, h⟩ := encI_pre (a := f) (b := f') hf hf' h
  obtain ⟨h2, h⟩ := encI_pre (a := t) (b := t') ht ht' h
  obtain ⟨h3, h⟩ := encI_pre (a := i) (b := i') hi hi' h
  have h : encI 0 ++ encI s ++ mh0 ++ enc tm = encI 0 ++ encI s' ++ mh0 ++ enc tm' := h
  simp only [List.append_assoc] at h
  obtain ⟨_, h⟩ := encI_pre (a := 0) (b := 0) (by decide) (by decide) h
  obtain ⟨h4, h⟩ := encI_pre (a := s) (b := s') hs hs' h
  exact ⟨h1, h2, h3, h4, enc_inj (List.append_cancel_left h)⟩
theorem tn3_inj {f t r p : Int} {f' t' r' p' : Int} (hf : 0 ≤ f) (hf' : 0 ≤ f') (ht : 0 ≤ t) (ht' : 0 ≤ t') (hr : 0 ≤ r) (hr' : 0 ≤ r') (hp : 0 ≤ p) (hp' : 0 ≤ p') (h : (tn3 f t r p).bytes = (tn3 f' t' r' p').bytes) : f = f' ∧ t = t' ∧ r = r' ∧ p = p' := by
  rw [mbytes_eq, mbytes_eq, Wmg.body_8 rfl, Wmg.body_8 rfl] at h
  obtain ⟨_, h⟩ := encI_pre (a := 8) (b := 8) (by decide) (by decide) h
  obtain ⟨h1, h⟩ := encI_pre (a := f) (b := f') hf hf' h
  obtain ⟨h2, h⟩ := encI_pre (a := t) (b := t') ht ht' h
  have h : encI 1 ++ encI 0 ++ encI r ++ encI p ++ mh0 ++ sgL 0 0 = encI 1 ++ encI 0 ++ encI r' ++ encI p' ++ mh0 ++ sgL 0 0 := h
  simp only [List.append_assoc] at h
  obtain ⟨_, h⟩ := encI_pre (a := 1) (b := 1) (by decide) (by decide) h
  obtain ⟨_, h⟩ := encI_pre (a := 0) (b := 0) (by decide) (by decide) h
  obtain ⟨h3, h⟩ := encI_pre (a := r) (b := r') hr hr' h
  obtain ⟨h4, h⟩ := encI_pre (a := p) (b := p') hp hp' h
  exact ⟨h1, h2, h3, h4⟩
/-- what tiny makes -/
def tn (k : Int) (a : Wmg) : Wmg :=
  if k = 0 then tn0 (a.f % 3) (a.t % 3) (a.e % 3) (a.r % 3) (a.tm % 3)
  else if k = 1 then tn1 (a.f % 3) (a.t % 3) (a.i % 3)
  else if k = 2 then tn2 (a.f % 3) (a.t % 3) (a.i % 3) (a.en.s % 3) (a.en.t % 3)
  else tn3 (a.f % 3) (a.t % 3) (a.vt.r % 3) (a.vt.p % 3)
theorem tn_inj (k : Int) (a b : Wmg) (h : (tn k a).bytes = (tn k b).bytes) : tn k a = tn k b := by
  unfold tn at h ⊢
  by_cases h0 : k = 0
  · simp only [if_pos h0] at h ⊢
    obtain ⟨h1, h2, h3, h4, h5⟩ := tn0_inj (by omega) (by omega) (by omega) (by omega) (by omega) (by omega) (by omega) (by omega) h
    rw [h1, h2, h3, h4, h5]
  · simp only [if_neg h0] at h ⊢
    by_cases h0 : k = 1
    · simp only [if_pos h0] at h ⊢
      obtain ⟨h1, h2, h3⟩ := tn1_inj (by omega) (by omega) (by omega) (by omega) (by omega) (by omega) h
      rw [h1, h2, h3]
    · simp only [if_neg h0] at h ⊢
      by_cases h0 : k = 2
      · simp only [if_pos h0] at h ⊢
        obtain ⟨h1, h2, h3, h4, h5⟩ := tn2_inj (by omega) (by omega) (by omega) (by omega) (by omega) (by omega) (by omega) (by omega) h
        rw [h1, h2, h3, h4, h5]
      · simp only [if_neg h0] at h ⊢
        obtain ⟨h1, h2, h3, h4⟩ := tn3_inj (by omega) (by omega) (by omega) (by omega) (by omega) (by omega) (by omega) (by omega) h
        rw [h1, h2, h3, h4]
theorem tn_q (k : Int) (a : Wmg) : (tn k a).q = if k = 0 then 5 else if k = 1 then 11 else if k = 2 then 9 else 8 := by
  unfold tn
  by_cases h0 : k = 0
  · simp only [if_pos h0]; rfl
  · simp only [if_neg h0]
    by_cases h0 : k = 1
    · simp only [if_pos h0]; rfl
    · simp only [if_neg h0]
      by_cases h0 : k = 2
      · simp only [if_pos h0]; rfl
      · simp only [if_neg h0]; rfl
theorem tn_unlike (k k' : Int) (hk : 0 ≤ k ∧ k < 4) (hk' : 0 ≤ k' ∧ k' < 4) (hn : k ≠ k') (a b : Wmg) : (tn k a).bytes ≠ (tn k' b).bytes := by
  intro h
  rw [mbytes_eq, mbytes_eq] at h
  have e : (tn k a).q = (tn k' b).q := (encI_pre (by rw [tn_q]; split <;> (try decide); split <;> (try decide); split <;> decide) (by rw [tn_q]; split <;> (try decide); split <;> (try decide); split <;> decide) h).1
  rw [tn_q, tn_q] at e
  split at e <;> split at e <;> (try omega) <;> (try split at e) <;> (try omega) <;> (try split at e) <;> (try omega) <;> (try split at e) <;> omega
theorem tn_ok (k : Int) (a : Wmg) (w : World) (S : List Nat) : (tn k a).Ok w S := by
  have h := mz_ok w S 0 0 0 zero_in zero_in zero_in
  have b3 : ∀ z : Int, i64In (z % 3) := fun z => by unfold i64In; omega
  have n3 : ∀ z : Nat, z % 3 < 18446744073709551616 := fun z => by omega
  have o1 : i64In 1 := by unfold i64In; omega
  unfold tn
  split
  · exact ⟨(show i64In 5 by unfold i64In; omega), b3 _, b3 _, h.cm, h.st, h.ce, h.ak, b3 _, b3 _, n3 _, h.pr, h.po, h.vt, h.i, h.en, h.op, h.dn, h.rp, h.de⟩
  · split
    · exact ⟨(show i64In 11 by unfold i64In; omega), b3 _, b3 _, h.cm, h.st, h.ce, h.ak, h.e, h.r, h.tm, h.pr, h.po, h.vt, b3 _, h.en, h.op, h.dn, h.rp, h.de⟩
    · split
      · exact ⟨(show i64In 9 by unfold i64In; omega), b3 _, b3 _, h.cm, h.st, h.ce, h.ak, h.e, h.r, h.tm, h.pr, h.po, h.vt, b3 _, ⟨zero_in, b3 _, rfl, n3 _⟩, h.op, h.dn, h.rp, h.de⟩
      · exact ⟨(show i64In 8 by unfold i64In; omega), b3 _, b3 _, h.cm, h.st, h.ce, h.ak, h.e, h.r, h.tm, h.pr, h.po, ⟨o1, zero_in, b3 _, b3 _, rfl, zero_in, zero_in⟩, h.i, h.en, h.op, h.dn, h.rp, h.de⟩
end Go.Proofs.Ytnpjihdhpoddgaa
