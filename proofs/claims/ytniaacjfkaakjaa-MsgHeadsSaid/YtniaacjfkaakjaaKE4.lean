/- Texts that the proof stands on: msgs.get, kind by kind. (written by gen_mh.py) | msgs.get of the kinds that store more than a part. (written by gen_mi.py) | Package wire: GetCert, GetPromise, GetBatch: all of it, or the zero value. (written by gen_rp4.py) | A message as it is read; msgs.get of any kind. (written by gen_mj.py) | msgs.Unpack of bytes that are not too many. (written by gen_mk.py) | gavellaw06.wakes. | gavellaw05's nicePromise. (written by gen_nic3.py) | gavellaw05's niceBatch. (written by gen_nic4.py) | Package part: what its readers take off what its writers wrote. (written by gen_rpe.py) | What Unpack tells of a packed message that says nothing. (written by gen_ml.py) -/
import Derived.Test.YtniaacjfkaakjaaKE3
import Derived.Laws.ResultCell
set_option maxRecDepth 100000

namespace Go.Proofs.Ytniaacjfkaakjaa
open Go.RowKit
set_option maxRecDepth 100000
/-- its hashes are hashes -/
structure Wmg.Len (x : Wmg) : Prop where
  cm : x.cm.h.length = 32
  st : x.st.h.length = 32
  ce : x.ce.k.h.length = 32
  ak : x.ak.h.length = 32
  vt : x.vt.h.length = 32
  en : x.en.h.length = 32
  op : x.op.h.length = 32
def mh0 : List UInt8 := List.replicate 32 0
def mb0 : Wba := ⟨0, 0, none, 0, 0, [], none, 0, 0, [], none, 0, 0, []⟩
/-- a message of nothing but its kind, whom it is from and to -/
def mz (q f t : Int) : Wmg := ⟨q, f, t, ⟨0, 0, mh0, 0, 0, 0⟩, ⟨0, 0, 0, mh0, 0, 0, 0⟩, ⟨⟨0, 0, mh0, 0, 0, 0⟩, none, 0, 0, []⟩, ⟨0, 0, 0, mh0, 0, 0, 0⟩, 0, 0, 0, ⟨0, 0, 0, none, 0, 0, [], 0, 0⟩, ⟨0, 0, 0, 0, mb0, 0, 0⟩, ⟨0, 0, 0, 0, mh0, 0, 0⟩, 0, ⟨0, 0, mh0, 0⟩, ⟨0, none, 0, 0, [], mh0⟩, ⟨0, 0, 0, 0⟩, [], ⟨0, 0, mb0, none, 0, 0, []⟩⟩
theorem mz_len (q f t : Int) : (mz q f t).Len := ⟨rfl, rfl, rfl, rfl, rfl, rfl, rfl⟩
theorem Wpo.Li.keep {w W : World} {S S' : List Nat} {x : Wpo} (h : x.Li w S) (hf : Fr S w W) (hs : ∀ k ∈ S', k < w.heap.size → k ∈ S) : x.Li W S' :=
  ⟨h.e, h.r, h.v, h.p, h.k.keep hf hs, h.b, h.m⟩
theorem Wdc.Li.keep {w W : World} {S S' : List Nat} {x : Wdc} (h : x.Li w S) (hf : Fr S w W) (hs : ∀ k ∈ S', k < w.heap.size → k ∈ S) : x.Li W S' :=
  ⟨h.e, h.r, h.k.keep hf hs, h.l.keep' hf h.ap (fun _ _ h => h), h.n, fun hn a ha hin => h.ap hn a ha (hs _ hin (h.l.lt hn (by decide) (fun v hv => Wvt.len (h.l.2.1 v hv).2.h) a ha))⟩
theorem Blk.thereM {w : World} {g : Nat} {t : TypeId} {cs : Array Value} (h : Blk w g t cs) (o n : Nat) (hn : o + n ≤ cs.size) : w.there g o n := fun j hj => by
  have hc := h.cell (o + j)
  rw [Array.getElem?_eq_getElem (by omega)] at hc
  exact ⟨by rw [hc]; rfl, h.frozen (o + j)⟩
theorem Wmg.lenz {x : Wmg} (hx : x.Len) : x.cells.length = 295 := by
  simp only [Wmg.cells, List.length_append, List.length_cons, List.length_nil, Wcm.len hx.cm, Wst.len hx.st, Wce.len hx.ce, Wst.len hx.ak, Wpr.len, Wpo.len, Wvt.len hx.vt, Wen.len hx.en, Wop.len hx.op, Wdn.len, Wdc.len]
theorem Wmg.blk_cm {w : World} {g : Nat} {t : TypeId} {x : Wmg} (hx : x.Len) (v : Wcm) (hv : v.cells.length = 37) (hb : Blk w g t x.cells.toArray) : Blk (w.setCells g 3 v.cells) g t ({x with cm := v} : Wmg).cells.toArray :=
  Blk.mid_at v.cells x.cm.cells ([.int .i64 x.q] ++ ([.int .i64 x.f] ++ ([.int .i64 x.t]))) (x.st.cells ++ (x.ce.cells ++ (x.ak.cells ++ ([.int .i64 x.e] ++ ([.int .i64 x.r] ++ ([.int .u64 (x.tm : Int)] ++ (x.pr.cells ++ (x.po.cells ++ (x.vt.cells ++ ([.int .i64 x.i] ++ (x.en.cells ++ (x.op.cells ++ (x.dn.cells ++ ([.string ⟨x.rp.toArray⟩] ++ (x.de.cells))))))))))))))) 3 (by simp only [List.length_append, List.length_cons, List.length_nil]) (by rw [hv, Wcm.len hx.cm]) _ _ (by simp only [Wmg.cells, List.append_assoc, List.append_nil]) (by simp only [Wmg.cells, List.append_assoc, List.append_nil]) hb
set_option maxHeartbeats 2000000 in
theorem mget_cm (x : Wmg) (hz : x.Len) (hq : x.q = 1) (w : World) (F : List Nat) (g gm : Nat) (s : Ps) (hr : Rs w F g s) (hb : Blk w gm 61 x.cells.toArray) (hgm : gm ≠ g) (hF : ¬ gm ∈ F) :
    Calls Try.prog 24 #[.pointer (some ⟨g, 0, none⟩), .pointer (some ⟨gm, 0, none⟩)] w fun e w' => ∃ v : Wcm, e = .returned (.bool true) ∧ v = (pCm s).1 ∧ (∀ S0 : List Nat, (∀ q ∈ S0, q < w.heap.size) → v.Ok) ∧ Blk w' gm 61 ({x with cm := v} : Wmg).cells.toArray ∧ Rs w' F g (pCm s).2 ∧ Fr [g, gm] w w' := by
  have hq0 : w.cell? ⟨gm, 0, none⟩ = some (.int .i64 1) := by have h := hb.range (cs := x.cells) 0 (.int .i64 x.q) rfl; rw [hq] at h; exact h
  have HR := Lib.hid hr
  have HB := Lib.hid hb
  have HGM := Lib.hid hgm
  have HNF := Lib.hid hF
  have HZ := Lib.hid hz
  have HBS : Hid (x.cells.toArray.size = 295) := Lib.hid (by rw [List.size_toArray]; exact Wmg.lenz hz)
  clear hr hb hgm hF hq hz
  go_enter Try.func24, Try.ntmps24
  go_wp2_with fail
  refine ((gets_of (fun _ _ _ _ hr => getCommit_any hr) pCm_ok) w F g s HR.out).mono ?_
  rintro e w1 ⟨v, rfl, hcv, hok, h1, h2⟩
  have HB1 := Lib.hid (HB.out.keep h2 (by have := HGM.out; simpa using this))
  have HCV := Lib.hid hcv
  have HOK := Lib.hid hok
  have HR1 := Lib.hid h1
  have HF1 := Lib.hid h2
  have HVL : Hid (v.cells.length = 37) := Lib.hid (by have hok_ := hok [] (by simp); exact Wcm.len (hok_.h))
  have HONE : Hid (v.cells.toArray.all (·.oneCell') = true) := Lib.hid (all_oneCell_toArray (Wcm.one v))
  have HB2 := Lib.hid (Wmg.blk_cm HZ.out v HVL.out HB1.out)
  have HTH : Hid (w1.there gm 3 v.cells.toArray.size) := Lib.hid (HB1.out.thereM _ _ (by rw [List.size_toArray, HVL.out, HBS.out]; omega))
  have HSZ : Hid ((Try.prog.info? 29).map (·.size) = some v.cells.toArray.size) := Lib.hid (by rw [List.size_toArray, HVL.out]; kernel_rfl)
  have HF2 : Hid (Fr [gm] w1 (w1.setCells gm 3 v.cells)) := Lib.hid (Fr.setCells (fun _ => by simp) v.cells 3 w1 (Fr.refl _ _))
  clear hcv hok h1 h2
  obtain ⟨V, hV⟩ : ∃ V : List Value, V = v.cells := ⟨_, rfl⟩
  rw [← hV] at HVL HONE HTH HSZ HF2 HB2 ⊢
  have HVV := Lib.hid hV
  clear hV
  go_wp2_with (refine wpList_store_mid rfl 29 _ _ rfl gm 3 V.toArray rfl rfl HTH.out HSZ.out HONE.out ?_)
  change bodyPost _ _ _ _ _ (w1.setCells gm 3 V)
  generalize w1.setCells gm 3 V = w2 at *
  go_ret
  exact ⟨v, rfl, HCV.out, fun S0 h0 => HOK.out S0 h0, HB2.out, HR1.out.fr HF2.out (by have := HGM.out; simp; exact fun h => this h.symm) (fun q hq hm => HNF.out (by simp at hm; exact hm ▸ hq)), (HF1.out.mono (fun q hq _ => by simp at hq; simp [hq])).trans HF2.out (fun q hq _ => by simp at hq; simp [hq])⟩
theorem Wmg.blk_st {w : World} {g : Nat} {t : TypeId} {x : Wmg} (hx : x.Len) (v : Wst) (hv : v.cells.length = 38) (hb : Blk w g t x.cells.toArray) : Blk (w.setCells g 40 v.cells) g t ({x with st := v} : Wmg).cells.toArray :=
  Blk.mid_at v.cells x.st.cells ([.int .i64 x.q] ++ ([.int .i64 x.f] ++ ([.int .i64 x.t] ++ (x.cm.cells)))) (x.ce.cells ++ (x.ak.cells ++ ([.int .i64 x.e] ++ ([.int .i64 x.r] ++ ([.int .u64 (x.tm : Int)] ++ (x.pr.cells ++ (x.po.cells ++ (x.vt.cells ++ ([.int .i64 x.i] ++ (x.en.cells ++ (x.op.cells ++ (x.dn.cells ++ ([.string ⟨x.rp.toArray⟩] ++ (x.de.cells)))))))))))))) 40 (by simp only [List.length_append, List.length_cons, List.length_nil, Wcm.len hx.cm]) (by rw [hv, Wst.len hx.st]) _ _ (by simp only [Wmg.cells, List.append_assoc, List.append_nil]) (by simp only [Wmg.cells, List.append_assoc, List.append_nil]) hb
set_option maxHeartbeats 2000000 in
theorem mget_st (x : Wmg) (hz : x.Len) (hq : x.q = 2) (w : World) (F : List Nat) (g gm : Nat) (s : Ps) (hr : Rs w F g s) (hb : Blk w gm 61 x.cells.toArray) (hgm : gm ≠ g) (hF : ¬ gm ∈ F) :
    Calls Try.prog 24 #[.pointer (some ⟨g, 0, none⟩), .pointer (some ⟨gm, 0, none⟩)] w fun e w' => ∃ v : Wst, e = .returned (.bool true) ∧ v = (pSt s).1 ∧ (∀ S0 : List Nat, (∀ q ∈ S0, q < w.heap.size) → v.Ok) ∧ Blk w' gm 61 ({x with st := v} : Wmg).cells.toArray ∧ Rs w' F g (pSt s).2 ∧ Fr [g, gm] w w' := by
  have hq0 : w.cell? ⟨gm, 0, none⟩ = some (.int .i64 2) := by have h := hb.range (cs := x.cells) 0 (.int .i64 x.q) rfl; rw [hq] at h; exact h
  have HR := Lib.hid hr
  have HB := Lib.hid hb
  have HGM := Lib.hid hgm
  have HNF := Lib.hid hF
  have HZ := Lib.hid hz
  have HBS : Hid (x.cells.toArray.size = 295) := Lib.hid (by rw [List.size_toArray]; exact Wmg.lenz hz)
  clear hr hb hgm hF hq hz
  go_enter Try.func24, Try.ntmps24
  go_wp2_with fail
  refine ((gets_of (fun _ _ _ _ hr => getStamp_any hr) pSt_ok) w F g s HR.out).mono ?_
  rintro e w1 ⟨v, rfl, hcv, hok, h1, h2⟩
  have HB1 := Lib.hid (HB.out.keep h2 (by have := HGM.out; simpa using this))
  have HCV := Lib.hid hcv
  have HOK := Lib.hid hok
  have HR1 := Lib.hid h1
  have HF1 := Lib.hid h2
  have HVL : Hid (v.cells.length = 38) := Lib.hid (by have hok_ := hok [] (by simp); exact Wst.len (hok_.h))
  have HONE : Hid (v.cells.toArray.all (·.oneCell') = true) := Lib.hid (all_oneCell_toArray (Wst.one v))
  have HB2 := Lib.hid (Wmg.blk_st HZ.out v HVL.out HB1.out)
  have HTH : Hid (w1.there gm 40 v.cells.toArray.size) := Lib.hid (HB1.out.thereM _ _ (by rw [List.size_toArray, HVL.out, HBS.out]; omega))
  have HSZ : Hid ((Try.prog.info? 32).map (·.size) = some v.cells.toArray.size) := Lib.hid (by rw [List.size_toArray, HVL.out]; kernel_rfl)
  have HF2 : Hid (Fr [gm] w1 (w1.setCells gm 40 v.cells)) := Lib.hid (Fr.setCells (fun _ => by simp) v.cells 40 w1 (Fr.refl _ _))
  clear hcv hok h1 h2
  obtain ⟨V, hV⟩ : ∃ V : List Value, V = v.cells := ⟨_, rfl⟩
  rw [← hV] at HVL HONE HTH HSZ HF2 HB2 ⊢
  have HVV := Lib.hid hV
  clear hV
  go_wp2_with (refine wpList_store_mid rfl 32 _ _ rfl gm 40 V.toArray rfl rfl HTH.out HSZ.out HONE.out ?_)
  change bodyPost _ _ _ _ _ (w1.setCells gm 40 V)
  generalize w1.setCells gm 40 V = w2 at *
  go_ret
  exact ⟨v, rfl, HCV.out, fun S0 h0 => HOK.out S0 h0, HB2.out, HR1.out.fr HF2.out (by have := HGM.out; simp; exact fun h => this h.symm) (fun q hq hm => HNF.out (by simp at hm; exact hm ▸ hq)), (HF1.out.mono (fun q hq _ => by simp at hq; simp [hq])).trans HF2.out (fun q hq _ => by simp at hq; simp [hq])⟩
theorem Wmg.blk_ce {w : World} {g : Nat} {t : TypeId} {x : Wmg} (hx : x.Len) (v : Wce) (hv : v.cells.length = 38) (hb : Blk w g t x.cells.toArray) : Blk (w.setCells g 78 v.cells) g t ({x with ce := v} : Wmg).cells.toArray :=
  Blk.mid_at v.cells x.ce.cells ([.int .i64 x.q] ++ ([.int .i64 x.f] ++ ([.int .i64 x.t] ++ (x.cm.cells ++ (x.st.cells))))) (x.ak.cells ++ ([.int .i64 x.e] ++ ([.int .i64 x.r] ++ ([.int .u64 (x.tm : Int)] ++ (x.pr.cells ++ (x.po.cells ++ (x.vt.cells ++ ([.int .i64 x.i] ++ (x.en.cells ++ (x.op.cells ++ (x.dn.cells ++ ([.string ⟨x.rp.toArray⟩] ++ (x.de.cells))))))))))))) 78 (by simp only [List.length_append, List.length_cons, List.length_nil, Wcm.len hx.cm, Wst.len hx.st]) (by rw [hv, Wce.len hx.ce]) _ _ (by simp only [Wmg.cells, List.append_assoc, List.append_nil]) (by simp only [Wmg.cells, List.append_assoc, List.append_nil]) hb
set_option maxHeartbeats 2000000 in
theorem mget_ce (x : Wmg) (hz : x.Len) (hq : x.q = 3) (w : World) (F : List Nat) (g gm : Nat) (s : Ps) (hr : Rs w F g s) (hb : Blk w gm 61 x.cells.toArray) (hgm : gm ≠ g) (hF : ¬ gm ∈ F) :
    Calls Try.prog 24 #[.pointer (some ⟨g, 0, none⟩), .pointer (some ⟨gm, 0, none⟩)] w fun e w' => ∃ v : Wce, e = .returned (.bool true) ∧ v.con = (pCe s).1 ∧ (∀ S0 : List Nat, (∀ q ∈ S0, q < w.heap.size) → v.Li w' S0) ∧ Blk w' gm 61 ({x with ce := v} : Wmg).cells.toArray ∧ Rs w' F g (pCe s).2 ∧ Fr [g, gm] w w' := by
  have hq0 : w.cell? ⟨gm, 0, none⟩ = some (.int .i64 3) := by have h := hb.range (cs := x.cells) 0 (.int .i64 x.q) rfl; rw [hq] at h; exact h
  have HR := Lib.hid hr
  have HB := Lib.hid hb
  have HGM := Lib.hid hgm
  have HNF := Lib.hid hF
  have HZ := Lib.hid hz
  have HBS : Hid (x.cells.toArray.size = 295) := Lib.hid (by rw [List.size_toArray]; exact Wmg.lenz hz)
  clear hr hb hgm hF hq hz
  go_enter Try.func24, Try.ntmps24
  go_wp2_with fail
  refine (getCert_any w F g s HR.out).mono ?_
  rintro e w1 ⟨v, rfl, hcv, hok, h1, h2⟩
  have HB1 := Lib.hid (HB.out.keep h2 (by have := HGM.out; simpa using this))
  have HCV := Lib.hid hcv
  have HOK := Lib.hid hok
  have HR1 := Lib.hid h1
  have HF1 := Lib.hid h2
  have HVL : Hid (v.cells.length = 38) := Lib.hid (by have hok_ := hok [] (by simp); exact Wce.len (hok_.k.h))
  have HONE : Hid (v.cells.toArray.all (·.oneCell') = true) := Lib.hid (all_oneCell_toArray (Wce.one v))
  have HB2 := Lib.hid (Wmg.blk_ce HZ.out v HVL.out HB1.out)
  have HTH : Hid (w1.there gm 78 v.cells.toArray.size) := Lib.hid (HB1.out.thereM _ _ (by rw [List.size_toArray, HVL.out, HBS.out]; omega))
  have HSZ : Hid ((Try.prog.info? 35).map (·.size) = some v.cells.toArray.size) := Lib.hid (by rw [List.size_toArray, HVL.out]; kernel_rfl)
  have HF2 : Hid (Fr [gm] w1 (w1.setCells gm 78 v.cells)) := Lib.hid (Fr.setCells (fun _ => by simp) v.cells 78 w1 (Fr.refl _ _))
  clear hcv hok h1 h2
  obtain ⟨V, hV⟩ : ∃ V : List Value, V = v.cells := ⟨_, rfl⟩
  rw [← hV] at HVL HONE HTH HSZ HF2 HB2 ⊢
  have HVV := Lib.hid hV
  clear hV
  go_wp2_with (refine wpList_store_mid rfl 35 _ _ rfl gm 78 V.toArray rfl rfl HTH.out HSZ.out HONE.out ?_)
  change bodyPost _ _ _ _ _ (w1.setCells gm 78 V)
  generalize w1.setCells gm 78 V = w2 at *
  go_ret
  exact ⟨v, rfl, HCV.out, fun S0 h0 => (HOK.out (gm :: S0) (fun q hq => by rcases List.mem_cons.1 hq with rfl | hq; exact HB.out.lt; exact h0 q hq)).keep (HF2.out.mono (fun q hq _ => by simp at hq; simp [hq])) (fun q hq _ => by simp [hq]), HB2.out, HR1.out.fr HF2.out (by have := HGM.out; simp; exact fun h => this h.symm) (fun q hq hm => HNF.out (by simp at hm; exact hm ▸ hq)), (HF1.out.mono (fun q hq _ => by simp at hq; simp [hq])).trans HF2.out (fun q hq _ => by simp at hq; simp [hq])⟩
theorem Wmg.blk_ak {w : World} {g : Nat} {t : TypeId} {x : Wmg} (hx : x.Len) (v : Wst) (hv : v.cells.length = 38) (hb : Blk w g t x.cells.toArray) : Blk (w.setCells g 116 v.cells) g t ({x with ak := v} : Wmg).cells.toArray :=
  Blk.mid_at v.cells x.ak.cells ([.int .i64 x.q] ++ ([.int .i64 x.f] ++ ([.int .i64 x.t] ++ (x.cm.cells ++ (x.st.cells ++ (x.ce.cells)))))) ([.int .i64 x.e] ++ ([.int .i64 x.r] ++ ([.int .u64 (x.tm : Int)] ++ (x.pr.cells ++ (x.po.cells ++ (x.vt.cells ++ ([.int .i64 x.i] ++ (x.en.cells ++ (x.op.cells ++ (x.dn.cells ++ ([.string ⟨x.rp.toArray⟩] ++ (x.de.cells)))))))))))) 116 (by simp only [List.length_append, List.length_cons, List.length_nil, Wcm.len hx.cm, Wst.len hx.st, Wce.len hx.ce]) (by rw [hv, Wst.len hx.ak]) _ _ (by simp only [Wmg.cells, List.append_assoc, List.append_nil]) (by simp only [Wmg.cells, List.append_assoc, List.append_nil]) hb
set_option maxHeartbeats 2000000 in
theorem mget_ak (x : Wmg) (hz : x.Len) (hq : x.q = 4) (w : World) (F : List Nat) (g gm : Nat) (s : Ps) (hr : Rs w F g s) (hb : Blk w gm 61 x.cells.toArray) (hgm : gm ≠ g) (hF : ¬ gm ∈ F) :
    Calls Try.prog 24 #[.pointer (some ⟨g, 0, none⟩), .pointer (some ⟨gm, 0, none⟩)] w fun e w' => ∃ v : Wst, e = .returned (.bool true) ∧ v = (pSt s).1 ∧ (∀ S0 : List Nat, (∀ q ∈ S0, q < w.heap.size) → v.Ok) ∧ Blk w' gm 61 ({x with ak := v} : Wmg).cells.toArray ∧ Rs w' F g (pSt s).2 ∧ Fr [g, gm] w w' := by
  have hq0 : w.cell? ⟨gm, 0, none⟩ = some (.int .i64 4) := by have h := hb.range (cs := x.cells) 0 (.int .i64 x.q) rfl; rw [hq] at h; exact h
  have HR := Lib.hid hr
  have HB := Lib.hid hb
  have HGM := Lib.hid hgm
  have HNF := Lib.hid hF
  have HZ := Lib.hid hz
  have HBS : Hid (x.cells.toArray.size = 295) := Lib.hid (by rw [List.size_toArray]; exact Wmg.lenz hz)
  clear hr hb hgm hF hq hz
  go_enter Try.func24, Try.ntmps24
  go_wp2_with fail
  refine ((gets_of (fun _ _ _ _ hr => getAck_any hr) pSt_ok) w F g s HR.out).mono ?_
  rintro e w1 ⟨v, rfl, hcv, hok, h1, h2⟩
  have HB1 := Lib.hid (HB.out.keep h2 (by have := HGM.out; simpa using this))
  have HCV := Lib.hid hcv
  have HOK := Lib.hid hok
  have HR1 := Lib.hid h1
  have HF1 := Lib.hid h2
  have HVL : Hid (v.cells.length = 38) := Lib.hid (by have hok_ := hok [] (by simp); exact Wst.len (hok_.h))
  have HONE : Hid (v.cells.toArray.all (·.oneCell') = true) := Lib.hid (all_oneCell_toArray (Wst.one v))
  have HB2 := Lib.hid (Wmg.blk_ak HZ.out v HVL.out HB1.out)
  have HTH : Hid (w1.there gm 116 v.cells.toArray.size) := Lib.hid (HB1.out.thereM _ _ (by rw [List.size_toArray, HVL.out, HBS.out]; omega))
  have HSZ : Hid ((Try.prog.info? 37).map (·.size) = some v.cells.toArray.size) := Lib.hid (by rw [List.size_toArray, HVL.out]; kernel_rfl)
  have HF2 : Hid (Fr [gm] w1 (w1.setCells gm 116 v.cells)) := Lib.hid (Fr.setCells (fun _ => by simp) v.cells 116 w1 (Fr.refl _ _))
  clear hcv hok h1 h2
  obtain ⟨V, hV⟩ : ∃ V : List Value, V = v.cells := ⟨_, rfl⟩
  rw [← hV] at HVL HONE HTH HSZ HF2 HB2 ⊢
  have HVV := Lib.hid hV
  clear hV
  go_wp2_with (refine wpList_store_mid rfl 37 _ _ rfl gm 116 V.toArray rfl rfl HTH.out HSZ.out HONE.out ?_)
  change bodyPost _ _ _ _ _ (w1.setCells gm 116 V)
  generalize w1.setCells gm 116 V = w2 at *
  go_ret
  exact ⟨v, rfl, HCV.out, fun S0 h0 => HOK.out S0 h0, HB2.out, HR1.out.fr HF2.out (by have := HGM.out; simp; exact fun h => this h.symm) (fun q hq hm => HNF.out (by simp at hm; exact hm ▸ hq)), (HF1.out.mono (fun q hq _ => by simp at hq; simp [hq])).trans HF2.out (fun q hq _ => by simp at hq; simp [hq])⟩
theorem Wmg.blk_pr {w : World} {g : Nat} {t : TypeId} {x : Wmg} (hx : x.Len) (v : Wpr) (hv : v.cells.length = 6) (hb : Blk w g t x.cells.toArray) : Blk (w.setCells g 157 v.cells) g t ({x with pr := v} : Wmg).cells.toArray :=
  Blk.mid_at v.cells x.pr.cells ([.int .i64 x.q] ++ ([.int .i64 x.f] ++ ([.int .i64 x.t] ++ (x.cm.cells ++ (x.st.cells ++ (x.ce.cells ++ (x.ak.cells ++ ([.int .i64 x.e] ++ ([.int .i64 x.r] ++ ([.int .u64 (x.tm : Int)])))))))))) (x.po.cells ++ (x.vt.cells ++ ([.int .i64 x.i] ++ (x.en.cells ++ (x.op.cells ++ (x.dn.cells ++ ([.string ⟨x.rp.toArray⟩] ++ (x.de.cells)))))))) 157 (by simp only [List.length_append, List.length_cons, List.length_nil, Wcm.len hx.cm, Wst.len hx.st, Wce.len hx.ce, Wst.len hx.ak]) (by rw [hv, Wpr.len x.pr]) _ _ (by simp only [Wmg.cells, List.append_assoc, List.append_nil]) (by simp only [Wmg.cells, List.append_assoc, List.append_nil]) hb
set_option maxHeartbeats 2000000 in
theorem mget_pr (x : Wmg) (hz : x.Len) (hq : x.q = 6) (w : World) (F : List Nat) (g gm : Nat) (s : Ps) (hr : Rs w F g s) (hb : Blk w gm 61 x.cells.toArray) (hgm : gm ≠ g) (hF : ¬ gm ∈ F) :
    Calls Try.prog 24 #[.pointer (some ⟨g, 0, none⟩), .pointer (some ⟨gm, 0, none⟩)] w fun e w' => ∃ v : Wpr, e = .returned (.bool true) ∧ v.con = (pPr s).1 ∧ (∀ S0 : List Nat, (∀ q ∈ S0, q < w.heap.size) → v.Li w' S0) ∧ Blk w' gm 61 ({x with pr := v} : Wmg).cells.toArray ∧ Rs w' F g (pPr s).2 ∧ Fr [g, gm] w w' := by
  have hq0 : w.cell? ⟨gm, 0, none⟩ = some (.int .i64 6) := by have h := hb.range (cs := x.cells) 0 (.int .i64 x.q) rfl; rw [hq] at h; exact h
  have HR := Lib.hid hr
  have HB := Lib.hid hb
  have HGM := Lib.hid hgm
  have HNF := Lib.hid hF
  have HZ := Lib.hid hz
  have HBS : Hid (x.cells.toArray.size = 295) := Lib.hid (by rw [List.size_toArray]; exact Wmg.lenz hz)
  clear hr hb hgm hF hq hz
  go_enter Try.func24, Try.ntmps24
  go_wp2_with fail
  refine (getPromise_any w F g s HR.out).mono ?_
  rintro e w1 ⟨v, rfl, hcv, hok, h1, h2⟩
  have HB1 := Lib.hid (HB.out.keep h2 (by have := HGM.out; simpa using this))
  have HCV := Lib.hid hcv
  have HOK := Lib.hid hok
  have HR1 := Lib.hid h1
  have HF1 := Lib.hid h2
  have HVL : Hid (v.cells.length = 6) := Lib.hid (by have hok_ := hok [] (by simp); exact Wpr.len v)
  have HONE : Hid (v.cells.toArray.all (·.oneCell') = true) := Lib.hid (all_oneCell_toArray (Wpr.one v))
  have HB2 := Lib.hid (Wmg.blk_pr HZ.out v HVL.out HB1.out)
  have HTH : Hid (w1.there gm 157 v.cells.toArray.size) := Lib.hid (HB1.out.thereM _ _ (by rw [List.size_toArray, HVL.out, HBS.out]; omega))
  have HSZ : Hid ((Try.prog.info? 40).map (·.size) = some v.cells.toArray.size) := Lib.hid (by rw [List.size_toArray, HVL.out]; kernel_rfl)
  have HF2 : Hid (Fr [gm] w1 (w1.setCells gm 157 v.cells)) := Lib.hid (Fr.setCells (fun _ => by simp) v.cells 157 w1 (Fr.refl _ _))
  clear hcv hok h1 h2
  obtain ⟨V, hV⟩ : ∃ V : List Value, V = v.cells := ⟨_, rfl⟩
  rw [← hV] at HVL HONE HTH HSZ HF2 HB2 ⊢
  have HVV := Lib.hid hV
  clear hV
  go_wp2_with (refine wpList_store_mid rfl 40 _ _ rfl gm 157 V.toArray rfl rfl HTH.out HSZ.out HONE.out ?_)
  change bodyPost _ _ _ _ _ (w1.setCells gm 157 V)
  generalize w1.setCells gm 157 V = w2 at *
  go_ret
  exact ⟨v, rfl, HCV.out, fun S0 h0 => (HOK.out (gm :: S0) (fun q hq => by rcases List.mem_cons.1 hq with rfl | hq; exact HB.out.lt; exact h0 q hq)).keep (HF2.out.mono (fun q hq _ => by simp at hq; simp [hq])) (fun q hq _ => by simp [hq]), HB2.out, HR1.out.fr HF2.out (by have := HGM.out; simp; exact fun h => this h.symm) (fun q hq hm => HNF.out (by simp at hm; exact hm ▸ hq)), (HF1.out.mono (fun q hq _ => by simp at hq; simp [hq])).trans HF2.out (fun q hq _ => by simp at hq; simp [hq])⟩
theorem Wmg.blk_po {w : World} {g : Nat} {t : TypeId} {x : Wmg} (hx : x.Len) (v : Wpo) (hv : v.cells.length = 11) (hb : Blk w g t x.cells.toArray) : Blk (w.setCells g 163 v.cells) g t ({x with po := v} : Wmg).cells.toArray :=
  Blk.mid_at v.cells x.po.cells ([.int .i64 x.q] ++ ([.int .i64 x.f] ++ ([.int .i64 x.t] ++ (x.cm.cells ++ (x.st.cells ++ (x.ce.cells ++ (x.ak.cells ++ ([.int .i64 x.e] ++ ([.int .i64 x.r] ++ ([.int .u64 (x.tm : Int)] ++ (x.pr.cells))))))))))) (x.vt.cells ++ ([.int .i64 x.i] ++ (x.en.cells ++ (x.op.cells ++ (x.dn.cells ++ ([.string ⟨x.rp.toArray⟩] ++ (x.de.cells))))))) 163 (by simp only [List.length_append, List.length_cons, List.length_nil, Wcm.len hx.cm, Wst.len hx.st, Wce.len hx.ce, Wst.len hx.ak, Wpr.len x.pr]) (by rw [hv, Wpo.len x.po]) _ _ (by simp only [Wmg.cells, List.append_assoc, List.append_nil]) (by simp only [Wmg.cells, List.append_assoc, List.append_nil]) hb
set_option maxHeartbeats 2000000 in
theorem mget_po (x : Wmg) (hz : x.Len) (hq : x.q = 7) (w : World) (F : List Nat) (g gm : Nat) (s : Ps) (hr : Rs w F g s) (hb : Blk w gm 61 x.cells.toArray) (hgm : gm ≠ g) (hF : ¬ gm ∈ F) :
    Calls Try.prog 24 #[.pointer (some ⟨g, 0, none⟩), .pointer (some ⟨gm, 0, none⟩)] w fun e w' => ∃ v : Wpo, e = .returned (.bool true) ∧ v.con = (pPo s).1 ∧ (∀ S0 : List Nat, (∀ q ∈ S0, q < w.heap.size) → v.Li w' S0) ∧ Blk w' gm 61 ({x with po := v} : Wmg).cells.toArray ∧ Rs w' F g (pPo s).2 ∧ Fr [g, gm] w w' := by
  have hq0 : w.cell? ⟨gm, 0, none⟩ = some (.int .i64 7) := by have h := hb.range (cs := x.cells) 0 (.int .i64 x.q) rfl; rw [hq] at h; exact h
  have HR := Lib.hid hr
  have HB := Lib.hid hb
  have HGM := Lib.hid hgm
  have HNF := Lib.hid hF
  have HZ := Lib.hid hz
  have HBS : Hid (x.cells.toArray.size = 295) := Lib.hid (by rw [List.size_toArray]; exact Wmg.lenz hz)
  clear hr hb hgm hF hq hz
  go_enter Try.func24, Try.ntmps24
  go_wp2_with fail
  refine (getProposal_any w F g s HR.out).mono ?_
  rintro e w1 ⟨v, rfl, hcv, hok, h1, h2⟩
  have HB1 := Lib.hid (HB.out.keep h2 (by have := HGM.out; simpa using this))
  have HCV := Lib.hid hcv
  have HOK := Lib.hid hok
  have HR1 := Lib.hid h1
  have HF1 := Lib.hid h2
  have HVL : Hid (v.cells.length = 11) := Lib.hid (by have hok_ := hok [] (by simp); exact Wpo.len v)
  have HONE : Hid (v.cells.toArray.all (·.oneCell') = true) := Lib.hid (all_oneCell_toArray (Wpo.one v))
  have HB2 := Lib.hid (Wmg.blk_po HZ.out v HVL.out HB1.out)
  have HTH : Hid (w1.there gm 163 v.cells.toArray.size) := Lib.hid (HB1.out.thereM _ _ (by rw [List.size_toArray, HVL.out, HBS.out]; omega))
  have HSZ : Hid ((Try.prog.info? 47).map (·.size) = some v.cells.toArray.size) := Lib.hid (by rw [List.size_toArray, HVL.out]; kernel_rfl)
  have HF2 : Hid (Fr [gm] w1 (w1.setCells gm 163 v.cells)) := Lib.hid (Fr.setCells (fun _ => by simp) v.cells 163 w1 (Fr.refl _ _))
  clear hcv hok h1 h2
  obtain ⟨V, hV⟩ : ∃ V : List Value, V = v.cells := ⟨_, rfl⟩
  rw [← hV] at HVL HONE HTH HSZ HF2 HB2 ⊢
  have HVV := Lib.hid hV
  clear hV
  go_wp2_with (refine wpList_store_mid rfl 47 _ _ rfl gm 163 V.toArray rfl rfl HTH.out HSZ.out HONE.out ?_)
  change bodyPost _ _ _ _ _ (w1.setCells gm 163 V)
  generalize w1.setCells gm 163 V = w2 at *
  go_ret
  exact ⟨v, rfl, HCV.out, fun S0 h0 => (HOK.out (gm :: S0) (fun q hq => by rcases List.mem_cons.1 hq with rfl | hq; exact HB.out.lt; exact h0 q hq)).keep (HF2.out.mono (fun q hq _ => by simp at hq; simp [hq])) (fun q hq _ => by simp [hq]), HB2.out, HR1.out.fr HF2.out (by have := HGM.out; simp; exact fun h => this h.symm) (fun q hq hm => HNF.out (by simp at hm; exact hm ▸ hq)), (HF1.out.mono (fun q hq _ => by simp at hq; simp [hq])).trans HF2.out (fun q hq _ => by simp at hq; simp [hq])⟩
theorem Wmg.blk_vt {w : World} {g : Nat} {t : TypeId} {x : Wmg} (hx : x.Len) (v : Wvt) (hv : v.cells.length = 38) (hb : Blk w g t x.cells.toArray) : Blk (w.setCells g 174 v.cells) g t ({x with vt := v} : Wmg).cells.toArray :=
  Blk.mid_at v.cells x.vt.cells ([.int .i64 x.q] ++ ([.int .i64 x.f] ++ ([.int .i64 x.t] ++ (x.cm.cells ++ (x.st.cells ++ (x.ce.cells ++ (x.ak.cells ++ ([.int .i64 x.e] ++ ([.int .i64 x.r] ++ ([.int .u64 (x.tm : Int)] ++ (x.pr.cells ++ (x.po.cells)))))))))))) ([.int .i64 x.i] ++ (x.en.cells ++ (x.op.cells ++ (x.dn.cells ++ ([.string ⟨x.rp.toArray⟩] ++ (x.de.cells)))))) 174 (by simp only [List.length_append, List.length_cons, List.length_nil, Wcm.len hx.cm, Wst.len hx.st, Wce.len hx.ce, Wst.len hx.ak, Wpr.len x.pr, Wpo.len x.po]) (by rw [hv, Wvt.len hx.vt]) _ _ (by simp only [Wmg.cells, List.append_assoc, List.append_nil]) (by simp only [Wmg.cells, List.append_assoc, List.append_nil]) hb
set_option maxHeartbeats 2000000 in
theorem mget_vt (x : Wmg) (hz : x.Len) (hq : x.q = 8) (w : World) (F : List Nat) (g gm : Nat) (s : Ps) (hr : Rs w F g s) (hb : Blk w gm 61 x.cells.toArray) (hgm : gm ≠ g) (hF : ¬ gm ∈ F) :
    Calls Try.prog 24 #[.pointer (some ⟨g, 0, none⟩), .pointer (some ⟨gm, 0, none⟩)] w fun e w' => ∃ v : Wvt, e = .returned (.bool true) ∧ v = (pVt s).1 ∧ (∀ S0 : List Nat, (∀ q ∈ S0, q < w.heap.size) → v.Ok) ∧ Blk w' gm 61 ({x with vt := v} : Wmg).cells.toArray ∧ Rs w' F g (pVt s).2 ∧ Fr [g, gm] w w' := by
  have hq0 : w.cell? ⟨gm, 0, none⟩ = some (.int .i64 8) := by have h := hb.range (cs := x.cells) 0 (.int .i64 x.q) rfl; rw [hq] at h; exact h
  have HR := Lib.hid hr
  have HB := Lib.hid hb
  have HGM := Lib.hid hgm
  have HNF := Lib.hid hF
  have HZ := Lib.hid hz
  have HBS : Hid (x.cells.toArray.size = 295) := Lib.hid (by rw [List.size_toArray]; exact Wmg.lenz hz)
  clear hr hb hgm hF hq hz
  go_enter Try.func24, Try.ntmps24
  go_wp2_with fail
  refine ((gets_of (fun _ _ _ _ hr => getVote_any hr) pVt_ok) w F g s HR.out).mono ?_
  rintro e w1 ⟨v, rfl, hcv, hok, h1, h2⟩
  have HB1 := Lib.hid (HB.out.keep h2 (by have := HGM.out; simpa using this))
  have HCV := Lib.hid hcv
  have HOK := Lib.hid hok
  have HR1 := Lib.hid h1
  have HF1 := Lib.hid h2
  have HVL : Hid (v.cells.length = 38) := Lib.hid (by have hok_ := hok [] (by simp); exact Wvt.len (hok_.h))
  have HONE : Hid (v.cells.toArray.all (·.oneCell') = true) := Lib.hid (all_oneCell_toArray (Wvt.one v))
  have HB2 := Lib.hid (Wmg.blk_vt HZ.out v HVL.out HB1.out)
  have HTH : Hid (w1.there gm 174 v.cells.toArray.size) := Lib.hid (HB1.out.thereM _ _ (by rw [List.size_toArray, HVL.out, HBS.out]; omega))
  have HSZ : Hid ((Try.prog.info? 49).map (·.size) = some v.cells.toArray.size) := Lib.hid (by rw [List.size_toArray, HVL.out]; kernel_rfl)
  have HF2 : Hid (Fr [gm] w1 (w1.setCells gm 174 v.cells)) := Lib.hid (Fr.setCells (fun _ => by simp) v.cells 174 w1 (Fr.refl _ _))
  clear hcv hok h1 h2
  obtain ⟨V, hV⟩ : ∃ V : List Value, V = v.cells := ⟨_, rfl⟩
  rw [← hV] at HVL HONE HTH HSZ HF2 HB2 ⊢
  have HVV := Lib.hid hV
  clear hV
  go_wp2_with (refine wpList_store_mid rfl 49 _ _ rfl gm 174 V.toArray rfl rfl HTH.out HSZ.out HONE.out ?_)
  change bodyPost _ _ _ _ _ (w1.setCells gm 174 V)
  generalize w1.setCells gm 174 V = w2 at *
  go_ret
  exact ⟨v, rfl, HCV.out, fun S0 h0 => HOK.out S0 h0, HB2.out, HR1.out.fr HF2.out (by have := HGM.out; simp; exact fun h => this h.symm) (fun q hq hm => HNF.out (by simp at hm; exact hm ▸ hq)), (HF1.out.mono (fun q hq _ => by simp at hq; simp [hq])).trans HF2.out (fun q hq _ => by simp at hq; simp [hq])⟩
theorem Wmg.blk_op {w : World} {g : Nat} {t : TypeId} {x : Wmg} (hx : x.Len) (v : Wop) (hv : v.cells.length = 34) (hb : Blk w g t x.cells.toArray) : Blk (w.setCells g 248 v.cells) g t ({x with op := v} : Wmg).cells.toArray :=
  Blk.mid_at v.cells x.op.cells ([.int .i64 x.q] ++ ([.int .i64 x.f] ++ ([.int .i64 x.t] ++ (x.cm.cells ++ (x.st.cells ++ (x.ce.cells ++ (x.ak.cells ++ ([.int .i64 x.e] ++ ([.int .i64 x.r] ++ ([.int .u64 (x.tm : Int)] ++ (x.pr.cells ++ (x.po.cells ++ (x.vt.cells ++ ([.int .i64 x.i] ++ (x.en.cells))))))))))))))) (x.dn.cells ++ ([.string ⟨x.rp.toArray⟩] ++ (x.de.cells))) 248 (by simp only [List.length_append, List.length_cons, List.length_nil, Wcm.len hx.cm, Wst.len hx.st, Wce.len hx.ce, Wst.len hx.ak, Wpr.len x.pr, Wpo.len x.po, Wvt.len hx.vt, Wen.len hx.en]) (by rw [hv, Wop.len hx.op]) _ _ (by simp only [Wmg.cells, List.append_assoc, List.append_nil]) (by simp only [Wmg.cells, List.append_assoc, List.append_nil]) hb
set_option maxHeartbeats 2000000 in
theorem mget_op (x : Wmg) (hz : x.Len) (hq : x.q = 10) (w : World) (F : List Nat) (g gm : Nat) (s : Ps) (hr : Rs w F g s) (hb : Blk w gm 61 x.cells.toArray) (hgm : gm ≠ g) (hF : ¬ gm ∈ F) :
    Calls Try.prog 24 #[.pointer (some ⟨g, 0, none⟩), .pointer (some ⟨gm, 0, none⟩)] w fun e w' => ∃ v : Wop, e = .returned (.bool true) ∧ v.con = (pOp s).1 ∧ (∀ S0 : List Nat, (∀ q ∈ S0, q < w.heap.size) → v.Ok w' S0) ∧ Blk w' gm 61 ({x with op := v} : Wmg).cells.toArray ∧ Rs w' F g (pOp s).2 ∧ Fr [g, gm] w w' := by
  have hq0 : w.cell? ⟨gm, 0, none⟩ = some (.int .i64 10) := by have h := hb.range (cs := x.cells) 0 (.int .i64 x.q) rfl; rw [hq] at h; exact h
  have HR := Lib.hid hr
  have HB := Lib.hid hb
  have HGM := Lib.hid hgm
  have HNF := Lib.hid hF
  have HZ := Lib.hid hz
  have HBS : Hid (x.cells.toArray.size = 295) := Lib.hid (by rw [List.size_toArray]; exact Wmg.lenz hz)
  clear hr hb hgm hF hq hz
  go_enter Try.func24, Try.ntmps24
  go_wp2_with fail
  refine (getOpening_any w F g s HR.out).mono ?_
  rintro e w1 ⟨v, rfl, hcv, hok, h1, h2⟩
  have HB1 := Lib.hid (HB.out.keep h2 (by have := HGM.out; simpa using this))
  have HCV := Lib.hid hcv
  have HOK := Lib.hid hok
  have HR1 := Lib.hid h1
  have HF1 := Lib.hid h2
  have HVL : Hid (v.cells.length = 34) := Lib.hid (by have hok_ := hok [] (by simp); exact Wop.len (hok_.h))
  have HONE : Hid (v.cells.toArray.all (·.oneCell') = true) := Lib.hid (all_oneCell_toArray (Wop.one v))
  have HB2 := Lib.hid (Wmg.blk_op HZ.out v HVL.out HB1.out)
  have HTH : Hid (w1.there gm 248 v.cells.toArray.size) := Lib.hid (HB1.out.thereM _ _ (by rw [List.size_toArray, HVL.out, HBS.out]; omega))
  have HSZ : Hid ((Try.prog.info? 54).map (·.size) = some v.cells.toArray.size) := Lib.hid (by rw [List.size_toArray, HVL.out]; kernel_rfl)
  have HF2 : Hid (Fr [gm] w1 (w1.setCells gm 248 v.cells)) := Lib.hid (Fr.setCells (fun _ => by simp) v.cells 248 w1 (Fr.refl _ _))
  clear hcv hok h1 h2
  obtain ⟨V, hV⟩ : ∃ V : List Value, V = v.cells := ⟨_, rfl⟩
  rw [← hV] at HVL HONE HTH HSZ HF2 HB2 ⊢
  have HVV := Lib.hid hV
  clear hV
  go_wp2_with (refine wpList_store_mid rfl 54 _ _ rfl gm 248 V.toArray rfl rfl HTH.out HSZ.out HONE.out ?_)
  change bodyPost _ _ _ _ _ (w1.setCells gm 248 V)
  generalize w1.setCells gm 248 V = w2 at *
  go_ret
  exact ⟨v, rfl, HCV.out, fun S0 h0 => (HOK.out (gm :: S0) (fun q hq => by rcases List.mem_cons.1 hq with rfl | hq; exact HB.out.lt; exact h0 q hq)).keep (HF2.out.mono (fun q hq _ => by simp at hq; simp [hq])) (fun q hq _ => by simp [hq]), HB2.out, HR1.out.fr HF2.out (by have := HGM.out; simp; exact fun h => this h.symm) (fun q hq hm => HNF.out (by simp at hm; exact hm ▸ hq)), (HF1.out.mono (fun q hq _ => by simp at hq; simp [hq])).trans HF2.out (fun q hq _ => by simp at hq; simp [hq])⟩
theorem Wmg.blk_dn {w : World} {g : Nat} {t : TypeId} {x : Wmg} (hx : x.Len) (v : Wdn) (hv : v.cells.length = 4) (hb : Blk w g t x.cells.toArray) : Blk (w.setCells g 282 v.cells) g t ({x with dn := v} : Wmg).cells.toArray :=
  Blk.mid_at v.cells x.dn.cells ([.int .i64 x.q] ++ ([.int .i64 x.f] ++ ([.int .i64 x.t] ++ (x.cm.cells ++ (x.st.cells ++ (x.ce.cells ++ (x.ak.cells ++ ([.int .i64 x.e] ++ ([.int .i64 x.r] ++ ([.int .u64 (x.tm : Int)] ++ (x.pr.cells ++ (x.po.cells ++ (x.vt.cells ++ ([.int .i64 x.i] ++ (x.en.cells ++ (x.op.cells)))))))))))))))) ([.string ⟨x.rp.toArray⟩] ++ (x.de.cells)) 282 (by simp only [List.length_append, List.length_cons, List.length_nil, Wcm.len hx.cm, Wst.len hx.st, Wce.len hx.ce, Wst.len hx.ak, Wpr.len x.pr, Wpo.len x.po, Wvt.len hx.vt, Wen.len hx.en, Wop.len hx.op]) (by rw [hv, Wdn.len x.dn]) _ _ (by simp only [Wmg.cells, List.append_assoc, List.append_nil]) (by simp only [Wmg.cells, List.append_assoc, List.append_nil]) hb
set_option maxHeartbeats 2000000 in
theorem mget_dn (x : Wmg) (hz : x.Len) (hq : x.q = 12) (w : World) (F : List Nat) (g gm : Nat) (s : Ps) (hr : Rs w F g s) (hb : Blk w gm 61 x.cells.toArray) (hgm : gm ≠ g) (hF : ¬ gm ∈ F) :
    Calls Try.prog 24 #[.pointer (some ⟨g, 0, none⟩), .pointer (some ⟨gm, 0, none⟩)] w fun e w' => ∃ v : Wdn, e = .returned (.bool true) ∧ v = (pDn s).1 ∧ (∀ S0 : List Nat, (∀ q ∈ S0, q < w.heap.size) → v.Ok) ∧ Blk w' gm 61 ({x with dn := v} : Wmg).cells.toArray ∧ Rs w' F g (pDn s).2 ∧ Fr [g, gm] w w' := by
  have hq0 : w.cell? ⟨gm, 0, none⟩ = some (.int .i64 12) := by have h := hb.range (cs := x.cells) 0 (.int .i64 x.q) rfl; rw [hq] at h; exact h
  have HR := Lib.hid hr
  have HB := Lib.hid hb
  have HGM := Lib.hid hgm
  have HNF := Lib.hid hF
  have HZ := Lib.hid hz
  have HBS : Hid (x.cells.toArray.size = 295) := Lib.hid (by rw [List.size_toArray]; exact Wmg.lenz hz)
  clear hr hb hgm hF hq hz
  go_enter Try.func24, Try.ntmps24
  go_wp2_with fail
  refine ((gets_of (fun _ _ _ _ hr => getDeny_any hr) pDn_ok) w F g s HR.out).mono ?_
  rintro e w1 ⟨v, rfl, hcv, hok, h1, h2⟩
  have HB1 := Lib.hid (HB.out.keep h2 (by have := HGM.out; simpa using this))
  have HCV := Lib.hid hcv
  have HOK := Lib.hid hok
  have HR1 := Lib.hid h1
  have HF1 := Lib.hid h2
  have HVL : Hid (v.cells.length = 4) := Lib.hid (by have hok_ := hok [] (by simp); exact Wdn.len v)
  have HONE : Hid (v.cells.toArray.all (·.oneCell') = true) := Lib.hid (all_oneCell_toArray (Wdn.one v))
  have HB2 := Lib.hid (Wmg.blk_dn HZ.out v HVL.out HB1.out)
  have HTH : Hid (w1.there gm 282 v.cells.toArray.size) := Lib.hid (HB1.out.thereM _ _ (by rw [List.size_toArray, HVL.out, HBS.out]; omega))
  have HSZ : Hid ((Try.prog.info? 56).map (·.size) = some v.cells.toArray.size) := Lib.hid (by rw [List.size_toArray, HVL.out]; kernel_rfl)
  have HF2 : Hid (Fr [gm] w1 (w1.setCells gm 282 v.cells)) := Lib.hid (Fr.setCells (fun _ => by simp) v.cells 282 w1 (Fr.refl _ _))
  clear hcv hok h1 h2
  obtain ⟨V, hV⟩ : ∃ V : List Value, V = v.cells := ⟨_, rfl⟩
  rw [← hV] at HVL HONE HTH HSZ HF2 HB2 ⊢
  have HVV := Lib.hid hV
  clear hV
  go_wp2_with (refine wpList_store_mid rfl 56 _ _ rfl gm 282 V.toArray rfl rfl HTH.out HSZ.out HONE.out ?_)
  change bodyPost _ _ _ _ _ (w1.setCells gm 282 V)
  generalize w1.setCells gm 282 V = w2 at *
  go_ret
  exact ⟨v, rfl, HCV.out, fun S0 h0 => HOK.out S0 h0, HB2.out, HR1.out.fr HF2.out (by have := HGM.out; simp; exact fun h => this h.symm) (fun q hq hm => HNF.out (by simp at hm; exact hm ▸ hq)), (HF1.out.mono (fun q hq _ => by simp at hq; simp [hq])).trans HF2.out (fun q hq _ => by simp at hq; simp [hq])⟩
theorem Wmg.blk_de {w : World} {g : Nat} {t : TypeId} {x : Wmg} (hx : x.Len) (v : Wdc) (hv : v.cells.length = 8) (hb : Blk w g t x.cells.toArray) : Blk (w.setCells g 287 v.cells) g t ({x with de := v} : Wmg).cells.toArray :=
  Blk.mid_at v.cells x.de.cells ([.int .i64 x.q] ++ ([.int .i64 x.f] ++ ([.int .i64 x.t] ++ (x.cm.cells ++ (x.st.cells ++ (x.ce.cells ++ (x.ak.cells ++ ([.int .i64 x.e] ++ ([.int .i64 x.r] ++ ([.int .u64 (x.tm : Int)] ++ (x.pr.cells ++ (x.po.cells ++ (x.vt.cells ++ ([.int .i64 x.i] ++ (x.en.cells ++ (x.op.cells ++ (x.dn.cells ++ ([.string ⟨x.rp.toArray⟩])))))))))))))))))) ([]) 287 (by simp only [List.length_append, List.length_cons, List.length_nil, Wcm.len hx.cm, Wst.len hx.st, Wce.len hx.ce, Wst.len hx.ak, Wpr.len x.pr, Wpo.len x.po, Wvt.len hx.vt, Wen.len hx.en, Wop.len hx.op, Wdn.len x.dn]) (by rw [hv, Wdc.len x.de]) _ _ (by simp only [Wmg.cells, List.append_assoc, List.append_nil]) (by simp only [Wmg.cells, List.append_assoc, List.append_nil]) hb
set_option maxHeartbeats 2000000 in
theorem mget_de (x : Wmg) (hz : x.Len) (hq : x.q = 14) (w : World) (F : List Nat) (g gm : Nat) (s : Ps) (hr : Rs w F g s) (hb : Blk w gm 61 x.cells.toArray) (hgm : gm ≠ g) (hF : ¬ gm ∈ F) :
    Calls Try.prog 24 #[.pointer (some ⟨g, 0, none⟩), .pointer (some ⟨gm, 0, none⟩)] w fun e w' => ∃ v : Wdc, e = .returned (.bool true) ∧ v.con = (pDc s).1 ∧ (∀ S0 : List Nat, (∀ q ∈ S0, q < w.heap.size) → v.Li w' S0) ∧ Blk w' gm 61 ({x with de := v} : Wmg).cells.toArray ∧ Rs w' F g (pDc s).2 ∧ Fr [g, gm] w w' := by
  have hq0 : w.cell? ⟨gm, 0, none⟩ = some (.int .i64 14) := by have h := hb.range (cs := x.cells) 0 (.int .i64 x.q) rfl; rw [hq] at h; exact h
  have HR := Lib.hid hr
  have HB := Lib.hid hb
  have HGM := Lib.hid hgm
  have HNF := Lib.hid hF
  have HZ := Lib.hid hz
  have HBS : Hid (x.cells.toArray.size = 295) := Lib.hid (by rw [List.size_toArray]; exact Wmg.lenz hz)
  clear hr hb hgm hF hq hz
  go_enter Try.func24, Try.ntmps24
  go_wp2_with fail
  refine (getDecided_any w F g s HR.out).mono ?_
  rintro e w1 ⟨v, rfl, hcv, hok, h1, h2⟩
  have HB1 := Lib.hid (HB.out.keep h2 (by have := HGM.out; simpa using this))
  have HCV := Lib.hid hcv
  have HOK := Lib.hid hok
  have HR1 := Lib.hid h1
  have HF1 := Lib.hid h2
  have HVL : Hid (v.cells.length = 8) := Lib.hid (by have hok_ := hok [] (by simp); exact Wdc.len v)
  have HONE : Hid (v.cells.toArray.all (·.oneCell') = true) := Lib.hid (all_oneCell_toArray (Wdc.one v))
  have HB2 := Lib.hid (Wmg.blk_de HZ.out v HVL.out HB1.out)
  have HTH : Hid (w1.there gm 287 v.cells.toArray.size) := Lib.hid (HB1.out.thereM _ _ (by rw [List.size_toArray, HVL.out, HBS.out]; omega))
  have HSZ : Hid ((Try.prog.info? 59).map (·.size) = some v.cells.toArray.size) := Lib.hid (by rw [List.size_toArray, HVL.out]; kernel_rfl)
  have HF2 : Hid (Fr [gm] w1 (w1.setCells gm 287 v.cells)) := Lib.hid (Fr.setCells (fun _ => by simp) v.cells 287 w1 (Fr.refl _ _))
  clear hcv hok h1 h2
  obtain ⟨V, hV⟩ : ∃ V : List Value, V = v.cells := ⟨_, rfl⟩
  rw [← hV] at HVL HONE HTH HSZ HF2 HB2 ⊢
  have HVV := Lib.hid hV
  clear hV
  go_wp2_with (refine wpList_store_mid rfl 59 _ _ rfl gm 287 V.toArray rfl rfl HTH.out HSZ.out HONE.out ?_)
  change bodyPost _ _ _ _ _ (w1.setCells gm 287 V)
  generalize w1.setCells gm 287 V = w2 at *
  go_ret
  exact ⟨v, rfl, HCV.out, fun S0 h0 => (HOK.out (gm :: S0) (fun q hq => by rcases List.mem_cons.1 hq with rfl | hq; exact HB.out.lt; exact h0 q hq)).keep (HF2.out.mono (fun q hq _ => by simp at hq; simp [hq])) (fun q hq _ => by simp [hq]), HB2.out, HR1.out.fr HF2.out (by have := HGM.out; simp; exact fun h => this h.symm) (fun q hq hm => HNF.out (by simp at hm; exact hm ▸ hq)), (HF1.out.mono (fun q hq _ => by simp at hq; simp [hq])).trans HF2.out (fun q hq _ => by simp at hq; simp [hq])⟩
end Go.Proofs.Ytniaacjfkaakjaa

namespace Go.Proofs.Ytniaacjfkaakjaa
open Go.RowKit
set_option maxRecDepth 100000
theorem wpList_store_at {P : Program} {ops : Array Oper} {rest : List Oper} {op : Oper} {a : Act} {w : World} {Q : Exit → Act → World → Prop} (hg : op.guard = none) (ty : TypeId) (x y : Operand) (ho : op.op = .store ty x y)
    (g i : Nat) (v : Value) (hx : a.eval x = .pointer (some ⟨g, i, none⟩)) (hy : a.eval y = v) (h1 : v.oneCell' = true) (t : TypeId) (cs : Array Value) (hb : Blk w g t cs) (hi : i < cs.size) (hsz : (P.info? ty).map (·.size) = some 1)
    (h : wpList P ops Q rest (a.put op.dst undef) (w.setCells g i [v])) : wpList P ops Q (op :: rest) a w :=
  wpList_plain hg fun _ hK => wp_store_at ty x y ho g i v hx hy h1 t cs hb hi hsz (hK _ _ h)
theorem Wmg.blk_i {w : World} {g : Nat} {t : TypeId} {x : Wmg} (hx : x.Len) (v : Int) (hb : Blk w g t x.cells.toArray) : Blk (w.setCells g 212 [.int .i64 v]) g t ({x with i := v} : Wmg).cells.toArray :=
  Blk.mid_at [.int .i64 v] [.int .i64 x.i] ([.int .i64 x.q] ++ ([.int .i64 x.f] ++ ([.int .i64 x.t] ++ (x.cm.cells ++ (x.st.cells ++ (x.ce.cells ++ (x.ak.cells ++ ([.int .i64 x.e] ++ ([.int .i64 x.r] ++ ([.int .u64 (x.tm : Int)] ++ (x.pr.cells ++ (x.po.cells ++ (x.vt.cells))))))))))))) (x.en.cells ++ (x.op.cells ++ (x.dn.cells ++ ([.string ⟨x.rp.toArray⟩] ++ (x.de.cells))))) 212 (by simp only [List.length_append, List.length_cons, List.length_nil, Wcm.len hx.cm, Wst.len hx.st, Wce.len hx.ce, Wst.len hx.ak, Wpr.len x.pr, Wpo.len x.po, Wvt.len hx.vt]) rfl _ _ (by simp only [Wmg.cells, List.append_assoc, List.append_nil]) (by simp only [Wmg.cells, List.append_assoc, List.append_nil]) hb
theorem Wmg.blk_e {w : World} {g : Nat} {t : TypeId} {x : Wmg} (hx : x.Len) (v : Int) (hb : Blk w g t x.cells.toArray) : Blk (w.setCells g 154 [.int .i64 v]) g t ({x with e := v} : Wmg).cells.toArray :=
  Blk.mid_at [.int .i64 v] [.int .i64 x.e] ([.int .i64 x.q] ++ ([.int .i64 x.f] ++ ([.int .i64 x.t] ++ (x.cm.cells ++ (x.st.cells ++ (x.ce.cells ++ (x.ak.cells))))))) ([.int .i64 x.r] ++ ([.int .u64 (x.tm : Int)] ++ (x.pr.cells ++ (x.po.cells ++ (x.vt.cells ++ ([.int .i64 x.i] ++ (x.en.cells ++ (x.op.cells ++ (x.dn.cells ++ ([.string ⟨x.rp.toArray⟩] ++ (x.de.cells))))))))))) 154 (by simp only [List.length_append, List.length_cons, List.length_nil, Wcm.len hx.cm, Wst.len hx.st, Wce.len hx.ce, Wst.len hx.ak]) rfl _ _ (by simp only [Wmg.cells, List.append_assoc, List.append_nil]) (by simp only [Wmg.cells, List.append_assoc, List.append_nil]) hb
theorem Wmg.blk_r {w : World} {g : Nat} {t : TypeId} {x : Wmg} (hx : x.Len) (v : Int) (hb : Blk w g t x.cells.toArray) : Blk (w.setCells g 155 [.int .i64 v]) g t ({x with r := v} : Wmg).cells.toArray :=
  Blk.mid_at [.int .i64 v] [.int .i64 x.r] ([.int .i64 x.q] ++ ([.int .i64 x.f] ++ ([.int .i64 x.t] ++ (x.cm.cells ++ (x.st.cells ++ (x.ce.cells ++ (x.ak.cells ++ ([.int .i64 x.e])))))))) ([.int .u64 (x.tm : Int)] ++ (x.pr.cells ++ (x.po.cells ++ (x.vt.cells ++ ([.int .i64 x.i] ++ (x.en.cells ++ (x.op.cells ++ (x.dn.cells ++ ([.string ⟨x.rp.toArray⟩] ++ (x.de.cells)))))))))) 155 (by simp only [List.length_append, List.length_cons, List.length_nil, Wcm.len hx.cm, Wst.len hx.st, Wce.len hx.ce, Wst.len hx.ak]) rfl _ _ (by simp only [Wmg.cells, List.append_assoc, List.append_nil]) (by simp only [Wmg.cells, List.append_assoc, List.append_nil]) hb
theorem Wmg.blk_tm {w : World} {g : Nat} {t : TypeId} {x : Wmg} (hx : x.Len) (v : Nat) (hb : Blk w g t x.cells.toArray) : Blk (w.setCells g 156 [.int .u64 (v : Int)]) g t ({x with tm := v} : Wmg).cells.toArray :=
  Blk.mid_at [.int .u64 (v : Int)] [.int .u64 (x.tm : Int)] ([.int .i64 x.q] ++ ([.int .i64 x.f] ++ ([.int .i64 x.t] ++ (x.cm.cells ++ (x.st.cells ++ (x.ce.cells ++ (x.ak.cells ++ ([.int .i64 x.e] ++ ([.int .i64 x.r]))))))))) (x.pr.cells ++ (x.po.cells ++ (x.vt.cells ++ ([.int .i64 x.i] ++ (x.en.cells ++ (x.op.cells ++ (x.dn.cells ++ ([.string ⟨x.rp.toArray⟩] ++ (x.de.cells))))))))) 156 (by simp only [List.length_append, List.length_cons, List.length_nil, Wcm.len hx.cm, Wst.len hx.st, Wce.len hx.ce, Wst.len hx.ak]) rfl _ _ (by simp only [Wmg.cells, List.append_assoc, List.append_nil]) (by simp only [Wmg.cells, List.append_assoc, List.append_nil]) hb
theorem Wmg.blk_rp {w : World} {g : Nat} {t : TypeId} {x : Wmg} (hx : x.Len) (v : List UInt8) (hb : Blk w g t x.cells.toArray) : Blk (w.setCells g 286 [.string ⟨(v).toArray⟩]) g t ({x with rp := v} : Wmg).cells.toArray :=
  Blk.mid_at [.string ⟨(v).toArray⟩] [.string ⟨x.rp.toArray⟩] ([.int .i64 x.q] ++ ([.int .i64 x.f] ++ ([.int .i64 x.t] ++ (x.cm.cells ++ (x.st.cells ++ (x.ce.cells ++ (x.ak.cells ++ ([.int .i64 x.e] ++ ([.int .i64 x.r] ++ ([.int .u64 (x.tm : Int)] ++ (x.pr.cells ++ (x.po.cells ++ (x.vt.cells ++ ([.int .i64 x.i] ++ (x.en.cells ++ (x.op.cells ++ (x.dn.cells))))))))))))))))) (x.de.cells) 286 (by simp only [List.length_append, List.length_cons, List.length_nil, Wcm.len hx.cm, Wst.len hx.st, Wce.len hx.ce, Wst.len hx.ak, Wpr.len x.pr, Wpo.len x.po, Wvt.len hx.vt, Wen.len hx.en, Wop.len hx.op, Wdn.len x.dn]) rfl _ _ (by simp only [Wmg.cells, List.append_assoc, List.append_nil]) (by simp only [Wmg.cells, List.append_assoc, List.append_nil]) hb
theorem Wmg.blk_en {w : World} {g : Nat} {t : TypeId} {x : Wmg} (hx : x.Len) (v : Wen) (hv : v.cells.length = 35) (hb : Blk w g t x.cells.toArray) : Blk (w.setCells g 213 v.cells) g t ({x with en := v} : Wmg).cells.toArray :=
  Blk.mid_at v.cells x.en.cells ([.int .i64 x.q] ++ ([.int .i64 x.f] ++ ([.int .i64 x.t] ++ (x.cm.cells ++ (x.st.cells ++ (x.ce.cells ++ (x.ak.cells ++ ([.int .i64 x.e] ++ ([.int .i64 x.r] ++ ([.int .u64 (x.tm : Int)] ++ (x.pr.cells ++ (x.po.cells ++ (x.vt.cells ++ ([.int .i64 x.i])))))))))))))) (x.op.cells ++ (x.dn.cells ++ ([.string ⟨x.rp.toArray⟩] ++ (x.de.cells)))) 213 (by simp only [List.length_append, List.length_cons, List.length_nil, Wcm.len hx.cm, Wst.len hx.st, Wce.len hx.ce, Wst.len hx.ak, Wpr.len x.pr, Wpo.len x.po, Wvt.len hx.vt]) (by rw [hv, Wen.len hx.en]) _ _ (by simp only [Wmg.cells, List.append_assoc, List.append_nil]) (by simp only [Wmg.cells, List.append_assoc, List.append_nil]) hb
set_option maxHeartbeats 2000000 in
theorem mget_i (x : Wmg) (hz : x.Len) (hq : x.q = 11) (w : World) (F : List Nat) (g gm : Nat) (s : Ps) (hr : Rs w F g s) (hb : Blk w gm 61 x.cells.toArray) (hgm : gm ≠ g) (hF : ¬ gm ∈ F) :
    Calls Try.prog 24 #[.pointer (some ⟨g, 0, none⟩), .pointer (some ⟨gm, 0, none⟩)] w fun e w' => e = .returned (.bool true) ∧ Blk w' gm 61 ({x with i := (pI s).1} : Wmg).cells.toArray ∧ Rs w' F g (pI s).2 ∧ Fr [g, gm] w w' := by
  have hq0 : w.cell? ⟨gm, 0, none⟩ = some (.int .i64 11) := by have h := hb.range (cs := x.cells) 0 (.int .i64 x.q) rfl; rw [hq] at h; exact h
  have HR := Lib.hid hr
  have HB := Lib.hid hb
  have HGM := Lib.hid hgm
  have HNF := Lib.hid hF
  have HZ := Lib.hid hz
  have HSI : Hid ((Try.prog.info? 3).map (·.size) = some 1) := Lib.hid (by kernel_rfl)
  have HSU : Hid ((Try.prog.info? 30).map (·.size) = some 1) := Lib.hid (by kernel_rfl)
  have HLT : Hid (∀ y : Wmg, y.Len → ∀ k < 295, k < y.cells.toArray.size) := Lib.hid (fun y hy k hk => by rw [List.size_toArray, Wmg.lenz hy]; exact hk)
  clear hr hb hgm hF hq hz
  go_enter Try.func24, Try.ntmps24
  go_wp2_with fail
  refine (getInt_any HR.out).mono ?_
  rintro e_ w1 ⟨rfl, h1, h2⟩
  have HB1 := Lib.hid (HB.out.keep h2 (by have := HGM.out; simpa using this))
  have HR1 := Lib.hid h1
  have HF1 : Hid (Fr [g] w w1) := Lib.hid (h2)
  clear h1 h2
  have HFS : Hid (Fr [gm] w1 (w1.setCells gm 212 [.int .i64 (pI s).1])) := Lib.hid (Fr.setCells (fun _ => by simp) [.int .i64 (pI s).1] 212 _ (Fr.refl _ _))
  have HBZ := Lib.hid (Wmg.blk_i HZ.out (pI s).1 HB1.out)
  go_wp2_with (refine wpList_store_at rfl 3 _ _ rfl gm 212 (.int .i64 (pI s).1) rfl rfl rfl 61 _ HB1.out (HLT.out _ HZ.out 212 (by omega)) HSI.out ?_)
  change bodyPost _ _ _ _ _ (w1.setCells gm 212 [.int .i64 (pI s).1])
  generalize w1.setCells gm 212 [.int .i64 (pI s).1] = wz at *
  go_ret
  exact ⟨rfl, HBZ.out, HR1.out.fr HFS.out (by have := HGM.out; simp; exact fun h => this h.symm) (fun q hq hm => HNF.out (by simp at hm; exact hm ▸ hq)), (HF1.out.mono (fun q hq _ => by simp at hq; simp [hq])).trans HFS.out (fun q hq _ => by simp at hq; simp [hq])⟩
set_option maxHeartbeats 2000000 in
theorem mget_en (x : Wmg) (hz : x.Len) (hq : x.q = 9) (w : World) (F : List Nat) (g gm : Nat) (s : Ps) (hr : Rs w F g s) (hb : Blk w gm 61 x.cells.toArray) (hgm : gm ≠ g) (hF : ¬ gm ∈ F) :
    Calls Try.prog 24 #[.pointer (some ⟨g, 0, none⟩), .pointer (some ⟨gm, 0, none⟩)] w fun e w' => e = .returned (.bool true) ∧ Blk w' gm 61 ({x with i := (pI s).1, en := (pEn (pI s).2).1} : Wmg).cells.toArray ∧ Rs w' F g (pEn (pI s).2).2 ∧ Fr [g, gm] w w' := by
  have hq0 : w.cell? ⟨gm, 0, none⟩ = some (.int .i64 9) := by have h := hb.range (cs := x.cells) 0 (.int .i64 x.q) rfl; rw [hq] at h; exact h
  have HR := Lib.hid hr
  have HB := Lib.hid hb
  have HGM := Lib.hid hgm
  have HNF := Lib.hid hF
  have HZ := Lib.hid hz
  have HSI : Hid ((Try.prog.info? 3).map (·.size) = some 1) := Lib.hid (by kernel_rfl)
  have HSU : Hid ((Try.prog.info? 30).map (·.size) = some 1) := Lib.hid (by kernel_rfl)
  have HLT : Hid (∀ y : Wmg, y.Len → ∀ k < 295, k < y.cells.toArray.size) := Lib.hid (fun y hy k hk => by rw [List.size_toArray, Wmg.lenz hy]; exact hk)
  clear hr hb hgm hF hq hz
  go_enter Try.func24, Try.ntmps24
  go_wp2_with fail
  refine (getInt_any HR.out).mono ?_
  rintro e_ w1 ⟨rfl, h1, h2⟩
  have HB1 := Lib.hid (HB.out.keep h2 (by have := HGM.out; simpa using this))
  have HR1 := Lib.hid h1
  have HF1 : Hid (Fr [g] w w1) := Lib.hid (h2)
  clear h1 h2
  go_wp2_with fail
  refine (getEntry_any HR1.out).mono ?_
  rintro e_ w2 ⟨rfl, h1, h2⟩
  have HB2 := Lib.hid (HB1.out.keep h2 (by have := HGM.out; simpa using this))
  have HR2 := Lib.hid h1
  have HF2 : Hid (Fr [g] w w2) := Lib.hid (HF1.out.trans h2 (fun q hq _ => hq))
  clear h1 h2
  have HVL : Hid ((pEn (pI s).2).1.cells.length = 35) := Lib.hid (Wen.len (pEn_ok _).h)
  have HONE : Hid ((pEn (pI s).2).1.cells.toArray.all (·.oneCell') = true) := Lib.hid (all_oneCell_toArray (Wen.one _))
  have HBI := Lib.hid (Wmg.blk_i HZ.out (pI s).1 HB2.out)
  have HZ1 : Hid (Wmg.Len {x with i := (pI s).1}) := Lib.hid ⟨HZ.out.cm, HZ.out.st, HZ.out.ce, HZ.out.ak, HZ.out.vt, HZ.out.en, HZ.out.op⟩
  have HBZ := Lib.hid (Wmg.blk_en HZ1.out (pEn (pI s).2).1 HVL.out HBI.out)
  have HTH : Hid ((w2.setCells gm 212 [.int .i64 (pI s).1]).there gm 213 (pEn (pI s).2).1.cells.toArray.size) := Lib.hid (HBI.out.thereM _ _ (by rw [List.size_toArray, HVL.out, List.size_toArray, Wmg.lenz HZ1.out]; omega))
  have HSZ : Hid ((Try.prog.info? 51).map (·.size) = some (pEn (pI s).2).1.cells.toArray.size) := Lib.hid (by rw [List.size_toArray, HVL.out]; kernel_rfl)
  obtain ⟨V, hV⟩ : ∃ V : List Value, V = (pEn (pI s).2).1.cells := ⟨_, rfl⟩
  rw [← hV] at HVL HONE HTH HSZ HBZ ⊢
  have HVV := Lib.hid hV
  clear hV
  have HFS : Hid (Fr [gm] w2 ((w2.setCells gm 212 [.int .i64 (pI s).1]).setCells gm 213 V)) := Lib.hid (Fr.setCells (fun _ => by simp) V 213 _ (Fr.setCells (fun _ => by simp) [.int .i64 (pI s).1] 212 _ (Fr.refl _ _)))
  go_wp2_with (first
    | (refine wpList_store_at rfl 3 _ _ rfl gm 212 (.int .i64 (pI s).1) rfl rfl rfl 61 _ HB2.out (HLT.out _ HZ.out 212 (by omega)) HSI.out ?_)
    | (refine wpList_store_mid rfl 51 _ _ rfl gm 213 V.toArray rfl rfl HTH.out HSZ.out HONE.out ?_))
  change bodyPost _ _ _ _ _ ((w2.setCells gm 212 [.int .i64 (pI s).1]).setCells gm 213 V)
  generalize (w2.setCells gm 212 [.int .i64 (pI s).1]).setCells gm 213 V = wz at *
  go_ret
  exact ⟨rfl, HBZ.out, HR2.out.fr HFS.out (by have := HGM.out; simp; exact fun h => this h.symm) (fun q hq hm => HNF.out (by simp at hm; exact hm ▸ hq)), (HF2.out.mono (fun q hq _ => by simp at hq; simp [hq])).trans HFS.out (fun q hq _ => by simp at hq; simp [hq])⟩
set_option maxHeartbeats 2000000 in
theorem mget_close (x : Wmg) (hz : x.Len) (hq : x.q = 5) (w : World) (F : List Nat) (g gm : Nat) (s : Ps) (hr : Rs w F g s) (hb : Blk w gm 61 x.cells.toArray) (hgm : gm ≠ g) (hF : ¬ gm ∈ F) :
    Calls Try.prog 24 #[.pointer (some ⟨g, 0, none⟩), .pointer (some ⟨gm, 0, none⟩)] w fun e w' => e = .returned (.bool true) ∧ Blk w' gm 61 ({x with e := (pI s).1, r := (pI (pI s).2).1, tm := (pN (pI (pI s).2).2).1} : Wmg).cells.toArray ∧ Rs w' F g (pN (pI (pI s).2).2).2 ∧ Fr [g, gm] w w' := by
  have hq0 : w.cell? ⟨gm, 0, none⟩ = some (.int .i64 5) := by have h := hb.range (cs := x.cells) 0 (.int .i64 x.q) rfl; rw [hq] at h; exact h
  have HR := Lib.hid hr
  have HB := Lib.hid hb
  have HGM := Lib.hid hgm
  have HNF := Lib.hid hF
  have HZ := Lib.hid hz
  have HSI : Hid ((Try.prog.info? 3).map (·.size) = some 1) := Lib.hid (by kernel_rfl)
  have HSU : Hid ((Try.prog.info? 30).map (·.size) = some 1) := Lib.hid (by kernel_rfl)
  have HLT : Hid (∀ y : Wmg, y.Len → ∀ k < 295, k < y.cells.toArray.size) := Lib.hid (fun y hy k hk => by rw [List.size_toArray, Wmg.lenz hy]; exact hk)
  clear hr hb hgm hF hq hz
  go_enter Try.func24, Try.ntmps24
  go_wp2_with fail
  refine (getInt_any HR.out).mono ?_
  rintro e_ w1 ⟨rfl, h1, h2⟩
  have HB1 := Lib.hid (HB.out.keep h2 (by have := HGM.out; simpa using this))
  have HR1 := Lib.hid h1
  have HF1 : Hid (Fr [g] w w1) := Lib.hid (h2)
  clear h1 h2
  go_wp2_with fail
  refine (getInt_any HR1.out).mono ?_
  rintro e_ w2 ⟨rfl, h1, h2⟩
  have HB2 := Lib.hid (HB1.out.keep h2 (by have := HGM.out; simpa using this))
  have HR2 := Lib.hid h1
  have HF2 : Hid (Fr [g] w w2) := Lib.hid (HF1.out.trans h2 (fun q hq _ => hq))
  clear h1 h2
  go_wp2_with fail
  refine (getNum_any HR2.out).mono ?_
  rintro e_ w3 ⟨rfl, h1, h2⟩
  have HB3 := Lib.hid (HB2.out.keep h2 (by have := HGM.out; simpa using this))
  have HR3 := Lib.hid h1
  have HF3 : Hid (Fr [g] w w3) := Lib.hid (HF2.out.trans h2 (fun q hq _ => hq))
  clear h1 h2
  have HZ1 : Hid (Wmg.Len {x with e := (pI s).1}) := Lib.hid ⟨HZ.out.cm, HZ.out.st, HZ.out.ce, HZ.out.ak, HZ.out.vt, HZ.out.en, HZ.out.op⟩
  have HZ2 : Hid (Wmg.Len {x with e := (pI s).1, r := (pI (pI s).2).1}) := Lib.hid ⟨HZ.out.cm, HZ.out.st, HZ.out.ce, HZ.out.ak, HZ.out.vt, HZ.out.en, HZ.out.op⟩
  have HB4 := Lib.hid (Wmg.blk_e HZ.out (pI s).1 HB3.out)
  have HB5 := Lib.hid (Wmg.blk_r HZ1.out (pI (pI s).2).1 HB4.out)
  have HBZ := Lib.hid (Wmg.blk_tm HZ2.out (pN (pI (pI s).2).2).1 HB5.out)
  have HFS : Hid (Fr [gm] w3 (((w3.setCells gm 154 [.int .i64 (pI s).1]).setCells gm 155 [.int .i64 (pI (pI s).2).1]).setCells gm 156 [.int .u64 ((pN (pI (pI s).2).2).1 : Nat)])) := Lib.hid (Fr.setCells (fun _ => by simp) [.int .u64 ((pN (pI (pI s).2).2).1 : Nat)] 156 _ (Fr.setCells (fun _ => by simp) [.int .i64 (pI (pI s).2).1] 155 _ (Fr.setCells (fun _ => by simp) [.int .i64 (pI s).1] 154 _ (Fr.refl _ _))))
  go_wp2_with (first
    | (refine wpList_store_at rfl 3 _ _ rfl gm 154 (.int .i64 (pI s).1) rfl rfl rfl 61 _ HB3.out (HLT.out _ HZ.out 154 (by omega)) HSI.out ?_)
    | (refine wpList_store_at rfl 3 _ _ rfl gm 155 (.int .i64 (pI (pI s).2).1) rfl rfl rfl 61 _ HB4.out (HLT.out _ HZ1.out 155 (by omega)) HSI.out ?_)
    | (refine wpList_store_at rfl 30 _ _ rfl gm 156 (.int .u64 ((pN (pI (pI s).2).2).1 : Nat)) rfl rfl rfl 61 _ HB5.out (HLT.out _ HZ2.out 156 (by omega)) HSU.out ?_))
  change bodyPost _ _ _ _ _ (((w3.setCells gm 154 [.int .i64 (pI s).1]).setCells gm 155 [.int .i64 (pI (pI s).2).1]).setCells gm 156 [.int .u64 ((pN (pI (pI s).2).2).1 : Nat)])
  generalize ((w3.setCells gm 154 [.int .i64 (pI s).1]).setCells gm 155 [.int .i64 (pI (pI s).2).1]).setCells gm 156 [.int .u64 ((pN (pI (pI s).2).2).1 : Nat)] = wz at *
  go_ret
  exact ⟨rfl, HBZ.out, HR3.out.fr HFS.out (by have := HGM.out; simp; exact fun h => this h.symm) (fun q hq hm => HNF.out (by simp at hm; exact hm ▸ hq)), (HF3.out.mono (fun q hq _ => by simp at hq; simp [hq])).trans HFS.out (fun q hq _ => by simp at hq; simp [hq])⟩
theorem conv_back {w : World} {A : Option Addr} {n c : Nat} {l : List UInt8} (hy : By w A n l) : (convert 52 9 (.slice A n c)).run Try.prog w = .ok (.string ⟨l.toArray⟩) w := by
  cases A with
  | none =>
    obtain ⟨rfl, rfl⟩ := hy.none_
    rw [run_convert_bytes_string w 52 9 5 none 0 c Try.underlying52 Try.underlying5 Try.underlying9]
    rfl
  | some a =>
    obtain ⟨hl, hc⟩ := hy
    subst hl
    refine run_convert_bytes_back w 52 9 5 a c l Try.underlying52 Try.underlying5 Try.underlying9 (fun j hj => ?_)
    obtain ⟨ad, e, hc⟩ := hc (by omega)
    injection e with e
    subst e
    exact hc j _ (by simp [List.getElem?_eq_getElem hj, by8])
set_option maxHeartbeats 2000000 in
theorem mget_reply (x : Wmg) (hz : x.Len) (hq : x.q = 13) (w : World) (F : List Nat) (g gm : Nat) (s : Ps) (hr : Rs w F g s) (hb : Blk w gm 61 x.cells.toArray) (hgm : gm ≠ g) (hF : ¬ gm ∈ F) :
    Calls Try.prog 24 #[.pointer (some ⟨g, 0, none⟩), .pointer (some ⟨gm, 0, none⟩)] w fun e w' => e = .returned (.bool true) ∧ Blk w' gm 61 ({x with i := (pI s).1, rp := (pR (pI s).2).1} : Wmg).cells.toArray ∧ Rs w' F g (pR (pI s).2).2 ∧ Fr [g, gm] w w' := by
  have hq0 : w.cell? ⟨gm, 0, none⟩ = some (.int .i64 13) := by have h := hb.range (cs := x.cells) 0 (.int .i64 x.q) rfl; rw [hq] at h; exact h
  have HR := Lib.hid hr
  have HB := Lib.hid hb
  have HGM := Lib.hid hgm
  have HNF := Lib.hid hF
  have HZ := Lib.hid hz
  have HSI : Hid ((Try.prog.info? 3).map (·.size) = some 1) := Lib.hid (by kernel_rfl)
  have HSU : Hid ((Try.prog.info? 30).map (·.size) = some 1) := Lib.hid (by kernel_rfl)
  have HLT : Hid (∀ y : Wmg, y.Len → ∀ k < 295, k < y.cells.toArray.size) := Lib.hid (fun y hy k hk => by rw [List.size_toArray, Wmg.lenz hy]; exact hk)
  clear hr hb hgm hF hq hz
  go_enter Try.func24, Try.ntmps24
  go_wp2_with fail
  refine (getInt_any HR.out).mono ?_
  rintro e_ w1 ⟨rfl, h1, h2⟩
  have HB1 := Lib.hid (HB.out.keep h2 (by have := HGM.out; simpa using this))
  have HR1 := Lib.hid h1
  have HF1 : Hid (Fr [g] w w1) := Lib.hid (h2)
  clear h1 h2
  go_wp2_with fail
  refine (getRow_any HR1.out).mono ?_
  rintro e_ w2 ⟨A, c, rfl, hy, hbk, hlc, h1, h2⟩
  have hconv := conv_back (c := c) hy
  clear hy hbk hlc
  have HB2 := Lib.hid (HB1.out.keep h2 (by have := HGM.out; simpa using this))
  have HR2 := Lib.hid h1
  have HF2 : Hid (Fr [g] w w2) := Lib.hid (HF1.out.trans h2 (fun q hq _ => hq))
  clear h1 h2
  have HBI := Lib.hid (Wmg.blk_i HZ.out (pI s).1 HB2.out)
  have HZ1 : Hid (Wmg.Len {x with i := (pI s).1}) := Lib.hid ⟨HZ.out.cm, HZ.out.st, HZ.out.ce, HZ.out.ak, HZ.out.vt, HZ.out.en, HZ.out.op⟩
  have HSS : Hid ((Try.prog.info? 9).map (·.size) = some 1) := Lib.hid (by kernel_rfl)
  have HBZ := Lib.hid (Wmg.blk_rp HZ1.out (pR (pI s).2).1 HBI.out)
  have HFS : Hid (Fr [gm] w2 ((w2.setCells gm 212 [.int .i64 (pI s).1]).setCells gm 286 [.string ⟨(pR (pI s).2).1.toArray⟩])) := Lib.hid (Fr.setCells (fun _ => by simp) [.string ⟨(pR (pI s).2).1.toArray⟩] 286 _ (Fr.setCells (fun _ => by simp) [.int .i64 (pI s).1] 212 _ (Fr.refl _ _)))
  go_wp2_with (first
    | (refine wpList_store_at rfl 3 _ _ rfl gm 212 (.int .i64 (pI s).1) rfl rfl rfl 61 _ HB2.out (HLT.out _ HZ.out 212 (by omega)) HSI.out ?_)
    | (refine wpList_store_at rfl 9 _ _ rfl gm 286 (.string ⟨(pR (pI s).2).1.toArray⟩) rfl rfl rfl 61 _ HBI.out (HLT.out _ HZ1.out 286 (by omega)) HSS.out ?_))
  change bodyPost _ _ _ _ _ ((w2.setCells gm 212 [.int .i64 (pI s).1]).setCells gm 286 [.string ⟨(pR (pI s).2).1.toArray⟩])
  generalize (w2.setCells gm 212 [.int .i64 (pI s).1]).setCells gm 286 [.string ⟨(pR (pI s).2).1.toArray⟩] = wz at *
  go_ret
  exact ⟨rfl, HBZ.out, HR2.out.fr HFS.out (by have := HGM.out; simp; exact fun h => this h.symm) (fun q hq hm => HNF.out (by simp at hm; exact hm ▸ hq)), (HF2.out.mono (fun q hq _ => by simp at hq; simp [hq])).trans HFS.out (fun q hq _ => by simp at hq; simp [hq])⟩
set_option maxHeartbeats 2000000 in
theorem mget_none (x : Wmg) (hq : ¬ (1 ≤ x.q ∧ x.q ≤ 14)) (w : World) (g gm : Nat) (hb : Blk w gm 61 x.cells.toArray) :
    Calls Try.prog 24 #[.pointer (some ⟨g, 0, none⟩), .pointer (some ⟨gm, 0, none⟩)] w fun e w' => e = .returned (.bool false) ∧ w = w' := by
  have hq0 : w.cell? ⟨gm, 0, none⟩ = some (.int .i64 x.q) := hb.range (cs := x.cells) 0 (.int .i64 x.q) rfl
  have HQ := Lib.hid hq
  clear hb hq
  go_enter Try.func24, Try.ntmps24
  have n1 : (x.q == (1 : Int)) = false := by have := HQ.out; simp; omega
  have n2 : (x.q == (2 : Int)) = false := by have := HQ.out; simp; omega
  have n3 : (x.q == (3 : Int)) = false := by have := HQ.out; simp; omega
  have n4 : (x.q == (4 : Int)) = false := by have := HQ.out; simp; omega
  have n5 : (x.q == (5 : Int)) = false := by have := HQ.out; simp; omega
  have n6 : (x.q == (6 : Int)) = false := by have := HQ.out; simp; omega
  have n7 : (x.q == (7 : Int)) = false := by have := HQ.out; simp; omega
  have n8 : (x.q == (8 : Int)) = false := by have := HQ.out; simp; omega
  have n9 : (x.q == (9 : Int)) = false := by have := HQ.out; simp; omega
  have n10 : (x.q == (10 : Int)) = false := by have := HQ.out; simp; omega
  have n11 : (x.q == (11 : Int)) = false := by have := HQ.out; simp; omega
  have n12 : (x.q == (12 : Int)) = false := by have := HQ.out; simp; omega
  have n13 : (x.q == (13 : Int)) = false := by have := HQ.out; simp; omega
  have n14 : (x.q == (14 : Int)) = false := by have := HQ.out; simp; omega
  go_wp2_with fail
  go_ret
  exact ⟨rfl, rfl⟩
end Go.Proofs.Ytniaacjfkaakjaa

namespace Go.Proofs.Ytniaacjfkaakjaa
open Go.RowKit
set_option maxRecDepth 100000
def pW {α : Type} (z : α) (p : Ps → α × Ps) (s : Ps) : α × Ps := (if (p s).2.2 then z else (p s).1, (p s).2)
def zWce : Wce := ⟨⟨0, 0, List.replicate 32 0, 0, 0, 0⟩, none, 0, 0, []⟩
def zWpr : Wpr := ⟨0, 0, 0, none, 0, 0, [], 0, 0⟩
def zWba : Wba := ⟨0, 0, none, 0, 0, [], none, 0, 0, [], none, 0, 0, []⟩
theorem zero_in : i64In 0 := by unfold i64In; omega
theorem zWce_ok (w : World) (S : List Nat) : zWce.Li w S := ⟨⟨zero_in, zero_in, rfl, zero_in, zero_in, zero_in⟩, Lst.nil _, by decide, fun h => absurd h (by decide)⟩
theorem zWpr_ok (w : World) (S : List Nat) : zWpr.Li w S := ⟨zero_in, zero_in, by decide, Lst.nil _, by decide, fun h => absurd h (by decide), zero_in, zero_in⟩
theorem zWba_ok (w : World) (S : List Nat) : zWba.Li w S := ⟨zero_in, by decide, Lst.nil _, by decide, fun h => absurd h (by decide), Lst.nil _, by decide, fun h => absurd h (by decide), Lst.nil _, by decide, fun h => absurd h (by decide)⟩

end Go.Proofs.Ytniaacjfkaakjaa

namespace Go.Proofs.Ytniaacjfkaakjaa
open Go.RowKit
set_option maxRecDepth 100000
/-- what a message says -/
structure Cmg where
  q : Int
  f : Int
  t : Int
  cm : Wcm
  st : Wst
  ce : Cce
  ak : Wst
  e : Int
  r : Int
  tm : Nat
  pr : Cpr
  po : Cpo
  vt : Wvt
  i : Int
  en : Wen
  op : Cop
  dn : Wdn
  rp : List UInt8
  de : Cdc
def Wmg.con (x : Wmg) : Cmg := ⟨x.q, x.f, x.t, x.cm, x.st, x.ce.con, x.ak, x.e, x.r, x.tm, x.pr.con, x.po.con, x.vt, x.i, x.en, x.op.con, x.dn, x.rp, x.de.con⟩
/-- what its kind names, read -/
def pM (c : Cmg) (s : Ps) : Cmg × Ps := if c.q = 1 then ({c with cm := (pCm s).1}, (pCm s).2) else if c.q = 2 then ({c with st := (pSt s).1}, (pSt s).2) else if c.q = 3 then ({c with ce := (pCe s).1}, (pCe s).2) else if c.q = 4 then ({c with ak := (pSt s).1}, (pSt s).2) else if c.q = 5 then ({c with e := (pI s).1, r := (pI (pI s).2).1, tm := (pN (pI (pI s).2).2).1}, (pN (pI (pI s).2).2).2) else if c.q = 6 then ({c with pr := (pPr s).1}, (pPr s).2) else if c.q = 7 then ({c with po := (pPo s).1}, (pPo s).2) else if c.q = 8 then ({c with vt := (pVt s).1}, (pVt s).2) else if c.q = 9 then ({c with i := (pI s).1, en := (pEn (pI s).2).1}, (pEn (pI s).2).2) else if c.q = 10 then ({c with op := (pOp s).1}, (pOp s).2) else if c.q = 11 then ({c with i := (pI s).1}, (pI s).2) else if c.q = 12 then ({c with dn := (pDn s).1}, (pDn s).2) else if c.q = 13 then ({c with i := (pI s).1, rp := (pR (pI s).2).1}, (pR (pI s).2).2) else if c.q = 14 then ({c with de := (pDc s).1}, (pDc s).2) else (c, s)
theorem pM_1 {c : Cmg} (s : Ps) (h : c.q = 1) : pM c s = ({c with cm := (pCm s).1}, (pCm s).2) := by simp [pM, h]
theorem pM_2 {c : Cmg} (s : Ps) (h : c.q = 2) : pM c s = ({c with st := (pSt s).1}, (pSt s).2) := by simp [pM, h]
theorem pM_3 {c : Cmg} (s : Ps) (h : c.q = 3) : pM c s = ({c with ce := (pCe s).1}, (pCe s).2) := by simp [pM, h]
theorem pM_4 {c : Cmg} (s : Ps) (h : c.q = 4) : pM c s = ({c with ak := (pSt s).1}, (pSt s).2) := by simp [pM, h]
theorem pM_5 {c : Cmg} (s : Ps) (h : c.q = 5) : pM c s = ({c with e := (pI s).1, r := (pI (pI s).2).1, tm := (pN (pI (pI s).2).2).1}, (pN (pI (pI s).2).2).2) := by simp [pM, h]
theorem pM_6 {c : Cmg} (s : Ps) (h : c.q = 6) : pM c s = ({c with pr := (pPr s).1}, (pPr s).2) := by simp [pM, h]
theorem pM_7 {c : Cmg} (s : Ps) (h : c.q = 7) : pM c s = ({c with po := (pPo s).1}, (pPo s).2) := by simp [pM, h]
theorem pM_8 {c : Cmg} (s : Ps) (h : c.q = 8) : pM c s = ({c with vt := (pVt s).1}, (pVt s).2) := by simp [pM, h]
theorem pM_9 {c : Cmg} (s : Ps) (h : c.q = 9) : pM c s = ({c with i := (pI s).1, en := (pEn (pI s).2).1}, (pEn (pI s).2).2) := by simp [pM, h]
theorem pM_10 {c : Cmg} (s : Ps) (h : c.q = 10) : pM c s = ({c with op := (pOp s).1}, (pOp s).2) := by simp [pM, h]
theorem pM_11 {c : Cmg} (s : Ps) (h : c.q = 11) : pM c s = ({c with i := (pI s).1}, (pI s).2) := by simp [pM, h]
theorem pM_12 {c : Cmg} (s : Ps) (h : c.q = 12) : pM c s = ({c with dn := (pDn s).1}, (pDn s).2) := by simp [pM, h]
theorem pM_13 {c : Cmg} (s : Ps) (h : c.q = 13) : pM c s = ({c with i := (pI s).1, rp := (pR (pI s).2).1}, (pR (pI s).2).2) := by simp [pM, h]
theorem pM_14 {c : Cmg} (s : Ps) (h : c.q = 14) : pM c s = ({c with de := (pDc s).1}, (pDc s).2) := by simp [pM, h]
theorem pM_none {c : Cmg} (s : Ps) (h : ¬ (1 ≤ c.q ∧ c.q ≤ 14)) : pM c s = (c, s) := by
  unfold pM
  rw [if_neg (by omega)]
  rw [if_neg (by omega)]
  rw [if_neg (by omega)]
  rw [if_neg (by omega)]
  rw [if_neg (by omega)]
  rw [if_neg (by omega)]
  rw [if_neg (by omega)]
  rw [if_neg (by omega)]
  rw [if_neg (by omega)]
  rw [if_neg (by omega)]
  rw [if_neg (by omega)]
  rw [if_neg (by omega)]
  rw [if_neg (by omega)]
  rw [if_neg (by omega)]
structure Wmg.Li (w : World) (S : List Nat) (x : Wmg) : Prop where
  cm : x.cm.Ok
  st : x.st.Ok
  ce : x.ce.Li w S
  ak : x.ak.Ok
  pr : x.pr.Li w S
  po : x.po.Li w S
  vt : x.vt.Ok
  en : x.en.Ok
  op : x.op.Ok w S
  dn : x.dn.Ok
  de : x.de.Li w S
theorem mb0_ok (w : World) (S : List Nat) : mb0.Li w S := ⟨zero_in, by decide, Lst.nil _, by decide, fun h => absurd h (by decide), Lst.nil _, by decide, fun h => absurd h (by decide), Lst.nil _, by decide, fun h => absurd h (by decide)⟩
theorem mz_li (w : World) (S : List Nat) (q f t : Int) : (mz q f t).Li w S :=
  ⟨⟨zero_in, zero_in, rfl, zero_in, zero_in, zero_in⟩, ⟨zero_in, zero_in, zero_in, rfl, (show 0 < 18446744073709551616 by decide), zero_in, zero_in⟩, zWce_ok w S, ⟨zero_in, zero_in, zero_in, rfl, (show 0 < 18446744073709551616 by decide), zero_in, zero_in⟩,
   zWpr_ok w S, ⟨zero_in, zero_in, zero_in, zero_in, mb0_ok w S, zero_in, zero_in⟩, ⟨zero_in, zero_in, zero_in, zero_in, rfl, zero_in, zero_in⟩, ⟨zero_in, zero_in, rfl, (show 0 < 18446744073709551616 by decide)⟩,
   ⟨zero_in, By.nil _ _, (show 0 ≤ 260 by decide), fun k hk => by simp [mz, bk] at hk, fun k hk => by simp [mz, bk] at hk, rfl, (show 0 ≤ 0 by decide)⟩, ⟨zero_in, zero_in, zero_in, zero_in⟩, ⟨zero_in, zero_in, mb0_ok w S, Lst.nil _, (show 0 ≤ 100 by decide), fun h => absurd h (show ¬ 0 < 0 by decide)⟩⟩
theorem mget_any (q f t : Int) (w : World) (F : List Nat) (g gm : Nat) (s : Ps) (hr : Rs w F g s) (hb : Blk w gm 61 (mz q f t).cells.toArray) (hgm : gm ≠ g) (hF : ¬ gm ∈ F) :
    Calls Try.prog 24 #[.pointer (some ⟨g, 0, none⟩), .pointer (some ⟨gm, 0, none⟩)] w fun e w' => ∃ y : Wmg, e = .returned (.bool (decide (1 ≤ q ∧ q ≤ 14))) ∧ y.con = (pM (mz q f t).con s).1 ∧ y.Len ∧ (∀ S0 : List Nat, (∀ k ∈ S0, k < w.heap.size) → y.Li w' S0) ∧ Blk w' gm 61 y.cells.toArray ∧ Rs w' F g (pM (mz q f t).con s).2 ∧ Fr [g, gm] w w' := by
  by_cases hm : 1 ≤ q ∧ q ≤ 14
  · rw [decide_eq_true hm]
    have hs : q = 1 ∨ q = 2 ∨ q = 3 ∨ q = 4 ∨ q = 5 ∨ q = 6 ∨ q = 7 ∨ q = 8 ∨ q = 9 ∨ q = 10 ∨ q = 11 ∨ q = 12 ∨ q = 13 ∨ q = 14 := by omega
    rcases hs with h | h | h | h | h | h | h | h | h | h | h | h | h | h
    · rw [pM_1 s (show (mz q f t).con.q = 1 from h)]
      refine (mget_cm (mz q f t) (mz_len q f t) h w F g gm s hr hb hgm hF).mono ?_
      rintro e w' ⟨v, rfl, hc, hok, hb', hr', hf'⟩
      exact ⟨{mz q f t with cm := v}, rfl, by rw [← hc]; rfl, ⟨(hok [] (by simp)).h, rfl, rfl, rfl, rfl, rfl, rfl⟩, fun S0 h0 => ⟨hok S0 h0, (mz_li w' S0 q f t).st, (mz_li w' S0 q f t).ce, (mz_li w' S0 q f t).ak, (mz_li w' S0 q f t).pr, (mz_li w' S0 q f t).po, (mz_li w' S0 q f t).vt, (mz_li w' S0 q f t).en, (mz_li w' S0 q f t).op, (mz_li w' S0 q f t).dn, (mz_li w' S0 q f t).de⟩, hb', hr', hf'⟩
    · rw [pM_2 s (show (mz q f t).con.q = 2 from h)]
      refine (mget_st (mz q f t) (mz_len q f t) h w F g gm s hr hb hgm hF).mono ?_
      rintro e w' ⟨v, rfl, hc, hok, hb', hr', hf'⟩
      exact ⟨{mz q f t with st := v}, rfl, by rw [← hc]; rfl, ⟨rfl, (hok [] (by simp)).h, rfl, rfl, rfl, rfl, rfl⟩, fun S0 h0 => ⟨(mz_li w' S0 q f t).cm, hok S0 h0, (mz_li w' S0 q f t).ce, (mz_li w' S0 q f t).ak, (mz_li w' S0 q f t).pr, (mz_li w' S0 q f t).po, (mz_li w' S0 q f t).vt, (mz_li w' S0 q f t).en, (mz_li w' S0 q f t).op, (mz_li w' S0 q f t).dn, (mz_li w' S0 q f t).de⟩, hb', hr', hf'⟩
    · rw [pM_3 s (show (mz q f t).con.q = 3 from h)]
      refine (mget_ce (mz q f t) (mz_len q f t) h w F g gm s hr hb hgm hF).mono ?_
      rintro e w' ⟨v, rfl, hc, hok, hb', hr', hf'⟩
      exact ⟨{mz q f t with ce := v}, rfl, by rw [← hc]; rfl, ⟨rfl, rfl, (hok [] (by simp)).k.h, rfl, rfl, rfl, rfl⟩, fun S0 h0 => ⟨(mz_li w' S0 q f t).cm, (mz_li w' S0 q f t).st, hok S0 h0, (mz_li w' S0 q f t).ak, (mz_li w' S0 q f t).pr, (mz_li w' S0 q f t).po, (mz_li w' S0 q f t).vt, (mz_li w' S0 q f t).en, (mz_li w' S0 q f t).op, (mz_li w' S0 q f t).dn, (mz_li w' S0 q f t).de⟩, hb', hr', hf'⟩
    · rw [pM_4 s (show (mz q f t).con.q = 4 from h)]
      refine (mget_ak (mz q f t) (mz_len q f t) h w F g gm s hr hb hgm hF).mono ?_
      rintro e w' ⟨v, rfl, hc, hok, hb', hr', hf'⟩
      exact ⟨{mz q f t with ak := v}, rfl, by rw [← hc]; rfl, ⟨rfl, rfl, rfl, (hok [] (by simp)).h, rfl, rfl, rfl⟩, fun S0 h0 => ⟨(mz_li w' S0 q f t).cm, (mz_li w' S0 q f t).st, (mz_li w' S0 q f t).ce, hok S0 h0, (mz_li w' S0 q f t).pr, (mz_li w' S0 q f t).po, (mz_li w' S0 q f t).vt, (mz_li w' S0 q f t).en, (mz_li w' S0 q f t).op, (mz_li w' S0 q f t).dn, (mz_li w' S0 q f t).de⟩, hb', hr', hf'⟩
    · rw [pM_5 s (show (mz q f t).con.q = 5 from h)]
      refine (mget_close (mz q f t) (mz_len q f t) h w F g gm s hr hb hgm hF).mono ?_
      rintro e w' ⟨rfl, hb', hr', hf'⟩
      exact ⟨{mz q f t with e := (pI s).1, r := (pI (pI s).2).1, tm := (pN (pI (pI s).2).2).1}, rfl, rfl, ⟨rfl, rfl, rfl, rfl, rfl, rfl, rfl⟩, fun S0 _ => ⟨(mz_li w' S0 q f t).cm, (mz_li w' S0 q f t).st, (mz_li w' S0 q f t).ce, (mz_li w' S0 q f t).ak, (mz_li w' S0 q f t).pr, (mz_li w' S0 q f t).po, (mz_li w' S0 q f t).vt, (mz_li w' S0 q f t).en, (mz_li w' S0 q f t).op, (mz_li w' S0 q f t).dn, (mz_li w' S0 q f t).de⟩, hb', hr', hf'⟩
    · rw [pM_6 s (show (mz q f t).con.q = 6 from h)]
      refine (mget_pr (mz q f t) (mz_len q f t) h w F g gm s hr hb hgm hF).mono ?_
      rintro e w' ⟨v, rfl, hc, hok, hb', hr', hf'⟩
      exact ⟨{mz q f t with pr := v}, rfl, by rw [← hc]; rfl, ⟨rfl, rfl, rfl, rfl, rfl, rfl, rfl⟩, fun S0 h0 => ⟨(mz_li w' S0 q f t).cm, (mz_li w' S0 q f t).st, (mz_li w' S0 q f t).ce, (mz_li w' S0 q f t).ak, hok S0 h0, (mz_li w' S0 q f t).po, (mz_li w' S0 q f t).vt, (mz_li w' S0 q f t).en, (mz_li w' S0 q f t).op, (mz_li w' S0 q f t).dn, (mz_li w' S0 q f t).de⟩, hb', hr', hf'⟩
    · rw [pM_7 s (show (mz q f t).con.q = 7 from h)]
      refine (mget_po (mz q f t) (mz_len q f t) h w F g gm s hr hb hgm hF).mono ?_
      rintro e w' ⟨v, rfl, hc, hok, hb', hr', hf'⟩
      exact ⟨{mz q f t with po := v}, rfl, by rw [← hc]; rfl, ⟨rfl, rfl, rfl, rfl, rfl, rfl, rfl⟩, fun S0 h0 => ⟨(mz_li w' S0 q f t).cm, (mz_li w' S0 q f t).st, (mz_li w' S0 q f t).ce, (mz_li w' S0 q f t).ak, (mz_li w' S0 q f t).pr, hok S0 h0, (mz_li w' S0 q f t).vt, (mz_li w' S0 q f t).en, (mz_li w' S0 q f t).op, (mz_li w' S0 q f t).dn, (mz_li w' S0 q f t).de⟩, hb', hr', hf'⟩
    · rw [pM_8 s (show (mz q f t).con.q = 8 from h)]
      refine (mget_vt (mz q f t) (mz_len q f t) h w F g gm s hr hb hgm hF).mono ?_
      rintro e w' ⟨v, rfl, hc, hok, hb', hr', hf'⟩
      exact ⟨{mz q f t with vt := v}, rfl, by rw [← hc]; rfl, ⟨rfl, rfl, rfl, rfl, (hok [] (by simp)).h, rfl, rfl⟩, fun S0 h0 => ⟨(mz_li w' S0 q f t).cm, (mz_li w' S0 q f t).st, (mz_li w' S0 q f t).ce, (mz_li w' S0 q f t).ak, (mz_li w' S0 q f t).pr, (mz_li w' S0 q f t).po, hok S0 h0, (mz_li w' S0 q f t).en, (mz_li w' S0 q f t).op, (mz_li w' S0 q f t).dn, (mz_li w' S0 q f t).de⟩, hb', hr', hf'⟩
    · rw [pM_9 s (show (mz q f t).con.q = 9 from h)]
      refine (mget_en (mz q f t) (mz_len q f t) h w F g gm s hr hb hgm hF).mono ?_
      rintro e w' ⟨rfl, hb', hr', hf'⟩
      exact ⟨{mz q f t with i := (pI s).1, en := (pEn (pI s).2).1}, rfl, rfl, ⟨rfl, rfl, rfl, rfl, rfl, (pEn_ok _).h, rfl⟩, fun S0 _ => ⟨(mz_li w' S0 q f t).cm, (mz_li w' S0 q f t).st, (mz_li w' S0 q f t).ce, (mz_li w' S0 q f t).ak, (mz_li w' S0 q f t).pr, (mz_li w' S0 q f t).po, (mz_li w' S0 q f t).vt, pEn_ok _, (mz_li w' S0 q f t).op, (mz_li w' S0 q f t).dn, (mz_li w' S0 q f t).de⟩, hb', hr', hf'⟩
    · rw [pM_10 s (show (mz q f t).con.q = 10 from h)]
      refine (mget_op (mz q f t) (mz_len q f t) h w F g gm s hr hb hgm hF).mono ?_
      rintro e w' ⟨v, rfl, hc, hok, hb', hr', hf'⟩
      exact ⟨{mz q f t with op := v}, rfl, by rw [← hc]; rfl, ⟨rfl, rfl, rfl, rfl, rfl, rfl, (hok [] (by simp)).h⟩, fun S0 h0 => ⟨(mz_li w' S0 q f t).cm, (mz_li w' S0 q f t).st, (mz_li w' S0 q f t).ce, (mz_li w' S0 q f t).ak, (mz_li w' S0 q f t).pr, (mz_li w' S0 q f t).po, (mz_li w' S0 q f t).vt, (mz_li w' S0 q f t).en, hok S0 h0, (mz_li w' S0 q f t).dn, (mz_li w' S0 q f t).de⟩, hb', hr', hf'⟩
    · rw [pM_11 s (show (mz q f t).con.q = 11 from h)]
      refine (mget_i (mz q f t) (mz_len q f t) h w F g gm s hr hb hgm hF).mono ?_
      rintro e w' ⟨rfl, hb', hr', hf'⟩
      exact ⟨{mz q f t with i := (pI s).1}, rfl, rfl, ⟨rfl, rfl, rfl, rfl, rfl, rfl, rfl⟩, fun S0 _ => ⟨(mz_li w' S0 q f t).cm, (mz_li w' S0 q f t).st, (mz_li w' S0 q f t).ce, (mz_li w' S0 q f t).ak, (mz_li w' S0 q f t).pr, (mz_li w' S0 q f t).po, (mz_li w' S0 q f t).vt, (mz_li w' S0 q f t).en, (mz_li w' S0 q f t).op, (mz_li w' S0 q f t).dn, (mz_li w' S0 q f t).de⟩, hb', hr', hf'⟩
    · rw [pM_12 s (show (mz q f t).con.q = 12 from h)]
      refine (mget_dn (mz q f t) (mz_len q f t) h w F g gm s hr hb hgm hF).mono ?_
      rintro e w' ⟨v, rfl, hc, hok, hb', hr', hf'⟩
      exact ⟨{mz q f t with dn := v}, rfl, by rw [← hc]; rfl, ⟨rfl, rfl, rfl, rfl, rfl, rfl, rfl⟩, fun S0 h0 => ⟨(mz_li w' S0 q f t).cm, (mz_li w' S0 q f t).st, (mz_li w' S0 q f t).ce, (mz_li w' S0 q f t).ak, (mz_li w' S0 q f t).pr, (mz_li w' S0 q f t).po, (mz_li w' S0 q f t).vt, (mz_li w' S0 q f t).en, (mz_li w' S0 q f t).op, hok S0 h0, (mz_li w' S0 q f t).de⟩, hb', hr', hf'⟩
    · rw [pM_13 s (show (mz q f t).con.q = 13 from h)]
      refine (mget_reply (mz q f t) (mz_len q f t) h w F g gm s hr hb hgm hF).mono ?_
      rintro e w' ⟨rfl, hb', hr', hf'⟩
      exact ⟨{mz q f t with i := (pI s).1, rp := (pR (pI s).2).1}, rfl, rfl, ⟨rfl, rfl, rfl, rfl, rfl, rfl, rfl⟩, fun S0 _ => ⟨(mz_li w' S0 q f t).cm, (mz_li w' S0 q f t).st, (mz_li w' S0 q f t).ce, (mz_li w' S0 q f t).ak, (mz_li w' S0 q f t).pr, (mz_li w' S0 q f t).po, (mz_li w' S0 q f t).vt, (mz_li w' S0 q f t).en, (mz_li w' S0 q f t).op, (mz_li w' S0 q f t).dn, (mz_li w' S0 q f t).de⟩, hb', hr', hf'⟩
    · rw [pM_14 s (show (mz q f t).con.q = 14 from h)]
      refine (mget_de (mz q f t) (mz_len q f t) h w F g gm s hr hb hgm hF).mono ?_
      rintro e w' ⟨v, rfl, hc, hok, hb', hr', hf'⟩
      exact ⟨{mz q f t with de := v}, rfl, by rw [← hc]; rfl, ⟨rfl, rfl, rfl, rfl, rfl, rfl, rfl⟩, fun S0 h0 => ⟨(mz_li w' S0 q f t).cm, (mz_li w' S0 q f t).st, (mz_li w' S0 q f t).ce, (mz_li w' S0 q f t).ak, (mz_li w' S0 q f t).pr, (mz_li w' S0 q f t).po, (mz_li w' S0 q f t).vt, (mz_li w' S0 q f t).en, (mz_li w' S0 q f t).op, (mz_li w' S0 q f t).dn, hok S0 h0⟩, hb', hr', hf'⟩
  · rw [decide_eq_false hm, pM_none s (show ¬ (1 ≤ (mz q f t).con.q ∧ (mz q f t).con.q ≤ 14) from hm)]
    refine (mget_none (mz q f t) hm w g gm hb).mono ?_
    rintro e w' ⟨rfl, rfl⟩
    exact ⟨mz q f t, rfl, rfl, mz_len q f t, fun S0 _ => mz_li w S0 q f t, hb, hr, Fr.refl _ _⟩
theorem Wmg.one (x : Wmg) : ∀ v ∈ x.cells, v.oneCell' = true := by
  intro v hv
  simp only [Wmg.cells, List.mem_append, List.mem_singleton] at hv
  rcases hv with rfl | rfl | rfl | hv | hv | hv | hv | rfl | rfl | rfl | hv | hv | hv | rfl | hv | hv | hv | rfl | hv
  · rfl
  · rfl
  · rfl
  · exact Wcm.one _ v hv
  · exact Wst.one _ v hv
  · exact Wce.one _ v hv
  · exact Wst.one _ v hv
  · rfl
  · rfl
  · rfl
  · exact Wpr.one _ v hv
  · exact Wpo.one _ v hv
  · exact Wvt.one _ v hv
  · rfl
  · exact Wen.one _ v hv
  · exact Wop.one _ v hv
  · exact Wdn.one _ v hv
  · rfl
  · exact Wdc.one _ v hv
end Go.Proofs.Ytniaacjfkaakjaa

namespace Go.Proofs.Ytniaacjfkaakjaa
open Go.RowKit
set_option maxRecDepth 100000
theorem results_row_tmp {P : Program} {fn : Func} {p u : Tmp} {ty : TypeId} (h : fn.results = #[.cell p ty, .tmp u]) (tmps : Array Value) (w : World) (g : Nat) (t : TypeId) (cs : Array Value) (fr : Nat × Nat) (d : TypeDesc) (b : Value)
    (hp : tmps.getD p undef = .pointer (some ⟨g, 0, none⟩)) (hb : tmps.getD u undef = b) (hg : w.heap[g]? = some (.cells cs t fr))
    (hu : P.underlying ty = some d) (hd : (match d with | .struct _ | .array _ _ => true | _ => false) = true) (hi : (P.info? ty).map (·.size) = some cs.size) :
    (results fn tmps).run P w = .ok (.tuple #[.agg cs, b]) w := by
  rw [results_cell_tmp h, hp, hb]
  simp [asAddr, Result.andThen, run_loadVar_row w g t ty cs fr d hg hu hd hi]
/-- what Unpack tells of bytes -/
def pU (l : List UInt8) : Cmg × Bool :=
  if 1 ≤ (pI (l, false)).1 ∧ (pI (l, false)).1 ≤ 14 ∧ (pM (mz (pI (l, false)).1 (pI (pI (l, false)).2).1 (pI (pI (pI (l, false)).2).2).1).con (pI (pI (pI (l, false)).2).2).2).2.2 = false ∧ (pM (mz (pI (l, false)).1 (pI (pI (l, false)).2).1 (pI (pI (pI (l, false)).2).2).1).con (pI (pI (pI (l, false)).2).2).2).2.1 = [] then ((pM (mz (pI (l, false)).1 (pI (pI (l, false)).2).1 (pI (pI (pI (l, false)).2).2).1).con (pI (pI (pI (l, false)).2).2).2).1, true) else ((mz 0 0 0).con, false)
theorem Wmg.Li.keep {w W : World} {S S' : List Nat} {x : Wmg} (h : x.Li w S) (hf : Fr S w W) (hs : ∀ k ∈ S', k < w.heap.size → k ∈ S) : x.Li W S' :=
  ⟨h.cm, h.st, h.ce.keep hf hs, h.ak, h.pr.keep hf hs, h.po.keep hf hs, h.vt, h.en, h.op.keep hf hs, h.dn, h.de.keep hf hs⟩
theorem built_mg0 : Try.prog.built 61 [] = some (mz 0 0 0).cells.toArray := by kernel_rfl
theorem built_mg3 (q f t : Int) : Try.prog.built 61 [(0, .int .i64 q), (1, .int .i64 f), (2, .int .i64 t)] = some (mz q f t).cells.toArray := by kernel_rfl
theorem msg_size {x : Wmg} (hx : x.Len) : (Try.prog.info? 61).map (·.size) = some x.cells.toArray.size := by rw [List.size_toArray, Wmg.lenz hx]; kernel_rfl
set_option maxHeartbeats 4000000 in
theorem munpack_any (A : Option Addr) (n c : Nat) (l : List UInt8) (w : World) (hy : By w A n l) (hn : n ≤ 65536) :
    Calls Try.prog 11 #[.slice A n c] w fun e w' => ∃ y : Wmg, e = .returned (.tuple #[.agg y.cells.toArray, .bool (pU l).2]) ∧ y.con = (pU l).1 ∧ y.Len ∧ (∀ S0 : List Nat, (∀ k ∈ S0, k < w.heap.size) → y.Li w' S0) ∧ Fr [] w w' := by
  obtain ⟨Z, hZ⟩ : ∃ Z, Z = (mz 0 0 0).cells.toArray := ⟨_, rfl⟩
  obtain ⟨wa, hwa⟩ : ∃ wa, wa = w.alloc (Obj.cells Z 61) := ⟨_, rfl⟩
  have hf0 : Fr [] w wa := by rw [hwa]; exact (Fr.refl [] w).alloc _
  have HBZ : Hid (Blk wa w.heap.size 61 Z) := Lib.hid (by rw [hwa]; exact Blk.new _ _ _)
  have HWS : Hid (wa.heap.size = w.heap.size + 1) := Lib.hid (by rw [hwa]; simp)
  have HY := Lib.hid (hy.keep hf0 (by simp))
  have HN := Lib.hid hn
  have HLN := Lib.hid hy.1
  have HF0 := Lib.hid hf0
  have HWA := Lib.hid hwa
  have HZ := Lib.hid hZ
  have HZT : Hid ((Try.prog.info? 61).map (·.size) = some Z.size) := Lib.hid (by rw [hZ]; exact msg_size (mz_len 0 0 0))
  have HZO : Hid (Z.all (·.oneCell') = true) := Lib.hid (by rw [hZ]; exact all_oneCell_toArray (Wmg.one _))
  have HB0 : Hid (Try.prog.built 61 [] = some Z) := Lib.hid (by rw [hZ]; exact built_mg0)
  have hbig : ¬ (65536 < (n : Int)) := by omega
  have hbig2 : ¬ (65536 < n) := by omega
  have HPU : Hid (pU l = if 1 ≤ (pI (l, false)).1 ∧ (pI (l, false)).1 ≤ 14 ∧ (pM (mz (pI (l, false)).1 (pI (pI (l, false)).2).1 (pI (pI (pI (l, false)).2).2).1).con (pI (pI (pI (l, false)).2).2).2).2.2 = false ∧ (pM (mz (pI (l, false)).1 (pI (pI (l, false)).2).1 (pI (pI (pI (l, false)).2).2).1).con (pI (pI (pI (l, false)).2).2).2).2.1 = [] then ((pM (mz (pI (l, false)).1 (pI (pI (l, false)).2).1 (pI (pI (pI (l, false)).2).2).1).con (pI (pI (pI (l, false)).2).2).2).1, true) else ((mz 0 0 0).con, false)) := Lib.hid rfl
  clear hwa hf0 hy hn hZ
  go_enter Try.func11, Try.ntmps11
  go_upto_region 1 with (fail)
  change Code.wp _ _ _ _ (w.alloc (Obj.cells (mz 0 0 0).cells.toArray 61))
  rw [← HZ.out, ← HWA.out]
  go_wp2_with fail
  refine (newReader_any A n c l wa HY.out (by have := HN.out; omega)).mono ?_
  rintro e_ w1 ⟨g, F, rfl, h1, h2, h3, h4⟩
  have HR1 : Hid (Rs w1 F g (l, false)) := Lib.hid ⟨h1, by have := HLN.out; have := HN.out; simp only; omega, fun k hk => (h4 k hk).2⟩
  have HG : Hid (w.heap.size < g ∧ g < w1.heap.size) := Lib.hid ⟨by have := HWS.out; omega, h1.lt⟩
  have HNF : Hid (∀ k ∈ F, w.heap.size < k ∧ k < w1.heap.size) := Lib.hid (fun k hk => by have h := h4 k hk; have := HWS.out; omega)
  have HF1 : Hid (Fr [] w w1) := Lib.hid (HF0.out.and h2 (by simp))
  have HB1 := Lib.hid (HBZ.out.keep h2 (by simp))
  clear h1 h2 h3 h4 hbig hbig2
  go_wp2_with fail
  refine (getInt_any HR1.out).mono ?_
  rintro e_ w2 ⟨rfl, h1, h2⟩
  have HR2 := Lib.hid h1
  have HF2 : Hid (Fr [g] w1 w2) := Lib.hid h2
  clear h1 h2
  go_wp2_with fail
  refine (getInt_any HR2.out).mono ?_
  rintro e_ w3 ⟨rfl, h1, h2⟩
  have HR3 := Lib.hid h1
  have HF3 : Hid (Fr [g] w1 w3) := Lib.hid (HF2.out.trans h2 (fun x hx _ => hx))
  clear h1 h2
  go_wp2_with fail
  refine (getInt_any HR3.out).mono ?_
  rintro e_ w4 ⟨rfl, h1, h2⟩
  have HR4 := Lib.hid h1
  have HF4 : Hid (Fr [g] w1 w4) := Lib.hid (HF3.out.trans h2 (fun x hx _ => hx))
  clear h1 h2
  have HB4 := Lib.hid (HB1.out.keep HF4.out (by have := HG.out; simp; omega))
  have HS4 : Hid (w1.heap.size ≤ w4.heap.size) := Lib.hid HF4.out.size
  have HBN : Hid (Blk (w4.alloc (Obj.cells (mz 0 0 0).cells.toArray 61)) w4.heap.size 61 Z) := Lib.hid (by rw [HZ.out]; exact Blk.new _ _ _)
  obtain ⟨V, hV⟩ : ∃ V, V = (mz (pI (l, false)).1 (pI (pI (l, false)).2).1 (pI (pI (pI (l, false)).2).2).1).cells.toArray := ⟨_, rfl⟩
  have HBU : Hid (Try.prog.built 61 [(0, .int .i64 (pI (l, false)).1), (1, .int .i64 (pI (pI (l, false)).2).1), (2, .int .i64 (pI (pI (pI (l, false)).2).2).1)] = some V) := Lib.hid (by rw [hV]; exact built_mg3 _ _ _)
  have HVT : Hid ((Try.prog.info? 61).map (·.size) = some V.size) := Lib.hid (by rw [hV]; exact msg_size (mz_len _ _ _))
  have HVO : Hid (V.all (·.oneCell') = true) := Lib.hid (by rw [hV]; exact all_oneCell_toArray (Wmg.one _))
  have HVZ : Hid (Z.size = V.size) := Lib.hid (by rw [hV, HZ.out, List.size_toArray, List.size_toArray, Wmg.lenz (mz_len _ _ _), Wmg.lenz (mz_len _ _ _)])
  have HV := Lib.hid hV
  clear hV
  go_wp2_with (first
    | (refine wpList_builtg rfl 61 _ rfl _ _ HBU.out rfl ?_)
    | (refine wpList_store_blk rfl 61 _ _ rfl w4.heap.size V rfl rfl 61 Z HBN.out HVT.out HVZ.out HVO.out ?_
       intro w5 hb5 hf5
       have HB5 := Lib.hid hb5
       have HF5 := Lib.hid ((((Fr.refl [w4.heap.size] w4).alloc _)).trans hf5 (fun x hx _ => hx))
       clear hb5 hf5))
  have HR5 := Lib.hid (HR4.out.fr HF5.out (by have := HG.out; have := HS4.out; simp; omega) (fun k hk hm => by have := HNF.out k hk; have := HS4.out; simp at hm; omega))
  have HBZ5 := Lib.hid (HB4.out.keep HF5.out (by have := HG.out; have := HS4.out; simp; omega))
  refine (mget_any (pI (l, false)).1 (pI (pI (l, false)).2).1 (pI (pI (pI (l, false)).2).2).1 w5 F g w4.heap.size (pI (pI (pI (l, false)).2).2).2 HR5.out (by rw [← HV.out]; exact HB5.out) (by have := HG.out; have := HS4.out; omega) (fun hm => by have := HNF.out _ hm; have := HS4.out; omega)).mono ?_
  rintro e_ w6 ⟨y, rfl, hc, hln, hli, hb6, hr6, hf6⟩
  have HCY := Lib.hid hc
  have HLY := Lib.hid hln
  have HLI := Lib.hid hli
  have HB6 := Lib.hid hb6
  have HFG6 : Hid (Fr [g, w4.heap.size] w5 w6) := Lib.hid hf6
  have HBZ6 := Lib.hid (HBZ5.out.keep hf6 (by have := HG.out; have := HS4.out; simp; omega))
  have HFF6 : Hid (Fr [] w w6) := Lib.hid ((HF1.out.trans (((HF4.out.mono (T := [g, w4.heap.size]) (fun q hq _ => by simp at hq; simp [hq])).trans HF5.out (fun q hq _ => by simp at hq; simp [hq])).trans hf6 (fun q hq _ => hq)) (fun q hq hl => by have := HG.out; have := HS4.out; have := HF1.out.size; simp at hq; omega)))
  obtain ⟨R, bad⟩ : Ps := ⟨[], false⟩
  clear R bad
  obtain ⟨s6, hs6⟩ : ∃ s6, s6 = (pM (mz (pI (l, false)).1 (pI (pI (l, false)).2).1 (pI (pI (pI (l, false)).2).2).1).con (pI (pI (pI (l, false)).2).2).2).2 := ⟨_, rfl⟩
  rw [← hs6] at hr6
  rw [← hs6] at HPU
  clear hs6
  obtain ⟨R, bad⟩ := s6
  have HR6 := Lib.hid hr6
  clear hc hln hli hb6 hr6 hf6
  obtain ⟨m, hm_⟩ : ∃ m, m = (decide (1 ≤ (pI (l, false)).1 ∧ (pI (l, false)).1 ≤ 14)) := ⟨_, rfl⟩
  rw [← hm_]
  have HM := Lib.hid hm_
  clear hm_
  cases m with
  | false =>
    go_wp2_with (first
      | (refine wpList_builtg rfl 61 _ rfl _ _ HB0.out rfl ?_)
      | (refine wpList_store_blk rfl 61 _ _ rfl w.heap.size Z rfl rfl 61 Z HBZ6.out HZT.out rfl HZO.out ?_
         intro w9 hb9 hf9
         have HB9 := Lib.hid hb9
         have HF9 := Lib.hid hf9
         clear hb9 hf9))
    have HPF : Hid (pU l = ((mz 0 0 0).con, false)) := Lib.hid (by rw [HPU.out]; exact if_neg (by intro h; have := HM.out; have h2 := (decide_eq_false_iff_not.1 this.symm); exact h2 ⟨h.1, h.2.1⟩))
    refine bodyPost_ret (v := .tuple #[.agg Z, .bool false]) (results_row_tmp Try.results11 _ _ w.heap.size 61 Z _ _ (.bool false) rfl rfl HB9.out Try.underlying61 rfl HZT.out) rfl ⟨mz 0 0 0, by rw [HPF.out, HZ.out], by rw [HPF.out], mz_len 0 0 0, fun S0 _ => mz_li w9 S0 0 0 0, ?_⟩
    exact HFF6.out.trans HF9.out (fun q hq hl => by simp at hq; omega)
  | true =>
    go_wp2_with fail
    refine (ok_any w6 g F R bad HR6.out.rd).mono ?_
    rintro e_ w7 ⟨rfl, rfl⟩
    cases bad with
    | true =>
      go_wp2_with (first
        | (refine wpList_builtg rfl 61 _ rfl _ _ HB0.out rfl ?_)
        | (refine wpList_store_blk rfl 61 _ _ rfl w.heap.size Z rfl rfl 61 Z HBZ6.out HZT.out rfl HZO.out ?_
           intro w9 hb9 hf9
           have HB9 := Lib.hid hb9
           have HF9 := Lib.hid hf9
           clear hb9 hf9))
      have HPF : Hid (pU l = ((mz 0 0 0).con, false)) := Lib.hid (by rw [HPU.out]; exact if_neg (by intro h; exact absurd h.2.2.1 (by simp)))
      refine bodyPost_ret (v := .tuple #[.agg Z, .bool false]) (results_row_tmp Try.results11 _ _ w.heap.size 61 Z _ _ (.bool false) rfl rfl HB9.out Try.underlying61 rfl HZT.out) rfl ⟨mz 0 0 0, by rw [HPF.out, HZ.out], by rw [HPF.out], mz_len 0 0 0, fun S0 _ => mz_li w9 S0 0 0 0, ?_⟩
      exact HFF6.out.trans HF9.out (fun q hq hl => by simp at hq; omega)
    | false =>
      go_wp2_with fail
      refine (left_any w6 g F R false HR6.out.rd).mono ?_
      rintro e_ w7 ⟨rfl, rfl⟩
      cases R with
      | cons a R =>
        have hpos : (0 : Int) < ((a :: R).length : Int) := by simp
        go_wp2_with (first
          | (refine wpList_builtg rfl 61 _ rfl _ _ HB0.out rfl ?_)
          | (refine wpList_store_blk rfl 61 _ _ rfl w.heap.size Z rfl rfl 61 Z HBZ6.out HZT.out rfl HZO.out ?_
             intro w9 hb9 hf9
             have HB9 := Lib.hid hb9
             have HF9 := Lib.hid hf9
             clear hb9 hf9))
        have HPF : Hid (pU l = ((mz 0 0 0).con, false)) := Lib.hid (by rw [HPU.out]; exact if_neg (by intro h; exact absurd h.2.2.2 (by simp)))
        refine bodyPost_ret (v := .tuple #[.agg Z, .bool false]) (results_row_tmp Try.results11 _ _ w.heap.size 61 Z _ _ (.bool false) rfl rfl HB9.out Try.underlying61 rfl HZT.out) rfl ⟨mz 0 0 0, by rw [HPF.out, HZ.out], by rw [HPF.out], mz_len 0 0 0, fun S0 _ => mz_li w9 S0 0 0 0, ?_⟩
        exact HFF6.out.trans HF9.out (fun q hq hl => by simp at hq; omega)
      | nil =>
        obtain ⟨Y, hY⟩ : ∃ Y : List Value, Y = y.cells := ⟨_, rfl⟩
        have HYL : Hid (Y.length = 295) := Lib.hid (by rw [hY]; exact Wmg.lenz HLY.out)
        have HYT : Hid ((Try.prog.info? 61).map (·.size) = some Y.toArray.size) := Lib.hid (by rw [hY]; exact msg_size HLY.out)
        have HYO : Hid (Y.toArray.all (·.oneCell') = true) := Lib.hid (by rw [hY]; exact all_oneCell_toArray (Wmg.one _))
        have HYZ : Hid (Z.size = Y.toArray.size) := Lib.hid (by rw [hY, HZ.out, List.size_toArray, List.size_toArray, Wmg.lenz (mz_len _ _ _), Wmg.lenz HLY.out])
        have HYB : Hid (Blk w6 w4.heap.size 61 Y.toArray) := Lib.hid (by rw [hY]; exact HB6.out)
        have HYY := Lib.hid hY
        clear hY
        have hz0 : ¬ ((0 : Int) < ((([] : List UInt8).length : Nat) : Int)) := by simp
        go_wp2_with (first
          | (refine wpList_load_row rfl 61 _ rfl w4.heap.size rfl 61 Y.toArray _ _ HYB.out Try.underlying61 rfl HYT.out ?_)
          | (refine wpList_store_blk rfl 61 _ _ rfl w.heap.size Y.toArray rfl rfl 61 Z HBZ6.out HYT.out HYZ.out HYO.out ?_
             intro w9 hb9 hf9
             have HB9 := Lib.hid hb9
             have HF9 := Lib.hid hf9
             clear hb9 hf9))
        have HPF : Hid (pU l = ((pM (mz (pI (l, false)).1 (pI (pI (l, false)).2).1 (pI (pI (pI (l, false)).2).2).1).con (pI (pI (pI (l, false)).2).2).2).1, true)) := Lib.hid (by rw [HPU.out]; exact if_pos (by have h := of_decide_eq_true HM.out.symm; exact ⟨h.1, h.2, by first | rfl | trivial, by first | rfl | trivial⟩))
        refine bodyPost_ret (v := .tuple #[.agg Y.toArray, .bool true]) (results_row_tmp Try.results11 _ _ w.heap.size 61 Y.toArray _ _ (.bool true) rfl rfl HB9.out Try.underlying61 rfl HYT.out) rfl ⟨y, by rw [HPF.out, HYY.out], by rw [HPF.out]; exact HCY.out, HLY.out, fun S0 h0 => ?_, ?_⟩
        · exact (HLI.out (w.heap.size :: S0) (fun q hq => by rcases List.mem_cons.1 hq with rfl | hq; exact HBZ5.out.lt; exact Nat.lt_trans (h0 q hq) HBZ5.out.lt)).keep (HF9.out.mono (fun q hq _ => by simp at hq; simp [hq])) (fun q hq _ => by simp [hq])
        · exact HFF6.out.trans HF9.out (fun q hq hl => by simp at hq; omega)
end Go.Proofs.Ytniaacjfkaakjaa

namespace Go.Proofs.Ytniaacjfkaakjaa
open Go.RowKit
set_option maxRecDepth 100000
theorem pU_nil : (pU []).2 = false := by decide
theorem mz_ok (w : World) (S : List Nat) (q f t : Int) (hq : i64In q) (hf : i64In f) (ht : i64In t) : (mz q f t).Ok w S := by
  have b0 : mb0.Ok w S := ⟨zero_in, (show 0 < 18446744073709551616 by decide), Lst.nil _, Nat.zero_le _, fun h => absurd h (show ¬ 0 < 0 by decide), Lst.nil _, Nat.zero_le _, fun h => absurd h (show ¬ 0 < 0 by decide), Lst.nil _, Nat.zero_le _, fun h => absurd h (show ¬ 0 < 0 by decide)⟩
  exact ⟨hq, hf, ht, (mz_li w S 0 0 0).cm, (mz_li w S 0 0 0).st, ⟨(mz_li w S 0 0 0).cm, Lst.nil _, Nat.zero_le _, fun h => absurd h (show ¬ 0 < 0 by decide)⟩, (mz_li w S 0 0 0).ak, zero_in, zero_in, (show 0 < 18446744073709551616 by decide),
    ⟨zero_in, zero_in, (show 0 < 18446744073709551616 by decide), Lst.nil _, Nat.zero_le _, fun h => absurd h (show ¬ 0 < 0 by decide), zero_in, zero_in⟩, ⟨zero_in, zero_in, zero_in, zero_in, b0, zero_in, zero_in⟩, (mz_li w S 0 0 0).vt, zero_in, (mz_li w S 0 0 0).en, (mz_li w S 0 0 0).op, (mz_li w S 0 0 0).dn, (show 0 ≤ 260 by decide),
    ⟨zero_in, zero_in, b0, Lst.nil _, Nat.zero_le _, fun h => absurd h (show ¬ 0 < 0 by decide)⟩⟩
theorem built_mgk (q : Int) : Try.prog.built 61 [(0, .int .i64 q)] = some (mz q 0 0).cells.toArray := by kernel_rfl
theorem mz_bytes_pos (q f t : Int) : 0 < (mz q f t).bytes.length := by
  have h : 0 < (encI (mz q f t).q).length := by unfold encI; (first | exact enc_pos _ | (split <;> first | exact enc_pos _ | simp))
  simp only [Wmg.bytes, List.length_append]
  omega
set_option maxHeartbeats 4000000 in
theorem mwakes_any (w : World) : Calls Try.prog 10 #[] w fun e w' => e = .returned (.bool true) ∧ Fr [] w w' := by
  go_enter Try.func10, Try.ntmps10
  go_wp2_with fail
  refine (munpack_any none 0 0 [] w (By.nil w none) (by omega)).mono ?_
  rintro e_ w1 ⟨y, rfl, _, hln, _, hf1⟩
  rw [pU_nil]
  have HF1 := Lib.hid hf1
  have HLY := Lib.hid hln
  obtain ⟨Y, hY⟩ : ∃ Y : List Value, Y = y.cells := ⟨_, rfl⟩
  have HYT : Hid ((Try.prog.info? 61).map (·.size) = some Y.toArray.size) := Lib.hid (by rw [hY]; exact msg_size hln)
  have HYO : Hid (Y.toArray.all (·.oneCell') = true) := Lib.hid (by rw [hY]; exact all_oneCell_toArray (Wmg.one _))
  obtain ⟨Z, hZ⟩ : ∃ Z, Z = (mz 0 0 0).cells.toArray := ⟨_, rfl⟩
  have HYZ : Hid (Z.size = Y.toArray.size) := Lib.hid (by rw [hY, hZ, List.size_toArray, List.size_toArray, Wmg.lenz (mz_len _ _ _), Wmg.lenz hln])
  have HBN : Hid (Blk (w1.alloc (Obj.cells (mz 0 0 0).cells.toArray 61)) w1.heap.size 61 Z) := Lib.hid (by rw [hZ]; exact Blk.new _ _ _)
  rw [← hY]
  obtain ⟨C, hC⟩ : ∃ C : List Value, (mz 11 0 0).cells = C := ⟨_, rfl⟩
  have HBU : Hid (Try.prog.built 61 [(0, .int .i64 11)] = some C.toArray) := Lib.hid (by rw [← hC]; exact built_mgk 11)
  have HC := Lib.hid hC
  clear hf1 hln hY hZ hC
  go_wp2_with (first
    | (refine wpList_builtg rfl 61 _ rfl _ _ HBU.out rfl ?_)
    | (refine wpList_store_blk rfl 61 _ _ rfl w1.heap.size Y.toArray rfl rfl 61 Z HBN.out HYT.out HYZ.out HYO.out ?_
       intro w2 hb2 hf2
       have HF2 := Lib.hid ((((Fr.refl [w1.heap.size] w1).alloc _)).trans hf2 (fun x hx _ => hx))
       clear hb2 hf2))
  refine (mpack_any (mz 11 0 0) w2 (mz_ok w2 [] 11 0 0 (by unfold i64In; omega) zero_in zero_in) C HC.out).mono ?_
  intro e_ w3 hp
  unfold PackPost at hp
  rw [if_pos (show 1 ≤ (mz 11 0 0).q ∧ (mz 11 0 0).q ≤ 14 from (by decide : 1 ≤ (11 : Int) ∧ (11 : Int) ≤ 14))] at hp
  obtain ⟨A3, c3, rfl, hn3⟩ := hp
  have HF3 : Hid (Fr [] w w3) := Lib.hid ((HF1.out.trans (HF2.out) (fun q hq hl => by have := HF1.out.size; simp at hq; omega)).and hn3.2.1 (by simp))
  have hpos : (0 : Int) < (((mz 11 0 0).bytes.length : Nat) : Int) := by have := mz_bytes_pos 11 0 0; omega
  have hpos2 := mz_bytes_pos 11 0 0
  clear hn3
  generalize (mz 11 0 0).bytes.length = n at *
  go_wp2_with fail
  go_ret
  exact ⟨rfl, HF3.out⟩
end Go.Proofs.Ytniaacjfkaakjaa

namespace Go.Proofs.Ytniaacjfkaakjaa
open Go.RowKit
set_option maxRecDepth 100000
def All2 {α β : Type} (R : α → β → Prop) : List α → List β → Prop
  | [], [] => True
  | a :: xs, b :: ys => R a b ∧ All2 R xs ys
  | _, _ => False
theorem forall2_snoc {α β : Type} {R : α → β → Prop} : ∀ {xs : List α} {ys : List β} {a : α} {b : β}, All2 R xs ys → R a b → All2 R (xs ++ [a]) (ys ++ [b])
  | [], [], _, _, _, h => ⟨h, trivial⟩
  | [], _ :: _, _, _, h, _ => h.elim
  | _ :: _, [], _, _, h, _ => h.elim
  | _ :: _, _ :: _, _, _, h, k => ⟨h.1, forall2_snoc h.2 k⟩
theorem All2.len {α β : Type} {R : α → β → Prop} : ∀ {xs : List α} {ys : List β}, All2 R xs ys → xs.length = ys.length
  | [], [], _ => rfl
  | [], _ :: _, h => h.elim
  | _ :: _, [], h => h.elim
  | _ :: _, _ :: _, h => by simp [All2.len h.2]
def nceR (x y : Wce) : Prop := y.k = ncm x.k ∧ y.l = x.l.map nst
def nprR (x y : Wpr) : Prop := y.r = upI x.r ∧ y.e = upI x.e ∧ y.t = x.t ∧ y.b = upI x.b ∧ y.m = upI x.m ∧ All2 nceR x.l y.l
theorem blk_pr1 {w : World} {g : Nat} {t : TypeId} {x : Wpr} {r : Int} (hb : Blk w g t x.cells.toArray) : Blk (w.setCells g 0 [.int .i64 r]) g t (Wpr.cells ⟨r, x.e, x.t, x.A, x.n, x.d, x.l, x.b, x.m⟩).toArray :=
  Blk.mid_at [.int .i64 r] [.int .i64 x.r] [] [.int .i64 x.e, .int .u64 (x.t : Int), .slice x.A x.n x.d, .int .i64 x.b, .int .i64 x.m] 0 rfl rfl _ _ rfl rfl hb
theorem blk_pr2 {w : World} {g : Nat} {t : TypeId} {x : Wpr} {e : Int} (hb : Blk w g t x.cells.toArray) : Blk (w.setCells g 1 [.int .i64 e]) g t (Wpr.cells ⟨x.r, e, x.t, x.A, x.n, x.d, x.l, x.b, x.m⟩).toArray :=
  Blk.mid_at [.int .i64 e] [.int .i64 x.e] [.int .i64 x.r] [.int .u64 (x.t : Int), .slice x.A x.n x.d, .int .i64 x.b, .int .i64 x.m] 1 rfl rfl _ _ rfl rfl hb
theorem blk_pr3 {w : World} {g : Nat} {t : TypeId} {x : Wpr} {b m : Int} (hb : Blk w g t x.cells.toArray) : Blk (w.setCells g 4 [.int .i64 b, .int .i64 m]) g t (Wpr.cells ⟨x.r, x.e, x.t, x.A, x.n, x.d, x.l, b, m⟩).toArray :=
  Blk.mid_at [.int .i64 b, .int .i64 m] [.int .i64 x.b, .int .i64 x.m] [.int .i64 x.r, .int .i64 x.e, .int .u64 (x.t : Int), .slice x.A x.n x.d] [] 4 rfl rfl _ _ rfl rfl hb

end Go.Proofs.Ytniaacjfkaakjaa

namespace Go.Proofs.Ytniaacjfkaakjaa
open Go.RowKit
set_option maxRecDepth 100000
def ndn (x : Wdn) : Wdn := ⟨upI x.r, upI x.i, upI x.b, upI x.m⟩
theorem ndn_ok (x : Wdn) : (ndn x).Ok := ⟨upI_in _, upI_in _, upI_in _, upI_in _⟩
theorem ndn_idem (x : Wdn) : ndn (ndn x) = ndn x := by simp [ndn, upI_idem]
def nopR (x y : Wop) : Prop := y.i = upI x.i ∧ y.p = x.p.take 256 ∧ y.h = x.h
def ntbR (x y : Wtb) : Prop := y.i = upI x.i ∧ y.l = x.l.map ndn
def nbaR (x y : Wba) : Prop := y.e = upI x.e ∧ y.t = x.t ∧ All2 nprR x.l y.l ∧ All2 nopR x.l2 y.l2 ∧ All2 ntbR x.l3 y.l3
theorem own_cap {w : World} {base : Nat} {e : TypeId} {k n c : Nat} {A : Option Addr} {xs : List Value} (h : w.ownsRow base e k (.slice A n c) n xs) : n ≤ c := by
  rcases h.2 with ⟨h1, h2⟩ | ⟨g, cap, cur, hv, _, _, hc, _⟩
  · omega
  · injection hv; omega
theorem row_dny : RowTy Try.prog 56 4 := ⟨by kernel_rfl, by kernel_rfl⟩
theorem row_opg : RowTy Try.prog 54 34 := ⟨by kernel_rfl, by kernel_rfl⟩
theorem row_tmg : RowTy Try.prog 135 2 := ⟨by kernel_rfl, by kernel_rfl⟩
theorem built_dn (r i b m : Int) : Try.prog.built 56 [(0, .int .i64 r), (1, .int .i64 i), (2, .agg #[.int .i64 b, .int .i64 m])] = some (Wdn.cells ⟨r, i, b, m⟩).toArray := by kernel_rfl
theorem blk_op1 {w : World} {g : Nat} {t : TypeId} {x : Wop} {i : Int} (hb : Blk w g t x.cells.toArray) : Blk (w.setCells g 0 [.int .i64 i]) g t (Wop.cells ⟨i, x.A, x.n, x.d, x.p, x.h⟩).toArray :=
  Blk.mid_at [.int .i64 i] [.int .i64 x.i] [] ([.slice x.A x.n x.d] ++ (x.h.map by8 ++ [])) 0 rfl rfl _ _ rfl rfl hb
theorem blk_op2 {w : World} {g : Nat} {t : TypeId} {x : Wop} {A : Option Addr} {n d : Nat} (p : List UInt8) (hb : Blk w g t x.cells.toArray) : Blk (w.setCells g 1 [.slice A n d]) g t (Wop.cells ⟨x.i, A, n, d, p, x.h⟩).toArray :=
  Blk.mid_at [.slice A n d] [.slice x.A x.n x.d] [.int .i64 x.i] (x.h.map by8 ++ []) 1 rfl rfl _ _ rfl rfl hb

end Go.Proofs.Ytniaacjfkaakjaa

namespace Go.Proofs.Ytniaacjfkaakjaa
set_option maxRecDepth 100000
def Ui (v : Int) : Prop := 0 ≤ v ∧ v < 1099511627776
theorem upI_U (v : Int) : Ui (upI v) := by unfold Ui upI; omega
theorem pI_enc {v : Int} (h : Ui v) (R : List UInt8) (b : Bool) : pI (encI v ++ R, b) = (v, (R, b)) := by
  obtain ⟨h1, h2⟩ := h
  obtain ⟨e1, e2, e3⟩ := in_enc (n := v.toNat) (m := 1099511627776) (by omega) (by omega) R
  unfold pI encI
  simp only [e1, e2, e3]
  rw [Int.toNat_of_nonneg h1]
theorem pC_enc {n : Nat} (h : n ≤ 100) (R : List UInt8) (b : Bool) : pC (encI (n : Int) ++ R, b) = (n, (R, b)) := by
  obtain ⟨e1, e2, e3⟩ := in_enc (n := n) (m := 100) (by omega) (by omega) R
  unfold pC encI
  simp only [Int.toNat_natCast, e1, e2, e3]
theorem pN_enc {t : Nat} (h : t < 18446744073709551616) (R : List UInt8) (b : Bool) : pN (enc t ++ R, b) = (t, (R, b)) := by
  obtain ⟨e1, e2, e3⟩ := rd_enc h R
  unfold pN
  simp only [e1, e2, e3]
theorem pH_enc {l : List UInt8} (h : l.length = 32) (R : List UInt8) (b : Bool) : pH (l ++ R, b) = (l, (R, b)) := by
  have h1 : ¬ (l ++ R).length < 32 := by rw [List.length_append]; omega
  have h2 : (l ++ R).take 32 = l := by rw [← h]; exact List.take_left
  have h3 : (l ++ R).drop 32 = R := by rw [← h]; exact List.drop_left
  unfold pH hashOf took tookL tookB
  simp only [if_neg h1, h2, h3]
  rw [h, List.drop_of_length_le (by simp), List.append_nil]
theorem pR_enc {p : List UInt8} (h : p.length ≤ 256) (R : List UInt8) (b : Bool) : pR (enc p.length ++ (p ++ R), b) = (p, (R, b)) := by
  obtain ⟨e1, e2, e3⟩ := rw_enc (b := p) (m := 256) (by omega) (by omega) R
  rw [List.append_assoc] at e1 e2 e3
  unfold pR
  simp only [e1, e2, e3]
theorem p2_enc {c s : Int} (hc : Ui c) (hs : Ui s) (R : List UInt8) (b : Bool) : p2 (encI c ++ (encI s ++ R), b) = ((c, s), (R, b)) := by
  unfold p2
  simp only [pI_enc hc, pI_enc hs]
theorem pRep_enc {α β : Type} {p : Ps → β × Ps} {full : α → List UInt8} {con : α → β} {l : List α} {b : Bool} (h : ∀ v ∈ l, ∀ R : List UInt8, p (full v ++ R, b) = (con v, (R, b))) (R : List UInt8) :
    ∀ k, k ≤ l.length → pRep p k (l.flatMap full ++ R, b) = ((l.take k).map con, ((l.drop k).flatMap full ++ R, b)) := by
  intro k
  induction k with
  | zero => intro _; simp [pRep]
  | succ k ih =>
    intro hk
    unfold pRep
    rw [ih (by omega)]
    have hd : l.drop k = l[k] :: l.drop (k + 1) := List.drop_eq_getElem_cons (by omega)
    have hc : p ((l.drop k).flatMap full ++ R, b) = (con l[k], ((l.drop (k + 1)).flatMap full ++ R, b)) := by
      rw [hd, List.flatMap_cons, List.append_assoc]
      exact h _ (List.getElem_mem _) _
    simp only [hc]
    rw [List.take_succ_eq_append_getElem (by omega), List.map_append]
    rfl
theorem pL_enc {α β : Type} {p : Ps → β × Ps} {full : α → List UInt8} {con : α → β} {l : List α} {b : Bool} (hl : l.length ≤ 100) (h : ∀ v ∈ l, ∀ R : List UInt8, p (full v ++ R, b) = (con v, (R, b))) (R : List UInt8) :
    pL p (listL full l ++ R, b) = (l.map con, (R, b)) := by
  unfold pL listL
  rw [List.append_assoc, pC_enc hl]
  simp only
  rw [pRep_enc h R l.length (Nat.le_refl _)]
  simp
structure Wst.U (x : Wst) : Prop where
  r : Ui x.r
  c : Ui x.c
  s : Ui x.s
  h : x.h.length = 32
  t : x.t < 18446744073709551616
  b : Ui x.b
  m : Ui x.m
structure Wcm.U (x : Wcm) : Prop where
  c : Ui x.c
  s : Ui x.s
  h : x.h.length = 32
  n : Ui x.n
  b : Ui x.b
  m : Ui x.m
structure Wdn.U (x : Wdn) : Prop where
  r : Ui x.r
  i : Ui x.i
  b : Ui x.b
  m : Ui x.m
structure Wce.U (x : Wce) : Prop where
  k : x.k.U
  n : x.l.length ≤ 100
  l : ∀ v ∈ x.l, v.U
structure Wpr.U (x : Wpr) : Prop where
  r : Ui x.r
  e : Ui x.e
  t : x.t < 18446744073709551616
  n : x.l.length ≤ 100
  l : ∀ v ∈ x.l, v.U
  b : Ui x.b
  m : Ui x.m
structure Wop.U (x : Wop) : Prop where
  i : Ui x.i
  n : x.n = x.p.length
  p : x.p.length ≤ 256
  h : x.h.length = 32
structure Wtb.U (x : Wtb) : Prop where
  i : Ui x.i
  n : x.l.length ≤ 100
  l : ∀ v ∈ x.l, v.U
structure Wba.U (x : Wba) : Prop where
  e : Ui x.e
  t : x.t < 18446744073709551616
  n : x.l.length ≤ 100
  l : ∀ v ∈ x.l, v.U
  n2 : x.l2.length ≤ 100
  l2 : ∀ v ∈ x.l2, v.U
  n3 : x.l3.length ≤ 100
  l3 : ∀ v ∈ x.l3, v.U
theorem pSt_enc {x : Wst} (h : x.U) (R : List UInt8) (b : Bool) : pSt (x.full ++ R, b) = (x, (R, b)) := by
  obtain ⟨r, c, s, hh, t, sb, m⟩ := x
  unfold pSt Wst.full Wst.bare nmL sgL
  simp only [List.append_assoc, pI_enc h.r, p2_enc h.c h.s, pH_enc h.h, pN_enc h.t, p2_enc h.b h.m]
theorem pCm_enc {x : Wcm} (h : x.U) (R : List UInt8) (b : Bool) : pCm (x.full ++ R, b) = (x, (R, b)) := by
  obtain ⟨c, s, hh, n, sb, m⟩ := x
  unfold pCm Wcm.full nmL sgL
  simp only [List.append_assoc, p2_enc h.c h.s, pH_enc h.h, pI_enc h.n, p2_enc h.b h.m]
theorem pDn_enc {x : Wdn} (h : x.U) (R : List UInt8) (b : Bool) : pDn (x.full ++ R, b) = (x, (R, b)) := by
  obtain ⟨r, i, sb, m⟩ := x
  unfold pDn Wdn.full Wdn.bare sgL
  simp only [List.append_assoc, pI_enc h.r, pI_enc h.i, p2_enc h.b h.m]
theorem pCe_enc {x : Wce} (h : x.U) (R : List UInt8) (b : Bool) : pCe (x.full ++ R, b) = (x.con, (R, b)) := by
  have hl := pL_enc (con := id) (b := b) h.n (fun v hv R => pSt_enc (h.l v hv) R b)
  unfold pCe Wce.full Wce.con
  simp only [List.append_assoc, pCm_enc h.k, hl, List.map_id]
theorem pPr_enc {x : Wpr} (h : x.U) (R : List UInt8) (b : Bool) : pPr (x.full ++ R, b) = (x.con, (R, b)) := by
  have hl := pL_enc (con := Wce.con) (b := b) h.n (fun v hv R => pCe_enc (h.l v hv) R b)
  unfold pPr Wpr.full Wpr.bare Wpr.con sgL
  simp only [List.append_assoc, pI_enc h.r, pI_enc h.e, pN_enc h.t, hl, p2_enc h.b h.m]
theorem pOp_enc {x : Wop} (h : x.U) (R : List UInt8) (b : Bool) : pOp (x.full ++ R, b) = (x.con, (R, b)) := by
  unfold pOp Wop.full Wop.con
  rw [h.n]
  simp only [List.append_assoc, pI_enc h.i, pR_enc h.p, pH_enc h.h]
theorem pTb_enc {x : Wtb} (h : x.U) (R : List UInt8) (b : Bool) : pTb (x.full ++ R, b) = (x.con, (R, b)) := by
  have hl := pL_enc (con := id) (b := b) h.n (fun v hv R => pDn_enc (h.l v hv) R b)
  unfold pTb Wtb.full Wtb.con
  simp only [List.append_assoc, pI_enc h.i, hl, List.map_id]
theorem pBa_enc {x : Wba} (h : x.U) (R : List UInt8) (b : Bool) : pBa (x.full ++ R, b) = (x.con, (R, b)) := by
  have hl := pL_enc (con := Wpr.con) (b := b) h.n (fun v hv R => pPr_enc (h.l v hv) R b)
  have hl2 := pL_enc (con := Wop.con) (b := b) h.n2 (fun v hv R => pOp_enc (h.l2 v hv) R b)
  have hl3 := pL_enc (con := Wtb.con) (b := b) h.n3 (fun v hv R => pTb_enc (h.l3 v hv) R b)
  unfold pBa Wba.full Wba.con
  simp only [List.append_assoc, pI_enc h.e, pN_enc h.t, hl, hl2, hl3]
theorem pW_ok {α : Type} {z : α} {p : Ps → α × Ps} {s : Ps} {x : α} {R : List UInt8} (h : p s = (x, (R, false))) : pW z p s = (x, (R, false)) := by
  unfold pW
  rw [h]
  rfl
theorem nst_U {x : Wst} (h : x.Ok) : (nst x).U := ⟨upI_U _, upI_U _, upI_U _, h.h, h.t, upI_U _, upI_U _⟩
theorem ncm_U {x : Wcm} (h : x.Ok) : (ncm x).U := ⟨upI_U _, upI_U _, h.h, upI_U _, upI_U _, upI_U _⟩
theorem ndn_U (x : Wdn) : (ndn x).U := ⟨upI_U _, upI_U _, upI_U _, upI_U _⟩
theorem nce_U {x y : Wce} {w wy : World} {S : List Nat} (hx : x.Ok w S) (h : nceR x y) : y.U :=
  ⟨by rw [h.1]; exact ncm_U hx.k, by rw [h.2, List.length_map, hx.l.1]; have := hx.n; omega, fun v hv => by
    rw [h.2] at hv
    obtain ⟨u, hu, rfl⟩ := List.mem_map.1 hv
    exact nst_U (hx.l.2.1 u hu).2⟩
end Go.Proofs.Ytniaacjfkaakjaa

namespace Go.Proofs.Ytniaacjfkaakjaa
open Go.RowKit
set_option maxRecDepth 100000
theorem body_z (k f t : Int) (hk : 1 ≤ k ∧ k ≤ 14) : (pM (mz k f t).con ((mz k f t).body, false)).2 = ([], false) ∧ (pM (mz k f t).con ((mz k f t).body, false)).1.q = k ∧ (pM (mz k f t).con ((mz k f t).body, false)).1.f = f ∧ (pM (mz k f t).con ((mz k f t).body, false)).1.t = t := by
  have hs : k = 1 ∨ k = 2 ∨ k = 3 ∨ k = 4 ∨ k = 5 ∨ k = 6 ∨ k = 7 ∨ k = 8 ∨ k = 9 ∨ k = 10 ∨ k = 11 ∨ k = 12 ∨ k = 13 ∨ k = 14 := by omega
  rcases hs with rfl | rfl | rfl | rfl | rfl | rfl | rfl | rfl | rfl | rfl | rfl | rfl | rfl | rfl
  · rw [pM_1 _ (show (mz 1 f t).con.q = 1 from rfl), Wmg.body_1 (show (mz 1 f t).q = 1 from rfl)]
    exact ⟨by kernel_rfl, rfl, rfl, rfl⟩
  · rw [pM_2 _ (show (mz 2 f t).con.q = 2 from rfl), Wmg.body_2 (show (mz 2 f t).q = 2 from rfl)]
    exact ⟨by kernel_rfl, rfl, rfl, rfl⟩
  · rw [pM_3 _ (show (mz 3 f t).con.q = 3 from rfl), Wmg.body_3 (show (mz 3 f t).q = 3 from rfl)]
    exact ⟨by kernel_rfl, rfl, rfl, rfl⟩
  · rw [pM_4 _ (show (mz 4 f t).con.q = 4 from rfl), Wmg.body_4 (show (mz 4 f t).q = 4 from rfl)]
    exact ⟨by kernel_rfl, rfl, rfl, rfl⟩
  · rw [pM_5 _ (show (mz 5 f t).con.q = 5 from rfl), Wmg.body_5 (show (mz 5 f t).q = 5 from rfl)]
    exact ⟨by kernel_rfl, rfl, rfl, rfl⟩
  · rw [pM_6 _ (show (mz 6 f t).con.q = 6 from rfl), Wmg.body_6 (show (mz 6 f t).q = 6 from rfl)]
    exact ⟨by kernel_rfl, rfl, rfl, rfl⟩
  · rw [pM_7 _ (show (mz 7 f t).con.q = 7 from rfl), Wmg.body_7 (show (mz 7 f t).q = 7 from rfl)]
    exact ⟨by kernel_rfl, rfl, rfl, rfl⟩
  · rw [pM_8 _ (show (mz 8 f t).con.q = 8 from rfl), Wmg.body_8 (show (mz 8 f t).q = 8 from rfl)]
    exact ⟨by kernel_rfl, rfl, rfl, rfl⟩
  · rw [pM_9 _ (show (mz 9 f t).con.q = 9 from rfl), Wmg.body_9 (show (mz 9 f t).q = 9 from rfl)]
    exact ⟨by kernel_rfl, rfl, rfl, rfl⟩
  · rw [pM_10 _ (show (mz 10 f t).con.q = 10 from rfl), Wmg.body_10 (show (mz 10 f t).q = 10 from rfl)]
    exact ⟨by kernel_rfl, rfl, rfl, rfl⟩
  · rw [pM_11 _ (show (mz 11 f t).con.q = 11 from rfl), Wmg.body_11 (show (mz 11 f t).q = 11 from rfl)]
    exact ⟨by kernel_rfl, rfl, rfl, rfl⟩
  · rw [pM_12 _ (show (mz 12 f t).con.q = 12 from rfl), Wmg.body_12 (show (mz 12 f t).q = 12 from rfl)]
    exact ⟨by kernel_rfl, rfl, rfl, rfl⟩
  · rw [pM_13 _ (show (mz 13 f t).con.q = 13 from rfl), Wmg.body_13 (show (mz 13 f t).q = 13 from rfl)]
    exact ⟨by kernel_rfl, rfl, rfl, rfl⟩
  · rw [pM_14 _ (show (mz 14 f t).con.q = 14 from rfl), Wmg.body_14 (show (mz 14 f t).q = 14 from rfl)]
    exact ⟨by kernel_rfl, rfl, rfl, rfl⟩
theorem pU_mz (k f t : Int) (hk : 1 ≤ k ∧ k ≤ 14) (hf : Ui f) (ht : Ui t) : (pU (mz k f t).bytes).2 = true ∧ (pU (mz k f t).bytes).1.q = k ∧ (pU (mz k f t).bytes).1.f = f ∧ (pU (mz k f t).bytes).1.t = t := by
  have hK : Ui k := by unfold Ui; omega
  have hb : (mz k f t).bytes = encI k ++ (encI f ++ (encI t ++ (mz k f t).body)) := by
    simp only [Wmg.bytes, List.append_assoc]
    rfl
  obtain ⟨b1, b2, b3, b4⟩ := body_z k f t hk
  have e : pU (mz k f t).bytes = ((pM (mz k f t).con ((mz k f t).body, false)).1, true) := by
    unfold pU
    rw [hb]
    simp only [pI_enc hK, pI_enc hf, pI_enc ht]
    exact if_pos ⟨hk.1, hk.2, by rw [b1], by rw [b1]⟩
  rw [e]
  exact ⟨rfl, b2, b3, b4⟩
theorem head_byte (k f t : Int) (hk : 1 ≤ k ∧ k ≤ 14) : (mz k f t).bytes[0]? = some (UInt8.ofNat k.toNat) := by
  have hb : (mz k f t).bytes = encI k ++ (encI f ++ (encI t ++ (mz k f t).body)) := by
    simp only [Wmg.bytes, List.append_assoc]
    rfl
  rw [hb, encI, enc_small (by omega)]
  rfl
end Go.Proofs.Ytniaacjfkaakjaa
