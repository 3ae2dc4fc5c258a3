/- Texts that the proof stands on: Package part: its readers of a certificate, a promise, an opening, a tombstone, a batch. (written by gen_rp3.py) | Package part: its readers of acks, votes, places, proposals, what was decided. (written by gen_mr.py) | The writers and the text of an ack: they are a stamp's (written by gen_ack.py out of XPut). | Package part: its writers of votes, places, proposals, what was decided. (written by gen_mp.py) | A message as a value; what msgs.put writes of each kind. (written by gen_mg.py) | Votes, acks, entries, decided, messages that come in: what their reading says of cells. (written by gen_mo.py) -/
import Derived.Test.YtnpjihdhpoddgaaGreatKN2
set_option linter.unusedSimpArgs false
set_option linter.unusedVariables false
set_option maxRecDepth 100000

namespace Go.Proofs.YtnpjihdhpoddgaaGreat
open Go.RowKit
set_option maxRecDepth 100000
theorem GotL.lst {α β : Type} {e : TypeId} {K : Nat} {cells : α → List Value} {ok : World → List Nat → α → Prop} {con : α → β} {w0 w1 : World} {A : Option Addr} {n c : Nat} {l : List α} {r : List β}
    (hkeep : ∀ {w W : World} {S S' : List Nat} {x : α}, ok w S x → Fr S w W → (∀ k ∈ S', k < w.heap.size → k ∈ S) → ok W S' x) (hlen : ∀ w S v, ok w S v → (cells v).length = K)
    (h : GotL e K cells ok con w0 w1 A n c l r) {g q N : Nat} (hg : g < w0.heap.size) (hq : q < w0.heap.size) (hN : N ≤ w0.heap.size) :
    ∀ W, Fr [g, q] w1 W → ∀ S0 : List Nat, (∀ x ∈ S0, x < N) → Lst K cells (fun w v => ok w S0 v) W A n l ∧ (0 < n → ∀ a, A = some a → ¬ a.block ∈ S0) := by
  intro W hf S0 h0
  have hown := own_keep h.own hf (fun k hk hm => by
    have h1 := h.new k ((bk_mem A n c k).1 hk)
    simp at hm
    omega)
  refine ⟨Lst.of_own hown h.len (fun v hv => ?_), fun _ a ha hin => ?_⟩
  · have h1 := h.ok v hv (g :: q :: S0) (fun x hx => by
      rcases List.mem_cons.1 hx with rfl | hx
      · exact hg
      · rcases List.mem_cons.1 hx with rfl | hx
        · exact hq
        · exact Nat.lt_of_lt_of_le (h0 x hx) hN)
    exact ⟨hlen _ _ _ h1, hkeep h1 (hf.mono (fun k hk _ => by simp at hk; simp; omega)) (fun k hk _ => by simp [hk])⟩
  · have h1 := h.new a.block (by simp [bk, ha])
    have h2 := h0 _ hin
    omega
theorem pR_le (s : Ps) : (pR s).1.length ≤ 256 := by
  unfold pR rwV
  simp only
  cases dec s.1 with
  | none => simp
  | some p =>
    simp only
    split
    · rw [List.length_take]; omega
    · simp
section
variable {w : World} {F : List Nat} {g : Nat} {s : Ps}
theorem getRow_any (hr : Rs w F g s) : Calls Tryz.prog 114 #[.pointer (some ⟨g, 0, none⟩), .int .i64 256] w fun e w' =>
    ∃ A c, e = .returned (.slice A (pR s).1.length c) ∧ By w' A (pR s).1.length (pR s).1 ∧ (∀ k ∈ bk A, w.heap.size ≤ k ∧ k < w'.heap.size) ∧ (pR s).1.length ≤ c ∧ Rs w' F g (pR s).2 ∧ Fr [g] w w' := by
  have hl := rwL_le s.1 256
  obtain ⟨R, bad⟩ := s
  have mk : ∀ {w' : World} {l : List UInt8} {b : Bool}, l.length ≤ R.length → Rd w' g F l b → Fr [g] w w' → Rs w' F g (l, b) := fun h1 h2 h3 => ⟨h2, Nat.le_trans h1 hr.len, fun k hk => Nat.lt_of_lt_of_le (hr.lt k hk) h3.size⟩
  have bad_case : rowBad R 256 → Calls Tryz.prog 114 #[.pointer (some ⟨g, 0, none⟩), .int .i64 256] w fun e w' =>
      ∃ A c, e = .returned (.slice A ([] : List UInt8).length c) ∧ By w' A ([] : List UInt8).length [] ∧ (∀ k ∈ bk A, w.heap.size ≤ k ∧ k < w'.heap.size) ∧ ([] : List UInt8).length ≤ c ∧ Rs w' F g ([], true) ∧ Fr [g] w w' := fun hb =>
    (rrow_bad w g F R bad hr.rd hr.len 256 hb (by omega)).mono fun _ w' ⟨A, c, w1, k1, k2, k3, k4⟩ =>
      have hf : Fr [g] w w' := k2.trans k3.2.1 (by simp)
      ⟨A, c, k1, k3.by, fun k hk => ⟨Nat.le_trans k2.size (k3.2.2 k hk), k3.lt k hk⟩, Nat.zero_le _, mk (by simp) k4 hf, hf⟩
  unfold pR rwV rwL rwB at *
  simp only at hl ⊢
  cases hd : dec R with
  | none => exact bad_case (rowBad_int (intBad_none hd))
  | some p =>
    rw [hd] at hl
    by_cases hv : (p.1 : Int) ≤ 256 ∧ p.2 + p.1 ≤ R.length
    · simp only [if_pos hv] at hl ⊢
      have hlen : ((R.drop p.2).take p.1).length = p.1 := by rw [List.length_take, List.length_drop]; omega
      rw [hlen]
      exact (rrow_ok w g F R bad hr.rd hr.len p.1 p.2 hd 256 hv.1 (by omega) hv.2).mono fun _ w' ⟨A, c, w1, k1, k2, k3, k4⟩ =>
        have hf : Fr [g] w w' := k2.trans k3.2.1 (by simp)
        ⟨A, c, k1, k3.by, fun k hk => ⟨Nat.le_trans k2.size (k3.2.2 k hk), k3.lt k hk⟩, k3.cap, mk hl k4 hf, hf⟩
    · simp only [if_neg hv]
      by_cases hv1 : (p.1 : Int) ≤ 256
      · exact bad_case (rowBad_short hd hv1 (by omega))
      · exact bad_case (rowBad_int (intBad_lt hd (by omega)))
end
def zCe : Array Value := (Wce.cells ⟨⟨0, 0, List.replicate 32 0, 0, 0, 0⟩, none, 0, 0, []⟩).toArray
def zOp : Array Value := (Wop.cells ⟨0, none, 0, 0, [], List.replicate 32 0⟩).toArray
theorem built_ceE (parts : List (Nat × Value)) : Tryz.prog.built 35 parts = Instr.fill ([(0, 37), (37, 1)].toArray[·]?) zCe parts := by kernel_rfl
theorem built_ceR (k : Wcm) (hh : k.h.length = 32) (A : Option Addr) (n d : Nat) (l : List Wst) :
    Tryz.prog.built 35 [(0, .agg k.cells.toArray), (1, .slice A n d)] = some (Wce.cells ⟨k, A, n, d, l⟩).toArray := by
  have hz : zCe.size = 38 := rfl
  have hk : k.cells.length = 37 := Wcm.len hh
  rw [built_ceE, fill_step _ _ 0 0 37 _ _ rfl (by simp [Value.cells, hk]) (by rw [hz]; omega), fill_step _ _ 1 37 1 _ _ rfl rfl (by simp [splice, zCe, Wce.cells, Wcm.cells, Value.cells, hh]), Instr.fill]
  congr 2
  have tk : ∀ n, 32 ≤ n → (k.h.map by8).take n = k.h.map by8 := fun n hn => List.take_of_length_le (by simp [hh]; omega)
  have dk : ∀ n, 32 ≤ n → (k.h.map by8).drop n = [] := fun n hn => List.drop_of_length_le (by simp [hh]; omega)
  simp [splice, zCe, Wce.cells, Wcm.cells, Value.cells, hh, List.drop_append, List.take_append, tk, dk]
theorem built_opE (parts : List (Nat × Value)) : Tryz.prog.built 54 parts = Instr.fill ([(0, 1), (1, 1), (2, 32)].toArray[·]?) zOp parts := by kernel_rfl
theorem built_opR (i : Int) (A : Option Addr) (n d : Nat) (p h : List UInt8) (hh : h.length = 32) :
    Tryz.prog.built 54 [(0, .int .i64 i), (1, .slice A n d), (2, .agg (h.map by8).toArray)] = some (Wop.cells ⟨i, A, n, d, p, h⟩).toArray := by
  have hz : zOp.size = 34 := rfl
  rw [built_opE, fill_step _ _ 0 0 1 _ _ rfl rfl (by rw [hz]; omega), fill_step _ _ 1 1 1 _ _ rfl rfl (by simp [splice, zOp, Wop.cells, Value.cells]), fill_step _ _ 2 2 32 _ _ rfl (by simp [Value.cells, hh]) (by simp [splice, zOp, Wop.cells, Value.cells]), Instr.fill]
  congr 2
  have dk : ∀ n, 32 ≤ n → (h.map by8).drop n = [] := fun n hn => List.drop_of_length_le (by simp [hh]; omega)
  simp [splice, zOp, Wop.cells, Value.cells, hh, List.drop_append, List.take_append, dk]
theorem built_prR (r e : Int) (t : Nat) (A : Option Addr) (n d : Nat) (l : List Wce) (b m : Int) : Tryz.prog.built 40 [(0, .int .i64 r), (1, .int .i64 e), (2, .int .u64 (t : Int)), (3, .slice A n d), (4, .agg #[.int .i64 b, .int .i64 m])] = some (Wpr.cells ⟨r, e, t, A, n, d, l, b, m⟩).toArray := by kernel_rfl
theorem built_tbR (i : Int) (A : Option Addr) (n d : Nat) (l : List Wdn) : Tryz.prog.built 133 [(0, .int .i64 i), (1, .slice A n d)] = some (Wtb.cells ⟨i, A, n, d, l⟩).toArray := by kernel_rfl
theorem built_baR (e : Int) (t : Nat) (A : Option Addr) (n d : Nat) (l : List Wpr) (A2 : Option Addr) (n2 d2 : Nat) (l2 : List Wop) (A3 : Option Addr) (n3 d3 : Nat) (l3 : List Wtb) :
    Tryz.prog.built 45 [(0, .int .i64 e), (1, .int .u64 (t : Int)), (2, .slice A n d), (3, .slice A2 n2 d2), (4, .slice A3 n3 d3)] = some (Wba.cells ⟨e, t, A, n, d, l, A2, n2, d2, l2, A3, n3, d3, l3⟩).toArray := by kernel_rfl
theorem getStamps_r {w : World} {F : List Nat} {g : Nat} {s : Ps} (hr : Rs w F g s) : Calls Tryz.prog 140 #[.pointer (some ⟨g, 0, none⟩), fnV 104] w fun e w' => ∃ (A : Option Addr) (n c : Nat) (l : List Wst), e = .returned (.slice A n c) ∧ GotL 32 38 Wst.cells (fun _ _ v => v.Ok) id w w' A n c l (pL pSt s).1 ∧ Rs w' F g (pL pSt s).2 ∧ Fr [g] w w' :=
  getStamps_any Wst.cells (fun _ _ v => v.Ok) id pSt Wst.one (fun h _ _ => h) (fun _ _ _ h => Wst.len h.h) (gets_of (fun _ _ _ _ hr => getStamp_any hr) pSt_ok) w F g s hr
theorem getDenies_r {w : World} {F : List Nat} {g : Nat} {s : Ps} (hr : Rs w F g s) : Calls Tryz.prog 158 #[.pointer (some ⟨g, 0, none⟩), fnV 113] w fun e w' => ∃ (A : Option Addr) (n c : Nat) (l : List Wdn), e = .returned (.slice A n c) ∧ GotL 56 4 Wdn.cells (fun _ _ v => v.Ok) id w w' A n c l (pL pDn s).1 ∧ Rs w' F g (pL pDn s).2 ∧ Fr [g] w w' :=
  getDenies_any Wdn.cells (fun _ _ v => v.Ok) id pDn Wdn.one (fun h _ _ => h) (fun _ _ v _ => Wdn.len v) (gets_of (fun _ _ _ _ hr => getDeny_any hr) pDn_ok) w F g s hr
set_option maxHeartbeats 2000000 in
theorem getCert_any : Gets 105 Wce.cells (fun w S v => v.Li w S) Wce.con pCe := by
  intro w F g s hr
  obtain ⟨wa, hwa⟩ : ∃ wa, wa = w.alloc (Obj.cells zCe 35) := ⟨_, rfl⟩
  have hf0 : Fr [] w wa := by rw [hwa]; exact (Fr.refl [] w).alloc _
  have HB : Hid (Blk wa w.heap.size 35 zCe) := Lib.hid (by rw [hwa]; exact Blk.new _ _ _)
  have HR := Lib.hid (hr.fr hf0 (by simp) (by simp))
  have HNF : Hid (¬ w.heap.size ∈ F) := Lib.hid (fun hm => by have := hr.lt _ hm; omega)
  have HG : Hid (g < w.heap.size) := Lib.hid hr.gt
  have HF0 := Lib.hid hf0
  have HWA := Lib.hid hwa
  clear hwa hf0 hr
  go_enter Tryz.func105, Tryz.ntmps105
  go_upto_region 1 with (fail)
  change Code.wp _ _ _ _ (w.alloc (Obj.cells zCe 35))
  rw [← HWA.out]
  go_wp2_with fail
  refine (getCommit_any HR.out).mono ?_
  rintro e_ w1 ⟨rfl, h1, h2⟩
  have HR0 := Lib.hid h1
  have HF1 : Hid (Fr [g] wa w1) := Lib.hid h2
  have hq_ : Fr [g, w.heap.size] wa w1 := h2.mono (fun x hx _ => by simp at hx; simp [hx])
  clear h1 h2 hq_
  go_wp2_with fail
  refine (getStamps_r HR0.out).mono ?_
  rintro e_ w2 ⟨A1, n1, c1, l1, rfl, hgl, h1, h2⟩
  have HR1 := Lib.hid h1
  have HF2 : Hid (Fr [g] wa w2) := Lib.hid (HF1.out.trans h2 (fun x hx _ => hx))
  have hq_ : Fr [g, w.heap.size] w1 w2 := h2.mono (fun x hx _ => by simp at hx; simp [hx])
  have HL1 := Lib.hid (GotL.lst (cells := Wst.cells) (ok := fun _ _ v => v.Ok) (fun h _ _ => h) (fun _ _ _ h => Wst.len h.h) hgl (q := w.heap.size) (N := w.heap.size) (g := g) (by have h3 := HB.out.lt; have h4 := HG.out; have h5 := HF1.out.size; omega) (by have h3 := HB.out.lt; have h4 := HG.out; have h5 := HF1.out.size; omega) (by have h3 := HB.out.lt; have h4 := HG.out; have h5 := HF1.out.size; omega))
  have HGL1 : Hid (_ ∧ _) := Lib.hid ⟨hgl.con, hgl.few⟩
  clear hgl
  clear h1 h2 hq_
  have HBE := Lib.hid (HB.out.keep HF2.out (by have := HG.out; simp; omega))
  have HBU := Lib.hid (built_ceR (pCm s).1 (pCm_ok s).h A1 n1 c1 l1)
  obtain ⟨v, hv⟩ : ∃ v : Wce, v = ⟨(pCm s).1, A1, n1, c1, l1⟩ := ⟨_, rfl⟩
  have HVS : Hid (v.cells.toArray.size = 38) := Lib.hid (by rw [hv, List.size_toArray]; exact Wce.len (pCm_ok s).h)
  have HAL : Hid (v.cells.toArray.all (·.oneCell') = true) := Lib.hid (all_oneCell_toArray (Wce.one _))
  have HTS : Hid ((Tryz.prog.info? 35).map (·.size) = some v.cells.toArray.size) := Lib.hid (by rw [HVS.out]; kernel_rfl)
  have HV := Lib.hid hv
  rw [← hv] at HBU
  clear hv
  obtain ⟨V, hV⟩ : ∃ V : Array Value, V = v.cells.toArray := ⟨_, rfl⟩
  have HVV := Lib.hid hV
  rw [← hV] at HBU HAL HVS HTS
  clear hV
  go_wp2_with (first
    | (refine wpList_builtg rfl 35 _ rfl _ _ HBU.out rfl ?_)
    | (refine wpList_store_blk rfl 35 _ _ rfl w.heap.size V rfl rfl 35 zCe HBE.out HTS.out (by rw [HVS.out]; rfl) HAL.out ?_
       intro w9 hb9 hf9
       have HB9 := Lib.hid hb9
       have HF9 := Lib.hid hf9
       clear hb9 hf9))
  have hq9 : Fr [g, w.heap.size] w2 w9 := HF9.out.mono (fun x hx _ => by simp at hx; simp [hx])
  refine bodyPost_ret (v := .agg V) (results_cell_row Tryz.results105 _ _ w.heap.size 35 V _ _ rfl HB9.out Tryz.underlying35 rfl HTS.out) rfl ⟨v, by rw [HVV.out], ?_, fun S0 h0 => ?_, ?_, ?_⟩
  · rw [HV.out]; show (_, l1) = (_, _); congr 1; have := HGL1.out.1; rw [List.map_id] at this; exact this
  · rw [HV.out]; exact ⟨pCm_ok s, (HL1.out w9 hq9 S0 h0).1, HGL1.out.2, (HL1.out w9 hq9 S0 h0).2⟩
  · exact HR1.out.fr HF9.out (by have := HG.out; simp; omega) (fun k hk hm => HNF.out (by simp at hm; exact hm ▸ hk))
  · exact Fr.unbox HF0.out HF2.out HF9.out (Nat.le_refl _)
theorem getCerts_r {w : World} {F : List Nat} {g : Nat} {s : Ps} (hr : Rs w F g s) : Calls Tryz.prog 142 #[.pointer (some ⟨g, 0, none⟩), fnV 105] w fun e w' => ∃ (A : Option Addr) (n c : Nat) (l : List Wce), e = .returned (.slice A n c) ∧ GotL 35 38 Wce.cells (fun w S v => v.Li w S) Wce.con w w' A n c l (pL pCe s).1 ∧ Rs w' F g (pL pCe s).2 ∧ Fr [g] w w' :=
  getCerts_any Wce.cells (fun w S v => v.Li w S) Wce.con pCe Wce.one Wce.Li.keep (fun _ _ _ h => Wce.len h.k.h) getCert_any w F g s hr
set_option maxHeartbeats 2000000 in
theorem getPromise_any : Gets 108 Wpr.cells (fun w S v => v.Li w S) Wpr.con pPr := by
  intro w F g s hr
  obtain ⟨wa, hwa⟩ : ∃ wa, wa = w.alloc (Obj.cells (Wpr.cells ⟨0, 0, 0, none, 0, 0, [], 0, 0⟩).toArray 40) := ⟨_, rfl⟩
  have hf0 : Fr [] w wa := by rw [hwa]; exact (Fr.refl [] w).alloc _
  have HB : Hid (Blk wa w.heap.size 40 (Wpr.cells ⟨0, 0, 0, none, 0, 0, [], 0, 0⟩).toArray) := Lib.hid (by rw [hwa]; exact Blk.new _ _ _)
  have HR := Lib.hid (hr.fr hf0 (by simp) (by simp))
  have HNF : Hid (¬ w.heap.size ∈ F) := Lib.hid (fun hm => by have := hr.lt _ hm; omega)
  have HG : Hid (g < w.heap.size) := Lib.hid hr.gt
  have HF0 := Lib.hid hf0
  have HWA := Lib.hid hwa
  clear hwa hf0 hr
  go_enter Tryz.func108, Tryz.ntmps108
  go_upto_region 1 with (fail)
  change Code.wp _ _ _ _ (w.alloc (Obj.cells (Wpr.cells ⟨0, 0, 0, none, 0, 0, [], 0, 0⟩).toArray 40))
  rw [← HWA.out]
  go_wp2_with fail
  refine (getInt_any HR.out).mono ?_
  rintro e_ w1 ⟨rfl, h1, h2⟩
  have HR0 := Lib.hid h1
  have HF1 : Hid (Fr [g] wa w1) := Lib.hid h2
  have hq_ : Fr [g, w.heap.size] wa w1 := h2.mono (fun x hx _ => by simp at hx; simp [hx])
  clear h1 h2 hq_
  go_wp2_with fail
  refine (getInt_any HR0.out).mono ?_
  rintro e_ w2 ⟨rfl, h1, h2⟩
  have HR1 := Lib.hid h1
  have HF2 : Hid (Fr [g] wa w2) := Lib.hid (HF1.out.trans h2 (fun x hx _ => hx))
  have hq_ : Fr [g, w.heap.size] w1 w2 := h2.mono (fun x hx _ => by simp at hx; simp [hx])
  clear h1 h2 hq_
  go_wp2_with fail
  refine (getNum_any HR1.out).mono ?_
  rintro e_ w3 ⟨rfl, h1, h2⟩
  have HR2 := Lib.hid h1
  have HF3 : Hid (Fr [g] wa w3) := Lib.hid (HF2.out.trans h2 (fun x hx _ => hx))
  have hq_ : Fr [g, w.heap.size] w2 w3 := h2.mono (fun x hx _ => by simp at hx; simp [hx])
  clear h1 h2 hq_
  go_wp2_with fail
  refine (getCerts_r HR2.out).mono ?_
  rintro e_ w4 ⟨A1, n1, c1, l1, rfl, hgl, h1, h2⟩
  have HR3 := Lib.hid h1
  have HF4 : Hid (Fr [g] wa w4) := Lib.hid (HF3.out.trans h2 (fun x hx _ => hx))
  have hq_ : Fr [g, w.heap.size] w3 w4 := h2.mono (fun x hx _ => by simp at hx; simp [hx])
  have HL1 := Lib.hid (GotL.lst (cells := Wce.cells) (ok := fun w S v => v.Li w S) (Wce.Li.keep) (fun _ _ _ h => Wce.len h.k.h) hgl (q := w.heap.size) (N := w.heap.size) (g := g) (by have h3 := HB.out.lt; have h4 := HG.out; have h5 := HF3.out.size; omega) (by have h3 := HB.out.lt; have h4 := HG.out; have h5 := HF3.out.size; omega) (by have h3 := HB.out.lt; have h4 := HG.out; have h5 := HF3.out.size; omega))
  have HGL1 : Hid (_ ∧ _) := Lib.hid ⟨hgl.con, hgl.few⟩
  clear hgl
  clear h1 h2 hq_
  go_wp2_with fail
  refine (getSig_any HR3.out).mono ?_
  rintro e_ w5 ⟨rfl, h1, h2⟩
  have HR4 := Lib.hid h1
  have HF5 : Hid (Fr [g] wa w5) := Lib.hid (HF4.out.trans h2 (fun x hx _ => hx))
  have hq_ : Fr [g, w.heap.size] w4 w5 := h2.mono (fun x hx _ => by simp at hx; simp [hx])
  have HL1 := Lib.hid (fun W (hW : Fr [g, w.heap.size] w5 W) => HL1.out W (hq_.trans hW (fun x hx _ => hx)))
  clear h1 h2 hq_
  have HBE := Lib.hid (HB.out.keep HF5.out (by have := HG.out; simp; omega))
  have HBU := Lib.hid (built_prR (pI s).1 (pI (pI s).2).1 (pN (pI (pI s).2).2).1 A1 n1 c1 l1 (p2 (pL pCe (pN (pI (pI s).2).2).2).2).1.1 (p2 (pL pCe (pN (pI (pI s).2).2).2).2).1.2)
  obtain ⟨v, hv⟩ : ∃ v : Wpr, v = ⟨(pI s).1, (pI (pI s).2).1, (pN (pI (pI s).2).2).1, A1, n1, c1, l1, (p2 (pL pCe (pN (pI (pI s).2).2).2).2).1.1, (p2 (pL pCe (pN (pI (pI s).2).2).2).2).1.2⟩ := ⟨_, rfl⟩
  have HVS : Hid (v.cells.toArray.size = 6) := Lib.hid (by rw [hv, List.size_toArray]; exact rfl)
  have HAL : Hid (v.cells.toArray.all (·.oneCell') = true) := Lib.hid (all_oneCell_toArray (Wpr.one _))
  have HTS : Hid ((Tryz.prog.info? 40).map (·.size) = some v.cells.toArray.size) := Lib.hid (by rw [HVS.out]; kernel_rfl)
  have HV := Lib.hid hv
  rw [← hv] at HBU
  clear hv
  obtain ⟨V, hV⟩ : ∃ V : Array Value, V = v.cells.toArray := ⟨_, rfl⟩
  have HVV := Lib.hid hV
  rw [← hV] at HBU HAL HVS HTS
  clear hV
  go_wp2_with (first
    | (refine wpList_builtg rfl 40 _ rfl _ _ HBU.out rfl ?_)
    | (refine wpList_store_blk rfl 40 _ _ rfl w.heap.size V rfl rfl 40 (Wpr.cells ⟨0, 0, 0, none, 0, 0, [], 0, 0⟩).toArray HBE.out HTS.out (by rw [HVS.out]; rfl) HAL.out ?_
       intro w9 hb9 hf9
       have HB9 := Lib.hid hb9
       have HF9 := Lib.hid hf9
       clear hb9 hf9))
  have hq9 : Fr [g, w.heap.size] w5 w9 := HF9.out.mono (fun x hx _ => by simp at hx; simp [hx])
  refine bodyPost_ret (v := .agg V) (results_cell_row Tryz.results108 _ _ w.heap.size 40 V _ _ rfl HB9.out Tryz.underlying40 rfl HTS.out) rfl ⟨v, by rw [HVV.out], ?_, fun S0 h0 => ?_, ?_, ?_⟩
  · rw [HV.out]; unfold Wpr.con; rw [HGL1.out.1]; rfl
  · rw [HV.out]; exact ⟨pI_in _, pI_in _, pN_lt _, (HL1.out w9 hq9 S0 h0).1, HGL1.out.2, (HL1.out w9 hq9 S0 h0).2, pI_in _, pI_in _⟩
  · exact HR4.out.fr HF9.out (by have := HG.out; simp; omega) (fun k hk hm => HNF.out (by simp at hm; exact hm ▸ hk))
  · exact Fr.unbox HF0.out HF5.out HF9.out (Nat.le_refl _)
theorem getPromises_r {w : World} {F : List Nat} {g : Nat} {s : Ps} (hr : Rs w F g s) : Calls Tryz.prog 153 #[.pointer (some ⟨g, 0, none⟩), fnV 108] w fun e w' => ∃ (A : Option Addr) (n c : Nat) (l : List Wpr), e = .returned (.slice A n c) ∧ GotL 40 6 Wpr.cells (fun w S v => v.Li w S) Wpr.con w w' A n c l (pL pPr s).1 ∧ Rs w' F g (pL pPr s).2 ∧ Fr [g] w w' :=
  getPromises_any Wpr.cells (fun w S v => v.Li w S) Wpr.con pPr Wpr.one Wpr.Li.keep (fun _ _ _ _ => rfl) getPromise_any w F g s hr
set_option maxHeartbeats 2000000 in
theorem getOpening_any : Gets 112 Wop.cells (fun w S v => v.Ok w S) Wop.con pOp := by
  intro w F g s hr
  obtain ⟨wa, hwa⟩ : ∃ wa, wa = w.alloc (Obj.cells zOp 54) := ⟨_, rfl⟩
  have hf0 : Fr [] w wa := by rw [hwa]; exact (Fr.refl [] w).alloc _
  have HB : Hid (Blk wa w.heap.size 54 zOp) := Lib.hid (by rw [hwa]; exact Blk.new _ _ _)
  have HR := Lib.hid (hr.fr hf0 (by simp) (by simp))
  have HNF : Hid (¬ w.heap.size ∈ F) := Lib.hid (fun hm => by have := hr.lt _ hm; omega)
  have HG : Hid (g < w.heap.size) := Lib.hid hr.gt
  have HF0 := Lib.hid hf0
  have HWA := Lib.hid hwa
  clear hwa hf0 hr
  go_enter Tryz.func112, Tryz.ntmps112
  go_upto_region 1 with (fail)
  change Code.wp _ _ _ _ (w.alloc (Obj.cells zOp 54))
  rw [← HWA.out]
  go_wp2_with fail
  refine (getInt_any HR.out).mono ?_
  rintro e_ w1 ⟨rfl, h1, h2⟩
  have HR0 := Lib.hid h1
  have HF1 : Hid (Fr [g] wa w1) := Lib.hid h2
  have hq_ : Fr [g, w.heap.size] wa w1 := h2.mono (fun x hx _ => by simp at hx; simp [hx])
  clear h1 h2 hq_
  go_wp2_with fail
  refine (getRow_any HR0.out).mono ?_
  rintro e_ w2 ⟨A1, c1, rfl, hby, hbk, hcap, h1, h2⟩
  have HR1 := Lib.hid h1
  have HF2 : Hid (Fr [g] wa w2) := Lib.hid (HF1.out.trans h2 (fun x hx _ => hx))
  have hq_ : Fr [g, w.heap.size] w1 w2 := h2.mono (fun x hx _ => by simp at hx; simp [hx])
  have HPA : Hid (∀ k ∈ bk A1, w.heap.size < k) := Lib.hid (fun k hk => by have h1 := (hbk k hk).1; have h3 := HB.out.lt; have h5 := HF1.out.size; omega)
  have HL1 : Hid (∀ W, Fr [g, w.heap.size] w2 W → By W A1 (pR _).1.length (pR _).1 ∧ ∀ k ∈ bk A1, k < W.heap.size) := Lib.hid (fun W hW => ⟨hby.keep hW (fun a ha hm => by have h1 := HPA.out a.block (by simp [bk, ha]); have h2 := HG.out; simp at hm; omega), fun k hk => Nat.lt_of_lt_of_le (hbk k hk).2 hW.size⟩)
  have HCA := Lib.hid hcap
  clear hby hbk hcap
  clear h1 h2 hq_
  go_wp2_with fail
  refine (getHash_any HR1.out).mono ?_
  rintro e_ w3 ⟨rfl, h1, h2⟩
  have HR2 := Lib.hid h1
  have HF3 : Hid (Fr [g] wa w3) := Lib.hid (HF2.out.trans h2 (fun x hx _ => hx))
  have hq_ : Fr [g, w.heap.size] w2 w3 := h2.mono (fun x hx _ => by simp at hx; simp [hx])
  have HL1 := Lib.hid (fun W (hW : Fr [g, w.heap.size] w3 W) => HL1.out W (hq_.trans hW (fun x hx _ => hx)))
  clear h1 h2 hq_
  have HBE := Lib.hid (HB.out.keep HF3.out (by have := HG.out; simp; omega))
  have HBU := Lib.hid (built_opR (pI s).1 A1 (pR (pI s).2).1.length c1 (pR (pI s).2).1 (pH (pR (pI s).2).2).1 (pH_len _))
  obtain ⟨v, hv⟩ : ∃ v : Wop, v = ⟨(pI s).1, A1, (pR (pI s).2).1.length, c1, (pR (pI s).2).1, (pH (pR (pI s).2).2).1⟩ := ⟨_, rfl⟩
  have HVS : Hid (v.cells.toArray.size = 34) := Lib.hid (by rw [hv, List.size_toArray]; exact Wop.len (pH_len _))
  have HAL : Hid (v.cells.toArray.all (·.oneCell') = true) := Lib.hid (all_oneCell_toArray (Wop.one _))
  have HTS : Hid ((Tryz.prog.info? 54).map (·.size) = some v.cells.toArray.size) := Lib.hid (by rw [HVS.out]; kernel_rfl)
  have HV := Lib.hid hv
  rw [← hv] at HBU
  clear hv
  obtain ⟨V, hV⟩ : ∃ V : Array Value, V = v.cells.toArray := ⟨_, rfl⟩
  have HVV := Lib.hid hV
  rw [← hV] at HBU HAL HVS HTS
  clear hV
  go_wp2_with (first
    | (refine wpList_builtg rfl 54 _ rfl _ _ HBU.out rfl ?_)
    | (refine wpList_store_blk rfl 54 _ _ rfl w.heap.size V rfl rfl 54 zOp HBE.out HTS.out (by rw [HVS.out]; rfl) HAL.out ?_
       intro w9 hb9 hf9
       have HB9 := Lib.hid hb9
       have HF9 := Lib.hid hf9
       clear hb9 hf9))
  have hq9 : Fr [g, w.heap.size] w3 w9 := HF9.out.mono (fun x hx _ => by simp at hx; simp [hx])
  refine bodyPost_ret (v := .agg V) (results_cell_row Tryz.results112 _ _ w.heap.size 54 V _ _ rfl HB9.out Tryz.underlying54 rfl HTS.out) rfl ⟨v, by rw [HVV.out], ?_, fun S0 h0 => ?_, ?_, ?_⟩
  · rw [HV.out]; rfl
  · rw [HV.out]; exact ⟨pI_in _, (HL1.out w9 hq9).1, Nat.le_trans (pR_le _) (by omega), fun k hk hm => by have h1 := HPA.out k hk; have h2 := h0 k hm; omega, (HL1.out w9 hq9).2, pH_len _, HCA.out⟩
  · exact HR2.out.fr HF9.out (by have := HG.out; simp; omega) (fun k hk hm => HNF.out (by simp at hm; exact hm ▸ hk))
  · exact Fr.unbox HF0.out HF3.out HF9.out (Nat.le_refl _)
theorem getOpenings_r {w : World} {F : List Nat} {g : Nat} {s : Ps} (hr : Rs w F g s) : Calls Tryz.prog 154 #[.pointer (some ⟨g, 0, none⟩), fnV 112] w fun e w' => ∃ (A : Option Addr) (n c : Nat) (l : List Wop), e = .returned (.slice A n c) ∧ GotL 54 34 Wop.cells (fun w S v => v.Ok w S) Wop.con w w' A n c l (pL pOp s).1 ∧ Rs w' F g (pL pOp s).2 ∧ Fr [g] w w' :=
  getOpenings_any Wop.cells (fun w S v => v.Ok w S) Wop.con pOp Wop.one Wop.Ok.keep (fun _ _ _ h => Wop.len h.h) getOpening_any w F g s hr
set_option maxHeartbeats 2000000 in
theorem getTomb_any : Gets 156 Wtb.cells (fun w S v => v.Li w S) Wtb.con pTb := by
  intro w F g s hr
  obtain ⟨wa, hwa⟩ : ∃ wa, wa = w.alloc (Obj.cells (Wtb.cells ⟨0, none, 0, 0, []⟩).toArray 133) := ⟨_, rfl⟩
  have hf0 : Fr [] w wa := by rw [hwa]; exact (Fr.refl [] w).alloc _
  have HB : Hid (Blk wa w.heap.size 133 (Wtb.cells ⟨0, none, 0, 0, []⟩).toArray) := Lib.hid (by rw [hwa]; exact Blk.new _ _ _)
  have HR := Lib.hid (hr.fr hf0 (by simp) (by simp))
  have HNF : Hid (¬ w.heap.size ∈ F) := Lib.hid (fun hm => by have := hr.lt _ hm; omega)
  have HG : Hid (g < w.heap.size) := Lib.hid hr.gt
  have HF0 := Lib.hid hf0
  have HWA := Lib.hid hwa
  clear hwa hf0 hr
  go_enter Tryz.func156, Tryz.ntmps156
  go_upto_region 1 with (fail)
  change Code.wp _ _ _ _ (w.alloc (Obj.cells (Wtb.cells ⟨0, none, 0, 0, []⟩).toArray 133))
  rw [← HWA.out]
  go_wp2_with fail
  refine (getInt_any HR.out).mono ?_
  rintro e_ w1 ⟨rfl, h1, h2⟩
  have HR0 := Lib.hid h1
  have HF1 : Hid (Fr [g] wa w1) := Lib.hid h2
  have hq_ : Fr [g, w.heap.size] wa w1 := h2.mono (fun x hx _ => by simp at hx; simp [hx])
  clear h1 h2 hq_
  go_wp2_with fail
  refine (getDenies_r HR0.out).mono ?_
  rintro e_ w2 ⟨A1, n1, c1, l1, rfl, hgl, h1, h2⟩
  have HR1 := Lib.hid h1
  have HF2 : Hid (Fr [g] wa w2) := Lib.hid (HF1.out.trans h2 (fun x hx _ => hx))
  have hq_ : Fr [g, w.heap.size] w1 w2 := h2.mono (fun x hx _ => by simp at hx; simp [hx])
  have HL1 := Lib.hid (GotL.lst (cells := Wdn.cells) (ok := fun _ _ v => v.Ok) (fun h _ _ => h) (fun _ _ v _ => Wdn.len v) hgl (q := w.heap.size) (N := w.heap.size) (g := g) (by have h3 := HB.out.lt; have h4 := HG.out; have h5 := HF1.out.size; omega) (by have h3 := HB.out.lt; have h4 := HG.out; have h5 := HF1.out.size; omega) (by have h3 := HB.out.lt; have h4 := HG.out; have h5 := HF1.out.size; omega))
  have HGL1 : Hid (_ ∧ _) := Lib.hid ⟨hgl.con, hgl.few⟩
  clear hgl
  clear h1 h2 hq_
  have HBE := Lib.hid (HB.out.keep HF2.out (by have := HG.out; simp; omega))
  have HBU := Lib.hid (built_tbR (pI s).1 A1 n1 c1 l1)
  obtain ⟨v, hv⟩ : ∃ v : Wtb, v = ⟨(pI s).1, A1, n1, c1, l1⟩ := ⟨_, rfl⟩
  have HVS : Hid (v.cells.toArray.size = 2) := Lib.hid (by rw [hv, List.size_toArray]; exact rfl)
  have HAL : Hid (v.cells.toArray.all (·.oneCell') = true) := Lib.hid (all_oneCell_toArray (Wtb.one _))
  have HTS : Hid ((Tryz.prog.info? 133).map (·.size) = some v.cells.toArray.size) := Lib.hid (by rw [HVS.out]; kernel_rfl)
  have HV := Lib.hid hv
  rw [← hv] at HBU
  clear hv
  obtain ⟨V, hV⟩ : ∃ V : Array Value, V = v.cells.toArray := ⟨_, rfl⟩
  have HVV := Lib.hid hV
  rw [← hV] at HBU HAL HVS HTS
  clear hV
  go_wp2_with (first
    | (refine wpList_builtg rfl 133 _ rfl _ _ HBU.out rfl ?_)
    | (refine wpList_store_blk rfl 133 _ _ rfl w.heap.size V rfl rfl 133 (Wtb.cells ⟨0, none, 0, 0, []⟩).toArray HBE.out HTS.out (by rw [HVS.out]; rfl) HAL.out ?_
       intro w9 hb9 hf9
       have HB9 := Lib.hid hb9
       have HF9 := Lib.hid hf9
       clear hb9 hf9))
  have hq9 : Fr [g, w.heap.size] w2 w9 := HF9.out.mono (fun x hx _ => by simp at hx; simp [hx])
  refine bodyPost_ret (v := .agg V) (results_cell_row Tryz.results156 _ _ w.heap.size 133 V _ _ rfl HB9.out Tryz.underlying133 rfl HTS.out) rfl ⟨v, by rw [HVV.out], ?_, fun S0 h0 => ?_, ?_, ?_⟩
  · rw [HV.out]; unfold Wtb.con; have := HGL1.out.1; rw [List.map_id] at this; rw [this]; rfl
  · rw [HV.out]; exact ⟨pI_in _, (HL1.out w9 hq9 S0 h0).1, HGL1.out.2, (HL1.out w9 hq9 S0 h0).2⟩
  · exact HR1.out.fr HF9.out (by have := HG.out; simp; omega) (fun k hk hm => HNF.out (by simp at hm; exact hm ▸ hk))
  · exact Fr.unbox HF0.out HF2.out HF9.out (Nat.le_refl _)
theorem getTombs_r {w : World} {F : List Nat} {g : Nat} {s : Ps} (hr : Rs w F g s) : Calls Tryz.prog 155 #[.pointer (some ⟨g, 0, none⟩), fnV 156] w fun e w' => ∃ (A : Option Addr) (n c : Nat) (l : List Wtb), e = .returned (.slice A n c) ∧ GotL 133 2 Wtb.cells (fun w S v => v.Li w S) Wtb.con w w' A n c l (pL pTb s).1 ∧ Rs w' F g (pL pTb s).2 ∧ Fr [g] w w' :=
  getTombs_any Wtb.cells (fun w S v => v.Li w S) Wtb.con pTb Wtb.one Wtb.Li.keep (fun _ _ _ _ => rfl) getTomb_any w F g s hr
set_option maxHeartbeats 2000000 in
theorem getBatch_any : Gets 143 Wba.cells (fun w S v => v.Li w S) Wba.con pBa := by
  intro w F g s hr
  obtain ⟨wa, hwa⟩ : ∃ wa, wa = w.alloc (Obj.cells (Wba.cells ⟨0, 0, none, 0, 0, [], none, 0, 0, [], none, 0, 0, []⟩).toArray 45) := ⟨_, rfl⟩
  have hf0 : Fr [] w wa := by rw [hwa]; exact (Fr.refl [] w).alloc _
  have HB : Hid (Blk wa w.heap.size 45 (Wba.cells ⟨0, 0, none, 0, 0, [], none, 0, 0, [], none, 0, 0, []⟩).toArray) := Lib.hid (by rw [hwa]; exact Blk.new _ _ _)
  have HR := Lib.hid (hr.fr hf0 (by simp) (by simp))
  have HNF : Hid (¬ w.heap.size ∈ F) := Lib.hid (fun hm => by have := hr.lt _ hm; omega)
  have HG : Hid (g < w.heap.size) := Lib.hid hr.gt
  have HF0 := Lib.hid hf0
  have HWA := Lib.hid hwa
  clear hwa hf0 hr
  go_enter Tryz.func143, Tryz.ntmps143
  go_upto_region 1 with (fail)
  change Code.wp _ _ _ _ (w.alloc (Obj.cells (Wba.cells ⟨0, 0, none, 0, 0, [], none, 0, 0, [], none, 0, 0, []⟩).toArray 45))
  rw [← HWA.out]
  go_wp2_with fail
  refine (getInt_any HR.out).mono ?_
  rintro e_ w1 ⟨rfl, h1, h2⟩
  have HR0 := Lib.hid h1
  have HF1 : Hid (Fr [g] wa w1) := Lib.hid h2
  have hq_ : Fr [g, w.heap.size] wa w1 := h2.mono (fun x hx _ => by simp at hx; simp [hx])
  clear h1 h2 hq_
  go_wp2_with fail
  refine (getNum_any HR0.out).mono ?_
  rintro e_ w2 ⟨rfl, h1, h2⟩
  have HR1 := Lib.hid h1
  have HF2 : Hid (Fr [g] wa w2) := Lib.hid (HF1.out.trans h2 (fun x hx _ => hx))
  have hq_ : Fr [g, w.heap.size] w1 w2 := h2.mono (fun x hx _ => by simp at hx; simp [hx])
  clear h1 h2 hq_
  go_wp2_with fail
  refine (getPromises_r HR1.out).mono ?_
  rintro e_ w3 ⟨A1, n1, c1, l1, rfl, hgl, h1, h2⟩
  have HR2 := Lib.hid h1
  have HF3 : Hid (Fr [g] wa w3) := Lib.hid (HF2.out.trans h2 (fun x hx _ => hx))
  have hq_ : Fr [g, w.heap.size] w2 w3 := h2.mono (fun x hx _ => by simp at hx; simp [hx])
  have HL1 := Lib.hid (GotL.lst (cells := Wpr.cells) (ok := fun w S v => v.Li w S) (Wpr.Li.keep) (fun _ _ _ _ => rfl) hgl (q := w.heap.size) (N := w.heap.size) (g := g) (by have h3 := HB.out.lt; have h4 := HG.out; have h5 := HF2.out.size; omega) (by have h3 := HB.out.lt; have h4 := HG.out; have h5 := HF2.out.size; omega) (by have h3 := HB.out.lt; have h4 := HG.out; have h5 := HF2.out.size; omega))
  have HGL1 : Hid (_ ∧ _) := Lib.hid ⟨hgl.con, hgl.few⟩
  clear hgl
  clear h1 h2 hq_
  go_wp2_with fail
  refine (getOpenings_r HR2.out).mono ?_
  rintro e_ w4 ⟨A2, n2, c2, l2, rfl, hgl, h1, h2⟩
  have HR3 := Lib.hid h1
  have HF4 : Hid (Fr [g] wa w4) := Lib.hid (HF3.out.trans h2 (fun x hx _ => hx))
  have hq_ : Fr [g, w.heap.size] w3 w4 := h2.mono (fun x hx _ => by simp at hx; simp [hx])
  have HL1 := Lib.hid (fun W (hW : Fr [g, w.heap.size] w4 W) => HL1.out W (hq_.trans hW (fun x hx _ => hx)))
  have HL2 := Lib.hid (GotL.lst (cells := Wop.cells) (ok := fun w S v => v.Ok w S) (Wop.Ok.keep) (fun _ _ _ h => Wop.len h.h) hgl (q := w.heap.size) (N := w.heap.size) (g := g) (by have h3 := HB.out.lt; have h4 := HG.out; have h5 := HF3.out.size; omega) (by have h3 := HB.out.lt; have h4 := HG.out; have h5 := HF3.out.size; omega) (by have h3 := HB.out.lt; have h4 := HG.out; have h5 := HF3.out.size; omega))
  have HGL2 : Hid (_ ∧ _) := Lib.hid ⟨hgl.con, hgl.few⟩
  clear hgl
  clear h1 h2 hq_
  go_wp2_with fail
  refine (getTombs_r HR3.out).mono ?_
  rintro e_ w5 ⟨A3, n3, c3, l3, rfl, hgl, h1, h2⟩
  have HR4 := Lib.hid h1
  have HF5 : Hid (Fr [g] wa w5) := Lib.hid (HF4.out.trans h2 (fun x hx _ => hx))
  have hq_ : Fr [g, w.heap.size] w4 w5 := h2.mono (fun x hx _ => by simp at hx; simp [hx])
  have HL1 := Lib.hid (fun W (hW : Fr [g, w.heap.size] w5 W) => HL1.out W (hq_.trans hW (fun x hx _ => hx)))
  have HL2 := Lib.hid (fun W (hW : Fr [g, w.heap.size] w5 W) => HL2.out W (hq_.trans hW (fun x hx _ => hx)))
  have HL3 := Lib.hid (GotL.lst (cells := Wtb.cells) (ok := fun w S v => v.Li w S) (Wtb.Li.keep) (fun _ _ _ _ => rfl) hgl (q := w.heap.size) (N := w.heap.size) (g := g) (by have h3 := HB.out.lt; have h4 := HG.out; have h5 := HF4.out.size; omega) (by have h3 := HB.out.lt; have h4 := HG.out; have h5 := HF4.out.size; omega) (by have h3 := HB.out.lt; have h4 := HG.out; have h5 := HF4.out.size; omega))
  have HGL3 : Hid (_ ∧ _) := Lib.hid ⟨hgl.con, hgl.few⟩
  clear hgl
  clear h1 h2 hq_
  have HBE := Lib.hid (HB.out.keep HF5.out (by have := HG.out; simp; omega))
  have HBU := Lib.hid (built_baR (pI s).1 (pN (pI s).2).1 A1 n1 c1 l1 A2 n2 c2 l2 A3 n3 c3 l3)
  obtain ⟨v, hv⟩ : ∃ v : Wba, v = ⟨(pI s).1, (pN (pI s).2).1, A1, n1, c1, l1, A2, n2, c2, l2, A3, n3, c3, l3⟩ := ⟨_, rfl⟩
  have HVS : Hid (v.cells.toArray.size = 5) := Lib.hid (by rw [hv, List.size_toArray]; exact rfl)
  have HAL : Hid (v.cells.toArray.all (·.oneCell') = true) := Lib.hid (all_oneCell_toArray (Wba.one _))
  have HTS : Hid ((Tryz.prog.info? 45).map (·.size) = some v.cells.toArray.size) := Lib.hid (by rw [HVS.out]; kernel_rfl)
  have HV := Lib.hid hv
  rw [← hv] at HBU
  clear hv
  obtain ⟨V, hV⟩ : ∃ V : Array Value, V = v.cells.toArray := ⟨_, rfl⟩
  have HVV := Lib.hid hV
  rw [← hV] at HBU HAL HVS HTS
  clear hV
  go_wp2_with (first
    | (refine wpList_builtg rfl 45 _ rfl _ _ HBU.out rfl ?_)
    | (refine wpList_store_blk rfl 45 _ _ rfl w.heap.size V rfl rfl 45 (Wba.cells ⟨0, 0, none, 0, 0, [], none, 0, 0, [], none, 0, 0, []⟩).toArray HBE.out HTS.out (by rw [HVS.out]; rfl) HAL.out ?_
       intro w9 hb9 hf9
       have HB9 := Lib.hid hb9
       have HF9 := Lib.hid hf9
       clear hb9 hf9))
  have hq9 : Fr [g, w.heap.size] w5 w9 := HF9.out.mono (fun x hx _ => by simp at hx; simp [hx])
  refine bodyPost_ret (v := .agg V) (results_cell_row Tryz.results143 _ _ w.heap.size 45 V _ _ rfl HB9.out Tryz.underlying45 rfl HTS.out) rfl ⟨v, by rw [HVV.out], ?_, fun S0 h0 => ?_, ?_, ?_⟩
  · rw [HV.out]; unfold Wba.con; rw [HGL1.out.1, HGL2.out.1, HGL3.out.1]; rfl
  · rw [HV.out]; exact ⟨pI_in _, pN_lt _, (HL1.out w9 hq9 S0 h0).1, HGL1.out.2, (HL1.out w9 hq9 S0 h0).2, (HL2.out w9 hq9 S0 h0).1, HGL2.out.2, (HL2.out w9 hq9 S0 h0).2, (HL3.out w9 hq9 S0 h0).1, HGL3.out.2, (HL3.out w9 hq9 S0 h0).2⟩
  · exact HR4.out.fr HF9.out (by have := HG.out; simp; omega) (fun k hk hm => HNF.out (by simp at hm; exact hm ▸ hk))
  · exact Fr.unbox HF0.out HF5.out HF9.out (Nat.le_refl _)
end Go.Proofs.YtnpjihdhpoddgaaGreat

namespace Go.Proofs.YtnpjihdhpoddgaaGreat
open Go.RowKit
set_option maxRecDepth 100000
/-- a place in the log (an api.Entry) -/
structure Wen where
  c : Int
  s : Int
  h : List UInt8
  t : Nat
def Wen.cells (x : Wen) : List Value := [.int .i64 x.c, .int .i64 x.s] ++ (x.h.map by8 ++ [.int .u64 (x.t : Int)])
structure Wen.Ok (x : Wen) : Prop where
  c : i64In x.c
  s : i64In x.s
  h : x.h.length = 32
  t : x.t < 18446744073709551616
theorem Wen.len {x : Wen} (h : x.h.length = 32) : x.cells.length = 35 := by simp [Wen.cells, h]
theorem Wen.one (x : Wen) : ∀ v ∈ x.cells, v.oneCell' = true := by
  intro v hv
  simp only [Wen.cells, List.mem_append, List.mem_cons, List.not_mem_nil, or_false] at hv
  rcases hv with (rfl | rfl) | hv | rfl
  · rfl
  · rfl
  · exact by8_one _ v hv
  · rfl
def zAk : Array Value := (Wst.cells ⟨0, 0, 0, List.replicate 32 0, 0, 0, 0⟩).toArray
def zVt : Array Value := (Wvt.cells ⟨0, 0, 0, 0, List.replicate 32 0, 0, 0⟩).toArray
def zEn : Array Value := (Wen.cells ⟨0, 0, List.replicate 32 0, 0⟩).toArray
theorem built_akE (parts : List (Nat × Value)) : Tryz.prog.built 37 parts = Instr.fill ([(0, 1), (1, 2), (3, 32), (35, 1), (36, 2)].toArray[·]?) zAk parts := by kernel_rfl
theorem built_akR (r c s : Int) (t : Nat) (b m : Int) (h : List UInt8) (hh : h.length = 32) :
    Tryz.prog.built 37 [(0, .int .i64 r), (1, .agg #[.int .i64 c, .int .i64 s]), (2, .agg (h.map by8).toArray), (3, .int .u64 (t : Int)), (4, .agg #[.int .i64 b, .int .i64 m])] = some (Wst.cells ⟨r, c, s, h, t, b, m⟩).toArray := by
  have hz : zAk.size = 38 := rfl
  rw [built_akE, fill_step _ _ 0 0 1 _ _ rfl rfl (by rw [hz]; omega), fill_step _ _ 1 1 2 _ _ rfl rfl (by simp [splice, zAk, Wst.cells, Value.cells]), fill_step _ _ 2 3 32 _ _ rfl (by simp [Value.cells, hh]) (by simp [splice, zAk, Wst.cells, Value.cells]),
    fill_step _ _ 3 35 1 _ _ rfl rfl (by simp [splice, zAk, Wst.cells, Value.cells, hh]), fill_step _ _ 4 36 2 _ _ rfl rfl (by simp [splice, zAk, Wst.cells, Value.cells, hh]), Instr.fill]
  congr 2
  have tk : ∀ n, 32 ≤ n → (h.map by8).take n = h.map by8 := fun n hn => List.take_of_length_le (by simp [hh]; omega)
  have dk : ∀ n, 32 ≤ n → (h.map by8).drop n = [] := fun n hn => List.drop_of_length_le (by simp [hh]; omega)
  simp [splice, zAk, Wst.cells, Value.cells, hh, List.drop_append, List.take_append, tk, dk]
theorem built_vtE (parts : List (Nat × Value)) : Tryz.prog.built 49 parts = Instr.fill ([(0, 1), (1, 1), (2, 1), (3, 1), (4, 32), (36, 2)].toArray[·]?) zVt parts := by kernel_rfl
theorem built_vtR (k e r q b m : Int) (h : List UInt8) (hh : h.length = 32) :
    Tryz.prog.built 49 [(0, .int .i64 k), (1, .int .i64 e), (2, .int .i64 r), (3, .int .i64 q), (4, .agg (h.map by8).toArray), (5, .agg #[.int .i64 b, .int .i64 m])] = some (Wvt.cells ⟨k, e, r, q, h, b, m⟩).toArray := by
  have hz : zVt.size = 38 := rfl
  rw [built_vtE, fill_step _ _ 0 0 1 _ _ rfl rfl (by rw [hz]; omega), fill_step _ _ 1 1 1 _ _ rfl rfl (by simp [splice, zVt, Wvt.cells, Value.cells]), fill_step _ _ 2 2 1 _ _ rfl rfl (by simp [splice, zVt, Wvt.cells, Value.cells]), fill_step _ _ 3 3 1 _ _ rfl rfl (by simp [splice, zVt, Wvt.cells, Value.cells]),
    fill_step _ _ 4 4 32 _ _ rfl (by simp [Value.cells, hh]) (by simp [splice, zVt, Wvt.cells, Value.cells]), fill_step _ _ 5 36 2 _ _ rfl rfl (by simp [splice, zVt, Wvt.cells, Value.cells, hh]), Instr.fill]
  congr 2
  have tk : ∀ n, 32 ≤ n → (h.map by8).take n = h.map by8 := fun n hn => List.take_of_length_le (by simp [hh]; omega)
  have dk : ∀ n, 32 ≤ n → (h.map by8).drop n = [] := fun n hn => List.drop_of_length_le (by simp [hh]; omega)
  simp [splice, zVt, Wvt.cells, Value.cells, hh, List.drop_append, List.take_append, tk, dk]
theorem built_enE (parts : List (Nat × Value)) : Tryz.prog.built 51 parts = Instr.fill ([(0, 2), (2, 32), (34, 1)].toArray[·]?) zEn parts := by kernel_rfl
theorem built_enR (c s : Int) (t : Nat) (h : List UInt8) (hh : h.length = 32) :
    Tryz.prog.built 51 [(0, .agg #[.int .i64 c, .int .i64 s]), (1, .agg (h.map by8).toArray), (2, .int .u64 (t : Int))] = some (Wen.cells ⟨c, s, h, t⟩).toArray := by
  have hz : zEn.size = 35 := rfl
  rw [built_enE, fill_step _ _ 0 0 2 _ _ rfl rfl (by rw [hz]; omega), fill_step _ _ 1 2 32 _ _ rfl (by simp [Value.cells, hh]) (by simp [splice, zEn, Wen.cells, Value.cells]),
    fill_step _ _ 2 34 1 _ _ rfl rfl (by simp [splice, zEn, Wen.cells, Value.cells, hh]), Instr.fill]
  congr 2
  have tk : ∀ n, 32 ≤ n → (h.map by8).take n = h.map by8 := fun n hn => List.take_of_length_le (by simp [hh]; omega)
  have dk : ∀ n, 32 ≤ n → (h.map by8).drop n = [] := fun n hn => List.drop_of_length_le (by simp [hh]; omega)
  simp [splice, zEn, Wen.cells, Value.cells, hh, List.drop_append, List.take_append, tk, dk]
def pVt (s : Ps) : Wvt × Ps :=
  let k := pI s; let e := pI k.2; let r := pI e.2; let q := pI r.2; let h := pH q.2; let g := p2 h.2
  (⟨k.1, e.1, r.1, q.1, h.1, g.1.1, g.1.2⟩, g.2)
def pEn (s : Ps) : Wen × Ps :=
  let n := p2 s; let h := pH n.2; let t := pN h.2
  (⟨n.1.1, n.1.2, h.1, t.1⟩, t.2)
theorem pVt_ok (s : Ps) : (pVt s).1.Ok := ⟨pI_in _, pI_in _, pI_in _, pI_in _, pH_len _, pI_in _, pI_in _⟩
theorem pEn_ok (s : Ps) : (pEn s).1.Ok := ⟨pI_in _, pI_in _, pH_len _, pN_lt _⟩
set_option maxHeartbeats 1000000 in
theorem getAck_any {w : World} {F : List Nat} {g : Nat} {s : Ps} (hr : Rs w F g s) : Calls Tryz.prog 106 #[.pointer (some ⟨g, 0, none⟩)] w fun e w' => e = .returned (.agg (pSt s).1.cells.toArray) ∧ Rs w' F g (pSt s).2 ∧ Fr [g] w w' := by
  obtain ⟨wa, hwa⟩ : ∃ wa, wa = w.alloc (Obj.cells zAk 37) := ⟨_, rfl⟩
  have hf0 : Fr [] w wa := by rw [hwa]; exact (Fr.refl [] w).alloc _
  have HB : Hid (Blk wa w.heap.size 37 zAk) := Lib.hid (by rw [hwa]; exact Blk.new _ _ _)
  have HR := Lib.hid (hr.fr hf0 (by simp) (by simp))
  have HNF : Hid (¬ w.heap.size ∈ F) := Lib.hid (fun hm => by have := hr.lt _ hm; omega)
  have HG : Hid (g < w.heap.size) := Lib.hid hr.gt
  have HF0 := Lib.hid hf0
  have HWA := Lib.hid hwa
  clear hwa hf0 hr
  go_enter Tryz.func106, Tryz.ntmps106
  go_upto_region 1 with (fail)
  change Code.wp _ _ _ _ (w.alloc (Obj.cells zAk 37))
  rw [← HWA.out]
  go_wp2_with fail
  refine (getInt_any HR.out).mono ?_
  rintro e_ w1 ⟨rfl, h1, h2⟩
  have HR0 := Lib.hid h1
  have HF1 : Hid (Fr [g] wa w1) := Lib.hid h2
  clear h1 h2
  go_wp2_with fail
  refine (getName_any HR0.out).mono ?_
  rintro e_ w2 ⟨rfl, h1, h2⟩
  have HR1 := Lib.hid h1
  have HF2 : Hid (Fr [g] wa w2) := Lib.hid (HF1.out.trans h2 (fun x hx _ => hx))
  clear h1 h2
  go_wp2_with fail
  refine (getHash_any HR1.out).mono ?_
  rintro e_ w3 ⟨rfl, h1, h2⟩
  have HR2 := Lib.hid h1
  have HF3 : Hid (Fr [g] wa w3) := Lib.hid (HF2.out.trans h2 (fun x hx _ => hx))
  clear h1 h2
  go_wp2_with fail
  refine (getNum_any HR2.out).mono ?_
  rintro e_ w4 ⟨rfl, h1, h2⟩
  have HR3 := Lib.hid h1
  have HF4 : Hid (Fr [g] wa w4) := Lib.hid (HF3.out.trans h2 (fun x hx _ => hx))
  clear h1 h2
  go_wp2_with fail
  refine (getSig_any HR3.out).mono ?_
  rintro e_ w5 ⟨rfl, h1, h2⟩
  have HR4 := Lib.hid h1
  have HF5 : Hid (Fr [g] wa w5) := Lib.hid (HF4.out.trans h2 (fun x hx _ => hx))
  clear h1 h2
  have HBE := Lib.hid (HB.out.keep HF5.out (by have := HG.out; simp; omega))
  have HBU : Hid (Tryz.prog.built 37 [(0, .int .i64 (pSt s).1.r), (1, .agg #[.int .i64 (pSt s).1.c, .int .i64 (pSt s).1.s]), (2, .agg ((pSt s).1.h.map by8).toArray), (3, .int .u64 ((pSt s).1.t : Int)), (4, .agg #[.int .i64 (pSt s).1.b, .int .i64 (pSt s).1.m])] = some (pSt s).1.cells.toArray) := Lib.hid (built_akR _ _ _ _ _ _ _ (pSt_ok s).h)
  have HAL : Hid (((pSt s).1.cells.toArray : Array Value).all (·.oneCell') = true) := Lib.hid (all_oneCell_toArray (Wst.one _))
  have HVS : Hid (((pSt s).1.cells.toArray : Array Value).size = 38) := Lib.hid (by rw [List.size_toArray]; exact Wst.len (pSt_ok s).h)
  have HTS : Hid ((Tryz.prog.info? 37).map (·.size) = some ((pSt s).1.cells.toArray : Array Value).size) := Lib.hid (by rw [HVS.out]; kernel_rfl)
  obtain ⟨V, hV⟩ : ∃ V, V = ((pSt s).1.cells.toArray : Array Value) := ⟨_, rfl⟩
  have HV := Lib.hid hV
  rw [← hV] at HBU HAL HVS HTS
  clear hV
  go_wp2_with (first
    | (refine wpList_builtg rfl 37 _ rfl _ _ HBU.out rfl ?_)
    | (refine wpList_store_blk rfl 37 _ _ rfl w.heap.size V rfl rfl 37 zAk HBE.out HTS.out (by rw [HVS.out]; rfl) HAL.out ?_
       intro w9 hb9 hf9
       have HB9 := Lib.hid hb9
       have HF9 := Lib.hid hf9
       clear hb9 hf9))
  refine bodyPost_ret (v := .agg V) (results_cell_row Tryz.results106 _ _ w.heap.size 37 V _ _ rfl HB9.out Tryz.underlying37 rfl HTS.out) rfl ⟨by rw [HV.out], ?_, ?_⟩
  · exact HR4.out.fr HF9.out (by have := HG.out; simp; omega) (fun k hk hm => HNF.out (by simp at hm; exact hm ▸ hk))
  · exact Fr.unbox HF0.out HF5.out HF9.out (Nat.le_refl _)
set_option maxHeartbeats 1000000 in
theorem getVote_any {w : World} {F : List Nat} {g : Nat} {s : Ps} (hr : Rs w F g s) : Calls Tryz.prog 110 #[.pointer (some ⟨g, 0, none⟩)] w fun e w' => e = .returned (.agg (pVt s).1.cells.toArray) ∧ Rs w' F g (pVt s).2 ∧ Fr [g] w w' := by
  obtain ⟨wa, hwa⟩ : ∃ wa, wa = w.alloc (Obj.cells zVt 49) := ⟨_, rfl⟩
  have hf0 : Fr [] w wa := by rw [hwa]; exact (Fr.refl [] w).alloc _
  have HB : Hid (Blk wa w.heap.size 49 zVt) := Lib.hid (by rw [hwa]; exact Blk.new _ _ _)
  have HR := Lib.hid (hr.fr hf0 (by simp) (by simp))
  have HNF : Hid (¬ w.heap.size ∈ F) := Lib.hid (fun hm => by have := hr.lt _ hm; omega)
  have HG : Hid (g < w.heap.size) := Lib.hid hr.gt
  have HF0 := Lib.hid hf0
  have HWA := Lib.hid hwa
  clear hwa hf0 hr
  go_enter Tryz.func110, Tryz.ntmps110
  go_upto_region 1 with (fail)
  change Code.wp _ _ _ _ (w.alloc (Obj.cells zVt 49))
  rw [← HWA.out]
  go_wp2_with fail
  refine (getInt_any HR.out).mono ?_
  rintro e_ w1 ⟨rfl, h1, h2⟩
  have HR0 := Lib.hid h1
  have HF1 : Hid (Fr [g] wa w1) := Lib.hid h2
  clear h1 h2
  go_wp2_with fail
  refine (getInt_any HR0.out).mono ?_
  rintro e_ w2 ⟨rfl, h1, h2⟩
  have HR1 := Lib.hid h1
  have HF2 : Hid (Fr [g] wa w2) := Lib.hid (HF1.out.trans h2 (fun x hx _ => hx))
  clear h1 h2
  go_wp2_with fail
  refine (getInt_any HR1.out).mono ?_
  rintro e_ w3 ⟨rfl, h1, h2⟩
  have HR2 := Lib.hid h1
  have HF3 : Hid (Fr [g] wa w3) := Lib.hid (HF2.out.trans h2 (fun x hx _ => hx))
  clear h1 h2
  go_wp2_with fail
  refine (getInt_any HR2.out).mono ?_
  rintro e_ w4 ⟨rfl, h1, h2⟩
  have HR3 := Lib.hid h1
  have HF4 : Hid (Fr [g] wa w4) := Lib.hid (HF3.out.trans h2 (fun x hx _ => hx))
  clear h1 h2
  go_wp2_with fail
  refine (getHash_any HR3.out).mono ?_
  rintro e_ w5 ⟨rfl, h1, h2⟩
  have HR4 := Lib.hid h1
  have HF5 : Hid (Fr [g] wa w5) := Lib.hid (HF4.out.trans h2 (fun x hx _ => hx))
  clear h1 h2
  go_wp2_with fail
  refine (getSig_any HR4.out).mono ?_
  rintro e_ w6 ⟨rfl, h1, h2⟩
  have HR5 := Lib.hid h1
  have HF6 : Hid (Fr [g] wa w6) := Lib.hid (HF5.out.trans h2 (fun x hx _ => hx))
  clear h1 h2
  have HBE := Lib.hid (HB.out.keep HF6.out (by have := HG.out; simp; omega))
  have HBU : Hid (Tryz.prog.built 49 [(0, .int .i64 (pVt s).1.k), (1, .int .i64 (pVt s).1.e), (2, .int .i64 (pVt s).1.r), (3, .int .i64 (pVt s).1.p), (4, .agg ((pVt s).1.h.map by8).toArray), (5, .agg #[.int .i64 (pVt s).1.b, .int .i64 (pVt s).1.m])] = some (pVt s).1.cells.toArray) := Lib.hid (built_vtR _ _ _ _ _ _ _ (pVt_ok s).h)
  have HAL : Hid (((pVt s).1.cells.toArray : Array Value).all (·.oneCell') = true) := Lib.hid (all_oneCell_toArray (Wvt.one _))
  have HVS : Hid (((pVt s).1.cells.toArray : Array Value).size = 38) := Lib.hid (by rw [List.size_toArray]; exact Wvt.len (pVt_ok s).h)
  have HTS : Hid ((Tryz.prog.info? 49).map (·.size) = some ((pVt s).1.cells.toArray : Array Value).size) := Lib.hid (by rw [HVS.out]; kernel_rfl)
  obtain ⟨V, hV⟩ : ∃ V, V = ((pVt s).1.cells.toArray : Array Value) := ⟨_, rfl⟩
  have HV := Lib.hid hV
  rw [← hV] at HBU HAL HVS HTS
  clear hV
  go_wp2_with (first
    | (refine wpList_builtg rfl 49 _ rfl _ _ HBU.out rfl ?_)
    | (refine wpList_store_blk rfl 49 _ _ rfl w.heap.size V rfl rfl 49 zVt HBE.out HTS.out (by rw [HVS.out]; rfl) HAL.out ?_
       intro w9 hb9 hf9
       have HB9 := Lib.hid hb9
       have HF9 := Lib.hid hf9
       clear hb9 hf9))
  refine bodyPost_ret (v := .agg V) (results_cell_row Tryz.results110 _ _ w.heap.size 49 V _ _ rfl HB9.out Tryz.underlying49 rfl HTS.out) rfl ⟨by rw [HV.out], ?_, ?_⟩
  · exact HR5.out.fr HF9.out (by have := HG.out; simp; omega) (fun k hk hm => HNF.out (by simp at hm; exact hm ▸ hk))
  · exact Fr.unbox HF0.out HF6.out HF9.out (Nat.le_refl _)
set_option maxHeartbeats 1000000 in
theorem getEntry_any {w : World} {F : List Nat} {g : Nat} {s : Ps} (hr : Rs w F g s) : Calls Tryz.prog 111 #[.pointer (some ⟨g, 0, none⟩)] w fun e w' => e = .returned (.agg (pEn s).1.cells.toArray) ∧ Rs w' F g (pEn s).2 ∧ Fr [g] w w' := by
  obtain ⟨wa, hwa⟩ : ∃ wa, wa = w.alloc (Obj.cells zEn 51) := ⟨_, rfl⟩
  have hf0 : Fr [] w wa := by rw [hwa]; exact (Fr.refl [] w).alloc _
  have HB : Hid (Blk wa w.heap.size 51 zEn) := Lib.hid (by rw [hwa]; exact Blk.new _ _ _)
  have HR := Lib.hid (hr.fr hf0 (by simp) (by simp))
  have HNF : Hid (¬ w.heap.size ∈ F) := Lib.hid (fun hm => by have := hr.lt _ hm; omega)
  have HG : Hid (g < w.heap.size) := Lib.hid hr.gt
  have HF0 := Lib.hid hf0
  have HWA := Lib.hid hwa
  clear hwa hf0 hr
  go_enter Tryz.func111, Tryz.ntmps111
  go_upto_region 1 with (fail)
  change Code.wp _ _ _ _ (w.alloc (Obj.cells zEn 51))
  rw [← HWA.out]
  go_wp2_with fail
  refine (getName_any HR.out).mono ?_
  rintro e_ w1 ⟨rfl, h1, h2⟩
  have HR0 := Lib.hid h1
  have HF1 : Hid (Fr [g] wa w1) := Lib.hid h2
  clear h1 h2
  go_wp2_with fail
  refine (getHash_any HR0.out).mono ?_
  rintro e_ w2 ⟨rfl, h1, h2⟩
  have HR1 := Lib.hid h1
  have HF2 : Hid (Fr [g] wa w2) := Lib.hid (HF1.out.trans h2 (fun x hx _ => hx))
  clear h1 h2
  go_wp2_with fail
  refine (getNum_any HR1.out).mono ?_
  rintro e_ w3 ⟨rfl, h1, h2⟩
  have HR2 := Lib.hid h1
  have HF3 : Hid (Fr [g] wa w3) := Lib.hid (HF2.out.trans h2 (fun x hx _ => hx))
  clear h1 h2
  have HBE := Lib.hid (HB.out.keep HF3.out (by have := HG.out; simp; omega))
  have HBU : Hid (Tryz.prog.built 51 [(0, .agg #[.int .i64 (pEn s).1.c, .int .i64 (pEn s).1.s]), (1, .agg ((pEn s).1.h.map by8).toArray), (2, .int .u64 ((pEn s).1.t : Int))] = some (pEn s).1.cells.toArray) := Lib.hid (built_enR _ _ _ _ (pEn_ok s).h)
  have HAL : Hid (((pEn s).1.cells.toArray : Array Value).all (·.oneCell') = true) := Lib.hid (all_oneCell_toArray (Wen.one _))
  have HVS : Hid (((pEn s).1.cells.toArray : Array Value).size = 35) := Lib.hid (by rw [List.size_toArray]; exact Wen.len (pEn_ok s).h)
  have HTS : Hid ((Tryz.prog.info? 51).map (·.size) = some ((pEn s).1.cells.toArray : Array Value).size) := Lib.hid (by rw [HVS.out]; kernel_rfl)
  obtain ⟨V, hV⟩ : ∃ V, V = ((pEn s).1.cells.toArray : Array Value) := ⟨_, rfl⟩
  have HV := Lib.hid hV
  rw [← hV] at HBU HAL HVS HTS
  clear hV
  go_wp2_with (first
    | (refine wpList_builtg rfl 51 _ rfl _ _ HBU.out rfl ?_)
    | (refine wpList_store_blk rfl 51 _ _ rfl w.heap.size V rfl rfl 51 zEn HBE.out HTS.out (by rw [HVS.out]; rfl) HAL.out ?_
       intro w9 hb9 hf9
       have HB9 := Lib.hid hb9
       have HF9 := Lib.hid hf9
       clear hb9 hf9))
  refine bodyPost_ret (v := .agg V) (results_cell_row Tryz.results111 _ _ w.heap.size 51 V _ _ rfl HB9.out Tryz.underlying51 rfl HTS.out) rfl ⟨by rw [HV.out], ?_, ?_⟩
  · exact HR2.out.fr HF9.out (by have := HG.out; simp; omega) (fun k hk hm => HNF.out (by simp at hm; exact hm ▸ hk))
  · exact Fr.unbox HF0.out HF3.out HF9.out (Nat.le_refl _)
theorem el_voteM : ElTy Tryz.prog 49 38 80 := ElTy.of (by kernel_rfl)
set_option maxHeartbeats 4000000 in
theorem getVotes_any {α β : Type} (cells : α → List Value) (ok : World → List Nat → α → Prop) (con : α → β) (p : Ps → β × Ps) (hone : ∀ v, ∀ u ∈ cells v, u.oneCell' = true)
    (hkeep : ∀ {w W : World} {S S' : List Nat} {x : α}, ok w S x → Fr S w W → (∀ k ∈ S', k < w.heap.size → k ∈ S) → ok W S' x) (hlen : ∀ w S v, ok w S v → (cells v).length = 38) (hget : Gets 110 cells ok con p)
    (w : World) (F : List Nat) (g : Nat) (s : Ps) (hr : Rs w F g s) :
    Calls Tryz.prog 145 #[.pointer (some ⟨g, 0, none⟩), fnV 110] w fun e w' => ∃ (A : Option Addr) (n c : Nat) (l : List α), e = .returned (.slice A n c) ∧ GotL 49 38 cells ok con w w' A n c l (pL p s).1 ∧ Rs w' F g (pL p s).2 ∧ Fr [g] w w' := by
  have HR := Lib.hid hr
  have HG : Hid (g < w.heap.size ∧ ∀ k ∈ F, k < w.heap.size) := Lib.hid ⟨hr.gt, hr.lt⟩
  have HGET := Lib.hid hget
  clear hr hget
  unfold fnV
  go_enter Tryz.func145, Tryz.ntmps145
  go_wp2_with fail
  refine (getCount_any HR.out).mono ?_
  rintro e_ w1 ⟨rfl, h1, h2⟩
  have HR1 := Lib.hid h1
  have HF1 := Lib.hid h2
  have HPL : Hid (pL p s = pRep p (pC s).1 (pC s).2) := Lib.hid rfl
  have hn := pC_le s
  clear h1 h2
  generalize (pC s).1 = n at *
  generalize (pC s).2 = s1 at *
  go_wp2_with fail
  go_loopw [5, 8] (fun sl i wr => ∃ (k : Nat) (A4 : Option Addr) (c4 : Nat) (ys : List α), k ≤ n ∧ i = .int .i64 k ∧ sl = .slice A4 k c4 ∧ ys.length = k ∧ Hid (ys.map con = (pRep p k s1).1) ∧ Hid (wr.ownsRow 0 49 38 (.slice A4 k c4) k (ys.flatMap cells)) ∧ Hid (∀ q ∈ bk A4, w.heap.size ≤ q) ∧ Hid (∀ y ∈ ys, ∀ S0 : List Nat, (∀ q ∈ S0, q < w.heap.size ∨ q ∈ bk A4) → ok wr S0 y) ∧ Hid (Rs wr F g (pRep p k s1).2) ∧ Hid (Fr [g] w wr)) (fun _ i _ => n - (intOf i).toNat)
  case atStart => exact ⟨0, none, 0, [], by omega, rfl, rfl, rfl, Lib.hid rfl, Lib.hid ⟨by simp, .inl ⟨rfl, rfl⟩⟩, Lib.hid (by simp [bk]), Lib.hid (by simp), HR1, HF1⟩
  case round =>
    obtain ⟨k, A4, c4, ys, hk, rfl, rfl, hyl, HCN, HO, HNA, HYS, HRR, HF⟩ := hrel
    by_cases hlt : k < n
    · have HKN : Hid (k < n) := Lib.hid hlt
      have hk0 : (0 : Int) ≤ k := by omega
      go_wp2_with fail
      refine (HGET.out wr F g _ HRR.out).mono ?_
      rintro e_ w4 ⟨y, rfl, hyc, hyok, hr4, hf4⟩
      have HYC := Lib.hid hyc
      have HR4 := Lib.hid hr4
      have HF4 := Lib.hid hf4
      have HNW : Hid (∀ S0 : List Nat, (∀ q ∈ S0, q < w.heap.size ∨ q ∈ g :: bk A4) → ok w4 S0 y) := Lib.hid (fun S0 h0 => hyok S0 (fun q hq => by
        have h1 := HF.out.size
        have h2 := HG.out.1
        rcases h0 q hq with h | h
        · omega
        · rcases List.mem_cons.1 h with h | h
          · omega
          · exact own_lt HO.out q ((bk_mem A4 k c4 q).2 h)))
      have hD : (cells y).length = 38 := hlen _ _ _ (hyok [] (by simp))
      have hD1 := hone y
      have HO4 := Lib.hid (own_keep HO.out hf4 (fun q hq hm => by have h1 := HNA.out q ((bk_mem A4 k c4 q).1 hq); have h2 := HG.out.1; simp at hm; omega))
      obtain ⟨D, hDY⟩ : ∃ D, D = cells y := ⟨_, rfl⟩
      rw [← hDY] at hD hD1 ⊢
      have HD := Lib.hid hD
      have HD1 := Lib.hid hD1
      have HDY := Lib.hid hDY
      clear hyc hyok hr4 hf4 hD hD1 hDY hlt
      go_wp2_with (first | (refine wpList_build_one rfl 57 49 _ rfl Tryz.underlying57 D 80 (by rw [HD.out]; exact el_voteM) rfl (by rw [HD.out]; decide) (by rw [HD.out]; decide) ?_) | (at_builtin; refine Stop.mk ?_))
      refine Stop.go ?_
      refine wpList_append_one2 rfl _ _ 57 49 rfl Tryz.underlying57 38 80 el_voteM (by decide) 0 (.slice A4 k c4) k _ D rfl (HO4.out.alloc _) (Nat.zero_le _) HD.out HD1.out w4.heap.size 49 rfl (Blk.new _ _ _) (by omega) (by decide) ?_
      intro A9 c9 w9 ho9 hf9 hb9
      have HO9 := Lib.hid ho9
      have HF9 : Hid (Fr (bk A4) w4 w9) := Lib.hid (by
        have h : Fr (bk A4) (w4.alloc (Obj.cells D.toArray 49)) w9 := by rw [← bk_own A4 k c4]; exact hf9
        exact (((Fr.refl [] w4).alloc _).mono (by simp)).trans h (fun y hy _ => hy))
      have HB9 : Hid (∀ q ∈ bk A9, q ∈ bk A4 ∨ w4.heap.size ≤ q) := Lib.hid (by
        intro q hq
        rw [← bk_own A9 (k + 1) c9] at hq
        rcases hb9 with h | h
        · rw [h, bk_own] at hq; exact .inl hq
        · rw [h] at hq; simp at hq; exact .inr (by omega))
      clear ho9 hf9 hb9
      go_wp2
      go_roundw
      case rel =>
        have hbl : ∀ q ∈ bk A4, w.heap.size ≤ q := HNA.out
        refine ⟨k + 1, A9, c9, ys ++ [y], by have := HKN.out; omega, by go_num, rfl, by simp [hyl], ?_, ?_, ?_, ?_, ?_, ?_⟩
        · exact Lib.hid (by rw [List.map_append, HCN.out]; show _ ++ [con y] = _; rw [HYC.out]; rfl)
        · refine Lib.hid ?_
          rw [List.flatMap_append, List.flatMap_singleton, ← HDY.out]
          exact HO9.out
        · refine Lib.hid (fun q hq => ?_)
          rcases HB9.out q hq with h | h
          · exact hbl q h
          · have h1 := HF.out.size; have h2 := HF4.out.size; omega
        · refine Lib.hid (fun u hu S0 h0 => ?_)
          have hfg : Fr (g :: bk A4) w4 w9 := HF9.out.mono (fun q hq _ => by simp [hq])
          have hfr : Fr (g :: bk A4) wr w9 := (HF4.out.mono (fun q hq _ => by simp at hq; simp [hq])).trans hfg (fun q hq _ => hq)
          have h0' : ∀ q ∈ S0, q < w.heap.size ∨ q ∈ g :: bk A9 := fun q hq => (h0 q hq).imp id (fun h => by simp [h])
          have hsz := HF4.out.size
          rcases List.mem_append.1 hu with hu | hu
          · refine keepAll (ok := ok) (fun h f s => hkeep h f s) (w := wr) (B4 := g :: bk A4) (B9 := g :: bk A9) hfr (fun q hq => ?_) (fun S1 h1 => HYS.out u hu S1 (fun q hq => ?_)) S0 h0'
            · rcases List.mem_cons.1 hq with h | h
              · exact .inl (by simp [h])
              · exact (HB9.out q h).imp (fun h => by simp [h]) (fun h => by omega)
            · rcases h1 q hq with h | h
              · exact .inl h
              · rcases List.mem_cons.1 h with h | h
                · exact .inl (by have := HG.out.1; omega)
                · exact .inr h
          · rw [List.mem_singleton.1 hu]
            refine keepAll (ok := ok) (fun h f s => hkeep h f s) (w := w4) (B4 := g :: bk A4) (B9 := g :: bk A9) hfg (fun q hq => ?_) HNW.out S0 h0'
            rcases List.mem_cons.1 hq with h | h
            · exact .inl (by simp [h])
            · exact (HB9.out q h).imp (fun h => by simp [h]) id
        · refine Lib.hid (HR4.out.fr HF9.out (fun hm => ?_) (fun q hq hm => ?_))
          · have h1 := hbl _ hm; have h2 := HG.out.1; omega
          · have h1 := hbl _ hm; have h2 := HG.out.2 q hq; omega
        · exact Lib.hid ((HF.out.trans HF4.out (fun q hq _ => hq)).trans HF9.out (fun q hq hl => by have := hbl q hq; omega))
      case measure => have := HKN.out; simp [intOf]; omega
    · have hkn : n = k := by omega
      subst hkn
      have HFIN : Hid (GotL 49 38 cells ok con w wr A4 n c4 ys (pL p s).1 ∧ Rs wr F g (pL p s).2) := Lib.hid (by
        rw [HPL.out]
        exact ⟨⟨HO.out, hyl, HCN.out, hn, HNA.out, fun v hv S0 h0 => HYS.out v hv S0 (fun q hq => .inl (h0 q hq))⟩, HRR.out⟩)
      clear hlt hk
      go_wp2
      go_ret
      exact ⟨A4, n, c4, ys, rfl, HFIN.out.1, HFIN.out.2, HF.out⟩

theorem getVotes_r {w : World} {F : List Nat} {g : Nat} {s : Ps} (hr : Rs w F g s) : Calls Tryz.prog 145 #[.pointer (some ⟨g, 0, none⟩), fnV 110] w fun e w' => ∃ (A : Option Addr) (n c : Nat) (l : List Wvt), e = .returned (.slice A n c) ∧ GotL 49 38 Wvt.cells (fun _ _ v => v.Ok) id w w' A n c l (pL pVt s).1 ∧ Rs w' F g (pL pVt s).2 ∧ Fr [g] w w' :=
  getVotes_any Wvt.cells (fun _ _ v => v.Ok) id pVt Wvt.one (fun h _ _ => h) (fun _ _ _ h => Wvt.len h.h) (gets_of (fun _ _ _ _ hr => getVote_any hr) pVt_ok) w F g s hr
/-- what was decided -/
structure Wdc where
  e : Int
  r : Int
  k : Wba
  A : Option Addr
  n : Nat
  d : Nat
  l : List Wvt
def Wdc.cells (x : Wdc) : List Value := [.int .i64 x.e, .int .i64 x.r] ++ (x.k.cells ++ [.slice x.A x.n x.d])
theorem Wdc.one (x : Wdc) : ∀ v ∈ x.cells, v.oneCell' = true := by
  intro v hv
  simp only [Wdc.cells, List.mem_append, List.mem_cons, List.not_mem_nil, or_false] at hv
  rcases hv with (rfl | rfl) | hv | rfl
  · rfl
  · rfl
  · exact Wba.one _ v hv
  · rfl
structure Wdc.Li (w : World) (S : List Nat) (x : Wdc) : Prop where
  e : i64In x.e
  r : i64In x.r
  k : x.k.Li w S
  l : Lst 38 Wvt.cells (fun _ v => v.Ok) w x.A x.n x.l
  n : x.n ≤ 100
  ap : 0 < x.n → ∀ a, x.A = some a → ¬ a.block ∈ S
structure Cdc where
  e : Int
  r : Int
  k : Cba
  l : List Wvt
def Wdc.con (x : Wdc) : Cdc := ⟨x.e, x.r, x.k.con, x.l⟩
theorem Wpo.one (x : Wpo) : ∀ v ∈ x.cells, v.oneCell' = true := by
  intro v hv
  simp only [Wpo.cells, List.mem_append, List.mem_cons, List.not_mem_nil, or_false] at hv
  rcases hv with (rfl | rfl | rfl | rfl) | hv | rfl | rfl
  · rfl
  · rfl
  · rfl
  · rfl
  · exact Wba.one _ v hv
  · rfl
  · rfl
structure Wpo.Li (w : World) (S : List Nat) (x : Wpo) : Prop where
  e : i64In x.e
  r : i64In x.r
  v : i64In x.v
  p : i64In x.p
  k : x.k.Li w S
  b : i64In x.b
  m : i64In x.m
structure Cpo where
  e : Int
  r : Int
  v : Int
  p : Int
  k : Cba
  b : Int
  m : Int
def Wpo.con (x : Wpo) : Cpo := ⟨x.e, x.r, x.v, x.p, x.k.con, x.b, x.m⟩
def pPo (s : Ps) : Cpo × Ps :=
  let e := pI s; let r := pI e.2; let v := pI r.2; let p := pI v.2; let k := pBa p.2; let g := p2 k.2
  (⟨e.1, r.1, v.1 - 1, p.1, k.1, g.1.1, g.1.2⟩, g.2)
def pDc (s : Ps) : Cdc × Ps :=
  let e := pI s; let r := pI e.2; let k := pBa r.2; let l := pL pVt k.2
  (⟨e.1, r.1, k.1, l.1⟩, l.2)
theorem built_dcR (e r : Int) (k : Wba) (A : Option Addr) (n d : Nat) (l : List Wvt) : Tryz.prog.built 59 [(0, .int .i64 e), (1, .int .i64 r), (2, .agg k.cells.toArray), (3, .slice A n d)] = some (Wdc.cells ⟨e, r, k, A, n, d, l⟩).toArray := by kernel_rfl
theorem built_poR (e r v p : Int) (k : Wba) (b m : Int) : Tryz.prog.built 47 [(0, .int .i64 e), (1, .int .i64 r), (2, .int .i64 v), (3, .int .i64 p), (4, .agg k.cells.toArray), (5, .agg #[.int .i64 b, .int .i64 m])] = some (Wpo.cells ⟨e, r, v, p, k, b, m⟩).toArray := by kernel_rfl
theorem pI_wrap (s : Ps) : wrap64 ((pI s).1 - 1) = (pI s).1 - 1 := by
  have h := inN_le s.1 (m := 1099511627776) (by omega)
  unfold pI wrap64
  simp only
  omega
theorem pI_lessW (s : Ps) : i64In (wrap64 ((pI s).1 - 1)) := by
  have h := inN_le s.1 (m := 1099511627776) (by omega)
  unfold pI wrap64 i64In
  simp only
  omega
theorem pI_less (s : Ps) : i64In ((pI s).1 - 1) := by
  have h := inN_le s.1 (m := 1099511627776) (by omega)
  unfold pI i64In
  simp only
  omega
set_option maxHeartbeats 2000000 in
theorem getDecided_any : Gets 115 Wdc.cells (fun w S v => v.Li w S) Wdc.con pDc := by
  intro w F g s hr
  obtain ⟨wa, hwa⟩ : ∃ wa, wa = w.alloc (Obj.cells (Wdc.cells ⟨0, 0, ⟨0, 0, none, 0, 0, [], none, 0, 0, [], none, 0, 0, []⟩, none, 0, 0, []⟩).toArray 59) := ⟨_, rfl⟩
  have hf0 : Fr [] w wa := by rw [hwa]; exact (Fr.refl [] w).alloc _
  have HB : Hid (Blk wa w.heap.size 59 (Wdc.cells ⟨0, 0, ⟨0, 0, none, 0, 0, [], none, 0, 0, [], none, 0, 0, []⟩, none, 0, 0, []⟩).toArray) := Lib.hid (by rw [hwa]; exact Blk.new _ _ _)
  have HR := Lib.hid (hr.fr hf0 (by simp) (by simp))
  have HNF : Hid (¬ w.heap.size ∈ F) := Lib.hid (fun hm => by have := hr.lt _ hm; omega)
  have HG : Hid (g < w.heap.size) := Lib.hid hr.gt
  have HF0 := Lib.hid hf0
  have HWA := Lib.hid hwa
  clear hwa hf0 hr
  go_enter Tryz.func115, Tryz.ntmps115
  go_upto_region 1 with (fail)
  change Code.wp _ _ _ _ (w.alloc (Obj.cells (Wdc.cells ⟨0, 0, ⟨0, 0, none, 0, 0, [], none, 0, 0, [], none, 0, 0, []⟩, none, 0, 0, []⟩).toArray 59))
  rw [← HWA.out]
  go_wp2_with fail
  refine (getInt_any HR.out).mono ?_
  rintro e_ w1 ⟨rfl, h1, h2⟩
  have HR0 := Lib.hid h1
  have HF1 : Hid (Fr [g] wa w1) := Lib.hid h2
  have hq_ : Fr [g, w.heap.size] wa w1 := h2.mono (fun x hx _ => by simp at hx; simp [hx])
  clear h1 h2 hq_
  go_wp2_with fail
  refine (getInt_any HR0.out).mono ?_
  rintro e_ w2 ⟨rfl, h1, h2⟩
  have HR1 := Lib.hid h1
  have HF2 : Hid (Fr [g] wa w2) := Lib.hid (HF1.out.trans h2 (fun x hx _ => hx))
  have hq_ : Fr [g, w.heap.size] w1 w2 := h2.mono (fun x hx _ => by simp at hx; simp [hx])
  clear h1 h2 hq_
  go_wp2_with fail
  refine (getBatch_any _ F g _ HR1.out).mono ?_
  rintro e_ w3 ⟨vb, rfl, hcb, hokb, h1, h2⟩
  have HR2 := Lib.hid h1
  have HF3 : Hid (Fr [g] wa w3) := Lib.hid (HF2.out.trans h2 (fun x hx _ => hx))
  have hq_ : Fr [g, w.heap.size] w2 w3 := h2.mono (fun x hx _ => by simp at hx; simp [hx])
  have HL0 : Hid (∀ W, Fr [g, w.heap.size] w3 W → ∀ S0 : List Nat, (∀ q ∈ S0, q < w.heap.size) → vb.Li W S0) := Lib.hid (fun W hW S0 h0 => (hokb (g :: w.heap.size :: S0) (fun q hq => by
    have h3 := HB.out.lt; have h4 := HG.out; have h5 := HF2.out.size
    rcases List.mem_cons.1 hq with rfl | hq
    · omega
    · rcases List.mem_cons.1 hq with rfl | hq
      · omega
      · have := h0 q hq; omega)).keep (hW.mono (fun k hk _ => by simp at hk; simp; omega)) (fun k hk _ => by simp [hk]))
  have HCB := Lib.hid hcb
  clear hcb hokb
  clear h1 h2 hq_
  go_wp2_with fail
  refine (getVotes_r HR2.out).mono ?_
  rintro e_ w4 ⟨A1, n1, c1, l1, rfl, hgl, h1, h2⟩
  have HR3 := Lib.hid h1
  have HF4 : Hid (Fr [g] wa w4) := Lib.hid (HF3.out.trans h2 (fun x hx _ => hx))
  have hq_ : Fr [g, w.heap.size] w3 w4 := h2.mono (fun x hx _ => by simp at hx; simp [hx])
  have HL0 := Lib.hid (fun W (hW : Fr [g, w.heap.size] w4 W) => HL0.out W (hq_.trans hW (fun x hx _ => hx)))
  have HL1 := Lib.hid (GotL.lst (cells := Wvt.cells) (ok := fun _ _ v => v.Ok) (fun h _ _ => h) (fun _ _ _ h => Wvt.len h.h) hgl (q := w.heap.size) (N := w.heap.size) (g := g) (by have h3 := HB.out.lt; have h4 := HG.out; have h5 := HF3.out.size; omega) (by have h3 := HB.out.lt; have h4 := HG.out; have h5 := HF3.out.size; omega) (by have h3 := HB.out.lt; have h4 := HG.out; have h5 := HF3.out.size; omega))
  have HGL1 : Hid (_ ∧ _) := Lib.hid ⟨hgl.con, hgl.few⟩
  clear hgl
  clear h1 h2 hq_
  have HBE := Lib.hid (HB.out.keep HF4.out (by have := HG.out; simp; omega))
  have HBU := Lib.hid (built_dcR (pI s).1 (pI (pI s).2).1 vb A1 n1 c1 l1)
  obtain ⟨v, hv⟩ : ∃ v : Wdc, v = ⟨(pI s).1, (pI (pI s).2).1, vb, A1, n1, c1, l1⟩ := ⟨_, rfl⟩
  have HVS : Hid (v.cells.toArray.size = 8) := Lib.hid (by rw [hv, List.size_toArray]; exact rfl)
  have HAL : Hid (v.cells.toArray.all (·.oneCell') = true) := Lib.hid (all_oneCell_toArray (Wdc.one _))
  have HTS : Hid ((Tryz.prog.info? 59).map (·.size) = some v.cells.toArray.size) := Lib.hid (by rw [HVS.out]; kernel_rfl)
  have HV := Lib.hid hv
  rw [← hv] at HBU
  clear hv
  obtain ⟨V, hV⟩ : ∃ V : Array Value, V = v.cells.toArray := ⟨_, rfl⟩
  have HVV := Lib.hid hV
  rw [← hV] at HBU HAL HVS HTS
  clear hV
  go_wp2_with (first
    | (refine wpList_builtg rfl 59 _ rfl _ _ HBU.out rfl ?_)
    | (refine wpList_store_blk rfl 59 _ _ rfl w.heap.size V rfl rfl 59 (Wdc.cells ⟨0, 0, ⟨0, 0, none, 0, 0, [], none, 0, 0, [], none, 0, 0, []⟩, none, 0, 0, []⟩).toArray HBE.out HTS.out (by rw [HVS.out]; rfl) HAL.out ?_
       intro w9 hb9 hf9
       have HB9 := Lib.hid hb9
       have HF9 := Lib.hid hf9
       clear hb9 hf9))
  have hq9 : Fr [g, w.heap.size] w4 w9 := HF9.out.mono (fun x hx _ => by simp at hx; simp [hx])
  refine bodyPost_ret (v := .agg V) (results_cell_row Tryz.results115 _ _ w.heap.size 59 V _ _ rfl HB9.out Tryz.underlying59 rfl HTS.out) rfl ⟨v, by rw [HVV.out], ?_, fun S0 h0 => ?_, ?_, ?_⟩
  · rw [HV.out]; unfold Wdc.con; have := HGL1.out.1; rw [List.map_id] at this; rw [this, HCB.out]; rfl
  · rw [HV.out]; exact ⟨pI_in _, pI_in _, HL0.out w9 hq9 S0 h0, (HL1.out w9 hq9 S0 h0).1, HGL1.out.2, (HL1.out w9 hq9 S0 h0).2⟩
  · exact HR3.out.fr HF9.out (by have := HG.out; simp; omega) (fun k hk hm => HNF.out (by simp at hm; exact hm ▸ hk))
  · exact Fr.unbox HF0.out HF4.out HF9.out (Nat.le_refl _)
set_option maxHeartbeats 2000000 in
theorem getProposal_any : Gets 109 Wpo.cells (fun w S v => v.Li w S) Wpo.con pPo := by
  intro w F g s hr
  obtain ⟨wa, hwa⟩ : ∃ wa, wa = w.alloc (Obj.cells (Wpo.cells ⟨0, 0, 0, 0, ⟨0, 0, none, 0, 0, [], none, 0, 0, [], none, 0, 0, []⟩, 0, 0⟩).toArray 47) := ⟨_, rfl⟩
  have hf0 : Fr [] w wa := by rw [hwa]; exact (Fr.refl [] w).alloc _
  have HB : Hid (Blk wa w.heap.size 47 (Wpo.cells ⟨0, 0, 0, 0, ⟨0, 0, none, 0, 0, [], none, 0, 0, [], none, 0, 0, []⟩, 0, 0⟩).toArray) := Lib.hid (by rw [hwa]; exact Blk.new _ _ _)
  have HR := Lib.hid (hr.fr hf0 (by simp) (by simp))
  have HNF : Hid (¬ w.heap.size ∈ F) := Lib.hid (fun hm => by have := hr.lt _ hm; omega)
  have HG : Hid (g < w.heap.size) := Lib.hid hr.gt
  have HF0 := Lib.hid hf0
  have HWA := Lib.hid hwa
  clear hwa hf0 hr
  go_enter Tryz.func109, Tryz.ntmps109
  go_upto_region 1 with (fail)
  change Code.wp _ _ _ _ (w.alloc (Obj.cells (Wpo.cells ⟨0, 0, 0, 0, ⟨0, 0, none, 0, 0, [], none, 0, 0, [], none, 0, 0, []⟩, 0, 0⟩).toArray 47))
  rw [← HWA.out]
  go_wp2_with fail
  refine (getInt_any HR.out).mono ?_
  rintro e_ w1 ⟨rfl, h1, h2⟩
  have HR0 := Lib.hid h1
  have HF1 : Hid (Fr [g] wa w1) := Lib.hid h2
  have hq_ : Fr [g, w.heap.size] wa w1 := h2.mono (fun x hx _ => by simp at hx; simp [hx])
  clear h1 h2 hq_
  go_wp2_with fail
  refine (getInt_any HR0.out).mono ?_
  rintro e_ w2 ⟨rfl, h1, h2⟩
  have HR1 := Lib.hid h1
  have HF2 : Hid (Fr [g] wa w2) := Lib.hid (HF1.out.trans h2 (fun x hx _ => hx))
  have hq_ : Fr [g, w.heap.size] w1 w2 := h2.mono (fun x hx _ => by simp at hx; simp [hx])
  clear h1 h2 hq_
  go_wp2_with fail
  refine (getInt_any HR1.out).mono ?_
  rintro e_ w3 ⟨rfl, h1, h2⟩
  have HR2 := Lib.hid h1
  have HF3 : Hid (Fr [g] wa w3) := Lib.hid (HF2.out.trans h2 (fun x hx _ => hx))
  have hq_ : Fr [g, w.heap.size] w2 w3 := h2.mono (fun x hx _ => by simp at hx; simp [hx])
  clear h1 h2 hq_
  go_wp2_with fail
  refine (getInt_any HR2.out).mono ?_
  rintro e_ w4 ⟨rfl, h1, h2⟩
  have HR3 := Lib.hid h1
  have HF4 : Hid (Fr [g] wa w4) := Lib.hid (HF3.out.trans h2 (fun x hx _ => hx))
  have hq_ : Fr [g, w.heap.size] w3 w4 := h2.mono (fun x hx _ => by simp at hx; simp [hx])
  clear h1 h2 hq_
  go_wp2_with fail
  refine (getBatch_any _ F g _ HR3.out).mono ?_
  rintro e_ w5 ⟨vb, rfl, hcb, hokb, h1, h2⟩
  have HR4 := Lib.hid h1
  have HF5 : Hid (Fr [g] wa w5) := Lib.hid (HF4.out.trans h2 (fun x hx _ => hx))
  have hq_ : Fr [g, w.heap.size] w4 w5 := h2.mono (fun x hx _ => by simp at hx; simp [hx])
  have HL0 : Hid (∀ W, Fr [g, w.heap.size] w5 W → ∀ S0 : List Nat, (∀ q ∈ S0, q < w.heap.size) → vb.Li W S0) := Lib.hid (fun W hW S0 h0 => (hokb (g :: w.heap.size :: S0) (fun q hq => by
    have h3 := HB.out.lt; have h4 := HG.out; have h5 := HF4.out.size
    rcases List.mem_cons.1 hq with rfl | hq
    · omega
    · rcases List.mem_cons.1 hq with rfl | hq
      · omega
      · have := h0 q hq; omega)).keep (hW.mono (fun k hk _ => by simp at hk; simp; omega)) (fun k hk _ => by simp [hk]))
  have HCB := Lib.hid hcb
  clear hcb hokb
  clear h1 h2 hq_
  go_wp2_with fail
  refine (getSig_any HR4.out).mono ?_
  rintro e_ w6 ⟨rfl, h1, h2⟩
  have HR5 := Lib.hid h1
  have HF6 : Hid (Fr [g] wa w6) := Lib.hid (HF5.out.trans h2 (fun x hx _ => hx))
  have hq_ : Fr [g, w.heap.size] w5 w6 := h2.mono (fun x hx _ => by simp at hx; simp [hx])
  have HL0 := Lib.hid (fun W (hW : Fr [g, w.heap.size] w6 W) => HL0.out W (hq_.trans hW (fun x hx _ => hx)))
  clear h1 h2 hq_
  have HBE := Lib.hid (HB.out.keep HF6.out (by have := HG.out; simp; omega))
  have HBU := Lib.hid (built_poR (pI s).1 (pI (pI s).2).1 (wrap64 ((pI (pI (pI s).2).2).1 - 1)) (pI (pI (pI (pI s).2).2).2).1 vb (p2 (pBa (pI (pI (pI (pI s).2).2).2).2).2).1.1 (p2 (pBa (pI (pI (pI (pI s).2).2).2).2).2).1.2)
  obtain ⟨v, hv⟩ : ∃ v : Wpo, v = ⟨(pI s).1, (pI (pI s).2).1, wrap64 ((pI (pI (pI s).2).2).1 - 1), (pI (pI (pI (pI s).2).2).2).1, vb, (p2 (pBa (pI (pI (pI (pI s).2).2).2).2).2).1.1, (p2 (pBa (pI (pI (pI (pI s).2).2).2).2).2).1.2⟩ := ⟨_, rfl⟩
  have HVS : Hid (v.cells.toArray.size = 11) := Lib.hid (by rw [hv, List.size_toArray]; exact rfl)
  have HAL : Hid (v.cells.toArray.all (·.oneCell') = true) := Lib.hid (all_oneCell_toArray (Wpo.one _))
  have HTS : Hid ((Tryz.prog.info? 47).map (·.size) = some v.cells.toArray.size) := Lib.hid (by rw [HVS.out]; kernel_rfl)
  have HV := Lib.hid hv
  rw [← hv] at HBU
  clear hv
  obtain ⟨V, hV⟩ : ∃ V : Array Value, V = v.cells.toArray := ⟨_, rfl⟩
  have HVV := Lib.hid hV
  rw [← hV] at HBU HAL HVS HTS
  clear hV
  go_wp2_with (first
    | (refine wpList_builtg rfl 47 _ rfl _ _ HBU.out rfl ?_)
    | (refine wpList_store_blk rfl 47 _ _ rfl w.heap.size V rfl rfl 47 (Wpo.cells ⟨0, 0, 0, 0, ⟨0, 0, none, 0, 0, [], none, 0, 0, [], none, 0, 0, []⟩, 0, 0⟩).toArray HBE.out HTS.out (by rw [HVS.out]; rfl) HAL.out ?_
       intro w9 hb9 hf9
       have HB9 := Lib.hid hb9
       have HF9 := Lib.hid hf9
       clear hb9 hf9))
  have hq9 : Fr [g, w.heap.size] w6 w9 := HF9.out.mono (fun x hx _ => by simp at hx; simp [hx])
  refine bodyPost_ret (v := .agg V) (results_cell_row Tryz.results109 _ _ w.heap.size 47 V _ _ rfl HB9.out Tryz.underlying47 rfl HTS.out) rfl ⟨v, by rw [HVV.out], ?_, fun S0 h0 => ?_, ?_, ?_⟩
  · rw [HV.out]; unfold Wpo.con; simp only [HCB.out, pI_wrap]; rfl
  · rw [HV.out]; exact ⟨pI_in _, pI_in _, pI_lessW _, pI_in _, HL0.out w9 hq9 S0 h0, pI_in _, pI_in _⟩
  · exact HR5.out.fr HF9.out (by have := HG.out; simp; omega) (fun k hk hm => HNF.out (by simp at hm; exact hm ▸ hk))
  · exact Fr.unbox HF0.out HF6.out HF9.out (Nat.le_refl _)
end Go.Proofs.YtnpjihdhpoddgaaGreat

namespace Go.Proofs.YtnpjihdhpoddgaaGreat
open Go.RowKit
set_option maxRecDepth 100000
def wAck : List UInt8 := [97, 99, 107]
def Wst.ack (x : Wst) : List UInt8 := enc wAck.length ++ wAck ++ x.bare
theorem Wst.ack_len {x : Wst} (hx : x.Ok) : x.ack.length ≤ 100 := by
  have b0 := Wst.bare_len hx
  have b1 := enc_ten (m := wAck.length) (by decide)
  have b2 : wAck.length = 3 := rfl
  simp only [Wst.ack, List.length_append]
  omega
set_option maxHeartbeats 1000000 in
theorem ackFields_any (x : Wst) (hx : x.Ok) (w : World) (S : List Nat) (g : Nat) (l : List UInt8) (hw : Wr w S g l) (hl : l.length + 100 ≤ 1073741000) :
    Calls Tryz.prog 128 #[.pointer (some ⟨g, 0, none⟩), x.val] w fun e w' => e = .returned (.pointer (some ⟨g, 0, none⟩)) ∧ Gr w S g (l ++ x.bare) w' := by
  obtain ⟨wa, hwa⟩ : ∃ wa, wa = w.alloc (Obj.cells x.cells.toArray 37) := ⟨_, rfl⟩
  have hf0 : Fr [] w wa := by rw [hwa]; exact (Fr.refl [] w).alloc _
  have hb0 : Blk wa w.heap.size 37 x.cells.toArray := by rw [hwa]; exact Blk.new _ _ _
  have HNS : Hid (¬ w.heap.size ∈ S) := Lib.hid (fun h => by have := hw.lt _ h; omega)
  have HG0 := Lib.hid (Gr.begin hw hf0)
  have HALL := Lib.hid hb0.range
  have HAT := Lib.hid (Wst.at_of (o := 0) hb0.range hx.h)
  have HLN : Hid (x.cells.length = 38) := Lib.hid (Wst.len hx.h)
  have HF0 := Lib.hid hf0
  have HWA := Lib.hid hwa
  have HL := Lib.hid hl
  have HX := Lib.hid hx
  clear hwa hf0 hb0 hl hw hx
  unfold Wst.val
  generalize hC : x.cells = C at *
  have HRC := Lib.hid hC
  clear hC
  go_enter Tryz.func128, Tryz.ntmps128
  go_wp2
  rw [← HWA.out]
  refine wp_region_held_drew (S := Fr S wa) (by kernel_rfl) (Fr.drew (Fr.refl _ wa)) (fun hHeld => ?_)
  refine run_at (i := 0) (v := ?_) rfl (by kernel_rfl) (by rfl) (fun _ _ _ h => h) hHeld (fun w1 hw1 => ?_) ?_
  rotate_left 1
  · skip
    go_simp
    (try (first | with_reducible rfl | (apply And.intro <;> rfl)))
  simp only [Act.put, List.setIfInBounds_toArray, List.set_cons_zero, List.set_cons_succ]
  refine run_at (i := 1) (v := ?_) rfl (by kernel_rfl) (by rfl) (fun _ _ _ h => h) hHeld (fun w1 hw1 => ?_) ?_
  rotate_left 1
  · skip
    go_simp
    (try (first | with_reducible rfl | (apply And.intro <;> rfl)))
  simp only [Act.put, List.setIfInBounds_toArray, List.set_cons_zero, List.set_cons_succ]
  refine run_at (i := 2) (v := ?_) rfl (by kernel_rfl) (by rfl) (fun _ _ _ h => h) hHeld (fun w1 hw1 => ?_) ?_
  rotate_left 1
  · skip
    have hcw0 := hw1.cell (HAT.out.r) (by first | (simp; done) | exact HNS.out | exact HNW.out | (intro hm; have hlt := HSB.out _ hm; (try dsimp only at hlt); omega))
    go_simp
    (try (first | with_reducible rfl | (apply And.intro <;> rfl)))
  simp only [Act.put, List.setIfInBounds_toArray, List.set_cons_zero, List.set_cons_succ]
  refine run_at (i := 4) (v := ?_) rfl (by kernel_rfl) (by rfl) (fun _ _ _ h => h) hHeld (fun w1 hw1 => ?_) ?_
  rotate_left 1
  · skip
    go_simp
    (try (first | with_reducible rfl | (apply And.intro <;> rfl)))
  simp only [Act.put, List.setIfInBounds_toArray, List.set_cons_zero, List.set_cons_succ]
  refine row_at (i := 5) rfl (by kernel_rfl) (by rfl) _ _ rfl _ _ rfl _ (fun w1 hw1 => hw1.range (HAT.out.name) (by first | (simp; done) | exact HNS.out | exact HNW.out | (intro hm; have hlt := HSB.out _ hm; (try dsimp only at hlt); omega))) (row_name) (fun _ _ _ h => h) hHeld ?_
  simp only [Act.put, List.setIfInBounds_toArray, List.set_cons_zero, List.set_cons_succ]
  refine run_at (i := 7) (v := ?_) rfl (by kernel_rfl) (by rfl) (fun _ _ _ h => h) hHeld (fun w1 hw1 => ?_) ?_
  rotate_left 1
  · skip
    go_simp
    (try (first | with_reducible rfl | (apply And.intro <;> rfl)))
  simp only [Act.put, List.setIfInBounds_toArray, List.set_cons_zero, List.set_cons_succ]
  refine row_at (i := 8) rfl (by kernel_rfl) (by rfl) _ _ rfl _ _ rfl _ (fun w1 hw1 => hw1.range (HAT.out.hash) (by first | (simp; done) | exact HNS.out | exact HNW.out | (intro hm; have hlt := HSB.out _ hm; (try dsimp only at hlt); omega))) (row_hash.of (by rw [List.length_map]; exact HX.out.h)) (fun _ _ _ h => h) hHeld ?_
  simp only [Act.put, List.setIfInBounds_toArray, List.set_cons_zero, List.set_cons_succ]
  refine run_at (i := 10) (v := ?_) rfl (by kernel_rfl) (by rfl) (fun _ _ _ h => h) hHeld (fun w1 hw1 => ?_) ?_
  rotate_left 1
  · skip
    go_simp
    (try (first | with_reducible rfl | (apply And.intro <;> rfl)))
  simp only [Act.put, List.setIfInBounds_toArray, List.set_cons_zero, List.set_cons_succ]
  refine run_at (i := 11) (v := ?_) rfl (by kernel_rfl) (by rfl) (fun _ _ _ h => h) hHeld (fun w1 hw1 => ?_) ?_
  rotate_left 1
  · skip
    have hcw0 := hw1.cell (HAT.out.t) (by first | (simp; done) | exact HNS.out | exact HNW.out | (intro hm; have hlt := HSB.out _ hm; (try dsimp only at hlt); omega))
    go_simp
    (try (first | with_reducible rfl | (apply And.intro <;> rfl)))
  simp only [Act.put, List.setIfInBounds_toArray, List.set_cons_zero, List.set_cons_succ]
  refine call_at (i := 3) (f := ?_) (args := ?_) rfl (by kernel_rfl) (by rfl) ?_ ?_
  rotate_left 2
  · go_simp
    (try (first | with_reducible rfl | (apply And.intro <;> rfl)))
  refine (HG0.out.call fun S1 k1 => int_any x.r HX.out.r.1 HX.out.r.2 _ S1 g _ k1 (by have h0 := HL.out; (try simp only [List.length_append, sgL, nmL] at *); omega)).mono ?_
  rintro e w1 ⟨rfl, hg1⟩
  have HG1 := Lib.hid hg1
  refine ⟨_, rfl, hg1.fr, fun hHeld => ?_⟩
  clear hg1 HG0
  simp only [Act.put, List.setIfInBounds_toArray, List.set_cons_zero, List.set_cons_succ]
  refine call_at (i := 6) (f := ?_) (args := ?_) rfl (by kernel_rfl) (by rfl) ?_ ?_
  rotate_left 2
  · go_simp
    (try (first | with_reducible rfl | (apply And.intro <;> rfl)))
  refine (HG1.out.call fun S1 k1 => putName_any x.c x.s HX.out.c HX.out.s _ S1 g _ k1 (by have h0 := HL.out; have b0 := encI_len x.r HX.out.r.2; (try simp only [List.length_append, sgL, nmL] at *); omega)).mono ?_
  rintro e w2 ⟨rfl, hg2⟩
  have HG2 := Lib.hid hg2
  refine ⟨_, rfl, hg2.fr, fun hHeld => ?_⟩
  clear hg2 HG1
  simp only [Act.put, List.setIfInBounds_toArray, List.set_cons_zero, List.set_cons_succ]
  refine call_at (i := 9) (f := ?_) (args := ?_) rfl (by kernel_rfl) (by rfl) ?_ ?_
  rotate_left 2
  · go_simp
    (try (first | with_reducible rfl | (apply And.intro <;> rfl)))
  refine (HG2.out.call fun S1 k1 => hash_any x.h HX.out.h _ S1 g _ k1 (by have h0 := HL.out; have b0 := encI_len x.r HX.out.r.2; have b1 := encI_len x.c HX.out.c.2; have b2 := encI_len x.s HX.out.s.2; (try simp only [List.length_append, sgL, nmL] at *); omega)).mono ?_
  rintro e w3 ⟨rfl, hg3⟩
  have HG3 := Lib.hid hg3
  refine ⟨_, rfl, hg3.fr, fun hHeld => ?_⟩
  clear hg3 HG2
  simp only [Act.put, List.setIfInBounds_toArray, List.set_cons_zero, List.set_cons_succ]
  refine call_at (i := 12) (f := ?_) (args := ?_) rfl (by kernel_rfl) (by rfl) ?_ ?_
  rotate_left 2
  · go_simp
    (try (first | with_reducible rfl | (apply And.intro <;> rfl)))
  refine (HG3.out.call fun S1 k1 => num_any x.t HX.out.t _ S1 g _ k1 (by have h0 := HL.out; have b0 := encI_len x.r HX.out.r.2; have b1 := encI_len x.c HX.out.c.2; have b2 := encI_len x.s HX.out.s.2; have b3 := HX.out.h; (try simp only [List.length_append, sgL, nmL] at *); omega)).mono ?_
  rintro e w4 ⟨rfl, hg4⟩
  have HG4 := Lib.hid hg4
  refine ⟨_, rfl, hg4.fr, fun hHeld => ?_⟩
  clear hg4 HG3
  simp only [Act.put, List.setIfInBounds_toArray, List.set_cons_zero, List.set_cons_succ]
  refine run_at (i := 13) (v := ?_) rfl (by kernel_rfl) (by rfl) (fun _ _ _ h => h) hHeld (fun w1 hw1 => ?_) ?_
  rotate_left 1
  · skip
    go_simp
    (try (first | with_reducible rfl | (apply And.intro <;> rfl)))
  simp only [Act.put, List.setIfInBounds_toArray, List.set_cons_zero, List.set_cons_succ]
  refine wpAnyH_done (by kernel_rfl) ?_ _
  go_wp2
  go_ret
  exact ⟨rfl, (HG4.out.from_ HF0.out).eq (by simp [Wst.bare, List.append_assoc])⟩
theorem ackFields_any' (x : Wst) (hx : x.Ok) (C : List Value) (hC : x.cells = C) (w : World) (S : List Nat) (g : Nat) (l : List UInt8) (hw : Wr w S g l) (hl : l.length + 100 ≤ 1073741000) :
    Calls Tryz.prog 128 #[.pointer (some ⟨g, 0, none⟩), .agg C.toArray] w fun e w' => e = .returned (.pointer (some ⟨g, 0, none⟩)) ∧ Gr w S g (l ++ x.bare) w' := by
  subst hC
  exact ackFields_any x hx w S g l hw hl
set_option maxHeartbeats 1000000 in
theorem putAck_any (x : Wst) (hx : x.Ok) (w : World) (S : List Nat) (g : Nat) (l : List UInt8) (hw : Wr w S g l) (hl : l.length + 200 ≤ 1073741000) :
    Calls Tryz.prog 87 #[.pointer (some ⟨g, 0, none⟩), x.val] w fun e w' => e = .returned (.pointer (some ⟨g, 0, none⟩)) ∧ Gr w S g (l ++ x.full) w' := by
  obtain ⟨wa, hwa⟩ : ∃ wa, wa = w.alloc (Obj.cells x.cells.toArray 37) := ⟨_, rfl⟩
  have hf0 : Fr [] w wa := by rw [hwa]; exact (Fr.refl [] w).alloc _
  have hb0 : Blk wa w.heap.size 37 x.cells.toArray := by rw [hwa]; exact Blk.new _ _ _
  have HNS : Hid (¬ w.heap.size ∈ S) := Lib.hid (fun h => by have := hw.lt _ h; omega)
  have HG0 := Lib.hid (Gr.begin hw hf0)
  have HALL := Lib.hid hb0.range
  have HAT := Lib.hid (Wst.at_of (o := 0) hb0.range hx.h)
  have HLN : Hid (x.cells.length = 38) := Lib.hid (Wst.len hx.h)
  have HF0 := Lib.hid hf0
  have HWA := Lib.hid hwa
  have HL := Lib.hid hl
  have HX := Lib.hid hx
  clear hwa hf0 hb0 hl hw hx
  unfold Wst.val
  generalize hC : x.cells = C at *
  have HRC := Lib.hid hC
  clear hC
  go_enter Tryz.func87, Tryz.ntmps87
  go_wp2
  rw [← HWA.out]
  refine wp_region_held_drew (S := Fr S wa) (by kernel_rfl) (Fr.drew (Fr.refl _ wa)) (fun hHeld => ?_)
  refine run_at (i := 0) (v := ?_) rfl (by kernel_rfl) (by rfl) (fun _ _ _ h => h) hHeld (fun w1 hw1 => ?_) ?_
  rotate_left 1
  · skip
    go_simp
    (try (first | with_reducible rfl | (apply And.intro <;> rfl)))
  simp only [Act.put, List.setIfInBounds_toArray, List.set_cons_zero, List.set_cons_succ]
  refine row_at (i := 1) rfl (by kernel_rfl) (by rfl) _ _ rfl _ _ rfl _ (fun w1 hw1 => hw1.range (HALL.out) (by first | (simp; done) | exact HNS.out | exact HNW.out | (intro hm; have hlt := HSB.out _ hm; (try dsimp only at hlt); omega))) (row_ack.of HLN.out) (fun _ _ _ h => h) hHeld ?_
  simp only [Act.put, List.setIfInBounds_toArray, List.set_cons_zero, List.set_cons_succ]
  refine run_at (i := 3) (v := ?_) rfl (by kernel_rfl) (by rfl) (fun _ _ _ h => h) hHeld (fun w1 hw1 => ?_) ?_
  rotate_left 1
  · skip
    go_simp
    (try (first | with_reducible rfl | (apply And.intro <;> rfl)))
  simp only [Act.put, List.setIfInBounds_toArray, List.set_cons_zero, List.set_cons_succ]
  refine row_at (i := 4) rfl (by kernel_rfl) (by rfl) _ _ rfl _ _ rfl _ (fun w1 hw1 => hw1.range (HAT.out.sig) (by first | (simp; done) | exact HNS.out | exact HNW.out | (intro hm; have hlt := HSB.out _ hm; (try dsimp only at hlt); omega))) (row_sg) (fun _ _ _ h => h) hHeld ?_
  simp only [Act.put, List.setIfInBounds_toArray, List.set_cons_zero, List.set_cons_succ]
  refine call_at (i := 2) (f := ?_) (args := ?_) rfl (by kernel_rfl) (by rfl) ?_ ?_
  rotate_left 2
  · go_simp
    (try (first | with_reducible rfl | (apply And.intro <;> rfl)))
  refine (HG0.out.call fun S1 k1 => ackFields_any' x HX.out C HRC.out _ S1 g _ k1 (by have h0 := HL.out; (try simp only [List.length_append, sgL, nmL] at *); omega)).mono ?_
  rintro e w1 ⟨rfl, hg1⟩
  have HG1 := Lib.hid hg1
  refine ⟨_, rfl, hg1.fr, fun hHeld => ?_⟩
  clear hg1 HG0
  simp only [Act.put, List.setIfInBounds_toArray, List.set_cons_zero, List.set_cons_succ]
  refine call_at (i := 5) (f := ?_) (args := ?_) rfl (by kernel_rfl) (by rfl) ?_ ?_
  rotate_left 2
  · go_simp
    (try (first | with_reducible rfl | (apply And.intro <;> rfl)))
  refine (HG1.out.call fun S1 k1 => putSig_any x.b x.m HX.out.b HX.out.m _ S1 g _ k1 (by have h0 := HL.out; have b0 := Wst.bare_len HX.out; (try simp only [List.length_append, sgL, nmL] at *); omega)).mono ?_
  rintro e w2 ⟨rfl, hg2⟩
  have HG2 := Lib.hid hg2
  refine ⟨_, rfl, hg2.fr, fun hHeld => ?_⟩
  clear hg2 HG1
  simp only [Act.put, List.setIfInBounds_toArray, List.set_cons_zero, List.set_cons_succ]
  refine run_at (i := 6) (v := ?_) rfl (by kernel_rfl) (by rfl) (fun _ _ _ h => h) hHeld (fun w1 hw1 => ?_) ?_
  rotate_left 1
  · skip
    go_simp
    (try (first | with_reducible rfl | (apply And.intro <;> rfl)))
  simp only [Act.put, List.setIfInBounds_toArray, List.set_cons_zero, List.set_cons_succ]
  refine wpAnyH_done (by kernel_rfl) ?_ _
  go_wp2
  go_ret
  exact ⟨rfl, (HG2.out.from_ HF0.out).eq (by simp [Wst.full, List.append_assoc])⟩
theorem putAck_any' (x : Wst) (hx : x.Ok) (C : List Value) (hC : x.cells = C) (w : World) (S : List Nat) (g : Nat) (l : List UInt8) (hw : Wr w S g l) (hl : l.length + 200 ≤ 1073741000) :
    Calls Tryz.prog 87 #[.pointer (some ⟨g, 0, none⟩), .agg C.toArray] w fun e w' => e = .returned (.pointer (some ⟨g, 0, none⟩)) ∧ Gr w S g (l ++ x.full) w' := by
  subst hC
  exact putAck_any x hx w S g l hw hl
end Go.Proofs.YtnpjihdhpoddgaaGreat

namespace Go.Proofs.YtnpjihdhpoddgaaGreat
open Go.RowKit
set_option maxRecDepth 100000
set_option maxHeartbeats 1000000 in
theorem putVote_any (x : Wvt) (hx : x.Ok) (w : World) (S : List Nat) (g : Nat) (l : List UInt8) (hw : Wr w S g l) (hl : l.length + 200 ≤ 1073741000) :
    Calls Tryz.prog 90 #[.pointer (some ⟨g, 0, none⟩), x.val] w fun e w' => e = .returned (.pointer (some ⟨g, 0, none⟩)) ∧ Gr w S g (l ++ x.full) w' := by
  obtain ⟨wa, hwa⟩ : ∃ wa, wa = w.alloc (Obj.cells x.cells.toArray 49) := ⟨_, rfl⟩
  have hf0 : Fr [] w wa := by rw [hwa]; exact (Fr.refl [] w).alloc _
  have hb0 : Blk wa w.heap.size 49 x.cells.toArray := by rw [hwa]; exact Blk.new _ _ _
  have HNS : Hid (¬ w.heap.size ∈ S) := Lib.hid (fun h => by have := hw.lt _ h; omega)
  have HG0 := Lib.hid (Gr.begin hw hf0)
  have HALL := Lib.hid hb0.range
  have HAT := Lib.hid (Wvt.at_of (o := 0) hb0.range hx.h)
  have HLN : Hid (x.cells.length = 38) := Lib.hid (Wvt.len hx.h)
  have HF0 := Lib.hid hf0
  have HWA := Lib.hid hwa
  have HL := Lib.hid hl
  have HX := Lib.hid hx
  clear hwa hf0 hb0 hl hw hx
  unfold Wvt.val
  generalize hC : x.cells = C at *
  have HRC := Lib.hid hC
  clear hC
  go_enter Tryz.func90, Tryz.ntmps90
  go_wp2
  rw [← HWA.out]
  refine wp_region_held_drew (S := Fr S wa) (by kernel_rfl) (Fr.drew (Fr.refl _ wa)) (fun hHeld => ?_)
  refine run_at (i := 0) (v := ?_) rfl (by kernel_rfl) (by rfl) (fun _ _ _ h => h) hHeld (fun w1 hw1 => ?_) ?_
  rotate_left 1
  · skip
    go_simp
    (try (first | with_reducible rfl | (apply And.intro <;> rfl)))
  simp only [Act.put, List.setIfInBounds_toArray, List.set_cons_zero, List.set_cons_succ]
  refine row_at (i := 1) rfl (by kernel_rfl) (by rfl) _ _ rfl _ _ rfl _ (fun w1 hw1 => hw1.range (HALL.out) (by first | (simp; done) | exact HNS.out | exact HNW.out | (intro hm; have hlt := HSB.out _ hm; (try dsimp only at hlt); omega))) (row_vote.of HLN.out) (fun _ _ _ h => h) hHeld ?_
  simp only [Act.put, List.setIfInBounds_toArray, List.set_cons_zero, List.set_cons_succ]
  refine run_at (i := 3) (v := ?_) rfl (by kernel_rfl) (by rfl) (fun _ _ _ h => h) hHeld (fun w1 hw1 => ?_) ?_
  rotate_left 1
  · skip
    go_simp
    (try (first | with_reducible rfl | (apply And.intro <;> rfl)))
  simp only [Act.put, List.setIfInBounds_toArray, List.set_cons_zero, List.set_cons_succ]
  refine row_at (i := 4) rfl (by kernel_rfl) (by rfl) _ _ rfl _ _ rfl _ (fun w1 hw1 => hw1.range (HAT.out.sig) (by first | (simp; done) | exact HNS.out | exact HNW.out | (intro hm; have hlt := HSB.out _ hm; (try dsimp only at hlt); omega))) (row_sg) (fun _ _ _ h => h) hHeld ?_
  simp only [Act.put, List.setIfInBounds_toArray, List.set_cons_zero, List.set_cons_succ]
  refine call_at (i := 2) (f := ?_) (args := ?_) rfl (by kernel_rfl) (by rfl) ?_ ?_
  rotate_left 2
  · go_simp
    (try (first | with_reducible rfl | (apply And.intro <;> rfl)))
  refine (HG0.out.call fun S1 k1 => voteFields_any' x HX.out C HRC.out _ S1 g _ k1 (by have h0 := HL.out; (try simp only [List.length_append, sgL, nmL] at *); omega)).mono ?_
  rintro e w1 ⟨rfl, hg1⟩
  have HG1 := Lib.hid hg1
  refine ⟨_, rfl, hg1.fr, fun hHeld => ?_⟩
  clear hg1 HG0
  simp only [Act.put, List.setIfInBounds_toArray, List.set_cons_zero, List.set_cons_succ]
  refine call_at (i := 5) (f := ?_) (args := ?_) rfl (by kernel_rfl) (by rfl) ?_ ?_
  rotate_left 2
  · go_simp
    (try (first | with_reducible rfl | (apply And.intro <;> rfl)))
  refine (HG1.out.call fun S1 k1 => putSig_any x.b x.m HX.out.b HX.out.m _ S1 g _ k1 (by have h0 := HL.out; have b0 := Wvt.bare_len HX.out; (try simp only [List.length_append, sgL, nmL] at *); omega)).mono ?_
  rintro e w2 ⟨rfl, hg2⟩
  have HG2 := Lib.hid hg2
  refine ⟨_, rfl, hg2.fr, fun hHeld => ?_⟩
  clear hg2 HG1
  simp only [Act.put, List.setIfInBounds_toArray, List.set_cons_zero, List.set_cons_succ]
  refine run_at (i := 6) (v := ?_) rfl (by kernel_rfl) (by rfl) (fun _ _ _ h => h) hHeld (fun w1 hw1 => ?_) ?_
  rotate_left 1
  · skip
    go_simp
    (try (first | with_reducible rfl | (apply And.intro <;> rfl)))
  simp only [Act.put, List.setIfInBounds_toArray, List.set_cons_zero, List.set_cons_succ]
  refine wpAnyH_done (by kernel_rfl) ?_ _
  go_wp2
  go_ret
  exact ⟨rfl, (HG2.out.from_ HF0.out).eq (by simp [Wvt.full, List.append_assoc])⟩
theorem putVote_any' (x : Wvt) (hx : x.Ok) (C : List Value) (hC : x.cells = C) (w : World) (S : List Nat) (g : Nat) (l : List UInt8) (hw : Wr w S g l) (hl : l.length + 200 ≤ 1073741000) :
    Calls Tryz.prog 90 #[.pointer (some ⟨g, 0, none⟩), .agg C.toArray] w fun e w' => e = .returned (.pointer (some ⟨g, 0, none⟩)) ∧ Gr w S g (l ++ x.full) w' := by
  subst hC
  exact putVote_any x hx w S g l hw hl
theorem Wvt.full_len {x : Wvt} (hx : x.Ok) : x.full.length ≤ 100 := by
  have b0 := Wvt.bare_len hx
  have b1 := encI_len x.b hx.b.2
  have b2 := encI_len x.m hx.m.2
  simp only [Wvt.full, sgL, List.length_append]
  omega

set_option maxHeartbeats 2000000 in
theorem putVotes_any {α : Type} (cells : α → List Value) (ok : World → List Nat → α → Prop) (full : α → List UInt8) (N : Nat) (hone : ∀ v, ∀ u ∈ cells v, u.oneCell' = true) (hsz : (Tryz.prog.info? 49).map (·.size) = some 38)
    (hfull : ∀ W S v, ok W S v → (full v).length ≤ N)
    (hput : ∀ (v : α) (W : World) (S : List Nat) (g : Nat) (l : List UInt8), ok W S v → Wr W S g l → l.length + N ≤ 1073741000 → Calls Tryz.prog 90 #[.pointer (some ⟨g, 0, none⟩), .agg (cells v).toArray] W fun e w' => e = .returned (.pointer (some ⟨g, 0, none⟩)) ∧ Gr W S g (l ++ full v) w')
    (w : World) (S : List Nat) (g : Nat) (l : List UInt8) (hw : Wr w S g l) (A : Option Addr) (n c : Nat) (xs : List α) (hx : Lst 38 cells (fun w v => ok w S v) w A n xs) (hn : n ≤ 1000) (hA : 0 < n → ∀ a, A = some a → ¬ a.block ∈ S)
    (hkeep : ∀ W S', Fr S w W → (∀ x ∈ S', x < w.heap.size → x ∈ S) → ∀ v ∈ xs, ok w S v → ok W S' v) (hl : l.length + 20 + (n + 1) * N ≤ 1073741000) :
    Calls Tryz.prog 134 #[.pointer (some ⟨g, 0, none⟩), fnV 90, .slice A n c] w fun e w' => e = .returned (.pointer (some ⟨g, 0, none⟩)) ∧ Gr w S g (l ++ listL full xs) w' := by
  have HG0 := Lib.hid (Gr.refl hw)
  have HX := Lib.hid hx
  have HA := Lib.hid hA
  have HL := Lib.hid hl
  have HKP := Lib.hid hkeep
  have HSL := Lib.hid hw.lt
  have hxn := hx.1
  clear hw hx hA hl hkeep
  unfold fnV
  go_enter Tryz.func134, Tryz.ntmps134
  go_wp2_with fail
  refine (HG0.out.call fun S1 k1 => int_any (n : Int) (by omega) (by omega) _ S1 g _ k1 (by have := HL.out; omega)).mono ?_
  rintro e w1 ⟨rfl, hg1⟩
  have HG1 := Lib.hid hg1
  clear hg1 HG0
  go_wp2_with fail
  go_loopw [15] (fun i wr => ∃ k : Nat, k ≤ n ∧ i = .int .i64 k ∧ Gr w S g (l ++ encI (n : Int) ++ (xs.take k).flatMap full) wr) (fun i _ => n - (intOf i).toNat)
  case atStart => exact ⟨0, by omega, rfl, by simpa using HG1.out⟩
  case round =>
    obtain ⟨k, hk, rfl, hg⟩ := hrel
    have HG := Lib.hid hg
    clear hg
    by_cases hlt : k < n
    · obtain ⟨ad, v, rfl, hv, hcl, hok, hc⟩ := HX.out.at hlt
      have HV := Lib.hid hv
      have HCL := Lib.hid hcl
      have HOK := Lib.hid hok
      have HMEM := Lib.hid (List.mem_of_getElem? hv)
      have HC := Lib.hid (fun j x hj => HG.out.fr.cell (hc j x hj) (by rw [add_block, add_block]; exact HA.out (by omega) ad rfl))
      have HONE := Lib.hid (hone v)
      have HPUT := Lib.hid (hput v)
      have hk0 : (0 : Int) ≤ k := by omega
      have hlen : ((xs.take k).flatMap full).length ≤ k * N := flat_len (fun v hv => hfull w S v (HX.out.2.1 v (List.mem_of_mem_take hv)).2) (by rw [List.length_take]; omega)
      have hkn2 : k * N + N ≤ (n + 1) * N := by rw [← Nat.succ_mul]; exact Nat.mul_le_mul_right N (by omega)
      have HLEN : Hid ((l ++ encI (n : Int) ++ (xs.take k).flatMap full).length + N ≤ 1073741000) := Lib.hid (by have := HL.out; have := encI_len (n : Int) (by omega); simp only [List.length_append]; omega)
      have HTK : Hid ((xs.take (k + 1)).flatMap full = (xs.take k).flatMap full ++ full v) := Lib.hid (by rw [List.take_add_one, hv]; simp)
      have HFV := Lib.hid (rfl : cells v = cells v)
      clear hv hcl hok hc hlen hkn2
      generalize hcv : cells v = C at *
      go_wp2_with (first
        | (refine wpList_cells rfl 49 _ rfl _ rfl C HC.out (row_vote.of HCL.out) ?_)
        | (refine wpList_store_box rfl 49 _ _ rfl _ 49 C rfl rfl (by rw [hsz, HCL.out]) (by rw [HCL.out]; rfl) HONE.out ?_
           intro wb hbb hfb
           have HBB := Lib.hid hbb
           have HFB := Lib.hid hfb
           clear hbb hfb)
        | (refine wpList_row rfl 49 _ rfl _ _ rfl _ HBB.out.range (row_vote.of HCL.out) ?_))
      have HGB := Lib.hid (HG.out.trans (fun S1 k => ⟨S1, k.keep HFB.out (by simp), HFB.out.mono (by simp), fun x hx _ => hx⟩))
      refine (HGB.out.calls fun S1 k1 f1 s1 => HPUT.out _ S1 g _ (HKP.out wb S1 f1 s1 v HMEM.out HOK.out) k1 HLEN.out).mono ?_
      rintro e w2 ⟨rfl, hg2⟩
      have HG2 := Lib.hid hg2
      clear hg2
      go_wp2
      exact ⟨⟨k + 1, by omega, rfl, HG2.out.eq (by rw [HTK.out, List.append_assoc])⟩, by simp only [intOf, Int.toNat_natCast, Int.toNat_natCast_add_one]; omega⟩
    · have hkn : k = n := by omega
      subst hkn
      have HFIN : Hid (Gr w S g (l ++ listL full xs) wr) := Lib.hid (HG.out.eq (by rw [List.take_of_length_le (by omega), listL, hxn, List.append_assoc]))
      clear HG
      go_wp2
      go_ret
      exact ⟨rfl, HFIN.out⟩

def Wen.val (x : Wen) : Value := .agg x.cells.toArray
def Wen.full (x : Wen) : List UInt8 := nmL x.c x.s ++ x.h ++ enc x.t
theorem Wen.full_len {x : Wen} (hx : x.Ok) : x.full.length ≤ 62 := by
  have b1 := encI_len x.c hx.c.2
  have b2 := encI_len x.s hx.s.2
  have b3 := hx.h
  have b4 := enc_ten hx.t
  simp only [Wen.full, nmL, List.length_append]
  omega
set_option maxHeartbeats 1000000 in
theorem putEntry_any (x : Wen) (hx : x.Ok) (w : World) (S : List Nat) (g : Nat) (l : List UInt8) (hw : Wr w S g l) (hl : l.length + 200 ≤ 1073741000) :
    Calls Tryz.prog 91 #[.pointer (some ⟨g, 0, none⟩), x.val] w fun e w' => e = .returned (.pointer (some ⟨g, 0, none⟩)) ∧ Gr w S g (l ++ x.full) w' := by
  obtain ⟨wa, hwa⟩ : ∃ wa, wa = w.alloc (Obj.cells x.cells.toArray 51) := ⟨_, rfl⟩
  have hf0 : Fr [] w wa := by rw [hwa]; exact (Fr.refl [] w).alloc _
  have hb0 : Blk wa w.heap.size 51 x.cells.toArray := by rw [hwa]; exact Blk.new _ _ _
  have HNS : Hid (¬ w.heap.size ∈ S) := Lib.hid (fun h => by have := hw.lt _ h; omega)
  have HG0 := Lib.hid (Gr.begin hw hf0)
  have HLN : Hid (x.cells.length = 35) := Lib.hid (Wen.len hx.h)
  have HNM : Hid (wa.rangeAt w.heap.size (0 + 0) [.int .i64 x.c, .int .i64 x.s]) := Lib.hid (rangeAt_sub (xs := []) (ys := [.int .i64 x.c, .int .i64 x.s]) (zs := x.h.map by8 ++ [.int .u64 (x.t : Int)]) hb0.range)
  have HHS : Hid (wa.rangeAt w.heap.size (0 + 2) (x.h.map by8)) := Lib.hid (rangeAt_sub (xs := [.int .i64 x.c, .int .i64 x.s]) (ys := x.h.map by8) (zs := [.int .u64 (x.t : Int)]) hb0.range)
  have HTM : Hid (wa.cell? ⟨w.heap.size, 0 + 34, none⟩ = some (.int .u64 (x.t : Int))) := Lib.hid (hb0.range 34 _ (post_cell [.int .i64 x.c, .int .i64 x.s] (x.h.map by8) [.int .u64 (x.t : Int)] (by rw [List.length_map]; exact hx.h) 0 rfl))
  have HF0 := Lib.hid hf0
  have HWA := Lib.hid hwa
  have HL := Lib.hid hl
  have HX := Lib.hid hx
  clear hwa hf0 hb0 hl hw hx
  unfold Wen.val
  generalize hC : x.cells = C at *
  have HRC := Lib.hid hC
  clear hC
  go_enter Tryz.func91, Tryz.ntmps91
  go_wp2
  rw [← HWA.out]
  refine wp_region_held_drew (S := Fr S wa) (by kernel_rfl) (Fr.drew (Fr.refl _ wa)) (fun hHeld => ?_)
  refine run_at (i := 0) (v := ?_) rfl (by kernel_rfl) (by rfl) (fun _ _ _ h => h) hHeld (fun w1 hw1 => ?_) ?_
  rotate_left 1
  · skip
    go_simp
    (try (first | with_reducible rfl | (apply And.intro <;> rfl)))
  simp only [Act.put, List.setIfInBounds_toArray, List.set_cons_zero, List.set_cons_succ]
  refine run_at (i := 1) (v := ?_) rfl (by kernel_rfl) (by rfl) (fun _ _ _ h => h) hHeld (fun w1 hw1 => ?_) ?_
  rotate_left 1
  · skip
    go_simp
    (try (first | with_reducible rfl | (apply And.intro <;> rfl)))
  simp only [Act.put, List.setIfInBounds_toArray, List.set_cons_zero, List.set_cons_succ]
  refine row_at (i := 2) rfl (by kernel_rfl) (by rfl) _ _ rfl _ _ rfl _ (fun w1 hw1 => hw1.range (HNM.out) (by first | (simp; done) | exact HNS.out | exact HNW.out | (intro hm; have hlt := HSB.out _ hm; (try dsimp only at hlt); omega))) (row_name) (fun _ _ _ h => h) hHeld ?_
  simp only [Act.put, List.setIfInBounds_toArray, List.set_cons_zero, List.set_cons_succ]
  refine run_at (i := 4) (v := ?_) rfl (by kernel_rfl) (by rfl) (fun _ _ _ h => h) hHeld (fun w1 hw1 => ?_) ?_
  rotate_left 1
  · skip
    go_simp
    (try (first | with_reducible rfl | (apply And.intro <;> rfl)))
  simp only [Act.put, List.setIfInBounds_toArray, List.set_cons_zero, List.set_cons_succ]
  refine row_at (i := 5) rfl (by kernel_rfl) (by rfl) _ _ rfl _ _ rfl _ (fun w1 hw1 => hw1.range (HHS.out) (by first | (simp; done) | exact HNS.out | exact HNW.out | (intro hm; have hlt := HSB.out _ hm; (try dsimp only at hlt); omega))) (row_hash.of (by rw [List.length_map]; exact HX.out.h)) (fun _ _ _ h => h) hHeld ?_
  simp only [Act.put, List.setIfInBounds_toArray, List.set_cons_zero, List.set_cons_succ]
  refine run_at (i := 7) (v := ?_) rfl (by kernel_rfl) (by rfl) (fun _ _ _ h => h) hHeld (fun w1 hw1 => ?_) ?_
  rotate_left 1
  · skip
    go_simp
    (try (first | with_reducible rfl | (apply And.intro <;> rfl)))
  simp only [Act.put, List.setIfInBounds_toArray, List.set_cons_zero, List.set_cons_succ]
  refine run_at (i := 8) (v := ?_) rfl (by kernel_rfl) (by rfl) (fun _ _ _ h => h) hHeld (fun w1 hw1 => ?_) ?_
  rotate_left 1
  · skip
    have hcw0 := hw1.cell (HTM.out) (by first | (simp; done) | exact HNS.out | exact HNW.out | (intro hm; have hlt := HSB.out _ hm; (try dsimp only at hlt); omega))
    go_simp
    (try (first | with_reducible rfl | (apply And.intro <;> rfl)))
  simp only [Act.put, List.setIfInBounds_toArray, List.set_cons_zero, List.set_cons_succ]
  refine call_at (i := 3) (f := ?_) (args := ?_) rfl (by kernel_rfl) (by rfl) ?_ ?_
  rotate_left 2
  · go_simp
    (try (first | with_reducible rfl | (apply And.intro <;> rfl)))
  refine (HG0.out.call fun S1 k1 => putName_any x.c x.s HX.out.c HX.out.s _ S1 g _ k1 (by have h0 := HL.out; (try simp only [List.length_append, sgL, nmL] at *); omega)).mono ?_
  rintro e w1 ⟨rfl, hg1⟩
  have HG1 := Lib.hid hg1
  refine ⟨_, rfl, hg1.fr, fun hHeld => ?_⟩
  clear hg1 HG0
  simp only [Act.put, List.setIfInBounds_toArray, List.set_cons_zero, List.set_cons_succ]
  refine call_at (i := 6) (f := ?_) (args := ?_) rfl (by kernel_rfl) (by rfl) ?_ ?_
  rotate_left 2
  · go_simp
    (try (first | with_reducible rfl | (apply And.intro <;> rfl)))
  refine (HG1.out.call fun S1 k1 => hash_any x.h HX.out.h _ S1 g _ k1 (by have h0 := HL.out; have b0 := encI_len x.c HX.out.c.2; have b1 := encI_len x.s HX.out.s.2; (try simp only [List.length_append, sgL, nmL] at *); omega)).mono ?_
  rintro e w2 ⟨rfl, hg2⟩
  have HG2 := Lib.hid hg2
  refine ⟨_, rfl, hg2.fr, fun hHeld => ?_⟩
  clear hg2 HG1
  simp only [Act.put, List.setIfInBounds_toArray, List.set_cons_zero, List.set_cons_succ]
  refine call_at (i := 9) (f := ?_) (args := ?_) rfl (by kernel_rfl) (by rfl) ?_ ?_
  rotate_left 2
  · go_simp
    (try (first | with_reducible rfl | (apply And.intro <;> rfl)))
  refine (HG2.out.call fun S1 k1 => num_any x.t HX.out.t _ S1 g _ k1 (by have h0 := HL.out; have b0 := encI_len x.c HX.out.c.2; have b1 := encI_len x.s HX.out.s.2; have b2 := HX.out.h; (try simp only [List.length_append, sgL, nmL] at *); omega)).mono ?_
  rintro e w3 ⟨rfl, hg3⟩
  have HG3 := Lib.hid hg3
  refine ⟨_, rfl, hg3.fr, fun hHeld => ?_⟩
  clear hg3 HG2
  simp only [Act.put, List.setIfInBounds_toArray, List.set_cons_zero, List.set_cons_succ]
  refine run_at (i := 10) (v := ?_) rfl (by kernel_rfl) (by rfl) (fun _ _ _ h => h) hHeld (fun w1 hw1 => ?_) ?_
  rotate_left 1
  · skip
    go_simp
    (try (first | with_reducible rfl | (apply And.intro <;> rfl)))
  simp only [Act.put, List.setIfInBounds_toArray, List.set_cons_zero, List.set_cons_succ]
  refine wpAnyH_done (by kernel_rfl) ?_ _
  go_wp2
  go_ret
  exact ⟨rfl, (HG3.out.from_ HF0.out).eq (by simp [Wen.full, List.append_assoc])⟩
theorem putEntry_any' (x : Wen) (hx : x.Ok) (C : List Value) (hC : x.cells = C) (w : World) (S : List Nat) (g : Nat) (l : List UInt8) (hw : Wr w S g l) (hl : l.length + 200 ≤ 1073741000) :
    Calls Tryz.prog 91 #[.pointer (some ⟨g, 0, none⟩), .agg C.toArray] w fun e w' => e = .returned (.pointer (some ⟨g, 0, none⟩)) ∧ Gr w S g (l ++ x.full) w' := by
  subst hC
  exact putEntry_any x hx w S g l hw hl
def Wpo.full (x : Wpo) : List UInt8 := x.head ++ x.k.full ++ sgL x.b x.m
/-- it lies in w, apart from S -/
structure Wpo.OkS (w : World) (S : List Nat) (x : Wpo) : Prop where
  e : i64In x.e
  r : i64In x.r
  v : i64In x.v
  p : i64In x.p
  k : x.k.Ok w S
  b : i64In x.b
  m : i64In x.m
theorem Wpo.full_len {w : World} {S : List Nat} {x : Wpo} (hx : x.OkS w S) : x.full.length ≤ 14100 := by
  have b0 := Wpo.head_len hx.e hx.r hx.v hx.p
  have b1 := Wba.full_len hx.k
  have b2 := encI_len x.b hx.b.2
  have b3 := encI_len x.m hx.m.2
  simp only [Wpo.full, sgL, List.length_append]
  omega
set_option maxHeartbeats 1000000 in
theorem putProposal_any (x : Wpo) (w : World) (S : List Nat) (g : Nat) (l : List UInt8) (hw : Wr w S g l) (hl : l.length + 60500 ≤ 1073741000) (hx : x.OkS w S) :
    Calls Tryz.prog 89 #[.pointer (some ⟨g, 0, none⟩), x.val] w fun e w' => e = .returned (.pointer (some ⟨g, 0, none⟩)) ∧ Gr w S g (l ++ x.full) w' := by
  obtain ⟨wa, hwa⟩ : ∃ wa, wa = w.alloc (Obj.cells x.cells.toArray 47) := ⟨_, rfl⟩
  have hf0 : Fr [] w wa := by rw [hwa]; exact (Fr.refl [] w).alloc _
  have hb0 : Blk wa w.heap.size 47 x.cells.toArray := by rw [hwa]; exact Blk.new _ _ _
  have HNS : Hid (¬ w.heap.size ∈ S) := Lib.hid (fun h => by have := hw.lt _ h; omega)
  have HG0 := Lib.hid (Gr.begin hw hf0)
  have HALL := Lib.hid hb0.range
  have HLN : Hid (x.cells.length = 11) := Lib.hid (Wpo.len x)
  have HBT : Hid (wa.rangeAt w.heap.size (0 + 4) x.k.cells) := Lib.hid (rangeAt_sub (xs := [.int .i64 x.e, .int .i64 x.r, .int .i64 x.v, .int .i64 x.p]) (ys := x.k.cells) (zs := [.int .i64 x.b, .int .i64 x.m]) hb0.range)
  have HSG : Hid (wa.rangeAt w.heap.size (0 + 9) [.int .i64 x.b, .int .i64 x.m]) := Lib.hid (rangeAt_sub (xs := [.int .i64 x.e, .int .i64 x.r, .int .i64 x.v, .int .i64 x.p] ++ x.k.cells) (ys := [.int .i64 x.b, .int .i64 x.m]) (zs := []) (by simpa [Wpo.cells] using hb0.range))
  have HKL : Hid (x.k.cells.length = 5) := Lib.hid (Wba.len x.k)
  have HXA : Hid (x.k.Ok wa S) := Lib.hid (hx.k.keep (hf0.mono (T := S) (by simp)) (fun k hk _ => hk))
  have HF0 := Lib.hid hf0
  have HWA := Lib.hid hwa
  have HL := Lib.hid hl
  have HX := Lib.hid hx
  clear hwa hf0 hb0 hl hw hx
  unfold Wpo.val
  generalize hC : x.cells = C at *
  have HRC := Lib.hid hC
  clear hC
  generalize hK : x.k.cells = K at *
  have HRK := Lib.hid hK
  clear hK
  go_enter Tryz.func89, Tryz.ntmps89
  go_wp2
  rw [← HWA.out]
  refine wp_region_held_drew (S := Fr S wa) (by kernel_rfl) (Fr.drew (Fr.refl _ wa)) (fun hHeld => ?_)
  refine run_at (i := 0) (v := ?_) rfl (by kernel_rfl) (by rfl) (fun _ _ _ h => h) hHeld (fun w1 hw1 => ?_) ?_
  rotate_left 1
  · skip
    go_simp
    (try (first | with_reducible rfl | (apply And.intro <;> rfl)))
  simp only [Act.put, List.setIfInBounds_toArray, List.set_cons_zero, List.set_cons_succ]
  refine row_at (i := 1) rfl (by kernel_rfl) (by rfl) _ _ rfl _ _ rfl _ (fun w1 hw1 => hw1.range (HALL.out) (by first | (simp; done) | exact HNS.out | exact HNW.out | (intro hm; have hlt := HSB.out _ hm; (try dsimp only at hlt); omega))) (row_prop.of HLN.out) (fun _ _ _ h => h) hHeld ?_
  simp only [Act.put, List.setIfInBounds_toArray, List.set_cons_zero, List.set_cons_succ]
  refine run_at (i := 3) (v := ?_) rfl (by kernel_rfl) (by rfl) (fun _ _ _ h => h) hHeld (fun w1 hw1 => ?_) ?_
  rotate_left 1
  · skip
    go_simp
    (try (first | with_reducible rfl | (apply And.intro <;> rfl)))
  simp only [Act.put, List.setIfInBounds_toArray, List.set_cons_zero, List.set_cons_succ]
  refine row_at (i := 4) rfl (by kernel_rfl) (by rfl) _ _ rfl _ _ rfl _ (fun w1 hw1 => hw1.range (HBT.out) (by first | (simp; done) | exact HNS.out | exact HNW.out | (intro hm; have hlt := HSB.out _ hm; (try dsimp only at hlt); omega))) (row_bat.of HKL.out) (fun _ _ _ h => h) hHeld ?_
  simp only [Act.put, List.setIfInBounds_toArray, List.set_cons_zero, List.set_cons_succ]
  refine run_at (i := 6) (v := ?_) rfl (by kernel_rfl) (by rfl) (fun _ _ _ h => h) hHeld (fun w1 hw1 => ?_) ?_
  rotate_left 1
  · skip
    go_simp
    (try (first | with_reducible rfl | (apply And.intro <;> rfl)))
  simp only [Act.put, List.setIfInBounds_toArray, List.set_cons_zero, List.set_cons_succ]
  refine row_at (i := 7) rfl (by kernel_rfl) (by rfl) _ _ rfl _ _ rfl _ (fun w1 hw1 => hw1.range (HSG.out) (by first | (simp; done) | exact HNS.out | exact HNW.out | (intro hm; have hlt := HSB.out _ hm; (try dsimp only at hlt); omega))) (row_sg) (fun _ _ _ h => h) hHeld ?_
  simp only [Act.put, List.setIfInBounds_toArray, List.set_cons_zero, List.set_cons_succ]
  refine call_at (i := 2) (f := ?_) (args := ?_) rfl (by kernel_rfl) (by rfl) ?_ ?_
  rotate_left 2
  · go_simp
    (try (first | with_reducible rfl | (apply And.intro <;> rfl)))
  refine (HG0.out.call fun S1 k1 => proposalHead_any x C HRC.out _ S1 g _ k1 (by have h0 := HL.out; (try simp only [List.length_append, sgL, nmL] at *); omega) HX.out.e HX.out.r HX.out.v HX.out.p).mono ?_
  rintro e w1 ⟨rfl, hg1⟩
  have HG1 := Lib.hid hg1
  refine ⟨_, rfl, hg1.fr, fun hHeld => ?_⟩
  clear hg1 HG0
  simp only [Act.put, List.setIfInBounds_toArray, List.set_cons_zero, List.set_cons_succ]
  refine call_at (i := 5) (f := ?_) (args := ?_) rfl (by kernel_rfl) (by rfl) ?_ ?_
  rotate_left 2
  · go_simp
    (try (first | with_reducible rfl | (apply And.intro <;> rfl)))
  refine (HG1.out.calls fun S1 k1 f1 s1 => putBatch_any' x.k K HRK.out _ S1 g _ k1 (by have h0 := HL.out; have b0 := Wpo.head_len HX.out.e HX.out.r HX.out.v HX.out.p; (try simp only [List.length_append, sgL, nmL] at *); omega) (HXA.out.keep f1 s1)).mono ?_
  rintro e w2 ⟨rfl, hg2⟩
  have HG2 := Lib.hid hg2
  refine ⟨_, rfl, hg2.fr, fun hHeld => ?_⟩
  clear hg2 HG1
  simp only [Act.put, List.setIfInBounds_toArray, List.set_cons_zero, List.set_cons_succ]
  refine call_at (i := 8) (f := ?_) (args := ?_) rfl (by kernel_rfl) (by rfl) ?_ ?_
  rotate_left 2
  · go_simp
    (try (first | with_reducible rfl | (apply And.intro <;> rfl)))
  refine (HG2.out.call fun S1 k1 => putSig_any x.b x.m HX.out.b HX.out.m _ S1 g _ k1 (by have h0 := HL.out; have b0 := Wpo.head_len HX.out.e HX.out.r HX.out.v HX.out.p; have b1 := Wba.full_len HX.out.k; (try simp only [List.length_append, sgL, nmL] at *); omega)).mono ?_
  rintro e w3 ⟨rfl, hg3⟩
  have HG3 := Lib.hid hg3
  refine ⟨_, rfl, hg3.fr, fun hHeld => ?_⟩
  clear hg3 HG2
  simp only [Act.put, List.setIfInBounds_toArray, List.set_cons_zero, List.set_cons_succ]
  refine run_at (i := 9) (v := ?_) rfl (by kernel_rfl) (by rfl) (fun _ _ _ h => h) hHeld (fun w1 hw1 => ?_) ?_
  rotate_left 1
  · skip
    go_simp
    (try (first | with_reducible rfl | (apply And.intro <;> rfl)))
  simp only [Act.put, List.setIfInBounds_toArray, List.set_cons_zero, List.set_cons_succ]
  refine wpAnyH_done (by kernel_rfl) ?_ _
  go_wp2
  go_ret
  exact ⟨rfl, (HG3.out.from_ HF0.out).eq (by simp [Wpo.full, List.append_assoc])⟩
theorem putProposal_any' (x : Wpo) (C : List Value) (hC : x.cells = C) (w : World) (S : List Nat) (g : Nat) (l : List UInt8) (hw : Wr w S g l) (hl : l.length + 60500 ≤ 1073741000) (hx : x.OkS w S) :
    Calls Tryz.prog 89 #[.pointer (some ⟨g, 0, none⟩), .agg C.toArray] w fun e w' => e = .returned (.pointer (some ⟨g, 0, none⟩)) ∧ Gr w S g (l ++ x.full) w' := by
  subst hC
  exact putProposal_any x w S g l hw hl hx
def Wdc.val (x : Wdc) : Value := .agg x.cells.toArray
def Wdc.full (x : Wdc) : List UInt8 := encI x.e ++ encI x.r ++ x.k.full ++ listL Wvt.full x.l
/-- it lies in w, apart from S -/
structure Wdc.Ok (w : World) (S : List Nat) (x : Wdc) : Prop where
  e : i64In x.e
  r : i64In x.r
  k : x.k.Ok w S
  l : Lst 38 Wvt.cells (fun _ v => v.Ok) w x.A x.n x.l
  n : x.n ≤ 5
  ap : 0 < x.n → ∀ a, x.A = some a → ¬ a.block ∈ S
theorem Wdc.len (x : Wdc) : x.cells.length = 8 := rfl
theorem row_dec : RowTy Tryz.prog 59 8 := ⟨by kernel_rfl, by kernel_rfl⟩
theorem Wdc.full_len {w : World} {S : List Nat} {x : Wdc} (hx : x.Ok w S) : x.full.length ≤ 14600 := by
  have b0 := encI_len x.e hx.e.2
  have b1 := encI_len x.r hx.r.2
  have b2 := Wba.full_len hx.k
  have b3 := encI_len (x.l.length : Int) (by have := hx.n; have := hx.l.1; omega)
  have b4 : (x.l.flatMap Wvt.full).length ≤ 5 * 100 := flat_len (fun v hv => Wvt.full_len (hx.l.2.1 v hv).2) (by have := hx.n; have := hx.l.1; omega)
  simp only [Wdc.full, listL, List.length_append]
  omega
set_option maxHeartbeats 1000000 in
theorem putDecided_any (x : Wdc) (w : World) (S : List Nat) (g : Nat) (l : List UInt8) (hw : Wr w S g l) (hl : l.length + 62000 ≤ 1073741000) (hx : x.Ok w S) :
    Calls Tryz.prog 95 #[.pointer (some ⟨g, 0, none⟩), x.val] w fun e w' => e = .returned (.pointer (some ⟨g, 0, none⟩)) ∧ Gr w S g (l ++ x.full) w' := by
  obtain ⟨wa, hwa⟩ : ∃ wa, wa = w.alloc (Obj.cells x.cells.toArray 59) := ⟨_, rfl⟩
  have hf0 : Fr [] w wa := by rw [hwa]; exact (Fr.refl [] w).alloc _
  have hb0 : Blk wa w.heap.size 59 x.cells.toArray := by rw [hwa]; exact Blk.new _ _ _
  have HNS : Hid (¬ w.heap.size ∈ S) := Lib.hid (fun h => by have := hw.lt _ h; omega)
  have HG0 := Lib.hid (Gr.begin hw hf0)
  have HC0 : Hid (wa.cell? ⟨w.heap.size, 0 + 0, none⟩ = some (.int .i64 x.e)) := Lib.hid (hb0.range (cs := x.cells) 0 _ rfl)
  have HC1 : Hid (wa.cell? ⟨w.heap.size, 0 + 1, none⟩ = some (.int .i64 x.r)) := Lib.hid (hb0.range (cs := x.cells) 1 _ rfl)
  have HC7 : Hid (wa.cell? ⟨w.heap.size, 0 + 7, none⟩ = some (.slice x.A x.n x.d)) := Lib.hid (hb0.range (cs := x.cells) 7 _ rfl)
  have HLN : Hid (x.cells.length = 8) := Lib.hid (Wdc.len x)
  have HBT : Hid (wa.rangeAt w.heap.size (0 + 2) x.k.cells) := Lib.hid (rangeAt_sub (xs := [.int .i64 x.e, .int .i64 x.r]) (ys := x.k.cells) (zs := [.slice x.A x.n x.d]) hb0.range)
  have HKL : Hid (x.k.cells.length = 5) := Lib.hid (Wba.len x.k)
  have HXA : Hid (x.k.Ok wa S) := Lib.hid (hx.k.keep (hf0.mono (T := S) (by simp)) (fun k hk _ => hk))
  have HF0 := Lib.hid hf0
  have HWA := Lib.hid hwa
  have HL := Lib.hid hl
  have HX := Lib.hid hx
  clear hwa hf0 hb0 hl hw hx
  unfold Wdc.val
  generalize hC : x.cells = C at *
  have HRC := Lib.hid hC
  clear hC
  generalize hK : x.k.cells = K at *
  have HRK := Lib.hid hK
  clear hK
  go_enter Tryz.func95, Tryz.ntmps95
  go_wp2
  rw [← HWA.out]
  refine wp_region_held_drew (S := Fr S wa) (by kernel_rfl) (Fr.drew (Fr.refl _ wa)) (fun hHeld => ?_)
  refine run_at (i := 0) (v := ?_) rfl (by kernel_rfl) (by rfl) (fun _ _ _ h => h) hHeld (fun w1 hw1 => ?_) ?_
  rotate_left 1
  · skip
    go_simp
    (try (first | with_reducible rfl | (apply And.intro <;> rfl)))
  simp only [Act.put, List.setIfInBounds_toArray, List.set_cons_zero, List.set_cons_succ]
  refine run_at (i := 1) (v := ?_) rfl (by kernel_rfl) (by rfl) (fun _ _ _ h => h) hHeld (fun w1 hw1 => ?_) ?_
  rotate_left 1
  · skip
    go_simp
    (try (first | with_reducible rfl | (apply And.intro <;> rfl)))
  simp only [Act.put, List.setIfInBounds_toArray, List.set_cons_zero, List.set_cons_succ]
  refine run_at (i := 2) (v := ?_) rfl (by kernel_rfl) (by rfl) (fun _ _ _ h => h) hHeld (fun w1 hw1 => ?_) ?_
  rotate_left 1
  · skip
    have hcw0 := hw1.cell (HC0.out) (by first | (simp; done) | exact HNS.out | exact HNW.out | (intro hm; have hlt := HSB.out _ hm; (try dsimp only at hlt); omega))
    go_simp
    (try (first | with_reducible rfl | (apply And.intro <;> rfl)))
  simp only [Act.put, List.setIfInBounds_toArray, List.set_cons_zero, List.set_cons_succ]
  refine run_at (i := 4) (v := ?_) rfl (by kernel_rfl) (by rfl) (fun _ _ _ h => h) hHeld (fun w1 hw1 => ?_) ?_
  rotate_left 1
  · skip
    go_simp
    (try (first | with_reducible rfl | (apply And.intro <;> rfl)))
  simp only [Act.put, List.setIfInBounds_toArray, List.set_cons_zero, List.set_cons_succ]
  refine run_at (i := 5) (v := ?_) rfl (by kernel_rfl) (by rfl) (fun _ _ _ h => h) hHeld (fun w1 hw1 => ?_) ?_
  rotate_left 1
  · skip
    have hcw0 := hw1.cell (HC1.out) (by first | (simp; done) | exact HNS.out | exact HNW.out | (intro hm; have hlt := HSB.out _ hm; (try dsimp only at hlt); omega))
    go_simp
    (try (first | with_reducible rfl | (apply And.intro <;> rfl)))
  simp only [Act.put, List.setIfInBounds_toArray, List.set_cons_zero, List.set_cons_succ]
  refine run_at (i := 7) (v := ?_) rfl (by kernel_rfl) (by rfl) (fun _ _ _ h => h) hHeld (fun w1 hw1 => ?_) ?_
  rotate_left 1
  · skip
    go_simp
    (try (first | with_reducible rfl | (apply And.intro <;> rfl)))
  simp only [Act.put, List.setIfInBounds_toArray, List.set_cons_zero, List.set_cons_succ]
  refine row_at (i := 8) rfl (by kernel_rfl) (by rfl) _ _ rfl _ _ rfl _ (fun w1 hw1 => hw1.range (HBT.out) (by first | (simp; done) | exact HNS.out | exact HNW.out | (intro hm; have hlt := HSB.out _ hm; (try dsimp only at hlt); omega))) (row_bat.of HKL.out) (fun _ _ _ h => h) hHeld ?_
  simp only [Act.put, List.setIfInBounds_toArray, List.set_cons_zero, List.set_cons_succ]
  refine run_at (i := 10) (v := ?_) rfl (by kernel_rfl) (by rfl) (fun _ _ _ h => h) hHeld (fun w1 hw1 => ?_) ?_
  rotate_left 1
  · skip
    go_simp
    (try (first | with_reducible rfl | (apply And.intro <;> rfl)))
  simp only [Act.put, List.setIfInBounds_toArray, List.set_cons_zero, List.set_cons_succ]
  refine run_at (i := 11) (v := ?_) rfl (by kernel_rfl) (by rfl) (fun _ _ _ h => h) hHeld (fun w1 hw1 => ?_) ?_
  rotate_left 1
  · skip
    have hcw0 := hw1.cell (HC7.out) (by first | (simp; done) | exact HNS.out | exact HNW.out | (intro hm; have hlt := HSB.out _ hm; (try dsimp only at hlt); omega))
    go_simp
    (try (first | with_reducible rfl | (apply And.intro <;> rfl)))
  simp only [Act.put, List.setIfInBounds_toArray, List.set_cons_zero, List.set_cons_succ]
  refine call_at (i := 3) (f := ?_) (args := ?_) rfl (by kernel_rfl) (by rfl) ?_ ?_
  rotate_left 2
  · go_simp
    (try (first | with_reducible rfl | (apply And.intro <;> rfl)))
  refine (HG0.out.call fun S1 k1 => int_any x.e HX.out.e.1 HX.out.e.2 _ S1 g _ k1 (by have h0 := HL.out; (try simp only [List.length_append, sgL, nmL] at *); omega)).mono ?_
  rintro e w1 ⟨rfl, hg1⟩
  have HG1 := Lib.hid hg1
  refine ⟨_, rfl, hg1.fr, fun hHeld => ?_⟩
  clear hg1 HG0
  simp only [Act.put, List.setIfInBounds_toArray, List.set_cons_zero, List.set_cons_succ]
  refine call_at (i := 6) (f := ?_) (args := ?_) rfl (by kernel_rfl) (by rfl) ?_ ?_
  rotate_left 2
  · go_simp
    (try (first | with_reducible rfl | (apply And.intro <;> rfl)))
  refine (HG1.out.call fun S1 k1 => int_any x.r HX.out.r.1 HX.out.r.2 _ S1 g _ k1 (by have h0 := HL.out; have b0 := encI_len x.e HX.out.e.2; (try simp only [List.length_append, sgL, nmL] at *); omega)).mono ?_
  rintro e w2 ⟨rfl, hg2⟩
  have HG2 := Lib.hid hg2
  refine ⟨_, rfl, hg2.fr, fun hHeld => ?_⟩
  clear hg2 HG1
  simp only [Act.put, List.setIfInBounds_toArray, List.set_cons_zero, List.set_cons_succ]
  refine call_at (i := 9) (f := ?_) (args := ?_) rfl (by kernel_rfl) (by rfl) ?_ ?_
  rotate_left 2
  · go_simp
    (try (first | with_reducible rfl | (apply And.intro <;> rfl)))
  refine (HG2.out.calls fun S1 k1 f1 s1 => putBatch_any' x.k K HRK.out _ S1 g _ k1 (by have h0 := HL.out; have b0 := encI_len x.e HX.out.e.2; have b1 := encI_len x.r HX.out.r.2; (try simp only [List.length_append, sgL, nmL] at *); omega) (HXA.out.keep f1 s1)).mono ?_
  rintro e w3 ⟨rfl, hg3⟩
  have HG3 := Lib.hid hg3
  refine ⟨_, rfl, hg3.fr, fun hHeld => ?_⟩
  clear hg3 HG2
  simp only [Act.put, List.setIfInBounds_toArray, List.set_cons_zero, List.set_cons_succ]
  refine call_at (i := 12) (f := ?_) (args := ?_) rfl (by kernel_rfl) (by rfl) ?_ ?_
  rotate_left 2
  · go_simp
    (try (first | with_reducible rfl | (apply And.intro <;> rfl)))
  refine (HG3.out.calls fun S1 k1 f1 s1 => putVotes_any Wvt.cells (fun _ _ v => v.Ok) Wvt.full 200 Wvt.one rfl (fun _ _ v h => Nat.le_trans (Wvt.full_len h) (by decide)) (fun v W S g l h hw hl => putVote_any v h W S g l hw hl) _ S1 g _ k1 x.A x.n x.d x.l (HX.out.l.keep' ((HF0.out.mono (T := S) (by simp)).trans f1 (fun k hk _ => hk)) HX.out.ap (fun _ _ h => h)) (by have := HX.out.n; omega) (fun hn a ha hin => HX.out.ap hn a ha (s1 _ hin (Nat.lt_of_lt_of_le (HX.out.l.lt hn (by decide) (fun v hv => Wvt.len (HX.out.l.2.1 v hv).2.h) a ha) HF0.out.size))) (fun _ _ _ _ _ _ h => h) (by have h0 := HL.out; have b0 := encI_len x.e HX.out.e.2; have b1 := encI_len x.r HX.out.r.2; have b2 := Wba.full_len HX.out.k; have := HX.out.n; simp only [List.length_append]; omega)).mono ?_
  rintro e w4 ⟨rfl, hg4⟩
  have HG4 := Lib.hid hg4
  refine ⟨_, rfl, hg4.fr, fun hHeld => ?_⟩
  clear hg4 HG3
  simp only [Act.put, List.setIfInBounds_toArray, List.set_cons_zero, List.set_cons_succ]
  refine run_at (i := 13) (v := ?_) rfl (by kernel_rfl) (by rfl) (fun _ _ _ h => h) hHeld (fun w1 hw1 => ?_) ?_
  rotate_left 1
  · skip
    go_simp
    (try (first | with_reducible rfl | (apply And.intro <;> rfl)))
  simp only [Act.put, List.setIfInBounds_toArray, List.set_cons_zero, List.set_cons_succ]
  refine wpAnyH_done (by kernel_rfl) ?_ _
  go_wp2
  go_ret
  exact ⟨rfl, (HG4.out.from_ HF0.out).eq (by simp [Wdc.full, List.append_assoc])⟩
theorem putDecided_any' (x : Wdc) (C : List Value) (hC : x.cells = C) (w : World) (S : List Nat) (g : Nat) (l : List UInt8) (hw : Wr w S g l) (hl : l.length + 62000 ≤ 1073741000) (hx : x.Ok w S) :
    Calls Tryz.prog 95 #[.pointer (some ⟨g, 0, none⟩), .agg C.toArray] w fun e w' => e = .returned (.pointer (some ⟨g, 0, none⟩)) ∧ Gr w S g (l ++ x.full) w' := by
  subst hC
  exact putDecided_any x w S g l hw hl hx
end Go.Proofs.YtnpjihdhpoddgaaGreat

namespace Go.Proofs.YtnpjihdhpoddgaaGreat
open Go.RowKit
set_option maxRecDepth 100000
/-- a message -/
structure Wmg where
  q : Int
  f : Int
  t : Int
  cm : Wcm
  st : Wst
  ce : Wce
  ak : Wst
  e : Int
  r : Int
  tm : Nat
  pr : Wpr
  po : Wpo
  vt : Wvt
  i : Int
  en : Wen
  op : Wop
  dn : Wdn
  rp : List UInt8
  de : Wdc
def Wmg.cells (x : Wmg) : List Value := [.int .i64 x.q] ++ ([.int .i64 x.f] ++ ([.int .i64 x.t] ++ (x.cm.cells ++ (x.st.cells ++ (x.ce.cells ++ (x.ak.cells ++ ([.int .i64 x.e] ++ ([.int .i64 x.r] ++ ([.int .u64 (x.tm : Int)] ++ (x.pr.cells ++ (x.po.cells ++ (x.vt.cells ++ ([.int .i64 x.i] ++ (x.en.cells ++ (x.op.cells ++ (x.dn.cells ++ ([.string ⟨x.rp.toArray⟩] ++ (x.de.cells))))))))))))))))))
/-- it lies in w, apart from S -/
structure Wmg.Ok (w : World) (S : List Nat) (x : Wmg) : Prop where
  q : i64In x.q
  f : i64In x.f
  t : i64In x.t
  cm : x.cm.Ok
  st : x.st.Ok
  ce : x.ce.Ok w S
  ak : x.ak.Ok
  e : i64In x.e
  r : i64In x.r
  tm : x.tm < 18446744073709551616
  pr : x.pr.Ok w S
  po : x.po.OkS w S
  vt : x.vt.Ok
  i : i64In x.i
  en : x.en.Ok
  op : x.op.Ok w S
  dn : x.dn.Ok
  rp : x.rp.length ≤ 260
  de : x.de.Ok w S
theorem ra_head {w : World} {g o : Nat} {a b : List Value} (h : w.rangeAt g o (a ++ b)) : w.rangeAt g o a := fun j v hv => h j v (by rw [List.getElem?_append_left (List.getElem?_eq_some_iff.1 hv).1]; exact hv)
theorem ra_tail {w : World} {g o k : Nat} {a b : List Value} (h : w.rangeAt g o (a ++ b)) (hk : a.length = k) : w.rangeAt g (o + k) b := by
  intro j v hv
  have := h (k + j) v (by rw [List.getElem?_append_right (by omega), hk]; simpa using hv)
  rw [← Nat.add_assoc] at this
  exact this
/-- its fields, where it lies -/
structure Wmg.At (w : World) (g : Nat) (x : Wmg) : Prop where
  q : w.rangeAt g 0 ([.int .i64 x.q] : List Value)
  f : w.rangeAt g 1 ([.int .i64 x.f] : List Value)
  t : w.rangeAt g 2 ([.int .i64 x.t] : List Value)
  cm : w.rangeAt g 3 x.cm.cells
  st : w.rangeAt g 40 x.st.cells
  ce : w.rangeAt g 78 x.ce.cells
  ak : w.rangeAt g 116 x.ak.cells
  e : w.rangeAt g 154 ([.int .i64 x.e] : List Value)
  r : w.rangeAt g 155 ([.int .i64 x.r] : List Value)
  tm : w.rangeAt g 156 ([.int .u64 (x.tm : Int)] : List Value)
  pr : w.rangeAt g 157 x.pr.cells
  po : w.rangeAt g 163 x.po.cells
  vt : w.rangeAt g 174 x.vt.cells
  i : w.rangeAt g 212 ([.int .i64 x.i] : List Value)
  en : w.rangeAt g 213 x.en.cells
  op : w.rangeAt g 248 x.op.cells
  dn : w.rangeAt g 282 x.dn.cells
  rp : w.rangeAt g 286 ([.string ⟨x.rp.toArray⟩] : List Value)
  de : w.rangeAt g 287 x.de.cells
theorem Wmg.at_of {w W : World} {S : List Nat} {g : Nat} {x : Wmg} (hr : w.rangeAt g 0 x.cells) (hx : x.Ok W S) : x.At w g := by
  unfold Wmg.cells at hr
  have t0 := ra_tail hr (k := 1) (rfl)
  have t1 := ra_tail t0 (k := 1) (rfl)
  have t2 := ra_tail t1 (k := 1) (rfl)
  have t3 := ra_tail t2 (k := 37) (Wcm.len hx.cm.h)
  have t4 := ra_tail t3 (k := 38) (Wst.len hx.st.h)
  have t5 := ra_tail t4 (k := 38) (Wce.len hx.ce.k.h)
  have t6 := ra_tail t5 (k := 38) (Wst.len hx.ak.h)
  have t7 := ra_tail t6 (k := 1) (rfl)
  have t8 := ra_tail t7 (k := 1) (rfl)
  have t9 := ra_tail t8 (k := 1) (rfl)
  have t10 := ra_tail t9 (k := 6) (Wpr.len x.pr)
  have t11 := ra_tail t10 (k := 11) (Wpo.len x.po)
  have t12 := ra_tail t11 (k := 38) (Wvt.len hx.vt.h)
  have t13 := ra_tail t12 (k := 1) (rfl)
  have t14 := ra_tail t13 (k := 35) (Wen.len hx.en.h)
  have t15 := ra_tail t14 (k := 34) (Wop.len hx.op.h)
  have t16 := ra_tail t15 (k := 4) (Wdn.len x.dn)
  have t17 := ra_tail t16 (k := 1) (rfl)
  exact ⟨ra_head hr, ra_head t0, ra_head t1, ra_head t2, ra_head t3, ra_head t4, ra_head t5, ra_head t6, ra_head t7, ra_head t8, ra_head t9, ra_head t10, ra_head t11, ra_head t12, ra_head t13, ra_head t14, ra_head t15, ra_head t16, t17⟩
theorem putOpening_any' (x : Wop) (C : List Value) (hC : x.cells = C) (w : World) (S : List Nat) (g : Nat) (l : List UInt8) (hw : Wr w S g l) (hl : l.length + 500 ≤ 1073741000) (hx : x.Ok w S) :
    Calls Tryz.prog 92 #[.pointer (some ⟨g, 0, none⟩), .agg C.toArray] w fun e w' => e = .returned (.pointer (some ⟨g, 0, none⟩)) ∧ Gr w S g (l ++ x.full) w' := by
  subst hC
  exact putOpening_any x w S g l hw hl hx
theorem Wpo.OkS.keep {w W : World} {S S' : List Nat} {x : Wpo} (h : x.OkS w S) (hf : Fr S w W) (hs : ∀ k ∈ S', k < w.heap.size → k ∈ S) : x.OkS W S' :=
  ⟨h.e, h.r, h.v, h.p, h.k.keep hf hs, h.b, h.m⟩
theorem Wdc.Ok.keep {w W : World} {S S' : List Nat} {x : Wdc} (h : x.Ok w S) (hf : Fr S w W) (hs : ∀ k ∈ S', k < w.heap.size → k ∈ S) : x.Ok W S' :=
  ⟨h.e, h.r, h.k.keep hf hs, h.l.keep' hf h.ap (fun _ _ h => h), h.n, fun hn a ha hin => h.ap hn a ha (hs _ hin (h.l.lt hn (by decide) (fun v hv => Wvt.len (h.l.2.1 v hv).2.h) a ha))⟩
theorem Wmg.Ok.keep {w W : World} {S S' : List Nat} {x : Wmg} (h : x.Ok w S) (hf : Fr S w W) (hs : ∀ k ∈ S', k < w.heap.size → k ∈ S) : x.Ok W S' :=
  ⟨h.q, h.f, h.t, h.cm, h.st, h.ce.keep hf hs, h.ak, h.e, h.r, h.tm, h.pr.keep hf hs, h.po.keep hf hs, h.vt, h.i, h.en, h.op.keep hf hs, h.dn, h.rp, h.de.keep hf hs⟩
set_option maxHeartbeats 2000000 in
theorem mput_cm (x : Wmg) (hq : x.q = 1) (w : World) (S : List Nat) (g : Nat) (l : List UInt8) (hw : Wr w S g l) (hl : l.length + 70000 ≤ 1073741000) (hx : x.Ok w S) (C : List Value) (hC : x.cells = C) :
    Calls Tryz.prog 33 #[.pointer (some ⟨g, 0, none⟩), .agg C.toArray] w fun e w' => e = .returned (.bool true) ∧ Gr w S g (l ++ x.cm.full) w' := by
  obtain ⟨wa, hwa⟩ : ∃ wa, wa = w.alloc (Obj.cells C.toArray 61) := ⟨_, rfl⟩
  have hf0 : Fr [] w wa := by rw [hwa]; exact (Fr.refl [] w).alloc _
  have hb0 : Blk wa w.heap.size 61 x.cells.toArray := by rw [hwa, hC]; exact Blk.new _ _ _
  have HNS : Hid (¬ w.heap.size ∈ S) := Lib.hid (fun h => by have := hw.lt _ h; omega)
  have HG0 := Lib.hid (Gr.refl (hw.keep hf0 (by simp)))
  have hat : x.At wa w.heap.size := Wmg.at_of hb0.range hx
  have hq0 : wa.cell? ⟨w.heap.size, 0, none⟩ = some (.int .i64 1) := by have h := hat.q 0 _ rfl; rw [hq] at h; exact h
  have HXA : Hid (x.Ok wa S) := Lib.hid (hx.keep (hf0.mono (T := S) (by simp)) (fun k hk _ => hk))
  have HK : Hid (wa.rangeAt w.heap.size 3 x.cm.cells) := Lib.hid hat.cm
  have HKL : Hid (x.cm.cells.length = 37) := Lib.hid (Wcm.len hx.cm.h)
  have HF0 := Lib.hid hf0
  have HWA := Lib.hid hwa
  have HL := Lib.hid hl
  have HX := Lib.hid hx
  clear hwa hf0 hb0 hat hl hw hx hC hq
  generalize hK : x.cm.cells = K at *
  have HRK := Lib.hid hK
  clear hK
  go_enter Tryz.func33, Tryz.ntmps33
  go_upto_region 1 with (fail)
  change Code.wp _ _ _ _ (w.alloc (Obj.cells C.toArray 61))
  rw [← HWA.out]
  go_wp2_with (refine wpList_load_mid rfl 29 _ rfl w.heap.size 3 rfl K _ HK.out Tryz.underlying29 rfl (row_cmt.of HKL.out).2 ?_)
  refine (HG0.out.call fun S1 k1 => putCommit_any' x.cm HX.out.cm K HRK.out _ S1 g _ k1 (by have h0 := HL.out; omega)).mono ?_
  rintro e w1 ⟨rfl, hg1⟩
  have HG1 := Lib.hid hg1
  clear hg1 HG0
  go_wp2_with fail
  go_ret
  exact ⟨rfl, (HG1.out.from_ HF0.out).eq rfl⟩
set_option maxHeartbeats 2000000 in
theorem mput_st (x : Wmg) (hq : x.q = 2) (w : World) (S : List Nat) (g : Nat) (l : List UInt8) (hw : Wr w S g l) (hl : l.length + 70000 ≤ 1073741000) (hx : x.Ok w S) (C : List Value) (hC : x.cells = C) :
    Calls Tryz.prog 33 #[.pointer (some ⟨g, 0, none⟩), .agg C.toArray] w fun e w' => e = .returned (.bool true) ∧ Gr w S g (l ++ x.st.full) w' := by
  obtain ⟨wa, hwa⟩ : ∃ wa, wa = w.alloc (Obj.cells C.toArray 61) := ⟨_, rfl⟩
  have hf0 : Fr [] w wa := by rw [hwa]; exact (Fr.refl [] w).alloc _
  have hb0 : Blk wa w.heap.size 61 x.cells.toArray := by rw [hwa, hC]; exact Blk.new _ _ _
  have HNS : Hid (¬ w.heap.size ∈ S) := Lib.hid (fun h => by have := hw.lt _ h; omega)
  have HG0 := Lib.hid (Gr.refl (hw.keep hf0 (by simp)))
  have hat : x.At wa w.heap.size := Wmg.at_of hb0.range hx
  have hq0 : wa.cell? ⟨w.heap.size, 0, none⟩ = some (.int .i64 2) := by have h := hat.q 0 _ rfl; rw [hq] at h; exact h
  have HXA : Hid (x.Ok wa S) := Lib.hid (hx.keep (hf0.mono (T := S) (by simp)) (fun k hk _ => hk))
  have HK : Hid (wa.rangeAt w.heap.size 40 x.st.cells) := Lib.hid hat.st
  have HKL : Hid (x.st.cells.length = 38) := Lib.hid (Wst.len hx.st.h)
  have HF0 := Lib.hid hf0
  have HWA := Lib.hid hwa
  have HL := Lib.hid hl
  have HX := Lib.hid hx
  clear hwa hf0 hb0 hat hl hw hx hC hq
  generalize hK : x.st.cells = K at *
  have HRK := Lib.hid hK
  clear hK
  go_enter Tryz.func33, Tryz.ntmps33
  go_upto_region 1 with (fail)
  change Code.wp _ _ _ _ (w.alloc (Obj.cells C.toArray 61))
  rw [← HWA.out]
  go_wp2_with (refine wpList_load_mid rfl 32 _ rfl w.heap.size 40 rfl K _ HK.out Tryz.underlying32 rfl (row_stamp.of HKL.out).2 ?_)
  refine (HG0.out.call fun S1 k1 => putStamp_any' x.st HX.out.st K HRK.out _ S1 g _ k1 (by have h0 := HL.out; omega)).mono ?_
  rintro e w1 ⟨rfl, hg1⟩
  have HG1 := Lib.hid hg1
  clear hg1 HG0
  go_wp2_with fail
  go_ret
  exact ⟨rfl, (HG1.out.from_ HF0.out).eq rfl⟩
set_option maxHeartbeats 2000000 in
theorem mput_ce (x : Wmg) (hq : x.q = 3) (w : World) (S : List Nat) (g : Nat) (l : List UInt8) (hw : Wr w S g l) (hl : l.length + 70000 ≤ 1073741000) (hx : x.Ok w S) (C : List Value) (hC : x.cells = C) :
    Calls Tryz.prog 33 #[.pointer (some ⟨g, 0, none⟩), .agg C.toArray] w fun e w' => e = .returned (.bool true) ∧ Gr w S g (l ++ x.ce.full) w' := by
  obtain ⟨wa, hwa⟩ : ∃ wa, wa = w.alloc (Obj.cells C.toArray 61) := ⟨_, rfl⟩
  have hf0 : Fr [] w wa := by rw [hwa]; exact (Fr.refl [] w).alloc _
  have hb0 : Blk wa w.heap.size 61 x.cells.toArray := by rw [hwa, hC]; exact Blk.new _ _ _
  have HNS : Hid (¬ w.heap.size ∈ S) := Lib.hid (fun h => by have := hw.lt _ h; omega)
  have HG0 := Lib.hid (Gr.refl (hw.keep hf0 (by simp)))
  have hat : x.At wa w.heap.size := Wmg.at_of hb0.range hx
  have hq0 : wa.cell? ⟨w.heap.size, 0, none⟩ = some (.int .i64 3) := by have h := hat.q 0 _ rfl; rw [hq] at h; exact h
  have HXA : Hid (x.Ok wa S) := Lib.hid (hx.keep (hf0.mono (T := S) (by simp)) (fun k hk _ => hk))
  have HK : Hid (wa.rangeAt w.heap.size 78 x.ce.cells) := Lib.hid hat.ce
  have HKL : Hid (x.ce.cells.length = 38) := Lib.hid (Wce.len hx.ce.k.h)
  have HF0 := Lib.hid hf0
  have HWA := Lib.hid hwa
  have HL := Lib.hid hl
  have HX := Lib.hid hx
  clear hwa hf0 hb0 hat hl hw hx hC hq
  generalize hK : x.ce.cells = K at *
  have HRK := Lib.hid hK
  clear hK
  go_enter Tryz.func33, Tryz.ntmps33
  go_upto_region 1 with (fail)
  change Code.wp _ _ _ _ (w.alloc (Obj.cells C.toArray 61))
  rw [← HWA.out]
  go_wp2_with (refine wpList_load_mid rfl 35 _ rfl w.heap.size 78 rfl K _ HK.out Tryz.underlying35 rfl (row_crt.of HKL.out).2 ?_)
  refine (HG0.out.calls fun S1 k1 f1 s1 => putCert_any' x.ce K HRK.out _ S1 g _ k1 (by have h0 := HL.out; omega) ((HXA.out.ce).keep f1 s1)).mono ?_
  rintro e w1 ⟨rfl, hg1⟩
  have HG1 := Lib.hid hg1
  clear hg1 HG0
  go_wp2_with fail
  go_ret
  exact ⟨rfl, (HG1.out.from_ HF0.out).eq rfl⟩
set_option maxHeartbeats 2000000 in
theorem mput_ak (x : Wmg) (hq : x.q = 4) (w : World) (S : List Nat) (g : Nat) (l : List UInt8) (hw : Wr w S g l) (hl : l.length + 70000 ≤ 1073741000) (hx : x.Ok w S) (C : List Value) (hC : x.cells = C) :
    Calls Tryz.prog 33 #[.pointer (some ⟨g, 0, none⟩), .agg C.toArray] w fun e w' => e = .returned (.bool true) ∧ Gr w S g (l ++ x.ak.full) w' := by
  obtain ⟨wa, hwa⟩ : ∃ wa, wa = w.alloc (Obj.cells C.toArray 61) := ⟨_, rfl⟩
  have hf0 : Fr [] w wa := by rw [hwa]; exact (Fr.refl [] w).alloc _
  have hb0 : Blk wa w.heap.size 61 x.cells.toArray := by rw [hwa, hC]; exact Blk.new _ _ _
  have HNS : Hid (¬ w.heap.size ∈ S) := Lib.hid (fun h => by have := hw.lt _ h; omega)
  have HG0 := Lib.hid (Gr.refl (hw.keep hf0 (by simp)))
  have hat : x.At wa w.heap.size := Wmg.at_of hb0.range hx
  have hq0 : wa.cell? ⟨w.heap.size, 0, none⟩ = some (.int .i64 4) := by have h := hat.q 0 _ rfl; rw [hq] at h; exact h
  have HXA : Hid (x.Ok wa S) := Lib.hid (hx.keep (hf0.mono (T := S) (by simp)) (fun k hk _ => hk))
  have HK : Hid (wa.rangeAt w.heap.size 116 x.ak.cells) := Lib.hid hat.ak
  have HKL : Hid (x.ak.cells.length = 38) := Lib.hid (Wst.len hx.ak.h)
  have HF0 := Lib.hid hf0
  have HWA := Lib.hid hwa
  have HL := Lib.hid hl
  have HX := Lib.hid hx
  clear hwa hf0 hb0 hat hl hw hx hC hq
  generalize hK : x.ak.cells = K at *
  have HRK := Lib.hid hK
  clear hK
  go_enter Tryz.func33, Tryz.ntmps33
  go_upto_region 1 with (fail)
  change Code.wp _ _ _ _ (w.alloc (Obj.cells C.toArray 61))
  rw [← HWA.out]
  go_wp2_with (refine wpList_load_mid rfl 37 _ rfl w.heap.size 116 rfl K _ HK.out Tryz.underlying37 rfl (row_ack.of HKL.out).2 ?_)
  refine (HG0.out.call fun S1 k1 => putAck_any' x.ak HX.out.ak K HRK.out _ S1 g _ k1 (by have h0 := HL.out; omega)).mono ?_
  rintro e w1 ⟨rfl, hg1⟩
  have HG1 := Lib.hid hg1
  clear hg1 HG0
  go_wp2_with fail
  go_ret
  exact ⟨rfl, (HG1.out.from_ HF0.out).eq rfl⟩
set_option maxHeartbeats 2000000 in
theorem mput_pr (x : Wmg) (hq : x.q = 6) (w : World) (S : List Nat) (g : Nat) (l : List UInt8) (hw : Wr w S g l) (hl : l.length + 70000 ≤ 1073741000) (hx : x.Ok w S) (C : List Value) (hC : x.cells = C) :
    Calls Tryz.prog 33 #[.pointer (some ⟨g, 0, none⟩), .agg C.toArray] w fun e w' => e = .returned (.bool true) ∧ Gr w S g (l ++ x.pr.full) w' := by
  obtain ⟨wa, hwa⟩ : ∃ wa, wa = w.alloc (Obj.cells C.toArray 61) := ⟨_, rfl⟩
  have hf0 : Fr [] w wa := by rw [hwa]; exact (Fr.refl [] w).alloc _
  have hb0 : Blk wa w.heap.size 61 x.cells.toArray := by rw [hwa, hC]; exact Blk.new _ _ _
  have HNS : Hid (¬ w.heap.size ∈ S) := Lib.hid (fun h => by have := hw.lt _ h; omega)
  have HG0 := Lib.hid (Gr.refl (hw.keep hf0 (by simp)))
  have hat : x.At wa w.heap.size := Wmg.at_of hb0.range hx
  have hq0 : wa.cell? ⟨w.heap.size, 0, none⟩ = some (.int .i64 6) := by have h := hat.q 0 _ rfl; rw [hq] at h; exact h
  have HXA : Hid (x.Ok wa S) := Lib.hid (hx.keep (hf0.mono (T := S) (by simp)) (fun k hk _ => hk))
  have HK : Hid (wa.rangeAt w.heap.size 157 x.pr.cells) := Lib.hid hat.pr
  have HKL : Hid (x.pr.cells.length = 6) := Lib.hid (Wpr.len x.pr)
  have HF0 := Lib.hid hf0
  have HWA := Lib.hid hwa
  have HL := Lib.hid hl
  have HX := Lib.hid hx
  clear hwa hf0 hb0 hat hl hw hx hC hq
  generalize hK : x.pr.cells = K at *
  have HRK := Lib.hid hK
  clear hK
  go_enter Tryz.func33, Tryz.ntmps33
  go_upto_region 1 with (fail)
  change Code.wp _ _ _ _ (w.alloc (Obj.cells C.toArray 61))
  rw [← HWA.out]
  go_wp2_with (refine wpList_load_mid rfl 40 _ rfl w.heap.size 157 rfl K _ HK.out Tryz.underlying40 rfl (row_prm.of HKL.out).2 ?_)
  refine (HG0.out.calls fun S1 k1 f1 s1 => putPromise_any' x.pr K HRK.out _ S1 g _ k1 (by have h0 := HL.out; omega) ((HXA.out.pr).keep f1 s1)).mono ?_
  rintro e w1 ⟨rfl, hg1⟩
  have HG1 := Lib.hid hg1
  clear hg1 HG0
  go_wp2_with fail
  go_ret
  exact ⟨rfl, (HG1.out.from_ HF0.out).eq rfl⟩
set_option maxHeartbeats 2000000 in
theorem mput_po (x : Wmg) (hq : x.q = 7) (w : World) (S : List Nat) (g : Nat) (l : List UInt8) (hw : Wr w S g l) (hl : l.length + 70000 ≤ 1073741000) (hx : x.Ok w S) (C : List Value) (hC : x.cells = C) :
    Calls Tryz.prog 33 #[.pointer (some ⟨g, 0, none⟩), .agg C.toArray] w fun e w' => e = .returned (.bool true) ∧ Gr w S g (l ++ x.po.full) w' := by
  obtain ⟨wa, hwa⟩ : ∃ wa, wa = w.alloc (Obj.cells C.toArray 61) := ⟨_, rfl⟩
  have hf0 : Fr [] w wa := by rw [hwa]; exact (Fr.refl [] w).alloc _
  have hb0 : Blk wa w.heap.size 61 x.cells.toArray := by rw [hwa, hC]; exact Blk.new _ _ _
  have HNS : Hid (¬ w.heap.size ∈ S) := Lib.hid (fun h => by have := hw.lt _ h; omega)
  have HG0 := Lib.hid (Gr.refl (hw.keep hf0 (by simp)))
  have hat : x.At wa w.heap.size := Wmg.at_of hb0.range hx
  have hq0 : wa.cell? ⟨w.heap.size, 0, none⟩ = some (.int .i64 7) := by have h := hat.q 0 _ rfl; rw [hq] at h; exact h
  have HXA : Hid (x.Ok wa S) := Lib.hid (hx.keep (hf0.mono (T := S) (by simp)) (fun k hk _ => hk))
  have HK : Hid (wa.rangeAt w.heap.size 163 x.po.cells) := Lib.hid hat.po
  have HKL : Hid (x.po.cells.length = 11) := Lib.hid (Wpo.len x.po)
  have HF0 := Lib.hid hf0
  have HWA := Lib.hid hwa
  have HL := Lib.hid hl
  have HX := Lib.hid hx
  clear hwa hf0 hb0 hat hl hw hx hC hq
  generalize hK : x.po.cells = K at *
  have HRK := Lib.hid hK
  clear hK
  go_enter Tryz.func33, Tryz.ntmps33
  go_upto_region 1 with (fail)
  change Code.wp _ _ _ _ (w.alloc (Obj.cells C.toArray 61))
  rw [← HWA.out]
  go_wp2_with (refine wpList_load_mid rfl 47 _ rfl w.heap.size 163 rfl K _ HK.out Tryz.underlying47 rfl (row_prop.of HKL.out).2 ?_)
  refine (HG0.out.calls fun S1 k1 f1 s1 => putProposal_any' x.po K HRK.out _ S1 g _ k1 (by have h0 := HL.out; omega) ((HXA.out.po).keep f1 s1)).mono ?_
  rintro e w1 ⟨rfl, hg1⟩
  have HG1 := Lib.hid hg1
  clear hg1 HG0
  go_wp2_with fail
  go_ret
  exact ⟨rfl, (HG1.out.from_ HF0.out).eq rfl⟩
set_option maxHeartbeats 2000000 in
theorem mput_vt (x : Wmg) (hq : x.q = 8) (w : World) (S : List Nat) (g : Nat) (l : List UInt8) (hw : Wr w S g l) (hl : l.length + 70000 ≤ 1073741000) (hx : x.Ok w S) (C : List Value) (hC : x.cells = C) :
    Calls Tryz.prog 33 #[.pointer (some ⟨g, 0, none⟩), .agg C.toArray] w fun e w' => e = .returned (.bool true) ∧ Gr w S g (l ++ x.vt.full) w' := by
  obtain ⟨wa, hwa⟩ : ∃ wa, wa = w.alloc (Obj.cells C.toArray 61) := ⟨_, rfl⟩
  have hf0 : Fr [] w wa := by rw [hwa]; exact (Fr.refl [] w).alloc _
  have hb0 : Blk wa w.heap.size 61 x.cells.toArray := by rw [hwa, hC]; exact Blk.new _ _ _
  have HNS : Hid (¬ w.heap.size ∈ S) := Lib.hid (fun h => by have := hw.lt _ h; omega)
  have HG0 := Lib.hid (Gr.refl (hw.keep hf0 (by simp)))
  have hat : x.At wa w.heap.size := Wmg.at_of hb0.range hx
  have hq0 : wa.cell? ⟨w.heap.size, 0, none⟩ = some (.int .i64 8) := by have h := hat.q 0 _ rfl; rw [hq] at h; exact h
  have HXA : Hid (x.Ok wa S) := Lib.hid (hx.keep (hf0.mono (T := S) (by simp)) (fun k hk _ => hk))
  have HK : Hid (wa.rangeAt w.heap.size 174 x.vt.cells) := Lib.hid hat.vt
  have HKL : Hid (x.vt.cells.length = 38) := Lib.hid (Wvt.len hx.vt.h)
  have HF0 := Lib.hid hf0
  have HWA := Lib.hid hwa
  have HL := Lib.hid hl
  have HX := Lib.hid hx
  clear hwa hf0 hb0 hat hl hw hx hC hq
  generalize hK : x.vt.cells = K at *
  have HRK := Lib.hid hK
  clear hK
  go_enter Tryz.func33, Tryz.ntmps33
  go_upto_region 1 with (fail)
  change Code.wp _ _ _ _ (w.alloc (Obj.cells C.toArray 61))
  rw [← HWA.out]
  go_wp2_with (refine wpList_load_mid rfl 49 _ rfl w.heap.size 174 rfl K _ HK.out Tryz.underlying49 rfl (row_vote.of HKL.out).2 ?_)
  refine (HG0.out.call fun S1 k1 => putVote_any' x.vt HX.out.vt K HRK.out _ S1 g _ k1 (by have h0 := HL.out; omega)).mono ?_
  rintro e w1 ⟨rfl, hg1⟩
  have HG1 := Lib.hid hg1
  clear hg1 HG0
  go_wp2_with fail
  go_ret
  exact ⟨rfl, (HG1.out.from_ HF0.out).eq rfl⟩
set_option maxHeartbeats 2000000 in
theorem mput_op (x : Wmg) (hq : x.q = 10) (w : World) (S : List Nat) (g : Nat) (l : List UInt8) (hw : Wr w S g l) (hl : l.length + 70000 ≤ 1073741000) (hx : x.Ok w S) (C : List Value) (hC : x.cells = C) :
    Calls Tryz.prog 33 #[.pointer (some ⟨g, 0, none⟩), .agg C.toArray] w fun e w' => e = .returned (.bool true) ∧ Gr w S g (l ++ x.op.full) w' := by
  obtain ⟨wa, hwa⟩ : ∃ wa, wa = w.alloc (Obj.cells C.toArray 61) := ⟨_, rfl⟩
  have hf0 : Fr [] w wa := by rw [hwa]; exact (Fr.refl [] w).alloc _
  have hb0 : Blk wa w.heap.size 61 x.cells.toArray := by rw [hwa, hC]; exact Blk.new _ _ _
  have HNS : Hid (¬ w.heap.size ∈ S) := Lib.hid (fun h => by have := hw.lt _ h; omega)
  have HG0 := Lib.hid (Gr.refl (hw.keep hf0 (by simp)))
  have hat : x.At wa w.heap.size := Wmg.at_of hb0.range hx
  have hq0 : wa.cell? ⟨w.heap.size, 0, none⟩ = some (.int .i64 10) := by have h := hat.q 0 _ rfl; rw [hq] at h; exact h
  have HXA : Hid (x.Ok wa S) := Lib.hid (hx.keep (hf0.mono (T := S) (by simp)) (fun k hk _ => hk))
  have HK : Hid (wa.rangeAt w.heap.size 248 x.op.cells) := Lib.hid hat.op
  have HKL : Hid (x.op.cells.length = 34) := Lib.hid (Wop.len hx.op.h)
  have HF0 := Lib.hid hf0
  have HWA := Lib.hid hwa
  have HL := Lib.hid hl
  have HX := Lib.hid hx
  clear hwa hf0 hb0 hat hl hw hx hC hq
  generalize hK : x.op.cells = K at *
  have HRK := Lib.hid hK
  clear hK
  go_enter Tryz.func33, Tryz.ntmps33
  go_upto_region 1 with (fail)
  change Code.wp _ _ _ _ (w.alloc (Obj.cells C.toArray 61))
  rw [← HWA.out]
  go_wp2_with (refine wpList_load_mid rfl 54 _ rfl w.heap.size 248 rfl K _ HK.out Tryz.underlying54 rfl (row_opn.of HKL.out).2 ?_)
  refine (HG0.out.calls fun S1 k1 f1 s1 => putOpening_any' x.op K HRK.out _ S1 g _ k1 (by have h0 := HL.out; omega) ((HXA.out.op).keep f1 s1)).mono ?_
  rintro e w1 ⟨rfl, hg1⟩
  have HG1 := Lib.hid hg1
  clear hg1 HG0
  go_wp2_with fail
  go_ret
  exact ⟨rfl, (HG1.out.from_ HF0.out).eq rfl⟩
set_option maxHeartbeats 2000000 in
theorem mput_dn (x : Wmg) (hq : x.q = 12) (w : World) (S : List Nat) (g : Nat) (l : List UInt8) (hw : Wr w S g l) (hl : l.length + 70000 ≤ 1073741000) (hx : x.Ok w S) (C : List Value) (hC : x.cells = C) :
    Calls Tryz.prog 33 #[.pointer (some ⟨g, 0, none⟩), .agg C.toArray] w fun e w' => e = .returned (.bool true) ∧ Gr w S g (l ++ x.dn.full) w' := by
  obtain ⟨wa, hwa⟩ : ∃ wa, wa = w.alloc (Obj.cells C.toArray 61) := ⟨_, rfl⟩
  have hf0 : Fr [] w wa := by rw [hwa]; exact (Fr.refl [] w).alloc _
  have hb0 : Blk wa w.heap.size 61 x.cells.toArray := by rw [hwa, hC]; exact Blk.new _ _ _
  have HNS : Hid (¬ w.heap.size ∈ S) := Lib.hid (fun h => by have := hw.lt _ h; omega)
  have HG0 := Lib.hid (Gr.refl (hw.keep hf0 (by simp)))
  have hat : x.At wa w.heap.size := Wmg.at_of hb0.range hx
  have hq0 : wa.cell? ⟨w.heap.size, 0, none⟩ = some (.int .i64 12) := by have h := hat.q 0 _ rfl; rw [hq] at h; exact h
  have HXA : Hid (x.Ok wa S) := Lib.hid (hx.keep (hf0.mono (T := S) (by simp)) (fun k hk _ => hk))
  have HK : Hid (wa.rangeAt w.heap.size 282 x.dn.cells) := Lib.hid hat.dn
  have HKL : Hid (x.dn.cells.length = 4) := Lib.hid (Wdn.len x.dn)
  have HF0 := Lib.hid hf0
  have HWA := Lib.hid hwa
  have HL := Lib.hid hl
  have HX := Lib.hid hx
  clear hwa hf0 hb0 hat hl hw hx hC hq
  generalize hK : x.dn.cells = K at *
  have HRK := Lib.hid hK
  clear hK
  go_enter Tryz.func33, Tryz.ntmps33
  go_upto_region 1 with (fail)
  change Code.wp _ _ _ _ (w.alloc (Obj.cells C.toArray 61))
  rw [← HWA.out]
  go_wp2_with (refine wpList_load_mid rfl 56 _ rfl w.heap.size 282 rfl K _ HK.out Tryz.underlying56 rfl (row_deny.of HKL.out).2 ?_)
  refine (HG0.out.call fun S1 k1 => putDeny_any' x.dn HX.out.dn K HRK.out _ S1 g _ k1 (by have h0 := HL.out; omega)).mono ?_
  rintro e w1 ⟨rfl, hg1⟩
  have HG1 := Lib.hid hg1
  clear hg1 HG0
  go_wp2_with fail
  go_ret
  exact ⟨rfl, (HG1.out.from_ HF0.out).eq rfl⟩
set_option maxHeartbeats 2000000 in
theorem mput_de (x : Wmg) (hq : x.q = 14) (w : World) (S : List Nat) (g : Nat) (l : List UInt8) (hw : Wr w S g l) (hl : l.length + 70000 ≤ 1073741000) (hx : x.Ok w S) (C : List Value) (hC : x.cells = C) :
    Calls Tryz.prog 33 #[.pointer (some ⟨g, 0, none⟩), .agg C.toArray] w fun e w' => e = .returned (.bool true) ∧ Gr w S g (l ++ x.de.full) w' := by
  obtain ⟨wa, hwa⟩ : ∃ wa, wa = w.alloc (Obj.cells C.toArray 61) := ⟨_, rfl⟩
  have hf0 : Fr [] w wa := by rw [hwa]; exact (Fr.refl [] w).alloc _
  have hb0 : Blk wa w.heap.size 61 x.cells.toArray := by rw [hwa, hC]; exact Blk.new _ _ _
  have HNS : Hid (¬ w.heap.size ∈ S) := Lib.hid (fun h => by have := hw.lt _ h; omega)
  have HG0 := Lib.hid (Gr.refl (hw.keep hf0 (by simp)))
  have hat : x.At wa w.heap.size := Wmg.at_of hb0.range hx
  have hq0 : wa.cell? ⟨w.heap.size, 0, none⟩ = some (.int .i64 14) := by have h := hat.q 0 _ rfl; rw [hq] at h; exact h
  have HXA : Hid (x.Ok wa S) := Lib.hid (hx.keep (hf0.mono (T := S) (by simp)) (fun k hk _ => hk))
  have HK : Hid (wa.rangeAt w.heap.size 287 x.de.cells) := Lib.hid hat.de
  have HKL : Hid (x.de.cells.length = 8) := Lib.hid (Wdc.len x.de)
  have HF0 := Lib.hid hf0
  have HWA := Lib.hid hwa
  have HL := Lib.hid hl
  have HX := Lib.hid hx
  clear hwa hf0 hb0 hat hl hw hx hC hq
  generalize hK : x.de.cells = K at *
  have HRK := Lib.hid hK
  clear hK
  go_enter Tryz.func33, Tryz.ntmps33
  go_upto_region 1 with (fail)
  change Code.wp _ _ _ _ (w.alloc (Obj.cells C.toArray 61))
  rw [← HWA.out]
  go_wp2_with (refine wpList_load_mid rfl 59 _ rfl w.heap.size 287 rfl K _ HK.out Tryz.underlying59 rfl (row_dec.of HKL.out).2 ?_)
  refine (HG0.out.calls fun S1 k1 f1 s1 => putDecided_any' x.de K HRK.out _ S1 g _ k1 (by have h0 := HL.out; omega) ((HXA.out.de).keep f1 s1)).mono ?_
  rintro e w1 ⟨rfl, hg1⟩
  have HG1 := Lib.hid hg1
  clear hg1 HG0
  go_wp2_with fail
  go_ret
  exact ⟨rfl, (HG1.out.from_ HF0.out).eq rfl⟩
set_option maxHeartbeats 2000000 in
theorem mput_i (x : Wmg) (hq : x.q = 11) (w : World) (S : List Nat) (g : Nat) (l : List UInt8) (hw : Wr w S g l) (hl : l.length + 70000 ≤ 1073741000) (hx : x.Ok w S) (C : List Value) (hC : x.cells = C) :
    Calls Tryz.prog 33 #[.pointer (some ⟨g, 0, none⟩), .agg C.toArray] w fun e w' => e = .returned (.bool true) ∧ Gr w S g (l ++ encI x.i) w' := by
  obtain ⟨wa, hwa⟩ : ∃ wa, wa = w.alloc (Obj.cells C.toArray 61) := ⟨_, rfl⟩
  have hf0 : Fr [] w wa := by rw [hwa]; exact (Fr.refl [] w).alloc _
  have hb0 : Blk wa w.heap.size 61 x.cells.toArray := by rw [hwa, hC]; exact Blk.new _ _ _
  have HNS : Hid (¬ w.heap.size ∈ S) := Lib.hid (fun h => by have := hw.lt _ h; omega)
  have HG0 := Lib.hid (Gr.refl (hw.keep hf0 (by simp)))
  have hat : x.At wa w.heap.size := Wmg.at_of hb0.range hx
  have hq0 : wa.cell? ⟨w.heap.size, 0, none⟩ = some (.int .i64 11) := by have h := hat.q 0 _ rfl; rw [hq] at h; exact h
  have HXA : Hid (x.Ok wa S) := Lib.hid (hx.keep (hf0.mono (T := S) (by simp)) (fun k hk _ => hk))
  have hi0 : wa.cell? ⟨w.heap.size, 212, none⟩ = some (.int .i64 x.i) := hat.i 0 _ rfl
  have HF0 := Lib.hid hf0
  have HWA := Lib.hid hwa
  have HL := Lib.hid hl
  have HX := Lib.hid hx
  clear hwa hf0 hb0 hat hl hw hx hC hq
  go_enter Tryz.func33, Tryz.ntmps33
  go_upto_region 1 with (fail)
  change Code.wp _ _ _ _ (w.alloc (Obj.cells C.toArray 61))
  rw [← HWA.out]
  go_wp2_with fail
  refine (HG0.out.call fun S1 k1 => int_any x.i HX.out.i.1 HX.out.i.2 _ S1 g _ k1 (by have h0 := HL.out; omega)).mono ?_
  rintro e w1 ⟨rfl, hg1⟩
  have HG1 := Lib.hid hg1
  clear hg1 HG0
  go_wp2_with fail
  go_ret
  exact ⟨rfl, (HG1.out.from_ HF0.out).eq rfl⟩
set_option maxHeartbeats 2000000 in
theorem mput_close (x : Wmg) (hq : x.q = 5) (w : World) (S : List Nat) (g : Nat) (l : List UInt8) (hw : Wr w S g l) (hl : l.length + 70000 ≤ 1073741000) (hx : x.Ok w S) (C : List Value) (hC : x.cells = C) :
    Calls Tryz.prog 33 #[.pointer (some ⟨g, 0, none⟩), .agg C.toArray] w fun e w' => e = .returned (.bool true) ∧ Gr w S g (l ++ (encI x.e ++ encI x.r ++ enc x.tm)) w' := by
  obtain ⟨wa, hwa⟩ : ∃ wa, wa = w.alloc (Obj.cells C.toArray 61) := ⟨_, rfl⟩
  have hf0 : Fr [] w wa := by rw [hwa]; exact (Fr.refl [] w).alloc _
  have hb0 : Blk wa w.heap.size 61 x.cells.toArray := by rw [hwa, hC]; exact Blk.new _ _ _
  have HNS : Hid (¬ w.heap.size ∈ S) := Lib.hid (fun h => by have := hw.lt _ h; omega)
  have HG0 := Lib.hid (Gr.begin hw hf0)
  have hat : x.At wa w.heap.size := Wmg.at_of hb0.range hx
  have hq0 : wa.cell? ⟨w.heap.size, 0, none⟩ = some (.int .i64 5) := by have h := hat.q 0 _ rfl; rw [hq] at h; exact h
  have HXA : Hid (x.Ok wa S) := Lib.hid (hx.keep (hf0.mono (T := S) (by simp)) (fun k hk _ => hk))
  have HC0 : Hid (wa.cell? ⟨w.heap.size, 0 + 154, none⟩ = some (.int .i64 x.e)) := Lib.hid (hat.e 0 _ rfl)
  have HC1 : Hid (wa.cell? ⟨w.heap.size, 0 + 155, none⟩ = some (.int .i64 x.r)) := Lib.hid (hat.r 0 _ rfl)
  have HC2 : Hid (wa.cell? ⟨w.heap.size, 0 + 156, none⟩ = some (.int .u64 (x.tm : Int))) := Lib.hid (hat.tm 0 _ rfl)
  have HF0 := Lib.hid hf0
  have HWA := Lib.hid hwa
  have HL := Lib.hid hl
  have HX := Lib.hid hx
  clear hwa hf0 hb0 hat hl hw hx hC hq
  go_enter Tryz.func33, Tryz.ntmps33
  go_upto_region 1 with (fail)
  change Code.wp _ _ _ _ (w.alloc (Obj.cells C.toArray 61))
  rw [← HWA.out]
  go_wp2_with fail
  refine wp_region_held_drew (S := Fr S wa) (by kernel_rfl) (Fr.drew (Fr.refl _ wa)) (fun hHeld => ?_)
  refine run_at (i := 0) (v := ?_) rfl (by kernel_rfl) (by rfl) (fun _ _ _ h => h) hHeld (fun w1 hw1 => ?_) ?_
  rotate_left 1
  · skip
    go_simp
    (try (first | with_reducible rfl | (apply And.intro <;> rfl)))
  simp only [Act.put, List.setIfInBounds_toArray, List.set_cons_zero, List.set_cons_succ]
  refine run_at (i := 1) (v := ?_) rfl (by kernel_rfl) (by rfl) (fun _ _ _ h => h) hHeld (fun w1 hw1 => ?_) ?_
  rotate_left 1
  · skip
    go_simp
    (try (first | with_reducible rfl | (apply And.intro <;> rfl)))
  simp only [Act.put, List.setIfInBounds_toArray, List.set_cons_zero, List.set_cons_succ]
  refine run_at (i := 2) (v := ?_) rfl (by kernel_rfl) (by rfl) (fun _ _ _ h => h) hHeld (fun w1 hw1 => ?_) ?_
  rotate_left 1
  · skip
    have hcw0 := hw1.cell (HC0.out) (by first | (simp; done) | exact HNS.out | exact HNW.out | (intro hm; have hlt := HSB.out _ hm; (try dsimp only at hlt); omega))
    go_simp
    (try (first | with_reducible rfl | (apply And.intro <;> rfl)))
  simp only [Act.put, List.setIfInBounds_toArray, List.set_cons_zero, List.set_cons_succ]
  refine run_at (i := 4) (v := ?_) rfl (by kernel_rfl) (by rfl) (fun _ _ _ h => h) hHeld (fun w1 hw1 => ?_) ?_
  rotate_left 1
  · skip
    go_simp
    (try (first | with_reducible rfl | (apply And.intro <;> rfl)))
  simp only [Act.put, List.setIfInBounds_toArray, List.set_cons_zero, List.set_cons_succ]
  refine run_at (i := 5) (v := ?_) rfl (by kernel_rfl) (by rfl) (fun _ _ _ h => h) hHeld (fun w1 hw1 => ?_) ?_
  rotate_left 1
  · skip
    have hcw0 := hw1.cell (HC1.out) (by first | (simp; done) | exact HNS.out | exact HNW.out | (intro hm; have hlt := HSB.out _ hm; (try dsimp only at hlt); omega))
    go_simp
    (try (first | with_reducible rfl | (apply And.intro <;> rfl)))
  simp only [Act.put, List.setIfInBounds_toArray, List.set_cons_zero, List.set_cons_succ]
  refine run_at (i := 7) (v := ?_) rfl (by kernel_rfl) (by rfl) (fun _ _ _ h => h) hHeld (fun w1 hw1 => ?_) ?_
  rotate_left 1
  · skip
    go_simp
    (try (first | with_reducible rfl | (apply And.intro <;> rfl)))
  simp only [Act.put, List.setIfInBounds_toArray, List.set_cons_zero, List.set_cons_succ]
  refine run_at (i := 8) (v := ?_) rfl (by kernel_rfl) (by rfl) (fun _ _ _ h => h) hHeld (fun w1 hw1 => ?_) ?_
  rotate_left 1
  · skip
    have hcw0 := hw1.cell (HC2.out) (by first | (simp; done) | exact HNS.out | exact HNW.out | (intro hm; have hlt := HSB.out _ hm; (try dsimp only at hlt); omega))
    go_simp
    (try (first | with_reducible rfl | (apply And.intro <;> rfl)))
  simp only [Act.put, List.setIfInBounds_toArray, List.set_cons_zero, List.set_cons_succ]
  refine call_at (i := 3) (f := ?_) (args := ?_) rfl (by kernel_rfl) (by rfl) ?_ ?_
  rotate_left 2
  · go_simp
    (try (first | with_reducible rfl | (apply And.intro <;> rfl)))
  refine (HG0.out.call fun S1 k1 => int_any x.e HX.out.e.1 HX.out.e.2 _ S1 g _ k1 (by have h0 := HL.out; (try simp only [List.length_append, sgL, nmL] at *); omega)).mono ?_
  rintro e w1 ⟨rfl, hg1⟩
  have HG1 := Lib.hid hg1
  refine ⟨_, rfl, hg1.fr, fun hHeld => ?_⟩
  clear hg1 HG0
  simp only [Act.put, List.setIfInBounds_toArray, List.set_cons_zero, List.set_cons_succ]
  refine call_at (i := 6) (f := ?_) (args := ?_) rfl (by kernel_rfl) (by rfl) ?_ ?_
  rotate_left 2
  · go_simp
    (try (first | with_reducible rfl | (apply And.intro <;> rfl)))
  refine (HG1.out.call fun S1 k1 => int_any x.r HX.out.r.1 HX.out.r.2 _ S1 g _ k1 (by have h0 := HL.out; have b0 := encI_len x.e HX.out.e.2; (try simp only [List.length_append, sgL, nmL] at *); omega)).mono ?_
  rintro e w2 ⟨rfl, hg2⟩
  have HG2 := Lib.hid hg2
  refine ⟨_, rfl, hg2.fr, fun hHeld => ?_⟩
  clear hg2 HG1
  simp only [Act.put, List.setIfInBounds_toArray, List.set_cons_zero, List.set_cons_succ]
  refine call_at (i := 9) (f := ?_) (args := ?_) rfl (by kernel_rfl) (by rfl) ?_ ?_
  rotate_left 2
  · go_simp
    (try (first | with_reducible rfl | (apply And.intro <;> rfl)))
  refine (HG2.out.call fun S1 k1 => num_any x.tm HX.out.tm _ S1 g _ k1 (by have h0 := HL.out; have b0 := encI_len x.e HX.out.e.2; have b1 := encI_len x.r HX.out.r.2; (try simp only [List.length_append, sgL, nmL] at *); omega)).mono ?_
  rintro e w3 ⟨rfl, hg3⟩
  have HG3 := Lib.hid hg3
  refine ⟨_, rfl, hg3.fr, fun hHeld => ?_⟩
  clear hg3 HG2
  simp only [Act.put, List.setIfInBounds_toArray, List.set_cons_zero, List.set_cons_succ]
  refine wpAnyH_done (by kernel_rfl) ?_ _
  go_wp2_with fail
  go_ret
  exact ⟨rfl, (HG3.out.from_ HF0.out).eq (by simp [List.append_assoc])⟩
theorem row_ent : RowTy Tryz.prog 51 35 := ⟨by kernel_rfl, by kernel_rfl⟩
set_option maxHeartbeats 2000000 in
theorem mput_en (x : Wmg) (hq : x.q = 9) (w : World) (S : List Nat) (g : Nat) (l : List UInt8) (hw : Wr w S g l) (hl : l.length + 70000 ≤ 1073741000) (hx : x.Ok w S) (C : List Value) (hC : x.cells = C) :
    Calls Tryz.prog 33 #[.pointer (some ⟨g, 0, none⟩), .agg C.toArray] w fun e w' => e = .returned (.bool true) ∧ Gr w S g (l ++ (encI x.i ++ x.en.full)) w' := by
  obtain ⟨wa, hwa⟩ : ∃ wa, wa = w.alloc (Obj.cells C.toArray 61) := ⟨_, rfl⟩
  have hf0 : Fr [] w wa := by rw [hwa]; exact (Fr.refl [] w).alloc _
  have hb0 : Blk wa w.heap.size 61 x.cells.toArray := by rw [hwa, hC]; exact Blk.new _ _ _
  have HNS : Hid (¬ w.heap.size ∈ S) := Lib.hid (fun h => by have := hw.lt _ h; omega)
  have HG0 := Lib.hid (Gr.begin hw hf0)
  have hat : x.At wa w.heap.size := Wmg.at_of hb0.range hx
  have hq0 : wa.cell? ⟨w.heap.size, 0, none⟩ = some (.int .i64 9) := by have h := hat.q 0 _ rfl; rw [hq] at h; exact h
  have HXA : Hid (x.Ok wa S) := Lib.hid (hx.keep (hf0.mono (T := S) (by simp)) (fun k hk _ => hk))
  have HC0 : Hid (wa.cell? ⟨w.heap.size, 0 + 212, none⟩ = some (.int .i64 x.i)) := Lib.hid (hat.i 0 _ rfl)
  have HK : Hid (wa.rangeAt w.heap.size (0 + 213) x.en.cells) := Lib.hid hat.en
  have HKL : Hid (x.en.cells.length = 35) := Lib.hid (Wen.len hx.en.h)
  have HF0 := Lib.hid hf0
  have HWA := Lib.hid hwa
  have HL := Lib.hid hl
  have HX := Lib.hid hx
  clear hwa hf0 hb0 hat hl hw hx hC hq
  generalize hK : x.en.cells = K at *
  have HRK := Lib.hid hK
  clear hK
  go_enter Tryz.func33, Tryz.ntmps33
  go_upto_region 1 with (fail)
  change Code.wp _ _ _ _ (w.alloc (Obj.cells C.toArray 61))
  rw [← HWA.out]
  go_wp2_with fail
  refine wp_region_held_drew (S := Fr S wa) (by kernel_rfl) (Fr.drew (Fr.refl _ wa)) (fun hHeld => ?_)
  refine run_at (i := 0) (v := ?_) rfl (by kernel_rfl) (by rfl) (fun _ _ _ h => h) hHeld (fun w1 hw1 => ?_) ?_
  rotate_left 1
  · skip
    go_simp
    (try (first | with_reducible rfl | (apply And.intro <;> rfl)))
  simp only [Act.put, List.setIfInBounds_toArray, List.set_cons_zero, List.set_cons_succ]
  refine run_at (i := 1) (v := ?_) rfl (by kernel_rfl) (by rfl) (fun _ _ _ h => h) hHeld (fun w1 hw1 => ?_) ?_
  rotate_left 1
  · skip
    go_simp
    (try (first | with_reducible rfl | (apply And.intro <;> rfl)))
  simp only [Act.put, List.setIfInBounds_toArray, List.set_cons_zero, List.set_cons_succ]
  refine run_at (i := 2) (v := ?_) rfl (by kernel_rfl) (by rfl) (fun _ _ _ h => h) hHeld (fun w1 hw1 => ?_) ?_
  rotate_left 1
  · skip
    have hcw0 := hw1.cell (HC0.out) (by first | (simp; done) | exact HNS.out | exact HNW.out | (intro hm; have hlt := HSB.out _ hm; (try dsimp only at hlt); omega))
    go_simp
    (try (first | with_reducible rfl | (apply And.intro <;> rfl)))
  simp only [Act.put, List.setIfInBounds_toArray, List.set_cons_zero, List.set_cons_succ]
  refine run_at (i := 4) (v := ?_) rfl (by kernel_rfl) (by rfl) (fun _ _ _ h => h) hHeld (fun w1 hw1 => ?_) ?_
  rotate_left 1
  · skip
    go_simp
    (try (first | with_reducible rfl | (apply And.intro <;> rfl)))
  simp only [Act.put, List.setIfInBounds_toArray, List.set_cons_zero, List.set_cons_succ]
  refine row_at (i := 5) rfl (by kernel_rfl) (by rfl) _ _ rfl _ _ rfl _ (fun w1 hw1 => hw1.range (HK.out) (by first | (simp; done) | exact HNS.out | exact HNW.out | (intro hm; have hlt := HSB.out _ hm; (try dsimp only at hlt); omega))) (row_ent.of HKL.out) (fun _ _ _ h => h) hHeld ?_
  simp only [Act.put, List.setIfInBounds_toArray, List.set_cons_zero, List.set_cons_succ]
  refine call_at (i := 3) (f := ?_) (args := ?_) rfl (by kernel_rfl) (by rfl) ?_ ?_
  rotate_left 2
  · go_simp
    (try (first | with_reducible rfl | (apply And.intro <;> rfl)))
  refine (HG0.out.call fun S1 k1 => int_any x.i HX.out.i.1 HX.out.i.2 _ S1 g _ k1 (by have h0 := HL.out; (try simp only [List.length_append, sgL, nmL] at *); omega)).mono ?_
  rintro e w1 ⟨rfl, hg1⟩
  have HG1 := Lib.hid hg1
  refine ⟨_, rfl, hg1.fr, fun hHeld => ?_⟩
  clear hg1 HG0
  simp only [Act.put, List.setIfInBounds_toArray, List.set_cons_zero, List.set_cons_succ]
  refine call_at (i := 6) (f := ?_) (args := ?_) rfl (by kernel_rfl) (by rfl) ?_ ?_
  rotate_left 2
  · go_simp
    (try (first | with_reducible rfl | (apply And.intro <;> rfl)))
  refine (HG1.out.call fun S1 k1 => putEntry_any' x.en HX.out.en K HRK.out _ S1 g _ k1 (by have h0 := HL.out; have b0 := encI_len x.i HX.out.i.2; (try simp only [List.length_append, sgL, nmL] at *); omega)).mono ?_
  rintro e w2 ⟨rfl, hg2⟩
  have HG2 := Lib.hid hg2
  refine ⟨_, rfl, hg2.fr, fun hHeld => ?_⟩
  clear hg2 HG1
  simp only [Act.put, List.setIfInBounds_toArray, List.set_cons_zero, List.set_cons_succ]
  refine wpAnyH_done (by kernel_rfl) ?_ _
  go_wp2_with fail
  go_ret
  exact ⟨rfl, (HG2.out.from_ HF0.out).eq (by simp [List.append_assoc])⟩
set_option maxHeartbeats 2000000 in
theorem mput_reply (x : Wmg) (hq : x.q = 13) (w : World) (S : List Nat) (g : Nat) (l : List UInt8) (hw : Wr w S g l) (hl : l.length + 70000 ≤ 1073741000) (hx : x.Ok w S) (C : List Value) (hC : x.cells = C) :
    Calls Tryz.prog 33 #[.pointer (some ⟨g, 0, none⟩), .agg C.toArray] w fun e w' => e = .returned (.bool true) ∧ Gr w S g (l ++ (encI x.i ++ (enc x.rp.length ++ x.rp))) w' := by
  obtain ⟨wa, hwa⟩ : ∃ wa, wa = w.alloc (Obj.cells C.toArray 61) := ⟨_, rfl⟩
  have hf0 : Fr [] w wa := by rw [hwa]; exact (Fr.refl [] w).alloc _
  have hb0 : Blk wa w.heap.size 61 x.cells.toArray := by rw [hwa, hC]; exact Blk.new _ _ _
  have HNS : Hid (¬ w.heap.size ∈ S) := Lib.hid (fun h => by have := hw.lt _ h; omega)
  have HG0 := Lib.hid (Gr.begin hw hf0)
  have hat : x.At wa w.heap.size := Wmg.at_of hb0.range hx
  have hq0 : wa.cell? ⟨w.heap.size, 0, none⟩ = some (.int .i64 13) := by have h := hat.q 0 _ rfl; rw [hq] at h; exact h
  have HXA : Hid (x.Ok wa S) := Lib.hid (hx.keep (hf0.mono (T := S) (by simp)) (fun k hk _ => hk))
  have HC0 : Hid (wa.cell? ⟨w.heap.size, 0 + 212, none⟩ = some (.int .i64 x.i)) := Lib.hid (hat.i 0 _ rfl)
  have HC1 : Hid (wa.cell? ⟨w.heap.size, 0 + 286, none⟩ = some (.string ⟨x.rp.toArray⟩)) := Lib.hid (hat.rp 0 _ rfl)
  have HW0 : Hid (Wr wa.drew S g l) := Lib.hid (hw.keep hf0.drew (by simp))
  have HSL : Hid (∀ k ∈ S, k < wa.heap.size) := Lib.hid (fun k hk => Nat.lt_of_lt_of_le (hw.lt k hk) hf0.size)
  have HF0 := Lib.hid hf0
  have HWA := Lib.hid hwa
  have HL := Lib.hid hl
  have HX := Lib.hid hx
  clear hwa hf0 hb0 hat hl hw hx hC hq
  go_enter Tryz.func33, Tryz.ntmps33
  go_upto_region 1 with (fail)
  change Code.wp _ _ _ _ (w.alloc (Obj.cells C.toArray 61))
  rw [← HWA.out]
  go_wp2_with fail
  refine wp_region_held_drew (S := Fr S wa) (by kernel_rfl) (Fr.drew (Fr.refl _ wa)) (fun hHeld => ?_)
  refine run_at (i := 0) (v := ?_) rfl (by kernel_rfl) (by rfl) (fun _ _ _ h => h) hHeld (fun w1 hw1 => ?_) ?_
  rotate_left 1
  · skip
    go_simp
    (try (first | with_reducible rfl | (apply And.intro <;> rfl)))
  simp only [Act.put, List.setIfInBounds_toArray, List.set_cons_zero, List.set_cons_succ]
  refine run_at (i := 1) (v := ?_) rfl (by kernel_rfl) (by rfl) (fun _ _ _ h => h) hHeld (fun w1 hw1 => ?_) ?_
  rotate_left 1
  · skip
    go_simp
    (try (first | with_reducible rfl | (apply And.intro <;> rfl)))
  simp only [Act.put, List.setIfInBounds_toArray, List.set_cons_zero, List.set_cons_succ]
  refine run_at (i := 2) (v := ?_) rfl (by kernel_rfl) (by rfl) (fun _ _ _ h => h) hHeld (fun w1 hw1 => ?_) ?_
  rotate_left 1
  · skip
    have hcw0 := hw1.cell (HC0.out) (by first | (simp; done) | exact HNS.out | exact HNW.out | (intro hm; have hlt := HSB.out _ hm; (try dsimp only at hlt); omega))
    go_simp
    (try (first | with_reducible rfl | (apply And.intro <;> rfl)))
  simp only [Act.put, List.setIfInBounds_toArray, List.set_cons_zero, List.set_cons_succ]
  refine run_at (i := 4) (v := ?_) rfl (by kernel_rfl) (by rfl) (fun _ _ _ h => h) hHeld (fun w1 hw1 => ?_) ?_
  rotate_left 1
  · skip
    go_simp
    (try (first | with_reducible rfl | (apply And.intro <;> rfl)))
  simp only [Act.put, List.setIfInBounds_toArray, List.set_cons_zero, List.set_cons_succ]
  refine run_at (i := 5) (v := ?_) rfl (by kernel_rfl) (by rfl) (fun _ _ _ h => h) hHeld (fun w1 hw1 => ?_) ?_
  rotate_left 1
  · skip
    have hcw0 := hw1.cell (HC1.out) (by first | (simp; done) | exact HNS.out | exact HNW.out | (intro hm; have hlt := HSB.out _ hm; (try dsimp only at hlt); omega))
    go_simp
    (try (first | with_reducible rfl | (apply And.intro <;> rfl)))
  simp only [Act.put, List.setIfInBounds_toArray, List.set_cons_zero, List.set_cons_succ]
  refine two_at (i := 3) (j := 6) rfl rfl (by kernel_rfl) (by rfl) (by rfl) (fun K hK => ?_) (fun K hK => ?_)
  focus
    refine wp_call (f := ?_) (args := ?_) ?_ ?_
    rotate_left 2
    · go_simp
      (try (first | with_reducible rfl | (apply And.intro <;> rfl)))
    refine (int_any x.i HX.out.i.1 HX.out.i.2 _ S g _ HW0.out (by have h0 := HL.out; omega)).mono ?_
    rintro e w1 ⟨rfl, S1, hw1, hf1, hs1⟩
    refine ⟨_, rfl, hK.out _ _ (hHeld.trans hf1 (fun x hx _ => hx)) (fun hHeld => ?_)⟩
    clear hK K
    simp only [Act.put, List.setIfInBounds_toArray, List.set_cons_zero, List.set_cons_succ]
    obtain ⟨w2, A, cc, hconv, hf2, hy2, hbk⟩ := conv_str w1 x.rp
    refine step_at (i := 6) rfl (by kernel_rfl) (by rfl) (fun K hK => ?_)
    refine wp_run (v := ?_) (w' := ?_) ?_ ?_
    rotate_left 2
    · have hrun := hconv
      go_simp
      (try (first | with_reducible rfl | (apply And.intro <;> rfl)))
    refine hK.out _ _ (hHeld.trans (hf2.mono (T := S) (by simp)) (fun x hx _ => hx)) (fun hHeld => ?_)
    clear hK K
    simp only [Act.put, List.setIfInBounds_toArray, List.set_cons_zero, List.set_cons_succ]
    have HW : Hid (Wr w2 S1 g (l ++ encI x.i)) := Lib.hid (hw1.keep hf2 (by simp))
    have HS : Hid (∀ k ∈ S1, k < wa.heap.size → k ∈ S) := Lib.hid hs1
    have HY := Lib.hid hy2
    have HA : Hid (∀ k ∈ bk A, ¬ k ∈ S1) := Lib.hid (fun k hk hin => by have h1 := (hbk k hk).1; have h2 := hw1.lt _ hin; omega)
    have HN : Hid (wa.heap.size ≤ w2.heap.size) := Lib.hid (Nat.le_trans hf1.size hf2.size)
    clear hconv hw1 hf1 hf2 hy2 hbk hs1
    generalize w2 = wz at *
  rotate_left
  focus
    obtain ⟨w2, A, cc, hconv, hf2, hy2, hbk⟩ := conv_str wa.drew x.rp
    refine wp_run (v := ?_) (w' := ?_) ?_ ?_
    rotate_left 2
    · have hrun := hconv
      go_simp
      (try (first | with_reducible rfl | (apply And.intro <;> rfl)))
    refine hK.out _ _ (hHeld.trans (hf2.mono (T := S) (by simp)) (fun x hx _ => hx)) (fun hHeld => ?_)
    clear hK K
    simp only [Act.put, List.setIfInBounds_toArray, List.set_cons_zero, List.set_cons_succ]
    refine call_at (i := 3) (f := ?_) (args := ?_) rfl (by kernel_rfl) (by rfl) ?_ ?_
    rotate_left 2
    · go_simp
      (try (first | with_reducible rfl | (apply And.intro <;> rfl)))
    refine (int_any x.i HX.out.i.1 HX.out.i.2 _ S g _ (HW0.out.keep hf2 (by simp)) (by have h0 := HL.out; omega)).mono ?_
    rintro e w1 ⟨rfl, S1, hw1, hf1, hs1⟩
    refine ⟨_, rfl, hHeld.trans hf1 (fun x hx _ => hx), fun hHeld => ?_⟩
    simp only [Act.put, List.setIfInBounds_toArray, List.set_cons_zero, List.set_cons_succ]
    have HW : Hid (Wr w1 S1 g (l ++ encI x.i)) := Lib.hid hw1
    have HS : Hid (∀ k ∈ S1, k < wa.heap.size → k ∈ S) := Lib.hid (fun k hk hl => hs1 k hk (Nat.lt_of_lt_of_le hl hf2.size))
    have HY := Lib.hid (hy2.keep hf1 (fun a ha hin => by have h1 : wa.heap.size ≤ a.block := (hbk a.block (by rw [ha]; simp [bk])).1; have h2 := HSL.out _ hin; omega))
    have HA : Hid (∀ k ∈ bk A, ¬ k ∈ S1) := Lib.hid (fun k hk hin => by have h1 := hbk k hk; have h3 : wa.heap.size ≤ k := h1.1; have h2 := HSL.out _ (hs1 k hin h1.2); omega)
    have HN : Hid (wa.heap.size ≤ w1.heap.size) := Lib.hid (Nat.le_trans (show wa.heap.size ≤ w2.heap.size from hf2.size) hf1.size)
    clear hconv hw1 hf1 hf2 hy2 hbk hs1
    generalize w1 = wz at *
  all_goals
    refine call_at (i := 7) (f := ?_) (args := ?_) rfl (by kernel_rfl) (by rfl) ?_ ?_
    rotate_left 2
    · go_simp
      (try (first | with_reducible rfl | (apply And.intro <;> rfl)))
    refine (row_any A x.rp.length cc x.rp wz HY.out (by have := HX.out.rp; omega) S1 HA.out g _ HW.out (by have h0 := HL.out; have b0 := encI_len x.i HX.out.i.2; simp only [List.length_append]; omega)).mono ?_
    rintro e w3 ⟨rfl, S3, hw3, hf3, hs3⟩
    refine ⟨_, rfl, hHeld.trans hf3 HS.out, fun hHeld => ?_⟩
    simp only [Act.put, List.setIfInBounds_toArray, List.set_cons_zero, List.set_cons_succ]
    have HG : Hid (Gr wa S g (l ++ encI x.i ++ (enc x.rp.length ++ x.rp)) w3) := Lib.hid ⟨S3, hw3, hHeld, fun k hk hl => HS.out k (hs3 k hk (Nat.lt_of_lt_of_le hl HN.out)) hl⟩
    clear hw3 hf3 hs3
    refine wpAnyH_done (by kernel_rfl) ?_ _
    go_wp2_with fail
    go_ret
    exact ⟨rfl, (HG.out.from_ HF0.out).eq (by simp [List.append_assoc])⟩
set_option maxHeartbeats 2000000 in
theorem mput_none (x : Wmg) (hq : ¬ (1 ≤ x.q ∧ x.q ≤ 14)) (w : World) (S : List Nat) (g : Nat) (l : List UInt8) (hw : Wr w S g l) (hl : l.length + 70000 ≤ 1073741000) (hx : x.Ok w S) (C : List Value) (hC : x.cells = C) :
    Calls Tryz.prog 33 #[.pointer (some ⟨g, 0, none⟩), .agg C.toArray] w fun e w' => e = .returned (.bool false) ∧ Gr w S g l w' := by
  obtain ⟨wa, hwa⟩ : ∃ wa, wa = w.alloc (Obj.cells C.toArray 61) := ⟨_, rfl⟩
  have hf0 : Fr [] w wa := by rw [hwa]; exact (Fr.refl [] w).alloc _
  have hb0 : Blk wa w.heap.size 61 x.cells.toArray := by rw [hwa, hC]; exact Blk.new _ _ _
  have HNS : Hid (¬ w.heap.size ∈ S) := Lib.hid (fun h => by have := hw.lt _ h; omega)
  have HG0 := Lib.hid (Gr.refl (hw.keep hf0 (by simp)))
  have hat : x.At wa w.heap.size := Wmg.at_of hb0.range hx
  have hq0 : wa.cell? ⟨w.heap.size, 0, none⟩ = some (.int .i64 x.q) := hat.q 0 _ rfl
  have HXA : Hid (x.Ok wa S) := Lib.hid (hx.keep (hf0.mono (T := S) (by simp)) (fun k hk _ => hk))
  have HQ := Lib.hid hq
  have HF0 := Lib.hid hf0
  have HWA := Lib.hid hwa
  have HL := Lib.hid hl
  have HX := Lib.hid hx
  clear hwa hf0 hb0 hat hl hw hx hC hq
  go_enter Tryz.func33, Tryz.ntmps33
  go_upto_region 1 with (fail)
  change Code.wp _ _ _ _ (w.alloc (Obj.cells C.toArray 61))
  rw [← HWA.out]
  have n1 : (x.q == (1 : Int)) = false := by have := HQ.out; simp; omega
  have n2 : (x.q == (2 : Int)) = false := by have := HQ.out; simp; omega
  have n3 : (x.q == (3 : Int)) = false := by have := HQ.out; simp; omega
  have n4 : (x.q == (4 : Int)) = false := by have := HQ.out; simp; omega
  have n5 : (x.q == (5 : Int)) = false := by have := HQ.out; simp; omega
  have n6 : (x.q == (6 : Int)) = false := by have := HQ.out; simp; omega
  have n7 : (x.q == (7 : Int)) = false := by have := HQ.out; simp; omega
  have n8 : (x.q == (8 : Int)) = false := by have := HQ.out; simp; omega
  have n9 : (x.q == (9 : Int)) = false := by have := HQ.out; simp; omega
  have n10 : (x.q == (10 : Int)) = false := by have := HQ.out; simp; omega
  have n11 : (x.q == (11 : Int)) = false := by have := HQ.out; simp; omega
  have n12 : (x.q == (12 : Int)) = false := by have := HQ.out; simp; omega
  have n13 : (x.q == (13 : Int)) = false := by have := HQ.out; simp; omega
  have n14 : (x.q == (14 : Int)) = false := by have := HQ.out; simp; omega
  go_wp2_with fail
  go_ret
  exact ⟨rfl, HG0.out.from_ HF0.out⟩
/-- what its kind names, as bytes -/
def Wmg.body (x : Wmg) : List UInt8 := if x.q = 1 then x.cm.full else if x.q = 2 then x.st.full else if x.q = 3 then x.ce.full else if x.q = 4 then x.ak.full else if x.q = 5 then encI x.e ++ encI x.r ++ enc x.tm else if x.q = 6 then x.pr.full else if x.q = 7 then x.po.full else if x.q = 8 then x.vt.full else if x.q = 9 then encI x.i ++ x.en.full else if x.q = 10 then x.op.full else if x.q = 11 then encI x.i else if x.q = 12 then x.dn.full else if x.q = 13 then encI x.i ++ (enc x.rp.length ++ x.rp) else if x.q = 14 then x.de.full else []
def Wmg.bytes (x : Wmg) : List UInt8 := encI x.q ++ encI x.f ++ encI x.t ++ x.body
theorem Wmg.body_1 {x : Wmg} (h : x.q = 1) : x.body = x.cm.full := by simp [Wmg.body, h]
theorem Wmg.body_2 {x : Wmg} (h : x.q = 2) : x.body = x.st.full := by simp [Wmg.body, h]
theorem Wmg.body_3 {x : Wmg} (h : x.q = 3) : x.body = x.ce.full := by simp [Wmg.body, h]
theorem Wmg.body_4 {x : Wmg} (h : x.q = 4) : x.body = x.ak.full := by simp [Wmg.body, h]
theorem Wmg.body_5 {x : Wmg} (h : x.q = 5) : x.body = encI x.e ++ encI x.r ++ enc x.tm := by simp [Wmg.body, h]
theorem Wmg.body_6 {x : Wmg} (h : x.q = 6) : x.body = x.pr.full := by simp [Wmg.body, h]
theorem Wmg.body_7 {x : Wmg} (h : x.q = 7) : x.body = x.po.full := by simp [Wmg.body, h]
theorem Wmg.body_8 {x : Wmg} (h : x.q = 8) : x.body = x.vt.full := by simp [Wmg.body, h]
theorem Wmg.body_9 {x : Wmg} (h : x.q = 9) : x.body = encI x.i ++ x.en.full := by simp [Wmg.body, h]
theorem Wmg.body_10 {x : Wmg} (h : x.q = 10) : x.body = x.op.full := by simp [Wmg.body, h]
theorem Wmg.body_11 {x : Wmg} (h : x.q = 11) : x.body = encI x.i := by simp [Wmg.body, h]
theorem Wmg.body_12 {x : Wmg} (h : x.q = 12) : x.body = x.dn.full := by simp [Wmg.body, h]
theorem Wmg.body_13 {x : Wmg} (h : x.q = 13) : x.body = encI x.i ++ (enc x.rp.length ++ x.rp) := by simp [Wmg.body, h]
theorem Wmg.body_14 {x : Wmg} (h : x.q = 14) : x.body = x.de.full := by simp [Wmg.body, h]
theorem Wmg.body_none {x : Wmg} (h : ¬ (1 ≤ x.q ∧ x.q ≤ 14)) : x.body = [] := by
  unfold Wmg.body
  rw [if_neg (by omega)]
  rw [if_neg (by omega)]
  rw [if_neg (by omega)]
  rw [if_neg (by omega)]
  rw [if_neg (by omega)]
  rw [if_neg (by omega)]
  rw [if_neg (by omega)]
  rw [if_neg (by omega)]
  rw [if_neg (by omega)]
  rw [if_neg (by omega)]
  rw [if_neg (by omega)]
  rw [if_neg (by omega)]
  rw [if_neg (by omega)]
  rw [if_neg (by omega)]
theorem Wmg.body_len {w : World} {S : List Nat} {x : Wmg} (hx : x.Ok w S) : x.body.length ≤ 15000 := by
  by_cases hm : 1 ≤ x.q ∧ x.q ≤ 14
  · have hs : x.q = 1 ∨ x.q = 2 ∨ x.q = 3 ∨ x.q = 4 ∨ x.q = 5 ∨ x.q = 6 ∨ x.q = 7 ∨ x.q = 8 ∨ x.q = 9 ∨ x.q = 10 ∨ x.q = 11 ∨ x.q = 12 ∨ x.q = 13 ∨ x.q = 14 := by omega
    rcases hs with h | h | h | h | h | h | h | h | h | h | h | h | h | h
    · rw [Wmg.body_1 h]
      have b0 := Wcm.full_len hx.cm
      omega
    · rw [Wmg.body_2 h]
      have b0 := Wst.full_len hx.st
      omega
    · rw [Wmg.body_3 h]
      have b0 := Wce.full_len hx.ce
      omega
    · rw [Wmg.body_4 h]
      have b0 := Wst.full_len hx.ak
      omega
    · rw [Wmg.body_5 h]
      have b0 := encI_len x.e hx.e.2
      have b1 := encI_len x.r hx.r.2
      have b2 := enc_ten hx.tm
      simp only [List.length_append]
      omega
    · rw [Wmg.body_6 h]
      have b0 := Wpr.full_len hx.pr
      omega
    · rw [Wmg.body_7 h]
      have b0 := Wpo.full_len hx.po
      omega
    · rw [Wmg.body_8 h]
      have b0 := Wvt.full_len hx.vt
      omega
    · rw [Wmg.body_9 h]
      have b0 := encI_len x.i hx.i.2
      have b1 := Wen.full_len hx.en
      simp only [List.length_append]
      omega
    · rw [Wmg.body_10 h]
      have b0 := Wop.full_len hx.op
      omega
    · rw [Wmg.body_11 h]
      have b0 := encI_len x.i hx.i.2
      omega
    · rw [Wmg.body_12 h]
      have b0 := Wdn.full_len hx.dn
      omega
    · rw [Wmg.body_13 h]
      have b0 := encI_len x.i hx.i.2
      have b1 := enc_ten (m := x.rp.length) (by have := hx.rp; omega)
      have b2 := hx.rp
      simp only [List.length_append]
      omega
    · rw [Wmg.body_14 h]
      have b0 := Wdc.full_len hx.de
      omega
  · rw [Wmg.body_none hm]
    exact Nat.zero_le _
theorem mput_any (x : Wmg) (w : World) (S : List Nat) (g : Nat) (l : List UInt8) (hw : Wr w S g l) (hl : l.length + 70000 ≤ 1073741000) (hx : x.Ok w S) (C : List Value) (hC : x.cells = C) :
    Calls Tryz.prog 33 #[.pointer (some ⟨g, 0, none⟩), .agg C.toArray] w fun e w' => e = .returned (.bool (decide (1 ≤ x.q ∧ x.q ≤ 14))) ∧ Gr w S g (l ++ x.body) w' := by
  by_cases hm : 1 ≤ x.q ∧ x.q ≤ 14
  · rw [decide_eq_true hm]
    have hs : x.q = 1 ∨ x.q = 2 ∨ x.q = 3 ∨ x.q = 4 ∨ x.q = 5 ∨ x.q = 6 ∨ x.q = 7 ∨ x.q = 8 ∨ x.q = 9 ∨ x.q = 10 ∨ x.q = 11 ∨ x.q = 12 ∨ x.q = 13 ∨ x.q = 14 := by omega
    rcases hs with h | h | h | h | h | h | h | h | h | h | h | h | h | h
    · rw [Wmg.body_1 h]; exact mput_cm x h w S g l hw hl hx C hC
    · rw [Wmg.body_2 h]; exact mput_st x h w S g l hw hl hx C hC
    · rw [Wmg.body_3 h]; exact mput_ce x h w S g l hw hl hx C hC
    · rw [Wmg.body_4 h]; exact mput_ak x h w S g l hw hl hx C hC
    · rw [Wmg.body_5 h]; exact mput_close x h w S g l hw hl hx C hC
    · rw [Wmg.body_6 h]; exact mput_pr x h w S g l hw hl hx C hC
    · rw [Wmg.body_7 h]; exact mput_po x h w S g l hw hl hx C hC
    · rw [Wmg.body_8 h]; exact mput_vt x h w S g l hw hl hx C hC
    · rw [Wmg.body_9 h]; exact mput_en x h w S g l hw hl hx C hC
    · rw [Wmg.body_10 h]; exact mput_op x h w S g l hw hl hx C hC
    · rw [Wmg.body_11 h]; exact mput_i x h w S g l hw hl hx C hC
    · rw [Wmg.body_12 h]; exact mput_dn x h w S g l hw hl hx C hC
    · rw [Wmg.body_13 h]; exact mput_reply x h w S g l hw hl hx C hC
    · rw [Wmg.body_14 h]; exact mput_de x h w S g l hw hl hx C hC
  · rw [decide_eq_false hm, Wmg.body_none hm, List.append_nil]
    exact mput_none x hm w S g l hw hl hx C hC
end Go.Proofs.YtnpjihdhpoddgaaGreat

namespace Go.Proofs.YtnpjihdhpoddgaaGreat
open Go.ChangeShapes Go.WideShapes Go.ChangeAt Go.RowKit
set_option maxRecDepth 100000
instance : Inhabited Wvt := ⟨⟨0, 0, 0, 0, [], 0, 0⟩⟩
/-- what was decided, as it comes in -/
structure Wdc.In (w : World) (x : Wdc) : Prop where
  e : i64In x.e
  r : i64In x.r
  k : x.k.In w
  l : Lst 38 Wvt.cells (fun _ v => v.Ok) w x.A x.n x.l
  n : x.n ≤ maxLen
  d : x.n ≤ x.d
/-- a message that comes in -/
structure Wmg.In (w : World) (x : Wmg) : Prop where
  q : i64In x.q
  f : i64In x.f
  t : i64In x.t
  cm : x.cm.Ok
  st : x.st.Ok
  ce : x.ce.In w
  ak : x.ak.Ok
  e : i64In x.e
  r : i64In x.r
  tm : x.tm < 18446744073709551616
  pr : x.pr.In w
  po : x.po.In w
  vt : x.vt.Ok
  i : i64In x.i
  en : x.en.Ok
  op : x.op.In w
  dn : x.dn.Ok
  rp : x.rp.length ≤ maxLen
  de : x.de.In w
def Wmg.val (x : Wmg) : Value := .agg x.cells.toArray
theorem vote_of_trod {H : Type} {enc : TypeId × Value → H} {W : World} {sp : Nat → Bool} {held : Bool} {fuel : Nat} {cs : List Value} {x0 : DataW H × List MemPlace} (h : DataW.trod enc Tryz.prog W 0 sp held fuel 49 cs = some x0) :
    ∃ x : Wvt, x.Ok ∧ cs = x.cells := by
  obtain ⟨xs, m, _, _, hlen, hxl, hat⟩ := DataW.trod_struct Tryz.underlying49 h
  rw [show Tryz.prog.cellsOf 49 = 38 by kernel_rfl] at hlen
  have hx : ∀ i (hi : i < 6), xs[i]? = some (xs[i]'(by rw [hxl]; exact hi)) := fun i hi => List.getElem?_eq_getElem _
  have f0 : DataW.trod enc Tryz.prog W 0 sp held m 3 ((cs.drop 0).take (Tryz.prog.cellsOf 3)) = _ := (hat 0 _ rfl).trans (hx 0 (by omega))
  rw [show Tryz.prog.cellsOf 3 = 1 by kernel_rfl] at f0
  obtain ⟨a0, e0, _, w0⟩ := DataW.trod_int Tryz.underlying3 f0
  have f1 : DataW.trod enc Tryz.prog W 0 sp held m 3 ((cs.drop 1).take (Tryz.prog.cellsOf 3)) = _ := (hat 1 _ rfl).trans (hx 1 (by omega))
  rw [show Tryz.prog.cellsOf 3 = 1 by kernel_rfl] at f1
  obtain ⟨a1, e1, _, w1⟩ := DataW.trod_int Tryz.underlying3 f1
  have f2 : DataW.trod enc Tryz.prog W 0 sp held m 3 ((cs.drop 2).take (Tryz.prog.cellsOf 3)) = _ := (hat 2 _ rfl).trans (hx 2 (by omega))
  rw [show Tryz.prog.cellsOf 3 = 1 by kernel_rfl] at f2
  obtain ⟨a2, e2, _, w2⟩ := DataW.trod_int Tryz.underlying3 f2
  have f3 : DataW.trod enc Tryz.prog W 0 sp held m 3 ((cs.drop 3).take (Tryz.prog.cellsOf 3)) = _ := (hat 3 _ rfl).trans (hx 3 (by omega))
  rw [show Tryz.prog.cellsOf 3 = 1 by kernel_rfl] at f3
  obtain ⟨a3, e3, _, w3⟩ := DataW.trod_int Tryz.underlying3 f3
  have f4 : DataW.trod enc Tryz.prog W 0 sp held m 25 ((cs.drop 4).take (Tryz.prog.cellsOf 25)) = _ := (hat 4 _ rfl).trans (hx 4 (by omega))
  rw [show Tryz.prog.cellsOf 25 = 32 by kernel_rfl] at f4
  obtain ⟨a4, w4, e4⟩ := hash_of_trod f4
  have f5 : DataW.trod enc Tryz.prog W 0 sp held m 27 ((cs.drop 36).take (Tryz.prog.cellsOf 27)) = _ := (hat 5 _ rfl).trans (hx 5 (by omega))
  rw [show Tryz.prog.cellsOf 27 = 2 by kernel_rfl] at f5
  obtain ⟨a5, c5, w5, v5, e5⟩ := pair_of_trod Tryz.underlying27 ⟨rfl, rfl⟩ ⟨rfl, rfl⟩ (by kernel_rfl) f5
  refine ⟨⟨a0, a1, a2, a3, a4, a5, c5⟩, ⟨i64In_of w0, i64In_of w1, i64In_of w2, i64In_of w3, w4, w5, v5⟩, ?_⟩
  have z : cs.drop 38 = [] := List.drop_eq_nil_of_le (by omega)
  have s0 : cs = cs.drop 0 := rfl
  rw [s0, cut_at cs 0 1 1 rfl, e0, cut_at cs 1 1 2 rfl, e1, cut_at cs 2 1 3 rfl, e2, cut_at cs 3 1 4 rfl, e3, cut_at cs 4 32 36 rfl, e4, cut_at cs 36 2 38 rfl, e5, z]
  simp [Wvt.cells]
theorem ack_of_trod {H : Type} {enc : TypeId × Value → H} {W : World} {sp : Nat → Bool} {held : Bool} {fuel : Nat} {cs : List Value} {x0 : DataW H × List MemPlace} (h : DataW.trod enc Tryz.prog W 0 sp held fuel 37 cs = some x0) :
    ∃ x : Wst, x.Ok ∧ cs = x.cells := by
  obtain ⟨xs, m, _, _, hlen, hxl, hat⟩ := DataW.trod_struct Tryz.underlying37 h
  rw [show Tryz.prog.cellsOf 37 = 38 by kernel_rfl] at hlen
  have hx : ∀ i (hi : i < 5), xs[i]? = some (xs[i]'(by rw [hxl]; exact hi)) := fun i hi => List.getElem?_eq_getElem _
  have f0 : DataW.trod enc Tryz.prog W 0 sp held m 3 ((cs.drop 0).take (Tryz.prog.cellsOf 3)) = _ := (hat 0 _ rfl).trans (hx 0 (by omega))
  rw [show Tryz.prog.cellsOf 3 = 1 by kernel_rfl] at f0
  obtain ⟨a0, e0, _, w0⟩ := DataW.trod_int Tryz.underlying3 f0
  have f1 : DataW.trod enc Tryz.prog W 0 sp held m 23 ((cs.drop 1).take (Tryz.prog.cellsOf 23)) = _ := (hat 1 _ rfl).trans (hx 1 (by omega))
  rw [show Tryz.prog.cellsOf 23 = 2 by kernel_rfl] at f1
  obtain ⟨a1, c1, w1, v1, e1⟩ := pair_of_trod Tryz.underlying23 ⟨rfl, rfl⟩ ⟨rfl, rfl⟩ (by kernel_rfl) f1
  have f2 : DataW.trod enc Tryz.prog W 0 sp held m 25 ((cs.drop 3).take (Tryz.prog.cellsOf 25)) = _ := (hat 2 _ rfl).trans (hx 2 (by omega))
  rw [show Tryz.prog.cellsOf 25 = 32 by kernel_rfl] at f2
  obtain ⟨a2, w2, e2⟩ := hash_of_trod f2
  have f3 : DataW.trod enc Tryz.prog W 0 sp held m 30 ((cs.drop 35).take (Tryz.prog.cellsOf 30)) = _ := (hat 3 _ rfl).trans (hx 3 (by omega))
  rw [show Tryz.prog.cellsOf 30 = 1 by kernel_rfl] at f3
  obtain ⟨u3, e3, _, w3⟩ := DataW.trod_int Tryz.underlying30 f3
  obtain ⟨a3, rfl, b3⟩ := u64_of w3
  have f4 : DataW.trod enc Tryz.prog W 0 sp held m 27 ((cs.drop 36).take (Tryz.prog.cellsOf 27)) = _ := (hat 4 _ rfl).trans (hx 4 (by omega))
  rw [show Tryz.prog.cellsOf 27 = 2 by kernel_rfl] at f4
  obtain ⟨a4, c4, w4, v4, e4⟩ := pair_of_trod Tryz.underlying27 ⟨rfl, rfl⟩ ⟨rfl, rfl⟩ (by kernel_rfl) f4
  refine ⟨⟨a0, a1, c1, a2, a3, a4, c4⟩, ⟨i64In_of w0, w1, v1, w2, b3, w4, v4⟩, ?_⟩
  have z : cs.drop 38 = [] := List.drop_eq_nil_of_le (by omega)
  have s0 : cs = cs.drop 0 := rfl
  rw [s0, cut_at cs 0 1 1 rfl, e0, cut_at cs 1 2 3 rfl, e1, cut_at cs 3 32 35 rfl, e2, cut_at cs 35 1 36 rfl, e3, cut_at cs 36 2 38 rfl, e4, z]
  simp [Wst.cells]
theorem entry_of_trod {H : Type} {enc : TypeId × Value → H} {W : World} {sp : Nat → Bool} {held : Bool} {fuel : Nat} {cs : List Value} {x0 : DataW H × List MemPlace} (h : DataW.trod enc Tryz.prog W 0 sp held fuel 51 cs = some x0) :
    ∃ x : Wen, x.Ok ∧ cs = x.cells := by
  obtain ⟨xs, m, _, _, hlen, hxl, hat⟩ := DataW.trod_struct Tryz.underlying51 h
  rw [show Tryz.prog.cellsOf 51 = 35 by kernel_rfl] at hlen
  have hx : ∀ i (hi : i < 3), xs[i]? = some (xs[i]'(by rw [hxl]; exact hi)) := fun i hi => List.getElem?_eq_getElem _
  have f0 : DataW.trod enc Tryz.prog W 0 sp held m 23 ((cs.drop 0).take (Tryz.prog.cellsOf 23)) = _ := (hat 0 _ rfl).trans (hx 0 (by omega))
  rw [show Tryz.prog.cellsOf 23 = 2 by kernel_rfl] at f0
  obtain ⟨a0, c0, w0, v0, e0⟩ := pair_of_trod Tryz.underlying23 ⟨rfl, rfl⟩ ⟨rfl, rfl⟩ (by kernel_rfl) f0
  have f1 : DataW.trod enc Tryz.prog W 0 sp held m 25 ((cs.drop 2).take (Tryz.prog.cellsOf 25)) = _ := (hat 1 _ rfl).trans (hx 1 (by omega))
  rw [show Tryz.prog.cellsOf 25 = 32 by kernel_rfl] at f1
  obtain ⟨a1, w1, e1⟩ := hash_of_trod f1
  have f2 : DataW.trod enc Tryz.prog W 0 sp held m 30 ((cs.drop 34).take (Tryz.prog.cellsOf 30)) = _ := (hat 2 _ rfl).trans (hx 2 (by omega))
  rw [show Tryz.prog.cellsOf 30 = 1 by kernel_rfl] at f2
  obtain ⟨u2, e2, _, w2⟩ := DataW.trod_int Tryz.underlying30 f2
  obtain ⟨a2, rfl, b2⟩ := u64_of w2
  refine ⟨⟨a0, c0, a1, a2⟩, ⟨w0, v0, w1, b2⟩, ?_⟩
  have z : cs.drop 35 = [] := List.drop_eq_nil_of_le (by omega)
  have s0 : cs = cs.drop 0 := rfl
  rw [s0, cut_at cs 0 2 2 rfl, e0, cut_at cs 2 32 34 rfl, e1, cut_at cs 34 1 35 rfl, e2, z]
  simp [Wen.cells]
theorem decided_of_trod {H : Type} {enc : TypeId × Value → H} {W : World} {sp : Nat → Bool} {held : Bool} {fuel : Nat} {cs : List Value} {x0 : DataW H × List MemPlace} (h : DataW.trod enc Tryz.prog W 0 sp held fuel 59 cs = some x0) :
    ∃ x : Wdc, x.In W ∧ cs = x.cells := by
  obtain ⟨xs, m, _, _, hlen, hxl, hat⟩ := DataW.trod_struct Tryz.underlying59 h
  rw [show Tryz.prog.cellsOf 59 = 8 by kernel_rfl] at hlen
  have hx : ∀ i (hi : i < 4), xs[i]? = some (xs[i]'(by rw [hxl]; exact hi)) := fun i hi => List.getElem?_eq_getElem _
  have f0 : DataW.trod enc Tryz.prog W 0 sp held m 3 ((cs.drop 0).take (Tryz.prog.cellsOf 3)) = _ := (hat 0 _ rfl).trans (hx 0 (by omega))
  rw [show Tryz.prog.cellsOf 3 = 1 by kernel_rfl] at f0
  obtain ⟨a0, e0, _, w0⟩ := DataW.trod_int Tryz.underlying3 f0
  have f1 : DataW.trod enc Tryz.prog W 0 sp held m 3 ((cs.drop 1).take (Tryz.prog.cellsOf 3)) = _ := (hat 1 _ rfl).trans (hx 1 (by omega))
  rw [show Tryz.prog.cellsOf 3 = 1 by kernel_rfl] at f1
  obtain ⟨a1, e1, _, w1⟩ := DataW.trod_int Tryz.underlying3 f1
  have f2 : DataW.trod enc Tryz.prog W 0 sp held m 45 ((cs.drop 2).take (Tryz.prog.cellsOf 45)) = _ := (hat 2 _ rfl).trans (hx 2 (by omega))
  rw [show Tryz.prog.cellsOf 45 = 5 by kernel_rfl] at f2
  obtain ⟨a2, w2, e2⟩ := batch_of_trod f2
  have f3 : DataW.trod enc Tryz.prog W 0 sp held m 57 ((cs.drop 7).take (Tryz.prog.cellsOf 57)) = _ := (hat 3 _ rfl).trans (hx 3 (by omega))
  rw [show Tryz.prog.cellsOf 57 = 1 by kernel_rfl] at f3
  obtain ⟨A3, n3, d3, l3, e3, w3, m3, k3⟩ := lst_of_cells (cells := Wvt.cells) (ok := fun w v => v.Ok) (k := 38) Tryz.underlying57 (by kernel_rfl) (fun fuel cs x h => vote_of_trod h) f3
  refine ⟨⟨a0, a1, a2, A3, n3, d3, l3⟩, ⟨i64In_of w0, i64In_of w1, w2, w3, Nat.le_trans m3 k3, m3⟩, ?_⟩
  have z : cs.drop 8 = [] := List.drop_eq_nil_of_le (by omega)
  have s0 : cs = cs.drop 0 := rfl
  rw [s0, cut_at cs 0 1 1 rfl, e0, cut_at cs 1 1 2 rfl, e1, cut_at cs 2 5 7 rfl, e2, cut_at cs 7 1 8 rfl, e3, z]
  simp [Wdc.cells]
theorem msg_of_trod {H : Type} {enc : TypeId × Value → H} {W : World} {sp : Nat → Bool} {held : Bool} {fuel : Nat} {cs : List Value} {x0 : DataW H × List MemPlace} (h : DataW.trod enc Tryz.prog W 0 sp held fuel 61 cs = some x0) :
    ∃ x : Wmg, x.In W ∧ cs = x.cells := by
  obtain ⟨xs, m, _, _, hlen, hxl, hat⟩ := DataW.trod_struct Tryz.underlying61 h
  rw [show Tryz.prog.cellsOf 61 = 295 by kernel_rfl] at hlen
  have hx : ∀ i (hi : i < 19), xs[i]? = some (xs[i]'(by rw [hxl]; exact hi)) := fun i hi => List.getElem?_eq_getElem _
  have f0 : DataW.trod enc Tryz.prog W 0 sp held m 3 ((cs.drop 0).take (Tryz.prog.cellsOf 3)) = _ := (hat 0 _ rfl).trans (hx 0 (by omega))
  rw [show Tryz.prog.cellsOf 3 = 1 by kernel_rfl] at f0
  obtain ⟨a0, e0, _, w0⟩ := DataW.trod_int Tryz.underlying3 f0
  have f1 : DataW.trod enc Tryz.prog W 0 sp held m 3 ((cs.drop 1).take (Tryz.prog.cellsOf 3)) = _ := (hat 1 _ rfl).trans (hx 1 (by omega))
  rw [show Tryz.prog.cellsOf 3 = 1 by kernel_rfl] at f1
  obtain ⟨a1, e1, _, w1⟩ := DataW.trod_int Tryz.underlying3 f1
  have f2 : DataW.trod enc Tryz.prog W 0 sp held m 3 ((cs.drop 2).take (Tryz.prog.cellsOf 3)) = _ := (hat 2 _ rfl).trans (hx 2 (by omega))
  rw [show Tryz.prog.cellsOf 3 = 1 by kernel_rfl] at f2
  obtain ⟨a2, e2, _, w2⟩ := DataW.trod_int Tryz.underlying3 f2
  have f3 : DataW.trod enc Tryz.prog W 0 sp held m 29 ((cs.drop 3).take (Tryz.prog.cellsOf 29)) = _ := (hat 3 _ rfl).trans (hx 3 (by omega))
  rw [show Tryz.prog.cellsOf 29 = 37 by kernel_rfl] at f3
  obtain ⟨a3, w3, e3⟩ := commit_of_trod f3
  have f4 : DataW.trod enc Tryz.prog W 0 sp held m 32 ((cs.drop 40).take (Tryz.prog.cellsOf 32)) = _ := (hat 4 _ rfl).trans (hx 4 (by omega))
  rw [show Tryz.prog.cellsOf 32 = 38 by kernel_rfl] at f4
  obtain ⟨a4, w4, e4⟩ := stamp_of_trod f4
  have f5 : DataW.trod enc Tryz.prog W 0 sp held m 35 ((cs.drop 78).take (Tryz.prog.cellsOf 35)) = _ := (hat 5 _ rfl).trans (hx 5 (by omega))
  rw [show Tryz.prog.cellsOf 35 = 38 by kernel_rfl] at f5
  obtain ⟨a5, w5, e5⟩ := cert_of_trod f5
  have f6 : DataW.trod enc Tryz.prog W 0 sp held m 37 ((cs.drop 116).take (Tryz.prog.cellsOf 37)) = _ := (hat 6 _ rfl).trans (hx 6 (by omega))
  rw [show Tryz.prog.cellsOf 37 = 38 by kernel_rfl] at f6
  obtain ⟨a6, w6, e6⟩ := ack_of_trod f6
  have f7 : DataW.trod enc Tryz.prog W 0 sp held m 3 ((cs.drop 154).take (Tryz.prog.cellsOf 3)) = _ := (hat 7 _ rfl).trans (hx 7 (by omega))
  rw [show Tryz.prog.cellsOf 3 = 1 by kernel_rfl] at f7
  obtain ⟨a7, e7, _, w7⟩ := DataW.trod_int Tryz.underlying3 f7
  have f8 : DataW.trod enc Tryz.prog W 0 sp held m 3 ((cs.drop 155).take (Tryz.prog.cellsOf 3)) = _ := (hat 8 _ rfl).trans (hx 8 (by omega))
  rw [show Tryz.prog.cellsOf 3 = 1 by kernel_rfl] at f8
  obtain ⟨a8, e8, _, w8⟩ := DataW.trod_int Tryz.underlying3 f8
  have f9 : DataW.trod enc Tryz.prog W 0 sp held m 30 ((cs.drop 156).take (Tryz.prog.cellsOf 30)) = _ := (hat 9 _ rfl).trans (hx 9 (by omega))
  rw [show Tryz.prog.cellsOf 30 = 1 by kernel_rfl] at f9
  obtain ⟨u9, e9, _, w9⟩ := DataW.trod_int Tryz.underlying30 f9
  obtain ⟨a9, rfl, b9⟩ := u64_of w9
  have f10 : DataW.trod enc Tryz.prog W 0 sp held m 40 ((cs.drop 157).take (Tryz.prog.cellsOf 40)) = _ := (hat 10 _ rfl).trans (hx 10 (by omega))
  rw [show Tryz.prog.cellsOf 40 = 6 by kernel_rfl] at f10
  obtain ⟨a10, w10, e10⟩ := promise_of_trod f10
  have f11 : DataW.trod enc Tryz.prog W 0 sp held m 47 ((cs.drop 163).take (Tryz.prog.cellsOf 47)) = _ := (hat 11 _ rfl).trans (hx 11 (by omega))
  rw [show Tryz.prog.cellsOf 47 = 11 by kernel_rfl] at f11
  obtain ⟨a11, w11, e11⟩ := proposal_of_trod f11
  have f12 : DataW.trod enc Tryz.prog W 0 sp held m 49 ((cs.drop 174).take (Tryz.prog.cellsOf 49)) = _ := (hat 12 _ rfl).trans (hx 12 (by omega))
  rw [show Tryz.prog.cellsOf 49 = 38 by kernel_rfl] at f12
  obtain ⟨a12, w12, e12⟩ := vote_of_trod f12
  have f13 : DataW.trod enc Tryz.prog W 0 sp held m 3 ((cs.drop 212).take (Tryz.prog.cellsOf 3)) = _ := (hat 13 _ rfl).trans (hx 13 (by omega))
  rw [show Tryz.prog.cellsOf 3 = 1 by kernel_rfl] at f13
  obtain ⟨a13, e13, _, w13⟩ := DataW.trod_int Tryz.underlying3 f13
  have f14 : DataW.trod enc Tryz.prog W 0 sp held m 51 ((cs.drop 213).take (Tryz.prog.cellsOf 51)) = _ := (hat 14 _ rfl).trans (hx 14 (by omega))
  rw [show Tryz.prog.cellsOf 51 = 35 by kernel_rfl] at f14
  obtain ⟨a14, w14, e14⟩ := entry_of_trod f14
  have f15 : DataW.trod enc Tryz.prog W 0 sp held m 54 ((cs.drop 248).take (Tryz.prog.cellsOf 54)) = _ := (hat 15 _ rfl).trans (hx 15 (by omega))
  rw [show Tryz.prog.cellsOf 54 = 34 by kernel_rfl] at f15
  obtain ⟨a15, w15, e15⟩ := opening_of_trod f15
  have f16 : DataW.trod enc Tryz.prog W 0 sp held m 56 ((cs.drop 282).take (Tryz.prog.cellsOf 56)) = _ := (hat 16 _ rfl).trans (hx 16 (by omega))
  rw [show Tryz.prog.cellsOf 56 = 4 by kernel_rfl] at f16
  obtain ⟨a16, w16, e16⟩ := deny_of_trod f16
  have f17 : DataW.trod enc Tryz.prog W 0 sp held m 9 ((cs.drop 286).take (Tryz.prog.cellsOf 9)) = _ := (hat 17 _ rfl).trans (hx 17 (by omega))
  rw [show Tryz.prog.cellsOf 9 = 1 by kernel_rfl] at f17
  obtain ⟨s17, e17, _, w17⟩ := DataW.trod_string Tryz.underlying9 f17
  rw [show (Value.string s17) = Value.string ⟨s17.data.toList.toArray⟩ by simp] at e17
  have f18 : DataW.trod enc Tryz.prog W 0 sp held m 59 ((cs.drop 287).take (Tryz.prog.cellsOf 59)) = _ := (hat 18 _ rfl).trans (hx 18 (by omega))
  rw [show Tryz.prog.cellsOf 59 = 8 by kernel_rfl] at f18
  obtain ⟨a18, w18, e18⟩ := decided_of_trod f18
  refine ⟨⟨a0, a1, a2, a3, a4, a5, a6, a7, a8, a9, a10, a11, a12, a13, a14, a15, a16, s17.data.toList, a18⟩, ⟨i64In_of w0, i64In_of w1, i64In_of w2, w3, w4, w5, w6, i64In_of w7, i64In_of w8, b9, w10, w11, w12, i64In_of w13, w14, w15, w16, by rw [Array.length_toList]; exact w17, w18⟩, ?_⟩
  have z : cs.drop 295 = [] := List.drop_eq_nil_of_le (by omega)
  have s0 : cs = cs.drop 0 := rfl
  rw [s0, cut_at cs 0 1 1 rfl, e0, cut_at cs 1 1 2 rfl, e1, cut_at cs 2 1 3 rfl, e2, cut_at cs 3 37 40 rfl, e3, cut_at cs 40 38 78 rfl, e4, cut_at cs 78 38 116 rfl, e5, cut_at cs 116 38 154 rfl, e6, cut_at cs 154 1 155 rfl, e7, cut_at cs 155 1 156 rfl, e8, cut_at cs 156 1 157 rfl, e9, cut_at cs 157 6 163 rfl, e10, cut_at cs 163 11 174 rfl, e11, cut_at cs 174 38 212 rfl, e12, cut_at cs 212 1 213 rfl, e13, cut_at cs 213 35 248 rfl, e14, cut_at cs 248 34 282 rfl, e15, cut_at cs 282 4 286 rfl, e16, cut_at cs 286 1 287 rfl, e17, cut_at cs 287 8 295 rfl, e18, z]
  simp [Wmg.cells]
theorem msg_open {H : Type} {enc : TypeId × Value → H} {W : World} {r : Reach} {base b0 : Nat} {v : Value} {d : DataW H} {p : List MemPlace} {sp : Nat → Bool} {held : Bool} (hv : Value.okWide Tryz.prog W r base 61 v) (h : DataW.Trod enc Tryz.prog W b0 sp held 61 v d p) (hb : b0 = 0) :
    ∃ x : Wmg, x.In W ∧ v = x.val := by
  subst hb
  unfold Value.okWide at hv
  rw [Tryz.underlying61] at hv
  obtain ⟨cs, rfl, -⟩ := hv
  obtain ⟨fuel, hf⟩ := h
  obtain ⟨x, hx, e⟩ := msg_of_trod (show DataW.trod enc Tryz.prog W 0 sp held fuel 61 cs.toList = some (d, p) from hf)
  exact ⟨x, hx, by show Value.agg cs = Value.agg _; rw [← e, Array.toArray_toList]⟩
end Go.Proofs.YtnpjihdhpoddgaaGreat
