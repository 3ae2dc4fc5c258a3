/- Texts that the proof stands on: gavelref01's Reader: names, signatures, commitments, stamps, denials, openings. (written by gen_rq.py) | gavelref01's Reader: certificates. (written by gen_rq2.py) | gavelref01's Reader: promises. (written by gen_rq3.py) | gavelref01's Reader: batches. (written by gen_rq4.py) | gavelref01's Reader: Cert, Promise, Batch: all of it, or the zero value. (written by gen_rq5.py) | gavelkeep.Copy of bytes, its memory known whole. | gavellaw05.turned: bytes, one of which may be turned, or cut. -/
import Derived.Test.YtkofmefnlppoaaaKD4
import Derived.Deep.CutBlock
import Derived.Deep.DeepCutAuto
import Derived.Outline
import Derived.Test.YtkofmefnlppoaaaFull
set_option maxRecDepth 100000

namespace Go.Proofs.Ytkofmefnlppoaaa
open Go.RowKit
set_option maxRecDepth 100000
/-- a reader that has failed has nothing left -/
def Bz (s : Ps) : Prop := s.2 = true → s.1 = []
structure Qs (w : World) (F : List Nat) (g : Nat) (s : Ps) : Prop where
  rd : Rq w g F s.1 s.2
  len : s.1.length ≤ 1073741824
  lt : ∀ k ∈ F, k < w.heap.size
  bz : Bz s
theorem Qs.fr {w w' : World} {F T : List Nat} {g : Nat} {s : Ps} (h : Qs w F g s) (hf : Fr T w w') (hg : ¬ g ∈ T) (hF : ∀ k ∈ F, ¬ k ∈ T) : Qs w' F g s := ⟨h.rd.keep hf hg hF, h.len, fun k hk => Nat.lt_of_lt_of_le (h.lt k hk) hf.size, h.bz⟩
theorem Qs.gt {w : World} {F : List Nat} {g : Nat} {s : Ps} (h : Qs w F g s) : g < w.heap.size := h.rd.lt
theorem in_bz {R : List UInt8} {m : Int} {b : Bool} (h : b = true → R = []) : inB R m b = true → inL R m = [] := by
  unfold inB inL
  cases hd : dec R with
  | none => simp
  | some p =>
    simp only
    split
    · intro hb
      have := h hb
      subst this
      simp
    · simp
theorem rd_bz {R : List UInt8} {b : Bool} (h : b = true → R = []) : rdB R b = true → rdL R = [] := by
  unfold rdB rdL
  cases hd : dec R with
  | none => simp
  | some p => intro hb; have := h hb; subst this; simp
theorem took_bz {R : List UInt8} {b : Bool} (h : b = true → R = []) : tookB R b = true → tookL R = [] := by
  unfold tookB tookL
  split
  · simp
  · intro hb; have := h hb; subst this; simp
theorem rw_bz {R : List UInt8} {m : Int} {b : Bool} (h : b = true → R = []) : rwB R m b = true → rwL R m = [] := by
  unfold rwB rwL
  cases hd : dec R with
  | none => simp
  | some p =>
    simp only
    split
    · intro hb
      have := h hb
      subst this
      simp
    · simp
theorem own_capq {w : World} {base : Nat} {e : TypeId} {k n c : Nat} {A : Option Addr} {xs : List Value} (h : w.ownsRow base e k (.slice A n c) n xs) : n ≤ c := by
  rcases h.2 with ⟨h1, h2⟩ | ⟨g, cap, cur, hv, _, _, hc, _⟩
  · omega
  · injection hv; omega
def RowPostC (w : World) (g : Nat) (F : List Nat) (V L : List UInt8) (b : Bool) (e : Ending) (w' : World) : Prop :=
  ∃ A c, e = .returned (.slice A V.length c) ∧ By w' A V.length V ∧ (∀ x ∈ bk A, w.heap.size ≤ x ∧ x < w'.heap.size) ∧ V.length ≤ c ∧ Rq w' g F L b ∧ Fr [g] w w'
theorem RowPostC.mk {w w' : World} {g : Nat} {F : List Nat} {V L : List UInt8} {b : Bool} {e : Ending} (h : ∃ A c, e = .returned (.slice A V.length c) ∧ By w' A V.length V ∧ (∀ x ∈ bk A, w.heap.size ≤ x ∧ x < w'.heap.size) ∧ V.length ≤ c ∧ Rq w' g F L b ∧ Fr [g] w w') : RowPostC w g F V L b e w' := h
section
variable {w : World} {g : Nat} {F : List Nat} {R : List UInt8} {bad : Bool}
set_option maxHeartbeats 800000 in
theorem qrowc_f (m : Int) (hm2 : m < 9223372036854775808) (hr : Rq w g F R bad) (hl : R.length ≤ 1073741824) :
    Calls Try.prog 124 #[.pointer (some ⟨g, 0, none⟩), .int .i64 m] w (RowPostC w g F (rwV R m) (rwL R m) (rwB R m bad)) := by
  have HR := Lib.hid hr
  have HM := Lib.hid hm2
  have HW := Lib.hid (rw_in R m bad)
  have HLL := Lib.hid (inL_len R m)
  clear hr hm2
  go_enter Try.func124, Try.ntmps124
  go_wp2_with fail
  refine (qint_f m HM.out HR.out hl).mono ?_
  rintro e w1 ⟨rfl, h1, h2⟩
  have hq := h1
  have H1 := Lib.hid h1
  have H2 := Lib.hid h2
  have hLR := HLL.out
  clear h1 h2
  generalize inL R m = L at *
  generalize inN R m = k at *
  generalize inB R m bad = bad1 at *
  obtain ⟨A1, n1, c1, hA1, hb1, hy1, hnc1⟩ := hq
  have hc0 := hb1.cell 0
  simp at hc0
  have hz0 := hb1.frozen 0
  have hn1 : n1 = L.length := hy1.1.symm
  subst hn1
  have HA1 := Lib.hid hA1
  have HB1 := Lib.hid hb1
  have HY1 := Lib.hid hy1
  clear hA1 hb1 hy1
  by_cases hk : L.length < k
  · rw [if_pos hk, if_pos hk, if_pos hk] at HW
    go_wp2_with fail
    refine (qfail_any w1 g F L bad1 H1.out).mono ?_
    rintro e w2 ⟨rfl, h6, h7⟩
    have H6 := Lib.hid h6
    have H7 := Lib.hid (H2.out.trans h7 (fun _ h _ => h))
    clear h6 h7
    go_wp2
    go_ret
    rw [HW.out.1, HW.out.2.1, HW.out.2.2]
    exact RowPostC.mk ⟨none, 0, rfl, By.nil _ _, by simp [bk], Nat.le_refl _, H6.out, H7.out⟩
  · rw [if_neg hk, if_neg hk, if_neg hk] at HW
    have hkl : k ≤ L.length := by omega
    have HLE := Lib.hid hkl
    clear hk
    have HT := Lib.hid (HY1.out.take hkl)
    have hlen : (L.take k).length = k := by rw [List.length_take]; omega
    have HLEN := Lib.hid hlen
    clear hlen
    go_wp2_with (at_builtin; refine Stop.mk ?_)
    refine Stop.go ?_
    refine wpList_append_bytes _ rfl (.const (.slice none 0 0)) (.tmp 24) _ rfl 5 Try.underlying42 info_u8 (.slice none 0 0) 0 [] rfl
      ⟨rfl, .inl ⟨rfl, rfl⟩⟩ A1 k c1 (L.take k) rfl HT.out ?_ ?_
    · have := HLE.out; omega
    intro A2 c2 w2 ho2 hg2 hat2
    have hf2 : Fr [] w1 w2 := (Fr.refl [] w1).grown hg2 (by intro k hk hl; simp [Value.ownBlock] at hk)
    have hnew : ∀ x ∈ bk A2, w1.heap.size ≤ x := by
      intro x hx
      rcases hat2 with h | h <;> rw [h] at hx <;> simp [Value.ownBlock] at hx <;> omega
    have hlt2 : ∀ x ∈ bk A2, x < w2.heap.size := fun x hx => own_lt ho2 x (by rw [bk_mem]; exact hx)
    have hgl : g < w1.heap.size := HB1.out.lt
    have HO2 := Lib.hid ho2
    have HF2 := Lib.hid hf2
    have HNEW := Lib.hid hnew
    have HLT2 := Lib.hid hlt2
    have HB2 := Lib.hid (HB1.out.keep hf2 (by simp))
    have HY2 := Lib.hid (HY1.out.keep hf2 (by simp))
    have hc02 := HB2.out.cell 0
    simp at hc02
    have hz02 := HB2.out.frozen 0
    have HGL := Lib.hid hgl
    have hge : g ∉ bk A2 := fun h => by have := hnew g h; omega
    have HGE := Lib.hid hge
    clear ho2 hf2 hg2 hat2 hnew hlt2 hc0 hz0 hgl hge
    have HC := Lib.hid (HY2.out.cut' HLE.out hnc1)
    rw [Nat.zero_add]
    by_cases hcs : c1 = k
    · subst hcs
      have hcc := HC.out.1 rfl
      rw [show L.length - c1 = 0 by have := HLE.out; omega] at hcc
      obtain ⟨h1, h2⟩ := Rq.set HB2.out HA1.out hcc (c' := 0) (by omega)
      have HS1 := Lib.hid h1
      have HS2 := Lib.hid h2
      clear h1 h2 hcc
      go_wp2
      go_ret
      rw [HW.out.1, HW.out.2.1, HW.out.2.2]
      refine RowPostC.mk ⟨A2, c2, by rw [HLEN.out]; rfl, by rw [HLEN.out]; exact (By.of_own (by have := HO2.out; rwa [Nat.zero_add, List.nil_append] at this)).keep HS2.out (fun a ha => by
        subst ha
        have := HGE.out
        simp [bk] at this ⊢
        omega), fun x hx => ⟨Nat.le_trans H2.out.size (HNEW.out x hx), Nat.lt_of_lt_of_le (HLT2.out x hx) HS2.out.size⟩, (by rw [HLEN.out]; have h := own_capq HO2.out; omega), HS1.out, (H2.out.trans HF2.out (by simp)).trans HS2.out (fun _ h _ => h)⟩
    · obtain ⟨h1, h2⟩ := Rq.set HB2.out (by rw [bk_map]; exact HA1.out) (HC.out.2 hcs) (c' := c1 - k) (by omega)
      have HS1 := Lib.hid h1
      have HS2 := Lib.hid h2
      clear h1 h2
      go_wp2
      go_ret
      rw [HW.out.1, HW.out.2.1, HW.out.2.2]
      refine RowPostC.mk ⟨A2, c2, by rw [HLEN.out]; rfl, by rw [HLEN.out]; exact (By.of_own (by have := HO2.out; rwa [Nat.zero_add, List.nil_append] at this)).keep HS2.out (fun a ha => by
        subst ha
        have := HGE.out
        simp [bk] at this ⊢
        omega), fun x hx => ⟨Nat.le_trans H2.out.size (HNEW.out x hx), Nat.lt_of_lt_of_le (HLT2.out x hx) HS2.out.size⟩, (by rw [HLEN.out]; have h := own_capq HO2.out; omega), HS1.out, (H2.out.trans HF2.out (by simp)).trans HS2.out (fun _ h _ => h)⟩
end
section
variable {w : World} {F : List Nat} {g : Nat} {s : Ps}
theorem qInt_any (hr : Qs w F g s) : Calls Try.prog 80 #[.pointer (some ⟨g, 0, none⟩), .int .i64 1099511627776] w fun e w' => e = .returned (.int .i64 (pI s).1) ∧ Qs w' F g (pI s).2 ∧ Fr [g] w w' :=
  (qint_f 1099511627776 (by omega) hr.rd hr.len).mono fun _ _ ⟨h1, h2, h3⟩ => ⟨h1, ⟨h2, Nat.le_trans (inL_le _ _) hr.len, fun k hk => Nat.lt_of_lt_of_le (hr.lt k hk) h3.size, in_bz hr.bz⟩, h3⟩
theorem qCount_any (hr : Qs w F g s) : Calls Try.prog 80 #[.pointer (some ⟨g, 0, none⟩), .int .i64 100] w fun e w' => e = .returned (.int .i64 ((pC s).1 : Nat)) ∧ Qs w' F g (pC s).2 ∧ Fr [g] w w' :=
  (qint_f 100 (by omega) hr.rd hr.len).mono fun _ _ ⟨h1, h2, h3⟩ => ⟨h1, ⟨h2, Nat.le_trans (inL_le _ _) hr.len, fun k hk => Nat.lt_of_lt_of_le (hr.lt k hk) h3.size, in_bz hr.bz⟩, h3⟩
theorem qNum_any (hr : Qs w F g s) : Calls Try.prog 85 #[.pointer (some ⟨g, 0, none⟩)] w fun e w' => e = .returned (.int .u64 ((pN s).1 : Nat)) ∧ Qs w' F g (pN s).2 ∧ Fr [g] w w' :=
  (qnum_f hr.rd hr.len).mono fun _ _ ⟨h1, h2, h3⟩ => ⟨h1, ⟨h2, Nat.le_trans (rdL_le _) hr.len, fun k hk => Nat.lt_of_lt_of_le (hr.lt k hk) h3.size, rd_bz hr.bz⟩, h3⟩
theorem qHash_any (hr : Qs w F g s) : Calls Try.prog 119 #[.pointer (some ⟨g, 0, none⟩)] w fun e w' => e = .returned (.agg (((pH s).1).map by8).toArray) ∧ Qs w' F g (pH s).2 ∧ Fr [g] w w' :=
  (qhash_f w g F s.1 s.2 hr.rd hr.lt hr.len).mono fun _ _ ⟨h1, h2, h3⟩ => ⟨h1, ⟨h2, Nat.le_trans (tookL_le _) hr.len, fun k hk => Nat.lt_of_lt_of_le (hr.lt k hk) h3.size, took_bz hr.bz⟩, h3⟩
theorem qRow_any (hr : Qs w F g s) : Calls Try.prog 124 #[.pointer (some ⟨g, 0, none⟩), .int .i64 256] w fun e w' =>
    ∃ A c, e = .returned (.slice A (pR s).1.length c) ∧ By w' A (pR s).1.length (pR s).1 ∧ (∀ k ∈ bk A, w.heap.size ≤ k ∧ k < w'.heap.size) ∧ (pR s).1.length ≤ c ∧ Qs w' F g (pR s).2 ∧ Fr [g] w w' :=
  (qrowc_f 256 (by omega) hr.rd hr.len).mono fun _ _ ⟨A, c, h1, h2, h3, h6, h4, h5⟩ => ⟨A, c, h1, h2, h3, h6, ⟨h4, Nat.le_trans (rwL_le _ _) hr.len, fun k hk => Nat.lt_of_lt_of_le (hr.lt k hk) h5.size, rw_bz hr.bz⟩, h5⟩
end
def QGets {α β : Type} (f : FuncId) (cells : α → List Value) (ok : World → List Nat → α → Prop) (con : α → β) (p : Ps → β × Ps) : Prop :=
  ∀ (w : World) (F : List Nat) (g : Nat) (s : Ps), Qs w F g s → Calls Try.prog f #[.pointer (some ⟨g, 0, none⟩)] w fun e w' => ∃ v : α, e = .returned (.agg (cells v).toArray) ∧ con v = (p s).1 ∧ (∀ S0 : List Nat, (∀ q ∈ S0, q < w.heap.size) → ok w' S0 v) ∧ Qs w' F g (p s).2 ∧ Fr [g] w w'
set_option maxHeartbeats 1000000 in
theorem qName_any {w : World} {F : List Nat} {g : Nat} {s : Ps} (hr : Qs w F g s) : Calls Try.prog 118 #[.pointer (some ⟨g, 0, none⟩)] w fun e w' => e = .returned (.agg #[.int .i64 (p2 s).1.1, .int .i64 (p2 s).1.2]) ∧ Qs w' F g (p2 s).2 ∧ Fr [g] w w' := by
  obtain ⟨wa, hwa⟩ : ∃ wa, wa = w.alloc (Obj.cells #[.int .i64 0, .int .i64 0] 23) := ⟨_, rfl⟩
  have hf0 : Fr [] w wa := by rw [hwa]; exact (Fr.refl [] w).alloc _
  have HB : Hid (Blk wa w.heap.size 23 #[.int .i64 0, .int .i64 0]) := Lib.hid (by rw [hwa]; exact Blk.new _ _ _)
  have HR := Lib.hid (hr.fr hf0 (by simp) (by simp))
  have HNF : Hid (¬ w.heap.size ∈ F) := Lib.hid (fun hm => by have := hr.lt _ hm; omega)
  have HG : Hid (g < w.heap.size) := Lib.hid hr.gt
  have HF0 := Lib.hid hf0
  have HWA := Lib.hid hwa
  clear hwa hf0 hr
  go_enter Try.func118, Try.ntmps118
  go_upto_region 1 with (fail)
  change Code.wp _ _ _ _ (w.alloc (Obj.cells #[.int .i64 0, .int .i64 0] 23))
  rw [← HWA.out]
  go_wp2_with fail
  refine (qInt_any HR.out).mono ?_
  rintro e_ w1 ⟨rfl, h1, h2⟩
  have HR0 := Lib.hid h1
  have HF1 : Hid (Fr [g] wa w1) := Lib.hid h2
  clear h1 h2
  go_wp2_with fail
  refine (qInt_any HR0.out).mono ?_
  rintro e_ w2 ⟨rfl, h1, h2⟩
  have HR1 := Lib.hid h1
  have HF2 : Hid (Fr [g] wa w2) := Lib.hid (HF1.out.trans h2 (fun x hx _ => hx))
  clear h1 h2
  have HBE := Lib.hid (HB.out.keep HF2.out (by have := HG.out; simp; omega))
  have HBU : Hid (Try.prog.built 23 [(0, .int .i64 (p2 s).1.1), (1, .int .i64 (p2 s).1.2)] = some #[.int .i64 (p2 s).1.1, .int .i64 (p2 s).1.2]) := Lib.hid (built_p2n _ _)
  have HAL : Hid ((#[.int .i64 (p2 s).1.1, .int .i64 (p2 s).1.2] : Array Value).all (·.oneCell') = true) := Lib.hid (by kernel_rfl)
  have HVS : Hid ((#[.int .i64 (p2 s).1.1, .int .i64 (p2 s).1.2] : Array Value).size = 2) := Lib.hid (rfl)
  have HTS : Hid ((Try.prog.info? 23).map (·.size) = some (#[.int .i64 (p2 s).1.1, .int .i64 (p2 s).1.2] : Array Value).size) := Lib.hid (by rw [HVS.out]; kernel_rfl)
  obtain ⟨V, hV⟩ : ∃ V, V = (#[.int .i64 (p2 s).1.1, .int .i64 (p2 s).1.2] : Array Value) := ⟨_, rfl⟩
  have HV := Lib.hid hV
  rw [← hV] at HBU HAL HVS HTS
  clear hV
  go_wp2_with (first
    | (refine wpList_builtg rfl 23 _ rfl _ _ HBU.out rfl ?_)
    | (refine wpList_store_blk rfl 23 _ _ rfl w.heap.size V rfl rfl 23 #[.int .i64 0, .int .i64 0] HBE.out HTS.out (by rw [HVS.out]; rfl) HAL.out ?_
       intro w9 hb9 hf9
       have HB9 := Lib.hid hb9
       have HF9 := Lib.hid hf9
       clear hb9 hf9))
  refine bodyPost_ret (v := .agg V) (results_cell_row Try.results118 _ _ w.heap.size 23 V _ _ rfl HB9.out Try.underlying23 rfl HTS.out) rfl ⟨by rw [HV.out], ?_, ?_⟩
  · exact HR1.out.fr HF9.out (by have := HG.out; simp; omega) (fun k hk hm => HNF.out (by simp at hm; exact hm ▸ hk))
  · exact Fr.unbox HF0.out HF2.out HF9.out (Nat.le_refl _)
set_option maxHeartbeats 1000000 in
theorem qSig_any {w : World} {F : List Nat} {g : Nat} {s : Ps} (hr : Qs w F g s) : Calls Try.prog 86 #[.pointer (some ⟨g, 0, none⟩)] w fun e w' => e = .returned (.agg #[.int .i64 (p2 s).1.1, .int .i64 (p2 s).1.2]) ∧ Qs w' F g (p2 s).2 ∧ Fr [g] w w' := by
  obtain ⟨wa, hwa⟩ : ∃ wa, wa = w.alloc (Obj.cells #[.int .i64 0, .int .i64 0] 27) := ⟨_, rfl⟩
  have hf0 : Fr [] w wa := by rw [hwa]; exact (Fr.refl [] w).alloc _
  have HB : Hid (Blk wa w.heap.size 27 #[.int .i64 0, .int .i64 0]) := Lib.hid (by rw [hwa]; exact Blk.new _ _ _)
  have HR := Lib.hid (hr.fr hf0 (by simp) (by simp))
  have HNF : Hid (¬ w.heap.size ∈ F) := Lib.hid (fun hm => by have := hr.lt _ hm; omega)
  have HG : Hid (g < w.heap.size) := Lib.hid hr.gt
  have HF0 := Lib.hid hf0
  have HWA := Lib.hid hwa
  clear hwa hf0 hr
  go_enter Try.func86, Try.ntmps86
  go_upto_region 1 with (fail)
  change Code.wp _ _ _ _ (w.alloc (Obj.cells #[.int .i64 0, .int .i64 0] 27))
  rw [← HWA.out]
  go_wp2_with fail
  refine (qInt_any HR.out).mono ?_
  rintro e_ w1 ⟨rfl, h1, h2⟩
  have HR0 := Lib.hid h1
  have HF1 : Hid (Fr [g] wa w1) := Lib.hid h2
  clear h1 h2
  go_wp2_with fail
  refine (qInt_any HR0.out).mono ?_
  rintro e_ w2 ⟨rfl, h1, h2⟩
  have HR1 := Lib.hid h1
  have HF2 : Hid (Fr [g] wa w2) := Lib.hid (HF1.out.trans h2 (fun x hx _ => hx))
  clear h1 h2
  have HBE := Lib.hid (HB.out.keep HF2.out (by have := HG.out; simp; omega))
  have HBU : Hid (Try.prog.built 27 [(0, .int .i64 (p2 s).1.1), (1, .int .i64 (p2 s).1.2)] = some #[.int .i64 (p2 s).1.1, .int .i64 (p2 s).1.2]) := Lib.hid (built_p2s _ _)
  have HAL : Hid ((#[.int .i64 (p2 s).1.1, .int .i64 (p2 s).1.2] : Array Value).all (·.oneCell') = true) := Lib.hid (by kernel_rfl)
  have HVS : Hid ((#[.int .i64 (p2 s).1.1, .int .i64 (p2 s).1.2] : Array Value).size = 2) := Lib.hid (rfl)
  have HTS : Hid ((Try.prog.info? 27).map (·.size) = some (#[.int .i64 (p2 s).1.1, .int .i64 (p2 s).1.2] : Array Value).size) := Lib.hid (by rw [HVS.out]; kernel_rfl)
  obtain ⟨V, hV⟩ : ∃ V, V = (#[.int .i64 (p2 s).1.1, .int .i64 (p2 s).1.2] : Array Value) := ⟨_, rfl⟩
  have HV := Lib.hid hV
  rw [← hV] at HBU HAL HVS HTS
  clear hV
  go_wp2_with (first
    | (refine wpList_builtg rfl 27 _ rfl _ _ HBU.out rfl ?_)
    | (refine wpList_store_blk rfl 27 _ _ rfl w.heap.size V rfl rfl 27 #[.int .i64 0, .int .i64 0] HBE.out HTS.out (by rw [HVS.out]; rfl) HAL.out ?_
       intro w9 hb9 hf9
       have HB9 := Lib.hid hb9
       have HF9 := Lib.hid hf9
       clear hb9 hf9))
  refine bodyPost_ret (v := .agg V) (results_cell_row Try.results86 _ _ w.heap.size 27 V _ _ rfl HB9.out Try.underlying27 rfl HTS.out) rfl ⟨by rw [HV.out], ?_, ?_⟩
  · exact HR1.out.fr HF9.out (by have := HG.out; simp; omega) (fun k hk hm => HNF.out (by simp at hm; exact hm ▸ hk))
  · exact Fr.unbox HF0.out HF2.out HF9.out (Nat.le_refl _)
set_option maxHeartbeats 1000000 in
theorem qCommit_any {w : World} {F : List Nat} {g : Nat} {s : Ps} (hr : Qs w F g s) : Calls Try.prog 79 #[.pointer (some ⟨g, 0, none⟩)] w fun e w' => e = .returned (.agg (pCm s).1.cells.toArray) ∧ Qs w' F g (pCm s).2 ∧ Fr [g] w w' := by
  obtain ⟨wa, hwa⟩ : ∃ wa, wa = w.alloc (Obj.cells zCm 29) := ⟨_, rfl⟩
  have hf0 : Fr [] w wa := by rw [hwa]; exact (Fr.refl [] w).alloc _
  have HB : Hid (Blk wa w.heap.size 29 zCm) := Lib.hid (by rw [hwa]; exact Blk.new _ _ _)
  have HR := Lib.hid (hr.fr hf0 (by simp) (by simp))
  have HNF : Hid (¬ w.heap.size ∈ F) := Lib.hid (fun hm => by have := hr.lt _ hm; omega)
  have HG : Hid (g < w.heap.size) := Lib.hid hr.gt
  have HF0 := Lib.hid hf0
  have HWA := Lib.hid hwa
  clear hwa hf0 hr
  go_enter Try.func79, Try.ntmps79
  go_upto_region 1 with (fail)
  change Code.wp _ _ _ _ (w.alloc (Obj.cells zCm 29))
  rw [← HWA.out]
  go_wp2_with fail
  refine (qName_any HR.out).mono ?_
  rintro e_ w1 ⟨rfl, h1, h2⟩
  have HR0 := Lib.hid h1
  have HF1 : Hid (Fr [g] wa w1) := Lib.hid h2
  clear h1 h2
  go_wp2_with fail
  refine (qHash_any HR0.out).mono ?_
  rintro e_ w2 ⟨rfl, h1, h2⟩
  have HR1 := Lib.hid h1
  have HF2 : Hid (Fr [g] wa w2) := Lib.hid (HF1.out.trans h2 (fun x hx _ => hx))
  clear h1 h2
  go_wp2_with fail
  refine (qInt_any HR1.out).mono ?_
  rintro e_ w3 ⟨rfl, h1, h2⟩
  have HR2 := Lib.hid h1
  have HF3 : Hid (Fr [g] wa w3) := Lib.hid (HF2.out.trans h2 (fun x hx _ => hx))
  clear h1 h2
  go_wp2_with fail
  refine (qSig_any HR2.out).mono ?_
  rintro e_ w4 ⟨rfl, h1, h2⟩
  have HR3 := Lib.hid h1
  have HF4 : Hid (Fr [g] wa w4) := Lib.hid (HF3.out.trans h2 (fun x hx _ => hx))
  clear h1 h2
  have HBE := Lib.hid (HB.out.keep HF4.out (by have := HG.out; simp; omega))
  have HBU : Hid (Try.prog.built 29 [(0, .agg #[.int .i64 (pCm s).1.c, .int .i64 (pCm s).1.s]), (1, .agg ((pCm s).1.h.map by8).toArray), (2, .int .i64 (pCm s).1.n), (3, .agg #[.int .i64 (pCm s).1.b, .int .i64 (pCm s).1.m])] = some (pCm s).1.cells.toArray) := Lib.hid (built_cmR _ _ _ _ _ _ (pCm_ok s).h)
  have HAL : Hid (((pCm s).1.cells.toArray : Array Value).all (·.oneCell') = true) := Lib.hid (all_oneCell_toArray (Wcm.one _))
  have HVS : Hid (((pCm s).1.cells.toArray : Array Value).size = 37) := Lib.hid (by rw [List.size_toArray]; exact Wcm.len (pCm_ok s).h)
  have HTS : Hid ((Try.prog.info? 29).map (·.size) = some ((pCm s).1.cells.toArray : Array Value).size) := Lib.hid (by rw [HVS.out]; kernel_rfl)
  obtain ⟨V, hV⟩ : ∃ V, V = ((pCm s).1.cells.toArray : Array Value) := ⟨_, rfl⟩
  have HV := Lib.hid hV
  rw [← hV] at HBU HAL HVS HTS
  clear hV
  go_wp2_with (first
    | (refine wpList_builtg rfl 29 _ rfl _ _ HBU.out rfl ?_)
    | (refine wpList_store_blk rfl 29 _ _ rfl w.heap.size V rfl rfl 29 zCm HBE.out HTS.out (by rw [HVS.out]; rfl) HAL.out ?_
       intro w9 hb9 hf9
       have HB9 := Lib.hid hb9
       have HF9 := Lib.hid hf9
       clear hb9 hf9))
  refine bodyPost_ret (v := .agg V) (results_cell_row Try.results79 _ _ w.heap.size 29 V _ _ rfl HB9.out Try.underlying29 rfl HTS.out) rfl ⟨by rw [HV.out], ?_, ?_⟩
  · exact HR3.out.fr HF9.out (by have := HG.out; simp; omega) (fun k hk hm => HNF.out (by simp at hm; exact hm ▸ hk))
  · exact Fr.unbox HF0.out HF4.out HF9.out (Nat.le_refl _)
set_option maxHeartbeats 1000000 in
theorem qStamp_any {w : World} {F : List Nat} {g : Nat} {s : Ps} (hr : Qs w F g s) : Calls Try.prog 81 #[.pointer (some ⟨g, 0, none⟩)] w fun e w' => e = .returned (.agg (pSt s).1.cells.toArray) ∧ Qs w' F g (pSt s).2 ∧ Fr [g] w w' := by
  obtain ⟨wa, hwa⟩ : ∃ wa, wa = w.alloc (Obj.cells zSt 71) := ⟨_, rfl⟩
  have hf0 : Fr [] w wa := by rw [hwa]; exact (Fr.refl [] w).alloc _
  have HB : Hid (Blk wa w.heap.size 71 zSt) := Lib.hid (by rw [hwa]; exact Blk.new _ _ _)
  have HR := Lib.hid (hr.fr hf0 (by simp) (by simp))
  have HNF : Hid (¬ w.heap.size ∈ F) := Lib.hid (fun hm => by have := hr.lt _ hm; omega)
  have HG : Hid (g < w.heap.size) := Lib.hid hr.gt
  have HF0 := Lib.hid hf0
  have HWA := Lib.hid hwa
  clear hwa hf0 hr
  go_enter Try.func81, Try.ntmps81
  go_upto_region 1 with (fail)
  change Code.wp _ _ _ _ (w.alloc (Obj.cells zSt 71))
  rw [← HWA.out]
  go_wp2_with fail
  refine (qInt_any HR.out).mono ?_
  rintro e_ w1 ⟨rfl, h1, h2⟩
  have HR0 := Lib.hid h1
  have HF1 : Hid (Fr [g] wa w1) := Lib.hid h2
  clear h1 h2
  go_wp2_with fail
  refine (qName_any HR0.out).mono ?_
  rintro e_ w2 ⟨rfl, h1, h2⟩
  have HR1 := Lib.hid h1
  have HF2 : Hid (Fr [g] wa w2) := Lib.hid (HF1.out.trans h2 (fun x hx _ => hx))
  clear h1 h2
  go_wp2_with fail
  refine (qHash_any HR1.out).mono ?_
  rintro e_ w3 ⟨rfl, h1, h2⟩
  have HR2 := Lib.hid h1
  have HF3 : Hid (Fr [g] wa w3) := Lib.hid (HF2.out.trans h2 (fun x hx _ => hx))
  clear h1 h2
  go_wp2_with fail
  refine (qNum_any HR2.out).mono ?_
  rintro e_ w4 ⟨rfl, h1, h2⟩
  have HR3 := Lib.hid h1
  have HF4 : Hid (Fr [g] wa w4) := Lib.hid (HF3.out.trans h2 (fun x hx _ => hx))
  clear h1 h2
  go_wp2_with fail
  refine (qSig_any HR3.out).mono ?_
  rintro e_ w5 ⟨rfl, h1, h2⟩
  have HR4 := Lib.hid h1
  have HF5 : Hid (Fr [g] wa w5) := Lib.hid (HF4.out.trans h2 (fun x hx _ => hx))
  clear h1 h2
  have HBE := Lib.hid (HB.out.keep HF5.out (by have := HG.out; simp; omega))
  have HBU : Hid (Try.prog.built 71 [(0, .int .i64 (pSt s).1.r), (1, .agg #[.int .i64 (pSt s).1.c, .int .i64 (pSt s).1.s]), (2, .agg ((pSt s).1.h.map by8).toArray), (3, .int .u64 ((pSt s).1.t : Int)), (4, .agg #[.int .i64 (pSt s).1.b, .int .i64 (pSt s).1.m])] = some (pSt s).1.cells.toArray) := Lib.hid (built_stR _ _ _ _ _ _ _ (pSt_ok s).h)
  have HAL : Hid (((pSt s).1.cells.toArray : Array Value).all (·.oneCell') = true) := Lib.hid (all_oneCell_toArray (Wst.one _))
  have HVS : Hid (((pSt s).1.cells.toArray : Array Value).size = 38) := Lib.hid (by rw [List.size_toArray]; exact Wst.len (pSt_ok s).h)
  have HTS : Hid ((Try.prog.info? 71).map (·.size) = some ((pSt s).1.cells.toArray : Array Value).size) := Lib.hid (by rw [HVS.out]; kernel_rfl)
  obtain ⟨V, hV⟩ : ∃ V, V = ((pSt s).1.cells.toArray : Array Value) := ⟨_, rfl⟩
  have HV := Lib.hid hV
  rw [← hV] at HBU HAL HVS HTS
  clear hV
  go_wp2_with (first
    | (refine wpList_builtg rfl 71 _ rfl _ _ HBU.out rfl ?_)
    | (refine wpList_store_blk rfl 71 _ _ rfl w.heap.size V rfl rfl 71 zSt HBE.out HTS.out (by rw [HVS.out]; rfl) HAL.out ?_
       intro w9 hb9 hf9
       have HB9 := Lib.hid hb9
       have HF9 := Lib.hid hf9
       clear hb9 hf9))
  refine bodyPost_ret (v := .agg V) (results_cell_row Try.results81 _ _ w.heap.size 71 V _ _ rfl HB9.out Try.underlying71 rfl HTS.out) rfl ⟨by rw [HV.out], ?_, ?_⟩
  · exact HR4.out.fr HF9.out (by have := HG.out; simp; omega) (fun k hk hm => HNF.out (by simp at hm; exact hm ▸ hk))
  · exact Fr.unbox HF0.out HF5.out HF9.out (Nat.le_refl _)
set_option maxHeartbeats 1000000 in
theorem qDeny_any {w : World} {F : List Nat} {g : Nat} {s : Ps} (hr : Qs w F g s) : Calls Try.prog 94 #[.pointer (some ⟨g, 0, none⟩)] w fun e w' => e = .returned (.agg (pDn s).1.cells.toArray) ∧ Qs w' F g (pDn s).2 ∧ Fr [g] w w' := by
  obtain ⟨wa, hwa⟩ : ∃ wa, wa = w.alloc (Obj.cells #[.int .i64 0, .int .i64 0, .int .i64 0, .int .i64 0] 83) := ⟨_, rfl⟩
  have hf0 : Fr [] w wa := by rw [hwa]; exact (Fr.refl [] w).alloc _
  have HB : Hid (Blk wa w.heap.size 83 #[.int .i64 0, .int .i64 0, .int .i64 0, .int .i64 0]) := Lib.hid (by rw [hwa]; exact Blk.new _ _ _)
  have HR := Lib.hid (hr.fr hf0 (by simp) (by simp))
  have HNF : Hid (¬ w.heap.size ∈ F) := Lib.hid (fun hm => by have := hr.lt _ hm; omega)
  have HG : Hid (g < w.heap.size) := Lib.hid hr.gt
  have HF0 := Lib.hid hf0
  have HWA := Lib.hid hwa
  clear hwa hf0 hr
  go_enter Try.func94, Try.ntmps94
  go_upto_region 1 with (fail)
  change Code.wp _ _ _ _ (w.alloc (Obj.cells #[.int .i64 0, .int .i64 0, .int .i64 0, .int .i64 0] 83))
  rw [← HWA.out]
  go_wp2_with fail
  refine (qInt_any HR.out).mono ?_
  rintro e_ w1 ⟨rfl, h1, h2⟩
  have HR0 := Lib.hid h1
  have HF1 : Hid (Fr [g] wa w1) := Lib.hid h2
  clear h1 h2
  go_wp2_with fail
  refine (qInt_any HR0.out).mono ?_
  rintro e_ w2 ⟨rfl, h1, h2⟩
  have HR1 := Lib.hid h1
  have HF2 : Hid (Fr [g] wa w2) := Lib.hid (HF1.out.trans h2 (fun x hx _ => hx))
  clear h1 h2
  go_wp2_with fail
  refine (qSig_any HR1.out).mono ?_
  rintro e_ w3 ⟨rfl, h1, h2⟩
  have HR2 := Lib.hid h1
  have HF3 : Hid (Fr [g] wa w3) := Lib.hid (HF2.out.trans h2 (fun x hx _ => hx))
  clear h1 h2
  have HBE := Lib.hid (HB.out.keep HF3.out (by have := HG.out; simp; omega))
  have HBU : Hid (Try.prog.built 83 [(0, .int .i64 (pDn s).1.r), (1, .int .i64 (pDn s).1.i), (2, .agg #[.int .i64 (pDn s).1.b, .int .i64 (pDn s).1.m])] = some (pDn s).1.cells.toArray) := Lib.hid (built_dnR _ _ _ _)
  have HAL : Hid (((pDn s).1.cells.toArray : Array Value).all (·.oneCell') = true) := Lib.hid (all_oneCell_toArray (Wdn.one _))
  have HVS : Hid (((pDn s).1.cells.toArray : Array Value).size = 4) := Lib.hid (rfl)
  have HTS : Hid ((Try.prog.info? 83).map (·.size) = some ((pDn s).1.cells.toArray : Array Value).size) := Lib.hid (by rw [HVS.out]; kernel_rfl)
  obtain ⟨V, hV⟩ : ∃ V, V = ((pDn s).1.cells.toArray : Array Value) := ⟨_, rfl⟩
  have HV := Lib.hid hV
  rw [← hV] at HBU HAL HVS HTS
  clear hV
  go_wp2_with (first
    | (refine wpList_builtg rfl 83 _ rfl _ _ HBU.out rfl ?_)
    | (refine wpList_store_blk rfl 83 _ _ rfl w.heap.size V rfl rfl 83 #[.int .i64 0, .int .i64 0, .int .i64 0, .int .i64 0] HBE.out HTS.out (by rw [HVS.out]; rfl) HAL.out ?_
       intro w9 hb9 hf9
       have HB9 := Lib.hid hb9
       have HF9 := Lib.hid hf9
       clear hb9 hf9))
  refine bodyPost_ret (v := .agg V) (results_cell_row Try.results94 _ _ w.heap.size 83 V _ _ rfl HB9.out Try.underlying83 rfl HTS.out) rfl ⟨by rw [HV.out], ?_, ?_⟩
  · exact HR2.out.fr HF9.out (by have := HG.out; simp; omega) (fun k hk hm => HNF.out (by simp at hm; exact hm ▸ hk))
  · exact Fr.unbox HF0.out HF3.out HF9.out (Nat.le_refl _)
set_option maxHeartbeats 2000000 in
theorem qOpening_any : QGets 93 Wop.cells (fun w S v => v.Ok w S) Wop.con pOp := by
  intro w F g s hr
  obtain ⟨wa, hwa⟩ : ∃ wa, wa = w.alloc (Obj.cells zOp 81) := ⟨_, rfl⟩
  have hf0 : Fr [] w wa := by rw [hwa]; exact (Fr.refl [] w).alloc _
  have HB : Hid (Blk wa w.heap.size 81 zOp) := Lib.hid (by rw [hwa]; exact Blk.new _ _ _)
  have HR := Lib.hid (hr.fr hf0 (by simp) (by simp))
  have HNF : Hid (¬ w.heap.size ∈ F) := Lib.hid (fun hm => by have := hr.lt _ hm; omega)
  have HG : Hid (g < w.heap.size) := Lib.hid hr.gt
  have HF0 := Lib.hid hf0
  have HWA := Lib.hid hwa
  clear hwa hf0 hr
  go_enter Try.func93, Try.ntmps93
  go_upto_region 1 with (fail)
  change Code.wp _ _ _ _ (w.alloc (Obj.cells zOp 81))
  rw [← HWA.out]
  go_wp2_with fail
  refine (qInt_any HR.out).mono ?_
  rintro e_ w1 ⟨rfl, h1, h2⟩
  have HR0 := Lib.hid h1
  have HF1 : Hid (Fr [g] wa w1) := Lib.hid h2
  have hq_ : Fr [g, w.heap.size] wa w1 := h2.mono (fun x hx _ => by simp at hx; simp [hx])
  clear h1 h2 hq_
  go_wp2_with fail
  refine (qRow_any HR0.out).mono ?_
  rintro e_ w2 ⟨A1, c1, rfl, hby, hbk, hcap, h1, h2⟩
  have HR1 := Lib.hid h1
  have HF2 : Hid (Fr [g] wa w2) := Lib.hid (HF1.out.trans h2 (fun x hx _ => hx))
  have hq_ : Fr [g, w.heap.size] w1 w2 := h2.mono (fun x hx _ => by simp at hx; simp [hx])
  have HPA : Hid (∀ k ∈ bk A1, w.heap.size < k) := Lib.hid (fun k hk => by have h1 := (hbk k hk).1; have h3 := HB.out.lt; have h5 := HF1.out.size; omega)
  have HL1 : Hid (∀ W, Fr [g, w.heap.size] w2 W → By W A1 (pR _).1.length (pR _).1 ∧ ∀ k ∈ bk A1, k < W.heap.size) := Lib.hid (fun W hW => ⟨hby.keep hW (fun a ha hm => by have h1 := HPA.out a.block (by simp [bk, ha]); have h2 := HG.out; simp at hm; omega), fun k hk => Nat.lt_of_lt_of_le (hbk k hk).2 hW.size⟩)
  have HCA := Lib.hid hcap
  clear hby hbk hcap
  clear h1 h2 hq_
  go_wp2_with fail
  refine (qHash_any HR1.out).mono ?_
  rintro e_ w3 ⟨rfl, h1, h2⟩
  have HR2 := Lib.hid h1
  have HF3 : Hid (Fr [g] wa w3) := Lib.hid (HF2.out.trans h2 (fun x hx _ => hx))
  have hq_ : Fr [g, w.heap.size] w2 w3 := h2.mono (fun x hx _ => by simp at hx; simp [hx])
  have HL1 := Lib.hid (fun W (hW : Fr [g, w.heap.size] w3 W) => HL1.out W (hq_.trans hW (fun x hx _ => hx)))
  clear h1 h2 hq_
  have HBE := Lib.hid (HB.out.keep HF3.out (by have := HG.out; simp; omega))
  have HBU := Lib.hid (built_opR (pI s).1 A1 (pR (pI s).2).1.length c1 (pR (pI s).2).1 (pH (pR (pI s).2).2).1 (pH_len _))
  obtain ⟨v, hv⟩ : ∃ v : Wop, v = ⟨(pI s).1, A1, (pR (pI s).2).1.length, c1, (pR (pI s).2).1, (pH (pR (pI s).2).2).1⟩ := ⟨_, rfl⟩
  have HVS : Hid (v.cells.toArray.size = 34) := Lib.hid (by rw [hv, List.size_toArray]; exact Wop.len (pH_len _))
  have HAL : Hid (v.cells.toArray.all (·.oneCell') = true) := Lib.hid (all_oneCell_toArray (Wop.one _))
  have HTS : Hid ((Try.prog.info? 81).map (·.size) = some v.cells.toArray.size) := Lib.hid (by rw [HVS.out]; kernel_rfl)
  have HV := Lib.hid hv
  rw [← hv] at HBU
  clear hv
  obtain ⟨V, hV⟩ : ∃ V : Array Value, V = v.cells.toArray := ⟨_, rfl⟩
  have HVV := Lib.hid hV
  rw [← hV] at HBU HAL HVS HTS
  clear hV
  go_wp2_with (first
    | (refine wpList_builtg rfl 81 _ rfl _ _ HBU.out rfl ?_)
    | (refine wpList_store_blk rfl 81 _ _ rfl w.heap.size V rfl rfl 81 zOp HBE.out HTS.out (by rw [HVS.out]; rfl) HAL.out ?_
       intro w9 hb9 hf9
       have HB9 := Lib.hid hb9
       have HF9 := Lib.hid hf9
       clear hb9 hf9))
  have hq9 : Fr [g, w.heap.size] w3 w9 := HF9.out.mono (fun x hx _ => by simp at hx; simp [hx])
  refine bodyPost_ret (v := .agg V) (results_cell_row Try.results93 _ _ w.heap.size 81 V _ _ rfl HB9.out Try.underlying81 rfl HTS.out) rfl ⟨v, by rw [HVV.out], ?_, fun S0 h0 => ?_, ?_, ?_⟩
  · rw [HV.out]; rfl
  · rw [HV.out]; exact ⟨pI_in _, (HL1.out w9 hq9).1, Nat.le_trans (pR_le _) (by omega), fun k hk hm => by have h1 := HPA.out k hk; have h2 := h0 k hm; omega, (HL1.out w9 hq9).2, pH_len _, HCA.out⟩
  · exact HR2.out.fr HF9.out (by have := HG.out; simp; omega) (fun k hk hm => HNF.out (by simp at hm; exact hm ▸ hk))
  · exact Fr.unbox HF0.out HF3.out HF9.out (Nat.le_refl _)
end Go.Proofs.Ytkofmefnlppoaaa

namespace Go.Proofs.Ytkofmefnlppoaaa
open Go.RowKit
set_option maxRecDepth 100000
theorem wp_append_oneq {P : Program} {o : Oper} {a : Act} {w : World} {K : Act → World → Prop} {Q : Exit → Act → World → Prop} (s x : Operand) (t e : TypeId)
    (ho : o.op = .call { callee := .builtin .append, args := #[s, x], argTypes := #[t, t] }) (ht : P.underlying t = some (.slice e)) (k bytes : Nat) (he : ElTy P e k bytes) (hk : 0 < k)
    (base : Nat) (v : Value) (n : Nat) (xs cs : List Value) (hs : a.eval s = v) (hown : w.ownsRow base e k v n xs) (hbase : base ≤ w.heap.size) (hcl : cs.length = k) (h1 : ∀ u ∈ cs, u.oneCell' = true)
    (g : Nat) (t' : TypeId) (hx : a.eval x = .slice (some ⟨g, 0, none⟩) 1 1) (hb : Blk w g t' cs.toArray) (hn : n < 1000000) (hby : bytes ≤ 1000)
    (h : ∀ A c w', w'.ownsRow base e k (.slice A (n + 1) c) (n + 1) (xs ++ cs) → Fr v.ownBlock.toList w w' → ((Value.slice A (n + 1) c).ownBlock = v.ownBlock ∨ (Value.slice A (n + 1) c).ownBlock = some w.heap.size) → K (a.put o.dst (.slice A (n + 1) c)) w') : o.wp P a w K Q := by
  obtain ⟨i, z, hi, hz, hzs, hsz, hbs⟩ := he
  refine wp_append_lies w s x t ho base e i z k bytes ht hi hz hsz hbs hzs hk v n xs hs hown ⟨g, 0, none⟩ 1 1 cs hx (by omega) (fun j u hu => ?_) h1 (by omega) (by simp only [maxLen]; omega)
    (Nat.le_trans (Nat.mul_le_mul (show n + 1 ≤ 1000000 by omega) hby) (by decide)) hbase _ rfl (fun g' cap w' h2 h3 h4 _ => ?_)
  · have hadd : (⟨g, 0, none⟩ : Addr).add j = ⟨g, j, none⟩ := by unfold Addr.add; split <;> simp_all
    rw [hadd, hb.cell j]
    simpa using hu
  · exact h _ _ w' h2 ((Fr.refl _ w).grown h3 (fun y hy _ => by simp [hy])) (h4.imp (fun e => e.symm) (fun e => by rw [e]; rfl))
theorem till_stepQ {P : Program} {l : List Oper} {Q : Exit → Act → World → Prop} {md : Region.Mode} {T : Nat} {A B : World → Prop} {fuel : Nat} {L : Array Bool} {a : Act} {w : World} {i : Nat} {o : Oper} (hi : nthOp l i = some o) (hr : Region.ready md l.toArray L = [i]) (hw : Region.wanted o (yielded l.toArray a.tmps) = true)
    (h : ∀ K : Act → World → Prop, Shut (∀ a w, A w → B w → (A w → B w → wpTill P md l.toArray Q T A B fuel (L.setIfInBounds i true) a w) → K a w) → Oper.wp P o a w K Q) : wpTill P md l.toArray Q T A B (fuel + 1) L a w :=
  till_one hi hr hw (h _ (fun a w hA hB hW => ⟨⟨hA, fun _ => hB⟩, hW hA hB⟩))
theorem pRep_stop {α : Type} {p : Ps → α × Ps} (hp : (p ([], true)).2 = ([], true)) {s : Ps} {k : Nat} (h : (pRep p k s).2 = ([], true)) : ∀ d, (pRep p (k + d) s).2 = ([], true)
  | 0 => h
  | d + 1 => by
    show (p (pRep p (k + d) s).2).2 = ([], true)
    rw [pRep_stop hp h d]
    exact hp
theorem pSt_stop : (pSt ([], true)).2 = ([], true) := rfl
theorem built_ce0 (k : Wcm) (hh : k.h.length = 32) : Try.prog.built 32 [(0, .agg k.cells.toArray)] = some (Wce.cells ⟨k, none, 0, 0, []⟩).toArray := by
  have hz : zCe.size = 38 := rfl
  have hk : k.cells.length = 37 := Wcm.len hh
  rw [built_ceE, fill_step _ _ 0 0 37 _ _ rfl (by simp [Value.cells, hk]) (by rw [hz]; omega), Instr.fill]
  congr 2
  have tk : ∀ n, 32 ≤ n → (k.h.map by8).take n = k.h.map by8 := fun n hn => List.take_of_length_le (by simp [hh]; omega)
  have dk : ∀ n, 32 ≤ n → (k.h.map by8).drop n = [] := fun n hn => List.drop_of_length_le (by simp [hh]; omega)
  simp [splice, zCe, Wce.cells, Wcm.cells, Value.cells, hh, List.drop_append, List.take_append, tk, dk]
def QItem {α β : Type} (f : FuncId) (cells : α → List Value) (ok : World → List Nat → α → Prop) (con : α → β) (p : Ps → β × Ps) : Prop :=
  ∀ (w : World) (F : List Nat) (g : Nat) (s : Ps), Qs w F g s → Calls Try.prog f #[.pointer (some ⟨g, 0, none⟩)] w fun e w' => ∃ v : α, e = .returned (.agg (cells v).toArray) ∧ ((p s).2.2 = false → con v = (p s).1) ∧ (∀ S0 : List Nat, (∀ q ∈ S0, q < w.heap.size) → ok w' S0 v) ∧ Qs w' F g (p s).2 ∧ Fr [g] w w'

set_option maxHeartbeats 4000000 in
theorem qCert_any : QItem 50 Wce.cells (fun w S v => v.Li w S) Wce.con pCe := by
  intro w F g s hr
  obtain ⟨wa, hwa⟩ : ∃ wa, wa = w.alloc (Obj.cells zCe 32) := ⟨_, rfl⟩
  have hf0 : Fr [] w wa := by rw [hwa]; exact (Fr.refl [] w).alloc _
  have HB : Hid (Blk wa w.heap.size 32 zCe) := Lib.hid (by rw [hwa]; exact Blk.new _ _ _)
  have HR := Lib.hid (hr.fr hf0 (by simp) (by simp))
  have HFL : Hid (∀ k ∈ F, k < w.heap.size) := Lib.hid hr.lt
  have HG : Hid (g < w.heap.size) := Lib.hid hr.gt
  have HF0 := Lib.hid hf0
  have HWA := Lib.hid hwa
  clear hwa hf0 hr
  go_enter Try.func50, Try.ntmps50
  go_upto_region 1 with (fail)
  change Code.wp _ _ _ _ (w.alloc (Obj.cells zCe 32))
  rw [← HWA.out]
  go_wp2_with fail
  refine (qCommit_any HR.out).mono ?_
  rintro e_ w1 ⟨rfl, h1, h2⟩
  have HR1 := Lib.hid h1
  have HF1 : Hid (Fr [g] wa w1) := Lib.hid h2
  have HB1 := Lib.hid (HB.out.keep h2 (by have := HG.out; simp; omega))
  have HKO := Lib.hid (pCm_ok s)
  have HPC : Hid (pCe s = (((pCm s).1, (pL pSt (pCm s).2).1), (pL pSt (pCm s).2).2)) := Lib.hid rfl
  clear h1 h2
  generalize (pCm s).1 = km at *
  generalize (pCm s).2 = s0 at *
  have HBU := Lib.hid (built_ce0 km HKO.out.h)
  have HC0 : Hid ((Wce.cells ⟨km, none, 0, 0, []⟩).toArray.size = 38) := Lib.hid (by rw [List.size_toArray]; exact Wce.len HKO.out.h)
  have HC1 : Hid ((Wce.cells ⟨km, none, 0, 0, []⟩).toArray.all (·.oneCell') = true) := Lib.hid (all_oneCell_toArray (Wce.one _))
  have HCT : Hid ((Try.prog.info? 32).map (·.size) = some (Wce.cells ⟨km, none, 0, 0, []⟩).toArray.size) := Lib.hid (by rw [HC0.out]; kernel_rfl)
  obtain ⟨CV, hCV⟩ : ∃ CV, (Wce.cells ⟨km, none, 0, 0, []⟩).toArray = CV := ⟨_, rfl⟩
  rw [hCV] at HBU HC0 HC1 HCT
  have HCV := Lib.hid hCV
  clear hCV
  have HBN : Hid (Blk (w1.alloc (Obj.cells zCe 32)) w1.heap.size 32 zCe) := Lib.hid (Blk.new _ _ _)
  go_upto_region 2 with (first
    | (refine wpList_builtg rfl 32 _ rfl _ _ HBU.out rfl ?_)
    | (refine wpList_store_blk rfl 32 _ _ rfl w1.heap.size CV rfl rfl 32 zCe HBN.out HCT.out (by rw [HC0.out]; rfl) HC1.out ?_
       intro w2 hb hf
       have HX2 := Lib.hid hb
       have HF12 : Hid (Fr [] w1 w2) := Lib.hid (((Fr.refl [] w1).alloc _).and hf (by simp))
       clear hb hf))
  obtain ⟨gx, hgx⟩ : ∃ gx, gx = w1.heap.size := ⟨_, rfl⟩
  rw [← hgx] at HX2 ⊢
  have HGX : Hid (w.heap.size < gx ∧ gx < w2.heap.size ∧ w1.heap.size ≤ gx) := Lib.hid (by have h1 := HB.out.lt; have h2 := HF1.out.size; have h3 := HX2.out.lt; omega)
  have HR2 := Lib.hid (HR1.out.fr HF12.out (by simp) (by simp))
  have HB2 := Lib.hid (HB1.out.keep HF12.out (by simp))
  have HF2 : Hid (Fr [g] w w2) := Lib.hid (((HF0.out.mono (T := [g]) (by simp)).trans HF1.out (fun x hx _ => hx)).trans (HF12.out.mono (by simp)) (fun x hx _ => hx))
  rw [← HCV.out] at HX2
  clear hgx HBN HBU HC0 HC1 HCT HCV HF12 HF1 HF0 HR HR1 HB HB1 HWA
  go_wp2_with fail
  refine (qCount_any HR2.out).mono ?_
  rintro e_ w3 ⟨rfl, h1, h2⟩
  have HR3 := Lib.hid h1
  have HF3 : Hid (Fr [g] w2 w3) := Lib.hid h2
  have HX3 := Lib.hid (HX2.out.keep h2 (by have h1 := HGX.out; have h2 := HG.out; simp; omega))
  have HB3 := Lib.hid (HB2.out.keep h2 (by have h2 := HG.out; simp; omega))
  have HPL : Hid (pL pSt s0 = pRep pSt (pC s0).1 (pC s0).2) := Lib.hid rfl
  have hn := pC_le s0
  clear h1 h2
  generalize (pC s0).1 = n at *
  generalize (pC s0).2 = s1 at *
  have HN := Lib.hid hn
  clear hn HR2 HX2 HB2
  go_wp2_with fail
  go_loopw [5] (fun i wr => ∃ (k : Nat) (A : Option Addr) (c : Nat) (ys : List Wst), k ≤ n ∧ i = .int .i64 k ∧ Hid (ys = (pRep pSt k s1).1) ∧ Hid (ys.length = k) ∧ Hid (∀ y ∈ ys, y.Ok) ∧ Hid (Blk wr gx 32 (Wce.cells ⟨km, A, k, c, ys⟩).toArray) ∧ Hid (wr.ownsRow 0 71 38 (.slice A k c) k (ys.flatMap Wst.cells)) ∧ Hid (∀ q ∈ bk A, w3.heap.size ≤ q) ∧ Hid (Qs wr F g (pRep pSt k s1).2) ∧ Hid (Fr [g, gx] w3 wr)) (fun i _ => n - (intOf i).toNat)
  case atStart => exact ⟨0, none, 0, [], by omega, rfl, Lib.hid rfl, Lib.hid rfl, Lib.hid (by simp), HX3, Lib.hid ⟨by simp, .inl ⟨rfl, rfl⟩⟩, Lib.hid (by simp [bk]), HR3, Lib.hid (Fr.refl _ _)⟩
  case round =>
    obtain ⟨k, A4, c4, ys, hk, rfl, HYS, HYL, HYO, HX, HO, HNA, HQ, HF⟩ := hrel
    have hkS : (k : Int) + 1 ≤ 1000 := by have := HN.out; omega
    have hk0 : (0 : Int) ≤ k := by omega
    by_cases hlt : k < n
    · have HKN : Hid (k ≤ n) := Lib.hid (by omega)
      have HKL : Hid (k < n) := Lib.hid hlt
      obtain ⟨R, bd, hst⟩ : ∃ R bd, (pRep pSt k s1).2 = (R, bd) := ⟨_, _, rfl⟩
      have HST := Lib.hid hst
      rw [hst] at HQ
      obtain ⟨A', n', c', hA', hb', hy', hnc'⟩ := HQ.out.rd
      have hbc := hb'.cell 1
      simp at hbc
      clear hA' hb' hy' hnc' hst
      cases bd
      · have hkn : (k : Int) < n := by omega
        have HXC : Hid (wr.cell? ⟨gx, 37, none⟩ = some (.slice A4 k c4)) := Lib.hid (by
          have hl : km.cells.length = 37 := Wcm.len HKO.out.h
          have h := HX.out.range 37 (.slice A4 k c4) (by simp [Wce.cells, hl])
          simpa using h)
        have HNS : Hid (¬ gx ∈ g :: bk A4) := Lib.hid (by have h1 := HGX.out; have h2 := HG.out; have h3 := HF3.out.size; intro hm; rcases List.mem_cons.1 hm with h | h; omega; have := HNA.out _ h; omega)
        clear hlt
        go_upto_region 6 with (fail)
        clear hbc
        refine wp_region_till 7 (Fr (g :: gx :: bk A4) wr) (Fr (g :: bk A4) wr) (by kernel_rfl) (Fr.drew (Fr.refl _ wr)) (Fr.drew (Fr.refl _ wr)) (fun hA hB => ?_)
        have HWD : Hid (Fr [] wr wr.drew) := Lib.hid (Fr.drew (Fr.refl [] wr))
        have HQd := Lib.hid (HQ.out.fr (Fr.drew (Fr.refl [] wr)) (by simp) (by simp))
        generalize wr.drew = wd at *
        refine till_run (i := 0) (v := ?_) rfl (by kernel_rfl) (by rfl) (fun _ _ _ h => h) hA hB (fun w1 hw1 => ?_) ?_
        rotate_left 1
        · skip
          go_simp
          (try (first | with_reducible rfl | (apply And.intro <;> rfl)))
        simp only [Act.put, List.setIfInBounds_toArray, List.set_cons_zero, List.set_cons_succ]
        refine till_run (i := 1) (v := ?_) rfl (by kernel_rfl) (by rfl) (fun _ _ _ h => h) hA hB (fun w1 hw1 => ?_) ?_
        rotate_left 1
        · skip
          have hcw0 := hw1.cell (HXC.out) (by first | (simp; done) | exact HNS.out | exact HNW.out | (intro hm; have hlt := HSB.out _ hm; (try dsimp only at hlt); omega))
          go_simp
          (try (first | with_reducible rfl | (apply And.intro <;> rfl)))
        simp only [Act.put, List.setIfInBounds_toArray, List.set_cons_zero, List.set_cons_succ]
        refine till_run (i := 2) (v := ?_) rfl (by kernel_rfl) (by rfl) (fun _ _ _ h => h) hA hB (fun w1 hw1 => ?_) ?_
        rotate_left 1
        · skip
          go_simp
          (try (first | with_reducible rfl | (apply And.intro <;> rfl)))
        simp only [Act.put, List.setIfInBounds_toArray, List.set_cons_zero, List.set_cons_succ]
        refine till_call (i := 3) (f := ?_) (args := ?_) rfl (by kernel_rfl) (by rfl) ?_ ?_
        rotate_left 2
        · go_simp
          (try (first | with_reducible rfl | (apply And.intro <;> rfl)))
        refine (qStamp_any HQd.out).mono ?_
        rintro e_ w5 ⟨rfl, h1, h2⟩
        have HQ5 := Lib.hid h1
        have HF5 : Hid (Fr [g] wr w5) := Lib.hid ((HWD.out.mono (T := [g]) (by simp)).trans h2 (fun x hx _ => hx))
        refine ⟨_, rfl, ⟨hA.trans h2 (fun x hx _ => by simp at hx; simp [hx]), hB.trans h2 (fun x hx _ => by simp at hx; simp [hx])⟩, fun hB => ?_⟩
        replace hA := hA.trans h2 (fun x hx _ => by simp at hx; simp [hx])
        clear h1 h2
        have HYK := Lib.hid (pSt_ok (R, false))
        have HPE : Hid (pRep pSt (k + 1) s1 = ((pRep pSt k s1).1 ++ [(pSt (R, false)).1], (pSt (R, false)).2)) := Lib.hid (by
          show ((pRep pSt k s1).1 ++ [(pSt (pRep pSt k s1).2).1], (pSt (pRep pSt k s1).2).2) = _
          rw [HST.out])
        generalize pSt (R, false) = pr at *
        obtain ⟨y, s5⟩ := pr
        have HD : Hid (y.cells.length = 38) := Lib.hid (Wst.len HYK.out.h)
        have HD1 := Lib.hid (Wst.one y)
        have HCY : Hid ((ys ++ [y]).flatMap Wst.cells = ys.flatMap Wst.cells ++ y.cells) := Lib.hid (by rw [List.flatMap_append, List.flatMap_singleton])
        have HO5 := Lib.hid (own_keep HO.out HF5.out (fun q hq hm => by rw [bk_mem] at hq; have h1 := HNA.out q hq; have h2 := HG.out; have h3 := HF3.out.size; have h4 := HF2.out.size; simp at hm; omega))
        have HX5 := Lib.hid (HX.out.keep HF5.out (by have h1 := HGX.out; have h2 := HG.out; simp; omega))
        obtain ⟨D, hD⟩ : ∃ D, y.cells = D := ⟨_, rfl⟩
        show wpTill _ _ _ _ _ _ _ _ _ _ _
        have hDy : y.cells.toArray = D.toArray := by rw [hD]
        simp only [] at *
        rw [hD] at HD HD1 HCY
        try rw [hD]
        clear hD hDy
        simp only [Act.put, List.setIfInBounds_toArray, List.set_cons_zero, List.set_cons_succ]
        refine till_stepQ (i := 4) rfl (by kernel_rfl) (by rfl) (fun K hK => ?_)
        refine wp_build_one 30 71 _ rfl Try.underlying30 D 80 (by rw [HD.out]; exact el_stamp) rfl (by rw [HD.out]; decide) (by rw [HD.out]; decide) ?_
        refine hK.out _ _ (hA.alloc _) (hB.alloc _) (fun hA hB => ?_)
        clear hK K
        simp only [Act.put, List.setIfInBounds_toArray, List.set_cons_zero, List.set_cons_succ]
        refine till_stepQ (i := 5) rfl (by kernel_rfl) (by rfl) (fun K hK => ?_)
        refine wp_append_oneq _ _ 30 71 rfl Try.underlying30 38 80 el_stamp (by decide) 0 (.slice A4 k c4) k _ D rfl (HO5.out.alloc _) (Nat.zero_le _) HD.out HD1.out w5.heap.size 71 rfl (Blk.new _ _ _) (by have := HKL.out; have := HN.out; omega) (by decide) ?_
        intro A9 c9 w9 ho9 hf9 hb9
        rw [bk_own] at hf9
        have HF9 : Hid (Fr (bk A4) w5 w9) := Lib.hid ((((Fr.refl [] w5).alloc _).mono (by simp)).trans hf9 (fun x hx _ => hx))
        have HA9 : Hid (∀ q ∈ bk A9, w3.heap.size ≤ q) := Lib.hid (by
          intro q hq
          rw [← bk_own A9 (k + 1) c9] at hq
          rcases hb9 with h | h
          · rw [h, bk_own] at hq; exact HNA.out q hq
          · rw [h] at hq; simp at hq; have h1 := HF.out.size; have h2 := HF5.out.size; omega)
        have HO9 := Lib.hid ho9
        refine hK.out _ _ (hA.trans hf9 (fun x hx _ => by simp [hx])) (hB.trans hf9 (fun x hx _ => by simp [hx])) (fun hA hB => ?_)
        clear hK K ho9 hf9 hb9
        have HX9 := Lib.hid (HX5.out.keep HF9.out (fun hm => HNS.out (by simp [hm])))
        simp only [Act.put, List.setIfInBounds_toArray, List.set_cons_zero, List.set_cons_succ]
        refine till_stepQ (i := 6) rfl (by kernel_rfl) (by rfl) (fun K hK => ?_)
        refine wp_run (v := ?_) (w' := ?_) ?_ ?_
        rotate_left 2
        · go_simp
          (try (first | with_reducible rfl | (apply And.intro <;> rfl)))
        refine hK.out _ _ hA hB (fun hA hB => ?_)
        clear hK K
        simp only [Act.put, List.setIfInBounds_toArray, List.set_cons_zero, List.set_cons_succ]
        have HKC : Hid (km.cells.length = 37) := Lib.hid (Wcm.len HKO.out.h)
        refine till_step (i := 7) rfl (by kernel_rfl) (by kernel_rfl) (by rfl) (fun K hK => ?_)
        refine wp_store_at 30 _ _ rfl gx 37 (.slice A9 (k + 1) c9) rfl rfl rfl 32 _ HX9.out (by simp [Wce.cells, HKC.out]) (by kernel_rfl) ?_
        have hb7 : Blk (w9.setCells gx 37 [.slice A9 (k + 1) c9]) gx 32 (Wce.cells ⟨km, A9, k + 1, c9, ys ++ [y]⟩).toArray := Blk.mid_at [.slice A9 (k + 1) c9] [.slice A4 k c4] km.cells [] 37 HKC.out rfl _ _ rfl rfl HX9.out
        have HB7 := Lib.hid hb7
        have HF7 : Hid (Fr [gx] w9 (w9.setCells gx 37 [.slice A9 (k + 1) c9])) := Lib.hid (Fr.setCells (fun _ => by simp) _ _ _ (Fr.refl _ _))
        refine hK.out _ _ (hA.trans HF7.out (fun q hq _ => by simp at hq; simp [hq])) (fun hA => ?_)
        clear hK K hb7
        generalize w9.setCells gx 37 [.slice A9 (k + 1) c9] = w10 at *
        simp only [Act.put, List.setIfInBounds_toArray, List.set_cons_zero, List.set_cons_succ]
        refine till_done (by kernel_rfl) ?_ _
        have HFF : Hid (Fr [g, gx] w3 w10) := Lib.hid (HF.out.trans hA (fun x hx hl => by
          rcases List.mem_cons.1 hx with h | hx
          · simp [h]
          · rcases List.mem_cons.1 hx with h | hx
            · simp [h]
            · have := HNA.out x hx; omega))
        have HO10 := Lib.hid (own_keep HO9.out HF7.out (fun q hq hm => by rw [bk_mem] at hq; have h1 := HA9.out q hq; have h2 := HGX.out; have h3 := HF3.out.size; simp at hm; omega))
        have HQ10 := Lib.hid ((HQ5.out.fr HF9.out (fun hm => by have h1 := HNA.out _ hm; have h2 := HG.out; have h3 := HF3.out.size; have h4 := HF2.out.size; omega) (fun q hq hm => by have h1 := HNA.out q hm; have h2 := HFL.out q hq; have h3 := HF3.out.size; have h4 := HF2.out.size; omega)).fr HF7.out (by have h1 := HGX.out; have h2 := HG.out; simp; omega) (fun q hq hm => by have h1 := HGX.out; have h2 := HFL.out q hq; simp at hm; omega))
        clear hA
        go_wp2
        go_roundw
        case rel =>
          refine ⟨k + 1, A9, c9, ys ++ [y], by have := HKL.out; omega, by go_num, Lib.hid (by rw [HPE.out, HYS.out]), Lib.hid (by rw [List.length_append, HYL.out]; rfl), Lib.hid (fun u hu => ?_), HB7, Lib.hid (by rw [HCY.out]; exact HO10.out), HA9, Lib.hid (by rw [HPE.out]; exact HQ10.out), HFF⟩
          rcases List.mem_append.1 hu with h | h
          · exact HYO.out u h
          · rw [List.mem_singleton.1 h]; exact HYK.out
        case measure => have := HKL.out; simp [intOf]; omega
      · skip
        clear hlt
        have HBW := Lib.hid (HB3.out.keep HF.out (by have h1 := HGX.out; have h2 := HG.out; simp; omega))
        have HVL : Hid ((Wce.cells ⟨km, A4, k, c4, ys⟩).length = 38) := Lib.hid (Wce.len HKO.out.h)
        have HVO : Hid ((Wce.cells ⟨km, A4, k, c4, ys⟩).toArray.all (·.oneCell') = true) := Lib.hid (all_oneCell_toArray (Wce.one _))
        obtain ⟨V, hV⟩ : ∃ V, Wce.cells ⟨km, A4, k, c4, ys⟩ = V := ⟨_, rfl⟩
        rw [hV] at HVL HVO HX
        have HVV := Lib.hid hV
        clear hV
        have HVT : Hid ((Try.prog.info? 32).map (·.size) = some V.toArray.size) := Lib.hid (by rw [List.size_toArray, HVL.out]; kernel_rfl)
        go_wp2_with (first
          | (refine wpList_row rfl 32 _ rfl _ _ rfl _ HX.out.range (row_crt.of HVL.out) ?_)
          | (refine wpList_store_blk rfl 32 _ _ rfl w.heap.size V.toArray rfl rfl 32 zCe HBW.out HVT.out (by simp only [List.size_toArray]; rw [HVL.out]; rfl) HVO.out ?_
             intro w9 hb hf
             have HB9 := Lib.hid hb
             have HF9 := Lib.hid hf
             clear hb hf))
        refine bodyPost_ret (v := .agg V.toArray) (results_cell_row Try.results50 _ _ w.heap.size 32 V.toArray _ _ rfl HB9.out Try.underlying32 rfl HVT.out) rfl ⟨⟨km, A4, k, c4, ys⟩, by rw [HVV.out], ?_, fun S0 h0 => ?_, ?_, ?_⟩
        · rw [HPC.out]
          intro hbad
          exfalso
          have h := HQ.out.bz rfl
          have h2 := HST.out
          have h3 : R = [] := h
          rw [h3] at h2
          have h4 := pRep_stop pSt_stop h2 (n - k)
          rw [show k + (n - k) = n by have := HKL.out; omega, ← HPL.out] at h4
          have h5 : (pL pSt s0).2.2 = true := by rw [h4]
          have h6 : (pL pSt s0).2.2 = false := hbad
          rw [h5] at h6
          cases h6
        · have hsz3 : w.heap.size ≤ w3.heap.size := Nat.le_trans HF2.out.size HF3.out.size
          exact ⟨HKO.out, Lst.of_own (own_keep HO.out HF9.out (fun q hq hm => by rw [bk_mem] at hq; have h1 := HNA.out q hq; have h2 := HB3.out.lt; simp at hm; omega)) HYL.out (fun v hv => ⟨Wst.len (HYO.out v hv).h, HYO.out v hv⟩), by have := HN.out; have := HKN.out; show k ≤ 100; omega, fun _ a ha hin => by
            have ha : A4 = some a := ha
            have h1 := HNA.out a.block (by rw [ha]; simp [bk])
            have h2 := h0 _ hin
            omega⟩
        · rw [HPC.out]
          show Qs w9 F g (pL pSt s0).2
          have h2 := HST.out
          have h3 : R = [] := HQ.out.bz rfl
          rw [h3] at h2
          have h4 := pRep_stop pSt_stop h2 (n - k)
          rw [show k + (n - k) = n by have := HKL.out; omega, ← HPL.out] at h4
          rw [h4, ← h3]
          exact HQ.out.fr HF9.out (by have := HG.out; simp; omega) (fun q hq hm => by have := HFL.out q hq; simp at hm; omega)
        · exact ((HF2.out.trans HF3.out (fun x hx _ => hx)).trans HF.out (fun x hx hl => by have h1 := HGX.out; simp at hx; simp; omega)).trans HF9.out (fun x hx hl => by simp at hx; omega)
    · have hkn : n = k := by omega
      subst hkn
      have HKN : Hid (n ≤ n) := Lib.hid (Nat.le_refl _)
      clear hlt hk
      have HBW := Lib.hid (HB3.out.keep HF.out (by have h1 := HGX.out; have h2 := HG.out; simp; omega))
      have HVL : Hid ((Wce.cells ⟨km, A4, n, c4, ys⟩).length = 38) := Lib.hid (Wce.len HKO.out.h)
      have HVO : Hid ((Wce.cells ⟨km, A4, n, c4, ys⟩).toArray.all (·.oneCell') = true) := Lib.hid (all_oneCell_toArray (Wce.one _))
      obtain ⟨V, hV⟩ : ∃ V, Wce.cells ⟨km, A4, n, c4, ys⟩ = V := ⟨_, rfl⟩
      rw [hV] at HVL HVO HX
      have HVV := Lib.hid hV
      clear hV
      have HVT : Hid ((Try.prog.info? 32).map (·.size) = some V.toArray.size) := Lib.hid (by rw [List.size_toArray, HVL.out]; kernel_rfl)
      go_wp2_with (first
        | (refine wpList_row rfl 32 _ rfl _ _ rfl _ HX.out.range (row_crt.of HVL.out) ?_)
        | (refine wpList_store_blk rfl 32 _ _ rfl w.heap.size V.toArray rfl rfl 32 zCe HBW.out HVT.out (by simp only [List.size_toArray]; rw [HVL.out]; rfl) HVO.out ?_
           intro w9 hb hf
           have HB9 := Lib.hid hb
           have HF9 := Lib.hid hf
           clear hb hf))
      refine bodyPost_ret (v := .agg V.toArray) (results_cell_row Try.results50 _ _ w.heap.size 32 V.toArray _ _ rfl HB9.out Try.underlying32 rfl HVT.out) rfl ⟨⟨km, A4, n, c4, ys⟩, by rw [HVV.out], ?_, fun S0 h0 => ?_, ?_, ?_⟩
      · rw [HPC.out]
        intro hbad
        unfold Wce.con
        rw [HYS.out, HPL.out]
      · have hsz3 : w.heap.size ≤ w3.heap.size := Nat.le_trans HF2.out.size HF3.out.size
        exact ⟨HKO.out, Lst.of_own (own_keep HO.out HF9.out (fun q hq hm => by rw [bk_mem] at hq; have h1 := HNA.out q hq; have h2 := HB3.out.lt; simp at hm; omega)) HYL.out (fun v hv => ⟨Wst.len (HYO.out v hv).h, HYO.out v hv⟩), by have := HN.out; have := HKN.out; show n ≤ 100; omega, fun _ a ha hin => by
          have ha : A4 = some a := ha
          have h1 := HNA.out a.block (by rw [ha]; simp [bk])
          have h2 := h0 _ hin
          omega⟩
      · rw [HPC.out]
        show Qs w9 F g (pL pSt s0).2
        rw [HPL.out]
        exact HQ.out.fr HF9.out (by have := HG.out; simp; omega) (fun q hq hm => by have := HFL.out q hq; simp at hm; omega)
      · exact ((HF2.out.trans HF3.out (fun x hx _ => hx)).trans HF.out (fun x hx hl => by have h1 := HGX.out; simp at hx; simp; omega)).trans HF9.out (fun x hx hl => by simp at hx; omega)
end Go.Proofs.Ytkofmefnlppoaaa

namespace Go.Proofs.Ytkofmefnlppoaaa
open Go.RowKit
set_option maxRecDepth 100000
/-- a list that the document's reader has made: what it says counts only if the reader has not failed -/
structure GQ {α β : Type} (e : TypeId) (K : Nat) (cells : α → List Value) (ok : World → List Nat → α → Prop) (con : α → β) (N0 : Nat) (w : World) (A : Option Addr) (n c : Nat) (l : List α) (r : List β) (bad : Bool) : Prop where
  own : w.ownsRow 0 e K (.slice A n c) n (l.flatMap cells)
  len : l.length = n
  con : bad = false → l.map con = r
  few : n ≤ 100
  new : ∀ q ∈ bk A, N0 ≤ q
  ok : ∀ v ∈ l, ∀ S0 : List Nat, (∀ q ∈ S0, q < N0 ∨ q ∈ bk A) → ok w S0 v
section
variable {α β : Type} {e : TypeId} {K : Nat} {cells : α → List Value} {ok : World → List Nat → α → Prop} {con : α → β} {N0 : Nat} {w W : World} {A : Option Addr} {n c : Nat} {l : List α} {r : List β} {bad : Bool}
theorem GQ.nil (w : World) : GQ e K cells ok con N0 w none 0 0 [] [] bad := ⟨⟨by simp, .inl ⟨rfl, rfl⟩⟩, rfl, fun _ => rfl, by omega, by simp [bk], by simp⟩
theorem GQ.lt (h : GQ e K cells ok con N0 w A n c l r bad) : ∀ q ∈ bk A, q < w.heap.size := fun q hq => own_lt h.own q ((bk_mem A n c q).2 hq)
theorem GQ.keep {S : List Nat} (h : GQ e K cells ok con N0 w A n c l r bad) (hkeep : ∀ {w W : World} {S S' : List Nat} {x : α}, ok w S x → Fr S w W → (∀ k ∈ S', k < w.heap.size → k ∈ S) → ok W S' x)
    (hf : Fr S w W) (hS : ∀ q ∈ S, q < N0) : GQ e K cells ok con N0 W A n c l r bad :=
  ⟨own_keep h.own hf (fun q hq hm => by have h1 := h.new q ((bk_mem A n c q).1 hq); have h2 := hS q hm; omega), h.len, h.con, h.few, h.new, fun v hv S0 h0 =>
    hkeep (h.ok v hv (S ++ S0) (fun q hq => by
      rcases List.mem_append.1 hq with hq | hq
      · exact .inl (hS q hq)
      · exact h0 q hq)) (hf.mono (fun k hk _ => by simp [hk])) (fun k hk _ => by simp [hk])⟩
theorem GQ.fail {r' : List β} (h : GQ e K cells ok con N0 w A n c l r bad) : GQ e K cells ok con N0 w A n c l r' true := ⟨h.own, h.len, (fun h => by cases h), h.few, h.new, h.ok⟩
/-- one item more -/
theorem GQ.step {w5 w9 : World} {g c9 : Nat} {A9 : Option Addr} {y : α} {y' : β} {bad' : Bool} (h : GQ e K cells ok con N0 w A n c l r bad) (hkeep : ∀ {w W : World} {S S' : List Nat} {x : α}, ok w S x → Fr S w W → (∀ k ∈ S', k < w.heap.size → k ∈ S) → ok W S' x)
    (hn : n < 100) (hg : g < N0) (hN : N0 ≤ w.heap.size) (hf5 : Fr [g] w w5)
    (hy : ∀ S0 : List Nat, (∀ q ∈ S0, q < w.heap.size) → ok w5 S0 y) (hc : bad' = false → bad = false ∧ con y = y')
    (ho9 : w9.ownsRow 0 e K (.slice A9 (n + 1) c9) (n + 1) (l.flatMap cells ++ cells y)) (hf9 : Fr (bk A) w5 w9) (hb9 : ∀ q ∈ bk A9, q ∈ bk A ∨ w5.heap.size ≤ q) :
    GQ e K cells ok con N0 w9 A9 (n + 1) c9 (l ++ [y]) (r ++ [y']) bad' := by
  have hs := hf5.size
  have hfg : Fr (g :: bk A) w5 w9 := hf9.mono (fun q hq _ => by simp [hq])
  have hfr : Fr (g :: bk A) w w9 := (hf5.mono (fun q hq _ => by simp at hq; simp [hq])).trans hfg (fun q hq _ => hq)
  refine ⟨by rw [List.flatMap_append, List.flatMap_singleton]; exact ho9, by rw [List.length_append, h.len]; rfl, fun hb => ?_, by omega, fun q hq => ?_, fun u hu S0 h0 => ?_⟩
  · obtain ⟨h1, h2⟩ := hc hb
    rw [List.map_append, h.con h1, ← h2]; rfl
  · rcases hb9 q hq with h1 | h1
    · exact h.new q h1
    · omega
  · have h0' : ∀ q ∈ S0, q < N0 ∨ q ∈ g :: bk A9 := fun q hq => (h0 q hq).imp id (fun h => by simp [h])
    rcases List.mem_append.1 hu with hu | hu
    · refine keepAll (ok := ok) (fun h f s => hkeep h f s) (w := w) (B4 := g :: bk A) (B9 := g :: bk A9) hfr (fun q hq => ?_) (fun S1 h1 => h.ok u hu S1 (fun q hq => ?_)) S0 h0'
      · rcases List.mem_cons.1 hq with h | h
        · exact .inl (by simp [h])
        · exact (hb9 q h).imp (fun h => by simp [h]) (fun h => by omega)
      · rcases h1 q hq with h | h
        · exact .inl h
        · rcases List.mem_cons.1 h with h | h
          · exact .inl (by omega)
          · exact .inr h
    · rw [List.mem_singleton.1 hu]
      refine keepAll (ok := ok) (fun h f s => hkeep h f s) (w := w5) (B4 := g :: bk A) (B9 := g :: bk A9) hfg (fun q hq => ?_) (fun S1 h1 => hy S1 (fun q hq => ?_)) S0 h0'
      · rcases List.mem_cons.1 hq with h | h
        · exact .inl (by simp [h])
        · exact (hb9 q h).imp (fun h => by simp [h]) id
      · rcases h1 q hq with h2 | h2
        · omega
        · rcases List.mem_cons.1 h2 with h3 | h3
          · omega
          · exact h.lt q h3
theorem GQ.lst (h : GQ e K cells ok con N0 w A n c l r bad) (hlen : ∀ w S v, ok w S v → (cells v).length = K) {S0 : List Nat} (h0 : ∀ q ∈ S0, q < N0) : Lst K cells (fun w v => ok w S0 v) w A n l ∧ (0 < n → ∀ a, A = some a → ¬ a.block ∈ S0) :=
  ⟨Lst.of_own h.own h.len (fun v hv => by have h1 := h.ok v hv S0 (fun q hq => .inl (h0 q hq)); exact ⟨hlen _ _ _ h1, h1⟩), fun _ a ha hin => by
    have h1 := h.new a.block (by simp [bk, ha])
    have h2 := h0 _ hin
    omega⟩
end
theorem qitem_of {α : Type} {f : FuncId} {cells : α → List Value} {p : Ps → α × Ps} {ok : α → Prop} (h : ∀ (w : World) (F : List Nat) (g : Nat) (s : Ps), Qs w F g s → Calls Try.prog f #[.pointer (some ⟨g, 0, none⟩)] w fun e w' => e = .returned (.agg (cells (p s).1).toArray) ∧ Qs w' F g (p s).2 ∧ Fr [g] w w') (ho : ∀ s, ok (p s).1) :
    QItem f cells (fun _ _ v => ok v) id p := fun w F g s hr => (h w F g s hr).mono fun _ _ ⟨h1, h2, h3⟩ => ⟨_, h1, fun _ => rfl, fun _ _ => ho s, h2, h3⟩
theorem pCe_stop : (pCe ([], true)).2 = ([], true) := rfl
theorem pDn_stop : (pDn ([], true)).2 = ([], true) := rfl
theorem pOp_stop : (pOp ([], true)).2 = ([], true) := rfl
theorem pTb_stop : (pTb ([], true)).2 = ([], true) := rfl
theorem pPr_stop : (pPr ([], true)).2 = ([], true) := rfl
theorem built_prQ (r e : Int) (t : Nat) : Try.prog.built 36 [(0, .int .i64 r), (1, .int .i64 e), (2, .int .u64 (t : Int))] = some #[.int .i64 r, .int .i64 e, .int .u64 (t : Int), .slice none 0 0, .int .i64 0, .int .i64 0] := by kernel_rfl
theorem inB_bad (R : List UInt8) (m : Int) : inB R m true = true := by
  unfold inB
  cases dec R with
  | none => rfl
  | some p => simp only; split <;> rfl
theorem pI_bad {s : Ps} (h : (pI s).2.2 = false) : s.2 = false := by
  obtain ⟨R, b⟩ := s
  cases b
  · rfl
  · have h1 : inB R 1099511627776 true = false := h
    rw [inB_bad] at h1
    cases h1
theorem p2_bad {s : Ps} (h : (p2 s).2.2 = false) : s.2 = false := pI_bad (pI_bad h)
theorem zPrE : (Wpr.cells ⟨0, 0, 0, none, 0, 0, [], 0, 0⟩).toArray = #[.int .i64 0, .int .i64 0, .int .u64 0, .slice none 0 0, .int .i64 0, .int .i64 0] := rfl

set_option maxHeartbeats 4000000 in
theorem qPromise_any : QItem 54 Wpr.cells (fun w S v => v.Li w S) Wpr.con pPr := by
  intro w F g s hr
  obtain ⟨wa, hwa⟩ : ∃ wa, wa = w.alloc (Obj.cells (Wpr.cells ⟨0, 0, 0, none, 0, 0, [], 0, 0⟩).toArray 36) := ⟨_, rfl⟩
  have hf0 : Fr [] w wa := by rw [hwa]; exact (Fr.refl [] w).alloc _
  have HB : Hid (Blk wa w.heap.size 36 (Wpr.cells ⟨0, 0, 0, none, 0, 0, [], 0, 0⟩).toArray) := Lib.hid (by rw [hwa]; exact Blk.new _ _ _)
  have HR := Lib.hid (hr.fr hf0 (by simp) (by simp))
  have HFL : Hid (∀ k ∈ F, k < w.heap.size) := Lib.hid hr.lt
  have HG : Hid (g < w.heap.size) := Lib.hid hr.gt
  have HF0 := Lib.hid hf0
  have HWA := Lib.hid hwa
  clear hwa hf0 hr
  go_enter Try.func54, Try.ntmps54
  go_upto_region 1 with (fail)
  change Code.wp _ _ _ _ (w.alloc (Obj.cells (Wpr.cells ⟨0, 0, 0, none, 0, 0, [], 0, 0⟩).toArray 36))
  rw [← HWA.out]
  go_wp2_with fail
  refine (qInt_any HR.out).mono ?_
  rintro e_ w1 ⟨rfl, h1, h2⟩
  have HR1 := Lib.hid h1
  have HF1 : Hid (Fr [g] wa w1) := Lib.hid h2
  clear h1 h2
  go_wp2_with fail
  refine (qInt_any HR1.out).mono ?_
  rintro e_ w2 ⟨rfl, h1, h2⟩
  have HR2 := Lib.hid h1
  have HF2 : Hid (Fr [g] wa w2) := Lib.hid (HF1.out.trans h2 (fun x hx _ => hx))
  clear h1 h2
  go_wp2_with fail
  refine (qNum_any HR2.out).mono ?_
  rintro e_ w3 ⟨rfl, h1, h2⟩
  have HR3 := Lib.hid h1
  have HF3 : Hid (Fr [g] wa w3) := Lib.hid (HF2.out.trans h2 (fun x hx _ => hx))
  clear h1 h2
  have HPC : Hid (pPr s = (⟨(pI s).1, (pI (pI s).2).1, (pN (pI (pI s).2).2).1, (pL pCe (pN (pI (pI s).2).2).2).1, (p2 (pL pCe (pN (pI (pI s).2).2).2).2).1.1, (p2 (pL pCe (pN (pI (pI s).2).2).2).2).1.2⟩, (p2 (pL pCe (pN (pI (pI s).2).2).2).2).2)) := Lib.hid rfl
  have HIN : Hid (i64In (pI s).1 ∧ i64In (pI (pI s).2).1 ∧ (pN (pI (pI s).2).2).1 < 18446744073709551616) := Lib.hid ⟨pI_in _, pI_in _, pN_lt _⟩
  have HB3 := Lib.hid (HB.out.keep HF3.out (by have := HG.out; simp; omega))
  clear HR1 HR2
  generalize (pN (pI (pI s).2).2).2 = s0 at *
  generalize (pN (pI (pI s).2).2).1 = t0 at *
  generalize (pI (pI s).2).1 = e0 at *
  generalize (pI s).1 = r0 at *
  have HBU := Lib.hid (built_prQ r0 e0 t0)
  have HBN : Hid (Blk (w3.alloc (Obj.cells (Wpr.cells ⟨0, 0, 0, none, 0, 0, [], 0, 0⟩).toArray 36)) w3.heap.size 36 (Wpr.cells ⟨0, 0, 0, none, 0, 0, [], 0, 0⟩).toArray) := Lib.hid (Blk.new _ _ _)
  obtain ⟨CV, hCV⟩ : ∃ CV, (#[.int .i64 r0, .int .i64 e0, .int .u64 (t0 : Int), .slice none 0 0, .int .i64 0, .int .i64 0] : Array Value) = CV := ⟨_, rfl⟩
  have HC0 : Hid (CV.size = 6) := Lib.hid (by rw [← hCV]; rfl)
  have HC1 : Hid (CV.all (·.oneCell') = true) := Lib.hid (by rw [← hCV]; exact all_oneCell_toArray (Wpr.one ⟨r0, e0, t0, none, 0, 0, [], 0, 0⟩))
  have HCT : Hid ((Try.prog.info? 36).map (·.size) = some CV.size) := Lib.hid (by rw [HC0.out]; kernel_rfl)
  rw [hCV] at HBU
  have HCV := Lib.hid hCV
  clear hCV
  go_upto_region 2 with (first
    | (refine wpList_builtg rfl 36 _ rfl _ _ HBU.out rfl ?_)
    | (refine wpList_store_blk rfl 36 _ _ rfl w3.heap.size CV rfl rfl 36 (Wpr.cells ⟨0, 0, 0, none, 0, 0, [], 0, 0⟩).toArray HBN.out HCT.out (by rw [HC0.out]; rfl) HC1.out ?_
       intro w4 hb hf
       have HX4 := Lib.hid hb
       have HF34 : Hid (Fr [] w3 w4) := Lib.hid (((Fr.refl [] w3).alloc _).and hf (by simp))
       clear hb hf))
  obtain ⟨gx, hgx⟩ : ∃ gx, gx = w3.heap.size := ⟨_, rfl⟩
  rw [← hgx] at HX4 ⊢
  have HGX : Hid (w.heap.size < gx ∧ gx < w4.heap.size ∧ w3.heap.size ≤ gx) := Lib.hid (by have h1 := HB.out.lt; have h2 := HF3.out.size; have h3 := HX4.out.lt; omega)
  have HR4 := Lib.hid (HR3.out.fr HF34.out (by simp) (by simp))
  have HB4 := Lib.hid (HB3.out.keep HF34.out (by simp))
  have HF4 : Hid (Fr [g] w w4) := Lib.hid (((HF0.out.mono (T := [g]) (by simp)).trans HF3.out (fun x hx _ => hx)).trans (HF34.out.mono (by simp)) (fun x hx _ => hx))
  rw [← HCV.out] at HX4
  clear hgx HBN HBU HC0 HC1 HCT HCV HF34 HF1 HF2 HF3 HF0 HR HR3 HB HB3 HWA
  go_wp2_with fail
  refine (qCount_any HR4.out).mono ?_
  rintro e_ wN ⟨rfl, h1, h2⟩
  have HRn := Lib.hid h1
  have HFn : Hid (Fr [g] w4 wN) := Lib.hid h2
  have HXn := Lib.hid (HX4.out.keep h2 (by have h1 := HGX.out; have h2 := HG.out; simp; omega))
  have HPL : Hid (pL pCe s0 = pRep pCe (pC s0).1 (pC s0).2) := Lib.hid rfl
  have hn := pC_le s0
  clear h1 h2
  generalize (pC s0).1 = n at *
  generalize (pC s0).2 = s1 at *
  have HN := Lib.hid hn
  have HSZ : Hid (w.heap.size ≤ wN.heap.size ∧ gx < wN.heap.size) := Lib.hid (by have h1 := HGX.out; have h2 := HFn.out.size; omega)
  clear hn HR4 HX4
  go_upto_block 0 with (fail)
  go_cut [5] (fun s_ wx => ∃ (A : Option Addr) (m c : Nat) (ys : List Wce), Hid (GQ 32 38 Wce.cells (fun w S v => v.Li w S) Wce.con wN.heap.size wx A m c ys (pL pCe s0).1 (pL pCe s0).2.2) ∧ Hid (Blk wx gx 36 #[.int .i64 r0, .int .i64 e0, .int .u64 (t0 : Int), .slice A m c, .int .i64 0, .int .i64 0]) ∧ Hid (Qs wx F g (pL pCe s0).2) ∧ Hid (Fr [g, gx] wN wx))
  case first =>
    go_wp2_with fail
    go_loopw [5] (fun i wr => ∃ (k : Nat) (A : Option Addr) (c : Nat) (ys : List Wce), k ≤ n ∧ i = .int .i64 k ∧ Hid (GQ 32 38 Wce.cells (fun w S v => v.Li w S) Wce.con wN.heap.size wr A k c ys (pRep pCe k s1).1 (pRep pCe k s1).2.2) ∧ Hid (Blk wr gx 36 #[.int .i64 r0, .int .i64 e0, .int .u64 (t0 : Int), .slice A k c, .int .i64 0, .int .i64 0]) ∧ Hid (Qs wr F g (pRep pCe k s1).2) ∧ Hid (Fr [g, gx] wN wr)) (fun i _ => n - (intOf i).toNat)
    case atStart => exact ⟨0, none, 0, [], by omega, rfl, Lib.hid (GQ.nil _), HXn, HRn, Lib.hid (Fr.refl _ _)⟩
    case round =>
      obtain ⟨k, A4, c4, ys, hk, rfl, HQQ, HX, HQ, HF⟩ := hrel
      have hkS : (k : Int) + 1 ≤ 1000 := by have := HN.out; omega
      have hk0 : (0 : Int) ≤ k := by omega
      obtain ⟨R, bd, hst⟩ : ∃ R bd, (pRep pCe k s1).2 = (R, bd) := ⟨_, _, rfl⟩
      have HST := Lib.hid hst
      rw [hst] at HQ HQQ
      by_cases hlt : k < n
      · have HKN : Hid (k ≤ n) := Lib.hid (by omega)
        have HKL : Hid (k < n) := Lib.hid hlt
        obtain ⟨A', n', c', hA', hb', hy', hnc'⟩ := HQ.out.rd
        have hbc := hb'.cell 1
        simp at hbc
        clear hA' hb' hy' hnc' hst
        cases bd
        · have hkn : (k : Int) < n := by omega
          have HXC : Hid (wr.cell? ⟨gx, 3, none⟩ = some (.slice A4 k c4)) := Lib.hid (by have h := HX.out.cell 3; simpa using h)
          have HNS : Hid (¬ gx ∈ g :: bk A4) := Lib.hid (by have h1 := HGX.out; have h2 := HG.out; have h3 := HSZ.out; intro hm; rcases List.mem_cons.1 hm with h | h; omega; have := HQQ.out.new _ h; omega)
          have HPE : Hid (pRep pCe (k + 1) s1 = ((pRep pCe k s1).1 ++ [(pCe (R, false)).1], (pCe (R, false)).2)) := Lib.hid (by
            show ((pRep pCe k s1).1 ++ [(pCe (pRep pCe k s1).2).1], (pCe (pRep pCe k s1).2).2) = _
            rw [HST.out])
          clear hlt
          go_upto_region 6 with (fail)
          clear hbc
          refine wp_region_till 7 (Fr (g :: gx :: bk A4) wr) (Fr (g :: bk A4) wr) (by kernel_rfl) (Fr.drew (Fr.refl _ wr)) (Fr.drew (Fr.refl _ wr)) (fun hA hB => ?_)
          have HWD : Hid (Fr [] wr wr.drew) := Lib.hid (Fr.drew (Fr.refl [] wr))
          have HQd := Lib.hid (HQ.out.fr (Fr.drew (Fr.refl [] wr)) (by simp) (by simp))
          have HQQd := Lib.hid (HQQ.out.keep Wce.Li.keep (Fr.drew (Fr.refl [] wr)) (by simp))
          have HSd : Hid (wr.drew.heap.size = wr.heap.size ∧ wN.heap.size ≤ wr.heap.size) := Lib.hid ⟨rfl, HF.out.size⟩
          have HXd := Lib.hid (HX.out.keep (Fr.drew (Fr.refl [] wr)) (by simp))
          have HFd : Hid (Fr [g, gx] wN wr.drew) := Lib.hid (Fr.drew HF.out)
          generalize wr.drew = wd at *
          refine till_run (i := 0) (v := ?_) rfl (by kernel_rfl) (by rfl) (fun _ _ _ h => h) hA hB (fun w1 hw1 => ?_) ?_
          rotate_left 1
          · skip
            go_simp
            (try (first | with_reducible rfl | (apply And.intro <;> rfl)))
          simp only [Act.put, List.setIfInBounds_toArray, List.set_cons_zero, List.set_cons_succ]
          refine till_run (i := 1) (v := ?_) rfl (by kernel_rfl) (by rfl) (fun _ _ _ h => h) hA hB (fun w1 hw1 => ?_) ?_
          rotate_left 1
          · skip
            have hcw0 := hw1.cell (HXC.out) (by first | (simp; done) | exact HNS.out | exact HNW.out | (intro hm; have hlt := HSB.out _ hm; (try dsimp only at hlt); omega))
            go_simp
            (try (first | with_reducible rfl | (apply And.intro <;> rfl)))
          simp only [Act.put, List.setIfInBounds_toArray, List.set_cons_zero, List.set_cons_succ]
          refine till_run (i := 2) (v := ?_) rfl (by kernel_rfl) (by rfl) (fun _ _ _ h => h) hA hB (fun w1 hw1 => ?_) ?_
          rotate_left 1
          · skip
            go_simp
            (try (first | with_reducible rfl | (apply And.intro <;> rfl)))
          simp only [Act.put, List.setIfInBounds_toArray, List.set_cons_zero, List.set_cons_succ]
          refine till_call (i := 3) (f := ?_) (args := ?_) rfl (by kernel_rfl) (by rfl) ?_ ?_
          rotate_left 2
          · go_simp
            (try (first | with_reducible rfl | (apply And.intro <;> rfl)))
          refine (qCert_any wd F g _ HQd.out).mono ?_
          rintro e_ w5 ⟨y, rfl, hyc, hyok, h1, h2⟩
          have HQ5 := Lib.hid h1
          have HF5 : Hid (Fr [g] wd w5) := Lib.hid h2
          have HYC := Lib.hid hyc
          have HYOK := Lib.hid hyok
          refine ⟨_, rfl, ⟨hA.trans h2 (fun x hx _ => by simp at hx; simp [hx]), hB.trans h2 (fun x hx _ => by simp at hx; simp [hx])⟩, fun hB => ?_⟩
          replace hA := hA.trans h2 (fun x hx _ => by simp at hx; simp [hx])
          have HD : Hid ((Wce.cells y).length = 38) := Lib.hid (Wce.len (hyok [] (by simp)).k.h)
          have HD1 : Hid (∀ u ∈ Wce.cells y, u.oneCell' = true) := Lib.hid (Wce.one y)
          have HO5 := Lib.hid (own_keep HQQd.out.own h2 (fun q hq hm => by have h1 := HQQd.out.new q ((bk_mem A4 k c4 q).1 hq); have h2 := HG.out; have h3 := HSZ.out; simp at hm; omega))
          have HX5 := Lib.hid (HXd.out.keep h2 (by have h1 := HGX.out; have h2 := HG.out; simp; omega))
          clear h1 h2 hyc hyok
          obtain ⟨D, hD⟩ : ∃ D, Wce.cells y = D := ⟨_, rfl⟩
          have HDY := Lib.hid hD
          rw [hD] at HD HD1 ⊢
          clear hD
          simp only [Act.put, List.setIfInBounds_toArray, List.set_cons_zero, List.set_cons_succ]
          refine till_stepQ (i := 4) rfl (by kernel_rfl) (by rfl) (fun K hK => ?_)
          refine wp_build_one 34 32 _ rfl Try.underlying34 D 96 (by rw [HD.out]; exact el_cert) rfl (by rw [HD.out]; decide) (by rw [HD.out]; decide) ?_
          refine hK.out _ _ (hA.alloc _) (hB.alloc _) (fun hA hB => ?_)
          clear hK K
          simp only [Act.put, List.setIfInBounds_toArray, List.set_cons_zero, List.set_cons_succ]
          refine till_stepQ (i := 5) rfl (by kernel_rfl) (by rfl) (fun K hK => ?_)
          refine wp_append_oneq _ _ 34 32 rfl Try.underlying34 38 96 el_cert (by decide) 0 (.slice A4 k c4) k _ D rfl (HO5.out.alloc _) (Nat.zero_le _) HD.out HD1.out w5.heap.size 32 rfl (Blk.new _ _ _) (by have := HKL.out; have := HN.out; omega) (by decide) ?_
          intro A9 c9 w9 ho9 hf9 hb9
          rw [bk_own] at hf9
          have HF9 : Hid (Fr (bk A4) w5 w9) := Lib.hid ((((Fr.refl [] w5).alloc _).mono (by simp)).trans hf9 (fun x hx _ => hx))
          have HB9 : Hid (∀ q ∈ bk A9, q ∈ bk A4 ∨ w5.heap.size ≤ q) := Lib.hid (by
            intro q hq
            rw [← bk_own A9 (k + 1) c9] at hq
            rcases hb9 with h | h
            · rw [h, bk_own] at hq; exact .inl hq
            · rw [h] at hq; simp at hq; exact .inr (by omega))
          have HO9 := Lib.hid ho9
          refine hK.out _ _ (hA.trans hf9 (fun x hx _ => by simp [hx])) (hB.trans hf9 (fun x hx _ => by simp [hx])) (fun hA hB => ?_)
          clear hK K ho9 hf9 hb9
          have HX9 := Lib.hid (HX5.out.keep HF9.out (fun hm => HNS.out (by simp [hm])))
          have HGS := Lib.hid (HQQd.out.step Wce.Li.keep (y' := (pCe (R, false)).1) (bad' := (pCe (R, false)).2.2) (by have := HKL.out; have := HN.out; omega) (by have := HSZ.out; have := HG.out; omega) (by have := HSd.out; omega) HF5.out HYOK.out (fun hb => ⟨rfl, HYC.out hb⟩) (by have h := HO9.out; rw [← HDY.out] at h; exact h) HF9.out HB9.out)
          simp only [Act.put, List.setIfInBounds_toArray, List.set_cons_zero, List.set_cons_succ]
          refine till_stepQ (i := 6) rfl (by kernel_rfl) (by rfl) (fun K hK => ?_)
          refine wp_run (v := ?_) (w' := ?_) ?_ ?_
          rotate_left 2
          · go_simp
            (try (first | with_reducible rfl | (apply And.intro <;> rfl)))
          refine hK.out _ _ hA hB (fun hA hB => ?_)
          clear hK K
          simp only [Act.put, List.setIfInBounds_toArray, List.set_cons_zero, List.set_cons_succ]
          refine till_step (i := 7) rfl (by kernel_rfl) (by kernel_rfl) (by rfl) (fun K hK => ?_)
          refine wp_store_at 34 _ _ rfl gx 3 (.slice A9 (k + 1) c9) rfl rfl rfl 36 _ HX9.out (by simp) (by kernel_rfl) ?_
          have hb7 : Blk (w9.setCells gx 3 [.slice A9 (k + 1) c9]) gx 36 #[.int .i64 r0, .int .i64 e0, .int .u64 (t0 : Int), .slice A9 (k + 1) c9, .int .i64 0, .int .i64 0] := Blk.mid_at [.slice A9 (k + 1) c9] [.slice A4 k c4] [.int .i64 r0, .int .i64 e0, .int .u64 (t0 : Int)] [.int .i64 0, .int .i64 0] 3 rfl rfl _ _ rfl rfl HX9.out
          have HB7 := Lib.hid hb7
          have HF7 : Hid (Fr [gx] w9 (w9.setCells gx 3 [.slice A9 (k + 1) c9])) := Lib.hid (Fr.setCells (fun _ => by simp) _ _ _ (Fr.refl _ _))
          refine hK.out _ _ (hA.trans HF7.out (fun q hq _ => by simp at hq; simp [hq])) (fun hA => ?_)
          clear hK K hb7
          generalize w9.setCells gx 3 [.slice A9 (k + 1) c9] = w10 at *
          simp only [Act.put, List.setIfInBounds_toArray, List.set_cons_zero, List.set_cons_succ]
          refine till_done (by kernel_rfl) ?_ _
          have HG10 := Lib.hid (HGS.out.keep Wce.Li.keep HF7.out (by intro q hq; simp at hq; subst hq; exact HSZ.out.2))
          have HFF : Hid (Fr [g, gx] wN w10) := Lib.hid (((HFd.out.trans HF5.out (fun x hx _ => by simp at hx; simp [hx])).trans HF9.out (fun x hx hl => by have := HQQd.out.new x hx; omega)).trans HF7.out (fun x hx _ => by simp at hx; simp [hx]))
          have HQ10 := Lib.hid ((HQ5.out.fr HF9.out (fun hm => by have h1 := HQQd.out.new _ hm; have h2 := HG.out; have h3 := HSZ.out; omega) (fun q hq hm => by have h1 := HQQd.out.new q hm; have h2 := HFL.out q hq; have h3 := HSZ.out; omega)).fr HF7.out (by have h1 := HGX.out; have h2 := HG.out; simp; omega) (fun q hq hm => by have h1 := HGX.out; have h2 := HFL.out q hq; simp at hm; omega))
          clear hA
          go_wp2
          go_roundw
          case rel => exact ⟨k + 1, A9, c9, ys ++ [y], by have := HKL.out; omega, by go_num, by rw [HPE.out]; exact HG10, HB7, by rw [HPE.out]; exact HQ10, HFF⟩
          case measure => have := HKL.out; simp [intOf]; omega
        · skip
          have HEND : Hid (pRep pCe n s1 = ((pRep pCe n s1).1, ([], true))) := Lib.hid (by
            have h3 : R = [] := HQ.out.bz rfl
            have h2 := HST.out
            rw [h3] at h2
            have h4 := pRep_stop pCe_stop h2 (n - k)
            rw [show k + (n - k) = n by have := HKL.out; omega] at h4
            rw [← h4])
          have HRE : Hid (R = []) := Lib.hid (HQ.out.bz rfl)
          rw [HRE.out] at HQ
          have HGF : Hid (GQ 32 38 Wce.cells (fun w S v => v.Li w S) Wce.con wN.heap.size wr A4 k c4 ys (pL pCe s0).1 (pL pCe s0).2.2) := Lib.hid (by rw [HPL.out, HEND.out]; exact HQQ.out.fail)
          have HQF : Hid (Qs wr F g (pL pCe s0).2) := Lib.hid (by rw [HPL.out, HEND.out]; exact HQ.out)
          have hkn : (k : Int) < n := by omega
          clear hlt
          go_wp2_with fail
          all_goals
            go_meet
            exact ⟨A4, k, c4, ys, HGF, HX, HQF, HF⟩
      · have hkn : n = k := by omega
        subst hkn
        have HGF : Hid (GQ 32 38 Wce.cells (fun w S v => v.Li w S) Wce.con wN.heap.size wr A4 n c4 ys (pL pCe s0).1 (pL pCe s0).2.2) := Lib.hid (by rw [HPL.out, HST.out]; exact HQQ.out)
        have HQF : Hid (Qs wr F g (pL pCe s0).2) := Lib.hid (by rw [HPL.out, HST.out]; exact HQ.out)
        clear hlt hk hst
        go_wp2_with fail
        all_goals
          go_meet
          exact ⟨A4, n, c4, ys, HGF, HX, HQF, HF⟩
  case rest =>
    obtain ⟨A4, m4, c4, ys, HGQ, HX, HQ, HF⟩ := hcut
    rename World => wx
    have HBx : Hid (Blk wx w.heap.size 36 (Wpr.cells ⟨0, 0, 0, none, 0, 0, [], 0, 0⟩).toArray) := Lib.hid ((HB4.out.keep HFn.out (by have := HG.out; simp; omega)).keep HF.out (by have := HG.out; have := HGX.out; simp; omega))
    clear HPL HN HRn HXn
    go_wp2_with fail
    refine (qSig_any HQ.out).mono ?_
    rintro e_ w6 ⟨rfl, h1, h2⟩
    have HR6 := Lib.hid h1
    have HF6 : Hid (Fr [g] wx w6) := Lib.hid h2
    have HX6 := Lib.hid (HX.out.keep h2 (by have h1 := HGX.out; have h2 := HG.out; simp; omega))
    have HB6 := Lib.hid (HBx.out.keep h2 (by have h2 := HG.out; simp; omega))
    have HGQ6 := Lib.hid (HGQ.out.keep Wce.Li.keep h2 (by intro q hq; simp at hq; subst hq; have := HSZ.out; have := HG.out; omega))
    have HIB : Hid (i64In (p2 (pL pCe s0).2).1.1 ∧ i64In (p2 (pL pCe s0).2).1.2) := Lib.hid ⟨pI_in _, pI_in _⟩
    have HBD : Hid ((p2 (pL pCe s0).2).2.2 = false → (pL pCe s0).2.2 = false) := Lib.hid p2_bad
    clear h1 h2 HQ HX HGQ HBx
    generalize (p2 (pL pCe s0).2).1.1 = b0 at *
    generalize (p2 (pL pCe s0).2).1.2 = mk0 at *
    generalize (p2 (pL pCe s0).2).2 = s9 at *
    have hb7 : Blk (w6.setCells gx 4 [.int .i64 b0, .int .i64 mk0]) gx 36 (Wpr.cells ⟨r0, e0, t0, A4, m4, c4, ys, b0, mk0⟩).toArray := Blk.mid_at [.int .i64 b0, .int .i64 mk0] [.int .i64 0, .int .i64 0] [.int .i64 r0, .int .i64 e0, .int .u64 (t0 : Int), .slice A4 m4 c4] [] 4 rfl rfl _ _ rfl rfl HX6.out
    have HF7 : Hid (Fr [gx] w6 (w6.setCells gx 4 [.int .i64 b0, .int .i64 mk0])) := Lib.hid (Fr.setCells (fun _ => by simp) _ _ _ (Fr.refl _ _))
    obtain ⟨V, hV⟩ : ∃ V, Wpr.cells ⟨r0, e0, t0, A4, m4, c4, ys, b0, mk0⟩ = V := ⟨_, rfl⟩
    have HVL : Hid (V.length = 6) := Lib.hid (by rw [← hV]; rfl)
    have HVO : Hid (V.toArray.all (·.oneCell') = true) := Lib.hid (by rw [← hV]; exact all_oneCell_toArray (Wpr.one _))
    rw [hV] at hb7
    have HB7 := Lib.hid hb7
    have HVV := Lib.hid hV
    have HVT : Hid ((Try.prog.info? 36).map (·.size) = some V.toArray.size) := Lib.hid (by rw [List.size_toArray, HVL.out]; kernel_rfl)
    have HBW := Lib.hid (HB6.out.keep HF7.out (by have h1 := HGX.out; simp; omega))
    have HR7 := Lib.hid (HR6.out.fr HF7.out (by have h1 := HGX.out; have h2 := HG.out; simp; omega) (fun q hq hm => by have h1 := HGX.out; have h2 := HFL.out q hq; simp at hm; omega))
    have HGQ7 := Lib.hid (HGQ6.out.keep Wce.Li.keep HF7.out (by intro q hq; simp at hq; subst hq; exact HSZ.out.2))
    have HTH : Hid (w6.there gx 4 2) := Lib.hid (HX6.out.there 4 2 (by simp))
    clear hb7 hV HB6 HR6 HGQ6
    go_wp2_with (first
      | (refine wpList_store_mid rfl 27 _ _ rfl gx 4 #[.int .i64 b0, .int .i64 mk0] rfl rfl HTH.out (by kernel_rfl) (by kernel_rfl) ?_
         rw [show (#[Value.int .i64 b0, .int .i64 mk0] : Array Value).toList = [.int .i64 b0, .int .i64 mk0] from rfl])
      | (refine wpList_row rfl 36 _ rfl _ _ rfl _ HB7.out.range (row_prm.of HVL.out) ?_)
      | (refine wpList_store_blk rfl 36 _ _ rfl w.heap.size V.toArray rfl rfl 36 (Wpr.cells ⟨0, 0, 0, none, 0, 0, [], 0, 0⟩).toArray HBW.out HVT.out (by simp only [List.size_toArray]; rw [HVL.out]; rfl) HVO.out ?_
         intro w9 hb hf
         have HB9 := Lib.hid hb
         have HF9 := Lib.hid hf
         clear hb hf))
    have HGQ9 := Lib.hid (HGQ7.out.keep Wce.Li.keep HF9.out (by intro q hq; simp at hq; subst hq; have := HSZ.out; have := HGX.out; omega))
    refine bodyPost_ret (v := .agg V.toArray) (results_cell_row Try.results54 _ _ w.heap.size 36 V.toArray _ _ rfl HB9.out Try.underlying36 rfl HVT.out) rfl ⟨⟨r0, e0, t0, A4, m4, c4, ys, b0, mk0⟩, by rw [HVV.out], ?_, fun S0 h0 => ?_, ?_, ?_⟩
    · rw [HPC.out]
      intro hbad
      have h1 := HGQ9.out.con (HBD.out hbad)
      unfold Wpr.con
      simp only [h1]
    · obtain ⟨h1, h2⟩ := HGQ9.out.lst (fun _ _ _ h => Wce.len h.k.h) (S0 := S0) (fun q hq => by have h1 := h0 q hq; have h2 := HSZ.out; omega)
      exact ⟨HIN.out.1, HIN.out.2.1, HIN.out.2.2, h1, HGQ9.out.few, h2, HIB.out.1, HIB.out.2⟩
    · rw [HPC.out]
      exact HR7.out.fr HF9.out (by have := HG.out; simp; omega) (fun q hq hm => by have := HFL.out q hq; simp at hm; omega)
    · exact ((((HF4.out.trans HFn.out (fun x hx _ => hx)).trans HF.out (fun x hx hl => by have h1 := HGX.out; simp at hx; simp; omega)).trans HF6.out (fun x hx _ => hx)).trans HF7.out (fun x hx hl => by have h1 := HGX.out; simp at hx; omega)).trans HF9.out (fun x hx hl => by simp at hx; omega)
end Go.Proofs.Ytkofmefnlppoaaa

namespace Go.Proofs.Ytkofmefnlppoaaa
open Go.RowKit
set_option maxRecDepth 100000
theorem pC_badQ {s : Ps} (h : (pC s).2.2 = false) : s.2 = false := by
  obtain ⟨R, b⟩ := s
  cases b
  · rfl
  · have h1 : inB R 100 true = false := h
    rw [inB_bad] at h1
    cases h1
theorem pN_badQ {s : Ps} (h : (pN s).2.2 = false) : s.2 = false := by
  obtain ⟨R, b⟩ := s
  cases b
  · rfl
  · have h1 : rdB R true = false := h
    unfold rdB at h1
    cases hd : dec R <;> rw [hd] at h1 <;> cases h1
theorem pH_badQ {s : Ps} (h : (pH s).2.2 = false) : s.2 = false := by
  obtain ⟨R, b⟩ := s
  cases b
  · rfl
  · have h1 : tookB R true = false := h
    unfold tookB at h1
    split at h1 <;> cases h1
theorem pR_badQ {s : Ps} (h : (pR s).2.2 = false) : s.2 = false := by
  obtain ⟨R, b⟩ := s
  cases b
  · rfl
  · have h1 : rwB R 256 true = false := h
    unfold rwB at h1
    cases hd : dec R with
    | none => rw [hd] at h1; cases h1
    | some p => rw [hd] at h1; simp only at h1; split at h1 <;> cases h1
theorem pRep_badQ {α : Type} {p : Ps → α × Ps} (hp : ∀ {s}, (p s).2.2 = false → s.2 = false) : ∀ (n : Nat) {s : Ps}, (pRep p n s).2.2 = false → s.2 = false
  | 0, _, h => h
  | n + 1, _, h => pRep_badQ hp n (hp h)
theorem pL_badQ {α : Type} {p : Ps → α × Ps} (hp : ∀ {s}, (p s).2.2 = false → s.2 = false) {s : Ps} (h : (pL p s).2.2 = false) : s.2 = false := pC_badQ (pRep_badQ hp _ h)
theorem pOp_badQ {s : Ps} (h : (pOp s).2.2 = false) : s.2 = false := pI_bad (pR_badQ (pH_badQ h))
theorem pDn_badQ {s : Ps} (h : (pDn s).2.2 = false) : s.2 = false := pI_bad (pI_bad (p2_bad h))
theorem pTb_badQ {s : Ps} (h : (pTb s).2.2 = false) : s.2 = false := pI_bad (pL_badQ pDn_badQ h)
theorem qOpeningI_any : QItem 93 Wop.cells (fun w S v => v.Ok w S) Wop.con pOp := fun w F g s hr => (qOpening_any w F g s hr).mono fun _ _ ⟨v, h1, h2, h3, h4, h5⟩ => ⟨v, h1, fun _ => h2, h3, h4, h5⟩
theorem qDenyI_any : QItem 94 Wdn.cells (fun _ _ v => v.Ok) id pDn := qitem_of (fun _ _ _ _ hr => qDeny_any hr) pDn_ok
theorem built_baQ (e : Int) (t : Nat) : Try.prog.built 41 [(0, .int .i64 e), (1, .int .u64 (t : Int))] = some #[.int .i64 e, .int .u64 (t : Int), .slice none 0 0, .slice none 0 0, .slice none 0 0] := by kernel_rfl
theorem built_tbQ (i : Int) : Try.prog.built 108 [(0, .int .i64 i)] = some #[.int .i64 i, .slice none 0 0] := by kernel_rfl
theorem row_tmQ : RowTy Try.prog 108 2 := ⟨by kernel_rfl, by kernel_rfl⟩
def zBaL : List Value := [.int .i64 0, .int .u64 0, .slice none 0 0, .slice none 0 0, .slice none 0 0]
def zTbL : List Value := [.int .i64 0, .slice none 0 0]

set_option maxHeartbeats 8000000 in
theorem qBatch_any : QItem 59 Wba.cells (fun w S v => v.Li w S) Wba.con pBa := by
  intro w F g s hr
  obtain ⟨wa, hwa⟩ : ∃ wa, wa = w.alloc (Obj.cells zBaL.toArray 41) := ⟨_, rfl⟩
  have hf0 : Fr [] w wa := by rw [hwa]; exact (Fr.refl [] w).alloc _
  have HB : Hid (Blk wa w.heap.size 41 zBaL.toArray) := Lib.hid (by rw [hwa]; exact Blk.new _ _ _)
  have HR := Lib.hid (hr.fr hf0 (by simp) (by simp))
  have HFL : Hid (∀ k ∈ F, k < w.heap.size) := Lib.hid hr.lt
  have HG : Hid (g < w.heap.size) := Lib.hid hr.gt
  have HF0 := Lib.hid hf0
  have HWA := Lib.hid hwa
  clear hwa hf0 hr
  go_enter Try.func59, Try.ntmps59
  go_upto_region 1 with (fail)
  change Code.wp _ _ _ _ (w.alloc (Obj.cells zBaL.toArray 41))
  rw [← HWA.out]
  go_wp2_with fail
  refine (qInt_any HR.out).mono ?_
  rintro e_ w1 ⟨rfl, h1, h2⟩
  have HR1 := Lib.hid h1
  have HF1 : Hid (Fr [g] wa w1) := Lib.hid h2
  clear h1 h2
  go_wp2_with fail
  refine (qNum_any HR1.out).mono ?_
  rintro e_ w3 ⟨rfl, h1, h2⟩
  have HR3 := Lib.hid h1
  have HF3 : Hid (Fr [g] wa w3) := Lib.hid (HF1.out.trans h2 (fun x hx _ => hx))
  clear h1 h2
  have HPC : Hid (pBa s = (⟨(pI s).1, (pN (pI s).2).1, (pL pPr (pN (pI s).2).2).1, (pL pOp (pL pPr (pN (pI s).2).2).2).1, (pL pTb (pL pOp (pL pPr (pN (pI s).2).2).2).2).1⟩, (pL pTb (pL pOp (pL pPr (pN (pI s).2).2).2).2).2)) := Lib.hid rfl
  have HIN : Hid (i64In (pI s).1 ∧ (pN (pI s).2).1 < 18446744073709551616) := Lib.hid ⟨pI_in _, pN_lt _⟩
  have HB3 := Lib.hid (HB.out.keep HF3.out (by have := HG.out; simp; omega))
  clear HR1
  generalize (pN (pI s).2).2 = s0 at *
  generalize (pN (pI s).2).1 = t0 at *
  generalize (pI s).1 = e0 at *
  have HBU := Lib.hid (built_baQ e0 t0)
  have HBN : Hid (Blk (w3.alloc (Obj.cells zBaL.toArray 41)) w3.heap.size 41 zBaL.toArray) := Lib.hid (Blk.new _ _ _)
  obtain ⟨CV, hCV⟩ : ∃ CV, (#[.int .i64 e0, .int .u64 (t0 : Int), .slice none 0 0, .slice none 0 0, .slice none 0 0] : Array Value) = CV := ⟨_, rfl⟩
  have HC0 : Hid (CV.size = 5) := Lib.hid (by rw [← hCV]; rfl)
  have HC1 : Hid (CV.all (·.oneCell') = true) := Lib.hid (by rw [← hCV]; exact all_oneCell_toArray (Wba.one ⟨e0, t0, none, 0, 0, [], none, 0, 0, [], none, 0, 0, []⟩))
  have HCT : Hid ((Try.prog.info? 41).map (·.size) = some CV.size) := Lib.hid (by rw [HC0.out]; kernel_rfl)
  rw [hCV] at HBU
  have HCV := Lib.hid hCV
  clear hCV
  go_upto_region 2 with (first
    | (refine wpList_builtg rfl 41 _ rfl _ _ HBU.out rfl ?_)
    | (refine wpList_store_blk rfl 41 _ _ rfl w3.heap.size CV rfl rfl 41 zBaL.toArray HBN.out HCT.out (by rw [HC0.out]; rfl) HC1.out ?_
       intro w4 hb hf
       have HX4 := Lib.hid hb
       have HF34 : Hid (Fr [] w3 w4) := Lib.hid (((Fr.refl [] w3).alloc _).and hf (by simp))
       clear hb hf))
  obtain ⟨gx, hgx⟩ : ∃ gx, gx = w3.heap.size := ⟨_, rfl⟩
  rw [← hgx] at HX4 ⊢
  have HGX : Hid (w.heap.size < gx ∧ gx < w4.heap.size ∧ w3.heap.size ≤ gx) := Lib.hid (by have h1 := HB.out.lt; have h2 := HF3.out.size; have h3 := HX4.out.lt; omega)
  have HR4 := Lib.hid (HR3.out.fr HF34.out (by simp) (by simp))
  have HB4 := Lib.hid (HB3.out.keep HF34.out (by simp))
  have HF4 : Hid (Fr [g] w w4) := Lib.hid (((HF0.out.mono (T := [g]) (by simp)).trans HF3.out (fun x hx _ => hx)).trans (HF34.out.mono (by simp)) (fun x hx _ => hx))
  rw [← HCV.out] at HX4
  clear hgx HBN HBU HC0 HC1 HCT HCV HF34 HF1 HF3 HF0 HR HR3 HB HB3 HWA
  go_wp2_with fail
  refine (qCount_any HR4.out).mono ?_
  rintro e_ wN1 ⟨rfl, h1, h2⟩
  have HRn1 := Lib.hid h1
  have HFn1 : Hid (Fr [g] w4 wN1) := Lib.hid h2
  have HXn1 := Lib.hid (HX4.out.keep h2 (by have h1 := HGX.out; have h2 := HG.out; simp; omega))
  have HPL1 : Hid (pL pPr s0 = pRep pPr (pC s0).1 (pC s0).2) := Lib.hid rfl
  have hn := pC_le s0
  clear h1 h2
  generalize (pC s0).1 = n1 at *
  generalize (pC s0).2 = s11 at *
  have HN1 := Lib.hid hn
  have HSZ1 : Hid (w.heap.size ≤ wN1.heap.size ∧ gx < wN1.heap.size) := Lib.hid (by have h1 := HGX.out; have h2 := HFn1.out.size; omega)
  clear hn HR4 HX4
  go_upto_block 0 with (fail)
  go_cut [5] (fun s_ wx => ∃ (A : Option Addr) (m c : Nat) (ys : List Wpr), Hid (GQ 36 6 Wpr.cells (fun w S v => v.Li w S) Wpr.con wN1.heap.size wx A m c ys (pL pPr s0).1 (pL pPr s0).2.2) ∧ Hid (Blk wx gx 41 #[.int .i64 e0, .int .u64 (t0 : Int), .slice A m c, .slice none 0 0, .slice none 0 0]) ∧ Hid (Qs wx F g (pL pPr s0).2) ∧ Hid (Fr [g, gx] wN1 wx))
  case first =>
    go_wp2_with fail
    go_loopw [5] (fun i wr => ∃ (k : Nat) (A : Option Addr) (c : Nat) (ys : List Wpr), k ≤ n1 ∧ i = .int .i64 k ∧ Hid (GQ 36 6 Wpr.cells (fun w S v => v.Li w S) Wpr.con wN1.heap.size wr A k c ys (pRep pPr k s11).1 (pRep pPr k s11).2.2) ∧ Hid (Blk wr gx 41 #[.int .i64 e0, .int .u64 (t0 : Int), .slice A k c, .slice none 0 0, .slice none 0 0]) ∧ Hid (Qs wr F g (pRep pPr k s11).2) ∧ Hid (Fr [g, gx] wN1 wr)) (fun i _ => n1 - (intOf i).toNat)
    case atStart => exact ⟨0, none, 0, [], by omega, rfl, Lib.hid (GQ.nil _), HXn1, HRn1, Lib.hid (Fr.refl _ _)⟩
    case round =>
      obtain ⟨k, A4, c4, ys, hk, rfl, HQQ, HX, HQ, HF⟩ := hrel
      have hkS : (k : Int) + 1 ≤ 1000 := by have := HN1.out; omega
      have hk0 : (0 : Int) ≤ k := by omega
      obtain ⟨R, bd, hst⟩ : ∃ R bd, (pRep pPr k s11).2 = (R, bd) := ⟨_, _, rfl⟩
      have HST := Lib.hid hst
      rw [hst] at HQ HQQ
      by_cases hlt : k < n1
      · have HKN : Hid (k ≤ n1) := Lib.hid (by omega)
        have HKL : Hid (k < n1) := Lib.hid hlt
        obtain ⟨A', n', c', hA', hb', hy', hnc'⟩ := HQ.out.rd
        have hbc := hb'.cell 1
        simp at hbc
        clear hA' hb' hy' hnc' hst
        cases bd
        · have hkn : (k : Int) < n1 := by omega
          have HXC : Hid (wr.cell? ⟨gx, 2, none⟩ = some (.slice A4 k c4)) := Lib.hid (by have h := HX.out.cell 2; simpa using h)
          have HNS : Hid (¬ gx ∈ g :: bk A4) := Lib.hid (by have h1 := HGX.out; have h2 := HG.out; have h3 := HSZ1.out; intro hm; rcases List.mem_cons.1 hm with h | h; omega; have := HQQ.out.new _ h; omega)
          have HPE : Hid (pRep pPr (k + 1) s11 = ((pRep pPr k s11).1 ++ [(pPr (R, false)).1], (pPr (R, false)).2)) := Lib.hid (by
            show ((pRep pPr k s11).1 ++ [(pPr (pRep pPr k s11).2).1], (pPr (pRep pPr k s11).2).2) = _
            rw [HST.out])
          clear hlt
          go_upto_region 6 with (fail)
          clear hbc
          refine wp_region_till 7 (Fr (g :: gx :: bk A4) wr) (Fr (g :: bk A4) wr) (by kernel_rfl) (Fr.drew (Fr.refl _ wr)) (Fr.drew (Fr.refl _ wr)) (fun hA hB => ?_)
          have HWD : Hid (Fr [] wr wr.drew) := Lib.hid (Fr.drew (Fr.refl [] wr))
          have HQd := Lib.hid (HQ.out.fr (Fr.drew (Fr.refl [] wr)) (by simp) (by simp))
          have HQQd := Lib.hid (HQQ.out.keep Wpr.Li.keep (Fr.drew (Fr.refl [] wr)) (by simp))
          have HSd : Hid (wr.drew.heap.size = wr.heap.size ∧ wN1.heap.size ≤ wr.heap.size) := Lib.hid ⟨rfl, HF.out.size⟩
          have HXd := Lib.hid (HX.out.keep (Fr.drew (Fr.refl [] wr)) (by simp))
          have HFd : Hid (Fr [g, gx] wN1 wr.drew) := Lib.hid (Fr.drew HF.out)
          generalize wr.drew = wd at *
          refine till_run (i := 0) (v := ?_) rfl (by kernel_rfl) (by rfl) (fun _ _ _ h => h) hA hB (fun w1 hw1 => ?_) ?_
          rotate_left 1
          · skip
            go_simp
            (try (first | with_reducible rfl | (apply And.intro <;> rfl)))
          simp only [Act.put, List.setIfInBounds_toArray, List.set_cons_zero, List.set_cons_succ]
          refine till_run (i := 1) (v := ?_) rfl (by kernel_rfl) (by rfl) (fun _ _ _ h => h) hA hB (fun w1 hw1 => ?_) ?_
          rotate_left 1
          · skip
            have hcw0 := hw1.cell (HXC.out) (by first | (simp; done) | exact HNS.out | exact HNW.out | (intro hm; have hlt := HSB.out _ hm; (try dsimp only at hlt); omega))
            go_simp
            (try (first | with_reducible rfl | (apply And.intro <;> rfl)))
          simp only [Act.put, List.setIfInBounds_toArray, List.set_cons_zero, List.set_cons_succ]
          refine till_run (i := 2) (v := ?_) rfl (by kernel_rfl) (by rfl) (fun _ _ _ h => h) hA hB (fun w1 hw1 => ?_) ?_
          rotate_left 1
          · skip
            go_simp
            (try (first | with_reducible rfl | (apply And.intro <;> rfl)))
          simp only [Act.put, List.setIfInBounds_toArray, List.set_cons_zero, List.set_cons_succ]
          refine till_call (i := 3) (f := ?_) (args := ?_) rfl (by kernel_rfl) (by rfl) ?_ ?_
          rotate_left 2
          · go_simp
            (try (first | with_reducible rfl | (apply And.intro <;> rfl)))
          refine (qPromise_any wd F g _ HQd.out).mono ?_
          rintro e_ w5 ⟨y, rfl, hyc, hyok, h1, h2⟩
          have HQ5 := Lib.hid h1
          have HF5 : Hid (Fr [g] wd w5) := Lib.hid h2
          have HYC := Lib.hid hyc
          have HYOK := Lib.hid hyok
          refine ⟨_, rfl, ⟨hA.trans h2 (fun x hx _ => by simp at hx; simp [hx]), hB.trans h2 (fun x hx _ => by simp at hx; simp [hx])⟩, fun hB => ?_⟩
          replace hA := hA.trans h2 (fun x hx _ => by simp at hx; simp [hx])
          have HD : Hid ((Wpr.cells y).length = 6) := Lib.hid (rfl)
          have HD1 : Hid (∀ u ∈ Wpr.cells y, u.oneCell' = true) := Lib.hid (Wpr.one y)
          have HO5 := Lib.hid (own_keep HQQd.out.own h2 (fun q hq hm => by have h1 := HQQd.out.new q ((bk_mem A4 k c4 q).1 hq); have h2 := HG.out; have h3 := HSZ1.out; simp at hm; omega))
          have HX5 := Lib.hid (HXd.out.keep h2 (by have h1 := HGX.out; have h2 := HG.out; simp; omega))
          clear h1 h2 hyc hyok
          obtain ⟨D, hD⟩ : ∃ D, Wpr.cells y = D := ⟨_, rfl⟩
          have HDY := Lib.hid hD
          rw [hD] at HD HD1 ⊢
          clear hD
          simp only [Act.put, List.setIfInBounds_toArray, List.set_cons_zero, List.set_cons_succ]
          refine till_stepQ (i := 4) rfl (by kernel_rfl) (by rfl) (fun K hK => ?_)
          refine wp_build_one 37 36 _ rfl Try.underlying37 D 64 (by rw [HD.out]; exact el_prm) rfl (by rw [HD.out]; decide) (by rw [HD.out]; decide) ?_
          refine hK.out _ _ (hA.alloc _) (hB.alloc _) (fun hA hB => ?_)
          clear hK K
          simp only [Act.put, List.setIfInBounds_toArray, List.set_cons_zero, List.set_cons_succ]
          refine till_stepQ (i := 5) rfl (by kernel_rfl) (by rfl) (fun K hK => ?_)
          refine wp_append_oneq _ _ 37 36 rfl Try.underlying37 6 64 el_prm (by decide) 0 (.slice A4 k c4) k _ D rfl (HO5.out.alloc _) (Nat.zero_le _) HD.out HD1.out w5.heap.size 36 rfl (Blk.new _ _ _) (by have := HKL.out; have := HN1.out; omega) (by decide) ?_
          intro A9 c9 w9 ho9 hf9 hb9
          rw [bk_own] at hf9
          have HF9 : Hid (Fr (bk A4) w5 w9) := Lib.hid ((((Fr.refl [] w5).alloc _).mono (by simp)).trans hf9 (fun x hx _ => hx))
          have HB9 : Hid (∀ q ∈ bk A9, q ∈ bk A4 ∨ w5.heap.size ≤ q) := Lib.hid (by
            intro q hq
            rw [← bk_own A9 (k + 1) c9] at hq
            rcases hb9 with h | h
            · rw [h, bk_own] at hq; exact .inl hq
            · rw [h] at hq; simp at hq; exact .inr (by omega))
          have HO9 := Lib.hid ho9
          refine hK.out _ _ (hA.trans hf9 (fun x hx _ => by simp [hx])) (hB.trans hf9 (fun x hx _ => by simp [hx])) (fun hA hB => ?_)
          clear hK K ho9 hf9 hb9
          have HX9 := Lib.hid (HX5.out.keep HF9.out (fun hm => HNS.out (by simp [hm])))
          have HGS := Lib.hid (HQQd.out.step Wpr.Li.keep (y' := (pPr (R, false)).1) (bad' := (pPr (R, false)).2.2) (by have := HKL.out; have := HN1.out; omega) (by have := HSZ1.out; have := HG.out; omega) (by have := HSd.out; omega) HF5.out HYOK.out (fun hb => ⟨rfl, HYC.out hb⟩) (by have h := HO9.out; rw [← HDY.out] at h; exact h) HF9.out HB9.out)
          simp only [Act.put, List.setIfInBounds_toArray, List.set_cons_zero, List.set_cons_succ]
          refine till_stepQ (i := 6) rfl (by kernel_rfl) (by rfl) (fun K hK => ?_)
          refine wp_run (v := ?_) (w' := ?_) ?_ ?_
          rotate_left 2
          · go_simp
            (try (first | with_reducible rfl | (apply And.intro <;> rfl)))
          refine hK.out _ _ hA hB (fun hA hB => ?_)
          clear hK K
          simp only [Act.put, List.setIfInBounds_toArray, List.set_cons_zero, List.set_cons_succ]
          refine till_step (i := 7) rfl (by kernel_rfl) (by kernel_rfl) (by rfl) (fun K hK => ?_)
          refine wp_store_at 37 _ _ rfl gx 2 (.slice A9 (k + 1) c9) rfl rfl rfl 41 _ HX9.out (by simp) (by kernel_rfl) ?_
          have hb7 : Blk (w9.setCells gx 2 [.slice A9 (k + 1) c9]) gx 41 #[.int .i64 e0, .int .u64 (t0 : Int), .slice A9 (k + 1) c9, .slice none 0 0, .slice none 0 0] := Blk.mid_at [.slice A9 (k + 1) c9] [.slice A4 k c4] [.int .i64 e0, .int .u64 (t0 : Int)] [.slice none 0 0, .slice none 0 0] 2 rfl rfl _ _ rfl rfl HX9.out
          have HB7 := Lib.hid hb7
          have HF7 : Hid (Fr [gx] w9 (w9.setCells gx 2 [.slice A9 (k + 1) c9])) := Lib.hid (Fr.setCells (fun _ => by simp) _ _ _ (Fr.refl _ _))
          refine hK.out _ _ (hA.trans HF7.out (fun q hq _ => by simp at hq; simp [hq])) (fun hA => ?_)
          clear hK K hb7
          generalize w9.setCells gx 2 [.slice A9 (k + 1) c9] = w10 at *
          simp only [Act.put, List.setIfInBounds_toArray, List.set_cons_zero, List.set_cons_succ]
          refine till_done (by kernel_rfl) ?_ _
          have HG10 := Lib.hid (HGS.out.keep Wpr.Li.keep HF7.out (by intro q hq; simp at hq; subst hq; exact HSZ1.out.2))
          have HFF : Hid (Fr [g, gx] wN1 w10) := Lib.hid (((HFd.out.trans HF5.out (fun x hx _ => by simp at hx; simp [hx])).trans HF9.out (fun x hx hl => by have := HQQd.out.new x hx; omega)).trans HF7.out (fun x hx _ => by simp at hx; simp [hx]))
          have HQ10 := Lib.hid ((HQ5.out.fr HF9.out (fun hm => by have h1 := HQQd.out.new _ hm; have h2 := HG.out; have h3 := HSZ1.out; omega) (fun q hq hm => by have h1 := HQQd.out.new q hm; have h2 := HFL.out q hq; have h3 := HSZ1.out; omega)).fr HF7.out (by have h1 := HGX.out; have h2 := HG.out; simp; omega) (fun q hq hm => by have h1 := HGX.out; have h2 := HFL.out q hq; simp at hm; omega))
          clear hA
          go_wp2
          go_roundw
          case rel => exact ⟨k + 1, A9, c9, ys ++ [y], by have := HKL.out; omega, by go_num, by rw [HPE.out]; exact HG10, HB7, by rw [HPE.out]; exact HQ10, HFF⟩
          case measure => have := HKL.out; simp [intOf]; omega
        · skip
          have HEND : Hid (pRep pPr n1 s11 = ((pRep pPr n1 s11).1, ([], true))) := Lib.hid (by
            have h3 : R = [] := HQ.out.bz rfl
            have h2 := HST.out
            rw [h3] at h2
            have h4 := pRep_stop pPr_stop h2 (n1 - k)
            rw [show k + (n1 - k) = n1 by have := HKL.out; omega] at h4
            rw [← h4])
          have HRE : Hid (R = []) := Lib.hid (HQ.out.bz rfl)
          rw [HRE.out] at HQ
          have HGF : Hid (GQ 36 6 Wpr.cells (fun w S v => v.Li w S) Wpr.con wN1.heap.size wr A4 k c4 ys (pL pPr s0).1 (pL pPr s0).2.2) := Lib.hid (by rw [HPL1.out, HEND.out]; exact HQQ.out.fail)
          have HQF : Hid (Qs wr F g (pL pPr s0).2) := Lib.hid (by rw [HPL1.out, HEND.out]; exact HQ.out)
          have hkn : (k : Int) < n1 := by omega
          clear hlt
          go_wp2_with fail
          all_goals
            go_meet
            exact ⟨A4, k, c4, ys, HGF, HX, HQF, HF⟩
      · have hkn : n1 = k := by omega
        subst hkn
        have HGF : Hid (GQ 36 6 Wpr.cells (fun w S v => v.Li w S) Wpr.con wN1.heap.size wr A4 n1 c4 ys (pL pPr s0).1 (pL pPr s0).2.2) := Lib.hid (by rw [HPL1.out, HST.out]; exact HQQ.out)
        have HQF : Hid (Qs wr F g (pL pPr s0).2) := Lib.hid (by rw [HPL1.out, HST.out]; exact HQ.out)
        clear hlt hk hst
        go_wp2_with fail
        all_goals
          go_meet
          exact ⟨A4, n1, c4, ys, HGF, HX, HQF, HF⟩
  case rest =>
    obtain ⟨A1, m1, c1, ys1, HGQ1, HX1, HQ1, HFa⟩ := hcut
    rename World => wx1
    have HBx1 : Hid (Blk wx1 w.heap.size 41 zBaL.toArray) := Lib.hid ((HB4.out.keep HFn1.out (by have := HG.out; simp; omega)).keep HFa.out (by have := HG.out; have := HGX.out; simp; omega))
    have HW1 : Hid (Fr [g] w wx1) := Lib.hid ((HF4.out.trans HFn1.out (fun x hx _ => hx)).trans HFa.out (fun x hx hl => by have h1 := HGX.out; simp at hx; simp; omega))
    have HZ1 : Hid (wN1.heap.size ≤ wx1.heap.size ∧ gx < wx1.heap.size) := Lib.hid (by have h1 := HFa.out.size; have h2 := HSZ1.out; omega)
    have HGX1 : Hid (w.heap.size < gx ∧ gx < wx1.heap.size ∧ w3.heap.size ≤ gx) := Lib.hid (by have h1 := HZ1.out; have h2 := HGX.out; omega)
    clear HPL1 HN1 HRn1 HXn1 HGX HB4 HF4
    have HGX := HGX1
    generalize (pL pPr s0).1 = q1 at *
    generalize (pL pPr s0).2 = z1 at *
    go_wp2_with fail
    refine (qCount_any HQ1.out).mono ?_
    rintro e_ wN2 ⟨rfl, h1, h2⟩
    have HRn2 := Lib.hid h1
    have HFn2 : Hid (Fr [g] wx1 wN2) := Lib.hid h2
    have HXn2 := Lib.hid (HX1.out.keep h2 (by have h1 := HGX.out; have h2 := HG.out; simp; omega))
    have HPL2 : Hid (pL pOp z1 = pRep pOp (pC z1).1 (pC z1).2) := Lib.hid rfl
    have hn := pC_le z1
    clear h1 h2
    generalize (pC z1).1 = n2 at *
    generalize (pC z1).2 = s12 at *
    have HN2 := Lib.hid hn
    have HSZ2 : Hid (w.heap.size ≤ wN2.heap.size ∧ gx < wN2.heap.size) := Lib.hid (by have h1 := HGX.out; have h2 := HFn2.out.size; omega)
    clear hn HQ1 HX1
    go_upto_block 2 with (fail)
    go_cut [6] (fun s_ wx => ∃ (A : Option Addr) (m c : Nat) (ys : List Wop), Hid (GQ 81 34 Wop.cells (fun w S v => v.Ok w S) Wop.con wN2.heap.size wx A m c ys (pL pOp z1).1 (pL pOp z1).2.2) ∧ Hid (Blk wx gx 41 #[.int .i64 e0, .int .u64 (t0 : Int), .slice A1 m1 c1, .slice A m c, .slice none 0 0]) ∧ Hid (Qs wx F g (pL pOp z1).2) ∧ Hid (Fr [g, gx] wN2 wx))
    case first =>
      go_wp2_with fail
      go_loopw [6] (fun i wr => ∃ (k : Nat) (A : Option Addr) (c : Nat) (ys : List Wop), k ≤ n2 ∧ i = .int .i64 k ∧ Hid (GQ 81 34 Wop.cells (fun w S v => v.Ok w S) Wop.con wN2.heap.size wr A k c ys (pRep pOp k s12).1 (pRep pOp k s12).2.2) ∧ Hid (Blk wr gx 41 #[.int .i64 e0, .int .u64 (t0 : Int), .slice A1 m1 c1, .slice A k c, .slice none 0 0]) ∧ Hid (Qs wr F g (pRep pOp k s12).2) ∧ Hid (Fr [g, gx] wN2 wr)) (fun i _ => n2 - (intOf i).toNat)
      case atStart => exact ⟨0, none, 0, [], by omega, rfl, Lib.hid (GQ.nil _), HXn2, HRn2, Lib.hid (Fr.refl _ _)⟩
      case round =>
        obtain ⟨k, A4, c4, ys, hk, rfl, HQQ, HX, HQ, HF⟩ := hrel
        have hkS : (k : Int) + 1 ≤ 1000 := by have := HN2.out; omega
        have hk0 : (0 : Int) ≤ k := by omega
        obtain ⟨R, bd, hst⟩ : ∃ R bd, (pRep pOp k s12).2 = (R, bd) := ⟨_, _, rfl⟩
        have HST := Lib.hid hst
        rw [hst] at HQ HQQ
        by_cases hlt : k < n2
        · have HKN : Hid (k ≤ n2) := Lib.hid (by omega)
          have HKL : Hid (k < n2) := Lib.hid hlt
          obtain ⟨A', n', c', hA', hb', hy', hnc'⟩ := HQ.out.rd
          have hbc := hb'.cell 1
          simp at hbc
          clear hA' hb' hy' hnc' hst
          cases bd
          · have hkn : (k : Int) < n2 := by omega
            have HXC : Hid (wr.cell? ⟨gx, 3, none⟩ = some (.slice A4 k c4)) := Lib.hid (by have h := HX.out.cell 3; simpa using h)
            have HNS : Hid (¬ gx ∈ g :: bk A4) := Lib.hid (by have h1 := HGX.out; have h2 := HG.out; have h3 := HSZ2.out; intro hm; rcases List.mem_cons.1 hm with h | h; omega; have := HQQ.out.new _ h; omega)
            have HPE : Hid (pRep pOp (k + 1) s12 = ((pRep pOp k s12).1 ++ [(pOp (R, false)).1], (pOp (R, false)).2)) := Lib.hid (by
              show ((pRep pOp k s12).1 ++ [(pOp (pRep pOp k s12).2).1], (pOp (pRep pOp k s12).2).2) = _
              rw [HST.out])
            clear hlt
            go_upto_region 11 with (fail)
            clear hbc
            refine wp_region_till 7 (Fr (g :: gx :: bk A4) wr) (Fr (g :: bk A4) wr) (by kernel_rfl) (Fr.drew (Fr.refl _ wr)) (Fr.drew (Fr.refl _ wr)) (fun hA hB => ?_)
            have HWD : Hid (Fr [] wr wr.drew) := Lib.hid (Fr.drew (Fr.refl [] wr))
            have HQd := Lib.hid (HQ.out.fr (Fr.drew (Fr.refl [] wr)) (by simp) (by simp))
            have HQQd := Lib.hid (HQQ.out.keep Wop.Ok.keep (Fr.drew (Fr.refl [] wr)) (by simp))
            have HSd : Hid (wr.drew.heap.size = wr.heap.size ∧ wN2.heap.size ≤ wr.heap.size) := Lib.hid ⟨rfl, HF.out.size⟩
            have HXd := Lib.hid (HX.out.keep (Fr.drew (Fr.refl [] wr)) (by simp))
            have HFd : Hid (Fr [g, gx] wN2 wr.drew) := Lib.hid (Fr.drew HF.out)
            generalize wr.drew = wd at *
            refine till_run (i := 0) (v := ?_) rfl (by kernel_rfl) (by rfl) (fun _ _ _ h => h) hA hB (fun w1 hw1 => ?_) ?_
            rotate_left 1
            · skip
              go_simp
              (try (first | with_reducible rfl | (apply And.intro <;> rfl)))
            simp only [Act.put, List.setIfInBounds_toArray, List.set_cons_zero, List.set_cons_succ]
            refine till_run (i := 1) (v := ?_) rfl (by kernel_rfl) (by rfl) (fun _ _ _ h => h) hA hB (fun w1 hw1 => ?_) ?_
            rotate_left 1
            · skip
              have hcw0 := hw1.cell (HXC.out) (by first | (simp; done) | exact HNS.out | exact HNW.out | (intro hm; have hlt := HSB.out _ hm; (try dsimp only at hlt); omega))
              go_simp
              (try (first | with_reducible rfl | (apply And.intro <;> rfl)))
            simp only [Act.put, List.setIfInBounds_toArray, List.set_cons_zero, List.set_cons_succ]
            refine till_run (i := 2) (v := ?_) rfl (by kernel_rfl) (by rfl) (fun _ _ _ h => h) hA hB (fun w1 hw1 => ?_) ?_
            rotate_left 1
            · skip
              go_simp
              (try (first | with_reducible rfl | (apply And.intro <;> rfl)))
            simp only [Act.put, List.setIfInBounds_toArray, List.set_cons_zero, List.set_cons_succ]
            refine till_call (i := 3) (f := ?_) (args := ?_) rfl (by kernel_rfl) (by rfl) ?_ ?_
            rotate_left 2
            · go_simp
              (try (first | with_reducible rfl | (apply And.intro <;> rfl)))
            refine (qOpeningI_any wd F g _ HQd.out).mono ?_
            rintro e_ w5 ⟨y, rfl, hyc, hyok, h1, h2⟩
            have HQ5 := Lib.hid h1
            have HF5 : Hid (Fr [g] wd w5) := Lib.hid h2
            have HYC := Lib.hid hyc
            have HYOK := Lib.hid hyok
            refine ⟨_, rfl, ⟨hA.trans h2 (fun x hx _ => by simp at hx; simp [hx]), hB.trans h2 (fun x hx _ => by simp at hx; simp [hx])⟩, fun hB => ?_⟩
            replace hA := hA.trans h2 (fun x hx _ => by simp at hx; simp [hx])
            have HD : Hid ((Wop.cells y).length = 34) := Lib.hid (Wop.len (hyok [] (by simp)).h)
            have HD1 : Hid (∀ u ∈ Wop.cells y, u.oneCell' = true) := Lib.hid (Wop.one y)
            have HO5 := Lib.hid (own_keep HQQd.out.own h2 (fun q hq hm => by have h1 := HQQd.out.new q ((bk_mem A4 k c4 q).1 hq); have h2 := HG.out; have h3 := HSZ2.out; simp at hm; omega))
            have HX5 := Lib.hid (HXd.out.keep h2 (by have h1 := HGX.out; have h2 := HG.out; simp; omega))
            clear h1 h2 hyc hyok
            obtain ⟨D, hD⟩ : ∃ D, Wop.cells y = D := ⟨_, rfl⟩
            have HDY := Lib.hid hD
            rw [hD] at HD HD1 ⊢
            clear hD
            simp only [Act.put, List.setIfInBounds_toArray, List.set_cons_zero, List.set_cons_succ]
            refine till_stepQ (i := 4) rfl (by kernel_rfl) (by rfl) (fun K hK => ?_)
            refine wp_build_one 38 81 _ rfl Try.underlying38 D 64 (by rw [HD.out]; exact el_opn) rfl (by rw [HD.out]; decide) (by rw [HD.out]; decide) ?_
            refine hK.out _ _ (hA.alloc _) (hB.alloc _) (fun hA hB => ?_)
            clear hK K
            simp only [Act.put, List.setIfInBounds_toArray, List.set_cons_zero, List.set_cons_succ]
            refine till_stepQ (i := 5) rfl (by kernel_rfl) (by rfl) (fun K hK => ?_)
            refine wp_append_oneq _ _ 38 81 rfl Try.underlying38 34 64 el_opn (by decide) 0 (.slice A4 k c4) k _ D rfl (HO5.out.alloc _) (Nat.zero_le _) HD.out HD1.out w5.heap.size 81 rfl (Blk.new _ _ _) (by have := HKL.out; have := HN2.out; omega) (by decide) ?_
            intro A9 c9 w9 ho9 hf9 hb9
            rw [bk_own] at hf9
            have HF9 : Hid (Fr (bk A4) w5 w9) := Lib.hid ((((Fr.refl [] w5).alloc _).mono (by simp)).trans hf9 (fun x hx _ => hx))
            have HB9 : Hid (∀ q ∈ bk A9, q ∈ bk A4 ∨ w5.heap.size ≤ q) := Lib.hid (by
              intro q hq
              rw [← bk_own A9 (k + 1) c9] at hq
              rcases hb9 with h | h
              · rw [h, bk_own] at hq; exact .inl hq
              · rw [h] at hq; simp at hq; exact .inr (by omega))
            have HO9 := Lib.hid ho9
            refine hK.out _ _ (hA.trans hf9 (fun x hx _ => by simp [hx])) (hB.trans hf9 (fun x hx _ => by simp [hx])) (fun hA hB => ?_)
            clear hK K ho9 hf9 hb9
            have HX9 := Lib.hid (HX5.out.keep HF9.out (fun hm => HNS.out (by simp [hm])))
            have HGS := Lib.hid (HQQd.out.step Wop.Ok.keep (y' := (pOp (R, false)).1) (bad' := (pOp (R, false)).2.2) (by have := HKL.out; have := HN2.out; omega) (by have := HSZ2.out; have := HG.out; omega) (by have := HSd.out; omega) HF5.out HYOK.out (fun hb => ⟨rfl, HYC.out hb⟩) (by have h := HO9.out; rw [← HDY.out] at h; exact h) HF9.out HB9.out)
            simp only [Act.put, List.setIfInBounds_toArray, List.set_cons_zero, List.set_cons_succ]
            refine till_stepQ (i := 6) rfl (by kernel_rfl) (by rfl) (fun K hK => ?_)
            refine wp_run (v := ?_) (w' := ?_) ?_ ?_
            rotate_left 2
            · go_simp
              (try (first | with_reducible rfl | (apply And.intro <;> rfl)))
            refine hK.out _ _ hA hB (fun hA hB => ?_)
            clear hK K
            simp only [Act.put, List.setIfInBounds_toArray, List.set_cons_zero, List.set_cons_succ]
            refine till_step (i := 7) rfl (by kernel_rfl) (by kernel_rfl) (by rfl) (fun K hK => ?_)
            refine wp_store_at 38 _ _ rfl gx 3 (.slice A9 (k + 1) c9) rfl rfl rfl 41 _ HX9.out (by simp) (by kernel_rfl) ?_
            have hb7 : Blk (w9.setCells gx 3 [.slice A9 (k + 1) c9]) gx 41 #[.int .i64 e0, .int .u64 (t0 : Int), .slice A1 m1 c1, .slice A9 (k + 1) c9, .slice none 0 0] := Blk.mid_at [.slice A9 (k + 1) c9] [.slice A4 k c4] [.int .i64 e0, .int .u64 (t0 : Int), .slice A1 m1 c1] [.slice none 0 0] 3 rfl rfl _ _ rfl rfl HX9.out
            have HB7 := Lib.hid hb7
            have HF7 : Hid (Fr [gx] w9 (w9.setCells gx 3 [.slice A9 (k + 1) c9])) := Lib.hid (Fr.setCells (fun _ => by simp) _ _ _ (Fr.refl _ _))
            refine hK.out _ _ (hA.trans HF7.out (fun q hq _ => by simp at hq; simp [hq])) (fun hA => ?_)
            clear hK K hb7
            generalize w9.setCells gx 3 [.slice A9 (k + 1) c9] = w10 at *
            simp only [Act.put, List.setIfInBounds_toArray, List.set_cons_zero, List.set_cons_succ]
            refine till_done (by kernel_rfl) ?_ _
            have HG10 := Lib.hid (HGS.out.keep Wop.Ok.keep HF7.out (by intro q hq; simp at hq; subst hq; exact HSZ2.out.2))
            have HFF : Hid (Fr [g, gx] wN2 w10) := Lib.hid (((HFd.out.trans HF5.out (fun x hx _ => by simp at hx; simp [hx])).trans HF9.out (fun x hx hl => by have := HQQd.out.new x hx; omega)).trans HF7.out (fun x hx _ => by simp at hx; simp [hx]))
            have HQ10 := Lib.hid ((HQ5.out.fr HF9.out (fun hm => by have h1 := HQQd.out.new _ hm; have h2 := HG.out; have h3 := HSZ2.out; omega) (fun q hq hm => by have h1 := HQQd.out.new q hm; have h2 := HFL.out q hq; have h3 := HSZ2.out; omega)).fr HF7.out (by have h1 := HGX.out; have h2 := HG.out; simp; omega) (fun q hq hm => by have h1 := HGX.out; have h2 := HFL.out q hq; simp at hm; omega))
            clear hA
            go_wp2
            go_roundw
            case rel => exact ⟨k + 1, A9, c9, ys ++ [y], by have := HKL.out; omega, by go_num, by rw [HPE.out]; exact HG10, HB7, by rw [HPE.out]; exact HQ10, HFF⟩
            case measure => have := HKL.out; simp [intOf]; omega
          · skip
            have HEND : Hid (pRep pOp n2 s12 = ((pRep pOp n2 s12).1, ([], true))) := Lib.hid (by
              have h3 : R = [] := HQ.out.bz rfl
              have h2 := HST.out
              rw [h3] at h2
              have h4 := pRep_stop pOp_stop h2 (n2 - k)
              rw [show k + (n2 - k) = n2 by have := HKL.out; omega] at h4
              rw [← h4])
            have HRE : Hid (R = []) := Lib.hid (HQ.out.bz rfl)
            rw [HRE.out] at HQ
            have HGF : Hid (GQ 81 34 Wop.cells (fun w S v => v.Ok w S) Wop.con wN2.heap.size wr A4 k c4 ys (pL pOp z1).1 (pL pOp z1).2.2) := Lib.hid (by rw [HPL2.out, HEND.out]; exact HQQ.out.fail)
            have HQF : Hid (Qs wr F g (pL pOp z1).2) := Lib.hid (by rw [HPL2.out, HEND.out]; exact HQ.out)
            have hkn : (k : Int) < n2 := by omega
            clear hlt
            go_wp2_with fail
            all_goals
              go_meet
              exact ⟨A4, k, c4, ys, HGF, HX, HQF, HF⟩
        · have hkn : n2 = k := by omega
          subst hkn
          have HGF : Hid (GQ 81 34 Wop.cells (fun w S v => v.Ok w S) Wop.con wN2.heap.size wr A4 n2 c4 ys (pL pOp z1).1 (pL pOp z1).2.2) := Lib.hid (by rw [HPL2.out, HST.out]; exact HQQ.out)
          have HQF : Hid (Qs wr F g (pL pOp z1).2) := Lib.hid (by rw [HPL2.out, HST.out]; exact HQ.out)
          clear hlt hk hst
          go_wp2_with fail
          all_goals
            go_meet
            exact ⟨A4, n2, c4, ys, HGF, HX, HQF, HF⟩
    case rest =>
      obtain ⟨A2, m2, c2, ys2, HGQ2, HX2, HQ2, HFb⟩ := hcut
      rename World => wx2
      have HGA : Hid (GQ 36 6 Wpr.cells (fun w S v => v.Li w S) Wpr.con wN1.heap.size wx2 A1 m1 c1 ys1 q1 z1.2) := Lib.hid ((HGQ1.out.keep Wpr.Li.keep HFn2.out (by intro q hq; simp at hq; subst hq; have := HSZ1.out; have := HG.out; omega)).keep Wpr.Li.keep HFb.out (by intro q hq; simp at hq; have := HSZ1.out; have := HG.out; omega))
      have HBx2 : Hid (Blk wx2 w.heap.size 41 zBaL.toArray) := Lib.hid ((HBx1.out.keep HFn2.out (by have := HG.out; simp; omega)).keep HFb.out (by have := HG.out; have := HGX.out; simp; omega))
      have HW2 : Hid (Fr [g] w wx2) := Lib.hid ((HW1.out.trans HFn2.out (fun x hx _ => hx)).trans HFb.out (fun x hx hl => by have h1 := HGX.out; simp at hx; simp; omega))
      have HZ2 : Hid (wN2.heap.size ≤ wx2.heap.size ∧ gx < wx2.heap.size) := Lib.hid (by have h1 := HFb.out.size; have h2 := HSZ2.out; omega)
      have HBD2 : Hid ((pL pOp z1).2.2 = false → z1.2 = false) := Lib.hid (pL_badQ pOp_badQ)
      have HGX2 : Hid (w.heap.size < gx ∧ gx < wx2.heap.size ∧ w3.heap.size ≤ gx) := Lib.hid (by have h1 := HZ2.out; have h2 := HGX.out; omega)
      clear HPL2 HN2 HRn2 HXn2 HGQ1 HBx1 HW1 HGX HGX1
      have HGX := HGX2
      generalize (pL pOp z1).1 = q2 at *
      generalize (pL pOp z1).2 = z2 at *
      go_wp2_with fail
      refine (qCount_any HQ2.out).mono ?_
      rintro e_ wN3 ⟨rfl, h1, h2⟩
      have HRn3 := Lib.hid h1
      have HFn3 : Hid (Fr [g] wx2 wN3) := Lib.hid h2
      have HXn3 := Lib.hid (HX2.out.keep h2 (by have h1 := HGX.out; have h2 := HG.out; simp; omega))
      have HPL3 : Hid (pL pTb z2 = pRep pTb (pC z2).1 (pC z2).2) := Lib.hid rfl
      have hn := pC_le z2
      clear h1 h2
      generalize (pC z2).1 = n3 at *
      generalize (pC z2).2 = s13 at *
      have HN3 := Lib.hid hn
      have HSZ3 : Hid (w.heap.size ≤ wN3.heap.size ∧ gx < wN3.heap.size) := Lib.hid (by have h1 := HGX.out; have h2 := HFn3.out.size; omega)
      clear hn HQ2 HX2
      go_upto_block 4 with (fail)
      go_cut [7] (fun s_ wx => ∃ (A : Option Addr) (m c : Nat) (ys : List Wtb), Hid (GQ 108 2 Wtb.cells (fun w S v => v.Li w S) Wtb.con wN3.heap.size wx A m c ys (pL pTb z2).1 (pL pTb z2).2.2) ∧ Hid (Blk wx gx 41 #[.int .i64 e0, .int .u64 (t0 : Int), .slice A1 m1 c1, .slice A2 m2 c2, .slice A m c]) ∧ Hid (Qs wx F g (pL pTb z2).2) ∧ Hid (Fr [g, gx] wN3 wx))
      case first =>
        go_wp2_with fail
        go_loopw [7] (fun i wr => ∃ (k : Nat) (A : Option Addr) (c : Nat) (ys : List Wtb), k ≤ n3 ∧ i = .int .i64 k ∧ Hid (GQ 108 2 Wtb.cells (fun w S v => v.Li w S) Wtb.con wN3.heap.size wr A k c ys (pRep pTb k s13).1 (pRep pTb k s13).2.2) ∧ Hid (Blk wr gx 41 #[.int .i64 e0, .int .u64 (t0 : Int), .slice A1 m1 c1, .slice A2 m2 c2, .slice A k c]) ∧ Hid (Qs wr F g (pRep pTb k s13).2) ∧ Hid (Fr [g, gx] wN3 wr)) (fun i _ => n3 - (intOf i).toNat)
        case atStart => exact ⟨0, none, 0, [], by omega, rfl, Lib.hid (GQ.nil _), HXn3, HRn3, Lib.hid (Fr.refl _ _)⟩
        case round =>
          obtain ⟨k, A4, c4, ys, hk, rfl, HQQ, HX, HQ, HF⟩ := hrel
          have hkS : (k : Int) + 1 ≤ 1000 := by have := HN3.out; omega
          have hk0 : (0 : Int) ≤ k := by omega
          obtain ⟨R, bd, hst⟩ : ∃ R bd, (pRep pTb k s13).2 = (R, bd) := ⟨_, _, rfl⟩
          have HST := Lib.hid hst
          rw [hst] at HQ HQQ
          by_cases hlt : k < n3
          · have HKN : Hid (k ≤ n3) := Lib.hid (by omega)
            have HKL : Hid (k < n3) := Lib.hid hlt
            obtain ⟨A', n', c', hA', hb', hy', hnc'⟩ := HQ.out.rd
            have hbc := hb'.cell 1
            simp at hbc
            clear hA' hb' hy' hnc' hst
            cases bd
            · have hkn : (k : Int) < n3 := by omega
              have HXC : Hid (wr.cell? ⟨gx, 4, none⟩ = some (.slice A4 k c4)) := Lib.hid (by have h := HX.out.cell 4; simpa using h)
              have HNS : Hid (¬ gx ∈ g :: bk A4) := Lib.hid (by have h1 := HGX.out; have h2 := HG.out; have h3 := HSZ3.out; intro hm; rcases List.mem_cons.1 hm with h | h; omega; have := HQQ.out.new _ h; omega)
              have HPE : Hid (pRep pTb (k + 1) s13 = ((pRep pTb k s13).1 ++ [(pTb (R, false)).1], (pTb (R, false)).2)) := Lib.hid (by
                show ((pRep pTb k s13).1 ++ [(pTb (pRep pTb k s13).2).1], (pTb (pRep pTb k s13).2).2) = _
                rw [HST.out])
              clear hlt
              go_wp2_with fail
              clear hbc
              refine (qInt_any HQ.out).mono ?_
              rintro e_ w5 ⟨rfl, h1, h2⟩
              have HQ5 := Lib.hid h1
              have HF5 : Hid (Fr [g] wr w5) := Lib.hid h2
              have HPT : Hid (pTb (R, false) = (⟨(pI (R, false)).1, (pL pDn (pI (R, false)).2).1⟩, (pL pDn (pI (R, false)).2).2)) := Lib.hid rfl
              have HI0 : Hid (i64In (pI (R, false)).1) := Lib.hid (pI_in _)
              clear h1 h2
              generalize (pI (R, false)).1 = i0 at *
              generalize (pI (R, false)).2 = zi at *
              have HBU := Lib.hid (built_tbQ i0)
              have HC1t : Hid ((#[Value.int .i64 i0, .slice none 0 0] : Array Value).all (·.oneCell') = true) := Lib.hid (all_oneCell_toArray (Wtb.one ⟨i0, none, 0, 0, []⟩))
              have HBN : Hid (Blk (w5.alloc (Obj.cells zTbL.toArray 108)) w5.heap.size 108 zTbL.toArray) := Lib.hid (Blk.new _ _ _)
              go_upto_region 17 with (first
                | (refine wpList_builtg rfl 108 _ rfl _ _ HBU.out rfl ?_)
                | (refine wpList_store_blk rfl 108 _ _ rfl w5.heap.size #[.int .i64 i0, .slice none 0 0] rfl rfl 108 zTbL.toArray HBN.out (by kernel_rfl) rfl HC1t.out ?_
                   intro w6 hb hf
                   have HX6t := Lib.hid hb
                   have HF56 : Hid (Fr [] w5 w6) := Lib.hid (((Fr.refl [] w5).alloc _).and hf (by simp))
                   clear hb hf))
              obtain ⟨gt, hgt⟩ : ∃ gt, gt = w5.heap.size := ⟨_, rfl⟩
              rw [← hgt] at HX6t ⊢
              have HGT : Hid (w.heap.size < gt ∧ gt < w6.heap.size ∧ wr.heap.size ≤ gt ∧ wN3.heap.size ≤ wr.heap.size) := Lib.hid (by have h2 := HF5.out.size; have h3 := HX6t.out.lt; have h4 := HF.out.size; have h5 := HSZ3.out; have h6 := HGX.out; have h7 := HX.out.lt; omega)
              have HR6t := Lib.hid (HQ5.out.fr HF56.out (by simp) (by simp))
              have HW6 : Hid (Fr [g] wr w6) := Lib.hid (HF5.out.trans HF56.out (by simp))
              clear hgt HBN HBU HQ5 HF56 HF5
              go_wp2_with fail
              refine (qCount_any HR6t.out).mono ?_
              rintro e_ wNt ⟨rfl, h1, h2⟩
              have HRnt := Lib.hid h1
              have HFnt : Hid (Fr [g] w6 wNt) := Lib.hid h2
              have HXnt := Lib.hid (HX6t.out.keep h2 (by have h1 := HGT.out; have h2 := HG.out; simp; omega))
              have HPLt : Hid (pL pDn zi = pRep pDn (pC zi).1 (pC zi).2) := Lib.hid rfl
              have hn := pC_le zi
              clear h1 h2
              generalize (pC zi).1 = nt at *
              generalize (pC zi).2 = s1t at *
              have HNt := Lib.hid hn
              have HSZt : Hid (w.heap.size ≤ wNt.heap.size ∧ gt < wNt.heap.size) := Lib.hid (by have h1 := HGT.out; have h2 := HFnt.out.size; omega)
              clear hn HR6t HX6t
              go_upto_block 6 with (fail)
              go_cut [10] (fun s_ wx => ∃ (A : Option Addr) (m c : Nat) (yst : List Wdn), Hid (GQ 83 4 Wdn.cells (fun _ _ v => v.Ok) id wNt.heap.size wx A m c yst (pL pDn zi).1 (pL pDn zi).2.2) ∧ Hid (Blk wx gt 108 #[.int .i64 i0, .slice A m c]) ∧ Hid (Qs wx F g (pL pDn zi).2) ∧ Hid (Fr [g, gt] wNt wx))
              case first =>
                go_wp2_with fail
                go_loopw [10] (fun i wr => ∃ (kt : Nat) (A : Option Addr) (c : Nat) (yst : List Wdn), kt ≤ nt ∧ i = .int .i64 kt ∧ Hid (GQ 83 4 Wdn.cells (fun _ _ v => v.Ok) id wNt.heap.size wr A kt c yst (pRep pDn kt s1t).1 (pRep pDn kt s1t).2.2) ∧ Hid (Blk wr gt 108 #[.int .i64 i0, .slice A kt c]) ∧ Hid (Qs wr F g (pRep pDn kt s1t).2) ∧ Hid (Fr [g, gt] wNt wr)) (fun i _ => nt - (intOf i).toNat)
                case atStart => exact ⟨0, none, 0, [], by omega, rfl, Lib.hid (GQ.nil _), HXnt, HRnt, Lib.hid (Fr.refl _ _)⟩
                case round =>
                  obtain ⟨kt, A4t, c4t, yst, hkt, rfl, HQQt, HXt, HQt, HFt⟩ := hrel
                  have hkSt : (kt : Int) + 1 ≤ 1000 := by have := HNt.out; omega
                  have hk0t : (0 : Int) ≤ kt := by omega
                  obtain ⟨Rt, bdt, hstt⟩ : ∃ Rt bdt, (pRep pDn kt s1t).2 = (Rt, bdt) := ⟨_, _, rfl⟩
                  have HSTt := Lib.hid hstt
                  rw [hstt] at HQt HQQt
                  by_cases hlt : kt < nt
                  · have HKNt : Hid (kt ≤ nt) := Lib.hid (by omega)
                    have HKLt : Hid (kt < nt) := Lib.hid hlt
                    obtain ⟨A', n', c', hA', hb', hy', hnc'⟩ := HQt.out.rd
                    have hbc := hb'.cell 1
                    simp at hbc
                    clear hA' hb' hy' hnc' hstt
                    cases bdt
                    · have hknt : (kt : Int) < nt := by omega
                      have HXCt : Hid (wr.cell? ⟨gt, 1, none⟩ = some (.slice A4t kt c4t)) := Lib.hid (by have h := HXt.out.cell 1; simpa using h)
                      have HNW : Hid (¬ gt ∈ g :: bk A4t) := Lib.hid (by have h1 := HGT.out; have h2 := HG.out; have h3 := HSZt.out; intro hm; rcases List.mem_cons.1 hm with h | h; omega; have := HQQt.out.new _ h; omega)
                      have HPEt : Hid (pRep pDn (kt + 1) s1t = ((pRep pDn kt s1t).1 ++ [(pDn (Rt, false)).1], (pDn (Rt, false)).2)) := Lib.hid (by
                        show ((pRep pDn kt s1t).1 ++ [(pDn (pRep pDn kt s1t).2).1], (pDn (pRep pDn kt s1t).2).2) = _
                        rw [HSTt.out])
                      clear hlt
                      go_upto_region 21 with (fail)
                      clear hbc
                      refine wp_region_till 7 (Fr (g :: gt :: bk A4t) wr) (Fr (g :: bk A4t) wr) (by kernel_rfl) (Fr.drew (Fr.refl _ wr)) (Fr.drew (Fr.refl _ wr)) (fun hA hB => ?_)
                      have HWD : Hid (Fr [] wr wr.drew) := Lib.hid (Fr.drew (Fr.refl [] wr))
                      have HQd := Lib.hid (HQt.out.fr (Fr.drew (Fr.refl [] wr)) (by simp) (by simp))
                      have HQQd := Lib.hid (HQQt.out.keep (fun h _ _ => h) (Fr.drew (Fr.refl [] wr)) (by simp))
                      have HSd : Hid (wr.drew.heap.size = wr.heap.size ∧ wNt.heap.size ≤ wr.heap.size) := Lib.hid ⟨rfl, HFt.out.size⟩
                      have HXd := Lib.hid (HXt.out.keep (Fr.drew (Fr.refl [] wr)) (by simp))
                      have HFd : Hid (Fr [g, gt] wNt wr.drew) := Lib.hid (Fr.drew HFt.out)
                      generalize wr.drew = wd at *
                      refine till_run (i := 0) (v := ?_) rfl (by kernel_rfl) (by rfl) (fun _ _ _ h => h) hA hB (fun w1 hw1 => ?_) ?_
                      rotate_left 1
                      · skip
                        go_simp
                        (try (first | with_reducible rfl | (apply And.intro <;> rfl)))
                      simp only [Act.put, List.setIfInBounds_toArray, List.set_cons_zero, List.set_cons_succ]
                      refine till_run (i := 1) (v := ?_) rfl (by kernel_rfl) (by rfl) (fun _ _ _ h => h) hA hB (fun w1 hw1 => ?_) ?_
                      rotate_left 1
                      · skip
                        have hcw0 := hw1.cell (HXCt.out) (by first | (simp; done) | exact HNS.out | exact HNW.out | (intro hm; have hlt := HSB.out _ hm; (try dsimp only at hlt); omega))
                        go_simp
                        (try (first | with_reducible rfl | (apply And.intro <;> rfl)))
                      simp only [Act.put, List.setIfInBounds_toArray, List.set_cons_zero, List.set_cons_succ]
                      refine till_run (i := 2) (v := ?_) rfl (by kernel_rfl) (by rfl) (fun _ _ _ h => h) hA hB (fun w1 hw1 => ?_) ?_
                      rotate_left 1
                      · skip
                        go_simp
                        (try (first | with_reducible rfl | (apply And.intro <;> rfl)))
                      simp only [Act.put, List.setIfInBounds_toArray, List.set_cons_zero, List.set_cons_succ]
                      refine till_call (i := 3) (f := ?_) (args := ?_) rfl (by kernel_rfl) (by rfl) ?_ ?_
                      rotate_left 2
                      · go_simp
                        (try (first | with_reducible rfl | (apply And.intro <;> rfl)))
                      refine (qDenyI_any wd F g _ HQd.out).mono ?_
                      rintro e_ w5 ⟨y, rfl, hyc, hyok, h1, h2⟩
                      have HQ5 := Lib.hid h1
                      have HF5 : Hid (Fr [g] wd w5) := Lib.hid h2
                      have HYC := Lib.hid hyc
                      have HYOK := Lib.hid hyok
                      refine ⟨_, rfl, ⟨hA.trans h2 (fun x hx _ => by simp at hx; simp [hx]), hB.trans h2 (fun x hx _ => by simp at hx; simp [hx])⟩, fun hB => ?_⟩
                      replace hA := hA.trans h2 (fun x hx _ => by simp at hx; simp [hx])
                      have HD : Hid ((Wdn.cells y).length = 4) := Lib.hid (Wdn.len y)
                      have HD1 : Hid (∀ u ∈ Wdn.cells y, u.oneCell' = true) := Lib.hid (Wdn.one y)
                      have HO5 := Lib.hid (own_keep HQQd.out.own h2 (fun q hq hm => by have h1 := HQQd.out.new q ((bk_mem A4t kt c4t q).1 hq); have h2 := HG.out; have h3 := HSZt.out; simp at hm; omega))
                      have HX5 := Lib.hid (HXd.out.keep h2 (by have h1 := HGT.out; have h2 := HG.out; simp; omega))
                      clear h1 h2 hyc hyok
                      obtain ⟨D, hD⟩ : ∃ D, Wdn.cells y = D := ⟨_, rfl⟩
                      have HDY := Lib.hid hD
                      rw [hD] at HD HD1 ⊢
                      clear hD
                      simp only [Act.put, List.setIfInBounds_toArray, List.set_cons_zero, List.set_cons_succ]
                      refine till_stepQ (i := 4) rfl (by kernel_rfl) (by rfl) (fun K hK => ?_)
                      refine wp_build_one 106 83 _ rfl Try.underlying106 D 32 (by rw [HD.out]; exact el_deny) rfl (by rw [HD.out]; decide) (by rw [HD.out]; decide) ?_
                      refine hK.out _ _ (hA.alloc _) (hB.alloc _) (fun hA hB => ?_)
                      clear hK K
                      simp only [Act.put, List.setIfInBounds_toArray, List.set_cons_zero, List.set_cons_succ]
                      refine till_stepQ (i := 5) rfl (by kernel_rfl) (by rfl) (fun K hK => ?_)
                      refine wp_append_oneq _ _ 106 83 rfl Try.underlying106 4 32 el_deny (by decide) 0 (.slice A4t kt c4t) kt _ D rfl (HO5.out.alloc _) (Nat.zero_le _) HD.out HD1.out w5.heap.size 83 rfl (Blk.new _ _ _) (by have := HKLt.out; have := HNt.out; omega) (by decide) ?_
                      intro A9 c9 w9 ho9 hf9 hb9
                      rw [bk_own] at hf9
                      have HF9 : Hid (Fr (bk A4t) w5 w9) := Lib.hid ((((Fr.refl [] w5).alloc _).mono (by simp)).trans hf9 (fun x hx _ => hx))
                      have HB9 : Hid (∀ q ∈ bk A9, q ∈ bk A4t ∨ w5.heap.size ≤ q) := Lib.hid (by
                        intro q hq
                        rw [← bk_own A9 (kt + 1) c9] at hq
                        rcases hb9 with h | h
                        · rw [h, bk_own] at hq; exact .inl hq
                        · rw [h] at hq; simp at hq; exact .inr (by omega))
                      have HO9 := Lib.hid ho9
                      refine hK.out _ _ (hA.trans hf9 (fun x hx _ => by simp [hx])) (hB.trans hf9 (fun x hx _ => by simp [hx])) (fun hA hB => ?_)
                      clear hK K ho9 hf9 hb9
                      have HX9 := Lib.hid (HX5.out.keep HF9.out (fun hm => HNW.out (by simp [hm])))
                      have HGS := Lib.hid (HQQd.out.step (fun h _ _ => h) (y' := (pDn (Rt, false)).1) (bad' := (pDn (Rt, false)).2.2) (by have := HKLt.out; have := HNt.out; omega) (by have := HSZt.out; have := HG.out; omega) (by have := HSd.out; omega) HF5.out HYOK.out (fun hb => ⟨rfl, HYC.out hb⟩) (by have h := HO9.out; rw [← HDY.out] at h; exact h) HF9.out HB9.out)
                      simp only [Act.put, List.setIfInBounds_toArray, List.set_cons_zero, List.set_cons_succ]
                      refine till_stepQ (i := 6) rfl (by kernel_rfl) (by rfl) (fun K hK => ?_)
                      refine wp_run (v := ?_) (w' := ?_) ?_ ?_
                      rotate_left 2
                      · go_simp
                        (try (first | with_reducible rfl | (apply And.intro <;> rfl)))
                      refine hK.out _ _ hA hB (fun hA hB => ?_)
                      clear hK K
                      simp only [Act.put, List.setIfInBounds_toArray, List.set_cons_zero, List.set_cons_succ]
                      refine till_step (i := 7) rfl (by kernel_rfl) (by kernel_rfl) (by rfl) (fun K hK => ?_)
                      refine wp_store_at 106 _ _ rfl gt 1 (.slice A9 (kt + 1) c9) rfl rfl rfl 108 _ HX9.out (by simp) (by kernel_rfl) ?_
                      have hb7 : Blk (w9.setCells gt 1 [.slice A9 (kt + 1) c9]) gt 108 #[.int .i64 i0, .slice A9 (kt + 1) c9] := Blk.mid_at [.slice A9 (kt + 1) c9] [.slice A4t kt c4t] [.int .i64 i0] [] 1 rfl rfl _ _ rfl rfl HX9.out
                      have HB7 := Lib.hid hb7
                      have HF7 : Hid (Fr [gt] w9 (w9.setCells gt 1 [.slice A9 (kt + 1) c9])) := Lib.hid (Fr.setCells (fun _ => by simp) _ _ _ (Fr.refl _ _))
                      refine hK.out _ _ (hA.trans HF7.out (fun q hq _ => by simp at hq; simp [hq])) (fun hA => ?_)
                      clear hK K hb7
                      generalize w9.setCells gt 1 [.slice A9 (kt + 1) c9] = w10 at *
                      simp only [Act.put, List.setIfInBounds_toArray, List.set_cons_zero, List.set_cons_succ]
                      refine till_done (by kernel_rfl) ?_ _
                      have HG10 := Lib.hid (HGS.out.keep (fun h _ _ => h) HF7.out (by intro q hq; simp at hq; subst hq; exact HSZt.out.2))
                      have HFF : Hid (Fr [g, gt] wNt w10) := Lib.hid (((HFd.out.trans HF5.out (fun x hx _ => by simp at hx; simp [hx])).trans HF9.out (fun x hx hl => by have := HQQd.out.new x hx; omega)).trans HF7.out (fun x hx _ => by simp at hx; simp [hx]))
                      have HQ10 := Lib.hid ((HQ5.out.fr HF9.out (fun hm => by have h1 := HQQd.out.new _ hm; have h2 := HG.out; have h3 := HSZt.out; omega) (fun q hq hm => by have h1 := HQQd.out.new q hm; have h2 := HFL.out q hq; have h3 := HSZt.out; omega)).fr HF7.out (by have h1 := HGT.out; have h2 := HG.out; simp; omega) (fun q hq hm => by have h1 := HGT.out; have h2 := HFL.out q hq; simp at hm; omega))
                      clear hA
                      go_wp2
                      go_roundw
                      case rel => exact ⟨kt + 1, A9, c9, yst ++ [y], by have := HKLt.out; omega, by go_num, by rw [HPEt.out]; exact HG10, HB7, by rw [HPEt.out]; exact HQ10, HFF⟩
                      case measure => have := HKLt.out; simp [intOf]; omega
                    · skip
                      have HENDt : Hid (pRep pDn nt s1t = ((pRep pDn nt s1t).1, ([], true))) := Lib.hid (by
                        have h3 : Rt = [] := HQt.out.bz rfl
                        have h2 := HSTt.out
                        rw [h3] at h2
                        have h4 := pRep_stop pDn_stop h2 (nt - kt)
                        rw [show kt + (nt - kt) = nt by have := HKLt.out; omega] at h4
                        rw [← h4])
                      have HREt : Hid (Rt = []) := Lib.hid (HQt.out.bz rfl)
                      rw [HREt.out] at HQt
                      have HGFt : Hid (GQ 83 4 Wdn.cells (fun _ _ v => v.Ok) id wNt.heap.size wr A4t kt c4t yst (pL pDn zi).1 (pL pDn zi).2.2) := Lib.hid (by rw [HPLt.out, HENDt.out]; exact HQQt.out.fail)
                      have HQFt : Hid (Qs wr F g (pL pDn zi).2) := Lib.hid (by rw [HPLt.out, HENDt.out]; exact HQt.out)
                      have hknt : (kt : Int) < nt := by omega
                      clear hlt
                      go_wp2_with fail
                      all_goals
                        go_meet
                        exact ⟨A4t, kt, c4t, yst, HGFt, HXt, HQFt, HFt⟩
                  · have hknt : nt = kt := by omega
                    subst hknt
                    have HGFt : Hid (GQ 83 4 Wdn.cells (fun _ _ v => v.Ok) id wNt.heap.size wr A4t nt c4t yst (pL pDn zi).1 (pL pDn zi).2.2) := Lib.hid (by rw [HPLt.out, HSTt.out]; exact HQQt.out)
                    have HQFt : Hid (Qs wr F g (pL pDn zi).2) := Lib.hid (by rw [HPLt.out, HSTt.out]; exact HQt.out)
                    clear hlt hkt hstt
                    go_wp2_with fail
                    all_goals
                      go_meet
                      exact ⟨A4t, nt, c4t, yst, HGFt, HXt, HQFt, HFt⟩
              case rest =>
                obtain ⟨A6, m6, c6, zs, HGQt, HXt, HQt, HFt⟩ := hcut
                rename World => w7
                have HW7 : Hid (Fr [g] wr w7) := Lib.hid ((HW6.out.trans HFnt.out (fun x hx _ => hx)).trans HFt.out (fun x hx hl => by have h1 := HGT.out; simp at hx; simp; omega))
                have HX7 := Lib.hid (HX.out.keep HW7.out (by have h1 := HGX.out; have h2 := HG.out; simp; omega))
                have HO7 := Lib.hid (own_keep HQQ.out.own HW7.out (fun q hq hm => by have h1 := HQQ.out.new q ((bk_mem A4 k c4 q).1 hq); have h2 := HG.out; have h3 := HSZ3.out; simp at hm; omega))
                have HPTE : Hid (pTb (R, false) = (⟨i0, (pL pDn zi).1⟩, (pL pDn zi).2)) := HPT
                have HYOK : Hid (∀ S0 : List Nat, (∀ q ∈ S0, q < wr.heap.size) → Wtb.Li w7 S0 ⟨i0, A6, m6, c6, zs⟩) := Lib.hid (fun S0 h0 => by
                  obtain ⟨h1, h2⟩ := HGQt.out.lst (fun _ _ v _ => Wdn.len v) (S0 := S0) (fun q hq => by have h1 := h0 q hq; have h2 := HW6.out.size; have h3 := HFnt.out.size; omega)
                  exact ⟨HI0.out, h1, HGQt.out.few, h2⟩)
                have HYC : Hid ((pL pDn zi).2.2 = false → Wtb.con ⟨i0, A6, m6, c6, zs⟩ = (⟨i0, (pL pDn zi).1⟩ : Ctb)) := Lib.hid (fun hb => by
                  have h1 := HGQt.out.con hb
                  rw [List.map_id] at h1
                  unfold Wtb.con
                  simp only [h1])
                clear HPLt HNt HRnt HXnt HGQt HW6 HFt HFnt
                generalize (pL pDn zi).1 = lt at *
                generalize (pL pDn zi).2 = zt at *
                obtain ⟨D, hD⟩ : ∃ D : List Value, [.int .i64 i0, .slice A6 m6 c6] = D := ⟨_, rfl⟩
                have HD : Hid (D.length = 2) := Lib.hid (by rw [← hD]; rfl)
                have HD1 : Hid (∀ u ∈ D, u.oneCell' = true) := Lib.hid (by rw [← hD]; exact Wtb.one ⟨i0, A6, m6, c6, zs⟩)
                have HXD : Hid (Blk w7 gt 108 D.toArray) := Lib.hid (by rw [← hD]; exact HXt.out)
                have HDY : Hid (Wtb.cells ⟨i0, A6, m6, c6, zs⟩ = D) := Lib.hid hD
                have hc4 := HX7.out.cell 4
                simp at hc4
                clear hD
                go_wp2_with (first
                  | (refine wpList_row rfl 108 _ rfl _ _ rfl _ HXD.out.range (row_tmQ.of HD.out) ?_)
                  | (refine wpList_build_one rfl 39 108 _ rfl Try.underlying39 D 32 (by rw [HD.out]; exact el_tomb) rfl (by rw [HD.out]; decide) (by rw [HD.out]; decide) ?_)
                  | (at_builtin; refine Stop.mk ?_))
                refine Stop.go ?_
                refine wpList_append_one2 rfl _ _ 39 108 rfl Try.underlying39 2 32 el_tomb (by decide) 0 (.slice A4 k c4) k _ D rfl (HO7.out.alloc _) (Nat.zero_le _) HD.out HD1.out w7.heap.size 108 rfl (Blk.new _ _ _) (by have := HKL.out; have := HN3.out; omega) (by decide) ?_
                intro A9 c9 w9 ho9 hf9 hb9
                rw [bk_own] at hf9
                have HF9 : Hid (Fr (bk A4) w7 w9) := Lib.hid ((((Fr.refl [] w7).alloc _).mono (by simp)).trans hf9 (fun x hx _ => hx))
                have HB9 : Hid (∀ q ∈ bk A9, q ∈ bk A4 ∨ w7.heap.size ≤ q) := Lib.hid (by
                  intro q hq
                  rw [← bk_own A9 (k + 1) c9] at hq
                  rcases hb9 with h | h
                  · rw [h, bk_own] at hq; exact .inl hq
                  · rw [h] at hq; simp at hq; exact .inr (by omega))
                have HO9 := Lib.hid ho9
                have HX9 := Lib.hid (HX7.out.keep HF9.out (fun hm => HNS.out (by simp [hm])))
                have HGS := Lib.hid (HQQ.out.step Wtb.Li.keep (y := ⟨i0, A6, m6, c6, zs⟩) (y' := (pTb (R, false)).1) (bad' := (pTb (R, false)).2.2) (by have := HKL.out; have := HN3.out; omega) (by have := HSZ3.out; have := HG.out; omega) (by have := HGT.out; omega) HW7.out HYOK.out (fun hb => ⟨rfl, by rw [HPTE.out] at hb ⊢; exact HYC.out hb⟩) (by have h := HO9.out; rw [← HDY.out] at h; exact h) HF9.out HB9.out)
                have hc49 := HX9.out.cell 4
                simp at hc49
                have hz49 := HX9.out.frozen 4
                have hb7 : Blk (w9.setCell ⟨gx, 4, none⟩ (.slice A9 (k + 1) c9)) gx 41 #[.int .i64 e0, .int .u64 (t0 : Int), .slice A1 m1 c1, .slice A2 m2 c2, .slice A9 (k + 1) c9] := HX9.out.set 4 (.slice A9 (k + 1) c9)
                have HB7 := Lib.hid hb7
                have HF7 : Hid (Fr [gx] w9 (w9.setCell ⟨gx, 4, none⟩ (.slice A9 (k + 1) c9))) := Lib.hid ((Fr.refl [gx] w9).setCell _ (fun _ => by simp) _)
                have HG10 := Lib.hid (HGS.out.keep Wtb.Li.keep HF7.out (by intro q hq; simp at hq; subst hq; exact HSZ3.out.2))
                have HFF : Hid (Fr [g, gx] wN3 (w9.setCell ⟨gx, 4, none⟩ (.slice A9 (k + 1) c9))) := Lib.hid (((HF.out.trans HW7.out (fun x hx _ => by simp at hx; simp [hx])).trans HF9.out (fun x hx hl => by have := HQQ.out.new x hx; omega)).trans HF7.out (fun x hx _ => by simp at hx; simp [hx]))
                have HQ10 := Lib.hid ((HQt.out.fr HF9.out (fun hm => by have h1 := HQQ.out.new _ hm; have h2 := HG.out; have h3 := HSZ3.out; omega) (fun q hq hm => by have h1 := HQQ.out.new q hm; have h2 := HFL.out q hq; have h3 := HSZ3.out; omega)).fr HF7.out (by have h1 := HGX.out; have h2 := HG.out; simp; omega) (fun q hq hm => by have h1 := HGX.out; have h2 := HFL.out q hq; simp at hm; omega))
                clear ho9 hf9 hb9 hb7 hc4
                go_wp2
                go_roundw
                case rel => exact ⟨k + 1, A9, c9, ys ++ [⟨i0, A6, m6, c6, zs⟩], by have := HKL.out; omega, by go_num, by rw [HPE.out]; exact HG10, HB7, by rw [HPE.out, HPTE.out]; exact HQ10, HFF⟩
                case measure => have := HKL.out; simp [intOf]; omega
            · skip
              have HEND : Hid (pRep pTb n3 s13 = ((pRep pTb n3 s13).1, ([], true))) := Lib.hid (by
                have h3 : R = [] := HQ.out.bz rfl
                have h2 := HST.out
                rw [h3] at h2
                have h4 := pRep_stop pTb_stop h2 (n3 - k)
                rw [show k + (n3 - k) = n3 by have := HKL.out; omega] at h4
                rw [← h4])
              have HRE : Hid (R = []) := Lib.hid (HQ.out.bz rfl)
              rw [HRE.out] at HQ
              have HGF : Hid (GQ 108 2 Wtb.cells (fun w S v => v.Li w S) Wtb.con wN3.heap.size wr A4 k c4 ys (pL pTb z2).1 (pL pTb z2).2.2) := Lib.hid (by rw [HPL3.out, HEND.out]; exact HQQ.out.fail)
              have HQF : Hid (Qs wr F g (pL pTb z2).2) := Lib.hid (by rw [HPL3.out, HEND.out]; exact HQ.out)
              have hkn : (k : Int) < n3 := by omega
              clear hlt
              go_wp2_with fail
              all_goals
                go_meet
                exact ⟨A4, k, c4, ys, HGF, HX, HQF, HF⟩
          · have hkn : n3 = k := by omega
            subst hkn
            have HGF : Hid (GQ 108 2 Wtb.cells (fun w S v => v.Li w S) Wtb.con wN3.heap.size wr A4 n3 c4 ys (pL pTb z2).1 (pL pTb z2).2.2) := Lib.hid (by rw [HPL3.out, HST.out]; exact HQQ.out)
            have HQF : Hid (Qs wr F g (pL pTb z2).2) := Lib.hid (by rw [HPL3.out, HST.out]; exact HQ.out)
            clear hlt hk hst
            go_wp2_with fail
            all_goals
              go_meet
              exact ⟨A4, n3, c4, ys, HGF, HX, HQF, HF⟩
      case rest =>
        obtain ⟨A3, m3, c3, ys3, HGQ3, HX3, HQ3, HFc⟩ := hcut
        rename World => wx3
        have HGA3 := Lib.hid ((HGA.out.keep Wpr.Li.keep HFn3.out (by intro q hq; simp at hq; subst hq; have := HSZ1.out; have := HG.out; omega)).keep Wpr.Li.keep HFc.out (by intro q hq; simp at hq; have := HSZ1.out; have := HG.out; omega))
        have HGB3 := Lib.hid ((HGQ2.out.keep Wop.Ok.keep HFn3.out (by intro q hq; simp at hq; subst hq; have := HSZ2.out; have := HG.out; omega)).keep Wop.Ok.keep HFc.out (by intro q hq; simp at hq; have := HSZ2.out; have := HG.out; omega))
        have HBx3 : Hid (Blk wx3 w.heap.size 41 zBaL.toArray) := Lib.hid ((HBx2.out.keep HFn3.out (by have := HG.out; simp; omega)).keep HFc.out (by have := HG.out; have := HGX.out; simp; omega))
        have HW3 : Hid (Fr [g] w wx3) := Lib.hid ((HW2.out.trans HFn3.out (fun x hx _ => hx)).trans HFc.out (fun x hx hl => by have h1 := HGX.out; simp at hx; simp; omega))
        have HBD3 : Hid ((pL pTb z2).2.2 = false → z2.2 = false) := Lib.hid (pL_badQ pTb_badQ)
        have HSZ3' : Hid (w.heap.size ≤ wN1.heap.size ∧ w.heap.size ≤ wN2.heap.size ∧ w.heap.size < wN3.heap.size ∧ w.heap.size < wN1.heap.size ∧ w.heap.size < wN2.heap.size) := Lib.hid (by have h1 := HSZ1.out; have h2 := HSZ2.out; have h3 := HSZ3.out; have h4 := HGX.out; omega)
        clear HPL3 HN3 HRn3 HXn3 HGA HGQ2 HBx2 HW2
        generalize (pL pTb z2).1 = q3 at *
        generalize (pL pTb z2).2 = z3 at *
        obtain ⟨V, hV⟩ : ∃ V, Wba.cells ⟨e0, t0, A1, m1, c1, ys1, A2, m2, c2, ys2, A3, m3, c3, ys3⟩ = V := ⟨_, rfl⟩
        have HVL : Hid (V.length = 5) := Lib.hid (by rw [← hV]; rfl)
        have HVO : Hid (V.toArray.all (·.oneCell') = true) := Lib.hid (by rw [← hV]; exact all_oneCell_toArray (Wba.one _))
        have HXV : Hid (Blk wx3 gx 41 V.toArray) := Lib.hid (by rw [← hV]; exact HX3.out)
        have HVV := Lib.hid hV
        have HVT : Hid ((Try.prog.info? 41).map (·.size) = some V.toArray.size) := Lib.hid (by rw [List.size_toArray, HVL.out]; kernel_rfl)
        clear hV
        go_wp2_with (first
          | (refine wpList_row rfl 41 _ rfl _ _ rfl _ HXV.out.range (row_bat.of HVL.out) ?_)
          | (refine wpList_store_blk rfl 41 _ _ rfl w.heap.size V.toArray rfl rfl 41 zBaL.toArray HBx3.out HVT.out (by simp only [List.size_toArray]; rw [HVL.out]; rfl) HVO.out ?_
             intro w9 hb hf
             have HB9 := Lib.hid hb
             have HF9 := Lib.hid hf
             clear hb hf))
        have HGA9 := Lib.hid (HGA3.out.keep Wpr.Li.keep HF9.out (by intro q hq; simp at hq; subst hq; have := HSZ3'.out; omega))
        have HGB9 := Lib.hid (HGB3.out.keep Wop.Ok.keep HF9.out (by intro q hq; simp at hq; subst hq; have := HSZ3'.out; omega))
        have HGC9 := Lib.hid (HGQ3.out.keep Wtb.Li.keep HF9.out (by intro q hq; simp at hq; subst hq; have := HSZ3'.out; omega))
        refine bodyPost_ret (v := .agg V.toArray) (results_cell_row Try.results59 _ _ w.heap.size 41 V.toArray _ _ rfl HB9.out Try.underlying41 rfl HVT.out) rfl ⟨⟨e0, t0, A1, m1, c1, ys1, A2, m2, c2, ys2, A3, m3, c3, ys3⟩, by rw [HVV.out], ?_, fun S0 h0 => ?_, ?_, ?_⟩
        · rw [HPC.out]
          intro hbad
          have hb2 := HBD3.out hbad
          have h1 := HGA9.out.con (HBD2.out hb2)
          have h2 := HGB9.out.con hb2
          have h3 := HGC9.out.con hbad
          unfold Wba.con
          simp only [h1, h2, h3]
        · obtain ⟨a1, a2⟩ := HGA9.out.lst (fun _ _ _ _ => rfl) (S0 := S0) (fun q hq => by have h1 := h0 q hq; have h2 := HSZ3'.out; omega)
          obtain ⟨b1, b2⟩ := HGB9.out.lst (fun _ _ _ h => Wop.len h.h) (S0 := S0) (fun q hq => by have h1 := h0 q hq; have h2 := HSZ3'.out; omega)
          obtain ⟨d1, d2⟩ := HGC9.out.lst (fun _ _ _ _ => rfl) (S0 := S0) (fun q hq => by have h1 := h0 q hq; have h2 := HSZ3'.out; omega)
          exact ⟨HIN.out.1, HIN.out.2, a1, HGA9.out.few, a2, b1, HGB9.out.few, b2, d1, HGC9.out.few, d2⟩
        · rw [HPC.out]
          exact HQ3.out.fr HF9.out (by have := HG.out; simp; omega) (fun q hq hm => by have := HFL.out q hq; simp at hm; omega)
        · exact HW3.out.trans HF9.out (fun x hx hl => by simp at hx; omega)
end Go.Proofs.Ytkofmefnlppoaaa

namespace Go.Proofs.Ytkofmefnlppoaaa
open Go.RowKit
set_option maxRecDepth 100000
theorem builtZ_Wce : Try.prog.built 32 [] = some (zWce.cells).toArray := by kernel_rfl
set_option maxHeartbeats 4000000 in
theorem qWCert_any (w : World) (F : List Nat) (g : Nat) (s : Ps) (hr : Qs w F g s) : Calls Try.prog 19 #[.pointer (some ⟨g, 0, none⟩)] w fun e w' =>
    ∃ v : Wce, e = .returned (.agg v.cells.toArray) ∧ v.con = (pW zWce.con pCe s).1 ∧ (∀ S0 : List Nat, (∀ q ∈ S0, q < w.heap.size) → v.Li w' S0) ∧ Qs w' F g (pCe s).2 ∧ Fr [g] w w' := by
  obtain ⟨Z, hZ⟩ : ∃ Z : List Value, (zWce.cells) = Z := ⟨_, rfl⟩
  have hzl : Z.length = 38 := by rw [← hZ]; rfl
  obtain ⟨wa, hwa⟩ : ∃ wa, wa = w.alloc (Obj.cells (zWce.cells).toArray 32) := ⟨_, rfl⟩
  have hf0 : Fr [] w wa := by rw [hwa]; exact (Fr.refl [] w).alloc _
  have HB : Hid (Blk wa w.heap.size 32 Z.toArray) := Lib.hid (by rw [hwa, hZ]; exact Blk.new _ _ _)
  have HR := Lib.hid (hr.fr hf0 (by simp) (by simp))
  have HFL : Hid (∀ k ∈ F, k < w.heap.size) := Lib.hid hr.lt
  have HG : Hid (g < w.heap.size) := Lib.hid hr.gt
  have HF0 := Lib.hid hf0
  have HWA := Lib.hid hwa
  have HZL := Lib.hid hzl
  have HZ1 : Hid (Z.toArray.all (·.oneCell') = true) := Lib.hid (by rw [← hZ]; exact all_oneCell_toArray (Wce.one zWce))
  have HBZ : Hid (Try.prog.built 32 [] = some Z.toArray) := Lib.hid (by rw [← hZ]; exact builtZ_Wce)
  have HZC : Hid (Z = zWce.cells) := Lib.hid hZ.symm
  have HZ := Lib.hid hZ
  clear hwa hf0 hr hZ hzl
  go_enter Try.func19, Try.ntmps19
  go_upto_region 1 with (fail)
  change Code.wp _ _ _ _ (w.alloc (Obj.cells (zWce.cells).toArray 32))
  rw [← HWA.out]
  go_wp2_with fail
  refine (qCert_any wa F g s HR.out).mono ?_
  rintro e_ w1 ⟨v, rfl, hc, hok, h1, h2⟩
  have HVS : Hid (v.cells.length = 38) := Lib.hid (Wce.len (hok [] (by simp)).k.h)
  have HAL : Hid (v.cells.toArray.all (·.oneCell') = true) := Lib.hid (all_oneCell_toArray (Wce.one _))
  have HC := Lib.hid hc
  have HOK : Hid (∀ W, Fr [w.heap.size] w1 W → ∀ S0 : List Nat, (∀ q ∈ S0, q < w.heap.size) → v.Li W S0) := Lib.hid (fun W hW S0 h0 => (hok (w.heap.size :: S0) (fun q hq => by
    have h3 := HB.out.lt
    rcases List.mem_cons.1 hq with rfl | hq
    · exact h3
    · have := h0 q hq; omega)).keep (hW.mono (fun k hk _ => by simp at hk; simp [hk])) (fun k hk _ => by simp [hk]))
  have HF1 := Lib.hid h2
  have HB1 := Lib.hid (HB.out.keep h2 (by have := HG.out; simp; omega))
  have HSZ : Hid (w.heap.size < w1.heap.size) := Lib.hid (by have := HB.out.lt; have := h2.size; omega)
  have HP : Hid (pW zWce.con pCe s = (if (pCe s).2.2 then zWce.con else (pCe s).1, (pCe s).2)) := Lib.hid rfl
  generalize hs2 : (pCe s).2 = s2 at *
  have HSE := Lib.hid hs2
  clear hs2
  obtain ⟨R, bad⟩ := s2
  have HR1 := Lib.hid h1
  obtain ⟨V, hV⟩ : ∃ V, V = v.cells := ⟨_, rfl⟩
  rw [← hV] at HVS HAL ⊢
  have HV := Lib.hid hV
  have HVT : Hid ((Try.prog.info? 32).map (·.size) = some V.toArray.size) := Lib.hid (by rw [List.size_toArray, HVS.out]; kernel_rfl)
  have HZT : Hid ((Try.prog.info? 32).map (·.size) = some Z.toArray.size) := Lib.hid (by rw [List.size_toArray, HZL.out]; kernel_rfl)
  have HBN : Hid (Blk (w1.alloc (Obj.cells (zWce.cells).toArray 32)) w1.heap.size 32 Z.toArray) := Lib.hid (by rw [HZ.out]; exact Blk.new _ _ _)
  clear hc hok h1 h2 hV
  go_upto_region 2 with (first
    | (refine wpList_store_blk rfl 32 _ _ rfl w1.heap.size V.toArray rfl rfl 32 Z.toArray HBN.out HVT.out (by rw [List.size_toArray, List.size_toArray, HVS.out, HZL.out]) HAL.out ?_
       intro w2 hb2 hf2
       have HB2 := Lib.hid hb2
       have HF2 := Lib.hid ((((Fr.refl [w1.heap.size] w1).alloc _)).trans hf2 (fun x hx _ => hx))
       clear hb2 hf2))
  have HR2 := Lib.hid (HR1.out.fr HF2.out (by have := HG.out; have := HSZ.out; simp; omega) (fun k hk hm => by have := HFL.out k hk; have := HSZ.out; simp at hm; omega))
  have HBW := Lib.hid (HB1.out.keep HF2.out (by have := HSZ.out; simp; omega))
  have HS2 : Hid (w1.heap.size < w2.heap.size) := Lib.hid HB2.out.lt
  obtain ⟨A', n', c', -, hb', -, -⟩ := HR2.out.rd
  have hbc := hb'.cell 1
  simp at hbc
  clear hb'
  cases bad
  · go_wp2_with (first
      | (refine wpList_row rfl 32 _ rfl _ _ rfl _ HB2.out.range (row_crt.of HVS.out) ?_)
      | (refine wpList_store_blk rfl 32 _ _ rfl w.heap.size V.toArray rfl rfl 32 Z.toArray HBW.out HVT.out (by rw [List.size_toArray, List.size_toArray, HVS.out, HZL.out]) HAL.out ?_
         intro w9 hb9 hf9
         have HB9 := Lib.hid hb9
         have HF9 := Lib.hid hf9
         clear hb9 hf9))
    have hq9 : Fr [w.heap.size] w1 w9 := (HF2.out.mono (T := [w.heap.size]) (fun x hx hl => by simp at hx; omega)).trans HF9.out (fun x hx _ => hx)
    refine bodyPost_ret (v := .agg V.toArray) (results_cell_row Try.results19 _ _ w.heap.size 32 V.toArray _ _ rfl HB9.out Try.underlying32 rfl HVT.out) rfl ⟨v, by rw [HV.out], ?_, fun S0 h0 => HOK.out w9 hq9 S0 h0, ?_, ?_⟩
    · rw [HP.out, HC.out (by simp)]; rfl
    · rw [HSE.out]; exact HR2.out.fr HF9.out (by have := HG.out; simp; omega) (fun k hk hm => by have := HFL.out k hk; simp at hm; omega)
    · exact (((HF0.out.mono (T := [g]) (by simp)).trans HF1.out (fun x hx _ => hx)).trans HF2.out (fun x hx hl => by have := HSZ.out; simp at hx; omega)).trans HF9.out (fun x hx hl => by simp at hx; omega)
  · go_wp2_with (first
      | (refine wpList_builtg rfl 32 _ rfl _ _ HBZ.out rfl ?_)
      | (refine wpList_store_blk rfl 32 _ _ rfl w.heap.size Z.toArray rfl rfl 32 Z.toArray HBW.out HZT.out rfl HZ1.out ?_
         intro w9 hb9 hf9
         have HB9 := Lib.hid hb9
         have HF9 := Lib.hid hf9
         clear hb9 hf9))
    refine bodyPost_ret (v := .agg Z.toArray) (results_cell_row Try.results19 _ _ w.heap.size 32 Z.toArray _ _ rfl HB9.out Try.underlying32 rfl HZT.out) rfl ⟨zWce, by rw [HZC.out], ?_, fun S0 h0 => zWce_ok w9 S0, ?_, ?_⟩
    · rw [HP.out]; rfl
    · rw [HSE.out]; exact HR2.out.fr HF9.out (by have := HG.out; simp; omega) (fun k hk hm => by have := HFL.out k hk; simp at hm; omega)
    · exact (((HF0.out.mono (T := [g]) (by simp)).trans HF1.out (fun x hx _ => hx)).trans HF2.out (fun x hx hl => by have := HSZ.out; simp at hx; omega)).trans HF9.out (fun x hx hl => by simp at hx; omega)
theorem builtZ_Wpr : Try.prog.built 36 [] = some (zWpr.cells).toArray := by kernel_rfl
set_option maxHeartbeats 4000000 in
theorem qWPromise_any (w : World) (F : List Nat) (g : Nat) (s : Ps) (hr : Qs w F g s) : Calls Try.prog 22 #[.pointer (some ⟨g, 0, none⟩)] w fun e w' =>
    ∃ v : Wpr, e = .returned (.agg v.cells.toArray) ∧ v.con = (pW zWpr.con pPr s).1 ∧ (∀ S0 : List Nat, (∀ q ∈ S0, q < w.heap.size) → v.Li w' S0) ∧ Qs w' F g (pPr s).2 ∧ Fr [g] w w' := by
  obtain ⟨Z, hZ⟩ : ∃ Z : List Value, (zWpr.cells) = Z := ⟨_, rfl⟩
  have hzl : Z.length = 6 := by rw [← hZ]; rfl
  obtain ⟨wa, hwa⟩ : ∃ wa, wa = w.alloc (Obj.cells (zWpr.cells).toArray 36) := ⟨_, rfl⟩
  have hf0 : Fr [] w wa := by rw [hwa]; exact (Fr.refl [] w).alloc _
  have HB : Hid (Blk wa w.heap.size 36 Z.toArray) := Lib.hid (by rw [hwa, hZ]; exact Blk.new _ _ _)
  have HR := Lib.hid (hr.fr hf0 (by simp) (by simp))
  have HFL : Hid (∀ k ∈ F, k < w.heap.size) := Lib.hid hr.lt
  have HG : Hid (g < w.heap.size) := Lib.hid hr.gt
  have HF0 := Lib.hid hf0
  have HWA := Lib.hid hwa
  have HZL := Lib.hid hzl
  have HZ1 : Hid (Z.toArray.all (·.oneCell') = true) := Lib.hid (by rw [← hZ]; exact all_oneCell_toArray (Wpr.one zWpr))
  have HBZ : Hid (Try.prog.built 36 [] = some Z.toArray) := Lib.hid (by rw [← hZ]; exact builtZ_Wpr)
  have HZC : Hid (Z = zWpr.cells) := Lib.hid hZ.symm
  have HZ := Lib.hid hZ
  clear hwa hf0 hr hZ hzl
  go_enter Try.func22, Try.ntmps22
  go_upto_region 1 with (fail)
  change Code.wp _ _ _ _ (w.alloc (Obj.cells (zWpr.cells).toArray 36))
  rw [← HWA.out]
  go_wp2_with fail
  refine (qPromise_any wa F g s HR.out).mono ?_
  rintro e_ w1 ⟨v, rfl, hc, hok, h1, h2⟩
  have HVS : Hid (v.cells.length = 6) := Lib.hid (rfl)
  have HAL : Hid (v.cells.toArray.all (·.oneCell') = true) := Lib.hid (all_oneCell_toArray (Wpr.one _))
  have HC := Lib.hid hc
  have HOK : Hid (∀ W, Fr [w.heap.size] w1 W → ∀ S0 : List Nat, (∀ q ∈ S0, q < w.heap.size) → v.Li W S0) := Lib.hid (fun W hW S0 h0 => (hok (w.heap.size :: S0) (fun q hq => by
    have h3 := HB.out.lt
    rcases List.mem_cons.1 hq with rfl | hq
    · exact h3
    · have := h0 q hq; omega)).keep (hW.mono (fun k hk _ => by simp at hk; simp [hk])) (fun k hk _ => by simp [hk]))
  have HF1 := Lib.hid h2
  have HB1 := Lib.hid (HB.out.keep h2 (by have := HG.out; simp; omega))
  have HSZ : Hid (w.heap.size < w1.heap.size) := Lib.hid (by have := HB.out.lt; have := h2.size; omega)
  have HP : Hid (pW zWpr.con pPr s = (if (pPr s).2.2 then zWpr.con else (pPr s).1, (pPr s).2)) := Lib.hid rfl
  generalize hs2 : (pPr s).2 = s2 at *
  have HSE := Lib.hid hs2
  clear hs2
  obtain ⟨R, bad⟩ := s2
  have HR1 := Lib.hid h1
  obtain ⟨V, hV⟩ : ∃ V, V = v.cells := ⟨_, rfl⟩
  rw [← hV] at HVS HAL ⊢
  have HV := Lib.hid hV
  have HVT : Hid ((Try.prog.info? 36).map (·.size) = some V.toArray.size) := Lib.hid (by rw [List.size_toArray, HVS.out]; kernel_rfl)
  have HZT : Hid ((Try.prog.info? 36).map (·.size) = some Z.toArray.size) := Lib.hid (by rw [List.size_toArray, HZL.out]; kernel_rfl)
  have HBN : Hid (Blk (w1.alloc (Obj.cells (zWpr.cells).toArray 36)) w1.heap.size 36 Z.toArray) := Lib.hid (by rw [HZ.out]; exact Blk.new _ _ _)
  clear hc hok h1 h2 hV
  go_upto_region 2 with (first
    | (refine wpList_store_blk rfl 36 _ _ rfl w1.heap.size V.toArray rfl rfl 36 Z.toArray HBN.out HVT.out (by rw [List.size_toArray, List.size_toArray, HVS.out, HZL.out]) HAL.out ?_
       intro w2 hb2 hf2
       have HB2 := Lib.hid hb2
       have HF2 := Lib.hid ((((Fr.refl [w1.heap.size] w1).alloc _)).trans hf2 (fun x hx _ => hx))
       clear hb2 hf2))
  have HR2 := Lib.hid (HR1.out.fr HF2.out (by have := HG.out; have := HSZ.out; simp; omega) (fun k hk hm => by have := HFL.out k hk; have := HSZ.out; simp at hm; omega))
  have HBW := Lib.hid (HB1.out.keep HF2.out (by have := HSZ.out; simp; omega))
  have HS2 : Hid (w1.heap.size < w2.heap.size) := Lib.hid HB2.out.lt
  obtain ⟨A', n', c', -, hb', -, -⟩ := HR2.out.rd
  have hbc := hb'.cell 1
  simp at hbc
  clear hb'
  cases bad
  · go_wp2_with (first
      | (refine wpList_row rfl 36 _ rfl _ _ rfl _ HB2.out.range (row_prm.of HVS.out) ?_)
      | (refine wpList_store_blk rfl 36 _ _ rfl w.heap.size V.toArray rfl rfl 36 Z.toArray HBW.out HVT.out (by rw [List.size_toArray, List.size_toArray, HVS.out, HZL.out]) HAL.out ?_
         intro w9 hb9 hf9
         have HB9 := Lib.hid hb9
         have HF9 := Lib.hid hf9
         clear hb9 hf9))
    have hq9 : Fr [w.heap.size] w1 w9 := (HF2.out.mono (T := [w.heap.size]) (fun x hx hl => by simp at hx; omega)).trans HF9.out (fun x hx _ => hx)
    refine bodyPost_ret (v := .agg V.toArray) (results_cell_row Try.results22 _ _ w.heap.size 36 V.toArray _ _ rfl HB9.out Try.underlying36 rfl HVT.out) rfl ⟨v, by rw [HV.out], ?_, fun S0 h0 => HOK.out w9 hq9 S0 h0, ?_, ?_⟩
    · rw [HP.out, HC.out (by simp)]; rfl
    · rw [HSE.out]; exact HR2.out.fr HF9.out (by have := HG.out; simp; omega) (fun k hk hm => by have := HFL.out k hk; simp at hm; omega)
    · exact (((HF0.out.mono (T := [g]) (by simp)).trans HF1.out (fun x hx _ => hx)).trans HF2.out (fun x hx hl => by have := HSZ.out; simp at hx; omega)).trans HF9.out (fun x hx hl => by simp at hx; omega)
  · go_wp2_with (first
      | (refine wpList_builtg rfl 36 _ rfl _ _ HBZ.out rfl ?_)
      | (refine wpList_store_blk rfl 36 _ _ rfl w.heap.size Z.toArray rfl rfl 36 Z.toArray HBW.out HZT.out rfl HZ1.out ?_
         intro w9 hb9 hf9
         have HB9 := Lib.hid hb9
         have HF9 := Lib.hid hf9
         clear hb9 hf9))
    refine bodyPost_ret (v := .agg Z.toArray) (results_cell_row Try.results22 _ _ w.heap.size 36 Z.toArray _ _ rfl HB9.out Try.underlying36 rfl HZT.out) rfl ⟨zWpr, by rw [HZC.out], ?_, fun S0 h0 => zWpr_ok w9 S0, ?_, ?_⟩
    · rw [HP.out]; rfl
    · rw [HSE.out]; exact HR2.out.fr HF9.out (by have := HG.out; simp; omega) (fun k hk hm => by have := HFL.out k hk; simp at hm; omega)
    · exact (((HF0.out.mono (T := [g]) (by simp)).trans HF1.out (fun x hx _ => hx)).trans HF2.out (fun x hx hl => by have := HSZ.out; simp at hx; omega)).trans HF9.out (fun x hx hl => by simp at hx; omega)
theorem builtZ_Wba : Try.prog.built 41 [] = some (zWba.cells).toArray := by kernel_rfl
set_option maxHeartbeats 4000000 in
theorem qWBatch_any (w : World) (F : List Nat) (g : Nat) (s : Ps) (hr : Qs w F g s) : Calls Try.prog 25 #[.pointer (some ⟨g, 0, none⟩)] w fun e w' =>
    ∃ v : Wba, e = .returned (.agg v.cells.toArray) ∧ v.con = (pW zWba.con pBa s).1 ∧ (∀ S0 : List Nat, (∀ q ∈ S0, q < w.heap.size) → v.Li w' S0) ∧ Qs w' F g (pBa s).2 ∧ Fr [g] w w' := by
  obtain ⟨Z, hZ⟩ : ∃ Z : List Value, (zWba.cells) = Z := ⟨_, rfl⟩
  have hzl : Z.length = 5 := by rw [← hZ]; rfl
  obtain ⟨wa, hwa⟩ : ∃ wa, wa = w.alloc (Obj.cells (zWba.cells).toArray 41) := ⟨_, rfl⟩
  have hf0 : Fr [] w wa := by rw [hwa]; exact (Fr.refl [] w).alloc _
  have HB : Hid (Blk wa w.heap.size 41 Z.toArray) := Lib.hid (by rw [hwa, hZ]; exact Blk.new _ _ _)
  have HR := Lib.hid (hr.fr hf0 (by simp) (by simp))
  have HFL : Hid (∀ k ∈ F, k < w.heap.size) := Lib.hid hr.lt
  have HG : Hid (g < w.heap.size) := Lib.hid hr.gt
  have HF0 := Lib.hid hf0
  have HWA := Lib.hid hwa
  have HZL := Lib.hid hzl
  have HZ1 : Hid (Z.toArray.all (·.oneCell') = true) := Lib.hid (by rw [← hZ]; exact all_oneCell_toArray (Wba.one zWba))
  have HBZ : Hid (Try.prog.built 41 [] = some Z.toArray) := Lib.hid (by rw [← hZ]; exact builtZ_Wba)
  have HZC : Hid (Z = zWba.cells) := Lib.hid hZ.symm
  have HZ := Lib.hid hZ
  clear hwa hf0 hr hZ hzl
  go_enter Try.func25, Try.ntmps25
  go_upto_region 1 with (fail)
  change Code.wp _ _ _ _ (w.alloc (Obj.cells (zWba.cells).toArray 41))
  rw [← HWA.out]
  go_wp2_with fail
  refine (qBatch_any wa F g s HR.out).mono ?_
  rintro e_ w1 ⟨v, rfl, hc, hok, h1, h2⟩
  have HVS : Hid (v.cells.length = 5) := Lib.hid (rfl)
  have HAL : Hid (v.cells.toArray.all (·.oneCell') = true) := Lib.hid (all_oneCell_toArray (Wba.one _))
  have HC := Lib.hid hc
  have HOK : Hid (∀ W, Fr [w.heap.size] w1 W → ∀ S0 : List Nat, (∀ q ∈ S0, q < w.heap.size) → v.Li W S0) := Lib.hid (fun W hW S0 h0 => (hok (w.heap.size :: S0) (fun q hq => by
    have h3 := HB.out.lt
    rcases List.mem_cons.1 hq with rfl | hq
    · exact h3
    · have := h0 q hq; omega)).keep (hW.mono (fun k hk _ => by simp at hk; simp [hk])) (fun k hk _ => by simp [hk]))
  have HF1 := Lib.hid h2
  have HB1 := Lib.hid (HB.out.keep h2 (by have := HG.out; simp; omega))
  have HSZ : Hid (w.heap.size < w1.heap.size) := Lib.hid (by have := HB.out.lt; have := h2.size; omega)
  have HP : Hid (pW zWba.con pBa s = (if (pBa s).2.2 then zWba.con else (pBa s).1, (pBa s).2)) := Lib.hid rfl
  generalize hs2 : (pBa s).2 = s2 at *
  have HSE := Lib.hid hs2
  clear hs2
  obtain ⟨R, bad⟩ := s2
  have HR1 := Lib.hid h1
  obtain ⟨V, hV⟩ : ∃ V, V = v.cells := ⟨_, rfl⟩
  rw [← hV] at HVS HAL ⊢
  have HV := Lib.hid hV
  have HVT : Hid ((Try.prog.info? 41).map (·.size) = some V.toArray.size) := Lib.hid (by rw [List.size_toArray, HVS.out]; kernel_rfl)
  have HZT : Hid ((Try.prog.info? 41).map (·.size) = some Z.toArray.size) := Lib.hid (by rw [List.size_toArray, HZL.out]; kernel_rfl)
  have HBN : Hid (Blk (w1.alloc (Obj.cells (zWba.cells).toArray 41)) w1.heap.size 41 Z.toArray) := Lib.hid (by rw [HZ.out]; exact Blk.new _ _ _)
  clear hc hok h1 h2 hV
  go_upto_region 2 with (first
    | (refine wpList_store_blk rfl 41 _ _ rfl w1.heap.size V.toArray rfl rfl 41 Z.toArray HBN.out HVT.out (by rw [List.size_toArray, List.size_toArray, HVS.out, HZL.out]) HAL.out ?_
       intro w2 hb2 hf2
       have HB2 := Lib.hid hb2
       have HF2 := Lib.hid ((((Fr.refl [w1.heap.size] w1).alloc _)).trans hf2 (fun x hx _ => hx))
       clear hb2 hf2))
  have HR2 := Lib.hid (HR1.out.fr HF2.out (by have := HG.out; have := HSZ.out; simp; omega) (fun k hk hm => by have := HFL.out k hk; have := HSZ.out; simp at hm; omega))
  have HBW := Lib.hid (HB1.out.keep HF2.out (by have := HSZ.out; simp; omega))
  have HS2 : Hid (w1.heap.size < w2.heap.size) := Lib.hid HB2.out.lt
  obtain ⟨A', n', c', -, hb', -, -⟩ := HR2.out.rd
  have hbc := hb'.cell 1
  simp at hbc
  clear hb'
  cases bad
  · go_wp2_with (first
      | (refine wpList_row rfl 41 _ rfl _ _ rfl _ HB2.out.range (row_bat.of HVS.out) ?_)
      | (refine wpList_store_blk rfl 41 _ _ rfl w.heap.size V.toArray rfl rfl 41 Z.toArray HBW.out HVT.out (by rw [List.size_toArray, List.size_toArray, HVS.out, HZL.out]) HAL.out ?_
         intro w9 hb9 hf9
         have HB9 := Lib.hid hb9
         have HF9 := Lib.hid hf9
         clear hb9 hf9))
    have hq9 : Fr [w.heap.size] w1 w9 := (HF2.out.mono (T := [w.heap.size]) (fun x hx hl => by simp at hx; omega)).trans HF9.out (fun x hx _ => hx)
    refine bodyPost_ret (v := .agg V.toArray) (results_cell_row Try.results25 _ _ w.heap.size 41 V.toArray _ _ rfl HB9.out Try.underlying41 rfl HVT.out) rfl ⟨v, by rw [HV.out], ?_, fun S0 h0 => HOK.out w9 hq9 S0 h0, ?_, ?_⟩
    · rw [HP.out, HC.out (by simp)]; rfl
    · rw [HSE.out]; exact HR2.out.fr HF9.out (by have := HG.out; simp; omega) (fun k hk hm => by have := HFL.out k hk; simp at hm; omega)
    · exact (((HF0.out.mono (T := [g]) (by simp)).trans HF1.out (fun x hx _ => hx)).trans HF2.out (fun x hx hl => by have := HSZ.out; simp at hx; omega)).trans HF9.out (fun x hx hl => by simp at hx; omega)
  · go_wp2_with (first
      | (refine wpList_builtg rfl 41 _ rfl _ _ HBZ.out rfl ?_)
      | (refine wpList_store_blk rfl 41 _ _ rfl w.heap.size Z.toArray rfl rfl 41 Z.toArray HBW.out HZT.out rfl HZ1.out ?_
         intro w9 hb9 hf9
         have HB9 := Lib.hid hb9
         have HF9 := Lib.hid hf9
         clear hb9 hf9))
    refine bodyPost_ret (v := .agg Z.toArray) (results_cell_row Try.results25 _ _ w.heap.size 41 Z.toArray _ _ rfl HB9.out Try.underlying41 rfl HZT.out) rfl ⟨zWba, by rw [HZC.out], ?_, fun S0 h0 => zWba_ok w9 S0, ?_, ?_⟩
    · rw [HP.out]; rfl
    · rw [HSE.out]; exact HR2.out.fr HF9.out (by have := HG.out; simp; omega) (fun k hk hm => by have := HFL.out k hk; simp at hm; omega)
    · exact (((HF0.out.mono (T := [g]) (by simp)).trans HF1.out (fun x hx _ => hx)).trans HF2.out (fun x hx hl => by have := HSZ.out; simp at hx; omega)).trans HF9.out (fun x hx hl => by simp at hx; omega)
end Go.Proofs.Ytkofmefnlppoaaa

namespace Go.Proofs.Ytkofmefnlppoaaa
open Go.RowKit
theorem wpList_append_nil0 {P : Program} {w : World} {ops : Array Oper} {rest : List Oper} {o : Oper} {a : Act} {Q : Exit → Act → World → Prop} (hgd : o.guard = none) (s x : Operand) (t : TypeId)
    (ho : o.op = .call { callee := .builtin .append, args := #[s, x], argTypes := #[t, t] })
    (e : TypeId) (ht : P.underlying t = some (.slice e)) (hi : (P.info? e).map (fun i => (i.zero, i.size, i.bytes)) = some (some (.int .u8 0), 1, 1))
    (hs : a.eval s = .slice none 0 0) (A : Option Addr) (c : Nat) (hx : a.eval x = .slice A 0 c)
    (h : wpList P ops Q rest (a.put o.dst (.slice none 0 0)) w) : wpList P ops Q (o :: rest) a w := by
  obtain ⟨i, hi0, hz0, hz1, hz2⟩ := info_parts hi
  refine wpList_plain hgd fun K hK => ?_
  have hrun : (Builtin.append_ #[t, t] o.type #[.slice none 0 0, .slice A 0 c]).run P w = .ok (.slice none 0 0) w := by
    cases A with
    | none => simp [Builtin.append_, run_underlying ht, sizeOf, typeInfo, hi0, Builtin.lenOf, Builtin.firstCells]
    | some ad =>
      have hf := run_firstCells_some (P := P) w i.size 0 ad 0 c [] (by simp) (by simp)
      simp [Builtin.append_, run_underlying ht, sizeOf, typeInfo, hi0, Builtin.lenOf, hf, storeCells]
  unfold Oper.wp execOp
  simp only [ho, resolve, invoke, builtin, Sem.run_bind, Sem.run_pure, Result.andThen_ok, List.map_toArray, List.map_cons, List.map_nil, hs, hx, hrun]
  exact hK _ _ h
theorem copy_full (A : Option Addr) (n c : Nat) (l : List UInt8) (w : World) (hr : By w A n l) (hn : n ≤ 1073741824) :
    Calls Try.prog 16 #[.slice A n c] w fun e w' => ∃ A' c' s, e = .returned (.slice A' n c') ∧ FullB w' A' n c' l s ∧ Fr [] w w' ∧ (∀ x ∈ bk A', w.heap.size ≤ x) ∧ c' ≤ maxLen := by
  have HR := Lib.hid hr
  have HN := Lib.hid hn
  clear hr hn
  by_cases h0 : 0 < n
  · go_enter Try.func16, Try.ntmps16
    go_wp2_with (at_builtin; refine Stop.mk ?_)
    refine Stop.go ?_
    refine wpList_append_fresh rfl (.const (.slice none 0 0)) (.tmp 3) _ rfl 5 Try.underlying42 info_u8 (.slice none 0 0) (.inl rfl) rfl A n c l rfl HR.out h0 HN.out ?_
    intro g c1 sp w1 hb hc hf hg hm
    have HB := Lib.hid hb
    have HCL := Lib.hid hc
    have HF := Lib.hid hf
    have HM := Lib.hid hm
    have HG := Lib.hid hg
    clear hb hc hf hm hg
    go_wp2
    go_ret
    exact ⟨_, c1, sp, rfl, ⟨HR.out.1, HCL.out, .inr ⟨g, rfl, HB.out⟩⟩, HF.out, by intro x hx; simp [bk] at hx; subst hx; exact HG.out, HM.out⟩
  · have hn0 : n = 0 := by omega
    subst hn0
    have hl0 : l = [] := List.eq_nil_of_length_eq_zero HR.out.1
    subst hl0
    clear h0
    go_enter Try.func16, Try.ntmps16
    go_wp2_with (at_builtin; refine Stop.mk ?_)
    refine Stop.go ?_
    refine wpList_append_nil0 rfl (.const (.slice none 0 0)) (.tmp 3) _ rfl 5 Try.underlying42 info_u8 rfl A c rfl ?_
    go_wp2
    go_ret
    exact ⟨none, 0, [], rfl, ⟨rfl, rfl, .inl ⟨rfl, rfl⟩⟩, Fr.refl _ _, by simp [bk], Nat.zero_le _⟩
end Go.Proofs.Ytkofmefnlppoaaa

namespace Go.Proofs.Ytkofmefnlppoaaa
open Go.RowKit
set_option maxRecDepth 100000
theorem xor_any (b c : UInt8) : ∃ d : UInt8, bits .xor .u8 (b.toNat : Int) (c.toNat : Int) = (d.toNat : Int) := by
  have h : ∃ v : Int, bits .xor .u8 (b.toNat : Int) (c.toNat : Int) = IntKind.u8.wrap v := ⟨_, rfl⟩
  obtain ⟨v, hv⟩ := h
  rw [hv, IntKind.wrap_u8]
  refine ⟨UInt8.ofNat (v % 256).toNat, ?_⟩
  have h1 : 0 ≤ v % 256 := Int.emod_nonneg _ (by omega)
  have h2 : v % 256 < 256 := Int.emod_lt_of_pos _ (by omega)
  rw [UInt8.toNat_ofNat']
  omega
theorem FullB.fresh {w : World} {A : Option Addr} {n c : Nat} {l s : List UInt8} (h : FullB w A n c l s) (hn : 0 < n) : ∃ g, A = some ⟨g, 0, none⟩ ∧ Blk w g 5 ((l ++ s).map by8).toArray := by
  rcases h.2.2 with ⟨h1, h2⟩ | h1
  · have := h.1
    have := h.2.1
    rw [List.length_append] at this
    omega
  · exact h1
/-- what turned tells -/
def TurnPost (w : World) (n : Nat) (e : Ending) (w' : World) : Prop :=
  ∃ A' n' c' l', e = .returned (.slice A' n' c') ∧ By w' A' n' l' ∧ n' ≤ n ∧ (∀ x ∈ bk A', w.heap.size ≤ x ∧ x < w'.heap.size) ∧ Fr [] w w'
set_option maxHeartbeats 2000000 in
theorem turned_any (A : Option Addr) (n c : Nat) (l : List UInt8) (w : World) (hy : By w A n l) (hn : n ≤ 1000000) (how : Int) (h1 : -9223372036854775808 ≤ how) (h2 : how < 9223372036854775808) (at_ : Int) (h3 : -9223372036854775808 ≤ at_) (h4 : at_ < 9223372036854775808) (ch : UInt8) :
    Calls Try.prog 14 #[.slice A n c, .int .i64 how, .int .i64 at_, .int .u8 (ch.toNat : Int)] w (TurnPost w n) := by
  have HY := Lib.hid hy
  have HN := Lib.hid hn
  have HH := Lib.hid (And.intro h1 h2)
  have HA := Lib.hid (And.intro h3 h4)
  clear hy h1 h2 h3 h4
  go_enter Try.func14, Try.ntmps14
  go_wp2_with fail
  refine (copy_full A n c l w HY.out (by omega)).mono ?_
  rintro e w1 ⟨A1, c1, s1, rfl, hfu, hf1, hA1, hm1⟩
  have HFU := Lib.hid hfu
  have HF1 := Lib.hid hf1
  have HA1 := Lib.hid hA1
  have HM1 := Lib.hid hm1
  clear hfu hf1 hA1 hm1
  go_wp2_with fail
  refine (within_pos how 4 HH.out.1 HH.out.2 (by omega) (by omega) _).mono ?_
  rintro e w2 ⟨rfl, rfl⟩
  have hcl : n ≤ c1 := by have h1 := HFU.out.1; have h2 := HFU.out.2.1; rw [List.length_append] at h2; omega
  have hn0 : (n : Int) ≤ 1000000 := by omega
  obtain hq | hq | hq : how % 4 = 1 ∨ how % 4 = 2 ∨ ¬ (how % 4 = 1 ∨ how % 4 = 2) := by omega
  · have hq1 : (how % 4 == 1) = true := by simp [hq]
    clear hq
    by_cases hz : 0 < n
    · have hz0 : (0 : Int) < n := by omega
      go_wp2_with fail
      refine (within_pos at_ n HA.out.1 HA.out.2 (by omega) (by omega) _).mono ?_
      rintro e w2 ⟨rfl, rfl⟩
      obtain ⟨q, hq, hqn⟩ : ∃ q : Nat, at_ % (n : Int) = (q : Int) ∧ q < n := by
        have h1 : 0 ≤ at_ % (n : Int) := Int.emod_nonneg _ (by omega)
        have h2 : at_ % (n : Int) < n := Int.emod_lt_of_pos _ (by omega)
        exact ⟨(at_ % (n : Int)).toNat, by omega, by omega⟩
      rw [hq]
      clear hq
      obtain ⟨g, rfl, hb⟩ := HFU.out.fresh hz
      have hl1 : q < (l ++ s1).length := by have := HFU.out.2.1; omega
      have hc0 := hb.cell q
      have hz1 := hb.frozen q
      rw [show (((l ++ s1).map by8).toArray)[q]? = some (.int .u8 ((l ++ s1)[q].toNat : Int)) from by simp only [List.getElem?_toArray, List.getElem?_map, List.getElem?_eq_getElem hl1]; rfl] at hc0
      obtain ⟨x, hx⟩ := xor_any (l ++ s1)[q] ch
      generalize (l ++ s1)[q] = bq at hc0 hx
      have hbs := hb.set q (.int .u8 (x.toNat : Int))
      rw [show (((l ++ s1).map by8).toArray.setIfInBounds q (.int .u8 (x.toNat : Int))) = (((l ++ s1).set q x).map by8).toArray from by simp [List.map_set, by8]] at hbs
      have HBS := Lib.hid hbs
      have HG : Hid (w.heap.size ≤ g ∧ g < w1.heap.size) := Lib.hid ⟨HA1.out g (by simp [bk]), hb.lt⟩
      have hq0 : (0 : Int) ≤ q := by omega
      have hqn' : (q : Int) < n := by omega
      clear hb hbs hl1
      go_wp2
      go_ret
      refine ⟨some ⟨g, 0, none⟩, n, c1, ((l ++ s1).set q x).take n, rfl, ?_, Nat.le_refl _, fun y hy => ?_, HF1.out.setCell _ (fun h => by have := HG.out; simp at h; omega) _⟩
      · have hb := By.blk ((l ++ s1).set q x) HBS.out rfl
        exact hb.take (by rw [List.length_set, HFU.out.2.1]; exact hcl)
      · simp [bk] at hy
        subst hy
        have := HG.out
        simp [World.setCell]
        omega
    · have hz0 : ¬ (n : Int) > 0 := by omega
      have hz2 : ¬ (0 : Int) < n := by omega
      go_wp2
      go_ret
      exact ⟨A1, n, c1, l, rfl, HFU.out.by, Nat.le_refl _, fun x hx => ⟨HA1.out x hx, HFU.out.lt x hx⟩, HF1.out⟩
  · have hq1 : (how % 4 == 1) = false := by simp [hq]
    have hq2 : (how % 4 == 2) = true := by simp [hq]
    have hw : wrap64 ((n : Int) + 1) = (n : Int) + 1 := by unfold wrap64; omega
    clear hq
    go_wp2_with fail
    refine (within_pos at_ ((n : Int) + 1) HA.out.1 HA.out.2 (by omega) (by omega) _).mono ?_
    rintro e w2 ⟨rfl, rfl⟩
    obtain ⟨q, hq, hqn⟩ : ∃ q : Nat, at_ % ((n : Int) + 1) = (q : Int) ∧ q ≤ n := by
      have h1 : 0 ≤ at_ % ((n : Int) + 1) := Int.emod_nonneg _ (by omega)
      have h2 : at_ % ((n : Int) + 1) < (n : Int) + 1 := Int.emod_lt_of_pos _ (by omega)
      exact ⟨(at_ % ((n : Int) + 1)).toNat, by omega, by omega⟩
    rw [hq]
    clear hq hw
    have hq0 : (0 : Int) ≤ q := by omega
    have hqc : (q : Int) ≤ c1 := by omega
    go_wp2
    go_ret
    exact ⟨A1, q, c1, l.take q, rfl, HFU.out.by.take hqn, hqn, fun x hx => ⟨HA1.out x hx, HFU.out.lt x hx⟩, HF1.out⟩
  · have hq1 : (how % 4 == 1) = false := by simp; omega
    have hq2 : (how % 4 == 2) = false := by simp; omega
    clear hq
    go_wp2
    go_ret
    exact ⟨A1, n, c1, l, rfl, HFU.out.by, Nat.le_refl _, fun x hx => ⟨HA1.out x hx, HFU.out.lt x hx⟩, HF1.out⟩
end Go.Proofs.Ytkofmefnlppoaaa
