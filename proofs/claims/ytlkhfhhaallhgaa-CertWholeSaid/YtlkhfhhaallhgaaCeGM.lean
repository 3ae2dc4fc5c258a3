/- Right stamps of one commitment: what is made of them is right. -/
import Derived.Test.YtlkhfhhaallhgaaKI5
namespace Go.Proofs.Ytlkhfhhaallhgaa
open Go.RowKit Go.Sort
set_option maxRecDepth 100000
theorem sgn_mem (l : List Ent) (e : Ent) : e ∈ sgn l e := by
  unfold sgn
  split
  · assumption
  · simp
theorem sgn_pre (l : List Ent) (e : Ent) : ∃ r, sgn l e = l ++ r := by
  unfold sgn
  split
  · exact ⟨[], by simp⟩
  · exact ⟨[e], rfl⟩
/-- a book that has grown -/
def Pre (l l' : List Ent) : Prop := ∃ r, l' = l ++ r
theorem Pre.refl (l : List Ent) : Pre l l := ⟨[], by simp⟩
theorem Pre.trans {a b c : List Ent} (h : Pre a b) (k : Pre b c) : Pre a c := by
  obtain ⟨r, rfl⟩ := h
  obtain ⟨s, rfl⟩ := k
  exact ⟨r ++ s, by simp⟩
theorem Pre.sgn (l : List Ent) (e : Ent) : Pre l (sgn l e) := sgn_pre l e
theorem rightB_pre {l l' : List Ent} (h : Pre l l') {x m : Int} {t : List UInt8} (hr : rightB l x m t = true) : rightB l' x m t = true := by
  obtain ⟨r, rfl⟩ := h
  unfold rightB at hr ⊢
  simp only [Bool.and_eq_true, decide_eq_true_eq] at hr ⊢
  refine ⟨List.mem_append.2 (.inl hr.1), ?_⟩
  rw [List.idxOf_append, if_pos hr.1]
  exact hr.2
theorem rightC_pre {l l' : List Ent} (h : Pre l l') {k : Int} {x : Cm} (hr : rightC k l x = true) : rightC k l' x = true := by
  unfold rightC at hr ⊢
  simp only [Bool.and_eq_true] at hr ⊢
  exact ⟨hr.1, hr.2.1, rightB_pre h hr.2.2⟩
theorem stampB_pre {l l' : List Ent} (h : Pre l l') {F : Int} {x : Wst} (hr : stampB F l x = true) : stampB F l' x = true := by
  unfold stampB at hr ⊢
  simp only [Bool.and_eq_true] at hr ⊢
  exact ⟨hr.1, hr.2.1, hr.2.2.1, hr.2.2.2.1, rightB_pre h hr.2.2.2.2⟩
theorem rightB_made (l : List Ent) (x : Int) (t : List UInt8) : rightB (sgn l (x, t)) x (mrk (sgn l (x, t)) (x, t)) t = true := by
  unfold rightB mrk
  simp [sgn_mem]
/-- what a replica stamps is right -/
theorem stOf_right {F r : Int} {x : Cm} {t : Nat} {l : List Ent} (hh : hasB F r = true) (h1 : 1 ≤ t) (h2 : t < 18446744073709551615) : stampB F (bkOf r x t l) (stOf r x t l) = true := by
  unfold stampB
  simp only [Bool.and_eq_true, decide_eq_true_eq]
  exact ⟨hh, h1, h2, rfl, rightB_made l r _⟩
theorem stOf_of (r : Int) (x : Cm) (t : Nat) (l : List Ent) (k : Wcm) (h1 : k.c = x.c) (h2 : k.s = x.s) (h3 : k.h = x.h) : ofB (stOf r x t l) k = true := by
  unfold ofB nameB stOf
  simp [h1, h2, h3]
/-- a stamp that is right, of this commitment, between two times -/
structure Gd (F : Int) (b : List Ent) (k : Wcm) (lo hi : Nat) (v : Wst) : Prop where
  ok : v.Ok
  has : hasB F v.r = true
  of : ofB v k = true
  st : stampB F b v = true
  lo : lo ≤ v.t
  hi : v.t ≤ hi
theorem Gd.pre {F : Int} {b b' : List Ent} {k : Wcm} {lo hi lo' hi' : Nat} {v : Wst} (h : Gd F b k lo hi v) (hb : Pre b b') (h1 : lo' ≤ lo) (h2 : hi ≤ hi') : Gd F b' k lo' hi' v :=
  ⟨h.ok, h.has, h.of, stampB_pre hb h.st, Nat.le_trans h1 h.lo, Nat.le_trans h.hi h2⟩
theorem apart_eq : ∀ {L : List Wst}, L.Pairwise (fun a b => a.r ≠ b.r) → ∀ {a b : Wst}, a ∈ L → b ∈ L → a.r = b.r → a = b
  | [], _, a, _, ha, _, _ => by cases ha
  | x :: L, h, a, b, ha, hb, hr => by
    rw [List.pairwise_cons] at h
    rcases List.mem_cons.1 ha with h1 | h1
    · rcases List.mem_cons.1 hb with h2 | h2
      · rw [h1, h2]
      · subst h1; exact absurd hr (h.1 b h2)
    · rcases List.mem_cons.1 hb with h2 | h2
      · subst h2; exact absurd hr.symm (h.1 a h1)
      · exact apart_eq h.2 h1 h2 hr
theorem fst1_here {k : Wcm} {L : List Wst} (hap : L.Pairwise (fun a b => a.r ≠ b.r)) {s : Wst} (hs : s ∈ L) (ho : ofB s k = true) : fst1 k L s.r = some s := by
  have h : (fst1 k L s.r).isSome = true := by
    unfold fst1
    rw [List.find?_isSome]
    exact ⟨s, hs, by simp [ho]⟩
  obtain ⟨y, hy⟩ := Option.isSome_iff_exists.1 h
  have h2 := fst1_r hy
  rw [hy, apart_eq hap h2.2.2 hs h2.1]
/-- of unlike replicas all are taken -/
theorem refL_perm {k : Wcm} {L : List Wst} {N : Nat} (hap : L.Pairwise (fun a b => a.r ≠ b.r)) (hof : ∀ v ∈ L, ofB v k = true ∧ 0 ≤ v.r ∧ v.r < N) : (refL k L N).Perm L := by
  rw [List.perm_ext_iff_of_nodup ((refL_rise k L N).imp (fun h e => by rw [e] at h; omega)) (hap.imp (fun h e => h (by rw [e])))]
  intro s
  rw [refL_mem]
  constructor
  · rintro ⟨_, _, h⟩
    exact (fst1_r h).2.2
  · intro hs
    have := hof s hs
    exact ⟨this.2.1, this.2.2, fst1_here hap hs this.1⟩
/-- stamps by rising replicas make a right certificate -/
theorem cert_good {F K : Int} {b : List Ent} {k : Wcm} {lo hi : Nat} {A : Option Addr} {n d : Nat} {L : List Wst} (hn : (n : Int) = 2 * F + 1) (hl : L.length = n) (hk : rightC K b (cmOf k) = true) (hr : L.Pairwise (fun a b => a.r < b.r)) (hg : ∀ v ∈ L, Gd F b k lo hi v) :
    certB F K b ⟨k, A, n, d, L⟩ = true := by
  refine certB_end hn hk (fun i hi => ?_)
  have hi' : i < L.length := by rw [hl]; exact hi
  have e : stA L i = L[i] := stA_of (List.getElem?_eq_getElem hi')
  have h := hg L[i] (List.getElem_mem hi')
  unfold okAt
  simp only [Bool.and_eq_true, Bool.or_eq_true, decide_eq_true_eq]
  rw [e]
  refine ⟨?_, h.of, h.st⟩
  rcases Nat.eq_zero_or_pos i with h0 | h0
  · exact .inl h0
  · right
    have hj : i - 1 < L.length := by omega
    have e2 : stA L (i - 1) = L[i - 1] := stA_of (List.getElem?_eq_getElem hj)
    rw [e2]
    exact List.pairwise_iff_getElem.1 hr (i - 1) i hj hi' (by omega)
/-- the median of times that lie between two -/
theorem med_good {F : Int} {b : List Ent} {k : Wcm} {lo hi : Nat} {L : List Wst} {m : Int} (h0 : 0 < L.length) (hm : IsMed (tmL L) m) (hg : ∀ v ∈ L, Gd F b k lo hi v) : (lo : Int) ≤ m ∧ m ≤ (hi : Int) := by
  have h : IsMed (tmL L ++ []) m := by simpa using hm
  refine h.between (by simpa [tmL] using h0) (fun x hx => ?_)
  unfold tmL at hx
  obtain ⟨y, hy, rfl⟩ := List.mem_map.1 hx
  have := hg y hy
  have h1 := this.lo
  have h2 := this.hi
  omega
def wcm (x : Cm) : Wcm := ⟨x.c, x.s, x.h, x.n, x.b, x.m⟩
theorem wcm_ok {x : Cm} (h : x.Ok) : (wcm x).Ok := ⟨h.c, h.s, h.h, h.n, h.b, h.m⟩
theorem cmOf_wcm (x : Cm) : cmOf (wcm x) = x := rfl
theorem made_c (c s : Int) (h b : List UInt8) (l : List Ent) : (made c s h b l).c = c ∧ (made c s h b l).s = s := ⟨rfl, rfl⟩
end Go.Proofs.Ytlkhfhhaallhgaa
