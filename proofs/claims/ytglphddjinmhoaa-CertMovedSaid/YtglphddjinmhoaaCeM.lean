/- Medians: what one is; that there is just one; that sorting finds it. Plain lemmas. -/
import Derived.Test.YtglphddjinmhoaaSu
namespace Go.Proofs.Ytglphddjinmhoaa
set_option maxRecDepth 100000
open Go.RowKit Go.Sort

/-- m is the middle one of l by size -/
structure IsMed (l : List Int) (m : Int) : Prop where
  mem : m ∈ l
  low : l.countP (fun x => decide (x < m)) ≤ l.length / 2
  high : l.length / 2 < l.countP (fun x => decide (x ≤ m))
theorem countP_mono {α : Type} {p q : α → Bool} {l : List α} (h : ∀ x ∈ l, p x = true → q x = true) : l.countP p ≤ l.countP q := List.countP_mono_left h
theorem IsMed.le {l : List Int} {m k : Int} (h : IsMed l m) (hk : IsMed l k) : m ≤ k := by
  rcases Int.lt_or_le k m with hlt | h2
  · have h1 := hk.high
    have h2 := h.low
    have h3 : l.countP (fun x => decide (x ≤ k)) ≤ l.countP (fun x => decide (x < m)) := countP_mono (fun x _ hx => by simp at hx ⊢; omega)
    omega
  · exact h2
theorem IsMed.one {l : List Int} {m k : Int} (h : IsMed l m) (hk : IsMed l k) : m = k := Int.le_antisymm (h.le hk) (hk.le h)
theorem IsMed.perm {l k : List Int} {m : Int} (h : IsMed l m) (hp : k.Perm l) : IsMed k m :=
  ⟨hp.mem_iff.2 h.mem, by rw [hp.countP_eq, hp.length_eq]; exact h.low, by rw [hp.countP_eq, hp.length_eq]; exact h.high⟩
/-- where times rise the median does not fall -/
theorem countP_rise {l k : List Int} (hlen : l.length = k.length) (h : ∀ (i : Nat) (x y : Int), l[i]? = some x → k[i]? = some y → x ≤ y) (m : Int) : k.countP (fun x => decide (x ≤ m)) ≤ l.countP (fun x => decide (x ≤ m)) := by
  induction l generalizing k with
  | nil => cases k <;> simp_all
  | cons a l ih =>
    rcases k with _ | ⟨b, k⟩
    · simp at hlen
    · have h0 := h 0 a b rfl rfl
      have h1 := ih (k := k) (by simpa using hlen) (fun i x y hx hy => h (i + 1) x y (by simpa using hx) (by simpa using hy))
      simp only [List.countP_cons]
      by_cases hb : b ≤ m
      · have ha : a ≤ m := by omega
        simp [hb, ha]; exact h1
      · simp only [hb, decide_false, Bool.false_eq_true, if_false]
        have : 0 ≤ (if decide (a ≤ m) = true then 1 else 0) := by split <;> omega
        omega
theorem IsMed.rise {l k : List Int} {m c : Int} (h : IsMed l m) (hk : IsMed k c) (hlen : l.length = k.length) (hr : ∀ (i : Nat) (x y : Int), l[i]? = some x → k[i]? = some y → x ≤ y) : m ≤ c := by
  rcases Int.lt_or_le c m with hlt | h2
  · have h1 := hk.high
    have h2 := h.low
    have h3 := countP_rise hlen hr c
    have h4 : l.countP (fun x => decide (x ≤ c)) ≤ l.countP (fun x => decide (x < m)) := countP_mono (fun x _ hx => by simp at hx ⊢; omega)
    omega
  · exact h2
/-- with at most half of the times made up the median is not below the least of the others, nor above the greatest -/
theorem IsMed.between {l k : List Int} {m lo hi : Int} (h : IsMed (l ++ k) m) (hlen : k.length < l.length) (hl : ∀ x ∈ l, lo ≤ x ∧ x ≤ hi) : lo ≤ m ∧ m ≤ hi := by
  have hlow := h.low
  have hhigh := h.high
  rw [List.countP_append, List.length_append] at hlow hhigh
  constructor
  · rcases Int.lt_or_le m lo with hlt | h2
    · have h3 : l.countP (fun x => decide (x ≤ m)) = 0 := List.countP_eq_zero.2 (fun x hx => by have := (hl x hx).1; simp; omega)
      have h4 := List.countP_le_length (p := fun x => decide (x ≤ m)) (l := k)
      omega
    · exact h2
  · rcases Int.lt_or_le hi m with hlt | h2
    · have h3 : l.countP (fun x => decide (x < m)) = l.length := List.countP_eq_length.2 (fun x hx => by have := (hl x hx).2; simp; omega)
      omega
    · exact h2
/-- the middle place of a row that is sorted holds the median -/
theorem isMed_sorted {d : Array Int} (h : SortedIn ltInt 0 d.size d) (h0 : 0 < d.size) : IsMed d.toList d[d.size / 2]! := by
  have hh : d.size / 2 < d.size := by omega
  have hle : ∀ i j, i ≤ j → j < d.size → d[i]! ≤ d[j]! := fun i j hij hj => by
    rcases Nat.lt_or_eq_of_le hij with h1 | h1
    · have := h i j (Nat.zero_le _) h1 hj
      unfold ltInt at this
      simp at this
      exact this
    · subst h1; exact Int.le_refl _
  have hge : ∀ i, i < d.size → d.toList[i]? = some d[i]! := fun i hi => by simp [hi]
  have hlen : d.toList.length = d.size := by simp
  refine ⟨?_, ?_, ?_⟩
  · exact List.mem_of_getElem? (hge _ hh)
  · rw [hlen]
    have e : d.toList = d.toList.take (d.size / 2) ++ d.toList.drop (d.size / 2) := (List.take_append_drop _ _).symm
    rw [e, List.countP_append]
    have h3 : (d.toList.drop (d.size / 2)).countP (fun x => decide (x < d[d.size / 2]!)) = 0 := List.countP_eq_zero.2 (fun x hx => by
      obtain ⟨i, hi⟩ := List.getElem?_of_mem hx
      rw [List.getElem?_drop] at hi
      have hil := (List.getElem?_eq_some_iff.1 hi).1
      rw [hlen] at hil
      rw [hge _ hil] at hi
      injection hi with hi
      have := hle (d.size / 2) (d.size / 2 + i) (by omega) hil
      simp
      omega)
    have h4 := List.countP_le_length (p := fun x => decide (x < d[d.size / 2]!)) (l := d.toList.take (d.size / 2))
    rw [List.length_take] at h4
    omega
  · rw [hlen]
    have e : d.toList = d.toList.take (d.size / 2 + 1) ++ d.toList.drop (d.size / 2 + 1) := (List.take_append_drop _ _).symm
    rw [e, List.countP_append]
    have h3 : (d.toList.take (d.size / 2 + 1)).countP (fun x => decide (x ≤ d[d.size / 2]!)) = (d.toList.take (d.size / 2 + 1)).length := List.countP_eq_length.2 (fun x hx => by
      obtain ⟨i, hi⟩ := List.getElem?_of_mem hx
      rw [List.getElem?_take] at hi
      split at hi
      · rename_i hlt
        have hil := (List.getElem?_eq_some_iff.1 hi).1
        rw [hlen] at hil
        rw [hge _ hil] at hi
        injection hi with hi
        have := hle i (d.size / 2) (by omega) hh
        simp
        omega
      · cases hi)
    rw [h3, List.length_take, hlen]
    omega
theorem extract_all (d : Array Int) : (d.extract 0 d.size).toList = d.toList := by simp
theorem isMed_of {d d' : Array Int} (hp : PermIn 0 d.size d d') (hs : SortedIn ltInt 0 d.size d') (h0 : 0 < d.size) : IsMed d.toList d'[d.size / 2]! := by
  have hsz := hp.1
  have h := isMed_sorted (d := d') (by rw [hsz]; exact hs) (by rw [hsz]; exact h0)
  rw [hsz] at h
  have hperm := hp.2.2
  rw [extract_all, ← hsz, extract_all] at hperm
  exact h.perm hperm.symm
/-- there is one -/
theorem isMed_ex (l : List Int) (h0 : 0 < l.length) : ∃ m, IsMed l m := by
  have h := insertionSort_holds (lt := ltInt) swo_ltInt l.toArray 0 l.toArray.size (Nat.zero_le _) (Nat.le_refl _)
  exact ⟨_, by simpa using isMed_of h.1 h.2 (by simpa using h0)⟩
end Go.Proofs.Ytglphddjinmhoaa
