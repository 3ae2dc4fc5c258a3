/- Records, one behind the other: bytes come apart as whole records and what is none. Plain lemmas. -/
import Derived.Test.YtdakilioikhhbaaCodec
import Derived.Test.YtdakilioikhhbaaRead
namespace Go.Proofs.Ytdakilioikhhbaa
set_option maxRecDepth 100000
open Go.RowKit

/-- what is read as a number is written so -/
theorem decF_canon : ∀ (R : List UInt8) (i acc n s : Nat), decF i acc R = some (n, s) → ∃ m, i < s ∧ n = acc + m * 2 ^ (7 * i) ∧ R.take (s - i) = enc m ∧ (0 < i → 0 < m) := by
  intro R
  induction R with
  | nil => intro i acc n s h; cases h
  | cons x r ih =>
    intro i acc n s h
    by_cases h10 : i ≥ 10
    · rw [decF, if_pos h10] at h; cases h
    by_cases hov : i = 9 ∧ x.toNat % 128 > 1
    · rw [decF_over hov.1 hov.2] at h; cases h
    by_cases h0 : x.toNat = 0 ∧ 0 < i
    · rw [decF_long h0.1 h0.2 (by omega)] at h; cases h
    have hx := x.toNat_lt
    by_cases hb : x.toNat < 128
    · rw [decF_last (by omega) hov h0 hb] at h
      injection h with h
      injection h with h3 h4
      subst h3 h4
      refine ⟨x.toNat, by omega, by rw [Nat.mod_eq_of_lt hb], ?_, by omega⟩
      rw [show i + 1 - i = 1 by omega, enc_small hb]
      simp
    · rw [decF_more (by omega) hov hb] at h
      obtain ⟨m, h1, h2, h3, h4⟩ := ih (i + 1) _ n s h
      have hm := h4 (by omega)
      have hp : 2 ^ (7 * (i + 1)) = 128 * 2 ^ (7 * i) := by rw [show 7 * (i + 1) = 7 * i + 7 from rfl, Nat.pow_add]; omega
      refine ⟨x.toNat % 128 + 128 * m, by omega, ?_, ?_, fun _ => by omega⟩
      · rw [h2, hp, Nat.add_mul, ← Nat.mul_assoc, Nat.mul_comm m 128, Nat.add_assoc]
      · rw [enc_great (by omega), show (x.toNat % 128 + 128 * m) % 128 + 128 = x.toNat by omega, show (x.toNat % 128 + 128 * m) / 128 = m by omega, show s - i = (s - (i + 1)) + 1 by omega, List.take_succ_cons, h3, UInt8.ofNat_toNat]
theorem dec_canon {R : List UInt8} {n s : Nat} (h : dec R = some (n, s)) : R.take s = enc n := by
  obtain ⟨m, h1, h2, h3, _⟩ := decF_canon R 0 0 n s h
  simp at h2 h3
  rw [h2]
  exact h3

/-- a record's bytes -/
def rowB (b : List UInt8) : List UInt8 := enc b.length ++ b
def rowsB (l : List (List UInt8)) : List UInt8 := (l.map rowB).flatten
theorem rowsB_nil : rowsB [] = [] := rfl
theorem rowsB_cons (b : List UInt8) (l : List (List UInt8)) : rowsB (b :: l) = rowB b ++ rowsB l := by simp [rowsB]
theorem rowsB_snoc (l : List (List UInt8)) (b : List UInt8) : rowsB (l ++ [b]) = rowsB l ++ rowB b := by simp [rowsB]
theorem rowB_pos (b : List UInt8) : 0 < (rowB b).length := by have := enc_pos b.length; unfold rowB; rw [List.length_append]; omega
theorem rowB_len (b : List UInt8) (h : b.length < 18446744073709551616) : (rowB b).length ≤ b.length + 10 := by have := enc_ten h; unfold rowB; rw [List.length_append]; omega
theorem rowsB_count : ∀ l : List (List UInt8), l.length ≤ (rowsB l).length
  | [] => by simp [rowsB]
  | b :: l => by
    have := rowsB_count l
    have := rowB_pos b
    rw [rowsB_cons, List.length_append, List.length_cons]
    omega
/-- a record that may be -/
def Short (L : List (List UInt8)) : Prop := ∀ b ∈ L, b.length ≤ 65536
/-- bytes come apart: whole records, and what is none -/
structure Split (R : List UInt8) (L : List (List UInt8)) (T : List UInt8) : Prop where
  eq : R = rowsB L ++ T
  short : Short L
  stop : T = [] ∨ rwB T 65536 false = true
theorem split_all {L : List (List UInt8)} (h : Short L) : Split (rowsB L) L [] := ⟨by simp, h, .inl rfl⟩
theorem rwB_row {R : List UInt8} (h : rwB R 65536 false = false) : ∃ b r, R = rowB b ++ r ∧ b.length ≤ 65536 := by
  unfold rwB at h
  cases hd : dec R with
  | none => rw [hd] at h; cases h
  | some p =>
    obtain ⟨v, s⟩ := p
    rw [hd] at h
    by_cases hv : (v : Int) ≤ 65536 ∧ s + v ≤ R.length
    · have hc := dec_canon hd
      have hl : ((R.drop s).take v).length = v := by rw [List.length_take, List.length_drop]; omega
      refine ⟨(R.drop s).take v, R.drop (s + v), ?_, by rw [hl]; omega⟩
      unfold rowB
      rw [hl, ← hc, List.append_assoc, ← List.drop_drop, List.take_append_drop, List.take_append_drop]
    · simp only [if_neg hv] at h
      cases h
theorem split_ex : ∀ (n : Nat) (R : List UInt8), R.length ≤ n → ∃ L T, Split R L T
  | 0, R, h => ⟨[], [], by rw [List.eq_nil_of_length_eq_zero (by omega : R.length = 0)]; rfl, by intro b hb; simp at hb, .inl rfl⟩
  | n + 1, R, h => by
    by_cases hr : rwB R 65536 false = true
    · exact ⟨[], R, by simp [rowsB], by intro b hb; simp at hb, .inr hr⟩
    · obtain ⟨b, r, rfl, hb⟩ := rwB_row (by simpa using hr)
      obtain ⟨L, T, h1, h2, h3⟩ := split_ex n r (by have := rowB_pos b; rw [List.length_append] at h; omega)
      exact ⟨b :: L, T, by rw [rowsB_cons, h1, List.append_assoc], by intro x hx; rcases List.mem_cons.1 hx with rfl | hx; exact hb; exact h2 x hx, h3⟩
theorem Short.snoc {L : List (List UInt8)} (h : Short L) {b : List UInt8} (hb : b.length ≤ 65536) : Short (L ++ [b]) := by
  intro x hx
  rcases List.mem_append.1 hx with hx | hx
  · exact h x hx
  · simp at hx; rw [hx]; exact hb
theorem rw_row {b : List UInt8} (h : b.length ≤ 65536) (r : List UInt8) : rwV (rowB b ++ r) 65536 = b ∧ rwL (rowB b ++ r) 65536 = r ∧ ∀ bad, rwB (rowB b ++ r) 65536 bad = bad := rw_enc (by omega) (by omega) r
theorem rw_stop {T : List UInt8} (h : rwB T 65536 false = true) : rwV T 65536 = [] ∧ rwL T 65536 = [] ∧ ∀ bad, rwB T 65536 bad = true := by
  unfold rwB at h
  unfold rwV rwL rwB
  cases hd : dec T with
  | none => exact ⟨rfl, rfl, fun _ => rfl⟩
  | some p =>
    obtain ⟨v, s⟩ := p
    rw [hd] at h
    by_cases hv : (v : Int) ≤ 65536 ∧ s + v ≤ T.length
    · simp only [if_pos hv] at h; cases h
    · simp only [if_neg hv]; exact ⟨trivial, trivial, fun _ => trivial⟩
theorem rowsB_at {L : List (List UInt8)} {k : Nat} (h : k < L.length) : rowsB (L.drop k) = rowB L[k] ++ rowsB (L.drop (k + 1)) := by
  rw [List.drop_eq_getElem_cons h, rowsB_cons]
theorem rowsB_split (L : List (List UInt8)) (k : Nat) : rowsB L = rowsB (L.take k) ++ rowsB (L.drop k) := by
  unfold rowsB
  rw [← List.flatten_append, ← List.map_append, List.take_append_drop]
/-- a record that breaks off is none -/
theorem stop_cut {b : List UInt8} {k : Nat} (hb : b.length < 18446744073709551616) (hk : k < (rowB b).length) : (rowB b).take k = [] ∨ rwB ((rowB b).take k) 65536 false = true := .inr ((rw_cut hb hk).2.2 false)
end Go.Proofs.Ytdakilioikhhbaa
