/- Package code's reader: Num, Int, take, Row, Hash, OK, Left. -/
import Derived.Test.YtfmkegblhpnfcaaRd
set_option linter.unusedSimpArgs false
set_option linter.unusedVariables false
namespace Go.Proofs.Ytfmkegblhpnfcaa
open Go.RowKit

theorem bk_map (A : Option Addr) (s : Nat) : bk (A.map (·.add s)) = bk A := by
  cases A <;> simp [bk, add_block]
/-- a slice from s on -/
theorem By.cut' {w : World} {A : Option Addr} {n c s : Nat} {l : List UInt8} (h : By w A n l) (hs : s ≤ n) (hc : n ≤ c) :
    (c = s → By w A (n - s) (l.drop s)) ∧ (¬ c = s → By w (A.map (·.add s)) (n - s) (l.drop s)) := by
  have := h.cut hs hc
  exact ⟨fun e => by rw [if_pos e] at this; exact this, fun e => by rw [if_neg e] at this; exact this⟩
theorem decF_some : ∀ (l : List UInt8) (i acc n s : Nat), acc < 2 ^ (7 * i) → decF i acc l = some (n, s) → i < s ∧ s ≤ i + l.length ∧ s ≤ 10 ∧ n < 18446744073709551616 := by
  intro l
  induction l with
  | nil => intro i acc n s _ h; cases h
  | cons x r ih =>
    intro i acc n s ha h
    by_cases h10 : i ≥ 10
    · rw [decF, if_pos h10] at h; cases h
    by_cases hov : i = 9 ∧ x.toNat % 128 > 1
    · rw [decF_over hov.1 hov.2] at h; cases h
    by_cases h0 : x.toNat = 0 ∧ 0 < i
    · rw [decF_long h0.1 h0.2 (by omega)] at h; cases h
    obtain ⟨_, _, _, h1, h2⟩ := shift_fits i (x.toNat % 128) acc (by omega) (by omega) hov ha
    by_cases hb : x.toNat < 128
    · rw [decF_last (by omega) hov h0 hb] at h
      injection h with h
      injection h with h3 h4
      simp only [List.length_cons]
      omega
    · rw [decF_more (by omega) hov hb] at h
      have := ih (i + 1) _ n s h1 h
      simp only [List.length_cons]
      omega
theorem dec_some {l : List UInt8} {n s : Nat} (h : dec l = some (n, s)) : 0 < s ∧ s ≤ l.length ∧ s ≤ 10 ∧ n < 18446744073709551616 := by
  have := decF_some l 0 0 n s (by simp) h
  omega

/-! ### Int -/
/-- a number that is not there, or above most -/
def intBad (l : List UInt8) (m : Int) : Prop := dec l = none ∨ ∃ v s, dec l = some (v, s) ∧ m < v
/-! ### take -/
/-! ### Row -/
/-- a row that is not there, or above most -/
def rowBad (l : List UInt8) (m : Int) : Prop := intBad l m ∨ ∃ v s, dec l = some (v, s) ∧ (v : Int) ≤ m ∧ l.length < s + v
/-! ### NewReader -/
end Go.Proofs.Ytfmkegblhpnfcaa
