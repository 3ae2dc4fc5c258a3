/- Numbers' bytes: what was written is read; what is written longer, or breaks off, is none. Plain lemmas. -/
import Derived.Test.YtfmkegblhpnfcaaRd
set_option linter.unusedSimpArgs false
set_option linter.unusedVariables false
namespace Go.Proofs.Ytfmkegblhpnfcaa
open Go.RowKit

theorem ofNat_toNat {m : Nat} (h : m < 256) : (UInt8.ofNat m).toNat = m := by rw [UInt8.toNat_ofNat']; omega

theorem decF_enc : ∀ (m i acc : Nat) (r : List UInt8), i ≤ 9 → (i = 0 ∨ 0 < m) → acc + m * 2 ^ (7 * i) < 18446744073709551616 → decF i acc (enc m ++ r) = some (acc + m * 2 ^ (7 * i), i + (enc m).length) := by
  intro m
  induction m using Nat.strongRecOn with
  | _ m ih =>
    intro i acc r hi h0 hb
    by_cases hm : m < 128
    · have e := ofNat_toNat (m := m) (by omega)
      rw [enc_small hm, List.singleton_append, decF_last (by omega) (by
        rw [e]
        rintro ⟨rfl, h⟩
        have h2 : 2 * 2 ^ (7 * 9) ≤ m * 2 ^ (7 * 9) := Nat.mul_le_mul_right _ (by omega)
        omega) (by rw [e]; omega) (by rw [e]; exact hm), e, Nat.mod_eq_of_lt hm]
      rfl
    · have e := ofNat_toNat (m := m % 128 + 128) (by omega)
      have hi9 : ¬ i = 9 := by
        rintro rfl
        have h2 : 2 * 2 ^ (7 * 9) ≤ m * 2 ^ (7 * 9) := Nat.mul_le_mul_right _ (by omega)
        omega
      have hp : 2 ^ (7 * (i + 1)) = 128 * 2 ^ (7 * i) := by rw [show 7 * (i + 1) = 7 * i + 7 from rfl, Nat.pow_add]; omega
      have hsum : m % 128 * 2 ^ (7 * i) + m / 128 * 2 ^ (7 * (i + 1)) = m * 2 ^ (7 * i) := by
        rw [hp, ← Nat.mul_assoc, ← Nat.add_mul]
        congr 1
        omega
      have := ih (m / 128) (by omega) (i + 1) (acc + m % 128 * 2 ^ (7 * i)) r (by omega) (by omega) (by omega)
      rw [enc_great hm, List.cons_append, decF_more (by omega) (by rw [e]; omega) (by rw [e]; omega), e, show (m % 128 + 128) % 128 = m % 128 by omega, this]
      simp only [Option.some.injEq, Prod.mk.injEq, List.length_cons]
      omega
theorem dec_enc {m : Nat} (h : m < 18446744073709551616) (r : List UInt8) : dec (enc m ++ r) = some (m, (enc m).length) := by
  have := decF_enc m 0 0 r (by omega) (.inl rfl) (by omega)
  simpa [dec] using this

/-- bytes that all go on -/
theorem decF_open : ∀ (p : List UInt8) (i acc : Nat), (∀ b ∈ p, 128 ≤ b.toNat) → decF i acc p = none := by
  intro p
  induction p with
  | nil => intros; rfl
  | cons x r ih =>
    intro i acc h
    by_cases h10 : i ≥ 10
    · rw [decF, if_pos h10]
    by_cases hov : i = 9 ∧ x.toNat % 128 > 1
    · exact decF_over hov.1 hov.2
    have hx := h x (by simp)
    rw [decF_more (by omega) hov (by omega)]
    exact ih _ _ (fun b hb => h b (by simp [hb]))
/-- a last byte of 0 behind others -/
theorem decF_zero : ∀ (p : List UInt8) (i acc : Nat) (r : List UInt8), (∀ b ∈ p, 128 ≤ b.toNat) → 0 < i + p.length → decF i acc (p ++ 0 :: r) = none := by
  intro p
  induction p with
  | nil =>
    intro i acc r _ hp
    by_cases h10 : i ≥ 10
    · rw [List.nil_append, decF, if_pos h10]
    · exact decF_long rfl (by simpa using hp) (by omega)
  | cons x q ih =>
    intro i acc r h _
    rw [List.cons_append]
    by_cases h10 : i ≥ 10
    · rw [decF, if_pos h10]
    by_cases hov : i = 9 ∧ x.toNat % 128 > 1
    · exact decF_over hov.1 hov.2
    have hx := h x (by simp)
    rw [decF_more (by omega) hov (by omega)]
    exact ih _ _ r (fun b hb => h b (by simp [hb])) (by omega)
/-- all bytes of a number but the last go on -/
theorem enc_open : ∀ (m : Nat), ∀ b ∈ (enc m).dropLast, 128 ≤ b.toNat := by
  intro m
  induction m using Nat.strongRecOn with
  | _ m ih =>
    by_cases hm : m < 128
    · rw [enc_small hm]; simp
    · have e := ofNat_toNat (m := m % 128 + 128) (by omega)
      rw [enc_great hm, List.dropLast_cons_of_ne_nil (by intro h; have := enc_pos (m / 128); rw [h] at this; simp at this)]
      intro b hb
      rcases List.mem_cons.1 hb with rfl | hb
      · rw [e]; omega
      · exact ih (m / 128) (by omega) b hb
/-- a number that breaks off is none -/
theorem dec_prefix {m k : Nat} (h : k < (enc m).length) : dec ((enc m).take k) = none := by
  refine decF_open _ 0 0 (fun b hb => enc_open m b ?_)
  rw [List.dropLast_eq_take]
  exact List.mem_of_mem_take (i := k) (by rw [List.take_take, Nat.min_eq_left (by omega)]; exact hb)
/-- a number that is written longer is none -/
theorem dec_longer (m : Nat) (b : UInt8) (hb : 128 ≤ b.toNat) : dec ((enc m).set ((enc m).length - 1) b ++ [0]) = none := by
  have hl := enc_pos m
  refine decF_zero _ 0 0 [] (fun x hx => ?_) (by simp; omega)
  have e : (enc m).set ((enc m).length - 1) b = (enc m).dropLast ++ [b] := by
    have hne : enc m ≠ [] := by intro h; rw [h] at hl; simp at hl
    conv => lhs; rw [← List.dropLast_concat_getLast hne]
    rw [List.set_append, if_neg (by simp)]
    simp
  rw [e] at hx
  rcases List.mem_append.1 hx with hx | hx
  · exact enc_open m x hx
  · simp at hx; rw [hx]; exact hb
theorem dec_over : dec [255, 255, 255, 255, 255, 255, 255, 255, 255, 2] = none := by decide +kernel

theorem u8_or128_any (b : UInt8) : ∃ b' : UInt8, bits .or .u8 (b.toNat : Int) 128 = (b'.toNat : Int) ∧ 128 ≤ b'.toNat := by
  have h := u8_or128_byte b.toNat
  have hb := b.toNat_lt
  rw [show (b.toNat : Int) % 256 = b.toNat by omega] at h
  exact ⟨_, h, by rw [ofNat_toNat (by omega)]; omega⟩
/-! ### a store into an own row of bytes -/
theorem own_store {w : World} {e : TypeId} {A : Option Addr} {n c j : Nat} {l : List UInt8} (h : w.ownsRow 0 e 1 (.slice A n c) n (l.map by8)) (hj : j < n) :
    ∃ ad b, A = some ad ∧ l[j]? = some b ∧ w.cell? (ad.add j) = some (.int .u8 (b.toNat : Int)) ∧ w.frozen? (ad.add j) = false ∧
      ∀ (x : Int) (b' : UInt8), x = (b'.toNat : Int) → (w.setCell (ad.add j) (.int .u8 x)).ownsRow 0 e 1 (.slice A n c) n ((l.set j b').map by8) ∧ Fr (bk A) w (w.setCell (ad.add j) (.int .u8 x)) := by
  obtain ⟨g, cap, hv, _, hlt⟩ := h.form (by omega)
  injection hv with hA hn hc
  subst hA hc
  have hl : l.length = n := by have := h.1; simpa using this
  have hjl : j < l.length := by omega
  have hadd : (⟨g, 0, none⟩ : Addr).add j = ⟨g, j, none⟩ := by unfold Addr.add; split <;> simp_all
  refine ⟨⟨g, 0, none⟩, l[j], rfl, List.getElem?_eq_getElem hjl, ?_, ?_, fun x b' hx => ?_⟩
  · rw [hadd, h.cellAt j (by omega)]
    simp [List.getElem?_eq_getElem hjl, by8]
  · rw [hadd]; exact h.frozenAt j
  · rw [hadd]
    refine ⟨?_, (Fr.refl _ w).setCell _ (fun _ => by simp [bk]) _⟩
    have := (h.stored j (.int .u8 x)).1
    rw [List.map_set]
    rw [show by8 b' = Value.int .u8 x by rw [by8, hx]]
    exact this
end Go.Proofs.Ytfmkegblhpnfcaa
