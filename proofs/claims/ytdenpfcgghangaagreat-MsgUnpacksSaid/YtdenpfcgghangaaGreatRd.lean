/- Package code's reader. -/
import Derived.Test.YtdenpfcgghangaaGreatWr2
set_option linter.unusedSimpArgs false
set_option linter.unusedVariables false
namespace Go.Proofs.YtdenpfcgghangaaGreat
open Go.RowKit
def decF (i acc : Nat) : List UInt8 → Option (Nat × Nat)
 | [] => none
 | x :: r =>
   if i ≥ 10 then none
   else if i = 9 ∧ x.toNat % 128 > 1 then none
   else if x.toNat = 0 ∧ 0 < i then none
   else if x.toNat < 128 then some (acc + x.toNat % 128 * 2 ^ (7 * i), i + 1)
   else decF (i + 1) (acc + x.toNat % 128 * 2 ^ (7 * i)) r
def dec (l : List UInt8) : Option (Nat × Nat) := decF 0 0 l
def decN (l : List UInt8) : Nat := ((dec l).getD (0, 0)).1
def decS (l : List UInt8) : Nat := ((dec l).getD (0, 0)).2
theorem decF_at {l : List UInt8} {k : Nat} {b : UInt8} (hg : l[k]? = some b) (acc : Nat) : decF k acc (l.drop k) = decF k acc (b :: l.drop (k + 1)) := by
 rw [List.getElem?_eq_some_iff] at hg
 obtain ⟨hk, rfl⟩ := hg
 rw [List.drop_eq_getElem_cons hk]
theorem decF_end (l : List UInt8) (k acc : Nat) (h : l.length ≤ k ∨ 10 ≤ k) : decF k acc (l.drop k) = none := by
 rcases h with h | h
 · rw [List.drop_eq_nil_of_le h]; rfl
 · cases l.drop k with
   | nil => rfl
   | cons x r => rw [decF, if_pos h]
theorem decF_over {k acc : Nat} {b : UInt8} {r : List UInt8} (h9 : k = 9) (hp : b.toNat % 128 > 1) : decF k acc (b :: r) = none := by
 rw [decF, if_neg (by omega), if_pos ⟨h9, hp⟩]
theorem decF_long {k acc : Nat} {b : UInt8} {r : List UInt8} (h0 : b.toNat = 0) (hk : 0 < k) (h10 : k < 10) : decF k acc (b :: r) = none := by
 rw [decF, if_neg (by omega), if_neg (by omega), if_pos ⟨h0, hk⟩]
theorem decF_last {k acc : Nat} {b : UInt8} {r : List UInt8} (h10 : k < 10) (hov : ¬ (k = 9 ∧ b.toNat % 128 > 1)) (h0 : ¬ (b.toNat = 0 ∧ 0 < k)) (hb : b.toNat < 128) :
  decF k acc (b :: r) = some (acc + b.toNat % 128 * 2 ^ (7 * k), k + 1) := by
 rw [decF, if_neg (by omega), if_neg hov, if_neg h0, if_pos hb]
theorem decF_more {k acc : Nat} {b : UInt8} {r : List UInt8} (h10 : k < 10) (hov : ¬ (k = 9 ∧ b.toNat % 128 > 1)) (hb : ¬ b.toNat < 128) :
  decF k acc (b :: r) = decF (k + 1) (acc + b.toNat % 128 * 2 ^ (7 * k)) r := by
 rw [decF, if_neg (by omega), if_neg hov, if_neg (by omega), if_neg hb]
theorem and127 : ∀ a : Fin 256, (a.val &&& 127) = a.val % 128 := by decide +kernel
theorem u8_and127_byte (b : UInt8) : bits .and .u8 (b.toNat : Int) 127 = ((b.toNat % 128 : Nat) : Int) := by
 have h := u8_and_nat b.toNat 127 b.toNat_lt (by omega)
 have h2 := and127 ⟨b.toNat, b.toNat_lt⟩
 simp only at h2
 rw [h2] at h
 exact h
theorem shift_over (k p : Nat) (h9 : k = 9) (hp : p < 128) (h1 : p > 1) : ∃ q : Nat, IntKind.u64.wrap ((p : Int) * 2 ^ (7 * k)) = (q : Int) ∧ ((q : Int) / 2 ^ (7 * k) != (p : Int)) = true := by
 subst h9
 refine ⟨p % 2 * 2 ^ 63, ?_, ?_⟩
 · rw [IntKind.wrap_u64]; omega
 · simp only [bne_iff_ne, ne_eq]; omega
theorem shift_fits (k p acc : Nat) (hk : k < 10) (hp : p < 128) (h9 : ¬ (k = 9 ∧ p > 1)) (ha : acc < 2 ^ (7 * k)) :
  IntKind.u64.wrap ((p : Int) * 2 ^ (7 * k)) = ((p * 2 ^ (7 * k) : Nat) : Int) ∧ (((p * 2 ^ (7 * k) : Nat) : Int) / 2 ^ (7 * k) != (p : Int)) = false ∧
   bits .or .u64 (acc : Int) ((p * 2 ^ (7 * k) : Nat) : Int) = ((acc + p * 2 ^ (7 * k) : Nat) : Int) ∧ acc + p * 2 ^ (7 * k) < 2 ^ (7 * (k + 1)) ∧ acc + p * 2 ^ (7 * k) < 18446744073709551616 := by
 have hs : acc + p * 2 ^ (7 * k) < 2 ^ (7 * (k + 1)) := by
  have : 2 ^ (7 * (k + 1)) = 128 * 2 ^ (7 * k) := by rw [show 7 * (k + 1) = 7 * k + 7 from rfl, Nat.pow_add]; omega
  have h2 : p * 2 ^ (7 * k) ≤ 127 * 2 ^ (7 * k) := Nat.mul_le_mul_right _ (by omega)
  omega
 have hb : acc + p * 2 ^ (7 * k) < 18446744073709551616 := by
  by_cases h : k = 9
  · subst h
    have : p ≤ 1 := by omega
    have h2 : p * 2 ^ (7 * 9) ≤ 1 * 2 ^ (7 * 9) := Nat.mul_le_mul_right _ this
    omega
  · have : 2 ^ (7 * (k + 1)) ≤ 2 ^ 63 := Nat.pow_le_pow_right (by omega) (by omega)
    omega
 have e : ((p * 2 ^ (7 * k) : Nat) : Int) = (p : Int) * 2 ^ (7 * k) := by rw [Int.natCast_mul, Int.natCast_pow]; rfl
 refine ⟨?_, ?_, ?_, hs, hb⟩
 · rw [← e, IntKind.wrap_u64]; omega
 · have h2 : (0 : Int) < 2 ^ (7 * k) := Int.pow_pos (by omega)
   rw [e, Int.mul_ediv_cancel _ (by omega)]
   simp
 · rw [u64_or_nat _ _ (by omega) (by omega)]
   congr 1
   rw [Nat.or_comm, Nat.mul_comm, Nat.add_comm, Nat.two_pow_add_eq_or_of_lt ha]
set_option maxRecDepth 100000 in
set_option maxHeartbeats 1000000 in
theorem number_any (A : Option Addr) (n c : Nat) (l : List UInt8) (w : World) (hr : By w A n l) (hn : n ≤ 1073741824) (hc : n ≤ c) :
  Calls Tryz.prog 121 #[.slice A n c] w fun e w' => e = .returned (.tuple #[.int .u64 (decN l), .int .i64 (decS l)]) ∧ w = w' := by
 have HR := Lib.hid hr
 clear hr
 by_cases hten : n ≤ 10
 all_goals
  go_enter Tryz.func121, Tryz.ntmps121
  go_wp2
  go_loop [2, 14] (fun a i => ∃ (k acc : Nat), k ≤ n ∧ k ≤ 10 ∧ i = .int .i64 k ∧ a = .int .u64 acc ∧ dec l = decF k acc (l.drop k) ∧ acc < 2 ^ (7 * k)) (fun _ i => 10 - (intOf i).toNat)
  case atStart => exact ⟨0, 0, by omega, by omega, rfl, rfl, by simp [dec], by simp⟩
  case round =>
   obtain ⟨k, acc, hk, hk10, rfl, rfl, hd, hacc⟩ := hrel
   have HD := Lib.hid hd
   have HACC := Lib.hid hacc
   clear hd hacc
   by_cases hlt : k < n ∧ k < 10
   · obtain ⟨hltn, hlt10⟩ := hlt
     obtain ⟨a1, b1, rfl, hg1, hc1⟩ := HR.out.at hltn
     have HD1 := Lib.hid (HD.out.trans (decF_at hg1 acc))
     clear hg1
     have hk0 : (0 : Int) ≤ k := by omega
     have hb1 : (b1.toNat : Int) < 256 := by have := b1.toNat_lt; omega
     have hs1 : (7 : Int) * k ≤ 64 := by omega
     have hand := u8_and127_byte b1
     have hp : b1.toNat % 128 < 128 := by omega
     by_cases hov : k = 9 ∧ b1.toNat % 128 > 1
     · have HD2 := Lib.hid (HD1.out.trans (decF_over hov.1 hov.2))
       obtain ⟨q, hsh, hne⟩ := shift_over k _ hov.1 hp hov.2
       clear hov
       generalize b1.toNat % 128 = p at *
       go_wp2
       go_ret2
       exact ⟨by simp [decN, decS, HD2.out], rfl⟩
     · obtain ⟨hsh, hne, hor, hs, hb64⟩ := shift_fits k (b1.toNat % 128) acc hlt10 hp hov HACC.out
       have HS := Lib.hid hs
       have HB := Lib.hid hb64
       have HOV := Lib.hid hov
       clear hs hb64 hov
       by_cases h0 : b1.toNat = 0 ∧ 0 < k
       · have HD2 := Lib.hid (HD1.out.trans (decF_long h0.1 h0.2 hlt10))
         have h0b : ((b1.toNat : Int) == 0) = true := by simp; omega
         have h0k : (0 : Int) < k := by omega
         clear h0
         generalize b1.toNat % 128 * 2 ^ (7 * k) = q at *
         generalize b1.toNat % 128 = p at *
         go_wp2
         all_goals
          go_ret2
          exact ⟨by simp [decN, decS, HD2.out], rfl⟩
       · by_cases hb : b1.toNat < 128
         · have HD2 := Lib.hid (HD1.out.trans (decF_last hlt10 HOV.out h0 hb))
           have hbI : (b1.toNat : Int) < 128 := by omega
           have hor2 : ((b1.toNat : Int) == 0) = false ∨ (k : Int) ≤ 0 := by simp; omega
           clear h0
           generalize b1.toNat % 128 * 2 ^ (7 * k) = q at *
           generalize b1.toNat % 128 = p at *
           rcases hor2 with h0b | h0k
           all_goals
            go_wp2
            all_goals
             go_ret2
             exact ⟨by simp [decN, decS, HD2.out], rfl⟩
         · have HD2 := Lib.hid (HD1.out.trans (decF_more hlt10 HOV.out hb))
           have hbI : (128 : Int) ≤ b1.toNat := by omega
           have h0b : ((b1.toNat : Int) == 0) = false := by simp; omega
           clear h0
           generalize b1.toNat % 128 * 2 ^ (7 * k) = q at *
           generalize b1.toNat % 128 = p at *
           go_wp2
           go_round
           case rel => exact ⟨k + 1, acc + q, by omega, by omega, by go_num, by go_num, HD2.out, HS.out⟩
           case measure => simp [intOf]; omega
   · have HD2 := Lib.hid (HD.out.trans (decF_end l k acc (by have := HR.out.1; omega)))
     have hkI : (n : Int) ≤ k ∨ (10 : Int) ≤ k := by omega
     go_wp2
     go_ret2
     exact ⟨by simp [decN, decS, HD2.out], rfl⟩
end Go.Proofs.YtdenpfcgghangaaGreat
