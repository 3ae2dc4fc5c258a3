/- Package code's writer: what each of its calls does to the world. -/
import Derived.Test.YtfmkegblhpnfcaaRows
import Derived.Test.YtfmkegblhpnfcaaMem
import Derived.WalkKit
import Derived.WalkSpells
import Derived.WalkLawsBesides
set_option linter.unusedSimpArgs false
set_option linter.unusedVariables false
namespace Go.Proofs.Ytfmkegblhpnfcaa
open Go.RowKit

/-- the bytes of a number -/
def enc (n : Nat) : List UInt8 := if n < 128 then [UInt8.ofNat n] else UInt8.ofNat (n % 128 + 128) :: enc (n / 128)
termination_by n
decreasing_by omega

theorem info_u8 : (Try.prog.info? 5).map (fun i => (i.zero, i.size, i.bytes)) = some (some (.int .u8 0), 1, 1) := by kernel_rfl

theorem enc_small {m : Nat} (h : m < 128) : enc m = [UInt8.ofNat m] := by rw [enc, if_pos h]
theorem enc_great {m : Nat} (h : ¬ m < 128) : enc m = UInt8.ofNat (m % 128 + 128) :: enc (m / 128) := by rw [enc, if_neg h]
theorem enc_len : ∀ (k m : Nat), m < 128 ^ (k + 1) → (enc m).length ≤ k + 1
  | 0, m, h => by rw [enc_small (by simpa using h)]; simp
  | k + 1, m, h => by
    by_cases hm : m < 128
    · rw [enc_small hm]; simp
    · rw [enc_great hm]
      have := enc_len k (m / 128) (by rw [Nat.div_lt_iff_lt_mul (by omega)]; simpa [Nat.pow_succ] using h)
      simpa using this
theorem enc_pos (m : Nat) : 0 < (enc m).length := by
  rw [enc]; split <;> simp
theorem enc_ten {m : Nat} (h : m < 18446744073709551616) : (enc m).length ≤ 10 := enc_len 9 m (Nat.lt_of_lt_of_le h (by decide))
theorem u8_small {m : Nat} (h : m < 128) : (m : Int) = ((UInt8.ofNat m).toNat : Int) := by rw [UInt8.toNat_ofNat']; omega

end Go.Proofs.Ytfmkegblhpnfcaa
