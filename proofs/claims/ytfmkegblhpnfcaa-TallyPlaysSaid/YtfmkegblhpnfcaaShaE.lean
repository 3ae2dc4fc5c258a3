/- Package sha: ending, Sum. -/
import Derived.Test.YtfmkegblhpnfcaaShaN
import Derived.Test.YtfmkegblhpnfcaaLend
set_option linter.unusedSimpArgs false
set_option linter.unusedVariables false
namespace Go.Proofs.Ytfmkegblhpnfcaa
set_option maxRecDepth 100000
open Go.RowKit

theorem make_e (n : Nat) (hn : n ≤ 1073741824) (w : World) : ∃ wa, (Instr.makeSlice 77 (.int .i64 n) (.int .i64 n)).run Try.prog w = .ok (.slice (some ⟨w.heap.size, 0, none⟩) n n) wa ∧
    Blk wa w.heap.size 5 ((List.replicate n (0 : UInt8)).map by8).toArray ∧ Fr [] w wa := by
  obtain ⟨i, hi0, hz0, hz1, hz2⟩ := info_parts info_u8
  have h := run_make (P := Try.prog) w 77 5 i _ Try.underlying77 hi0 hz0 .i64 .i64 n (n : Int) (by omega) (by omega) (by rw [hz2]; omega) (by omega)
  rw [hz1, Nat.mul_one, madeCells_u8] at h
  refine ⟨_, by rw [h]; simp, Blk.new _ _ _, (Fr.refl [] w).alloc _⟩
theorem set_back {E T : List UInt8} {m : Nat} (h : m < E.length) (d : UInt8) : (E.take (m + 1) ++ T).set m d = E.take m ++ d :: T := by
  have e : E.take (m + 1) = E.take m ++ [E[m]] := by rw [List.take_add_one, List.getElem?_eq_getElem h]; rfl
  rw [e, List.append_assoc, List.set_append_right _ _ (by rw [List.length_take]; omega), List.length_take, Nat.min_eq_left (Nat.le_of_lt h), Nat.sub_self]
  rfl
theorem len8_len (n : Nat) : (len8 n).length = 8 := by simp [len8]
theorem len8_at (n k : Nat) (hk : k < 8) : (len8 n).drop (7 - k) = UInt8.ofNat (n * 8 / 2 ^ (8 * k) % 256) :: (len8 n).drop (8 - k) := by
  rw [List.drop_eq_getElem_cons (by rw [len8_len]; omega), show 7 - k + 1 = 8 - k by omega]
  congr 1
  unfold len8
  rw [List.getElem_map, List.getElem_range, show 7 - (7 - k) = k by omega]
theorem by8_len (n k : Nat) : by8 (UInt8.ofNat (n * 8 / 2 ^ (8 * k) % 256)) = .int .u8 ((n : Int) * 8 / 2 ^ (8 * k) % 256) := by
  unfold by8
  rw [UInt8.toNat_ofNat']
  congr 1
  have e : ((n * 8 / 2 ^ (8 * k) : Nat) : Int) = (n : Int) * 8 / 2 ^ (8 * k) := by rw [Int.natCast_ediv, Int.natCast_mul, Int.natCast_pow]; rfl
  rw [← e]
  omega

end Go.Proofs.Ytfmkegblhpnfcaa
