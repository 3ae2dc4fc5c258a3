/- Sorting numbers of 64 digits: slices.Sort of short rows. -/
import Derived.Test.YtglphddjinmhoaaSu10
namespace Go.Proofs.Ytglphddjinmhoaa
set_option maxRecDepth 100000
open Go.RowKit Go.Sort

theorem pdq_u (blk off cap n : Nat) (hn : n < 50) (k : Nat) : PdqP blk off cap n k := by
  induction k using Nat.strongRecOn with
  | ind k ih => exact pdq_step blk off cap n k hn ih
theorem len_u (n : Nat) (hn : n < 18446744073709551616) (w : World) :
    Calls Try.prog 57 #[.int .u64 n] w fun e w' => e = .returned (.int .i64 (Lib.bitLen n : Nat)) ∧ w' = w := by
  have h := Any.bits_Len (P := Try.prog) (ρ := bitsLen_ren) bitsLen_lays (n : Int) w (by omega) (by omega)
  rw [Int.toNat_natCast] at h
  exact h
set_option maxHeartbeats 1000000 in
theorem sort_u (blk cap n : Nat) (d : Array Int) (hd : d.size = n) (hn : n < 50) (w : World) (hH : Hu w blk 0 d) (hlt : blk < w.heap.size) :
    Calls Try.prog 36 #[.slice (some ⟨blk, 0, none⟩) n cap] w fun e w' => e = .returned (.tuple #[]) ∧ ∃ d', Pu w blk 0 n 0 n d w' d' ∧ SortedIn ltInt 0 n d' := by
  have hl := fun w => len_u n (by omega) w
  have hb : Lib.bitLen n < 4611686018427387904 := Nat.lt_of_le_of_lt (Lib.bitLen_le n 62 (by omega) (by omega)) (by omega)
  have hp := pdq_u blk 0 cap n hn n 0 n (Lib.bitLen n) d w (by omega) hd hH hlt (Nat.zero_le _) (Nat.le_refl _) hb (Or.inl rfl)
  have hw : IntKind.u64.wrap (n : Int) = (n : Int) := by simp [IntKind.wrap, IntKind.bits, IntKind.signed]; omega
  generalize Lib.bitLen n = L at *
  clear hH hd
  go_enter Try.func36, Try.ntmps36
  go_wp2_with (first | (go_at_call 57; refine (hl _).mono ?_; rintro e w' ⟨rfl, rfl⟩) | (go_at_call 56; refine hp.mono ?_; rintro e w' ⟨rfl, d', h1, h2⟩))
  go_end0
  exact ⟨rfl, d', h1, h2⟩
end Go.Proofs.Ytglphddjinmhoaa
