/- Package sha: Sum; wakes. -/
import Derived.Test.YtfmkegblhpnfcaaShaE
set_option linter.unusedSimpArgs false
set_option linter.unusedVariables false
namespace Go.Proofs.Ytfmkegblhpnfcaa
set_option maxRecDepth 100000
open Go.RowKit

theorem By.blk_lt {w : World} {A : Option Addr} {n : Nat} {l : List UInt8} (h : By w A n l) (hn : 0 < n) : ∀ k ∈ bk A, k < w.heap.size := by
  obtain ⟨a, b, rfl, -, hc⟩ := h.at hn
  intro k hk
  simp [bk] at hk
  subst hk
  have := World.block_lt_of_cell? w _ hc
  rwa [add_block] at this
theorem sum_split (l : List UInt8) (q : Nat) (hq : 64 * q ≤ l.length) :
    outBytes (mixes ((ending (l.drop (64 * q)) l.length).length / 64) (mixes q st0 (l.take (64 * q))) (ending (l.drop (64 * q)) l.length)) = sumL l := by
  have e : ending l l.length = l.take (64 * q) ++ ending (l.drop (64 * q)) l.length := by
    unfold ending
    rw [← List.append_assoc, ← List.append_assoc, ← List.append_assoc, List.take_append_drop]
  have hl : (l.take (64 * q)).length = 64 * q := by rw [List.length_take]; omega
  unfold sumL
  rw [e, List.length_append, hl, show (64 * q + (ending (l.drop (64 * q)) l.length).length) / 64 = q + (ending (l.drop (64 * q)) l.length).length / 64 by omega, mixes_append _ _ _ _ _ hl]
theorem st0_nn : st0.Nn := by
  refine ⟨?_, ?_, ?_, ?_, ?_, ?_, ?_, ?_⟩ <;> (unfold st0; decide)
end Go.Proofs.Ytfmkegblhpnfcaa
