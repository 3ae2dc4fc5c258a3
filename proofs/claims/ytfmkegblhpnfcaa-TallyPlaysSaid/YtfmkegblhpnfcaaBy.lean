/- Helps over slices of bytes: bytes.Clone, Copy, Same, Within, Cut: what each call does to the world. -/
import Derived.Test.YtfmkegblhpnfcaaWr
import Derived.Deep.QuietTactic
import Derived.BigQuiet
set_option linter.unusedSimpArgs false
set_option linter.unusedVariables false
namespace Go.Proofs.Ytfmkegblhpnfcaa
open Go.RowKit

/-- a new slice of bytes: what it holds, and that its memory is new -/
def NewB (w w' : World) (A : Option Addr) (n c : Nat) (l : List UInt8) : Prop :=
  w'.ownsRow 0 5 1 (.slice A n c) n (l.map by8) ∧ Fr [] w w' ∧ (∀ k ∈ bk A, w.heap.size ≤ k)
theorem NewB.by {w w' : World} {A : Option Addr} {n c : Nat} {l : List UInt8} (h : NewB w w' A n c l) : By w' A n l := By.of_own h.1
theorem NewB.cap {w w' : World} {A : Option Addr} {n c : Nat} {l : List UInt8} (h : NewB w w' A n c l) : n ≤ c := by
  rcases h.1.2 with ⟨h1, h2⟩ | ⟨g, cap, cur, hv, _, _, hc, _⟩
  · injection h1; omega
  · injection hv; omega
theorem NewB.lt {w w' : World} {A : Option Addr} {n c : Nat} {l : List UInt8} (h : NewB w w' A n c l) : ∀ k ∈ bk A, k < w'.heap.size := fun k hk => own_lt h.1 k (by rw [bk_mem]; exact hk)

end Go.Proofs.Ytfmkegblhpnfcaa
