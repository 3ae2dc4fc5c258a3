/- gavelkeep.Same over bytes; the example of the document (wakes). -/
import Derived.Test.YtfmkegblhpnfcaaBy
import Derived.LaidEqlPtr
set_option linter.unusedSimpArgs false
set_option linter.unusedVariables false
namespace Go.Proofs.Ytfmkegblhpnfcaa
open Go.RowKit

theorem take_eq_succ {l1 l2 : List UInt8} {k : Nat} {a b : UInt8} (h : l1.take k = l2.take k) (h1 : l1[k]? = some a) (h2 : l2[k]? = some b) (e : a = b) : l1.take (k + 1) = l2.take (k + 1) := by
  rw [List.take_add_one, List.take_add_one, h, h1, h2, e]
theorem drew_add (w : World) (a b : Nat) : (w.drewN a).drewN b = w.drewN (a + b) := by
  simp [World.drewN, Nat.add_assoc]

theorem enc_300 : enc 300 = [172, 2] := by rw [enc_great (by decide), enc_small (by decide)]; rfl

end Go.Proofs.Ytfmkegblhpnfcaa
