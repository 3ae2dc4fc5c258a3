/- gavelref01's Of, CommitText: the document's own commitment, and what is signed of it. -/
import Derived.Test.YtdenpfcgghangaaGreatJoin
import Derived.Test.YtdenpfcgghangaaGreatCm4
set_option linter.unusedSimpArgs false
set_option linter.unusedVariables false
namespace Go.Proofs.YtdenpfcgghangaaGreat
open Go.RowKit
set_option maxRecDepth 100000
theorem refint_any (z : Int) (h2 : z < 9223372036854775808) (w : World) :
  Calls Tryz.prog 20 #[.int .i64 z] w fun e w' => ∃ A c, e = .returned (.slice A (encI z).length c) ∧ NewB w w' A (encI z).length c (encI z) := by
 unfold encI
 by_cases hz : z < 0
 · rw [show z.toNat = 0 by omega]
   exact refint_neg z hz w
 · obtain ⟨n, rfl⟩ : ∃ n : Nat, z = n := ⟨z.toNat, by omega⟩
   rw [Int.toNat_natCast]
   exact refint_nat n (by omega) w
theorem Fr.byk {w w' : World} {A : Option Addr} {n : Nat} {l : List UInt8} (hf : Fr [] w w') (h : By w A n l) : By w' A n l := h.keep hf (by simp)
end Go.Proofs.YtdenpfcgghangaaGreat
