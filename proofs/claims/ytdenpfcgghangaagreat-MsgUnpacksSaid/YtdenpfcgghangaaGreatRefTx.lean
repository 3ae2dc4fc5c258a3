/- gavelref01's CommitText, ValidCommit, Matches. -/
import Derived.Test.YtdenpfcgghangaaGreatRefOf
set_option linter.unusedSimpArgs false
set_option linter.unusedVariables false
namespace Go.Proofs.YtdenpfcgghangaaGreat
open Go.RowKit
set_option maxRecDepth 100000
theorem NewB.from2 {w0 w w1 : World} {A : Option Addr} {n c : Nat} {l : List UInt8} (h : NewB w w1 A n c l) (hf : Fr [] w0 w) : NewB w0 w1 A n c l := ⟨h.1, hf.and h.2.1 (by simp), fun k hk => Nat.le_trans hf.size (h.2.2 k hk)⟩
theorem By.of_range {w : World} {g o : Nat} {l : List UInt8} (h : w.rangeAt g o (l.map by8)) : By w (some ⟨g, o, none⟩) l.length l :=
 ⟨rfl, fun _ => ⟨_, rfl, fun j u hu => by rw [Addr.add_mid]; exact h j u hu⟩⟩
end Go.Proofs.YtdenpfcgghangaaGreat
