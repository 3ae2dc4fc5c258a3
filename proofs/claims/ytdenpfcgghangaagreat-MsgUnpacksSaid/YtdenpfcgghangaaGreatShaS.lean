/- Package sha: schedule. -/
import Derived.Test.YtdenpfcgghangaaGreatShaR
import Derived.RegionTactic
import Derived.BigRegion
import Derived.ChangeAlike
import Derived.Deep.DeepCutAuto
import Derived.Deep.CutBlock
import Derived.Outline
set_option linter.unusedSimpArgs false
set_option linter.unusedVariables false
namespace Go.Proofs.YtdenpfcgghangaaGreat
open Go.RowKit
def zero64 : Array Value := ((List.replicate 64 (0 : Int)).map i32).toArray
theorem Blk.word {w : World} {g : Nat} {t : TypeId} {M : List Int} (h : Blk w g t (M.map i32).toArray) {i : Nat} (hi : i < M.length) : w.cell? ⟨g, i, none⟩ = some (.int .u32 (M.getD i 0)) := by
 rw [h.cell i, List.getD]
 simp [List.getElem?_eq_getElem hi, i32]
end Go.Proofs.YtdenpfcgghangaaGreat
