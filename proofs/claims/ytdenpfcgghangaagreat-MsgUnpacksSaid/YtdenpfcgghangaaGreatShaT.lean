/- gavelref01's Sum: its loops as declarations of their own. -/
import Derived.Test.YtdenpfcgghangaaGreatShaQ
import Derived.Test.YtdenpfcgghangaaGreatRefW
import Derived.Deep.RegionHeld3
import Derived.Deep.CutRange
import Derived.Great.BuildSlice
import Derived.Outline
set_option linter.unusedSimpArgs false
set_option linter.unusedVariables false
namespace Go.Proofs.YtdenpfcgghangaaGreat
set_option maxRecDepth 100000
open Go.RowKit
def loopsOf : Code → List Code
 | .loop c => c :: loopsOf c
 | .seq a b => loopsOf a ++ loopsOf b
 | .block _ c => loopsOf c
 | .scope c => loopsOf c
 | .cond _ a b => loopsOf a ++ loopsOf b
 | _ => []
end Go.Proofs.YtdenpfcgghangaaGreat
