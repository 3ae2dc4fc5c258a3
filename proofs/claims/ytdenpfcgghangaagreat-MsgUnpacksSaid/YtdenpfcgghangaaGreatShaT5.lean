/- gavelref01's Sum: loop 5 as a declaration of its own. -/
import Derived.Test.YtdenpfcgghangaaGreatShaT
set_option linter.unusedSimpArgs false
set_option linter.unusedVariables false
namespace Go.Proofs.YtdenpfcgghangaaGreat
set_option maxRecDepth 100000
open Go.RowKit
end Go.Proofs.YtdenpfcgghangaaGreat
