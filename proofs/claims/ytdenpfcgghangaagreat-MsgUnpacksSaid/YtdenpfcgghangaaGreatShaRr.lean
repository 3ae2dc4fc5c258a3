/- gavelref01's Rows: the document's own hash of rows. -/
import Derived.Test.YtdenpfcgghangaaGreatShaX
import Derived.Test.YtdenpfcgghangaaGreatShaRw
set_option linter.unusedSimpArgs false
set_option linter.unusedVariables false
namespace Go.Proofs.YtdenpfcgghangaaGreat
set_option maxRecDepth 100000
open Go.RowKit
end Go.Proofs.YtdenpfcgghangaaGreat
