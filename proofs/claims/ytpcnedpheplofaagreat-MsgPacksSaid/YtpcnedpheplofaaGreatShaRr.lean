/- gavelref01's Rows: the document's own hash of rows. -/
import Derived.Test.YtpcnedpheplofaaGreatShaX
import Derived.Test.YtpcnedpheplofaaGreatShaRw
set_option linter.unusedSimpArgs false
set_option linter.unusedVariables false
namespace Go.Proofs.YtpcnedpheplofaaGreat
set_option maxRecDepth 100000
open Go.RowKit
end Go.Proofs.YtpcnedpheplofaaGreat
