/- gavelref01's Sum is SHA-256. -/
import Derived.Test.YtpcnedpheplofaaGreatShaT4
import Derived.Test.YtpcnedpheplofaaGreatShaT5
import Derived.Test.YtpcnedpheplofaaGreatShaT6
set_option linter.unusedSimpArgs false
set_option linter.unusedVariables false
namespace Go.Proofs.YtpcnedpheplofaaGreat
set_option maxRecDepth 100000
open Go.RowKit
end Go.Proofs.YtpcnedpheplofaaGreat
