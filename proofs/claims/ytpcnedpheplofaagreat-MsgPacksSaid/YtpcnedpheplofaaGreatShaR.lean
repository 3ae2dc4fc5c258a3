/- Package sha: rotate, word; gavelref01's turn. -/
import Derived.Test.YtpcnedpheplofaaGreatBy
import Derived.Test.YtpcnedpheplofaaGreatShaP
import Derived.Laws.Shifts
set_option linter.unusedSimpArgs false
set_option linter.unusedVariables false
namespace Go.Proofs.YtpcnedpheplofaaGreat
open Go.RowKit
end Go.Proofs.YtpcnedpheplofaaGreat
