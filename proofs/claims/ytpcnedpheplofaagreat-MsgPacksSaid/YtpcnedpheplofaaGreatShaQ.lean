/- Package sha: Sum; wakes. -/
import Derived.Test.YtpcnedpheplofaaGreatShaE
set_option linter.unusedSimpArgs false
set_option linter.unusedVariables false
namespace Go.Proofs.YtpcnedpheplofaaGreat
set_option maxRecDepth 100000
open Go.RowKit
end Go.Proofs.YtpcnedpheplofaaGreat
