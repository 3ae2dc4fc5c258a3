/- Package sha: ending, Sum. -/
import Derived.Test.YtpcnedpheplofaaGreatShaN
import Derived.Test.YtpcnedpheplofaaGreatLend
set_option linter.unusedSimpArgs false
set_option linter.unusedVariables false
namespace Go.Proofs.YtpcnedpheplofaaGreat
set_option maxRecDepth 100000
open Go.RowKit
end Go.Proofs.YtpcnedpheplofaaGreat
