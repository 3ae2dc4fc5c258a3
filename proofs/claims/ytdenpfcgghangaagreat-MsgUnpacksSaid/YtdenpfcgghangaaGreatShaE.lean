/- Package sha: ending, Sum. -/
import Derived.Test.YtdenpfcgghangaaGreatShaN
import Derived.Test.YtdenpfcgghangaaGreatLend
set_option linter.unusedSimpArgs false
set_option linter.unusedVariables false
namespace Go.Proofs.YtdenpfcgghangaaGreat
set_option maxRecDepth 100000
open Go.RowKit
end Go.Proofs.YtdenpfcgghangaaGreat
