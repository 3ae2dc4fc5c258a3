/- Package sha: Sum; wakes. -/
import Derived.Test.YtdenpfcgghangaaGreatShaE
set_option linter.unusedSimpArgs false
set_option linter.unusedVariables false
namespace Go.Proofs.YtdenpfcgghangaaGreat
set_option maxRecDepth 100000
open Go.RowKit
end Go.Proofs.YtdenpfcgghangaaGreat
