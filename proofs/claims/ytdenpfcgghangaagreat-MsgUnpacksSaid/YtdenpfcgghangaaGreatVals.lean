/- append onto an own row of one-cell values (ints, slices). -/
import Derived.Test.YtdenpfcgghangaaGreatRows
import Derived.Test.YtdenpfcgghangaaGreatMem
set_option linter.unusedSimpArgs false
set_option linter.unusedVariables false
namespace Go.Proofs.YtdenpfcgghangaaGreat
open Go.RowKit
section
variable {P : Program} (w : World)
end
end Go.Proofs.YtdenpfcgghangaaGreat
