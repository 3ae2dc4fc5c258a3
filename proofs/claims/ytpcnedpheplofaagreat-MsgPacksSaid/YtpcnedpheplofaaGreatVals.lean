/- append onto an own row of one-cell values (ints, slices). -/
import Derived.Test.YtpcnedpheplofaaGreatRows
import Derived.Test.YtpcnedpheplofaaGreatMem
set_option linter.unusedSimpArgs false
set_option linter.unusedVariables false
namespace Go.Proofs.YtpcnedpheplofaaGreat
open Go.RowKit
section
variable {P : Program} (w : World)
end
end Go.Proofs.YtpcnedpheplofaaGreat
