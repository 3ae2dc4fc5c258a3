/- gavelref01's Sum is SHA-256. -/
import Derived.Test.YtdenpfcgghangaaGreatShaT4
import Derived.Test.YtdenpfcgghangaaGreatShaT5
import Derived.Test.YtdenpfcgghangaaGreatShaT6
set_option linter.unusedSimpArgs false
set_option linter.unusedVariables false
namespace Go.Proofs.YtdenpfcgghangaaGreat
set_option maxRecDepth 100000
open Go.RowKit
end Go.Proofs.YtdenpfcgghangaaGreat
