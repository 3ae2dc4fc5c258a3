/- Package sha: rotate, word; gavelref01's turn. -/
import Derived.Test.YtdenpfcgghangaaGreatBy
import Derived.Test.YtdenpfcgghangaaGreatShaP
import Derived.Laws.Shifts
set_option linter.unusedSimpArgs false
set_option linter.unusedVariables false
namespace Go.Proofs.YtdenpfcgghangaaGreat
open Go.RowKit
end Go.Proofs.YtdenpfcgghangaaGreat
