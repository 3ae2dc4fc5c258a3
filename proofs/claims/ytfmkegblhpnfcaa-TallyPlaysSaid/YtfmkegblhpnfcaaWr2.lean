/- Package code's writer: Int, Row, Hash. -/
import Derived.Test.YtfmkegblhpnfcaaSame
import Derived.IntWalk
set_option linter.unusedSimpArgs false
set_option linter.unusedVariables false
namespace Go.Proofs.Ytfmkegblhpnfcaa
open Go.RowKit

end Go.Proofs.Ytfmkegblhpnfcaa
