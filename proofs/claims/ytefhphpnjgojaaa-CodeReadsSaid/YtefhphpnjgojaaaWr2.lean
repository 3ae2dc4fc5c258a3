/- Package code's writer: Int, Row, Hash. -/
import Derived.Test.YtefhphpnjgojaaaSame
import Derived.IntWalk
namespace Go.Proofs.Ytefhphpnjgojaaa
open Go.RowKit

end Go.Proofs.Ytefhphpnjgojaaa
