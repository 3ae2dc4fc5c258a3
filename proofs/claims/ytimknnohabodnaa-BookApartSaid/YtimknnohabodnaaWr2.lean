/- Package code's writer: Int, Row, Hash. -/
import Derived.Test.YtimknnohabodnaaSame
import Derived.IntWalk
namespace Go.Proofs.Ytimknnohabodnaa
open Go.RowKit

end Go.Proofs.Ytimknnohabodnaa
