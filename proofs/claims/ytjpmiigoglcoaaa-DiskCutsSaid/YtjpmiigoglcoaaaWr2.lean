/- Package code's writer: Int, Row, Hash. -/
import Derived.Test.YtjpmiigoglcoaaaSame
import Derived.IntWalk
namespace Go.Proofs.Ytjpmiigoglcoaaa
open Go.RowKit

end Go.Proofs.Ytjpmiigoglcoaaa
