/- gavelref01's Rows: the document's own hash of rows. -/
import Derived.Test.YtdgbcdmooklciaaDoorShaX
import Derived.Test.YtdgbcdmooklciaaDoorShaRw
namespace Go.Proofs.YtdgbcdmooklciaaDoor
set_option maxRecDepth 100000
open Go.RowKit

end Go.Proofs.YtdgbcdmooklciaaDoor
