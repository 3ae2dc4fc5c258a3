/- gavelref01's Rows: the document's own hash of rows. -/
import Derived.Test.YtbajkdlemgnmkaaDoorShaX
import Derived.Test.YtbajkdlemgnmkaaDoorShaRw
namespace Go.Proofs.YtbajkdlemgnmkaaDoor
set_option maxRecDepth 100000
open Go.RowKit

end Go.Proofs.YtbajkdlemgnmkaaDoor
