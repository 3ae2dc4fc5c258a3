/- gavelref01's Rows: the document's own hash of rows. -/
import Derived.Test.YtjpmiigoglcoaaaDoorShaX
import Derived.Test.YtjpmiigoglcoaaaDoorShaRw
namespace Go.Proofs.YtjpmiigoglcoaaaDoor
set_option maxRecDepth 100000
open Go.RowKit

end Go.Proofs.YtjpmiigoglcoaaaDoor
