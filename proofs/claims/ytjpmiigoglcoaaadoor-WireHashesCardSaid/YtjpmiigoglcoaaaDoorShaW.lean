/- The example of the document (wakes) over package sha. -/
import Derived.Test.YtjpmiigoglcoaaaDoorShaQ
namespace Go.Proofs.YtjpmiigoglcoaaaDoor
set_option maxRecDepth 100000
open Go.RowKit

end Go.Proofs.YtjpmiigoglcoaaaDoor
