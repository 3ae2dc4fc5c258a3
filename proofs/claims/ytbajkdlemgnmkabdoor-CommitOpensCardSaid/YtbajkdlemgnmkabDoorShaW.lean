/- The example of the document (wakes) over package sha. -/
import Derived.Test.YtbajkdlemgnmkabDoorShaQ
namespace Go.Proofs.YtbajkdlemgnmkabDoor
set_option maxRecDepth 100000
open Go.RowKit

end Go.Proofs.YtbajkdlemgnmkabDoor
