/- gavelref01's Rows: the document's own hash of rows. -/
import Derived.Test.YtjlmackfmmaknaaDoorShaX
import Derived.Test.YtjlmackfmmaknaaDoorShaRw
namespace Go.Proofs.YtjlmackfmmaknaaDoor
set_option maxRecDepth 100000
open Go.RowKit

end Go.Proofs.YtjlmackfmmaknaaDoor
