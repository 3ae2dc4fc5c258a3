/- gavelref01's Rows: the document's own hash of rows. -/
import Derived.Test.YtlkhfhhaallhgaaShaX
import Derived.Test.YtlkhfhhaallhgaaShaRw
namespace Go.Proofs.Ytlkhfhhaallhgaa
set_option maxRecDepth 100000
open Go.RowKit

end Go.Proofs.Ytlkhfhhaallhgaa
