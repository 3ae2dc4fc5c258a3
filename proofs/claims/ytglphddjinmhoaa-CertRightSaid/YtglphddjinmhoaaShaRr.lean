/- gavelref01's Rows: the document's own hash of rows. -/
import Derived.Test.YtglphddjinmhoaaShaX
import Derived.Test.YtglphddjinmhoaaShaRw
namespace Go.Proofs.Ytglphddjinmhoaa
set_option maxRecDepth 100000
open Go.RowKit

end Go.Proofs.Ytglphddjinmhoaa
