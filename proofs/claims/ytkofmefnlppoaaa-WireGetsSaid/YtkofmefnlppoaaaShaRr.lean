/- gavelref01's Rows: the document's own hash of rows. -/
import Derived.Test.YtkofmefnlppoaaaShaX
import Derived.Test.YtkofmefnlppoaaaShaRw
namespace Go.Proofs.Ytkofmefnlppoaaa
set_option maxRecDepth 100000
open Go.RowKit

end Go.Proofs.Ytkofmefnlppoaaa
