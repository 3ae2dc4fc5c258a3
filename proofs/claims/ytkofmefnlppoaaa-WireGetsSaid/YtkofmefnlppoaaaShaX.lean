/- gavelref01's Sum is SHA-256. -/
import Derived.Test.YtkofmefnlppoaaaShaT4
import Derived.Test.YtkofmefnlppoaaaShaT5
import Derived.Test.YtkofmefnlppoaaaShaT6
namespace Go.Proofs.Ytkofmefnlppoaaa
set_option maxRecDepth 100000
open Go.RowKit

end Go.Proofs.Ytkofmefnlppoaaa
