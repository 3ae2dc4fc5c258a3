/- gavelref01's Sum: loop 4 as a declaration of its own. -/
import Derived.Test.YtkofmefnlppoaaaShaT
namespace Go.Proofs.Ytkofmefnlppoaaa
set_option maxRecDepth 100000
open Go.RowKit
end Go.Proofs.Ytkofmefnlppoaaa
