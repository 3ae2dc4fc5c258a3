/- What the proof of WireGets stands on. -/
import Derived.Test.YtkofmefnlppoaaaKD5
import Derived.Test.YtkofmefnlppoaaaRefW
import Derived.Test.YtkofmefnlppoaaaShaRr
import Derived.Test.YtkofmefnlppoaaaRefTx
import Derived.Test.YtkofmefnlppoaaaOpen
import Derived.Test.YtkofmefnlppoaaaActs
set_option maxRecDepth 100000

namespace Go.Proofs.Ytkofmefnlppoaaa
theorem umbrella4 : True := trivial
end Go.Proofs.Ytkofmefnlppoaaa
