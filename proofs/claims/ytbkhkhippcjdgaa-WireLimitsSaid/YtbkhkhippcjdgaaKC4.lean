/- What the proof of WireBack stands on. -/
import Derived.Test.YtbkhkhippcjdgaaKC3
import Derived.Test.YtbkhkhippcjdgaaOpen
import Derived.Test.YtbkhkhippcjdgaaActs
import Derived.Test.YtbkhkhippcjdgaaRegT
import Derived.Test.YtbkhkhippcjdgaaRp
set_option maxRecDepth 100000

namespace Go.Proofs.Ytbkhkhippcjdgaa
theorem umbrella3 : True := trivial
end Go.Proofs.Ytbkhkhippcjdgaa
