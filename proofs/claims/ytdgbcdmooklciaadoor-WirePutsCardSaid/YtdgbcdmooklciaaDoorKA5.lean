/- What the proofs on package wire stand on. -/
import Derived.Test.YtdgbcdmooklciaaDoorKA4
import Derived.Test.YtdgbcdmooklciaaDoorOpen
set_option maxRecDepth 100000

namespace Go.Proofs.YtdgbcdmooklciaaDoor
theorem umbrella : True := trivial
end Go.Proofs.YtdgbcdmooklciaaDoor
