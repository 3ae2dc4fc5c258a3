/- What the proofs of the laws of chapter 9 stand on. -/
import Derived.Test.YtacandocjjpfcaaDoorKF2
import Derived.Test.YtacandocjjpfcaaDoorOpen
set_option maxRecDepth 100000

namespace Go.Proofs.YtacandocjjpfcaaDoor
theorem umbrella6 : True := trivial
end Go.Proofs.YtacandocjjpfcaaDoor
