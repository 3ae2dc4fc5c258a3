/- What the proof of WireHashes stands on. -/
import Derived.Test.YtjpmiigoglcoaaaDoorKB4
import Derived.Test.YtjpmiigoglcoaaaDoorRefW
import Derived.Test.YtjpmiigoglcoaaaDoorShaL
import Derived.Test.YtjpmiigoglcoaaaDoorShaRr
import Derived.Test.YtjpmiigoglcoaaaDoorOpen
import Derived.Deep.CutBlock
import Derived.Deep.DeepCutAuto
import Derived.Laws.BitsAllLaws
set_option maxRecDepth 100000

namespace Go.Proofs.YtjpmiigoglcoaaaDoor
theorem umbrella2 : True := trivial
end Go.Proofs.YtjpmiigoglcoaaaDoor
