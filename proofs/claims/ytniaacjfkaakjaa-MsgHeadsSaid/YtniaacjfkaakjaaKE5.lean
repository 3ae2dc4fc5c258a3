/- What the proof of MsgHeads stands on. -/
import Derived.Test.YtniaacjfkaakjaaKE4
import Derived.Test.YtniaacjfkaakjaaRefW
import Derived.Test.YtniaacjfkaakjaaOpen
import Derived.Test.YtniaacjfkaakjaaActs
import Derived.Test.YtniaacjfkaakjaaRegT
set_option maxRecDepth 100000

namespace Go.Proofs.Ytniaacjfkaakjaa
theorem umbrella5 : True := trivial
end Go.Proofs.Ytniaacjfkaakjaa
