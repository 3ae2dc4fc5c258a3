/- What MsgUnlike's walk stands on. -/
import Derived.Test.YtnpjihdhpoddgaaKM5
import Derived.Test.YtnpjihdhpoddgaaOpen
import Derived.Test.YtnpjihdhpoddgaaActs
set_option maxRecDepth 100000


