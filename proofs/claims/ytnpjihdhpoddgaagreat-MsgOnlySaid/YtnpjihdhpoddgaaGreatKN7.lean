/- What MsgOnly's walk stands on. -/
import Derived.Test.YtnpjihdhpoddgaaGreatKN6
import Derived.Test.YtnpjihdhpoddgaaGreatOpen
import Derived.Test.YtnpjihdhpoddgaaGreatActs
set_option linter.unusedSimpArgs false
set_option linter.unusedVariables false
set_option maxRecDepth 100000


