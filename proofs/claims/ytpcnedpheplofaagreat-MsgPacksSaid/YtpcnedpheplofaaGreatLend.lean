/- gavelkeep.Lend and Intact. -/
import Derived.Test.YtpcnedpheplofaaGreatFull
import Derived.Deep.RegionLaw
set_option linter.unusedSimpArgs false
set_option linter.unusedVariables false
namespace Go.Proofs.YtpcnedpheplofaaGreat
open Go.RowKit
def lent (l : List UInt8) : List UInt8 := l ++ [85, 85, 85]
end Go.Proofs.YtpcnedpheplofaaGreat
