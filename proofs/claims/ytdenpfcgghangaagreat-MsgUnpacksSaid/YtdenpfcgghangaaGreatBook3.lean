/- Package book: the contract of Sign. -/
import Derived.Test.YtdenpfcgghangaaGreatBook2
set_option linter.unusedSimpArgs false
set_option linter.unusedVariables false
namespace Go.Proofs.YtdenpfcgghangaaGreat
set_option maxRecDepth 100000
open Go.RowKit
def sgn (l : List Ent) (e : Ent) : List Ent := if e ∈ l then l else l ++ [e]
def mrk (l : List Ent) (e : Ent) : Int := ((l.idxOf e + 1 : Nat) : Int)
end Go.Proofs.YtdenpfcgghangaaGreat
