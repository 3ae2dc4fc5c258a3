/- Package commit: signedBy, Right, Matches. -/
import Derived.Test.YtdenpfcgghangaaGreatCm3
import Derived.Test.YtdenpfcgghangaaGreatBook3
import Derived.Test.YtdenpfcgghangaaGreatRead
set_option linter.unusedSimpArgs false
set_option linter.unusedVariables false
namespace Go.Proofs.YtdenpfcgghangaaGreat
open Go.RowKit
set_option maxRecDepth 100000
def signB (b c : Int) : Bool := decide (1000 ≤ b ∧ b - 1000 = c)
def rightC (k : Int) (l : List Ent) (x : Cm) : Bool := validB k x && (signB x.b x.c && rightB l x.b x.m x.text)
def opnCells (i : Int) (A : Option Addr) (n cap : Nat) (h : List UInt8) : List Value := .int .i64 i :: .slice A n cap :: h.map by8
end Go.Proofs.YtdenpfcgghangaaGreat
