/- Package book: the contract of Sign. -/
import Derived.Test.YtnpjihdhpoddgaaBook2
namespace Go.Proofs.Ytnpjihdhpoddgaa
set_option maxRecDepth 100000
open Go.RowKit

/-- the entries once e was signed -/
def sgn (l : List Ent) (e : Ent) : List Ent := if e ∈ l then l else l ++ [e]
def mrk (l : List Ent) (e : Ent) : Int := ((l.idxOf e + 1 : Nat) : Int)

theorem mrk_old {l : List Ent} {e : Ent} (h : e ∈ l) : sgn l e = l := if_pos h
theorem mrk_new {l : List Ent} {e : Ent} (h : ¬ e ∈ l) : mrk (l ++ [e]) e = (l.length + 1 : Nat) := by
  unfold mrk
  simp [List.idxOf_append, h]
theorem rightB_sgn (l : List Ent) (x : Int) (t : List UInt8) : rightB (sgn l (x, t)) x (mrk (sgn l (x, t)) (x, t)) t = true := by
  unfold rightB mrk sgn
  split <;> simp_all

end Go.Proofs.Ytnpjihdhpoddgaa
