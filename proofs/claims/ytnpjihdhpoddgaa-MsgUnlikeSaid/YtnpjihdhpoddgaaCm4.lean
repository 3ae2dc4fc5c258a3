/- Package commit: signedBy, Right, Matches. -/
import Derived.Test.YtnpjihdhpoddgaaCm3
import Derived.Test.YtnpjihdhpoddgaaBook3
import Derived.Test.YtnpjihdhpoddgaaRead
namespace Go.Proofs.Ytnpjihdhpoddgaa
open Go.RowKit
set_option maxRecDepth 100000

def signB (b c : Int) : Bool := decide (1000 ≤ b ∧ b - 1000 = c)
def rightC (k : Int) (l : List Ent) (x : Cm) : Bool := validB k x && (signB x.b x.c && rightB l x.b x.m x.text)
/-- what opens a commitment -/
def opnCells (i : Int) (A : Option Addr) (n cap : Nat) (h : List UInt8) : List Value := .int .i64 i :: .slice A n cap :: h.map by8
theorem opn_len (i : Int) (A : Option Addr) (n cap : Nat) (h : List UInt8) (hh : h.length = 32) : (opnCells i A n cap h).length = 34 := by simp [opnCells, hh]
theorem opn_at {w : World} {g : Nat} {i : Int} {A : Option Addr} {n cap : Nat} {h : List UInt8} (hr : w.rangeAt g 0 (opnCells i A n cap h)) : w.cell? ⟨g, 1, none⟩ = some (.slice A n cap) ∧ w.rangeAt g 2 (h.map by8) := by
  refine ⟨rangeAt_cell hr 1 rfl rfl, ?_⟩
  have e : opnCells i A n cap h = [.int .i64 i, .slice A n cap] ++ (h.map by8 ++ []) := by simp [opnCells]
  rw [e] at hr
  simpa using rangeAt_sub hr
end Go.Proofs.Ytnpjihdhpoddgaa
