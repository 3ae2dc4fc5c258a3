/- Each read of a reader as one function of what is left; and what reads of written bytes, whole or cut off, come to. -/
import Derived.Test.YtdenpfcgghangaaGreatBase
import Derived.Test.YtdenpfcgghangaaGreatActs
import Derived.Stop.BytesEq
set_option linter.unusedSimpArgs false
set_option linter.unusedVariables false
namespace Go.Proofs.YtdenpfcgghangaaGreat
set_option maxRecDepth 100000
open Go.RowKit
def rdN (R : List UInt8) : Nat := match dec R with | some (v, _) => v | none => 0
def rdL (R : List UInt8) : List UInt8 := match dec R with | some (_, s) => R.drop s | none => []
def rdB (R : List UInt8) (bad : Bool) : Bool := match dec R with | some _ => bad | none => true
def inN (R : List UInt8) (m : Int) : Nat := match dec R with | some (v, _) => if (v : Int) ≤ m then v else 0 | none => 0
def inL (R : List UInt8) (m : Int) : List UInt8 := match dec R with | some (v, s) => if (v : Int) ≤ m then R.drop s else [] | none => []
def inB (R : List UInt8) (m : Int) (bad : Bool) : Bool := match dec R with | some (v, _) => if (v : Int) ≤ m then bad else true | none => true
def rwV (R : List UInt8) (m : Int) : List UInt8 := match dec R with | some (v, s) => if (v : Int) ≤ m ∧ s + v ≤ R.length then (R.drop s).take v else [] | none => []
def rwL (R : List UInt8) (m : Int) : List UInt8 := match dec R with | some (v, s) => if (v : Int) ≤ m ∧ s + v ≤ R.length then R.drop (s + v) else [] | none => []
def rwB (R : List UInt8) (m : Int) (bad : Bool) : Bool := match dec R with | some (v, s) => if (v : Int) ≤ m ∧ s + v ≤ R.length then bad else true | none => true
section
variable {w : World} {B g : Nat} {R : List UInt8} {bad : Bool}
theorem RB.le {w : World} {B g : Nat} {l : List UInt8} {bad : Bool} (h : RB w B g l bad) : B ≤ g ∧ g < w.heap.size ∧ B ≤ w.heap.size := by
 obtain ⟨F, h1, h2, h3, h4⟩ := h
 exact ⟨h2, h1.lt, h4⟩
theorem RB.below {w w' : World} {B g : Nat} {l : List UInt8} {bad : Bool} (h : RB w B g l bad) (hf : Fr [g] w w') : Below B w w' := hf.below h.le.2.2 (by have := h.le.1; simpa using this)
end
/-! ### hashes held against each other -/
theorem u8_size1 (w : World) : (sizeOf 5).run Tryz.prog w = .ok 1 w := by
 have h := u8_size
 cases hq : Tryz.prog.info? 5 with
 | none => rw [hq] at h; cases h
 | some i => rw [hq] at h; simp at h; simp [sizeOf, typeInfo, hq, h]
/-! ### what reads come to -/
theorem hashOf_len (R : List UInt8) : (hashOf R).length = 32 := by
 have := took_le R
 unfold hashOf
 rw [List.length_append, List.length_drop, List.length_replicate]
 omega
def actBytes (m : Int) (r : Nat) (v : ActV) : List UInt8 :=
 if v.d % 4 = 0 then enc v.u else if v.d % 4 = 1 then enc (v.n % m).toNat else if v.d % 4 = 2 then enc (v.b.take r).length ++ v.b.take r else v.h
def written (m : Int) (r : Nat) (l : List ActV) : List UInt8 := (l.map (actBytes m r)).flatten
def Rst (W : List UInt8) (z : Bool) (R : List UInt8) (bad : Bool) : Prop :=
 (bad = false ∧ ∃ t, R = W.take t ∧ (z = true → t = W.length) ∧ (z = false → t < W.length)) ∨ (z = false ∧ bad = true ∧ R = [])
theorem Rst.parts {X W : List UInt8} {z bad : Bool} {R : List UInt8} (h : Rst (X ++ W) z R bad) (hX : 0 < X.length) :
  (bad = false ∧ ∃ R', R = X ++ R' ∧ Rst W z R' false) ∨ (z = false ∧ ∃ t, t < X.length ∧ R = X.take t) := by
 rcases h with ⟨rfl, t, rfl, h1, h2⟩ | ⟨rfl, rfl, rfl⟩
 · by_cases ht : X.length ≤ t
   · refine .inl ⟨rfl, W.take (t - X.length), by rw [List.take_append, List.take_of_length_le ht], .inl ⟨rfl, t - X.length, rfl, fun hz => ?_, fun hz => ?_⟩⟩
     · have := h1 hz; rw [List.length_append] at this; omega
     · have := h2 hz; rw [List.length_append] at this; omega
   · refine .inr ⟨?_, t, by omega, by rw [List.take_append_of_le_length (by omega)]⟩
     cases z
     · rfl
     · have := h1 rfl; rw [List.length_append] at this; omega
 · exact .inr ⟨rfl, 0, hX, by simp⟩
theorem Rst.bad {W : List UInt8} : Rst W false [] true := .inr ⟨rfl, rfl, rfl⟩
end Go.Proofs.YtdenpfcgghangaaGreat
