/- Package sha: schedule. -/
import Derived.Test.YtfmkegblhpnfcaaShaR
import Derived.RegionTactic
import Derived.BigRegion
import Derived.ChangeAlike
import Derived.Deep.DeepCutAuto
import Derived.Deep.CutBlock
import Derived.Outline
set_option linter.unusedSimpArgs false
set_option linter.unusedVariables false
namespace Go.Proofs.Ytfmkegblhpnfcaa
open Go.RowKit

def zero64 : Array Value := ((List.replicate 64 (0 : Int)).map i32).toArray
/-- an array of words known whole: the cell at i -/
theorem Blk.word {w : World} {g : Nat} {t : TypeId} {M : List Int} (h : Blk w g t (M.map i32).toArray) {i : Nat} (hi : i < M.length) : w.cell? ⟨g, i, none⟩ = some (.int .u32 (M.getD i 0)) := by
  rw [h.cell i, List.getD]
  simp [List.getElem?_eq_getElem hi, i32]
theorem Blk.setWord {w : World} {g : Nat} {t : TypeId} {M : List Int} (h : Blk w g t (M.map i32).toArray) (i : Nat) (z : Int) : Blk (w.setCell ⟨g, i, none⟩ (.int .u32 z)) g t ((M.set i z).map i32).toArray := by
  have hbs := h.set i (.int .u32 z)
  rw [show ((M.map i32).toArray.setIfInBounds i (.int .u32 z)) = ((M.set i z).map i32).toArray from by simp [List.map_set, i32]] at hbs
  exact hbs
theorem set_takeI {M L : List Int} {j : Nat} {d : Int} (h : M.take j = L.take j) (hj : j < M.length) (hL : L[j]? = some d) : (M.set j d).take (j + 1) = L.take (j + 1) := by
  rw [List.take_add_one, List.take_add_one, hL, List.take_set_of_le (Nat.le_refl j), h, List.getElem?_set_self hj]
theorem sched0_at (l : List UInt8) {k : Nat} (hk : k < 16) : (sched0 l)[k]? = some (wdAt l (4 * k)) := by
  unfold sched0
  simp [hk]
theorem nn_set {M : List Int} (h : ∀ z ∈ M, (0 : Int) ≤ z) (i : Nat) {z : Int} (hz : 0 ≤ z) : ∀ x ∈ M.set i z, (0 : Int) ≤ x := by
  intro x hx
  rcases List.mem_or_eq_of_mem_set hx with hx | rfl
  · exact h x hx
  · exact hz
theorem wdAt_drop (l : List UInt8) (k : Nat) : wd ((l.drop k).getD 0 0) ((l.drop k).getD 1 0) ((l.drop k).getD 2 0) ((l.drop k).getD 3 0) = wdAt l k := by
  unfold wdAt
  simp [List.getD]

end Go.Proofs.Ytfmkegblhpnfcaa
