/- Package book: the contracts of Len, Right, Sign, Clone. -/
import Derived.Test.YtdenpfcgghangaaGreatBook
import Derived.Deep.RegionLaw
import Derived.Lib.SmallJoins
import Derived.Shelf.SlMaps.Clone
set_option linter.unusedSimpArgs false
set_option linter.unusedVariables false
namespace Go.Proofs.YtdenpfcgghangaaGreat
set_option maxRecDepth 100000
open Go.RowKit
theorem By.mark (w : World) (g : Nat) (hg : g = w.heap.size) (t : TypeId) (fr : Nat × Nat) (cs : Array Value) (l : List UInt8) (h : cs = (l.map by8).toArray) : By (w.alloc (.cells cs t fr)) (some ⟨g, 0, none⟩) l.length l := by
 subst hg
 exact ⟨rfl, fun _ => ⟨_, rfl, fun j u hu => by
  have hadd : (⟨w.heap.size, 0, none⟩ : Addr).add j = ⟨w.heap.size, j, none⟩ := by unfold Addr.add; split <;> simp_all
  rw [hadd, World.cell?_alloc_mark, h]
  simpa using hu⟩⟩
def rightB (l : List Ent) (x m : Int) (t : List UInt8) : Bool := decide ((x, t) ∈ l) && (((l.idxOf (x, t) + 1 : Nat) : Int) == m)
end Go.Proofs.YtdenpfcgghangaaGreat
