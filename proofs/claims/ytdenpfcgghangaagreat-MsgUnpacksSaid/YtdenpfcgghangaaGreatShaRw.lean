/- Package sha: the hash of rows. -/
import Derived.Test.YtdenpfcgghangaaGreatShaQ
import Derived.Test.YtdenpfcgghangaaGreatRowv
import Derived.Test.YtdenpfcgghangaaGreatRefW
import Derived.Deep.DeepCutAuto
set_option linter.unusedSimpArgs false
set_option linter.unusedVariables false
namespace Go.Proofs.YtdenpfcgghangaaGreat
set_option maxRecDepth 100000
open Go.RowKit
def encRw (l : List (List UInt8)) : List UInt8 := (l.map fun b => enc b.length ++ b).flatten
def RwsIn (w : World) (A : Option Addr) (n : Nat) (rs : List RowV) : Prop :=
 rs.length = n ∧ (0 < n → ∃ ad, A = some ad ∧ ∀ i r, rs[i]? = some r → w.cell? (ad.add i) = some (.slice r.A r.n r.c)) ∧ (∀ r ∈ rs, By w r.A r.n r.b ∧ r.n ≤ 300 ∧ ∀ x ∈ bk r.A, x < w.heap.size) ∧ n ≤ 8
theorem RwsIn.at {w w' : World} {A : Option Addr} {n i : Nat} {rs : List RowV} (h : RwsIn w A n rs) (hb : Below w.heap.size w w') (hi : i < n) :
  ∃ ad r, A = some ad ∧ rs[i]? = some r ∧ By w' r.A r.n r.b ∧ r.n ≤ 300 ∧ (∀ x ∈ bk r.A, x < w.heap.size) ∧ w'.cell? (ad.add i) = some (.slice r.A r.n r.c) := by
 obtain ⟨ad, e, hc⟩ := h.2.1 (by omega)
 have hl : i < rs.length := by rw [h.1]; exact hi
 obtain ⟨h1, h2, h3⟩ := h.2.2.1 rs[i] (List.getElem_mem hl)
 exact ⟨ad, rs[i], e, List.getElem?_eq_getElem hl, h1.old hb, h2, h3, cell_old hb (hc i rs[i] (List.getElem?_eq_getElem hl))⟩
end Go.Proofs.YtdenpfcgghangaaGreat
