/- Rows of bytes: a list of them that comes in; rows of the call's own. -/
import Derived.Test.YtdenpfcgghangaaGreatRead
import Derived.Test.YtdenpfcgghangaaGreatVals
set_option linter.unusedSimpArgs false
set_option linter.unusedVariables false
namespace Go.Proofs.YtdenpfcgghangaaGreat
set_option maxRecDepth 100000
open Go.RowKit
open Go.ChangeShapes Go.WideShapes
open Go.Deep (open_slice open_slice1)
structure RowV where
 A : Option Addr
 n : Nat
 c : Nat
 b : List UInt8
def RowV.val (r : RowV) : Value := .slice r.A r.n r.c
def RowsIn (w : World) (A : Option Addr) (n : Nat) (l : List RowV) : Prop :=
 l.length = n ∧ (0 < n → ∃ ad, A = some ad ∧ ∀ i r, l[i]? = some r → By w r.A r.n r.b ∧ r.n ≤ r.c ∧ r.c ≤ maxLen ∧ w.cell? (ad.add i) = some r.val)
theorem RowsIn.at {w w' : World} {A : Option Addr} {n i : Nat} {l : List RowV} (h : RowsIn w A n l) (hb : Below w.heap.size w w') (hi : i < n) :
  ∃ ad r, A = some ad ∧ l[i]? = some r ∧ By w' r.A r.n r.b ∧ r.n ≤ r.c ∧ r.c ≤ maxLen ∧ w'.cell? (ad.add i) = some (.slice r.A r.n r.c) := by
 obtain ⟨ad, e, hc⟩ := h.2 (by omega)
 have hl : i < l.length := by rw [h.1]; exact hi
 obtain ⟨h1, h2, h3, h4⟩ := hc i l[i] (List.getElem?_eq_getElem hl)
 exact ⟨ad, l[i], e, List.getElem?_eq_getElem hl, h1.old hb, h2, h3, cell_old hb h4⟩
section
variable {H : Type} {enc : TypeId × Value → H} {w : World} {spare : Nat → Bool} {held : Bool}
end
def RowsOk (w : World) (S : List Nat) (rs : List RowV) : Prop :=
 ∀ r ∈ rs, w.ownsRow 0 5 1 (.slice r.A r.n r.c) r.n (r.b.map by8) ∧ ∀ x ∈ bk r.A, ¬ x ∈ S
theorem RowsOk.lt {w : World} {S : List Nat} {rs : List RowV} (h : RowsOk w S rs) : ∀ r ∈ rs, ∀ x ∈ bk r.A, x < w.heap.size := fun r hr x hx => own_lt (h r hr).1 x (by rw [bk_mem]; exact hx)
theorem RowsOk.keep {w w' : World} {S S' T : List Nat} {rs : List RowV} (h : RowsOk w S rs) (hf : Fr T w w') (hT : ∀ r ∈ rs, ∀ x ∈ bk r.A, ¬ x ∈ T) (hS : ∀ x ∈ S', x < w.heap.size → x ∈ S) : RowsOk w' S' rs := by
 intro r hr
 refine ⟨own_keep (h r hr).1 hf (fun x hx => hT r hr x (by rw [bk_mem] at hx; exact hx)), fun x hx hm => ?_⟩
 exact (h r hr).2 x hx (hS x hm (h.lt r hr x hx))
end Go.Proofs.YtdenpfcgghangaaGreat
