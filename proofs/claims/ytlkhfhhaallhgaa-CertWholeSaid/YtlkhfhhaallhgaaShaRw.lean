/- Package sha: the hash of rows. -/
import Derived.Test.YtlkhfhhaallhgaaShaQ
import Derived.Test.YtlkhfhhaallhgaaRowv
import Derived.Test.YtlkhfhhaallhgaaRefW
import Derived.Deep.DeepCutAuto
namespace Go.Proofs.Ytlkhfhhaallhgaa
set_option maxRecDepth 100000
open Go.RowKit

def encRw (l : List (List UInt8)) : List UInt8 := (l.map fun b => enc b.length ++ b).flatten
theorem encRw_snoc {l : List (List UInt8)} {k : Nat} {b : List UInt8} (h : l[k]? = some b) : encRw (l.take (k + 1)) = encRw (l.take k) ++ (enc b.length ++ b) := by
  unfold encRw
  rw [List.take_add_one, h]
  simp
/-- rows that are there, each in memory that is there -/
def RwsIn (w : World) (A : Option Addr) (n : Nat) (rs : List RowV) : Prop :=
  rs.length = n ∧ (0 < n → ∃ ad, A = some ad ∧ ∀ i r, rs[i]? = some r → w.cell? (ad.add i) = some (.slice r.A r.n r.c)) ∧ (∀ r ∈ rs, By w r.A r.n r.b ∧ r.n ≤ 300 ∧ ∀ x ∈ bk r.A, x < w.heap.size) ∧ n ≤ 8
theorem RwsIn.at {w w' : World} {A : Option Addr} {n i : Nat} {rs : List RowV} (h : RwsIn w A n rs) (hb : Below w.heap.size w w') (hi : i < n) :
    ∃ ad r, A = some ad ∧ rs[i]? = some r ∧ By w' r.A r.n r.b ∧ r.n ≤ 300 ∧ (∀ x ∈ bk r.A, x < w.heap.size) ∧ w'.cell? (ad.add i) = some (.slice r.A r.n r.c) := by
  obtain ⟨ad, e, hc⟩ := h.2.1 (by omega)
  have hl : i < rs.length := by rw [h.1]; exact hi
  obtain ⟨h1, h2, h3⟩ := h.2.2.1 rs[i] (List.getElem_mem hl)
  exact ⟨ad, rs[i], e, List.getElem?_eq_getElem hl, h1.old hb, h2, h3, cell_old hb (hc i rs[i] (List.getElem?_eq_getElem hl))⟩

theorem rws_of_own {w : World} {A : Option Addr} {k c : Nat} {rs : List RowV} (hrl : rs.length = k) (hk : k ≤ 8) (hrn : ∀ r ∈ rs, r.n ≤ 300) (ho : w.ownsRow 0 41 1 (.slice A k c) k (rs.map RowV.val)) (hok : RowsOk w [] rs) : RwsIn w A k rs := by
  refine ⟨hrl, fun h => ?_, fun r hr => ⟨By.of_own (hok r hr).1, hrn r hr, hok.lt r hr⟩, hk⟩
  obtain ⟨gq, cap, hv, _, _⟩ := ho.form h
  injection hv with hA
  subst hA
  exact ⟨_, rfl, fun i r hi => ho.cells (g := gq) rfl i (.slice r.A r.n r.c) (by rw [List.getElem?_map, hi]; rfl)⟩

end Go.Proofs.Ytlkhfhhaallhgaa
