/- Rows of bytes: a list of them that comes in; rows of the call's own. -/
import Derived.Test.YtlkhfhhaallhgaaRead
import Derived.Test.YtlkhfhhaallhgaaVals
namespace Go.Proofs.Ytlkhfhhaallhgaa
set_option maxRecDepth 100000
open Go.RowKit
open Go.ChangeShapes Go.WideShapes
open Go.Deep (open_slice open_slice1)

theorem info_row : (Try.prog.info? 41).map (fun i => (i.zero, i.size, i.bytes)) = some (some (.slice none 0 0), 1, 24) := by kernel_rfl

/-- a row: a slice of bytes, with what it holds -/
structure RowV where
  A : Option Addr
  n : Nat
  c : Nat
  b : List UInt8
def RowV.val (r : RowV) : Value := .slice r.A r.n r.c
/-- a list of rows that comes in -/
def RowsIn (w : World) (A : Option Addr) (n : Nat) (l : List RowV) : Prop :=
  l.length = n ∧ (0 < n → ∃ ad, A = some ad ∧ ∀ i r, l[i]? = some r → By w r.A r.n r.b ∧ r.n ≤ r.c ∧ r.c ≤ maxLen ∧ w.cell? (ad.add i) = some r.val)
theorem RowsIn.at {w w' : World} {A : Option Addr} {n i : Nat} {l : List RowV} (h : RowsIn w A n l) (hb : Below w.heap.size w w') (hi : i < n) :
    ∃ ad r, A = some ad ∧ l[i]? = some r ∧ By w' r.A r.n r.b ∧ r.n ≤ r.c ∧ r.c ≤ maxLen ∧ w'.cell? (ad.add i) = some (.slice r.A r.n r.c) := by
  obtain ⟨ad, e, hc⟩ := h.2 (by omega)
  have hl : i < l.length := by rw [h.1]; exact hi
  obtain ⟨h1, h2, h3, h4⟩ := hc i l[i] (List.getElem?_eq_getElem hl)
  exact ⟨ad, l[i], e, List.getElem?_eq_getElem hl, h1.old hb, h2, h3, cell_old hb h4⟩
section
variable {H : Type} {enc : TypeId × Value → H} {w : World} {spare : Nat → Bool} {held : Bool}
theorem rows_of_trod {fuel : Nat} {A : Option Addr} {len cap : Nat} {x : DataW H × List MemPlace} (h : DataW.trod enc Try.prog w 0 spare held fuel 103 [.slice A len cap] = some x) :
    ∃ l, RowsIn w A len l ∧ len ≤ cap ∧ cap ≤ maxLen := by
  rcases open_slice Try.underlying103 h with ⟨hcs, _⟩ | ⟨a, len', cap', m, n, D, Pl, hcs, _, hl, hm, hmm, _, hi⟩
  · simp at hcs
    obtain ⟨rfl, rfl, rfl⟩ := hcs
    exact ⟨[], ⟨rfl, fun h => absurd h (by omega)⟩, Nat.le_refl _, Nat.zero_le _⟩
  · simp at hcs
    obtain ⟨rfl, rfl, rfl⟩ := hcs
    have hlm : len ≤ m := by rw [hmm]; split <;> omega
    have hv : ∀ i, i < len → ∃ r : RowV, By w r.A r.n r.b ∧ r.n ≤ r.c ∧ r.c ≤ maxLen ∧ w.cell? (a.add i) = some r.val := by
      intro i hil
      obtain ⟨cs', hc, ht⟩ := hi i (by omega)
      rw [show Try.prog.cellsOf 41 = 1 by kernel_rfl, Nat.mul_one] at hc
      obtain ⟨A', l', c', rfl⟩ := Go.Joins.slice_form Try.underlying41 ht
      obtain ⟨b, h1, h2, h3⟩ := by_of_trod ht
      obtain ⟨_, hcl, hat⟩ := World.cells?_some hc
      refine ⟨⟨A', l', c', b⟩, h1, h2, h3, ?_⟩
      have := hat 0 (by omega)
      simpa [Addr.add, RowV.val] using this
    refine ⟨(List.range len).map (fun i => if hi : i < len then Classical.choose (hv i hi) else ⟨none, 0, 0, []⟩), ⟨by simp, fun _ => ⟨a, rfl, fun i v hiv => ?_⟩⟩, hl, hm⟩
    simp only [List.getElem?_map, Option.map_eq_some_iff] at hiv
    obtain ⟨k, hk, rfl⟩ := hiv
    obtain ⟨hk1, hk2⟩ := List.getElem?_eq_some_iff.1 hk
    simp at hk1 hk2
    subst hk2
    rw [dif_pos hk1]
    exact Classical.choose_spec (hv i hk1)
end

/-- rows of the call's own: each in memory of its own kind, apart from the blocks of S -/
def RowsOk (w : World) (S : List Nat) (rs : List RowV) : Prop :=
  ∀ r ∈ rs, w.ownsRow 0 5 1 (.slice r.A r.n r.c) r.n (r.b.map by8) ∧ ∀ x ∈ bk r.A, ¬ x ∈ S
theorem RowsOk.lt {w : World} {S : List Nat} {rs : List RowV} (h : RowsOk w S rs) : ∀ r ∈ rs, ∀ x ∈ bk r.A, x < w.heap.size := fun r hr x hx => own_lt (h r hr).1 x (by rw [bk_mem]; exact hx)
theorem RowsOk.keep {w w' : World} {S S' T : List Nat} {rs : List RowV} (h : RowsOk w S rs) (hf : Fr T w w') (hT : ∀ r ∈ rs, ∀ x ∈ bk r.A, ¬ x ∈ T) (hS : ∀ x ∈ S', x < w.heap.size → x ∈ S) : RowsOk w' S' rs := by
  intro r hr
  refine ⟨own_keep (h r hr).1 hf (fun x hx => hT r hr x (by rw [bk_mem] at hx; exact hx)), fun x hx hm => ?_⟩
  exact (h r hr).2 x hx (hS x hm (h.lt r hr x hx))
/-- a row of rows shares no block with a row of bytes -/
theorem rows_apart {w : World} {A A' : Option Addr} {n c n' c' : Nat} {xs ys : List Value} (h : w.ownsRow 0 41 1 (.slice A n c) n xs) (h' : w.ownsRow 0 5 1 (.slice A' n' c') n' ys) : ∀ x ∈ bk A, ¬ x ∈ bk A' := by
  intro x hx hm
  rcases h'.2 with ⟨hv, _⟩ | ⟨g', cap, cur, hv, _, hh, _⟩
  · injection hv with hA
    subst hA
    simp [bk] at hm
  · injection hv with hA
    subst hA
    simp [bk] at hm
    subst hm
    exact own_ne h (g := x) (t := 5) (cs := cur) hh (by decide) (by rw [bk_mem]; exact hx)
end Go.Proofs.Ytlkhfhhaallhgaa
