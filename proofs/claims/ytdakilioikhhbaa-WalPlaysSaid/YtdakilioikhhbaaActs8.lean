/- The disk's list of calls that comes in ([]Act of chapter 8): what its reading says of cells. -/
import Derived.Test.YtdakilioikhhbaaActs
namespace Go.Proofs.Ytdakilioikhhbaa
set_option maxRecDepth 100000
open Go.RowKit
open Go.ChangeShapes Go.WideShapes
open Go.Deep (open_slice)

structure Act8V where
  d : Int
  q : Int
  A : Option Addr
  m : Nat
  c : Nat
  b : List UInt8
def Act8V.cells (v : Act8V) : List Value := [.int .i64 v.d, .int .i64 v.q, .slice v.A v.m v.c]
theorem Act8V.one (v : Act8V) : ∀ x ∈ v.cells, x.oneCell' = true := by
  intro x hx
  simp only [Act8V.cells, List.mem_cons, List.not_mem_nil, or_false] at hx
  rcases hx with rfl | rfl | rfl <;> rfl
structure Act8Ok (w : World) (v : Act8V) : Prop where
  d : -9223372036854775808 ≤ v.d ∧ v.d < 9223372036854775808
  q : -9223372036854775808 ≤ v.q ∧ v.q < 9223372036854775808
  b : By w v.A v.m v.b
  m : v.m ≤ v.c
  c : v.c ≤ maxLen
theorem Act8Ok.keep {w w' : World} {S : List Nat} {v : Act8V} (h : Act8Ok w v) (hf : Fr S w w') (hS : ∀ a, v.A = some a → ¬ a.block ∈ S) : Act8Ok w' v := ⟨h.d, h.q, h.b.keep hf hS, h.m, h.c⟩
theorem act8_size : (Try.prog.info? 46).map (·.size) = some 3 := by kernel_rfl
def Acts8 (w : World) (A : Option Addr) (n : Nat) (l : List Act8V) : Prop :=
  l.length = n ∧ (0 < n → ∃ ad, A = some ad ∧ ∀ i v, l[i]? = some v → Act8Ok w v ∧ ∀ j x, v.cells[j]? = some x → w.cell? (ad.add (i * 3 + j)) = some x)
theorem Acts8.at {w w' : World} {A : Option Addr} {n i : Nat} {l : List Act8V} (h : Acts8 w A n l) (hb : Below w.heap.size w w') (hi : i < n) :
    ∃ ad v, A = some ad ∧ l[i]? = some v ∧ Act8Ok w' v ∧ ∀ j x, v.cells[j]? = some x → w'.cell? (ad.add (i * 3 + j)) = some x := by
  obtain ⟨ad, e, hc⟩ := h.2 (by omega)
  have hl : i < l.length := by rw [h.1]; exact hi
  obtain ⟨h1, h2⟩ := hc i l[i] (List.getElem?_eq_getElem hl)
  exact ⟨ad, l[i], e, List.getElem?_eq_getElem hl, ⟨h1.d, h1.q, h1.b.old hb, h1.m, h1.c⟩, fun j x hx => cell_old hb (h2 j x hx)⟩
section
variable {H : Type} {enc : TypeId × Value → H} {w : World} {spare : Nat → Bool} {held : Bool}
theorem act8_of_trod {fuel : Nat} {cs : List Value} {x : DataW H × List MemPlace} (h : DataW.trod enc Try.prog w 0 spare held fuel 46 cs = some x) :
    ∃ v : Act8V, Act8Ok w v ∧ cs = v.cells := by
  obtain ⟨xs, m, _, _, hlen, hxl, hat⟩ := DataW.trod_struct Try.underlying46 h
  rw [show Try.prog.cellsOf 46 = 3 by kernel_rfl] at hlen
  have c1 : Try.prog.cellsOf 3 = 1 := by kernel_rfl
  have c3 : Try.prog.cellsOf 22 = 1 := by kernel_rfl
  have hx : ∀ i (hi : i < 3), xs[i]? = some (xs[i]'(by rw [hxl]; exact hi)) := fun i hi => List.getElem?_eq_getElem _
  have f0 : DataW.trod enc Try.prog w 0 spare held m 3 ((cs.drop 0).take (Try.prog.cellsOf 3)) = _ := (hat 0 _ rfl).trans (hx 0 (by omega))
  have f1 : DataW.trod enc Try.prog w 0 spare held m 3 ((cs.drop 1).take (Try.prog.cellsOf 3)) = _ := (hat 1 _ rfl).trans (hx 1 (by omega))
  have f3 : DataW.trod enc Try.prog w 0 spare held m 22 ((cs.drop 2).take (Try.prog.cellsOf 22)) = _ := (hat 2 _ rfl).trans (hx 2 (by omega))
  rw [c1] at f0 f1
  rw [c3] at f3
  obtain ⟨d, e0, _, w0⟩ := DataW.trod_int Try.underlying3 f0
  obtain ⟨n, e1, _, w1⟩ := DataW.trod_int Try.underlying3 f1
  obtain ⟨A, l, c, e3⟩ := Go.Joins.slice_form Try.underlying22 f3
  rw [e3] at f3
  obtain ⟨b, hb, hm, hc⟩ := by_of_trod f3
  obtain ⟨p0, p1, p2, rfl⟩ : ∃ p0 p1 p2, cs = [p0, p1, p2] := by
    rcases cs with _ | ⟨p0, _ | ⟨p1, _ | ⟨p2, _ | ⟨p5, l⟩⟩⟩⟩ <;> simp at hlen
    exact ⟨p0, p1, p2, rfl⟩
  simp at e0 e1 e3
  subst e0
  subst e1
  subst e3
  exact ⟨⟨d, n, A, l, c, b⟩, ⟨i64_of w0, i64_of w1, hb, hm, hc⟩, rfl⟩
theorem acts8_of_trod {fuel : Nat} {A : Option Addr} {len cap : Nat} {x : DataW H × List MemPlace} (h : DataW.trod enc Try.prog w 0 spare held fuel 38 [.slice A len cap] = some x) :
    ∃ l, Acts8 w A len l ∧ len ≤ cap ∧ cap ≤ maxLen := by
  rcases open_slice Try.underlying38 h with ⟨hcs, _⟩ | ⟨a, len', cap', m, n, D, Pl, hcs, _, hl, hm, hmm, _, hi⟩
  · simp at hcs
    obtain ⟨rfl, rfl, rfl⟩ := hcs
    exact ⟨[], ⟨rfl, fun h => absurd h (by omega)⟩, Nat.le_refl _, Nat.zero_le _⟩
  · simp at hcs
    obtain ⟨rfl, rfl, rfl⟩ := hcs
    have hlm : len ≤ m := by rw [hmm]; split <;> omega
    have hv : ∀ i, i < len → ∃ v : Act8V, Act8Ok w v ∧ ∀ j x, v.cells[j]? = some x → w.cell? (a.add (i * 3 + j)) = some x := by
      intro i hil
      obtain ⟨cs', hc, ht⟩ := hi i (by omega)
      rw [show Try.prog.cellsOf 46 = 3 by kernel_rfl] at hc
      obtain ⟨v, hv1, rfl⟩ := act8_of_trod ht
      obtain ⟨_, hcl, hat⟩ := World.cells?_some hc
      refine ⟨v, hv1, fun j x hx => ?_⟩
      have hj : j < v.cells.length := (List.getElem?_eq_some_iff.1 hx).1
      have := hat j (by simpa [Act8V.cells] using hj)
      rw [add_add] at this
      rw [this, hx]
    refine ⟨(List.range len).map (fun i => if hi : i < len then Classical.choose (hv i hi) else ⟨0, 0, none, 0, 0, []⟩), ⟨by simp, fun _ => ⟨a, rfl, fun i v hiv => ?_⟩⟩, hl, hm⟩
    simp only [List.getElem?_map, Option.map_eq_some_iff] at hiv
    obtain ⟨k, hk, rfl⟩ := hiv
    obtain ⟨hk1, hk2⟩ := List.getElem?_eq_some_iff.1 hk
    simp at hk1 hk2
    subst hk2
    rw [dif_pos hk1]
    exact Classical.choose_spec (hv i hk1)
end
end Go.Proofs.Ytdakilioikhhbaa
