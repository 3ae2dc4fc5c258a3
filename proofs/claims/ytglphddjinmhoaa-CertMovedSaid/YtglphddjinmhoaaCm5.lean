/- Package commit: Make. -/
import Derived.Test.YtglphddjinmhoaaCm4
import Derived.IntWalk
namespace Go.Proofs.Ytglphddjinmhoaa
open Go.RowKit
set_option maxRecDepth 100000

/-! ### a struct is built of parts -/
def splice (l : List Value) (o : Nat) (v : List Value) : List Value := l.take o ++ (v ++ l.drop (o + v.length))
theorem splice_foldl : ∀ (v : List Value) (k o : Nat) (cs : Array Value), o + k + v.length ≤ cs.size →
    (v.zipIdx k).foldl (fun cs (c, j) => cs.setIfInBounds (o + j) c) cs = (splice cs.toList (o + k) v).toArray
  | [], k, o, cs, _ => by
    simp [splice]
  | c :: r, k, o, cs, h => by
    simp only [List.length_cons] at h
    rw [List.zipIdx_cons, List.foldl_cons, splice_foldl r (k + 1) o _ (by simp; omega)]
    congr 1
    unfold splice
    simp only [Array.toList_setIfInBounds, List.length_cons]
    have h1 : o + k < cs.toList.length := by simp; omega
    rw [show o + (k + 1) = (o + k) + 1 by omega, List.take_add_one, List.take_set_of_le (Nat.le_refl _), List.getElem?_set_self h1, List.drop_set_of_lt (by omega)]
    simp [Nat.add_assoc, Nat.add_comm, Nat.add_left_comm]
theorem fill_step (place : Nat → Option (Nat × Nat)) (cells : Array Value) (i off size : Nat) (v : Value) (rest : List (Nat × Value)) (hp : place i = some (off, size)) (h1 : v.cells.size = size) (h2 : off + size ≤ cells.size) :
    Instr.fill place cells ((i, v) :: rest) = Instr.fill place (splice cells.toList off v.cells.toList).toArray rest := by
  rw [Instr.fill, hp]
  simp only [h1]
  rw [if_neg (by simp; omega)]
  congr 1
  have e := splice_foldl v.cells.toList 0 off cells (by simp [h1]; omega)
  rw [Nat.add_zero] at e
  rw [← e, ← Array.foldl_toList, Array.toList_zipIdx]

def zeroCm : Array Value := (Cm.cells ⟨0, 0, List.replicate 32 0, 0, 0, 0⟩).toArray
def places : List (Nat × Nat) := [(0, 2), (2, 32), (34, 1), (35, 2)]
theorem built_eq (parts : List (Nat × Value)) : Try.prog.built 46 parts = Instr.fill (places.toArray[·]?) zeroCm parts := by kernel_rfl
theorem built_commit (c s n : Int) (h : List UInt8) (hh : h.length = 32) :
    Try.prog.built 46 [(0, .agg #[.int .i64 c, .int .i64 s]), (1, .agg (h.map by8).toArray), (2, .int .i64 n)] = some (Cm.cells ⟨c, s, h, n, 0, 0⟩).toArray := by
  have hz : zeroCm.size = 37 := rfl
  rw [built_eq, fill_step _ _ 0 0 2 _ _ rfl rfl (by rw [hz]; omega), fill_step _ _ 1 2 32 _ _ rfl (by simp [Value.cells, hh]) (by simp [splice, zeroCm, Cm.cells, Value.cells]),
    fill_step _ _ 2 34 1 _ _ rfl rfl (by simp [splice, zeroCm, Cm.cells, Value.cells, hh]), Instr.fill]
  congr 2
  simp [splice, zeroCm, Cm.cells, Value.cells, hh, List.drop_append]

theorem cells_sig (c s n b m b' m' : Int) (h : List UInt8) (hh : h.length = 32) : (((Cm.cells ⟨c, s, h, n, b, m⟩).toArray.setIfInBounds 35 (.int .i64 b')).setIfInBounds 36 (.int .i64 m')) = (Cm.cells ⟨c, s, h, n, b', m'⟩).toArray := by
  simp [Cm.cells, List.set_append, hh]
theorem setCells_two (w : World) (g o : Nat) (x y : Value) : w.setCells g o [x, y] = (w.setCell ⟨g, o, none⟩ x).setCell ⟨g, o + 1, none⟩ y := rfl
theorem Blk.there {w : World} {g : Nat} {t : TypeId} {cs : Array Value} (h : Blk w g t cs) (o n : Nat) (hl : o + n ≤ cs.size) : w.there g o n := fun j hj => by
  refine ⟨?_, h.frozen _⟩
  rw [h.cell, Array.getElem?_eq_getElem (by omega)]
  rfl
/-- what Make makes, its signature aside -/
def made0 (c s : Int) (h b : List UInt8) : Cm := ⟨c, s, sumL (ofL c s h b), b.length, 0, 0⟩
def made (c s : Int) (h b : List UInt8) (l : List Ent) : Cm :=
  ⟨c, s, sumL (ofL c s h b), b.length, 1000 + c, mrk (sgn l (1000 + c, (made0 c s h b).text)) (1000 + c, (made0 c s h b).text)⟩
theorem made_text (c s : Int) (h b : List UInt8) (l : List Ent) : (made c s h b l).text = (made0 c s h b).text := rfl

end Go.Proofs.Ytglphddjinmhoaa
