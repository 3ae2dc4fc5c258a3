/- Stamps, acks, votes, denials, signatures that come in: what their reading says of cells. -/
import Derived.Test.YtnpjihdhpoddgaaGreatNm2
import Derived.Test.YtnpjihdhpoddgaaGreatWd
set_option linter.unusedSimpArgs false
set_option linter.unusedVariables false
namespace Go.Proofs.YtnpjihdhpoddgaaGreat
open Go.ChangeShapes Go.WideShapes Go.ChangeAt Go.RowKit
set_option maxRecDepth 100000
theorem cut_at {α : Type} (l : List α) (o n k : Nat) (hk : o + n = k) : l.drop o = (l.drop o).take n ++ l.drop k := by
  subst hk
  rw [← List.drop_drop, List.take_append_drop]
theorem stamp_open {H : Type} {enc : TypeId × Value → H} {W : World} {r : Reach} {base b0 : Nat} {v : Value} {d : DataW H} {p : List MemPlace} {sp : Nat → Bool} {held : Bool} (hv : Value.okWide Tryz.prog W r base 32 v) (h : DataW.Trod enc Tryz.prog W b0 sp held 32 v d p) (hb : b0 = 0) :
    ∃ x : Wst, x.Ok ∧ v = x.val := by
  subst hb
  unfold Value.okWide at hv
  rw [Tryz.underlying32] at hv
  obtain ⟨cs, rfl, -⟩ := hv
  obtain ⟨fuel, hf⟩ := h
  obtain ⟨xs, m, _, _, hlen, hxl, hat⟩ := DataW.trod_struct Tryz.underlying32 (show DataW.trod enc Tryz.prog W 0 sp held fuel 32 cs.toList = some (d, p) from hf)
  rw [show Tryz.prog.cellsOf 32 = 38 by kernel_rfl] at hlen
  have hx : ∀ i (hi : i < 5), xs[i]? = some (xs[i]'(by rw [hxl]; exact hi)) := fun i hi => List.getElem?_eq_getElem _
  have f0 : DataW.trod enc Tryz.prog W 0 sp held m 3 ((cs.toList.drop 0).take (Tryz.prog.cellsOf 3)) = _ := (hat 0 _ rfl).trans (hx 0 (by omega))
  rw [show Tryz.prog.cellsOf 3 = 1 by kernel_rfl] at f0
  obtain ⟨r, e0, _, w0⟩ := DataW.trod_int Tryz.underlying3 f0
  have f1 : DataW.trod enc Tryz.prog W 0 sp held m 23 ((cs.toList.drop 1).take (Tryz.prog.cellsOf 23)) = _ := (hat 1 _ rfl).trans (hx 1 (by omega))
  rw [show Tryz.prog.cellsOf 23 = 2 by kernel_rfl] at f1
  obtain ⟨c, s, w1, w1', e1⟩ := pair_of_trod Tryz.underlying23 ⟨rfl, rfl⟩ ⟨rfl, rfl⟩ (by kernel_rfl) f1
  have f2 : DataW.trod enc Tryz.prog W 0 sp held m 25 ((cs.toList.drop 3).take (Tryz.prog.cellsOf 25)) = _ := (hat 2 _ rfl).trans (hx 2 (by omega))
  rw [show Tryz.prog.cellsOf 25 = 32 by kernel_rfl] at f2
  obtain ⟨hh, w2, e2⟩ := hash_of_trod f2
  have f3 : DataW.trod enc Tryz.prog W 0 sp held m 30 ((cs.toList.drop 35).take (Tryz.prog.cellsOf 30)) = _ := (hat 3 _ rfl).trans (hx 3 (by omega))
  rw [show Tryz.prog.cellsOf 30 = 1 by kernel_rfl] at f3
  obtain ⟨u3, e3, _, w3⟩ := DataW.trod_int Tryz.underlying30 f3
  obtain ⟨t, rfl, b3⟩ := u64_of w3
  have f4 : DataW.trod enc Tryz.prog W 0 sp held m 27 ((cs.toList.drop 36).take (Tryz.prog.cellsOf 27)) = _ := (hat 4 _ rfl).trans (hx 4 (by omega))
  rw [show Tryz.prog.cellsOf 27 = 2 by kernel_rfl] at f4
  obtain ⟨b, mm, w4, w4', e4⟩ := pair_of_trod Tryz.underlying27 ⟨rfl, rfl⟩ ⟨rfl, rfl⟩ (by kernel_rfl) f4
  refine ⟨⟨r, c, s, hh, t, b, mm⟩, ⟨i64In_of w0, w1, w1', w2, b3, w4, w4'⟩, ?_⟩
  have key : cs.toList = Wst.cells ⟨r, c, s, hh, t, b, mm⟩ := by
    have z : cs.toList.drop 38 = [] := List.drop_eq_nil_of_le (by omega)
    have s0 : cs.toList = cs.toList.drop 0 := rfl
    rw [s0, cut_at cs.toList 0 1 1 rfl, e0, cut_at cs.toList 1 2 3 rfl, e1, cut_at cs.toList 3 32 35 rfl, e2, cut_at cs.toList 35 1 36 rfl, e3, cut_at cs.toList 36 2 38 rfl, e4, z]
    simp [Wst.cells]
  show Value.agg cs = Value.agg _
  rw [← key, Array.toArray_toList]
theorem ack_open {H : Type} {enc : TypeId × Value → H} {W : World} {r : Reach} {base b0 : Nat} {v : Value} {d : DataW H} {p : List MemPlace} {sp : Nat → Bool} {held : Bool} (hv : Value.okWide Tryz.prog W r base 37 v) (h : DataW.Trod enc Tryz.prog W b0 sp held 37 v d p) (hb : b0 = 0) :
    ∃ x : Wst, x.Ok ∧ v = x.val := by
  subst hb
  unfold Value.okWide at hv
  rw [Tryz.underlying37] at hv
  obtain ⟨cs, rfl, -⟩ := hv
  obtain ⟨fuel, hf⟩ := h
  obtain ⟨xs, m, _, _, hlen, hxl, hat⟩ := DataW.trod_struct Tryz.underlying37 (show DataW.trod enc Tryz.prog W 0 sp held fuel 37 cs.toList = some (d, p) from hf)
  rw [show Tryz.prog.cellsOf 37 = 38 by kernel_rfl] at hlen
  have hx : ∀ i (hi : i < 5), xs[i]? = some (xs[i]'(by rw [hxl]; exact hi)) := fun i hi => List.getElem?_eq_getElem _
  have f0 : DataW.trod enc Tryz.prog W 0 sp held m 3 ((cs.toList.drop 0).take (Tryz.prog.cellsOf 3)) = _ := (hat 0 _ rfl).trans (hx 0 (by omega))
  rw [show Tryz.prog.cellsOf 3 = 1 by kernel_rfl] at f0
  obtain ⟨r, e0, _, w0⟩ := DataW.trod_int Tryz.underlying3 f0
  have f1 : DataW.trod enc Tryz.prog W 0 sp held m 23 ((cs.toList.drop 1).take (Tryz.prog.cellsOf 23)) = _ := (hat 1 _ rfl).trans (hx 1 (by omega))
  rw [show Tryz.prog.cellsOf 23 = 2 by kernel_rfl] at f1
  obtain ⟨c, s, w1, w1', e1⟩ := pair_of_trod Tryz.underlying23 ⟨rfl, rfl⟩ ⟨rfl, rfl⟩ (by kernel_rfl) f1
  have f2 : DataW.trod enc Tryz.prog W 0 sp held m 25 ((cs.toList.drop 3).take (Tryz.prog.cellsOf 25)) = _ := (hat 2 _ rfl).trans (hx 2 (by omega))
  rw [show Tryz.prog.cellsOf 25 = 32 by kernel_rfl] at f2
  obtain ⟨hh, w2, e2⟩ := hash_of_trod f2
  have f3 : DataW.trod enc Tryz.prog W 0 sp held m 30 ((cs.toList.drop 35).take (Tryz.prog.cellsOf 30)) = _ := (hat 3 _ rfl).trans (hx 3 (by omega))
  rw [show Tryz.prog.cellsOf 30 = 1 by kernel_rfl] at f3
  obtain ⟨u3, e3, _, w3⟩ := DataW.trod_int Tryz.underlying30 f3
  obtain ⟨t, rfl, b3⟩ := u64_of w3
  have f4 : DataW.trod enc Tryz.prog W 0 sp held m 27 ((cs.toList.drop 36).take (Tryz.prog.cellsOf 27)) = _ := (hat 4 _ rfl).trans (hx 4 (by omega))
  rw [show Tryz.prog.cellsOf 27 = 2 by kernel_rfl] at f4
  obtain ⟨b, mm, w4, w4', e4⟩ := pair_of_trod Tryz.underlying27 ⟨rfl, rfl⟩ ⟨rfl, rfl⟩ (by kernel_rfl) f4
  refine ⟨⟨r, c, s, hh, t, b, mm⟩, ⟨i64In_of w0, w1, w1', w2, b3, w4, w4'⟩, ?_⟩
  have key : cs.toList = Wst.cells ⟨r, c, s, hh, t, b, mm⟩ := by
    have z : cs.toList.drop 38 = [] := List.drop_eq_nil_of_le (by omega)
    have s0 : cs.toList = cs.toList.drop 0 := rfl
    rw [s0, cut_at cs.toList 0 1 1 rfl, e0, cut_at cs.toList 1 2 3 rfl, e1, cut_at cs.toList 3 32 35 rfl, e2, cut_at cs.toList 35 1 36 rfl, e3, cut_at cs.toList 36 2 38 rfl, e4, z]
    simp [Wst.cells]
  show Value.agg cs = Value.agg _
  rw [← key, Array.toArray_toList]
theorem vote_open {H : Type} {enc : TypeId × Value → H} {W : World} {r : Reach} {base b0 : Nat} {v : Value} {d : DataW H} {p : List MemPlace} {sp : Nat → Bool} {held : Bool} (hv : Value.okWide Tryz.prog W r base 49 v) (h : DataW.Trod enc Tryz.prog W b0 sp held 49 v d p) (hb : b0 = 0) :
    ∃ x : Wvt, x.Ok ∧ v = x.val := by
  subst hb
  unfold Value.okWide at hv
  rw [Tryz.underlying49] at hv
  obtain ⟨cs, rfl, -⟩ := hv
  obtain ⟨fuel, hf⟩ := h
  obtain ⟨xs, m, _, _, hlen, hxl, hat⟩ := DataW.trod_struct Tryz.underlying49 (show DataW.trod enc Tryz.prog W 0 sp held fuel 49 cs.toList = some (d, p) from hf)
  rw [show Tryz.prog.cellsOf 49 = 38 by kernel_rfl] at hlen
  have hx : ∀ i (hi : i < 6), xs[i]? = some (xs[i]'(by rw [hxl]; exact hi)) := fun i hi => List.getElem?_eq_getElem _
  have f0 : DataW.trod enc Tryz.prog W 0 sp held m 3 ((cs.toList.drop 0).take (Tryz.prog.cellsOf 3)) = _ := (hat 0 _ rfl).trans (hx 0 (by omega))
  rw [show Tryz.prog.cellsOf 3 = 1 by kernel_rfl] at f0
  obtain ⟨k, e0, _, w0⟩ := DataW.trod_int Tryz.underlying3 f0
  have f1 : DataW.trod enc Tryz.prog W 0 sp held m 3 ((cs.toList.drop 1).take (Tryz.prog.cellsOf 3)) = _ := (hat 1 _ rfl).trans (hx 1 (by omega))
  rw [show Tryz.prog.cellsOf 3 = 1 by kernel_rfl] at f1
  obtain ⟨e, e1, _, w1⟩ := DataW.trod_int Tryz.underlying3 f1
  have f2 : DataW.trod enc Tryz.prog W 0 sp held m 3 ((cs.toList.drop 2).take (Tryz.prog.cellsOf 3)) = _ := (hat 2 _ rfl).trans (hx 2 (by omega))
  rw [show Tryz.prog.cellsOf 3 = 1 by kernel_rfl] at f2
  obtain ⟨rr, e2, _, w2⟩ := DataW.trod_int Tryz.underlying3 f2
  have f3 : DataW.trod enc Tryz.prog W 0 sp held m 3 ((cs.toList.drop 3).take (Tryz.prog.cellsOf 3)) = _ := (hat 3 _ rfl).trans (hx 3 (by omega))
  rw [show Tryz.prog.cellsOf 3 = 1 by kernel_rfl] at f3
  obtain ⟨pp, e3, _, w3⟩ := DataW.trod_int Tryz.underlying3 f3
  have f4 : DataW.trod enc Tryz.prog W 0 sp held m 25 ((cs.toList.drop 4).take (Tryz.prog.cellsOf 25)) = _ := (hat 4 _ rfl).trans (hx 4 (by omega))
  rw [show Tryz.prog.cellsOf 25 = 32 by kernel_rfl] at f4
  obtain ⟨hh, w4, e4⟩ := hash_of_trod f4
  have f5 : DataW.trod enc Tryz.prog W 0 sp held m 27 ((cs.toList.drop 36).take (Tryz.prog.cellsOf 27)) = _ := (hat 5 _ rfl).trans (hx 5 (by omega))
  rw [show Tryz.prog.cellsOf 27 = 2 by kernel_rfl] at f5
  obtain ⟨b, mm, w5, w5', e5⟩ := pair_of_trod Tryz.underlying27 ⟨rfl, rfl⟩ ⟨rfl, rfl⟩ (by kernel_rfl) f5
  refine ⟨⟨k, e, rr, pp, hh, b, mm⟩, ⟨i64In_of w0, i64In_of w1, i64In_of w2, i64In_of w3, w4, w5, w5'⟩, ?_⟩
  have key : cs.toList = Wvt.cells ⟨k, e, rr, pp, hh, b, mm⟩ := by
    have z : cs.toList.drop 38 = [] := List.drop_eq_nil_of_le (by omega)
    have s0 : cs.toList = cs.toList.drop 0 := rfl
    rw [s0, cut_at cs.toList 0 1 1 rfl, e0, cut_at cs.toList 1 1 2 rfl, e1, cut_at cs.toList 2 1 3 rfl, e2, cut_at cs.toList 3 1 4 rfl, e3, cut_at cs.toList 4 32 36 rfl, e4, cut_at cs.toList 36 2 38 rfl, e5, z]
    simp [Wvt.cells]
  show Value.agg cs = Value.agg _
  rw [← key, Array.toArray_toList]
theorem deny_open {H : Type} {enc : TypeId × Value → H} {W : World} {r : Reach} {base b0 : Nat} {v : Value} {d : DataW H} {p : List MemPlace} {sp : Nat → Bool} {held : Bool} (hv : Value.okWide Tryz.prog W r base 56 v) (h : DataW.Trod enc Tryz.prog W b0 sp held 56 v d p) (hb : b0 = 0) :
    ∃ x : Wdn, x.Ok ∧ v = x.val := by
  subst hb
  unfold Value.okWide at hv
  rw [Tryz.underlying56] at hv
  obtain ⟨cs, rfl, -⟩ := hv
  obtain ⟨fuel, hf⟩ := h
  obtain ⟨xs, m, _, _, hlen, hxl, hat⟩ := DataW.trod_struct Tryz.underlying56 (show DataW.trod enc Tryz.prog W 0 sp held fuel 56 cs.toList = some (d, p) from hf)
  rw [show Tryz.prog.cellsOf 56 = 4 by kernel_rfl] at hlen
  have hx : ∀ i (hi : i < 3), xs[i]? = some (xs[i]'(by rw [hxl]; exact hi)) := fun i hi => List.getElem?_eq_getElem _
  have f0 : DataW.trod enc Tryz.prog W 0 sp held m 3 ((cs.toList.drop 0).take (Tryz.prog.cellsOf 3)) = _ := (hat 0 _ rfl).trans (hx 0 (by omega))
  rw [show Tryz.prog.cellsOf 3 = 1 by kernel_rfl] at f0
  obtain ⟨r, e0, _, w0⟩ := DataW.trod_int Tryz.underlying3 f0
  have f1 : DataW.trod enc Tryz.prog W 0 sp held m 3 ((cs.toList.drop 1).take (Tryz.prog.cellsOf 3)) = _ := (hat 1 _ rfl).trans (hx 1 (by omega))
  rw [show Tryz.prog.cellsOf 3 = 1 by kernel_rfl] at f1
  obtain ⟨i, e1, _, w1⟩ := DataW.trod_int Tryz.underlying3 f1
  have f2 : DataW.trod enc Tryz.prog W 0 sp held m 27 ((cs.toList.drop 2).take (Tryz.prog.cellsOf 27)) = _ := (hat 2 _ rfl).trans (hx 2 (by omega))
  rw [show Tryz.prog.cellsOf 27 = 2 by kernel_rfl] at f2
  obtain ⟨b, mm, w2, w2', e2⟩ := pair_of_trod Tryz.underlying27 ⟨rfl, rfl⟩ ⟨rfl, rfl⟩ (by kernel_rfl) f2
  refine ⟨⟨r, i, b, mm⟩, ⟨i64In_of w0, i64In_of w1, w2, w2'⟩, ?_⟩
  have key : cs.toList = Wdn.cells ⟨r, i, b, mm⟩ := by
    have z : cs.toList.drop 4 = [] := List.drop_eq_nil_of_le (by omega)
    have s0 : cs.toList = cs.toList.drop 0 := rfl
    rw [s0, cut_at cs.toList 0 1 1 rfl, e0, cut_at cs.toList 1 1 2 rfl, e1, cut_at cs.toList 2 2 4 rfl, e2, z]
    simp [Wdn.cells]
  show Value.agg cs = Value.agg _
  rw [← key, Array.toArray_toList]
end Go.Proofs.YtnpjihdhpoddgaaGreat
