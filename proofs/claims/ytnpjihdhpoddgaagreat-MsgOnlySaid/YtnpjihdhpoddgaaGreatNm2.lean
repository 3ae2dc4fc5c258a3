/- Commitments that come in: what their reading says of cells. -/
import Derived.Test.YtnpjihdhpoddgaaGreatNm
set_option linter.unusedSimpArgs false
set_option linter.unusedVariables false
namespace Go.Proofs.YtnpjihdhpoddgaaGreat
open Go.ChangeShapes Go.WideShapes Go.ChangeAt Go.RowKit
set_option maxRecDepth 100000
theorem pair_of_trod {H : Type} {enc : TypeId × Value → H} {W : World} {sp : Nat → Bool} {held : Bool} {ty : TypeId} {x y : Field} (hu : Tryz.prog.underlying ty = some (.struct #[x, y])) (hx : x.type = 3 ∧ x.offset = 0) (hy : y.type = 3 ∧ y.offset = 1) (hc2 : Tryz.prog.cellsOf ty = 2)
    {fuel : Nat} {cs : List Value} {r : DataW H × List MemPlace} (h : DataW.trod enc Tryz.prog W 0 sp held fuel ty cs = some r) : ∃ c s : Int, i64In c ∧ i64In s ∧ cs = [.int .i64 c, .int .i64 s] := by
  obtain ⟨xs, m, _, _, hlen, hxl, hat⟩ := DataW.trod_struct hu h
  rw [hc2] at hlen
  have c1 : Tryz.prog.cellsOf 3 = 1 := by kernel_rfl
  have hx2 : ∀ i (hi : i < 2), xs[i]? = some (xs[i]'(by rw [hxl]; exact hi)) := fun i hi => List.getElem?_eq_getElem _
  have f0 : DataW.trod enc Tryz.prog W 0 sp held m x.type ((cs.drop x.offset).take (Tryz.prog.cellsOf x.type)) = _ := (hat 0 _ rfl).trans (hx2 0 (by omega))
  have f1 : DataW.trod enc Tryz.prog W 0 sp held m y.type ((cs.drop y.offset).take (Tryz.prog.cellsOf y.type)) = _ := (hat 1 _ rfl).trans (hx2 1 (by omega))
  rw [hx.1, hx.2, c1] at f0
  rw [hy.1, hy.2, c1] at f1
  obtain ⟨c, e0, _, w0⟩ := DataW.trod_int Tryz.underlying3 f0
  obtain ⟨s, e1, _, w1⟩ := DataW.trod_int Tryz.underlying3 f1
  refine ⟨c, s, i64In_of w0, i64In_of w1, ?_⟩
  match hL : cs, hlen with
  | [x, y], _ =>
    simp at e0 e1
    rw [e0, e1]
theorem commit_open {H : Type} {enc : TypeId × Value → H} {W : World} {r : Reach} {base b0 : Nat} {v : Value} {d : DataW H} {p : List MemPlace} {sp : Nat → Bool} {held : Bool} (hv : Value.okWide Tryz.prog W r base 29 v) (h : DataW.Trod enc Tryz.prog W b0 sp held 29 v d p) (hb : b0 = 0) :
    ∃ x : Cm, x.Ok ∧ v = x.val := by
  subst hb
  unfold Value.okWide at hv
  rw [Tryz.underlying29] at hv
  obtain ⟨cs, rfl, -⟩ := hv
  obtain ⟨fuel, hf⟩ := h
  obtain ⟨xs, m, _, _, hlen, hxl, hat⟩ := DataW.trod_struct Tryz.underlying29 (show DataW.trod enc Tryz.prog W 0 sp held fuel 29 cs.toList = some (d, p) from hf)
  rw [show Tryz.prog.cellsOf 29 = 37 by kernel_rfl] at hlen
  have c1 : Tryz.prog.cellsOf 3 = 1 := by kernel_rfl
  have c2 : Tryz.prog.cellsOf 23 = 2 := by kernel_rfl
  have c3 : Tryz.prog.cellsOf 25 = 32 := by kernel_rfl
  have c4 : Tryz.prog.cellsOf 27 = 2 := by kernel_rfl
  have hx : ∀ i (hi : i < 4), xs[i]? = some (xs[i]'(by rw [hxl]; exact hi)) := fun i hi => List.getElem?_eq_getElem _
  have f0 : DataW.trod enc Tryz.prog W 0 sp held m 23 ((cs.toList.drop 0).take (Tryz.prog.cellsOf 23)) = _ := (hat 0 _ rfl).trans (hx 0 (by omega))
  have f1 : DataW.trod enc Tryz.prog W 0 sp held m 25 ((cs.toList.drop 2).take (Tryz.prog.cellsOf 25)) = _ := (hat 1 _ rfl).trans (hx 1 (by omega))
  have f2 : DataW.trod enc Tryz.prog W 0 sp held m 3 ((cs.toList.drop 34).take (Tryz.prog.cellsOf 3)) = _ := (hat 2 _ rfl).trans (hx 2 (by omega))
  have f3 : DataW.trod enc Tryz.prog W 0 sp held m 27 ((cs.toList.drop 35).take (Tryz.prog.cellsOf 27)) = _ := (hat 3 _ rfl).trans (hx 3 (by omega))
  rw [c2] at f0
  rw [c3] at f1
  rw [c1] at f2
  rw [c4] at f3
  obtain ⟨c, s, hc, hs, e0⟩ := pair_of_trod Tryz.underlying23 ⟨rfl, rfl⟩ ⟨rfl, rfl⟩ c2 f0
  obtain ⟨hh, hl, e1⟩ := hash_of_trod f1
  obtain ⟨n, e2, _, w2⟩ := DataW.trod_int Tryz.underlying3 f2
  obtain ⟨b, m', hb, hm, e3⟩ := pair_of_trod Tryz.underlying27 ⟨rfl, rfl⟩ ⟨rfl, rfl⟩ c4 f3
  refine ⟨⟨c, s, hh, n, b, m'⟩, ⟨hc, hs, hl, i64In_of w2, hb, hm⟩, ?_⟩
  have key : cs.toList = Cm.cells ⟨c, s, hh, n, b, m'⟩ := by
    have d0 : cs.toList = cs.toList.take 2 ++ ((cs.toList.drop 2).take 32 ++ ((cs.toList.drop 34).take 1 ++ (cs.toList.drop 35).take 2)) := by
      have t3 : (cs.toList.drop 35).take 2 = cs.toList.drop 35 := List.take_of_length_le (by rw [List.length_drop, hlen]; omega)
      have s1 : (cs.toList.drop 34).take 1 ++ cs.toList.drop 35 = cs.toList.drop 34 := by
        have := List.take_append_drop 1 (cs.toList.drop 34)
        rwa [List.drop_drop] at this
      have s2 : (cs.toList.drop 2).take 32 ++ cs.toList.drop 34 = cs.toList.drop 2 := by
        have := List.take_append_drop 32 (cs.toList.drop 2)
        rwa [List.drop_drop] at this
      rw [t3, s1, s2, List.take_append_drop]
    rw [d0, e1, e2, e3, show cs.toList.take 2 = (cs.toList.drop 0).take 2 by rw [List.drop_zero], e0]
    rfl
  show Value.agg cs = Value.agg _
  rw [← key, Array.toArray_toList]
end Go.Proofs.YtnpjihdhpoddgaaGreat
