/- Commitments that come in: what their reading says of cells. -/
import Derived.Test.YtfmkegblhpnfcaaNm
set_option linter.unusedSimpArgs false
set_option linter.unusedVariables false
namespace Go.Proofs.Ytfmkegblhpnfcaa
open Go.ChangeShapes Go.WideShapes Go.ChangeAt Go.RowKit
set_option maxRecDepth 100000
theorem pair_of_trod {H : Type} {enc : TypeId × Value → H} {W : World} {sp : Nat → Bool} {held : Bool} {ty : TypeId} {x y : Field} (hu : Try.prog.underlying ty = some (.struct #[x, y])) (hx : x.type = 3 ∧ x.offset = 0) (hy : y.type = 3 ∧ y.offset = 1) (hc2 : Try.prog.cellsOf ty = 2)
    {fuel : Nat} {cs : List Value} {r : DataW H × List MemPlace} (h : DataW.trod enc Try.prog W 0 sp held fuel ty cs = some r) : ∃ c s : Int, i64In c ∧ i64In s ∧ cs = [.int .i64 c, .int .i64 s] := by
  obtain ⟨xs, m, _, _, hlen, hxl, hat⟩ := DataW.trod_struct hu h
  rw [hc2] at hlen
  have c1 : Try.prog.cellsOf 3 = 1 := by kernel_rfl
  have hx2 : ∀ i (hi : i < 2), xs[i]? = some (xs[i]'(by rw [hxl]; exact hi)) := fun i hi => List.getElem?_eq_getElem _
  have f0 : DataW.trod enc Try.prog W 0 sp held m x.type ((cs.drop x.offset).take (Try.prog.cellsOf x.type)) = _ := (hat 0 _ rfl).trans (hx2 0 (by omega))
  have f1 : DataW.trod enc Try.prog W 0 sp held m y.type ((cs.drop y.offset).take (Try.prog.cellsOf y.type)) = _ := (hat 1 _ rfl).trans (hx2 1 (by omega))
  rw [hx.1, hx.2, c1] at f0
  rw [hy.1, hy.2, c1] at f1
  obtain ⟨c, e0, _, w0⟩ := DataW.trod_int Try.underlying3 f0
  obtain ⟨s, e1, _, w1⟩ := DataW.trod_int Try.underlying3 f1
  refine ⟨c, s, i64In_of w0, i64In_of w1, ?_⟩
  match hL : cs, hlen with
  | [x, y], _ =>
    simp at e0 e1
    rw [e0, e1]
end Go.Proofs.Ytfmkegblhpnfcaa
