/- Names, configurations and commitments that come in: what their reading says of cells. -/
import Derived.Test.YtfmkegblhpnfcaaCm3
import Derived.Test.YtfmkegblhpnfcaaActs
import Derived.Test.YtfmkegblhpnfcaaOpen
set_option linter.unusedSimpArgs false
set_option linter.unusedVariables false
namespace Go.Proofs.Ytfmkegblhpnfcaa
open Go.ChangeShapes Go.WideShapes Go.ChangeAt Go.RowKit
set_option maxRecDepth 100000

theorem i64In_of {z : Int} (h : (Lit.int .i64 z).wf = true) : i64In z := i64_of h
theorem conf_open {H : Type} {enc : TypeId × Value → H} {W : World} {r : Reach} {base b0 : Nat} {v : Value} {d : DataW H} {p : List MemPlace} {sp : Nat → Bool} {held : Bool} (hv : Value.okWide Try.prog W r base 24 v) (h : DataW.Trod enc Try.prog W b0 sp held 24 v d p) (hb : b0 = 0) :
    ∃ c s : Int, i64In c ∧ i64In s ∧ v = .agg #[.int .i64 c, .int .i64 s] := by
  subst hb
  unfold Value.okWide at hv
  rw [Try.underlying24] at hv
  obtain ⟨cs, rfl, -⟩ := hv
  obtain ⟨fuel, hf⟩ := h
  obtain ⟨xs, m, _, _, hlen, hxl, hat⟩ := DataW.trod_struct Try.underlying24 (show DataW.trod enc Try.prog W 0 sp held fuel 24 cs.toList = some (d, p) from hf)
  rw [show Try.prog.cellsOf 24 = 2 by kernel_rfl] at hlen
  have c1 : Try.prog.cellsOf 3 = 1 := by kernel_rfl
  have hx : ∀ i (hi : i < 2), xs[i]? = some (xs[i]'(by rw [hxl]; exact hi)) := fun i hi => List.getElem?_eq_getElem _
  have f0 : DataW.trod enc Try.prog W 0 sp held m 3 ((cs.toList.drop 0).take (Try.prog.cellsOf 3)) = _ := (hat 0 _ rfl).trans (hx 0 (by omega))
  have f1 : DataW.trod enc Try.prog W 0 sp held m 3 ((cs.toList.drop 1).take (Try.prog.cellsOf 3)) = _ := (hat 1 _ rfl).trans (hx 1 (by omega))
  rw [c1] at f0 f1
  obtain ⟨c, e0, _, w0⟩ := DataW.trod_int Try.underlying3 f0
  obtain ⟨s, e1, _, w1⟩ := DataW.trod_int Try.underlying3 f1
  have hcs : cs.toList = [.int .i64 c, .int .i64 s] := by
    match hL : cs.toList, hlen with
    | [x, y], _ =>
      rw [hL] at e0 e1
      simp at e0 e1
      rw [e0, e1]
  refine ⟨c, s, i64In_of w0, i64In_of w1, ?_⟩
  rw [← Array.toArray_toList (xs := cs), hcs]
end Go.Proofs.Ytfmkegblhpnfcaa
