/- The walk of WireConfs. -/
import Derived.Test.YtdgbcdmooklciaaHelp
import Derived.Test.YtdgbcdmooklciaaReg2
import Derived.Deep.CutBlock
namespace Go.Proofs.Ytdgbcdmooklciaa
open Go.RowKit
set_option maxRecDepth 100000

theorem wireN_any (f k : Int) (hf : -1000 ≤ f ∧ f ≤ 1000) (w : World) : Calls Try.prog 72 #[.agg #[.int .i64 f, .int .i64 k]] w fun e w' => e = .returned (.int .i64 (3 * f + 1)) ∧ Fr [] w w' := by
  go_enter Try.func72, Try.ntmps72
  go_wp2
  go_ret
  exact ⟨rfl, (Fr.refl [] w).alloc _⟩
theorem wireQ_any (f k : Int) (hf : -1000 ≤ f ∧ f ≤ 1000) (w : World) : Calls Try.prog 73 #[.agg #[.int .i64 f, .int .i64 k]] w fun e w' => e = .returned (.int .i64 (2 * f + 1)) ∧ Fr [] w w' := by
  go_enter Try.func73, Try.ntmps73
  go_wp2
  go_ret
  exact ⟨rfl, (Fr.refl [] w).alloc _⟩
def confB (f k : Int) : Bool := decide (1 ≤ f ∧ f ≤ 21 ∧ 1 ≤ k ∧ k ≤ 100)
theorem wwakes_any (w : World) : Calls Try.prog 36 #[] w fun e w' => e = .returned (.bool true) ∧ Fr [] w w' := by
  go_enter Try.func36, Try.ntmps36
  go_wp2_with fail
  refine (wireN_any 1 0 (by omega) w).mono ?_
  rintro e w1 ⟨rfl, hf1⟩
  have HF1 := Lib.hid hf1
  clear hf1
  go_wp2_with fail
  refine (wireQ_any 1 0 (by omega) w1).mono ?_
  rintro e w2 ⟨rfl, hf2⟩
  have HF2 := Lib.hid (HF1.out.and hf2 (by simp))
  clear hf2
  go_wp2
  go_ret
  exact ⟨rfl, HF2.out⟩
theorem row_cf : RowTy Try.prog 136 2 := ⟨by kernel_rfl, by kernel_rfl⟩
end Go.Proofs.Ytdgbcdmooklciaa
