/- The walk of WireConfs. -/
import Derived.Test.YtfmkegblhpnfcaaHelp
import Derived.Test.YtfmkegblhpnfcaaReg2
import Derived.Deep.CutBlock
set_option linter.unusedSimpArgs false
set_option linter.unusedVariables false
namespace Go.Proofs.Ytfmkegblhpnfcaa
open Go.RowKit
set_option maxRecDepth 100000

theorem wireN_any (f k : Int) (hf : -1000 ≤ f ∧ f ≤ 1000) (w : World) : Calls Try.prog 23 #[.agg #[.int .i64 f, .int .i64 k]] w fun e w' => e = .returned (.int .i64 (3 * f + 1)) ∧ Fr [] w w' := by
  go_enter Try.func23, Try.ntmps23
  go_wp2
  go_ret
  exact ⟨rfl, (Fr.refl [] w).alloc _⟩
def confB (f k : Int) : Bool := decide (1 ≤ f ∧ f ≤ 21 ∧ 1 ≤ k ∧ k ≤ 100)
theorem validConf_any (f k : Int) (w : World) : Calls Try.prog 22 #[.agg #[.int .i64 f, .int .i64 k]] w fun e w' => e = .returned (.bool (confB f k)) ∧ Fr [] w w' := by
  by_cases h1 : 1 ≤ f
  case neg =>
    have hr : Hid (confB f k = false) := Lib.hid (by simp [confB]; omega)
    go_enter Try.func22, Try.ntmps22
    go_wp2
    go_ret
    exact ⟨by rw [hr.out]; rfl, (Fr.refl [] w).alloc _⟩
  by_cases h2 : f ≤ 21
  case neg =>
    have hr : Hid (confB f k = false) := Lib.hid (by simp [confB]; omega)
    go_enter Try.func22, Try.ntmps22
    go_wp2
    go_ret
    exact ⟨by rw [hr.out]; rfl, (Fr.refl [] w).alloc _⟩
  by_cases h3 : 1 ≤ k
  case neg =>
    have hr : Hid (confB f k = false) := Lib.hid (by simp [confB]; omega)
    go_enter Try.func22, Try.ntmps22
    go_wp2
    go_ret
    exact ⟨by rw [hr.out]; rfl, (Fr.refl [] w).alloc _⟩
  by_cases h4 : k ≤ 100
  case neg =>
    have hr : Hid (confB f k = false) := Lib.hid (by simp [confB]; omega)
    go_enter Try.func22, Try.ntmps22
    go_wp2
    go_ret
    exact ⟨by rw [hr.out]; rfl, (Fr.refl [] w).alloc _⟩
  have hr : Hid (confB f k = true) := Lib.hid (by simp [confB]; omega)
  go_enter Try.func22, Try.ntmps22
  go_wp2
  go_ret
  exact ⟨by rw [hr.out]; rfl, (Fr.refl [] w).alloc _⟩
theorem row_cf : RowTy Try.prog 24 2 := ⟨by kernel_rfl, by kernel_rfl⟩
end Go.Proofs.Ytfmkegblhpnfcaa
