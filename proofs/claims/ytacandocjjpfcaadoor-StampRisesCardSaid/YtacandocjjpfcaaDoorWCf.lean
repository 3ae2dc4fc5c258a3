/- The walk of WireConfs. -/
import Derived.Test.YtacandocjjpfcaaDoorHelp
import Derived.Test.YtacandocjjpfcaaDoorReg2
import Derived.Deep.CutBlock
namespace Go.Proofs.YtacandocjjpfcaaDoor
open Go.RowKit
set_option maxRecDepth 100000

theorem wireN_any (f k : Int) (hf : -1000 ≤ f ∧ f ≤ 1000) (w : World) : Calls Tryd.prog 30 #[.agg #[.int .i64 f, .int .i64 k]] w fun e w' => e = .returned (.int .i64 (3 * f + 1)) ∧ Fr [] w w' := by
  go_enter Tryd.func30, Tryd.ntmps30
  go_wp2
  go_ret
  exact ⟨rfl, (Fr.refl [] w).alloc _⟩
def confB (f k : Int) : Bool := decide (1 ≤ f ∧ f ≤ 21 ∧ 1 ≤ k ∧ k ≤ 100)
theorem validConf_any (f k : Int) (w : World) : Calls Tryd.prog 29 #[.agg #[.int .i64 f, .int .i64 k]] w fun e w' => e = .returned (.bool (confB f k)) ∧ Fr [] w w' := by
  by_cases h1 : 1 ≤ f
  case neg =>
    have hr : Hid (confB f k = false) := Lib.hid (by simp [confB]; omega)
    go_enter Tryd.func29, Tryd.ntmps29
    go_wp2
    go_ret
    exact ⟨by rw [hr.out]; rfl, (Fr.refl [] w).alloc _⟩
  by_cases h2 : f ≤ 21
  case neg =>
    have hr : Hid (confB f k = false) := Lib.hid (by simp [confB]; omega)
    go_enter Tryd.func29, Tryd.ntmps29
    go_wp2
    go_ret
    exact ⟨by rw [hr.out]; rfl, (Fr.refl [] w).alloc _⟩
  by_cases h3 : 1 ≤ k
  case neg =>
    have hr : Hid (confB f k = false) := Lib.hid (by simp [confB]; omega)
    go_enter Tryd.func29, Tryd.ntmps29
    go_wp2
    go_ret
    exact ⟨by rw [hr.out]; rfl, (Fr.refl [] w).alloc _⟩
  by_cases h4 : k ≤ 100
  case neg =>
    have hr : Hid (confB f k = false) := Lib.hid (by simp [confB]; omega)
    go_enter Tryd.func29, Tryd.ntmps29
    go_wp2
    go_ret
    exact ⟨by rw [hr.out]; rfl, (Fr.refl [] w).alloc _⟩
  have hr : Hid (confB f k = true) := Lib.hid (by simp [confB]; omega)
  go_enter Tryd.func29, Tryd.ntmps29
  go_wp2
  go_ret
  exact ⟨by rw [hr.out]; rfl, (Fr.refl [] w).alloc _⟩
theorem row_cf : RowTy Tryd.prog 26 2 := ⟨by kernel_rfl, by kernel_rfl⟩
end Go.Proofs.YtacandocjjpfcaaDoor
