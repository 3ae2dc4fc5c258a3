/- Package sha: rotate, word; gavelref01's turn. -/
import Derived.Test.YtfmkegblhpnfcaaBy
import Derived.Test.YtfmkegblhpnfcaaShaP
import Derived.Laws.Shifts
set_option linter.unusedSimpArgs false
set_option linter.unusedVariables false
namespace Go.Proofs.Ytfmkegblhpnfcaa
open Go.RowKit

theorem By.cutn {w : World} {A : Option Addr} {n c s : Nat} {l : List UInt8} (h : By w A n l) (hs : s ≤ n) (hc : n ≤ c) (hne : c ≠ s) : By w (A.map (·.add s)) (n - s) (l.drop s) := by
  have := h.cut hs hc
  rwa [if_neg hne] at this
/-- the cells of four bytes -/
theorem By.four {w : World} {A : Option Addr} {n : Nat} {l : List UInt8} (hr : By w A n l) (h4 : 4 ≤ n) :
    ∃ a : Addr, A = some a ∧ w.cell? a = some (.int .u8 ((l.getD 0 0).toNat : Int)) ∧ w.cell? ⟨a.block, a.off + 1, none⟩ = some (.int .u8 ((l.getD 1 0).toNat : Int)) ∧
      w.cell? ⟨a.block, a.off + 2, none⟩ = some (.int .u8 ((l.getD 2 0).toNat : Int)) ∧ w.cell? ⟨a.block, a.off + 3, none⟩ = some (.int .u8 ((l.getD 3 0).toNat : Int)) := by
  obtain ⟨a0, b0, rfl, hg0, hc0⟩ := hr.at (show 0 < n by omega)
  obtain ⟨a1, b1, e1, hg1, hc1⟩ := hr.at (show 1 < n by omega)
  obtain ⟨a2, b2, e2, hg2, hc2⟩ := hr.at (show 2 < n by omega)
  obtain ⟨a3, b3, e3, hg3, hc3⟩ := hr.at (show 3 < n by omega)
  injection e1 with e1
  injection e2 with e2
  injection e3 with e3
  subst e1 e2 e3
  simp [Addr.add] at hc0 hc1 hc2 hc3
  have g : ∀ {j : Nat} {b : UInt8}, l[j]? = some b → l.getD j 0 = b := by intro j b h; rw [List.getD, h]; rfl
  exact ⟨a0, rfl, by rw [g hg0]; exact hc0, by rw [g hg1]; exact hc1, by rw [g hg2]; exact hc2, by rw [g hg3]; exact hc3⟩

end Go.Proofs.Ytfmkegblhpnfcaa
