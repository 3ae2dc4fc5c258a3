/- Package sha: rotate, word; gavelref01's turn. -/
import Derived.Test.YtacandocjjpfcaaDoorBy
import Derived.Test.YtacandocjjpfcaaDoorShaP
import Derived.Laws.Shifts
namespace Go.Proofs.YtacandocjjpfcaaDoor
open Go.RowKit

theorem rotate_any (x m : Int) (_h0 : 0 ≤ x) (h1 : 1 ≤ m) (h2 : m ≤ 31) (w : World) :
    Calls Tryd.prog 82 #[.int .u32 x, .int .u64 m] w fun e w' => e = .returned (.int .u32 (rot x m)) ∧ w' = w := by
  obtain ⟨n, rfl⟩ : ∃ n : Nat, m = n := ⟨m.toNat, by omega⟩
  go_enter Tryd.func82, Tryd.ntmps82
  go_wp2
  go_ret
  refine ⟨?_, rfl⟩
  show Ending.returned (Value.int .u32 _) = _
  unfold rot
  have e : ((32 : Int) - n).toNat = 32 - n := by omega
  rw [e]
  rfl
theorem turn_any (x m : Int) (_h0 : 0 ≤ x) (h1 : 1 ≤ m) (h2 : m ≤ 31) (w : World) :
    Calls Tryd.prog 78 #[.int .u32 x, .int .u64 m] w fun e w' => e = .returned (.int .u32 (rot x m)) ∧ w' = w := by
  obtain ⟨n, rfl⟩ : ∃ n : Nat, m = n := ⟨m.toNat, by omega⟩
  go_enter Tryd.func78, Tryd.ntmps78
  go_wp2
  go_ret
  refine ⟨?_, rfl⟩
  show Ending.returned (Value.int .u32 _) = _
  unfold rot
  have e : ((32 : Int) - n).toNat = 32 - n := by omega
  rw [e]
  rfl
theorem By.cutn {w : World} {A : Option Addr} {n c s : Nat} {l : List UInt8} (h : By w A n l) (hs : s ≤ n) (hc : n ≤ c) (hne : c ≠ s) : By w (A.map (·.add s)) (n - s) (l.drop s) := by
  have := h.cut hs hc
  rwa [if_neg hne] at this
/-- the cells of four bytes -/
theorem By.four {w : World} {A : Option Addr} {n : Nat} {l : List UInt8} (hr : By w A n l) (h4 : 4 ≤ n) :
    ∃ a : Addr, A = some a ∧ w.cell? a = some (.int .u8 ((l.getD 0 0).toNat : Int)) ∧ w.cell? ⟨a.block, a.off + 1, none⟩ = some (.int .u8 ((l.getD 1 0).toNat : Int)) ∧
      w.cell? ⟨a.block, a.off + 2, none⟩ = some (.int .u8 ((l.getD 2 0).toNat : Int)) ∧ w.cell? ⟨a.block, a.off + 3, none⟩ = some (.int .u8 ((l.getD 3 0).toNat : Int)) := by
  obtain ⟨a0, b0, rfl, hg0, hc0⟩ := hr.at (show 0 < n by omega)
  obtain ⟨a1, b1, e1, hg1, hc1⟩ := hr.at (show 1 < n by omega)
  obtain ⟨a2, b2, e2, hg2, hc2⟩ := hr.at (show 2 < n by omega)
  obtain ⟨a3, b3, e3, hg3, hc3⟩ := hr.at (show 3 < n by omega)
  injection e1 with e1
  injection e2 with e2
  injection e3 with e3
  subst e1 e2 e3
  simp [Addr.add] at hc0 hc1 hc2 hc3
  have g : ∀ {j : Nat} {b : UInt8}, l[j]? = some b → l.getD j 0 = b := by intro j b h; rw [List.getD, h]; rfl
  exact ⟨a0, rfl, by rw [g hg0]; exact hc0, by rw [g hg1]; exact hc1, by rw [g hg2]; exact hc2, by rw [g hg3]; exact hc3⟩

set_option maxHeartbeats 400000 in
theorem word_any (A : Option Addr) (n c : Nat) (l : List UInt8) (w : World) (hr : By w A n l) (h4 : 4 ≤ n) (hn : n ≤ 1073741824) :
    Calls Tryd.prog 83 #[.slice A n c] w fun e w' => e = .returned (.int .u32 (wd (l.getD 0 0) (l.getD 1 0) (l.getD 2 0) (l.getD 3 0))) ∧ ∃ k, w' = w.drewN k := by
  obtain ⟨a, rfl, hc0, hc1, hc2, hc3⟩ := hr.four h4
  generalize l.getD 0 0 = b0 at *
  generalize l.getD 1 0 = b1 at *
  generalize l.getD 2 0 = b2 at *
  generalize l.getD 3 0 = b3 at *
  have HR := Lib.hid hr
  have j0 : 0 < n := by omega
  have j1 : 1 < n := by omega
  have j2 : 2 < n := by omega
  have j3 : 3 < n := by omega
  clear hr
  have z0 := b0.toNat_lt
  have z1 := b1.toNat_lt
  have z2 := b2.toNat_lt
  have z3 := b3.toNat_lt
  go_enter Tryd.func83, Tryd.ntmps83
  go_wp2
  go_quiet (fail)
  go_wp2
  go_ret
  exact ⟨rfl, _, rfl⟩
end Go.Proofs.YtacandocjjpfcaaDoor
