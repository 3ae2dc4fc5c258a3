/- gavelkeep.Intact. -/
import Derived.Test.YtimknnohabodnaaDoorLend
import Derived.Test.YtimknnohabodnaaDoorSame
import Derived.Deep.QuietTactic
import Derived.BigQuiet
namespace Go.Proofs.YtimknnohabodnaaDoor
open Go.RowKit

set_option maxRecDepth 100000 in
set_option maxHeartbeats 1000000 in
theorem intact_any (A : Option Addr) (g n c : Nat) (l : List UInt8) (w : World) (hr : By w A n l) (hb : Blk w g 5 ((lent l).map by8).toArray) (hn : n ≤ 1073741824) :
    Calls Tryd.prog 19 #[.slice (some ⟨g, 0, none⟩) n (n + 3), .slice A n c] w fun e w' => e = .returned (.bool true) ∧ ∃ k, w' = w.drewN k := by
  have HR := Lib.hid hr
  have HB := Lib.hid hb
  have HN := Lib.hid hn
  have HLEN := Lib.hid hr.1
  obtain ⟨N, hN⟩ : ∃ N : Nat, N = n + 3 := ⟨_, rfl⟩
  have hNi : (n : Int) + 3 = (N : Int) := by omega
  have hn1 : (N : Int) ≤ 9223372036854775807 := by omega
  have hn2 : (n : Int) ≤ 9223372036854775807 := by omega
  have hnN : n ≤ N := by omega
  have hx1 : ((n : Int) != (n : Int)) = false := by simp
  have hx2 : ((N : Int) != (N : Int)) = false := by simp
  have HNN := Lib.hid hN
  rw [← hN]
  clear hN hr hb hn
  go_enter Tryd.func19, Tryd.ntmps19
  go_wp2
  go_loopw [27] (fun i wr => ∃ (k q : Nat), k ≤ N ∧ i = .int .i64 k ∧ wr = w.drewN q) (fun i _ => N - (intOf i).toNat)
  case atStart => exact ⟨0, 0, by omega, rfl, rfl⟩
  case round =>
    obtain ⟨k, q, hk, rfl, rfl⟩ := hrel
    clear hNi
    have ha1 : (0 : Int) ≤ k := by omega
    by_cases hlt : k < N
    · by_cases hkn : k < n
      · obtain ⟨a1, b1, rfl, hg1, hc1⟩ := HR.out.at hkn
        have hc2 := HB.out.cell k
        rw [show (((lent l).map by8).toArray)[k]? = some (.int .u8 (b1.toNat : Int)) from by simp [lent_head l (show k < l.length by rw [HLEN.out]; exact hkn), hg1, by8]] at hc2
        have HG1 := Lib.hid hg1
        clear hg1
        have hne : ((b1.toNat : Int) != (b1.toNat : Int)) = false := by simp
        have hnk : decide ((n : Int) ≤ (k : Int)) = false := by simp; omega
        have hnk2 : decide (n ≤ k) = false := by simp; omega
        have hnk3 : ¬ ((n : Int) ≤ (k : Int)) := by omega
        have hnk4 : ¬ (n ≤ k) := by omega
        have hnk5 : decide ((k : Int) ≥ (n : Int)) = false := by simp; omega
        go_wp2
        go_quiet (fail)
        go_wp2
        go_roundw
        case rel => exact ⟨k + 1, q + nq, by omega, by go_num, rfl⟩
        case measure => simp [intOf]; omega
      · have hc2 := HB.out.cell k
        rw [show (((lent l).map by8).toArray)[k]? = some (.int .u8 85) from by simp [lent_tail l (show l.length ≤ k by rw [HLEN.out]; omega) (by rw [HLEN.out]; have := HNN.out; omega), by8]] at hc2
        have hnk : (n : Int) ≤ k := by omega
        have hkd : decide ((k : Int) < (n : Int)) = false := by simp; omega
        go_wp2
        go_quiet (fail)
        go_wp2
        go_roundw
        case rel => exact ⟨k + 1, q + nq, by omega, by go_num, rfl⟩
        case measure => simp [intOf]; omega
    · go_wp2
      go_ret
      exact ⟨rfl, _, rfl⟩
end Go.Proofs.YtimknnohabodnaaDoor
