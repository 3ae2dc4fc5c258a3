/- CertMedians' walk. -/
import Derived.Test.YtglphddjinmhoaaCeR
namespace Go.Proofs.Ytglphddjinmhoaa
open Go.RowKit Go.Sort
set_option maxRecDepth 100000

set_option maxHeartbeats 1000000 in
theorem same_u (A B : Option Addr) (n c d : Nat) (l : List Int) (w : World) (h1 : UL w A n l) (h2 : UL w B n l) (hn : n ≤ 1000000) :
    Calls Try.prog 22 #[.slice A n c, .slice B n d] w fun e w' => e = .returned (.bool true) ∧ Fr [] w w' := by
  have H1 := Lib.hid h1
  have H2 := Lib.hid h2
  clear h1 h2
  go_enter Try.func22, Try.ntmps22
  go_wp2_with fail
  go_loopw [5] (fun i wr => ∃ k : Nat, i = .int .i64 k ∧ k ≤ n ∧ Hid (Fr [] w wr)) (fun i _ => n + 1 - (intOf i).toNat)
  case atStart => exact ⟨0, rfl, Nat.zero_le _, Lib.hid (Fr.refl _ _)⟩
  case round =>
    obtain ⟨k, rfl, hk, HF⟩ := hrel
    rename World => wr
    by_cases hkn : k < n
    · obtain ⟨ad, v, rfl, hv, -, -, hc1⟩ := (H1.out.keep HF.out (by simp)).get hkn
      obtain ⟨ad', v', rfl, hv', -, -, hc2⟩ := (H2.out.keep HF.out (by simp)).get hkn
      rw [hv] at hv'
      injection hv' with hv'
      subst hv'
      clear hv
      have hne : (v != v) = false := by simp
      go_wp2_with fail
      go_quiet (fail)
      go_wp2_with fail
      go_roundw
      case rel => exact ⟨k + 1, by go_num, by omega, Lib.hid (HF.out.drewN _)⟩
      case measure => simp [intOf]; omega
    · go_wp2_with fail
      go_ret
      exact ⟨rfl, HF.out⟩
set_option maxHeartbeats 1000000 in
theorem certMedians_walk (w : World) (A : Option Addr) (n c : Nat) (l0 : List Int) (hA : UL w A n l0) (hn : n ≤ c) (hc : c ≤ maxLen) :
    Calls Try.prog 5 #[.slice A n c] w fun e w' => e = .returned (.bool true) ∧ Fr [] w w' := by
  have hcut := cutU_any A n c 50 l0 w hA (Nat.le_trans hn hc) hn (by decide)
  have hR := hA.range
  have HR := Lib.hid (fun z (hz : z ∈ l0.take 50) => hR z (List.mem_of_mem_take hz))
  have hlen : (l0.take 50).length ≤ 50 := List.length_take_le _ _
  obtain ⟨N, hN⟩ : ∃ N, N = (l0.take 50).length := ⟨_, rfl⟩
  rw [← hN] at hcut hlen
  generalize l0.take 50 = l at *
  have HN := Lib.hid hN
  clear hA hn hc hR hN
  go_enter Try.func5, Try.ntmps5
  go_wp2_with fail
  rw [show (50 : Int) = ((50 : Nat) : Int) from rfl]
  refine hcut.mono ?_
  rintro e w1 ⟨A1, c1, rfl, hN1⟩
  have HF1 := Lib.hid hN1.2.1
  have HU1 := Lib.hid (UL.own hN1.1 HN.out.symm HR.out)
  clear hcut hN1
  have hcp := copyU_any A1 N c1 l w1 HU1.out (by omega)
  go_wp2_with fail
  refine hcp.mono ?_
  rintro e w2 ⟨A2, c2, rfl, hN2⟩
  have HF2 := Lib.hid (HF1.out.trans hN2.2.1 (by simp))
  have HU12 := Lib.hid (HU1.out.keep hN2.2.1 (by simp))
  have HU2 := Lib.hid (UL.own hN2.1 HN.out.symm HR.out)
  clear hcp hN2
  have hm1 := median_any A2 N c2 l w2 HU2.out (by omega)
  go_wp2_with fail
  refine hm1.mono ?_
  rintro e w3 ⟨t, rfl, ht1, ht2, hf3⟩
  have HF3 := Lib.hid (HF2.out.trans hf3 (by simp))
  have HU13 := Lib.hid (HU12.out.keep hf3 (by simp))
  have HU23 := Lib.hid (HU2.out.keep hf3 (by simp))
  clear hm1 hf3
  have hm2 := refmed_any A1 N c1 l w3 HU13.out (by omega)
  go_wp2_with fail
  refine hm2.mono ?_
  rintro e w4 ⟨u, rfl, hu1, hu2, hf4⟩
  have htu : t = u := by
    rcases Nat.mod_two_eq_zero_or_one N with h | h
    · rw [ht2 h, hu2 h]
    · exact (ht1 h).one (hu1 h)
  subst htu
  have HF4 := Lib.hid (HF3.out.trans hf4 (by simp))
  have hs := same_u A1 A2 N c1 c2 l w4 (HU13.out.keep hf4 (by simp)) (HU23.out.keep hf4 (by simp)) (by omega)
  clear hm2 hf4 ht1 ht2 hu1 hu2
  generalize (N % 2 == 1) = B at *
  have htt : (t == t) = true := by simp
  have hbb : (B == B) = true := by simp
  go_wp2_with (first
    | (go_at_call 22; refine hs.mono ?_; rintro e w5 ⟨rfl, hf5⟩; have HF5 := Lib.hid (HF4.out.trans hf5 (by simp)); clear hf5)
    | (go_at_call 13; refine (cewakes_any _).mono ?_; rintro e w6 ⟨rfl, hf6⟩))
  go_ret
  exact ⟨rfl, HF5.out.trans hf6 (by simp)⟩
end Go.Proofs.Ytglphddjinmhoaa
