/- The walk of BookCounts. -/
import Derived.Test.YtimknnohabodnaaEns
namespace Go.Proofs.Ytimknnohabodnaa
open Go.RowKit

set_option maxRecDepth 100000 in
set_option maxHeartbeats 8000000 in
theorem counts_walk (w : World) (s t : Int) (hs1 : -9223372036854775808 ≤ s) (hs2 : s < 9223372036854775808) (ht1 : -9223372036854775808 ≤ t) (ht2 : t < 9223372036854775808) (A : Option Addr) (n c : Nat) (l : List Int) (hA : Nums w A n l) (hn : n ≤ maxLen) :
    Calls Try.prog 6 #[.int .i64 s, .int .i64 t, .slice A n c] w fun e w' => e = .returned (.bool true) ∧ Fr [] w w' := by
  have H1 := Lib.hid hs1
  have H2 := Lib.hid hs2
  have H3 := Lib.hid ht1
  have H4 := Lib.hid ht2
  have HA := Lib.hid hA
  have HN := Lib.hid hn
  clear hs1 hs2 ht1 ht2 hA hn
  go_enter Try.func6, Try.ntmps6
  go_wp2_with fail
  refine (new_any _).mono ?_
  rintro e w1 ⟨rfl, hb1, hf1⟩
  have HB1 := Lib.hid hb1
  have HF1 := Lib.hid hf1
  have hl1 : w.heap.size + 1 < w1.heap.size := hb1.lt _ (by simp)
  clear hb1 hf1
  go_wp2_with fail
  refine (within_pos s 4 H1.out H2.out (by omega) (by omega) _).mono ?_
  rintro e w2 ⟨rfl, rfl⟩
  have hS0 : 0 ≤ s % 4 := Int.emod_nonneg _ (by omega)
  have hS1 : s % 4 < 4 := Int.emod_lt_of_pos _ (by omega)
  generalize s % 4 = sm at *
  go_wp2_with fail
  refine (within_pos t 5 H3.out H4.out (by omega) (by omega) _).mono ?_
  rintro e w2 ⟨rfl, rfl⟩
  have hT0 : 0 ≤ t % 5 := Int.emod_nonneg _ (by omega)
  have hT1 : t % 5 < 5 := Int.emod_lt_of_pos _ (by omega)
  generalize t % 5 = tm at *
  go_upto_region 5 with (fail)
  obtain ⟨S, hS⟩ : ∃ S : Nat, 1 + sm = (S : Int) := ⟨(1 + sm).toNat, by omega⟩
  obtain ⟨T, hT⟩ : ∃ T : Nat, 1 + tm = (T : Int) := ⟨(1 + tm).toNat, by omega⟩
  rw [hS, hT]
  have hSp : 0 < S := by omega
  have hS4 : S ≤ 4 := by omega
  have hTp : 0 < T := by omega
  have hT5 : T ≤ 5 := by omega
  clear hS hT hS0 hS1 hT0 hT1
  obtain ⟨N, hN⟩ : ∃ N : Nat, N = S * T := ⟨_, rfl⟩
  have hmul : (S : Int) * (T : Int) = (N : Int) := by rw [hN]; simp
  have hN0 : 0 < N := by rw [hN]; exact Nat.mul_pos hSp hTp
  have hN20 : N ≤ 20 := by rw [hN]; exact Nat.mul_le_mul hS4 hT5
  have HNN := Lib.hid hN
  have HMUL := Lib.hid hmul
  clear hN hmul
  go_wp2
  go_loopw [8] (fun i wr => ∃ k : Nat, k ≤ N ∧ i = .int .i64 k ∧ Hid (Bok wr [w.heap.size + 1, w.heap.size] (w.heap.size + 1) (ens S k)) ∧ Hid (Fr [] w wr)) (fun i _ => N - (intOf i).toNat)
  case atStart => exact ⟨0, by omega, rfl, HB1, HF1⟩
  case round =>
    obtain ⟨k, hk, rfl, HB, HF⟩ := hrel
    have hmul := HMUL.out
    by_cases hlt : k < N
    · have hk0 : (0 : Int) ≤ k := by omega
      have hS0 : (0 : Int) < S := by omega
      go_wp2
      have hsz := (HB.out.lt (w.heap.size + 1) (by simp))
      obtain ⟨r, q, hp⟩ := parts_of S k hSp
      have HP := Lib.hid hp
      have d1 := hp.div
      have d2 := hp.tdiv
      have d3 := hp.mod
      have d4 := hp.tmod
      have hq := hp.qle
      have hr := hp.rlt
      have hq2 : (q : Int) < 256 := by omega
      have w1e : IntKind.i64.wrap (q : Int) = q := IntWalk.i64_in _ (by omega)
      have w2e : IntKind.u8.wrap (q : Int) = q := u8_wrap_nat q (by omega)
      clear hp
      go_region_with (
        (go_at_call 9
         go_loud (
         refine (sign_en _ [w.heap.size + 1, w.heap.size] _ S k r q HP.out ?_ (by omega) (by omega) _ 1 1 ?_).mono ?_
         · (
            refine HB.out.keep (T := []) (Fr.drew ?_) (by simp)
            repeat (first | with_reducible exact Fr.refl [] wr | with_reducible apply Fr.alloc))
         · refine By.drew ?_
           first
             | with_reducible exact By.mark1 _ _ rfl _ _ _ _ (byte_of q (by omega))
             | with_reducible exact By.mark1a _ _ rfl _ _ _ _ (byte_of q (by omega)) _
             | with_reducible exact By.mark1 _ _ (by simp) _ _ _ _ (byte_of q (by omega))
         rintro e w3 ⟨rfl, hb3, hf3⟩
         have HF3 : Hid (Fr [] w w3) := by
           refine Lib.hid (Fr.and (Fr.drew ?_) hf3 (by simp))
           repeat (first | with_reducible exact HF.out | with_reducible apply Fr.alloc)
         try (
           have hbs := (sig_behind hf3 (by simp; omega))
           obtain ⟨hc0, hc1, hz0, hz1⟩ := hbs)
         try (
           have hbs := (sig_ahead hf3 (by simp; omega))
           obtain ⟨hc0, hc1, hz0, hz1⟩ := hbs)
         have HB3 := Lib.hid hb3
         clear hb3 hf3)))
      all_goals
        go_wp2
        go_roundw
        case rel =>
          refine ⟨k + 1, by omega, by go_num, Lib.hid (HB3.out.keep (T := [wr.heap.size + 1, wr.heap.size]) ?_ (by simp; omega)), Lib.hid (HF3.out.and (T := [wr.heap.size + 1, wr.heap.size]) ?_ (by simp; omega))⟩ <;>
            repeat (first | with_reducible exact Fr.refl _ _ | with_reducible refine Fr.setCell ?_ _ (by simp) _ | with_reducible refine Fr.alloc ?_ _ | with_reducible refine Fr.drew ?_)
        case measure => simp [intOf]; omega
    · have hkN : k = N := by omega
      subst hkN
      go_wp2
      have HBF := HB
      have HFF := HF
      clear hk hlt hmul
      go_loopw [10] (fun i wr => ∃ j : Nat, j ≤ 20 ∧ i = .int .i64 j ∧ Hid (Bok wr [w.heap.size + 1, w.heap.size] (w.heap.size + 1) (ens S k)) ∧ Hid (Fr [] w wr)) (fun i _ => 20 - (intOf i).toNat)
      case atStart => exact ⟨0, by omega, rfl, HB, HF⟩
      case round =>
        rename_i wr0
        clear HB HF HBF HFF
        obtain ⟨j, hj, rfl, HB, HF⟩ := hrel
        have hmul := HMUL.out
        have hn2 := HN.out
        unfold maxLen at hn2
        by_cases hjn : j < n
        · by_cases hj20 : j < 20
          · obtain ⟨ad, v, rfl, hv1, hv2, hcell⟩ := (HA.out.keep HF.out (by simp)).at hjn
            have hj0 : (0 : Int) ≤ j := by omega
            have HV1 := Lib.hid hv1
            have HV2 := Lib.hid hv2
            clear hv1 hv2
            go_wp2_with fail
            refine (within_pos v k HV1.out HV2.out (by omega) (by omega) _).mono ?_
            rintro e w5 ⟨rfl, rfl⟩
            have hi0 : 0 ≤ v % (k : Int) := Int.emod_nonneg _ (by omega)
            have hik : v % (k : Int) < k := Int.emod_lt_of_pos _ (by omega)
            obtain ⟨i, hi⟩ : ∃ i : Nat, v % (k : Int) = i := ⟨(v % (k : Int)).toNat, by omega⟩
            rw [hi]
            have hik2 : i < k := by omega
            clear hi hi0 hik
            obtain ⟨r, q, hp⟩ := parts_of S i hSp
            have HP := Lib.hid hp
            have d1 := hp.div
            have d2 := hp.tdiv
            have d3 := hp.mod
            have d4 := hp.tmod
            have hq := hp.qle
            have hr := hp.rlt
            have hq2 : (q : Int) < 256 := by omega
            have w1e : IntKind.i64.wrap (q : Int) = q := IntWalk.i64_in _ (by omega)
            have w2e : IntKind.u8.wrap (q : Int) = q := u8_wrap_nat q (by omega)
            have hi0 : (0 : Int) ≤ i := by omega
            have hS0 : (0 : Int) < S := by omega
            clear hp
            have hsz := (HB.out.lt (w.heap.size + 1) (by simp))
            go_wp2
            go_region_with (
              (go_at_call 9
               refine (sign_en_old _ [w.heap.size + 1, w.heap.size] _ S k i r q HP.out ?_ (by omega) hik2 (by omega) _ 1 1 ?_).mono ?_
               · (
                  refine HB.out.keep (T := []) (Fr.drew ?_) (by simp)
                  repeat (first | with_reducible exact Fr.refl [] wr | with_reducible apply Fr.alloc))
               · refine By.drew ?_
                 first
                   | with_reducible exact By.mark1 _ _ rfl _ _ _ _ (byte_of q (by omega))
                   | with_reducible exact By.mark1a _ _ rfl _ _ _ _ (byte_of q (by omega)) _
                   | with_reducible exact By.mark1 _ _ (by simp) _ _ _ _ (byte_of q (by omega))
               rintro e w3 ⟨rfl, hb3, hf3⟩
               have HF3 : Hid (Fr [] w w3) := by
                 refine Lib.hid (Fr.and (Fr.drew ?_) hf3 (by simp))
                 repeat (first | with_reducible exact HF.out | with_reducible apply Fr.alloc)
               try (
                 have hbs := (sig_behind hf3 (by simp; omega))
                 obtain ⟨hc0, hc1, hz0, hz1⟩ := hbs)
               try (
                 have hbs := (sig_ahead hf3 (by simp; omega))
                 obtain ⟨hc0, hc1, hz0, hz1⟩ := hbs)
               have HB3 := Lib.hid hb3
               clear hb3 hf3))
            all_goals
              go_wp2
              go_quiet (fail)
              go_wp2
              go_roundw
              case rel =>
                refine ⟨j + 1, by omega, by go_num, Lib.hid (HB3.out.keep (T := [wr.heap.size + 1, wr.heap.size]) ?_ (by simp; omega)), Lib.hid (HF3.out.and (T := [wr.heap.size + 1, wr.heap.size]) ?_ (by simp; omega))⟩ <;>
                  repeat (first | with_reducible exact Fr.refl _ _ | with_reducible refine Fr.setCell ?_ _ (by simp) _ | with_reducible refine Fr.alloc ?_ _ | with_reducible refine Fr.drewN ?_ _ | with_reducible refine Fr.drew ?_)
              case measure => simp [intOf]; omega
          · have hl := ens_len S k
            have HB' := HB.out
            go_wp2_with (first
              | (go_at_call 11; refine (len_any _ _ _ _ HB').mono ?_; rw [hl]; rintro e w8 ⟨rfl, rfl⟩)
              | (go_at_call 14; refine (bwakes_any _).mono ?_; rintro e w8 ⟨rfl, hf8⟩))
            go_ret
            exact ⟨rfl, HF.out.and hf8 (by simp)⟩
        · have hl := ens_len S k
          have HB' := HB.out
          go_wp2_with (first
            | (go_at_call 11; refine (len_any _ _ _ _ HB').mono ?_; rw [hl]; rintro e w8 ⟨rfl, rfl⟩)
            | (go_at_call 14; refine (bwakes_any _).mono ?_; rintro e w8 ⟨rfl, hf8⟩))
          go_ret
          exact ⟨rfl, HF.out.and hf8 (by simp)⟩
end Go.Proofs.Ytimknnohabodnaa
