/- CertBetween's walk. -/
import Derived.Test.YtglphddjinmhoaaCeD
import Derived.Deep.DeepCutAuto
import Derived.Deep.CutBlock
namespace Go.Proofs.Ytglphddjinmhoaa
open Go.RowKit Go.Sort
set_option maxRecDepth 100000

set_option maxHeartbeats 4000000 in
theorem certBetween_walk (w : World) (f0 : Int) (hf1 : -9223372036854775808 ≤ f0) (hf2 : f0 < 9223372036854775808)
    (A : Option Addr) (n c : Nat) (l1 : List Int) (hA : UL w A n l1) (hn : n ≤ c) (hc : c ≤ maxLen) (B : Option Addr) (m d : Nat) (l2 : List Int) (hB : UL w B m l2) (hm : m ≤ d) (hd : d ≤ maxLen)
    (t0 : Int) (ht1 : -9223372036854775808 ≤ t0) (ht2 : t0 < 9223372036854775808) :
    Calls Try.prog 6 #[.int .i64 f0, .slice A n c, .slice B m d, .int .i64 t0] w fun e w' => e = .returned (.bool true) ∧ Fr [] w w' := by
  unfold maxLen at hc hd
  have HA := Lib.hid hA
  have HB := Lib.hid hB
  have hmod := within_pos f0 21 hf1 hf2 (by decide) (by decide) w
  obtain ⟨F, hF, hF1, hF2⟩ : ∃ F : Nat, 1 + f0 % 21 = (F : Int) ∧ 1 ≤ F ∧ F ≤ 21 := ⟨(1 + f0 % 21).toNat, by omega, by omega, by omega⟩
  have HT1 := Lib.hid ht1
  have HT2 := Lib.hid ht2
  clear hA hB hf1 hf2 ht1 ht2
  go_enter Try.func6, Try.ntmps6
  go_wp2_with (first | (go_at_call 14; refine hmod.mono ?_; rintro e w' ⟨rfl, rfl⟩))
  go_loopw [9, 10, 11, 12] (fun s lo hi i wr => ∃ (k : Nat) (A9 : Option Addr) (c9 : Nat) (xs : List Int) (x y : Int), k ≤ F + 1 ∧ i = .int .i64 k ∧ s = .slice A9 k c9 ∧ lo = .int .u64 x ∧ hi = .int .u64 y ∧ Hid (xs.length = k) ∧ Hid (wr.ownsRow w.heap.size 23 1 (.slice A9 k c9) k (xs.flatMap uc)) ∧
      Hid (∀ z ∈ xs, x ≤ z ∧ z ≤ y ∧ 0 ≤ z ∧ z < 18446744073709551616) ∧ Hid (Fr [] w wr)) (fun _ _ _ i _ => F + 2 - (intOf i).toNat)
  case atStart => exact ⟨0, none, 0, [], _, _, by omega, rfl, rfl, rfl, rfl, Lib.hid rfl, Lib.hid ⟨by simp, .inl ⟨rfl, rfl⟩⟩, Lib.hid (by simp), Lib.hid (Fr.refl _ _)⟩
  case round =>
    obtain ⟨k, A9, c9, xs, x, y, hk, rfl, rfl, rfl, rfl, HX, HO, HB9, HF⟩ := hrel
    rename World => wr
    by_cases hkF : k < F + 1
    · have hwk : IntKind.u64.wrap (k : Int) = (k : Int) := by simp [IntKind.wrap, IntKind.bits, IntKind.signed]; omega
      go_upto_if 35 with (fail)
      go_cut [13] (fun s wx => ∃ t : Int, s = .int .u64 t ∧ 0 ≤ t ∧ t < 18446744073709551616 ∧ wr = wx)
      case first =>
        by_cases hkn : k < n
        · obtain ⟨ad, v, rfl, hv, hv0, hv1, hcell⟩ := (HA.out.keep HF.out (by simp)).get hkn
          go_wp2_with fail
          go_meet
          exact ⟨v, rfl, hv0, hv1, rfl⟩
        · go_wp2_with fail
          go_meet
          exact ⟨k, rfl, by omega, by omega, rfl⟩
      case rest =>
        obtain ⟨t, rfl, h0t, ht1, rfl⟩ := hcut
        have HT := Lib.hid (And.intro h0t ht1)
        clear h0t ht1
        go_wp2_with (at_builtin; refine Stop.mk ?_)
        refine Stop.go ?_
        refine wpList_append_one3 rfl _ _ 22 23 rfl Try.underlying22 1 8 el_u64 (by decide) w.heap.size (.slice A9 k c9) k (xs.flatMap uc) [.int .u64 t] rfl (HO.out.alloc _) (by have := HF.out.size; simp; omega) rfl (by simp [Value.oneCell']) wr.heap.size 23 rfl (Blk.new _ _ _) (by omega) (by decide) ?_
        intro A1 c1 w1 ho1 hf1 hb1
        have HO1 : Hid (w1.ownsRow w.heap.size 23 1 (.slice A1 (k + 1) c1) (k + 1) ((xs ++ [t]).flatMap uc)) := Lib.hid (by rw [List.flatMap_append]; exact ho1)
        have HF1 : Hid (Fr [] w w1) := Lib.hid ((HF.out.and ((Fr.refl [] wr).alloc _) (by simp)).and hf1 (by
          intro z hz
          rw [bk_own] at hz
          exact own_ge HO.out z hz))
        clear ho1 hf1 hb1
        go_wp2
        go_roundw
        case rel =>
          refine ⟨k + 1, A1, c1, xs ++ [t], min x t, max y t, by omega, by go_num, rfl, ?_, ?_, Lib.hid (by simp [HX.out]), HO1, Lib.hid (fun z hz => ?_), HF1⟩
          · first | rfl | (congr 1; omega)
          · first | rfl | (congr 1; omega)
          · have hT := HT.out
            rcases List.mem_append.1 hz with h | h
            · have := HB9.out z h; omega
            · simp at h; subst h; omega
        case measure => simp [intOf]; omega
    · have hkF1 : k = F + 1 := by omega
      have HO' : Hid (wr.ownsRow w.heap.size 23 1 (.slice A9 (F + 1) c9) (F + 1) (xs.flatMap uc)) := by rw [← hkF1]; exact HO
      have HX' : Hid (xs.length = F + 1) := by rw [← hkF1]; exact HX
      have hsl : Value.slice A9 k c9 = Value.slice A9 (F + 1) c9 := by rw [hkF1]
      rw [hsl]
      clear HO HX hsl
      have HKF := Lib.hid hkF1
      clear hkF1
      go_wp2_with fail
      go_loopw [9, 14] (fun s i wr => ∃ (k : Nat) (A9 : Option Addr) (c9 : Nat) (ys : List Int), k ≤ F ∧ i = .int .i64 k ∧ s = .slice A9 (F + 1 + k) c9 ∧ Hid (ys.length = k) ∧ Hid (wr.ownsRow w.heap.size 23 1 (.slice A9 (F + 1 + k) c9) (F + 1 + k) ((xs ++ ys).flatMap uc)) ∧
        Hid (∀ z ∈ ys, 0 ≤ z ∧ z < 18446744073709551616) ∧ Hid (Fr [] w wr)) (fun _ i _ => F + 1 - (intOf i).toNat)
      case atStart => exact ⟨0, A9, c9, [], Nat.zero_le _, rfl, rfl, Lib.hid rfl, Lib.hid (by simpa using HO'.out), Lib.hid (by simp), HF⟩
      case round =>
        obtain ⟨k, A9, c9, ys, hk, rfl, rfl, HY, HO, HB8, HF⟩ := hrel
        rename World => wr
        by_cases hkF : k < F
        · go_upto_if 58 with (fail)
          go_cut [15] (fun s wx => ∃ t : Int, s = .int .u64 t ∧ 0 ≤ t ∧ t < 18446744073709551616 ∧ wr = wx)
          case first =>
            by_cases hkn : k < m
            · obtain ⟨ad, v, rfl, hv, hv0, hv1, hcell⟩ := (HB.out.keep HF.out (by simp)).get hkn
              go_wp2_with fail
              go_meet
              exact ⟨v, rfl, hv0, hv1, rfl⟩
            · go_wp2_with fail
              go_meet
              exact ⟨0, rfl, by omega, by omega, rfl⟩
          case rest =>
            obtain ⟨t, rfl, h0t, ht1, rfl⟩ := hcut
            have HT := Lib.hid (And.intro h0t ht1)
            clear h0t ht1
            go_wp2_with (at_builtin; refine Stop.mk ?_)
            refine Stop.go ?_
            refine wpList_append_one3 rfl _ _ 22 23 rfl Try.underlying22 1 8 el_u64 (by decide) w.heap.size (.slice A9 (F + 1 + k) c9) (F + 1 + k) ((xs ++ ys).flatMap uc) [.int .u64 t] rfl (HO.out.alloc _) (by have := HF.out.size; simp; omega) rfl (by simp [Value.oneCell']) wr.heap.size 23 rfl (Blk.new _ _ _) (by omega) (by decide) ?_
            intro A1 c1 w1 ho1 hf1 hb1
            have HO1 : Hid (w1.ownsRow w.heap.size 23 1 (.slice A1 (F + 1 + (k + 1)) c1) (F + 1 + (k + 1)) ((xs ++ (ys ++ [t])).flatMap uc)) := Lib.hid (by rw [← List.append_assoc, List.flatMap_append]; exact ho1)
            have HF1 : Hid (Fr [] w w1) := Lib.hid ((HF.out.and ((Fr.refl [] wr).alloc _) (by simp)).and hf1 (by
              intro z hz
              rw [bk_own] at hz
              exact own_ge HO.out z hz))
            clear ho1 hf1 hb1
            go_wp2
            go_roundw
            case rel => exact ⟨k + 1, A1, c1, ys ++ [t], by omega, by go_num, rfl, Lib.hid (by simp [HY.out]), HO1, Lib.hid (fun z hz => by
              have hT := HT.out
              rcases List.mem_append.1 hz with h | h
              · exact HB8.out z h
              · simp at h; subst h; exact hT), HF1⟩
            case measure => simp [intOf]; omega
        · have hkF2 : k = F := by omega
          obtain ⟨N, hN⟩ : ∃ N, N = F + 1 + k := ⟨_, rfl⟩
          rw [← hN] at HO ⊢
          have hN50 : N < 50 := by omega
          have hNodd : N % 2 = 1 := by omega
          have hNodd' : (N % 2 == 1) = true := by rw [hNodd]; rfl
          have hN0 : 0 < N := by omega
          have hlen : (xs ++ ys).length = N := by rw [List.length_append, HX'.out, HY.out]; omega
          have HRG : Hid (∀ z ∈ xs ++ ys, 0 ≤ z ∧ z < 18446744073709551616) := Lib.hid (fun z hz => by
            rcases List.mem_append.1 hz with h | h
            · exact (HB9.out z h).2.2
            · exact HB8.out z h)
          have HUL : Hid (UL wr A9 N (xs ++ ys)) := Lib.hid (UL.own (own_any HO.out (Nat.zero_le _)) hlen HRG.out)
          have hcap := own_capn HO.out
          have HLEN := Lib.hid hlen
          have HNN := Lib.hid hN
          have HK2 := Lib.hid hkF2
          clear hN hlen hkF2
          have hw2 := within_pos t0 N HT1.out HT2.out (by omega) (by omega) wr
          obtain ⟨q, hq, hqN⟩ : ∃ q : Nat, t0 % (N : Int) = (q : Int) ∧ q < N := ⟨(t0 % (N : Int)).toNat, by have := Int.emod_nonneg t0 (show (N : Int) ≠ 0 by omega); omega, by have := Int.emod_lt_of_pos t0 (show (0 : Int) < N by omega); omega⟩
          rw [hq] at hw2
          go_wp2_with (first | (go_at_call 14; refine hw2.mono ?_; rintro e w' ⟨rfl, rfl⟩))
          refine wp_region_held_drew (S := Fr [] wr) (by kernel_rfl) (Fr.drew (Fr.refl _ wr)) (fun hHeld => ?_)
          have hqN' : q ≤ N := by omega
          have hqc : q ≤ c9 := by omega
          refine run_at (i := 0) (v := ?_) rfl (by kernel_rfl) (by rfl) (fun _ _ _ h => h) hHeld (fun w1 hw1 => ?_) ?_
          rotate_left 1
          · skip
            go_simp
            (try (first | with_reducible rfl | (apply And.intro <;> rfl)))
          simp only [Act.put, List.setIfInBounds_toArray, List.set_cons_zero, List.set_cons_succ]
          refine run_at (i := 1) (v := ?_) rfl (by kernel_rfl) (by rfl) (fun _ _ _ h => h) hHeld (fun w1 hw1 => ?_) ?_
          rotate_left 1
          · skip
            go_simp
            (try (first | with_reducible rfl | (apply And.intro <;> rfl)))
          simp only [Act.put, List.setIfInBounds_toArray, List.set_cons_zero, List.set_cons_succ]
          refine run_at (i := 2) (v := ?_) rfl (by kernel_rfl) (by rfl) (fun _ _ _ h => h) hHeld (fun w1 hw1 => ?_) ?_
          rotate_left 1
          · skip
            go_simp
            (try (first | with_reducible rfl | (apply And.intro <;> rfl)))
          simp only [Act.put, List.setIfInBounds_toArray, List.set_cons_zero, List.set_cons_succ]
          refine run_at (i := 4) (v := ?_) rfl (by kernel_rfl) (by rfl) (fun _ _ _ h => h) hHeld (fun w1 hw1 => ?_) ?_
          rotate_left 1
          · skip
            go_simp
            (try (first | with_reducible rfl | (apply And.intro <;> rfl)))
          simp only [Act.put, List.setIfInBounds_toArray, List.set_cons_zero, List.set_cons_succ]
          refine run_at (i := 5) (v := ?_) rfl (by kernel_rfl) (by rfl) (fun _ _ _ h => h) hHeld (fun w1 hw1 => ?_) ?_
          rotate_left 1
          · skip
            go_simp
            (try (first | with_reducible rfl | (apply And.intro <;> rfl)))
          simp only [Act.put, List.setIfInBounds_toArray, List.set_cons_zero, List.set_cons_succ]
          refine run_at (i := 6) (v := ?_) rfl (by kernel_rfl) (by rfl) (fun _ _ _ h => h) hHeld (fun w1 hw1 => ?_) ?_
          rotate_left 1
          · skip
            go_simp
            (try (first | with_reducible rfl | (apply And.intro <;> rfl)))
          simp only [Act.put, List.setIfInBounds_toArray, List.set_cons_zero, List.set_cons_succ]
          refine call_at (i := 3) (f := ?_) (args := ?_) rfl (by kernel_rfl) (by rfl) ?_ ?_
          rotate_left 2
          · go_simp
            (try (first | with_reducible rfl | (apply And.intro <;> rfl)))
          refine (copyU_any (if c9 = q then A9 else A9.map (·.add q)) (N - q) (c9 - q) ((xs ++ ys).drop q) _ ((HUL.out.keep hHeld (by simp)).cut hqN' hcap) (by omega)).mono ?_
          rintro e w1 ⟨A1, c1, rfl, hN1⟩
          refine ⟨_, rfl, hHeld.trans hN1.2.1 (by simp), fun hHeld => ?_⟩
          simp only [Act.put, List.setIfInBounds_toArray, List.set_cons_zero, List.set_cons_succ]
          have HN1 := Lib.hid hN1
          clear hN1
          refine step_at (i := 7) rfl (by kernel_rfl) (by rfl) (fun K hK => ?_)
          refine wp_append_ownl _ _ _ _ rfl 23 1 8 Try.underlying22 el_u64 (by decide) (by decide) uc_one A1 (N - q) c1 ((xs ++ ys).drop q) rfl HN1.out.1 A9 q c9 ((xs ++ ys).take q) rfl ((HUL.out.keep hHeld (by simp)).take hqN') (by omega) ?_
          intro A2 c2 w2 ho2 hf2 hb2
          refine hK.out _ _ (hHeld.and hf2 (fun z hz => by have := HN1.out.2.2 z hz; simpa using this)) (fun hHeld => ?_)
          clear hK K
          simp only [Act.put, List.setIfInBounds_toArray, List.set_cons_zero, List.set_cons_succ]
          have e2 : N - q + q = N := by omega
          rw [e2] at ho2 ⊢
          have HRL : Hid (((xs ++ ys).drop q ++ (xs ++ ys).take q).Perm (xs ++ ys)) := Lib.hid (List.perm_append_comm.trans (by rw [List.take_append_drop]))
          have HU2 : Hid (UL w2 A2 N ((xs ++ ys).drop q ++ (xs ++ ys).take q)) := Lib.hid (UL.own ho2 (by rw [HRL.out.length_eq]; exact HLEN.out) (fun z hz => HRG.out z (HRL.out.mem_iff.1 hz)))
          clear ho2 hf2 hb2
          refine call_at (i := 8) (f := ?_) (args := ?_) rfl (by kernel_rfl) (by rfl) ?_ ?_
          rotate_left 2
          · go_simp
            (try (first | with_reducible rfl | (apply And.intro <;> rfl)))
          refine (median_any A2 N c2 _ _ HU2.out (by omega)).mono ?_
          rintro e w3 ⟨t, rfl, hm3, -, hf3⟩
          refine ⟨_, rfl, hHeld.trans hf3 (by simp), fun hHeld => ?_⟩
          simp only [Act.put, List.setIfInBounds_toArray, List.set_cons_zero, List.set_cons_succ]
          have HM3 := Lib.hid ((hm3 hNodd).perm HRL.out.symm)
          clear hm3 hf3
          rw [hNodd']
          refine run_at (i := 9) (v := ?_) rfl (by kernel_rfl) (by rfl) (fun _ _ _ h => h) hHeld (fun w1 hw1 => ?_) ?_
          rotate_left 1
          · skip
            go_simp
            (try (first | with_reducible rfl | (apply And.intro <;> rfl)))
          simp only [Act.put, List.setIfInBounds_toArray, List.set_cons_zero, List.set_cons_succ]
          refine run_at (i := 10) (v := ?_) rfl (by kernel_rfl) (by rfl) (fun _ _ _ h => h) hHeld (fun w1 hw1 => ?_) ?_
          rotate_left 1
          · skip
            go_simp
            (try (first | with_reducible rfl | (apply And.intro <;> rfl)))
          simp only [Act.put, List.setIfInBounds_toArray, List.set_cons_zero, List.set_cons_succ]
          refine run_at (i := 11) (v := ?_) rfl (by kernel_rfl) (by rfl) (fun _ _ _ h => h) hHeld (fun w1 hw1 => ?_) ?_
          rotate_left 1
          · skip
            go_simp
            (try (first | with_reducible rfl | (apply And.intro <;> rfl)))
          simp only [Act.put, List.setIfInBounds_toArray, List.set_cons_zero, List.set_cons_succ]
          refine run_at (i := 12) (v := ?_) rfl (by kernel_rfl) (by rfl) (fun _ _ _ h => h) hHeld (fun w1 hw1 => ?_) ?_
          rotate_left 1
          · skip
            go_simp
            (try (first | with_reducible rfl | (apply And.intro <;> rfl)))
          simp only [Act.put, List.setIfInBounds_toArray, List.set_cons_zero, List.set_cons_succ]
          refine run_at (i := 13) (v := ?_) rfl (by kernel_rfl) (by rfl) (fun _ _ _ h => h) hHeld (fun w1 hw1 => ?_) ?_
          rotate_left 1
          · skip
            go_simp
            (try (first | with_reducible rfl | (apply And.intro <;> rfl)))
          simp only [Act.put, List.setIfInBounds_toArray, List.set_cons_zero, List.set_cons_succ]
          refine wpAnyH_done (by kernel_rfl) ?_ _
          have HF3 := Lib.hid (HF.out.trans hHeld (by simp))
          have hc3 := median_any A9 N c9 (xs ++ ys) w3 (HUL.out.keep hHeld (by simp)) (by omega)
          clear hHeld
          go_wp2_with fail
          refine hc3.mono ?_
          rintro e w4 ⟨u, rfl, hm4, -, hf4⟩
          have hM4 := hm4 hNodd
          have htu : t = u := HM3.out.one hM4
          subst htu
          have hbt := hM4.between (by rw [HX'.out, HY.out]; omega) (fun z hz => ⟨(HB9.out z hz).1, (HB9.out z hz).2.1⟩)
          have HF4 := Lib.hid (HF3.out.trans hf4 (by simp))
          have hb1 := hbt.1
          have hb2 := hbt.2
          clear hc3 hm4 hf4 hM4 hbt
          rw [hNodd']
          have hwk := cewakes_any w4
          go_wp2_with (first | (go_at_call 13; refine hwk.mono ?_; rintro e w5 ⟨rfl, hf5⟩))
          go_ret
          exact ⟨rfl, HF4.out.trans hf5 (by simp)⟩
end Go.Proofs.Ytglphddjinmhoaa
