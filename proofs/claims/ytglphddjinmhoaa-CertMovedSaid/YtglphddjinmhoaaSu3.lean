/- Sorting numbers of 64 digits: a range turned about; the heap. -/
import Derived.Test.YtglphddjinmhoaaSu2
import Derived.Deep.DeepCutAuto
import Derived.Deep.CutBlock
namespace Go.Proofs.Ytglphddjinmhoaa
set_option maxRecDepth 100000
open Go.RowKit Go.Sort

set_option maxHeartbeats 2000000 in
theorem rev_u (blk off cap a b : Nat) (d : Array Int) (w : World) (hH : Hu w blk off d) (hab : a < b) (hb : b ≤ d.size) (hsz : d.size < 4611686018427387904) :
    Calls Try.prog 77 #[.slice (some ⟨blk, off, none⟩) d.size cap, .int .i64 a, .int .i64 b] w fun e w' => e = .returned (.tuple #[]) ∧ ∃ d', Su w blk off d w' d' ∧ PermIn a b d d' := by
  have HH := Lib.hid hH
  clear hH
  go_enter Try.func77, Try.ntmps77
  go_wp2
  go_loopw [6, 7] (fun i j wr => ∃ (k m : Nat) (dk : Array Int), i = .int .i64 k ∧ j = .int .i64 m ∧ a ≤ k ∧ k ≤ b ∧ m < b ∧ k ≤ m + 1 ∧ Hid (Su w blk off d wr dk) ∧ Hid (PermIn a b d dk)) (fun i _ _ => b + 1 - (intOf i).toNat)
  case atStart => exact ⟨a, b - 1, d, rfl, by congr 1; omega, Nat.le_refl _, by omega, by omega, by omega, Lib.hid (Su.start HH.out), Lib.hid (permIn_refl _ _ _)⟩
  case round =>
    obtain ⟨k, m, dk, rfl, rfl, hak, hkb, hmb, hkm, HS, HP⟩ := hrel
    rename World => wa
    obtain ⟨G, hG, hcw, hfw⟩ := HS.out.fam
    have HG := Lib.hid hG
    clear hG
    go_wp2
    · go_region
      all_goals go_wp2
      go_roundw
      case rel =>
        refine ⟨k + 1, m - 1, swp dk k m, by go_num, by congr 1; omega, by omega, by omega, by omega, by omega, Lib.hid ?_, Lib.hid ?_⟩
        · exact HS.out.swapG HG.out (by omega) (by omega)
        · exact permIn_trans _ _ _ _ _ HP.out (swp_permIn dk a b k m hak (by omega) (by omega) hmb (by rw [HP.out.1]; exact hb))
      case measure => simp [intOf]; omega
    · go_end0
      exact ⟨rfl, dk, HS.out, HP.out⟩

theorem sd_pick_r {lt : Int → Int → Bool} {d : Array Int} {F hi r c : Nat} (hc : c = 2 * r + 1) (h : c + 1 < hi) (hl : lt d[F + c]! d[F + c + 1]! = true) :
    (lt d[F + r]! d[F + (c + 1)]! = false → siftDown lt hi F r d = d) ∧ (lt d[F + r]! d[F + (c + 1)]! = true → siftDown lt hi F r d = siftDown lt hi F (c + 1) (swp d (F + r) (F + (c + 1)))) := by
  subst hc
  exact ⟨fun h3 => sd_right_stop lt d h hl h3, fun h3 => sd_right_go lt d h hl h3⟩
theorem sd_pick_l {lt : Int → Int → Bool} {d : Array Int} {F hi r c : Nat} (hc : c = 2 * r + 1) (h0 : c < hi) (hl : c + 1 < hi → lt d[F + c]! d[F + c + 1]! = false) :
    (lt d[F + r]! d[F + c]! = false → siftDown lt hi F r d = d) ∧ (lt d[F + r]! d[F + c]! = true → siftDown lt hi F r d = siftDown lt hi F c (swp d (F + r) (F + c))) := by
  subst hc
  exact ⟨fun h3 => sd_left_stop lt d h0 hl h3, fun h3 => sd_left_go lt d h0 hl h3⟩
set_option maxHeartbeats 4000000 in
theorem sift_u (blk off cap lo hi F : Nat) (d : Array Int) (n : Nat) (hn : d.size = n) (w : World) (hH : Hu w blk off d) (hlo : lo ≤ hi) (hb : F + hi ≤ n) (hsz : n < 4611686018427387904) :
    Calls Try.prog 97 #[.slice (some ⟨blk, off, none⟩) n cap, .int .i64 lo, .int .i64 hi, .int .i64 F] w fun e w' => e = .returned (.tuple #[]) ∧ Su w blk off d w' (siftDown ltInt hi F lo d) := by
  have HH := Lib.hid hH
  have HN := Lib.hid hn
  clear hH hn
  go_enter Try.func97, Try.ntmps97
  go_wp2
  go_loopw [8] (fun i wr => ∃ (r : Nat) (dk : Array Int), i = .int .i64 r ∧ r ≤ hi ∧ Hid (Su w blk off d wr dk) ∧ Hid (siftDown ltInt hi F r dk = siftDown ltInt hi F lo d)) (fun i _ => hi + 1 - (intOf i).toNat)
  case atStart => exact ⟨lo, d, rfl, hlo, Lib.hid (Su.start HH.out), Lib.hid rfl⟩
  case round =>
    obtain ⟨r, dk, rfl, hrh, HS, HE⟩ := hrel
    rename World => wa
    obtain ⟨G, hG, hcw, hfw⟩ := HS.out.fam
    rw [HN.out] at hcw hfw
    have HG := Lib.hid hG
    obtain ⟨c, hc⟩ : ∃ c, c = 2 * r + 1 := ⟨_, rfl⟩
    have e1 : (2 : Int) * (r : Int) + 1 = (c : Int) := by omega
    have HC := Lib.hid hc
    have hrc : r < c := by omega
    have hrc2 : c ≤ 2 * hi + 1 := by omega
    clear hG hc
    go_wp2
    · -- child at or past hi
      go_end0
      exact ⟨rfl, by have := HC.out; have e := sd_end (lt := ltInt) (hi := hi) (F := F) (root := r) dk (by omega); rw [← HE.out, e]; exact HS.out⟩
    · have hch : c < hi := by omega
      have hcc := Lib.hid HC.out
      clear HC
      by_cases h2 : (c : Int) + 1 < hi
      · have h2' : c + 1 < hi := by omega
        go_quiet (first | (go_at_call 79; exact Calls.quiet_of_same (less_u _ _ _)))
        have HS2 := Lib.hid (HS.out.drewN nq)
        go_upto_if 36 with (fail)
        go_cut [9] (fun s9 wx => ∃ e : Nat, s9 = .int .i64 e ∧ e < hi ∧ r < e ∧ Hid (Su w blk off d wx dk) ∧ Hid (ltInt dk[F + r]! dk[F + e]! = false → siftDown ltInt hi F r dk = dk) ∧ Hid (ltInt dk[F + r]! dk[F + e]! = true → siftDown ltInt hi F r dk = siftDown ltInt hi F e (swp dk (F + r) (F + e))))
        case first =>
          go_wp2_with fail
          · have hl : ltInt (G (F + c)) (G (F + c + 1)) = true := by assumption
            have hp := sd_pick_r (lt := ltInt) (d := dk) (F := F) hcc.out h2' (by rw [← HG.out, ← HG.out]; exact hl)
            go_meet
            exact ⟨c + 1, by go_num, h2', by omega, HS2, Lib.hid hp.1, Lib.hid hp.2⟩
          · have hl : ltInt (G (F + c)) (G (F + c + 1)) = false := by assumption
            have hp := sd_pick_l (lt := ltInt) (d := dk) (F := F) hcc.out hch (fun _ => by rw [← HG.out, ← HG.out]; exact hl)
            go_meet
            exact ⟨c, rfl, hch, by omega, HS2, Lib.hid hp.1, Lib.hid hp.2⟩
        case rest =>
          clear hcw hfw HG
          clear G
          obtain ⟨e, rfl, heh, hre, HS3, H1, H2⟩ := hcut
          rename World => wc
          obtain ⟨G, hG, hcw, hfw⟩ := HS3.out.fam
          rw [HN.out] at hcw hfw
          have HG := Lib.hid hG
          clear hG
          go_wp2_with fail
          go_quiet (first | (go_at_call 79; exact Calls.quiet_of_same (less_u _ _ _)))
          go_wp2_with fail
          · have hl : ltInt (G (F + r)) (G (F + e)) = false := by simpa using (show (!ltInt (G (F + r)) (G (F + e))) = true by assumption)
            refine bodyPost_ret (v := .tuple #[]) (results_none (by first | rfl | kernel_rfl) _ _ _) rfl ?_
            refine ⟨rfl, ?_⟩
            rw [← HE.out, H1.out (by rw [← HG.out, ← HG.out]; exact hl)]
            exact HS3.out.drewN nq
          · have hl : ltInt (G (F + r)) (G (F + e)) = true := by simpa using (show (!ltInt (G (F + r)) (G (F + e))) = false by assumption)
            go_region
            all_goals go_wp2
            go_roundw
            case rel =>
              refine ⟨e, swp dk (F + r) (F + e), rfl, by omega, Lib.hid ?_, Lib.hid ?_⟩
              · exact HS3.out.swapG (i := F + r) (j := F + e) HG.out (by rw [HN.out]; omega) (by rw [HN.out]; omega)
              · rw [← HE.out, H2.out (by rw [← HG.out, ← HG.out]; exact hl)]
            case measure => simp [intOf]; omega
      · go_quiet (first | (go_at_call 79; exact Calls.quiet_of_same (less_u _ _ _)))
        have HS2 := Lib.hid (HS.out.drewN nq)
        go_upto_if 36 with (fail)
        go_cut [9] (fun s9 wx => ∃ e : Nat, s9 = .int .i64 e ∧ e < hi ∧ r < e ∧ Hid (Su w blk off d wx dk) ∧ Hid (ltInt dk[F + r]! dk[F + e]! = false → siftDown ltInt hi F r dk = dk) ∧ Hid (ltInt dk[F + r]! dk[F + e]! = true → siftDown ltInt hi F r dk = siftDown ltInt hi F e (swp dk (F + r) (F + e))))
        case first =>
          have hp := sd_pick_l (lt := ltInt) (d := dk) (F := F) hcc.out hch (fun h => absurd h (by omega))
          go_wp2_with fail
          go_meet
          exact ⟨c, rfl, hch, by omega, HS2, Lib.hid hp.1, Lib.hid hp.2⟩
        case rest =>
          clear hcw hfw HG
          clear G
          obtain ⟨e, rfl, heh, hre, HS3, H1, H2⟩ := hcut
          rename World => wc
          obtain ⟨G, hG, hcw, hfw⟩ := HS3.out.fam
          rw [HN.out] at hcw hfw
          have HG := Lib.hid hG
          clear hG
          go_wp2_with fail
          go_quiet (first | (go_at_call 79; exact Calls.quiet_of_same (less_u _ _ _)))
          go_wp2_with fail
          · have hl : ltInt (G (F + r)) (G (F + e)) = false := by simpa using (show (!ltInt (G (F + r)) (G (F + e))) = true by assumption)
            refine bodyPost_ret (v := .tuple #[]) (results_none (by first | rfl | kernel_rfl) _ _ _) rfl ?_
            refine ⟨rfl, ?_⟩
            rw [← HE.out, H1.out (by rw [← HG.out, ← HG.out]; exact hl)]
            exact HS3.out.drewN nq
          · have hl : ltInt (G (F + r)) (G (F + e)) = true := by simpa using (show (!ltInt (G (F + r)) (G (F + e))) = false by assumption)
            go_region
            all_goals go_wp2
            go_roundw
            case rel =>
              refine ⟨e, swp dk (F + r) (F + e), rfl, by omega, Lib.hid ?_, Lib.hid ?_⟩
              · exact HS3.out.swapG (i := F + r) (j := F + e) HG.out (by rw [HN.out]; omega) (by rw [HN.out]; omega)
              · rw [← HE.out, H2.out (by rw [← HG.out, ← HG.out]; exact hl)]
            case measure => simp [intOf]; omega
end Go.Proofs.Ytglphddjinmhoaa
