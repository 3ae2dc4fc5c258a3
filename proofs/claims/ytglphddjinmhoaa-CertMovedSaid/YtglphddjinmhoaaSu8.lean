/- Sorting numbers of 64 digits: the two partitions. -/
import Derived.Test.YtglphddjinmhoaaSu7
namespace Go.Proofs.Ytglphddjinmhoaa
set_option maxRecDepth 100000
open Go.RowKit Go.Sort

set_option maxHeartbeats 8000000 in
theorem prt_u (blk off cap a b pivot : Nat) (d : Array Int) (n : Nat) (hn : d.size = n) (w : World) (hH : Hu w blk off d) (hap : a ≤ pivot) (hpb : pivot < b) (hb : b ≤ n) (hsz : n < 4611686018427387904) :
    Calls Try.prog 81 #[.slice (some ⟨blk, off, none⟩) n cap, .int .i64 a, .int .i64 b, .int .i64 pivot] w fun e w' =>
      e = .returned (.tuple #[.int .i64 ((partition ltInt d a b pivot).1 : Nat), .bool (partition ltInt d a b pivot).2.1]) ∧ Su w blk off d w' (partition ltInt d a b pivot).2.2 := by
  have HN := Lib.hid hn
  have HS0 := Lib.hid (Su.start hH)
  clear hH hn
  go_enter Try.func81, Try.ntmps81
  go_wp2
  obtain ⟨G, hG, hcw, hfw⟩ := HS0.out.fam
  have HG := Lib.hid hG
  clear hG
  rw [HN.out] at hcw hfw
  have hxc := fun v => (Su.stored HS0.out (i := a) (v := v) (show a < d.size by rw [HN.out]; omega) (show pivot < d.size by rw [HN.out]; omega)).1
  have hxf := fun v => (Su.stored HS0.out (i := a) (v := v) (show a < d.size by rw [HN.out]; omega) (show pivot < d.size by rw [HN.out]; omega)).2
  go_region
  have hsw : Su w blk off d (((w.setCell ⟨blk, off + a, none⟩ (.int .u64 (G pivot))).setCell ⟨blk, off + pivot, none⟩ (.int .u64 (G a))).drew) (swp d a pivot) := (HS0.out.swapG (n := 0) HG.out (by rw [HN.out]; omega) (by rw [HN.out]; omega)).drewN 1
  generalize (((w.setCell ⟨blk, off + a, none⟩ (.int .u64 (G pivot))).setCell ⟨blk, off + pivot, none⟩ (.int .u64 (G a))).drew) = w1 at hsw ⊢
  have HS1 := Lib.hid hsw
  clear hsw hxc hxf hcw hfw HG
  obtain ⟨d1, hd1⟩ : ∃ d1, d1 = swp d a pivot := ⟨_, rfl⟩
  rw [← hd1] at HS1
  have HD1 := Lib.hid hd1
  clear hd1
  go_upto_block 0 with (fail)
  have e1 : (a : Int) + 1 = ((a + 1 : Nat) : Int) := by omega
  have e2 : (b : Int) - 1 = ((b - 1 : Nat) : Int) := by omega
  rw [e1, e2]
  go_cut [10] (fun s wx => ∃ k : Nat, s = .int .i64 k ∧ (a + 1) ≤ k ∧ k ≤ (b - 1) + 1 ∧ Hid (scanUp (fun x => ltInt x d1[a]!) d1 (b - 1) (a + 1) = k) ∧ Hid (Su w blk off d wx d1))
  case first =>
    go_wp2
    go_loopw [10] (fun s wr => ∃ k : Nat, s = .int .i64 k ∧ (a + 1) ≤ k ∧ k ≤ (b - 1) + 1 ∧ Hid (scanUp (fun x => ltInt x d1[a]!) d1 (b - 1) k = scanUp (fun x => ltInt x d1[a]!) d1 (b - 1) (a + 1)) ∧ Hid (Su w blk off d wr d1)) (fun s _ => (b - 1) + 2 - (intOf s).toNat)
    case atStart => exact ⟨(a + 1), rfl, by omega, by omega, Lib.hid rfl, HS1⟩
    case round =>
      obtain ⟨k, rfl, hk1, hk2, HU, HK⟩ := hrel
      rename World => wr1
      obtain ⟨G, hG, hcw, hfw⟩ := HK.out.fam
      have HG := Lib.hid hG
      clear hG
      rw [HN.out] at hcw hfw
      go_wp2
      by_cases hk : k ≤ (b - 1)
      · go_quiet (first | (go_at_call 79; exact Calls.quiet_of_same (less_u _ _ _)))
        have HQ := Lib.hid (HK.out.drewN nq)
        go_wp2_with fail
        · have hp : (fun x => ltInt x d1[a]!) d1[k]! = true := by
            show (ltInt (d1[k]!) (d1[a]!)) = true
            rw [← HG.out, ← HG.out]
            assumption
          go_roundw
          case rel => exact ⟨k + 1, by go_num, by omega, by omega, Lib.hid (by rw [← HU.out, scanUp_go _ _ _ _ hk hp]), HQ⟩
          case measure => simp [intOf]; omega
        · have hp : (fun x => ltInt x d1[a]!) d1[k]! = false := by
            show (ltInt (d1[k]!) (d1[a]!)) = false
            rw [← HG.out, ← HG.out]
            assumption
          go_meet
          exact ⟨k, rfl, hk1, hk2, Lib.hid (by rw [← HU.out]; exact scanUp_end _ _ _ _ (Or.inr hp)), HQ⟩
      · go_quiet (first | (go_at_call 79; exact Calls.quiet_of_same (less_u _ _ _)))
        have HQ := Lib.hid (HK.out.drewN nq)
        go_wp2_with fail
        go_meet
        exact ⟨k, rfl, hk1, hk2, Lib.hid (by rw [← HU.out]; exact scanUp_end _ _ _ _ (Or.inl hk)), HQ⟩
  case rest =>
    obtain ⟨i2, rfl, i2a, i2b, HI2, HS2⟩ := hcut
    rename World => wi2
    go_upto_block 2 with (fail)
    go_cut [11] (fun s wx => ∃ k : Nat, s = .int .i64 k ∧ k ≤ (b - 1) ∧ i2 ≤ k + 1 ∧ Hid (scanDown (fun x => !ltInt x d1[a]!) d1 i2 (b - 1) = k) ∧ Hid (Su w blk off d wx d1))
    case first =>
      go_wp2
      go_loopw [11] (fun s wr => ∃ k : Nat, s = .int .i64 k ∧ k ≤ (b - 1) ∧ i2 ≤ k + 1 ∧ Hid (scanDown (fun x => !ltInt x d1[a]!) d1 i2 k = scanDown (fun x => !ltInt x d1[a]!) d1 i2 (b - 1)) ∧ Hid (Su w blk off d wr d1)) (fun s _ => (intOf s).toNat)
      case atStart => exact ⟨(b - 1), rfl, by omega, by omega, Lib.hid rfl, HS2⟩
      case round =>
        obtain ⟨k, rfl, hk1, hk2, HU, HK⟩ := hrel
        rename World => wr1
        obtain ⟨G, hG, hcw, hfw⟩ := HK.out.fam
        have HG := Lib.hid hG
        clear hG
        rw [HN.out] at hcw hfw
        go_wp2
        by_cases hk : i2 ≤ k
        · go_quiet (first | (go_at_call 79; exact Calls.quiet_of_same (less_u _ _ _)))
          have HQ := Lib.hid (HK.out.drewN nq)
          go_wp2_with fail
          · have hp : (fun x => !ltInt x d1[a]!) d1[k]! = true := by
              show (!ltInt (d1[k]!) (d1[a]!)) = true
              rw [← HG.out, ← HG.out]
              assumption
            go_roundw
            case rel => exact ⟨k - 1, by congr 1; omega, by omega, by omega, Lib.hid (by rw [← HU.out, scanDown_go _ _ _ _ hk (by omega) hp]), HQ⟩
            case measure => simp [intOf]; omega
          · have hp : (fun x => !ltInt x d1[a]!) d1[k]! = false := by
              show (!ltInt (d1[k]!) (d1[a]!)) = false
              rw [← HG.out, ← HG.out]
              assumption
            go_meet
            exact ⟨k, rfl, hk1, hk2, Lib.hid (by rw [← HU.out]; exact scanDown_end _ _ _ _ (Or.inr hp)), HQ⟩
        · go_quiet (first | (go_at_call 79; exact Calls.quiet_of_same (less_u _ _ _)))
          have HQ := Lib.hid (HK.out.drewN nq)
          go_wp2_with fail
          go_meet
          exact ⟨k, rfl, hk1, hk2, Lib.hid (by rw [← HU.out]; exact scanDown_end _ _ _ _ (Or.inl hk)), HQ⟩
    case rest =>
      obtain ⟨j2, rfl, j2a, j2b, HJ2, HS3⟩ := hcut
      rename World => wj2
      obtain ⟨G, hG, hcw, hfw⟩ := HS3.out.fam
      have HG := Lib.hid hG
      clear hG
      rw [HN.out] at hcw hfw
      by_cases hij2 : j2 < i2
      · have e := part_first_break ltInt d a b pivot rfl rfl HD1.out HI2.out.symm HJ2.out.symm hij2
        have hxc := fun v => (Su.stored HS3.out (i := j2) (v := v) (show j2 < d.size by rw [HN.out]; omega) (show a < d.size by rw [HN.out]; omega)).1
        have hxf := fun v => (Su.stored HS3.out (i := j2) (v := v) (show j2 < d.size by rw [HN.out]; omega) (show a < d.size by rw [HN.out]; omega)).2
        go_wp2_with fail
        go_region
        have hsw : Su w blk off d (((wj2.setCell ⟨blk, off + j2, none⟩ (.int .u64 (G a))).setCell ⟨blk, off + a, none⟩ (.int .u64 (G j2))).drew) (swp d1 j2 a) := (HS3.out.swapG (n := 0) HG.out (by rw [HN.out]; omega) (by rw [HN.out]; omega)).drewN 1
        generalize (((wj2.setCell ⟨blk, off + j2, none⟩ (.int .u64 (G a))).setCell ⟨blk, off + a, none⟩ (.int .u64 (G j2))).drew) = wn at hsw ⊢
        have HSN := Lib.hid hsw
        clear hsw hxc hxf hcw hfw HG
        go_wp2_with fail
        go_ret2
        exact ⟨by rw [e]; rfl, by rw [e]; exact HSN.out⟩
      · have hlt : i2 < j2 := part_scans_lt ltInt a (a + 1) (b - 1) d1 (by omega) HI2.out.symm HJ2.out.symm (by omega)
        have HE := Lib.hid (part_first_go ltInt d a b pivot rfl rfl HD1.out HI2.out.symm HJ2.out.symm hij2)
        go_wp2_with fail
        go_region
        have hsw : Su w blk off d (((wj2.setCell ⟨blk, off + i2, none⟩ (.int .u64 (G j2))).setCell ⟨blk, off + j2, none⟩ (.int .u64 (G i2))).drew) (swp d1 i2 j2) := (HS3.out.swapG (n := 0) HG.out (by rw [HN.out]; omega) (by rw [HN.out]; omega)).drewN 1
        generalize (((wj2.setCell ⟨blk, off + i2, none⟩ (.int .u64 (G j2))).setCell ⟨blk, off + j2, none⟩ (.int .u64 (G i2))).drew) = wn at hsw ⊢
        have HSN := Lib.hid hsw
        clear hsw hcw hfw HG
        obtain ⟨d2, hd2⟩ : ∃ d2, d2 = swp d1 i2 j2 := ⟨_, rfl⟩
        rw [← hd2] at HSN HE
        clear hd2
        go_wp2_with fail
        go_loopw [10, 11] (fun si sj wr => ∃ (i j : Nat) (dk : Array Int), si = .int .i64 i ∧ sj = .int .i64 j ∧ a < i ∧ i ≤ j + 1 ∧ j < b ∧ Hid (Su w blk off d wr dk) ∧ Hid (partLoop ltInt a i j dk = partLoop ltInt a (i2 + 1) (j2 - 1) d2)) (fun si sj _ => ((intOf sj) + 1 - (intOf si)).toNat)
        case atStart => exact ⟨i2 + 1, j2 - 1, d2, by go_num, by congr 1; omega, by omega, by omega, by omega, HSN, Lib.hid rfl⟩
        case round =>
          obtain ⟨i, j, dk, rfl, rfl, hai, hij, hjb, HS, HL⟩ := hrel
          rename World => wl
          go_upto_block 6 with (fail)
          go_cut [10] (fun s wx => ∃ k : Nat, s = .int .i64 k ∧ i ≤ k ∧ k ≤ j + 1 ∧ Hid (scanUp (fun x => ltInt x dk[a]!) dk j i = k) ∧ Hid (Su w blk off d wx dk))
          case first =>
            go_wp2
            go_loopw [10] (fun s wr => ∃ k : Nat, s = .int .i64 k ∧ i ≤ k ∧ k ≤ j + 1 ∧ Hid (scanUp (fun x => ltInt x dk[a]!) dk j k = scanUp (fun x => ltInt x dk[a]!) dk j i) ∧ Hid (Su w blk off d wr dk)) (fun s _ => j + 2 - (intOf s).toNat)
            case atStart => exact ⟨i, rfl, by omega, by omega, Lib.hid rfl, HS⟩
            case round =>
              obtain ⟨k, rfl, hk1, hk2, HU, HK⟩ := hrel
              rename World => wr1
              obtain ⟨G, hG, hcw, hfw⟩ := HK.out.fam
              have HG := Lib.hid hG
              clear hG
              rw [HN.out] at hcw hfw
              go_wp2
              by_cases hk : k ≤ j
              · go_quiet (first | (go_at_call 79; exact Calls.quiet_of_same (less_u _ _ _)))
                have HQ := Lib.hid (HK.out.drewN nq)
                go_wp2_with fail
                · have hp : (fun x => ltInt x dk[a]!) dk[k]! = true := by
                    show (ltInt (dk[k]!) (dk[a]!)) = true
                    rw [← HG.out, ← HG.out]
                    assumption
                  go_roundw
                  case rel => exact ⟨k + 1, by go_num, by omega, by omega, Lib.hid (by rw [← HU.out, scanUp_go _ _ _ _ hk hp]), HQ⟩
                  case measure => simp [intOf]; omega
                · have hp : (fun x => ltInt x dk[a]!) dk[k]! = false := by
                    show (ltInt (dk[k]!) (dk[a]!)) = false
                    rw [← HG.out, ← HG.out]
                    assumption
                  go_meet
                  exact ⟨k, rfl, hk1, hk2, Lib.hid (by rw [← HU.out]; exact scanUp_end _ _ _ _ (Or.inr hp)), HQ⟩
              · go_quiet (first | (go_at_call 79; exact Calls.quiet_of_same (less_u _ _ _)))
                have HQ := Lib.hid (HK.out.drewN nq)
                go_wp2_with fail
                go_meet
                exact ⟨k, rfl, hk1, hk2, Lib.hid (by rw [← HU.out]; exact scanUp_end _ _ _ _ (Or.inl hk)), HQ⟩
          case rest =>
            obtain ⟨i3, rfl, i3a, i3b, HI3, HS4⟩ := hcut
            rename World => wi3
            go_upto_block 8 with (fail)
            go_cut [11] (fun s wx => ∃ k : Nat, s = .int .i64 k ∧ k ≤ j ∧ i3 ≤ k + 1 ∧ Hid (scanDown (fun x => !ltInt x dk[a]!) dk i3 j = k) ∧ Hid (Su w blk off d wx dk))
            case first =>
              go_wp2
              go_loopw [11] (fun s wr => ∃ k : Nat, s = .int .i64 k ∧ k ≤ j ∧ i3 ≤ k + 1 ∧ Hid (scanDown (fun x => !ltInt x dk[a]!) dk i3 k = scanDown (fun x => !ltInt x dk[a]!) dk i3 j) ∧ Hid (Su w blk off d wr dk)) (fun s _ => (intOf s).toNat)
              case atStart => exact ⟨j, rfl, by omega, by omega, Lib.hid rfl, HS4⟩
              case round =>
                obtain ⟨k, rfl, hk1, hk2, HU, HK⟩ := hrel
                rename World => wr1
                obtain ⟨G, hG, hcw, hfw⟩ := HK.out.fam
                have HG := Lib.hid hG
                clear hG
                rw [HN.out] at hcw hfw
                go_wp2
                by_cases hk : i3 ≤ k
                · go_quiet (first | (go_at_call 79; exact Calls.quiet_of_same (less_u _ _ _)))
                  have HQ := Lib.hid (HK.out.drewN nq)
                  go_wp2_with fail
                  · have hp : (fun x => !ltInt x dk[a]!) dk[k]! = true := by
                      show (!ltInt (dk[k]!) (dk[a]!)) = true
                      rw [← HG.out, ← HG.out]
                      assumption
                    go_roundw
                    case rel => exact ⟨k - 1, by congr 1; omega, by omega, by omega, Lib.hid (by rw [← HU.out, scanDown_go _ _ _ _ hk (by omega) hp]), HQ⟩
                    case measure => simp [intOf]; omega
                  · have hp : (fun x => !ltInt x dk[a]!) dk[k]! = false := by
                      show (!ltInt (dk[k]!) (dk[a]!)) = false
                      rw [← HG.out, ← HG.out]
                      assumption
                    go_meet
                    exact ⟨k, rfl, hk1, hk2, Lib.hid (by rw [← HU.out]; exact scanDown_end _ _ _ _ (Or.inr hp)), HQ⟩
                · go_quiet (first | (go_at_call 79; exact Calls.quiet_of_same (less_u _ _ _)))
                  have HQ := Lib.hid (HK.out.drewN nq)
                  go_wp2_with fail
                  go_meet
                  exact ⟨k, rfl, hk1, hk2, Lib.hid (by rw [← HU.out]; exact scanDown_end _ _ _ _ (Or.inl hk)), HQ⟩
            case rest =>
              obtain ⟨j3, rfl, j3a, j3b, HJ3, HS5⟩ := hcut
              rename World => wj3
              obtain ⟨G, hG, hcw, hfw⟩ := HS5.out.fam
              have HG := Lib.hid hG
              clear hG
              rw [HN.out] at hcw hfw
              by_cases hij3 : j3 < i3
              · have e := part_break ltInt a i j dk HI3.out.symm HJ3.out.symm hij3
                rw [HL.out] at e
                have E := HE.out
                rw [e] at E
                have hxc := fun v => (Su.stored HS5.out (i := j3) (v := v) (show j3 < d.size by rw [HN.out]; omega) (show a < d.size by rw [HN.out]; omega)).1
                have hxf := fun v => (Su.stored HS5.out (i := j3) (v := v) (show j3 < d.size by rw [HN.out]; omega) (show a < d.size by rw [HN.out]; omega)).2
                go_wp2_with fail
                go_region
                have hsw : Su w blk off d (((wj3.setCell ⟨blk, off + j3, none⟩ (.int .u64 (G a))).setCell ⟨blk, off + a, none⟩ (.int .u64 (G j3))).drew) (swp dk j3 a) := (HS5.out.swapG (n := 0) HG.out (by rw [HN.out]; omega) (by rw [HN.out]; omega)).drewN 1
                generalize (((wj3.setCell ⟨blk, off + j3, none⟩ (.int .u64 (G a))).setCell ⟨blk, off + a, none⟩ (.int .u64 (G j3))).drew) = wm at hsw ⊢
                have HSM := Lib.hid hsw
                clear hsw hxc hxf hcw hfw HG
                go_wp2_with fail
                go_ret2
                exact ⟨by rw [E]; rfl, by rw [E]; exact HSM.out⟩
              · have hlt3 : i3 < j3 := part_scans_lt ltInt a i j dk (by omega) HI3.out.symm HJ3.out.symm (by omega)
                go_wp2_with fail
                go_region
                have hsw : Su w blk off d (((wj3.setCell ⟨blk, off + i3, none⟩ (.int .u64 (G j3))).setCell ⟨blk, off + j3, none⟩ (.int .u64 (G i3))).drew) (swp dk i3 j3) := (HS5.out.swapG (n := 0) HG.out (by rw [HN.out]; omega) (by rw [HN.out]; omega)).drewN 1
                generalize (((wj3.setCell ⟨blk, off + i3, none⟩ (.int .u64 (G j3))).setCell ⟨blk, off + j3, none⟩ (.int .u64 (G i3))).drew) = wm at hsw ⊢
                have HSM := Lib.hid hsw
                clear hsw hcw hfw HG
                go_wp2_with fail
                go_roundw
                case rel => exact ⟨i3 + 1, j3 - 1, _, by go_num, by congr 1; omega, by omega, by omega, by omega, HSM, Lib.hid (by rw [← HL.out, part_go ltInt a i j dk HI3.out.symm HJ3.out.symm (by omega)])⟩
                case measure => simp [intOf]; omega
end Go.Proofs.Ytglphddjinmhoaa
