/- Sorting numbers of 64 digits: the two partitions. -/
import Derived.Test.YtglphddjinmhoaaSu6
namespace Go.Proofs.Ytglphddjinmhoaa
set_option maxRecDepth 100000
open Go.RowKit Go.Sort

set_option maxHeartbeats 4000000 in
theorem peq_u (blk off cap a b pivot : Nat) (d : Array Int) (n : Nat) (hn : d.size = n) (w : World) (hH : Hu w blk off d) (hap : a ≤ pivot) (hpb : pivot < b) (hb : b ≤ n) (hsz : n < 4611686018427387904) :
    Calls Try.prog 80 #[.slice (some ⟨blk, off, none⟩) n cap, .int .i64 a, .int .i64 b, .int .i64 pivot] w fun e w' =>
      e = .returned (.int .i64 ((partitionEqual ltInt d a b pivot).1 : Nat)) ∧ Su w blk off d w' (partitionEqual ltInt d a b pivot).2 := by
  have HN := Lib.hid hn
  have HS0 := Lib.hid (Su.start hH)
  clear hH hn
  go_enter Try.func80, Try.ntmps80
  go_wp2
  obtain ⟨G, hG, hcw, hfw⟩ := HS0.out.fam
  have HG := Lib.hid hG
  clear hG
  rw [HN.out] at hcw hfw
  have hxc := fun v => (Su.stored HS0.out (i := a) (v := v) (show a < d.size by rw [HN.out]; omega) (show pivot < d.size by rw [HN.out]; omega)).1
  have hxf := fun v => (Su.stored HS0.out (i := a) (v := v) (show a < d.size by rw [HN.out]; omega) (show pivot < d.size by rw [HN.out]; omega)).2
  go_region
  have hsw : Su w blk off d (((w.setCell ⟨blk, off + a, none⟩ (.int .u64 (G pivot))).setCell ⟨blk, off + pivot, none⟩ (.int .u64 (G a))).drew) (swp d a pivot) := (HS0.out.swapG (n := 0) HG.out (by rw [HN.out]; omega) (by rw [HN.out]; omega)).drewN 1
  generalize (((w.setCell ⟨blk, off + a, none⟩ (.int .u64 (G pivot))).setCell ⟨blk, off + pivot, none⟩ (.int .u64 (G a))).drew) = w1 at hsw ⊢
  have HS1 := Lib.hid hsw
  clear hsw hxc hxf hcw hfw HG
  obtain ⟨d1, hd1⟩ : ∃ d1, d1 = swp d a pivot := ⟨_, rfl⟩
  rw [← hd1] at HS1
  have HD1 := Lib.hid hd1
  clear hd1
  have HE : Hid (partitionEqual ltInt d a b pivot = partEqLoop ltInt a (a + 1) (b - 1) d1) := Lib.hid (by rw [HD1.out]; rfl)
  go_wp2
  go_loopw [9, 10] (fun si sj wr => ∃ (i j : Nat) (dk : Array Int), si = .int .i64 i ∧ sj = .int .i64 j ∧ a < i ∧ i ≤ j + 1 ∧ j < b ∧ Hid (Su w blk off d wr dk) ∧ Hid (partEqLoop ltInt a i j dk = partitionEqual ltInt d a b pivot)) (fun si sj _ => ((intOf sj) + 1 - (intOf si)).toNat)
  case atStart => exact ⟨a + 1, b - 1, d1, by go_num, by congr 1; omega, by omega, by omega, by omega, HS1, Lib.hid HE.out.symm⟩
  case round =>
    obtain ⟨i, j, dk, rfl, rfl, hai, hij, hjb, HS, HL⟩ := hrel
    rename World => wl
    go_upto_block 2 with (fail)
    go_cut [9] (fun s wx => ∃ k : Nat, s = .int .i64 k ∧ i ≤ k ∧ k ≤ j + 1 ∧ Hid (scanUp (fun x => !ltInt dk[a]! x) dk j i = k) ∧ Hid (Su w blk off d wx dk))
    case first =>
      go_wp2
      go_loopw [9] (fun s wr => ∃ k : Nat, s = .int .i64 k ∧ i ≤ k ∧ k ≤ j + 1 ∧ Hid (scanUp (fun x => !ltInt dk[a]! x) dk j k = scanUp (fun x => !ltInt dk[a]! x) dk j i) ∧ Hid (Su w blk off d wr dk)) (fun s _ => j + 2 - (intOf s).toNat)
      case atStart => exact ⟨i, rfl, by omega, by omega, Lib.hid rfl, HS⟩
      case round =>
        obtain ⟨k, rfl, hk1, hk2, HU, HK⟩ := hrel
        rename World => wr1
        obtain ⟨G, hG, hcw, hfw⟩ := HK.out.fam
        have HG := Lib.hid hG
        clear hG
        rw [HN.out] at hcw hfw
        go_wp2
        by_cases hk : k ≤ j
        · go_quiet (first | (go_at_call 79; exact Calls.quiet_of_same (less_u _ _ _)))
          have HQ := Lib.hid (HK.out.drewN nq)
          go_wp2_with fail
          · have hp : (fun x => !ltInt dk[a]! x) dk[k]! = true := by
              show (!ltInt (dk[a]!) (dk[k]!)) = true
              rw [← HG.out, ← HG.out]
              assumption
            go_roundw
            case rel => exact ⟨k + 1, by go_num, by omega, by omega, Lib.hid (by rw [← HU.out, scanUp_go _ _ _ _ hk hp]), HQ⟩
            case measure => simp [intOf]; omega
          · have hp : (fun x => !ltInt dk[a]! x) dk[k]! = false := by
              show (!ltInt (dk[a]!) (dk[k]!)) = false
              rw [← HG.out, ← HG.out]
              assumption
            go_meet
            exact ⟨k, rfl, hk1, hk2, Lib.hid (by rw [← HU.out]; exact scanUp_end _ _ _ _ (Or.inr hp)), HQ⟩
        · go_quiet (first | (go_at_call 79; exact Calls.quiet_of_same (less_u _ _ _)))
          have HQ := Lib.hid (HK.out.drewN nq)
          go_wp2_with fail
          go_meet
          exact ⟨k, rfl, hk1, hk2, Lib.hid (by rw [← HU.out]; exact scanUp_end _ _ _ _ (Or.inl hk)), HQ⟩
    case rest =>
      obtain ⟨i2, rfl, i2a, i2b, HI2, HS2⟩ := hcut
      rename World => wi2
      go_upto_block 4 with (fail)
      go_cut [10] (fun s wx => ∃ k : Nat, s = .int .i64 k ∧ k ≤ j ∧ i2 ≤ k + 1 ∧ Hid (scanDown (fun x => ltInt dk[a]! x) dk i2 j = k) ∧ Hid (Su w blk off d wx dk))
      case first =>
        go_wp2
        go_loopw [10] (fun s wr => ∃ k : Nat, s = .int .i64 k ∧ k ≤ j ∧ i2 ≤ k + 1 ∧ Hid (scanDown (fun x => ltInt dk[a]! x) dk i2 k = scanDown (fun x => ltInt dk[a]! x) dk i2 j) ∧ Hid (Su w blk off d wr dk)) (fun s _ => (intOf s).toNat)
        case atStart => exact ⟨j, rfl, by omega, by omega, Lib.hid rfl, HS2⟩
        case round =>
          obtain ⟨k, rfl, hk1, hk2, HU, HK⟩ := hrel
          rename World => wr1
          obtain ⟨G, hG, hcw, hfw⟩ := HK.out.fam
          have HG := Lib.hid hG
          clear hG
          rw [HN.out] at hcw hfw
          go_wp2
          by_cases hk : i2 ≤ k
          · go_quiet (first | (go_at_call 79; exact Calls.quiet_of_same (less_u _ _ _)))
            have HQ := Lib.hid (HK.out.drewN nq)
            go_wp2_with fail
            · have hp : (fun x => ltInt dk[a]! x) dk[k]! = true := by
                show (ltInt (dk[a]!) (dk[k]!)) = true
                rw [← HG.out, ← HG.out]
                assumption
              go_roundw
              case rel => exact ⟨k - 1, by congr 1; omega, by omega, by omega, Lib.hid (by rw [← HU.out, scanDown_go _ _ _ _ hk (by omega) hp]), HQ⟩
              case measure => simp [intOf]; omega
            · have hp : (fun x => ltInt dk[a]! x) dk[k]! = false := by
                show (ltInt (dk[a]!) (dk[k]!)) = false
                rw [← HG.out, ← HG.out]
                assumption
              go_meet
              exact ⟨k, rfl, hk1, hk2, Lib.hid (by rw [← HU.out]; exact scanDown_end _ _ _ _ (Or.inr hp)), HQ⟩
          · go_quiet (first | (go_at_call 79; exact Calls.quiet_of_same (less_u _ _ _)))
            have HQ := Lib.hid (HK.out.drewN nq)
            go_wp2_with fail
            go_meet
            exact ⟨k, rfl, hk1, hk2, Lib.hid (by rw [← HU.out]; exact scanDown_end _ _ _ _ (Or.inl hk)), HQ⟩
      case rest =>
        obtain ⟨j2, rfl, j2a, j2b, HJ2, HS3⟩ := hcut
        rename World => wj2
        obtain ⟨G, hG, hcw, hfw⟩ := HS3.out.fam
        have HG := Lib.hid hG
        clear hG
        rw [HN.out] at hcw hfw
        by_cases hij2 : j2 < i2
        · go_wp2_with fail
          go_ret
          have e := partEq_break ltInt a i j dk HI2.out.symm HJ2.out.symm hij2
          rw [HL.out] at e
          exact ⟨by rw [e]; rfl, by rw [e]; exact HS3.out⟩
        · have hlt : i2 < j2 := scans_lt ltInt a i j dk (by omega) HI2.out.symm HJ2.out.symm (by omega)
          go_wp2_with fail
          go_region
          have hsw : Su w blk off d (((wj2.setCell ⟨blk, off + i2, none⟩ (.int .u64 (G j2))).setCell ⟨blk, off + j2, none⟩ (.int .u64 (G i2))).drew) (swp dk i2 j2) := (HS3.out.swapG (n := 0) HG.out (by rw [HN.out]; omega) (by rw [HN.out]; omega)).drewN 1
          generalize (((wj2.setCell ⟨blk, off + i2, none⟩ (.int .u64 (G j2))).setCell ⟨blk, off + j2, none⟩ (.int .u64 (G i2))).drew) = wn at hsw ⊢
          have HSN := Lib.hid hsw
          clear hsw hcw hfw HG
          go_wp2_with fail
          go_roundw
          case rel => exact ⟨i2 + 1, j2 - 1, _, by go_num, by congr 1; omega, by omega, by omega, by omega, HSN, Lib.hid (by rw [← HL.out, partEq_go ltInt a i j dk HI2.out.symm HJ2.out.symm (by omega)])⟩
          case measure => simp [intOf]; omega
end Go.Proofs.Ytglphddjinmhoaa
