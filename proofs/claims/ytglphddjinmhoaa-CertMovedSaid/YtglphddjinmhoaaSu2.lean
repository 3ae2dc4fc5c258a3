/- Sorting numbers of 64 digits: the insertion sort; a range turned about. -/
import Derived.Test.YtglphddjinmhoaaSu
namespace Go.Proofs.Ytglphddjinmhoaa
set_option maxRecDepth 100000
open Go.RowKit Go.Sort

section
variable {w w' : World} {blk off : Nat} {d dk : Array Int}
/-- the row's cells as a family, under a name G -/
theorem Su.fam (h : Su w blk off d w' dk) : ∃ G : Nat → Int, (∀ t, G t = dk[t]!) ∧ (∀ t, t < d.size → w'.cell? ⟨blk, off + t, none⟩ = some (.int .u64 (G t))) ∧ (∀ t, t < d.size → w'.frozen? ⟨blk, off + t, none⟩ = false) :=
  ⟨fun t => dk[t]!, fun _ => rfl, fun t ht => h.1.cell (by rw [h.2.1]; exact ht), fun t ht => h.1.frozen (by rw [h.2.1]; exact ht)⟩
theorem Su.drewN (h : Su w blk off d w' dk) (n : Nat) : Su w blk off d (w'.drewN n) dk := h.quiet ((Fr.refl [] w').drewN n)
/-- the two stores of an exchange, as the walk writes them -/
theorem Su.swapG (h : Su w blk off d w' dk) {G : Nat → Int} (hG : ∀ t, G t = dk[t]!) {i j n : Nat} (hi : i < d.size) (hj : j < d.size) :
    Su w blk off d (((w'.drewN n).setCell ⟨blk, off + i, none⟩ (.int .u64 (G j))).setCell ⟨blk, off + j, none⟩ (.int .u64 (G i))) (swp dk i j) := by
  rw [hG, hG]
  exact (h.drewN n).swap hi hj
end

set_option maxHeartbeats 2000000 in
theorem ins_u (blk off cap a b : Nat) (d : Array Int) (w : World) (hH : Hu w blk off d) (hab : a ≤ b) (hb : b ≤ d.size) (hsz : d.size < 4611686018427387904) :
    Calls Try.prog 73 #[.slice (some ⟨blk, off, none⟩) d.size cap, .int .i64 a, .int .i64 b] w fun e w' => e = .returned (.tuple #[]) ∧ Su w blk off d w' (insertionSort ltInt d a b) := by
  have HH := Lib.hid hH
  clear hH
  go_enter Try.func73, Try.ntmps73
  go_wp2
  go_loopw [6] (fun i wr => ∃ (k : Nat) (dk : Array Int), i = .int .i64 k ∧ a < k ∧ k ≤ b + 1 ∧ Hid (Su w blk off d wr dk) ∧ Hid (insOuter ltInt a b k dk = insertionSort ltInt d a b)) (fun i _ => b + 1 - (intOf i).toNat)
  case atStart => exact ⟨a + 1, d, by go_num, by omega, by omega, Lib.hid (Su.start HH.out), Lib.hid rfl⟩
  case round =>
    obtain ⟨k, dk, rfl, hak, hkb, HS, HE⟩ := hrel
    rename World => wa
    go_wp2
    · go_loopw [7] (fun j wq => ∃ (m : Nat) (dj : Array Int), j = .int .i64 m ∧ a ≤ m ∧ m ≤ k ∧ Hid (Su w blk off d wq dj) ∧ Hid (insInner ltInt a m dj = insInner ltInt a k dk)) (fun j _ => (intOf j).toNat)
      case atStart => exact ⟨k, dk, rfl, by omega, Nat.le_refl _, HS, Lib.hid rfl⟩
      case round =>
        obtain ⟨m, dj, rfl, ham, hmk, HJ, HI⟩ := hrel
        rename World => wb
        have hkb' : k < b := by assumption
        obtain ⟨G, hG, hcw, hfw⟩ := HJ.out.fam
        have HG := Lib.hid hG
        clear hG
        have OUT : Hid ((m ≤ a ∨ ltInt dj[m]! dj[m - 1]! = false) → ∀ q, ∃ (k' : Nat) (dk' : Array Int), Value.int .i64 ((k : Int) + 1) = .int .i64 (k' : Nat) ∧ a < k' ∧ k' ≤ b + 1 ∧ Hid (Su w blk off d (wb.drewN q) dk') ∧ Hid (insOuter ltInt a b k' dk' = insertionSort ltInt d a b)) :=
          Lib.hid fun hs q => ⟨k + 1, dj, by go_num, by omega, by omega, Lib.hid (HJ.out.drewN q), Lib.hid (by rw [← HE.out, insOuter_go _ _ _ _ _ hkb', ← HI.out, insInner_stop _ _ _ _ hs])⟩
        go_wp2
        by_cases hma : a < m
        · go_quiet (first | (go_at_call 79; exact Calls.quiet_of_same (less_u _ _ _)))
          go_wp2
          · have hl : ltInt (G m) (G (m - 1)) = true := by assumption
            go_region
            all_goals go_wp2
            go_roundw
            case rel =>
              refine ⟨m - 1, swp dj m (m - 1), by congr 1; omega, by omega, by omega, Lib.hid ?_, Lib.hid ?_⟩
              · exact HJ.out.swapG HG.out (by omega) (by omega)
              · rw [← HI.out, insInner_go ltInt a m dj hma (by rw [← HG.out, ← HG.out]; exact hl)]
            case measure => simp [intOf]; omega
          · have hl : ltInt (G m) (G (m - 1)) = false := by assumption
            go_roundw
            case rel => exact OUT.out (Or.inr (by rw [← HG.out, ← HG.out]; exact hl)) nq
            case measure => simp [intOf]; omega
        · go_quiet (first | (go_at_call 79; exact Calls.quiet_of_same (less_u _ _ _)))
          go_wp2
          go_roundw
          case rel => exact OUT.out (Or.inl (by omega)) nq
          case measure => simp [intOf]; omega
    · have hge : ¬ k < b := by assumption
      go_end0
      exact ⟨rfl, by rw [← HE.out, insOuter_stop _ _ _ _ _ hge]; exact HS.out⟩
end Go.Proofs.Ytglphddjinmhoaa
