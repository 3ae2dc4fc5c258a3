/- Sorting numbers of 64 digits: is a short row sorted? -/
import Derived.Test.YtglphddjinmhoaaSu5
namespace Go.Proofs.Ytglphddjinmhoaa
set_option maxRecDepth 100000
open Go.RowKit Go.Sort

/-- no step down among the first k places from a on -/
theorem sorted_steps {d : Array Int} {a b : Nat} (h : ∀ i, a < i → i < b → ltInt d[i]! d[i - 1]! = false) : SortedIn ltInt a b d := by
  have H : ∀ (k i : Nat), a ≤ i → i + k + 1 < b → ltInt d[i + k + 1]! d[i]! = false := by
    intro k
    induction k with
    | zero => intro i hi hb; have := h (i + 1) (by omega) (by omega); simpa using this
    | succ k ih =>
      intro i hi hb
      have h1 := ih i hi (by omega)
      have h2 := h (i + (k + 1) + 1) (by omega) hb
      exact swo_ltInt.ntrans _ _ _ h2 h1
  intro i j hi hij hj
  have := H (j - i - 1) i hi (by omega)
  rwa [show i + (j - i - 1) + 1 = j by omega] at this

set_option maxHeartbeats 2000000 in
theorem par_u (blk off cap a b : Nat) (d : Array Int) (n : Nat) (hn : d.size = n) (w : World) (hH : Hu w blk off d) (hab : a < b) (hb : b ≤ n) (h50 : b - a < 50) (hsz : n < 4611686018427387904) :
    Calls Try.prog 78 #[.slice (some ⟨blk, off, none⟩) n cap, .int .i64 a, .int .i64 b] w fun e w' =>
      ∃ r : Bool, e = .returned (.bool r) ∧ (r = true → SortedIn ltInt a b d) ∧ Fr [] w w' := by
  obtain ⟨G, hG, hcw, hfw⟩ := (Su.start hH).fam
  rw [hn] at hcw hfw
  have HC := Lib.hid hcw
  have HG := Lib.hid hG
  have e50 : (b : Int) - (a : Int) < 50 := by omega
  clear hH hn hG hcw hfw
  go_enter Try.func78, Try.ntmps78
  go_wp2
  go_loopw [7, 8] (fun i j wr => i = .int .i64 ((a : Int) + 1) ∧ j = .int .i64 0 ∧ Hid (wr = w)) (fun _ _ _ => 0)
  case atStart => exact ⟨rfl, rfl, Lib.hid rfl⟩
  case round =>
    obtain ⟨rfl, rfl, hww⟩ := hrel
    rename World => wz
    have hwz : w = wz := hww.out.symm
    subst hwz
    go_upto_block 2 with (fail)
    go_cut [7] (fun s7 wx => ∃ k : Nat, s7 = .int .i64 k ∧ a < k ∧ k ≤ b ∧ Hid (∀ i, a < i → i < k → ltInt d[i]! d[i - 1]! = false) ∧ Hid (Fr [] w wx))
    case first =>
      go_wp2
      go_loopw [7] (fun i wr => ∃ k : Nat, i = .int .i64 k ∧ a < k ∧ k ≤ b ∧ Hid (∀ i, a < i → i < k → ltInt d[i]! d[i - 1]! = false) ∧ Hid (Fr [] w wr)) (fun i _ => b + 1 - (intOf i).toNat)
      case atStart => exact ⟨a + 1, by go_num, by omega, by omega, Lib.hid (fun i h1 h2 => by omega), Lib.hid (Fr.refl _ _)⟩
      case round =>
        obtain ⟨k, rfl, hak, hkb, HA, HF⟩ := hrel
        rename World => wa
        have hcw : ∀ t, t < n → wa.cell? ⟨blk, off + t, none⟩ = some (.int .u64 (G t)) := fun t ht => HF.out.cell (HC.out t ht) (by simp)
        go_wp2
        by_cases hk : k < b
        · go_quiet (first | (go_at_call 79; exact Calls.quiet_of_same (less_u _ _ _)))
          have HFN := Lib.hid (HF.out.drewN nq)
          go_wp2_with fail
          · have hl : ltInt (G k) (G (k - 1)) = false := by simpa using (show (!ltInt (G k) (G (k - 1))) = true by assumption)
            go_roundw
            case rel => exact ⟨k + 1, by go_num, by omega, by omega, Lib.hid (fun i h1 h2 => by
              rcases Nat.lt_or_ge i k with h | h
              · exact HA.out i h1 h
              · have : i = k := by omega
                subst this
                rw [← HG.out, ← HG.out]
                exact hl), HFN⟩
            case measure => simp [intOf]; omega
          · go_meet
            exact ⟨k, rfl, hak, hkb, HA, HFN⟩
        · go_quiet (first | (go_at_call 79; exact Calls.quiet_of_same (less_u _ _ _)))
          have HFN := Lib.hid (HF.out.drewN nq)
          go_wp2_with fail
          go_meet
          exact ⟨k, rfl, hak, hkb, HA, HFN⟩
    case rest =>
      obtain ⟨k, rfl, hak, hkb, HA, HF⟩ := hcut
      by_cases hk : k = b
      · subst hk
        go_wp2_with fail
        go_ret
        exact Or.inr ⟨rfl, sorted_steps HA.out, HF.out⟩
      · go_wp2_with fail
        go_ret
        exact Or.inl ⟨rfl, HF.out⟩
end Go.Proofs.Ytglphddjinmhoaa
