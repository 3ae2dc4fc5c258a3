/- The document's median. -/
import Derived.Test.YtglphddjinmhoaaCeD
import Derived.Deep.DeepCutAuto
import Derived.Deep.CutBlock
namespace Go.Proofs.Ytglphddjinmhoaa
open Go.RowKit Go.Sort
set_option maxRecDepth 100000

theorem countP_split (l : List Int) (m : Int) : l.countP (fun x => decide (x ≤ m)) = l.countP (fun x => decide (x < m)) + l.countP (fun x => decide (x = m)) := by
  induction l with
  | nil => rfl
  | cons a l ih =>
    simp only [List.countP_cons, ih]
    by_cases h1 : a < m
    · have h2 : a ≤ m := by omega
      have h3 : ¬ a = m := by omega
      simp [h1, h2, h3]; omega
    · by_cases h3 : a = m
      · subst h3; simp; omega
      · have h2 : ¬ a ≤ m := by omega
        simp [h1, h2, h3]
theorem countP_take {l : List Int} {k : Nat} {v : Int} (h : l[k]? = some v) (p : Int → Bool) : (l.take (k + 1)).countP p = (l.take k).countP p + if p v = true then 1 else 0 := by
  rw [List.take_add_one, h, List.countP_append]
  simp [List.countP_cons]

set_option maxHeartbeats 2000000 in
theorem refmed_any (A : Option Addr) (n c : Nat) (l : List Int) (w : World) (hr : UL w A n l) (hn : n ≤ 50) :
    Calls Try.prog 21 #[.slice A n c] w fun e w' => ∃ m : Int, e = .returned (.tuple #[.int .u64 m, .bool (n % 2 == 1)]) ∧ (n % 2 = 1 → IsMed l m) ∧ (n % 2 = 0 → m = 0) ∧ Fr [] w w' := by
  obtain ⟨h, hh⟩ : ∃ h, h = n / 2 := ⟨_, rfl⟩
  have e1 : (n : Int).tdiv 2 = (h : Int) := by rw [hh]; exact Int.ofNat_tdiv n 2
  have e1' : (n : Int) / 2 = (h : Int) := by rw [hh]; omega
  rcases Nat.mod_two_eq_zero_or_one n with h0 | h0
  · have e2 : (n : Int).tmod 2 = 0 := by rw [show (2 : Int) = ((2 : Nat) : Int) from rfl, ← Int.ofNat_tmod, h0]; rfl
    have e3 : (n : Int) % 2 = 0 := by omega
    have e4 : (n % 2 == 1) = false := by rw [h0]; rfl
    rw [e4]
    clear hr hh e4
    go_enter Try.func21, Try.ntmps21
    go_wp2_with fail
    go_ret2
    exact ⟨0, rfl, fun h => by omega, fun _ => rfl, Fr.refl _ _⟩
  · have e2 : (n : Int).tmod 2 = 1 := by rw [show (2 : Int) = ((2 : Nat) : Int) from rfl, ← Int.ofNat_tmod, h0]; rfl
    have e3 : (n : Int) % 2 = 1 := by omega
    have e4 : (n % 2 == 1) = true := by rw [h0]; rfl
    rw [e4]
    have hn0 : 0 < n := by omega
    have HH := Lib.hid hh
    have HR := Lib.hid hr
    clear hr hh e4
    go_enter Try.func21, Try.ntmps21
    go_wp2_with fail
    go_loopw [14] (fun i wr => ∃ k : Nat, i = .int .i64 k ∧ k ≤ n ∧ Hid (∀ j v, j < k → l[j]? = some v → ¬ IsMed l v) ∧ Hid (Fr [] w wr)) (fun i _ => n + 1 - (intOf i).toNat)
    case atStart => exact ⟨0, rfl, Nat.zero_le _, Lib.hid (fun j v hj => by omega), Lib.hid (Fr.refl _ _)⟩
    case round =>
      obtain ⟨k, rfl, hk, HNO, HF⟩ := hrel
      rename World => wr
      by_cases hkn : k < n
      · obtain ⟨ad, v, rfl, hv, hv0, hv1, hcellk⟩ := (HR.out.keep HF.out (by simp)).get hkn
        have HV := Lib.hid hv
        clear hv hcellk
        go_wp2_with fail
        go_loopw [5, 6, 19] (fun s5 s6 i wq => ∃ q : Nat, i = .int .i64 q ∧ q ≤ n ∧ s5 = .int .i64 ((l.take q).countP (fun x => decide (x < v)) : Nat) ∧ s6 = .int .i64 ((l.take q).countP (fun x => decide (x = v)) : Nat) ∧ Hid (Fr [] w wq)) (fun _ _ i _ => n + 1 - (intOf i).toNat)
        case atStart => exact ⟨0, rfl, Nat.zero_le _, rfl, rfl, HF⟩
        case round =>
          obtain ⟨q, rfl, hq, rfl, rfl, HFQ⟩ := hrel
          rename World => wq
          have hb5 := List.countP_le_length (p := fun x => decide (x < v)) (l := l.take q)
          have hb6 := List.countP_le_length (p := fun x => decide (x = v)) (l := l.take q)
          rw [List.length_take] at hb5 hb6
          have hck : wq.cell? (ad.add k) = some (.int .u64 v) := by
            obtain ⟨ad', v', e, hv', _, _, hc⟩ := (HR.out.keep HFQ.out (by simp)).get hkn
            injection e with e
            subst e
            rw [HV.out] at hv'
            injection hv' with hv'
            subst hv'
            exact hc
          by_cases hqn : q < n
          · obtain ⟨ad', u, e, hu, _, _, hcq⟩ := (HR.out.keep HFQ.out (by simp)).get hqn
            injection e with e
            subst e
            have E5 := Lib.hid (countP_take hu (fun x => decide (x < v)))
            have E6 := Lib.hid (countP_take hu (fun x => decide (x = v)))
            generalize (l.take q).countP (fun x => decide (x < v)) = c5 at *
            generalize (l.take q).countP (fun x => decide (x = v)) = c6 at *
            clear hu
            have hq1 : q + 1 ≤ n := by omega
            go_wp2_with fail
            by_cases huv : u < v
            · have hne : ¬ u = v := by omega
              have hne2 : (u == v) = false := by simp [hne]
              have g5 : (List.countP (fun x => decide (x < v)) (l.take (q + 1))) = c5 + 1 := by rw [E5.out]; simp [huv]
              have g6 : (List.countP (fun x => decide (x = v)) (l.take (q + 1))) = c6 := by rw [E6.out]; simp [hne]
              have G5 := Lib.hid g5
              have G6 := Lib.hid g6
              clear g5 g6
              go_quiet (fail)
              go_wp2_with fail
              go_quiet (fail)
              go_wp2_with fail
              go_roundw
              case rel => exact ⟨q + 1, by go_num, hq1, by rw [G5.out]; go_num, by rw [G6.out], Lib.hid (HFQ.out.drewN _)⟩
              case measure => simp [intOf]; omega
            · by_cases hne : u = v
              · have hne2 : (u == v) = true := by simp [hne]
                have g5 : (List.countP (fun x => decide (x < v)) (l.take (q + 1))) = c5 := by rw [E5.out]; simp [huv]
                have g6 : (List.countP (fun x => decide (x = v)) (l.take (q + 1))) = c6 + 1 := by rw [E6.out]; simp [hne]
                have G5 := Lib.hid g5
                have G6 := Lib.hid g6
                clear g5 g6
                go_quiet (fail)
                go_wp2_with fail
                go_quiet (fail)
                go_wp2_with fail
                go_roundw
                case rel => exact ⟨q + 1, by go_num, hq1, by rw [G5.out], by rw [G6.out]; go_num, Lib.hid (HFQ.out.drewN _)⟩
                case measure => simp [intOf]; omega
              · have hne2 : (u == v) = false := by simp [hne]
                have g5 : (List.countP (fun x => decide (x < v)) (l.take (q + 1))) = c5 := by rw [E5.out]; simp [huv]
                have g6 : (List.countP (fun x => decide (x = v)) (l.take (q + 1))) = c6 := by rw [E6.out]; simp [hne]
                have G5 := Lib.hid g5
                have G6 := Lib.hid g6
                clear g5 g6
                go_quiet (fail)
                go_wp2_with fail
                go_quiet (fail)
                go_wp2_with fail
                go_roundw
                case rel => exact ⟨q + 1, by go_num, hq1, by rw [G5.out], by rw [G6.out], Lib.hid (HFQ.out.drewN _)⟩
                case measure => simp [intOf]; omega
          · have hqe : q = n := by omega
            have htk : l.take q = l := List.take_of_length_le (by rw [HR.out.1]; omega)
            rw [htk] at hb5 hb6 ⊢
            have HC := Lib.hid (countP_split l v)
            have HI : Hid (IsMed l v ↔ (l.countP (fun x => decide (x < v)) ≤ h ∧ h < l.countP (fun x => decide (x < v)) + l.countP (fun x => decide (x = v)))) := Lib.hid (by
              have hm : v ∈ l := List.mem_of_getElem? HV.out
              constructor
              · intro hI
                have h1 := hI.low
                have h2 := hI.high
                rw [HC.out, HR.out.1, ← HH.out] at h2
                rw [HR.out.1, ← HH.out] at h1
                exact ⟨h1, h2⟩
              · rintro ⟨h1, h2⟩
                refine ⟨hm, by rw [HR.out.1, ← HH.out]; exact h1, by rw [HC.out, HR.out.1, ← HH.out]; exact h2⟩)
            generalize l.countP (fun x => decide (x < v)) = c5 at *
            generalize l.countP (fun x => decide (x = v)) = c6 at *
            clear HC hqe
            by_cases h5 : c5 ≤ h
            · by_cases h6 : h < c5 + c6
              · go_wp2_with fail
                go_ret2
                exact ⟨v, rfl, fun _ => HI.out.2 ⟨h5, h6⟩, fun h => by omega, HFQ.out⟩
              · go_wp2_with fail
                go_roundw
                case rel => exact ⟨k + 1, by go_num, by omega, Lib.hid (fun j u hj hu => by
                  rcases Nat.lt_or_ge j k with h | h
                  · exact HNO.out j u h hu
                  · have : j = k := by omega
                    subst this
                    rw [HV.out] at hu
                    injection hu with hu
                    subst hu
                    exact fun hI => h6 (HI.out.1 hI).2), HFQ⟩
                case measure => simp [intOf]; omega
            · go_wp2_with fail
              go_roundw
              case rel => exact ⟨k + 1, by go_num, by omega, Lib.hid (fun j u hj hu => by
                rcases Nat.lt_or_ge j k with h | h
                · exact HNO.out j u h hu
                · have : j = k := by omega
                  subst this
                  rw [HV.out] at hu
                  injection hu with hu
                  subst hu
                  exact fun hI => h5 (HI.out.1 hI).1), HFQ⟩
              case measure => simp [intOf]; omega
      · go_wp2_with fail
        obtain ⟨m, hm⟩ := isMed_ex l (by rw [HR.out.1]; exact hn0)
        obtain ⟨j, hj⟩ := List.getElem?_of_mem hm.mem
        exact absurd hm (HNO.out j m (by have := (List.getElem?_eq_some_iff.1 hj).1; rw [HR.out.1] at this; omega) hj)
end Go.Proofs.Ytglphddjinmhoaa
