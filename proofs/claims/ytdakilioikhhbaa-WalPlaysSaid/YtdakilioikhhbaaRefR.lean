/- gavelref01's Reader: the document's own answers. -/
import Derived.Test.YtdakilioikhhbaaRHash
namespace Go.Proofs.Ytdakilioikhhbaa
open Go.RowKit

/-- the document's reader at block g: what is left, and whether it has failed -/
def Rq (w : World) (g : Nat) (F : List Nat) (l : List UInt8) (bad : Bool) : Prop :=
  ∃ A n c, (∀ k ∈ bk A, k ∈ F ∧ k ≠ g) ∧ Blk w g 75 #[.slice A n c, .bool bad] ∧ By w A n l ∧ n ≤ c
theorem Rq.keep {w w' : World} {g : Nat} {F T : List Nat} {l : List UInt8} {bad : Bool} (h : Rq w g F l bad) (hf : Fr T w w') (hg : ¬ g ∈ T) (hF : ∀ k ∈ F, ¬ k ∈ T) : Rq w' g F l bad := by
  obtain ⟨A, n, c, hA, hb, hy, hc⟩ := h
  exact ⟨A, n, c, hA, hb.keep hf hg, hy.keep hf (fun a ha => hF _ (hA a.block (by simp [bk, ha])).1), hc⟩
theorem Rq.lt {w : World} {g : Nat} {F : List Nat} {l : List UInt8} {bad : Bool} (h : Rq w g F l bad) : g < w.heap.size := by
  obtain ⟨A, n, c, hA, hb, hy, hc⟩ := h
  exact hb.lt

theorem qfail_any (w : World) (g : Nat) (F : List Nat) (l : List UInt8) (bad : Bool) (hr : Rq w g F l bad) :
    Calls Try.prog 55 #[.pointer (some ⟨g, 0, none⟩)] w fun e w' => e = .returned (.tuple #[]) ∧ Rq w' g F [] true ∧ Fr [g] w w' := by
  obtain ⟨A, n, c, hA, hb, hy, hc⟩ := hr
  have hc0 := hb.cell 0
  have hc1 := hb.cell 1
  simp at hc0 hc1
  have hz0 := hb.frozen 0
  have hz1 := hb.frozen 1
  go_enter Try.func55, Try.ntmps55
  go_wp2
  go_end0
  refine ⟨rfl, ⟨none, 0, 0, by simp [bk], ?_, By.nil _ _, Nat.le_refl _⟩, ?_⟩
  · have := (hb.set 0 (.slice none 0 0)).set 1 (.bool true)
    simpa using this
  · exact ((Fr.refl [g] w).setCell _ (fun _ => by simp) _).setCell _ (fun _ => by simp) _
theorem Rq.set {w : World} {g : Nat} {F : List Nat} {l' : List UInt8} {bad : Bool} {A' : Option Addr} {n' c' : Nat} {v : Value} (hb : Blk w g 75 #[v, .bool bad]) (hA : ∀ k ∈ bk A', k ∈ F ∧ k ≠ g) (hy : By w A' n' l') (hc : n' ≤ c') :
    Rq (w.setCell ⟨g, 0, none⟩ (.slice A' n' c')) g F l' bad ∧ Fr [g] w (w.setCell ⟨g, 0, none⟩ (.slice A' n' c')) := by
  have hf : Fr [g] w (w.setCell ⟨g, 0, none⟩ (.slice A' n' c')) := (Fr.refl [g] w).setCell _ (fun _ => by simp) _
  refine ⟨⟨A', n', c', hA, by simpa using hb.set 0 (.slice A' n' c'), hy.keep hf (fun a ha => ?_), hc⟩, hf⟩
  have := (hA a.block (by simp [bk, ha])).2
  simpa using this

set_option maxRecDepth 100000 in
set_option maxHeartbeats 1000000 in
theorem qnum_any (w : World) (g : Nat) (F : List Nat) (l : List UInt8) (bad : Bool) (hr : Rq w g F l bad) (hl : l.length ≤ 1073741824) :
    Calls Try.prog 60 #[.pointer (some ⟨g, 0, none⟩)] w fun e w' => e = .returned (.int .u64 (decN l)) ∧ Fr [g] w w' ∧
      (dec l = none ∧ Rq w' g F [] true ∨ ∃ v s, dec l = some (v, s) ∧ Rq w' g F (l.drop s) bad) := by
  have HRQ := Lib.hid hr
  obtain ⟨A, n, c, hA, hb, hy, hc⟩ := hr
  have hc0 := hb.cell 0
  simp at hc0
  have hz0 := hb.frozen 0
  have hn : n ≤ 1073741824 := by rw [← hy.1]; exact hl
  have HY := Lib.hid hy
  have HB := Lib.hid hb
  have HA := Lib.hid hA
  clear hy hb hA hl
  go_enter Try.func60, Try.ntmps60
  go_wp2
  go_loop [3, 4] (fun a i => ∃ (k acc : Nat), k ≤ n ∧ k ≤ 10 ∧ i = .int .i64 k ∧ a = .int .u64 acc ∧ dec l = decF k acc (l.drop k) ∧ acc < 2 ^ (7 * k)) (fun _ i => 10 - (intOf i).toNat)
  case atStart => exact ⟨0, 0, by omega, by omega, rfl, rfl, by simp [dec], by simp⟩
  case round =>
    obtain ⟨k, acc, hk, hk10, rfl, rfl, hd, hacc⟩ := hrel
    have HD := Lib.hid hd
    have HACC := Lib.hid hacc
    clear hd hacc
    by_cases hlt : k < n ∧ k < 10
    · obtain ⟨hltn, hlt10⟩ := hlt
      obtain ⟨a1, b1, rfl, hg1, hc1⟩ := HY.out.at hltn
      have HD1 := Lib.hid (HD.out.trans (decF_at hg1 acc))
      clear hg1
      have hk0 : (0 : Int) ≤ k := by omega
      have hb1 : (b1.toNat : Int) < 256 := by have := b1.toNat_lt; omega
      have hs1 : (7 : Int) * k ≤ 64 := by omega
      have hp : b1.toNat % 128 < 128 := by omega
      by_cases hov : k = 9 ∧ b1.toNat % 128 > 1
      · have HD2 := Lib.hid (HD1.out.trans (decF_over hov.1 hov.2))
        have h9 : ((k : Int) == 9) = true := by simp; omega
        have hov2 : (1 : Int) < (b1.toNat : Int) % 128 := by omega
        clear hov
        go_wp2_with fail
        refine (qfail_any w g F l bad HRQ.out).mono ?_
        rintro e w1 ⟨rfl, h1, h2⟩
        have H1 := Lib.hid h1
        have H2 := Lib.hid h2
        clear h1 h2
        go_wp2
        go_ret
        exact ⟨by simp [decN, HD2.out], H2.out, .inl ⟨HD2.out, H1.out⟩⟩
      · obtain ⟨hsh, hne, hor, hs, hb64⟩ := shift_fits k (b1.toNat % 128) acc hlt10 hp hov HACC.out
        have HS := Lib.hid hs
        have HBB := Lib.hid hb64
        have HOV := Lib.hid hov
        have hov9 : ((k : Int) == 9) = false ∨ ((k : Int) == 9) = true ∧ ¬ (1 : Int) < (b1.toNat : Int) % 128 := by
          by_cases h : k = 9
          · right; exact ⟨by simp; omega, by omega⟩
          · left; simp; omega
        clear hs hb64 hne
        have hcast : ((b1.toNat % 128 : Nat) : Int) = (b1.toNat : Int) % 128 := by omega
        rw [hcast] at hsh
        generalize hqd : b1.toNat % 128 * 2 ^ (7 * k) = q at *
        have HQ := Lib.hid hqd
        clear hqd
        have hkn1 : k + 1 ≤ n := by omega
        have HC := Lib.hid (HY.out.cut' hkn1 hc)
        by_cases hb : b1.toNat < 128
        · have hbI : (b1.toNat : Int) < 128 := by omega
          by_cases h0 : b1.toNat = 0 ∧ 0 < k
          · have HD2 := Lib.hid (HD1.out.trans (decF_long h0.1 h0.2 hlt10))
            have h0b : ((b1.toNat : Int) % 128 == 0) = true := by simp; omega
            have h0k : (0 : Int) < k := by omega
            clear h0 hov hkn1
            rcases hov9 with h9 | ⟨h9, hov2⟩
            all_goals
              go_wp2_with fail
              refine (qfail_any w g F l bad HRQ.out).mono ?_
              rintro e w1 ⟨rfl, h1, h2⟩
              have H1 := Lib.hid h1
              have H2 := Lib.hid h2
              clear h1 h2
              go_wp2
              go_ret
              exact ⟨by simp [decN, HD2.out], H2.out, .inl ⟨HD2.out, H1.out⟩⟩
          · have HD2 := Lib.hid (HD1.out.trans (decF_last hlt10 HOV.out h0 hb))
            have hor2 : ((b1.toNat : Int) % 128 == 0) = false ∨ (k : Int) ≤ 0 := by simp; omega
            rw [HQ.out] at HD2
            clear h0 hov
            by_cases hcs : c = k + 1
            · subst hcs
              have hcc := HC.out.1 rfl
              rw [show n - (k + 1) = 0 by omega] at hcc
              obtain ⟨h1, h2⟩ := Rq.set HB.out HA.out hcc (c' := 0) (by omega)
              clear hcc
              have H1 := Lib.hid h1
              have H2 := Lib.hid h2
              clear h1 h2 hkn1
              rcases hov9 with h9 | ⟨h9, hov2⟩ <;> rcases hor2 with h0b | h0k
              all_goals
                go_wp2
                all_goals
                  go_ret
                  exact ⟨by simp [decN, HD2.out], H2.out, .inr ⟨_, _, HD2.out, H1.out⟩⟩
            · obtain ⟨h1, h2⟩ := Rq.set HB.out (by rw [bk_map]; exact HA.out) (HC.out.2 hcs) (c' := c - (k + 1)) (by omega)
              have H1 := Lib.hid h1
              have H2 := Lib.hid h2
              clear h1 h2 hkn1
              rcases hov9 with h9 | ⟨h9, hov2⟩ <;> rcases hor2 with h0b | h0k
              all_goals
                go_wp2
                all_goals
                  go_ret
                  exact ⟨by simp [decN, HD2.out], H2.out, .inr ⟨_, _, HD2.out, H1.out⟩⟩
        · have HD2 := Lib.hid (HD1.out.trans (decF_more hlt10 HOV.out hb))
          rw [HQ.out] at HD2
          have hbI : (128 : Int) ≤ (b1.toNat : Int) := by omega
          clear hov hkn1
          rcases hov9 with h9 | ⟨h9, hov2⟩
          all_goals
            go_wp2
            go_round
            case rel => exact ⟨k + 1, acc + q, by omega, by omega, by go_num, by go_num, HD2.out, HS.out⟩
            case measure => simp [intOf]; omega
    · have HD2 := Lib.hid (HD.out.trans (decF_end l k acc (by have := HY.out.1; omega)))
      have hkx : (n : Int) ≤ k ∨ ((k : Int) < n ∧ (10 : Int) ≤ k) := by omega
      rcases hkx with hkx | ⟨hkx0, hkx⟩
      all_goals
        go_wp2_with fail
        refine (qfail_any w g F l bad HRQ.out).mono ?_
        rintro e w1 ⟨rfl, h1, h2⟩
        have H1 := Lib.hid h1
        have H2 := Lib.hid h2
        clear h1 h2
        go_wp2
        go_ret
        exact ⟨by simp [decN, HD2.out], H2.out, .inl ⟨HD2.out, H1.out⟩⟩
end Go.Proofs.Ytdakilioikhhbaa
