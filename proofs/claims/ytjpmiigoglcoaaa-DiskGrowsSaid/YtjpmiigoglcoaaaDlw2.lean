/- DiskKeeps: the walk. (written by gen_dlw.py) -/
import Derived.Test.YtjpmiigoglcoaaaDlw
import Derived.Test.YtjpmiigoglcoaaaRefW
import Derived.Test.YtjpmiigoglcoaaaReg2
import Derived.Deep.CutBlock
namespace Go.Proofs.Ytjpmiigoglcoaaa
set_option maxRecDepth 100000
open Go.RowKit
theorem same_yes (A B : Option Addr) (n m c d : Nat) (l : List UInt8) (w : World) (h1 : By w A n l) (h2 : By w B m l) (hn : n ≤ 1073741824) :
    Calls Try.prog 12 #[.slice A n c, .slice B m d] w fun e w' => e = .returned (.bool true) ∧ Fr [] w w' := by
  refine (same_any A B n m c d l l w h1 h2 hn).mono ?_
  rintro e w' ⟨rfl, k, rfl⟩
  exact ⟨by simp, (Fr.refl [] w).drewN k⟩
/-- how many of n things stay -/
def stayN (keep : Int) (n : Nat) : Nat := min keep.toNat n
theorem crash_none (a : List UInt8) (keep : Int) (f : Bool) (k : Nat) (x : Bool) : Dsk.crash ⟨a, a.length, f, k, x⟩ keep = cs (a ++ ([] : List UInt8)) (a.length + 0) := by
  simp [Dsk.crash, keptN, cs]
theorem crash_some (a b : List UInt8) (keep : Int) (f : Bool) (k : Nat) (x : Bool) : Dsk.crash ⟨a ++ b, a.length, f, k, x⟩ keep = cs (a ++ b.take (stayN keep b.length)) (a.length + stayN keep b.length) := by
  have h : keptN ⟨a ++ b, a.length, f, k, x⟩ keep = a.length + stayN keep b.length := by simp [keptN, stayN]
  unfold Dsk.crash
  rw [h]
  simp [cs, List.take_append]
  exact List.take_of_length_le (by omega)
theorem crash_all (a b : List UInt8) (keep : Int) (f : Bool) (k : Nat) (x : Bool) : Dsk.crash ⟨a ++ b, (a ++ b).length, f, k, x⟩ keep = cs (a ++ b.take b.length) (a.length + b.length) := by
  have h : keptN ⟨a ++ b, (a ++ b).length, f, k, x⟩ keep = (a ++ b).length := by simp [keptN]
  unfold Dsk.crash
  rw [h]
  simp [cs]
  exact List.take_of_length_le (by simp)

set_option maxHeartbeats 4000000 in
theorem diskKeeps_walk (w : World) (A : Option Addr) (n c : Nat) (la : List UInt8) (hA : By w A n la) (hn : n ≤ c) (hc : c ≤ maxLen) (B : Option Addr) (m d : Nat) (lb : List UInt8) (hB : By w B m lb) (hm : m ≤ d) (hd : d ≤ maxLen)
    (keep : Int) (hk1 : -9223372036854775808 ≤ keep) (hk2 : keep < 9223372036854775808) (fuse : Int) (hf1 : -9223372036854775808 ≤ fuse) (hf2 : fuse < 9223372036854775808) :
    Calls Try.prog 4 #[.slice A n c, .slice B m d, .int .i64 keep, .int .i64 fuse] w fun e w' => e = .returned (.bool true) ∧ Fr [] w w' := by
  have HB := Lib.hid hB
  have HK := Lib.hid (And.intro hk1 hk2)
  have HMD := Lib.hid (And.intro hm hd)
  clear hB hk1 hk2 hm hd
  go_enter Try.func4, Try.ntmps4
  go_wp2_with fail
  rw [show (50 : Int) = ((50 : Nat) : Int) from rfl]
  refine (cut_any A n c 50 la w hA (Nat.le_trans hn hc) hn (by omega)).mono ?_
  rintro e w1 ⟨A1, c1, rfl, hN1⟩
  have ha50 : (la.take 50).length ≤ 50 := List.length_take_le _ _
  generalize la.take 50 = a at *
  have HA50 := Lib.hid ha50
  have HN1 := Lib.hid hN1
  clear hA hn hc hN1 ha50
  go_wp2_with fail
  rw [show (50 : Int) = ((50 : Nat) : Int) from rfl]
  refine (cut_any B m d 50 lb w1 (HB.out.keep HN1.out.2.1 (by simp)) (Nat.le_trans HMD.out.1 HMD.out.2) HMD.out.1 (by omega)).mono ?_
  rintro e w2 ⟨A2, c2, rfl, hN2⟩
  have hb50 : (lb.take 50).length ≤ 50 := List.length_take_le _ _
  generalize lb.take 50 = b at *
  have HB50 := Lib.hid hb50
  have HN2 := Lib.hid hN2
  have HYA : Hid (By w2 A1 a.length a ∧ ∀ x ∈ bk A1, x < w2.heap.size) := Lib.hid ⟨HN1.out.by.keep hN2.2.1 (by simp), fun x hx => by have := HN1.out.lt x hx; have := hN2.2.1.size; omega⟩
  have HYB : Hid (By w2 A2 b.length b ∧ ∀ x ∈ bk A2, x < w2.heap.size) := Lib.hid ⟨hN2.by, hN2.lt⟩
  have HW2 : Hid (Fr [] w w2) := Lib.hid (HN1.out.2.1.and hN2.2.1 (by simp))
  have HC2 : Hid (b.length ≤ c2) := Lib.hid hN2.cap
  clear hN2 hb50 HB HN1 HN2
  go_wp2_with fail
  refine (dnew_any w2).mono ?_
  rintro e w3 ⟨rfl, hd3, hf3⟩
  have HD3 : Hid (Dok w3 [w2.heap.size] w2.heap.size (cs [] 0)) := Lib.hid hd3
  have HF3 := Lib.hid hf3
  have HG3 : Hid (w2.heap.size < w3.heap.size) := Lib.hid (hd3.lt _ hd3.mem)
  clear hd3 hf3
  generalize hg : w2.heap.size = g at *
  have HG := Lib.hid hg
  clear hg
  go_wp2_with fail
  refine (cput_any w3 w2 [g] g [] 0 HD3.out (Nat.zero_le _) A1 _ c1 a (HYA.out.1.keep HF3.out (by simp)) (fun x hx he => by have := HYA.out.2 x hx; have := HG.out; omega) (by have := HA50.out; simp; omega) (by simp [HG.out]) (by have := HG.out; have := HG3.out; omega)).mono ?_
  rintro e w4 ⟨rfl, S, hd4, hf4, hs4⟩
  rw [List.nil_append] at hd4
  have HD4 := Lib.hid hd4
  have HS : Hid (∀ x ∈ S, g ≤ x) := Lib.hid (fun x hx => by have := hs4 x hx; have := HG.out; omega)
  have HW4 : Hid (Fr S w2 w4) := Lib.hid ((HF3.out.mono (T := S) (by simp)).trans (hf4.mono (T := S) (fun k hk _ => by simp at hk; subst hk; exact hd4.mem)) (fun x hx _ => hx))
  clear hd4 hf4 hs4 HD3 HF3
  go_wp2_with fail
  refine (csync_any w4 S g a 0 HD4.out (Nat.zero_le _) (by have := HA50.out; omega)).mono ?_
  rintro e w5 ⟨rfl, hd5, hf5⟩
  have HD5 := Lib.hid hd5
  have HW5 : Hid (Fr S w2 w5) := Lib.hid (HW4.out.trans hf5 (fun x hx _ => by simp at hx; subst hx; exact hd5.mem))
  clear hd5 hf5 HD4 HW4
  go_wp2_with fail
  refine (within_pos fuse 3 hf1 hf2 (by omega) (by omega) _).mono ?_
  rintro e w6 ⟨rfl, rfl⟩
  have hq0 : 0 ≤ fuse % 3 := Int.emod_nonneg _ (by omega)
  have hq3 : fuse % 3 < 3 := Int.emod_lt_of_pos _ (by omega)
  clear hf1 hf2
  obtain ⟨q, hq⟩ : ∃ q : Nat, fuse % 3 = (q : Int) := ⟨(fuse % 3).toNat, by omega⟩
  rw [hq] at hq0 hq3 ⊢
  clear hq hq0
  have hq3' : q < 3 := by omega
  clear hq3
  go_wp2_with fail
  refine (dfuse_any w5 S g (cs a a.length) HD5.out q).mono ?_
  rintro e w6 ⟨rfl, hd6, hf6⟩
  have HD6 : Hid (Dok w6 S g ⟨a, a.length, true, q, false⟩) := Lib.hid hd6
  have HW6 : Hid (Fr S w2 w6) := Lib.hid (HW5.out.trans hf6 (fun x hx _ => by simp at hx; subst hx; exact hd6.mem))
  clear hd6 hf6 HD5 HW5
  obtain rfl | rfl | rfl : q = 0 ∨ q = 1 ∨ q = 2 := by omega
  · clear hq3'
    go_wp2_with fail
    refine (dput_new w6 w2 S g ⟨a, a.length, true, 0, false⟩ HD6.out ⟨Nat.le_refl _, by dsimp only; omega, by have := HA50.out; simp only; omega⟩ A2 b.length c2 b (HYB.out.1.keep HW6.out (fun ad ha hm => by have := HYB.out.2 ad.block (by simp [bk, ha]); have := HS.out _ hm; have := HG.out; omega)) (fun x hx he => by have := HYB.out.2 x hx; have := HG.out; omega) (by have := HA50.out; have := HB50.out; simp only; omega) (fun x hx => by have := HS.out x hx; have := HG.out; omega) HW6.out.size).mono ?_
    rintro e w7 ⟨rfl, S7, hd7, hf7, hs7⟩
    have HD7 : Hid (Dok w7 S7 g ⟨a, a.length, true, 0, true⟩) := Lib.hid hd7
    have HS7 : Hid (∀ x ∈ S7, g ≤ x) := Lib.hid (fun x hx => by have := hs7 x hx; have := HG.out; omega)
    have HW7 : Hid (∀ x ∈ S, g ≤ x) := Lib.hid HS.out
    have HFR7 : Hid (Fr [] w w7) := Lib.hid (HW2.out.trans (HW6.out.trans hf7 (fun x hx _ => hx)) (fun x hx hl => absurd hl (by have := HS.out x hx; have := HG.out; have := HW2.out.size; omega)))
    have HYA7 : Hid (By w7 A1 a.length a) := Lib.hid (HYA.out.1.keep (HW6.out.trans hf7 (fun x hx _ => hx)) (fun ad ha hm => by have := HYA.out.2 ad.block (by simp [bk, ha]); have := HS.out _ hm; have := HG.out; omega))
    have HYB7 : Hid (By w7 A2 b.length b) := Lib.hid (HYB.out.1.keep (HW6.out.trans hf7 (fun x hx _ => hx)) (fun ad ha hm => by have := HYB.out.2 ad.block (by simp [bk, ha]); have := HS.out _ hm; have := HG.out; omega))
    have HSZ : Hid (∀ k, k ∈ S7 → k < w7.heap.size) := Lib.hid hd7.lt
    have HGS : Hid (g ≤ w7.heap.size) := Lib.hid (by have := hd7.lt _ hd7.mem; omega)
    have HWG : Hid (w.heap.size ≤ g) := Lib.hid (by have := HG.out; have := HW2.out.size; omega)
    clear hd7 hf7 hs7 HD6 HW6 HS HW7
    rw [show errB (Dsk.passB ⟨a, a.length, true, 0, false⟩) = 9 from rfl]
    go_wp2_with fail
    refine (dsync_any w7 S7 g ⟨a, a.length, true, 0, true⟩ HD7.out ⟨by simp, by dsimp only; omega, by have := HA50.out; have := HB50.out; simp; omega⟩).mono ?_
    rintro e w8 ⟨rfl, hd8, hf8⟩
    have HD8 : Hid (Dok w8 S7 g ⟨a, a.length, true, 0, true⟩) := Lib.hid hd8
    have HF8 := Lib.hid hf8
    clear hd8 hf8 HD7
    rw [show errB (Dsk.passB ⟨a, a.length, true, 0, true⟩) = 9 from rfl]
    go_wp2_with fail
    refine (ddead_any w8 S7 g ⟨a, a.length, true, 0, true⟩ HD8.out).mono ?_
    rintro e w9 ⟨rfl, rfl⟩
    dsimp only
    go_wp2_with fail
    refine (dcrash_any w8 S7 g ⟨a, a.length, true, 0, true⟩ HD8.out ⟨by simp, by dsimp only; omega, by have := HA50.out; have := HB50.out; simp; omega⟩ keep HK.out).mono ?_
    rintro e w9 ⟨rfl, hd9, hf9⟩
    rw [crash_none] at hd9
    have HNB : Hid (0 ≤ b.length) := Lib.hid (by first | omega | exact Nat.min_le_right _ _)
    have HD9 := Lib.hid hd9
    have HF9 : Hid (Fr [g] w7 w9) := Lib.hid (HF8.out.trans hf9 (fun x hx _ => hx))
    clear hd9 hf9 HD8 HF8
    go_upto_region 12 with (fail)
    have HSN : Hid ((if (b.length : Int) < if keep < 0 then 0 else keep then (b.length : Int) else if keep < 0 then 0 else keep) = ((stayN keep b.length : Nat) : Int)) := Lib.hid (by unfold stayN; split <;> split <;> omega)
    rw [HSN.out]
    clear HSN
    have HLR : Hid ((a ++ b.take (0)).length = a.length + (0)) := Lib.hid (by rw [List.length_append, List.length_take]; have := HNB.out; omega)
    generalize stayN keep b.length = N at *
    have hn0 : (0 : Int) ≤ ((0 : Nat) : Int) := by omega
    have hn1 : (0) ≤ c2 := by have := HNB.out; have := HC2.out; omega
    have hwr0 : IntKind.i64.wrap ((a.length : Int) + 0) = ((a.length + 0 : Nat) : Int) := by have := HA50.out; rw [IntKind.wrap_i64]; omega
    have hwr1 : IntKind.i64.wrap (a.length : Int) = ((a.length + 0 : Nat) : Int) := by have := HA50.out; rw [IntKind.wrap_i64]; omega
    have hwr : IntKind.i64.wrap ((a.length : Int) + ((0 : Nat) : Int)) = ((a.length + (0) : Nat) : Int) := by have := HNB.out; have := HA50.out; have := HB50.out; rw [IntKind.wrap_i64]; omega
    go_upto_region 16 with (fail)
    refine wp_region_held_drew (S := Fr S7 w9) (by kernel_rfl) (Fr.drew (Fr.refl _ w9)) (fun hHeld => ?_)
    have HD9 : Hid (Dok w9.drew S7 g (cs (a ++ b.take (0)) (a.length + (0)))) := Lib.hid (HD9.out.keep (Fr.drew (Fr.refl [] w9)) (by simp))
    have HF9 : Hid (Fr [g] w7 w9.drew) := Lib.hid (Fr.drew HF9.out)
    have HSD : Hid (w9.heap.size ≤ w9.drew.heap.size) := Lib.hid hHeld.size
    generalize w9.drew = wd at *
    obtain ⟨r, hr⟩ : ∃ r, a ++ b.take (0) = r := ⟨_, rfl⟩
    have HR := Lib.hid hr
    rw [hr] at HD9 HLR
    clear hr
    refine run_at (i := 0) (v := ?_) rfl (by kernel_rfl) (by rfl) (fun _ _ _ h => h) hHeld (fun w1 hw1 => ?_) ?_
    rotate_left 1
    · skip
      go_simp
      (try (first | with_reducible rfl | (apply And.intro <;> rfl)))
    simp only [Act.put, List.setIfInBounds_toArray, List.set_cons_zero, List.set_cons_succ]
    refine run_at (i := 2) (v := ?_) rfl (by kernel_rfl) (by rfl) (fun _ _ _ h => h) hHeld (fun w1 hw1 => ?_) ?_
    rotate_left 1
    · skip
      go_simp
      (try (first | with_reducible rfl | (apply And.intro <;> rfl)))
    simp only [Act.put, List.setIfInBounds_toArray, List.set_cons_zero, List.set_cons_succ]
    refine run_at (i := 4) (v := ?_) rfl (by kernel_rfl) (by rfl) (fun _ _ _ h => h) hHeld (fun w1 hw1 => ?_) ?_
    rotate_left 1
    · skip
      go_simp
      (try (first | with_reducible rfl | (apply And.intro <;> rfl)))
    simp only [Act.put, List.setIfInBounds_toArray, List.set_cons_zero, List.set_cons_succ]
    refine run_at (i := 5) (v := ?_) rfl (by kernel_rfl) (by rfl) (fun _ _ _ h => h) hHeld (fun w1 hw1 => ?_) ?_
    rotate_left 1
    · skip
      go_simp
      (try (first | with_reducible rfl | (apply And.intro <;> rfl)))
    simp only [Act.put, List.setIfInBounds_toArray, List.set_cons_zero, List.set_cons_succ]
    refine run_at (i := 6) (v := ?_) rfl (by kernel_rfl) (by rfl) (fun _ _ _ h => h) hHeld (fun w1 hw1 => ?_) ?_
    rotate_left 1
    · skip
      go_simp
      (try (first | with_reducible rfl | (apply And.intro <;> rfl)))
    simp only [Act.put, List.setIfInBounds_toArray, List.set_cons_zero, List.set_cons_succ]
    refine call_at (i := 1) (f := ?_) (args := ?_) rfl (by kernel_rfl) (by rfl) ?_ ?_
    rotate_left 2
    · go_simp
      (try (first | with_reducible rfl | (apply And.intro <;> rfl)))
    refine (cread_any wd S7 g r (a.length + (0)) HD9.out (by have := HLR.out; omega) (by have := HLR.out; have := HNB.out; have := HA50.out; have := HB50.out; omega)).mono ?_
    rintro e_ w10 ⟨A10, c10, rfl, hN10⟩
    refine ⟨_, rfl, hHeld.trans hN10.2.1 (by simp), fun hHeld => ?_⟩
    simp only [Act.put, List.setIfInBounds_toArray, List.set_cons_zero, List.set_cons_succ]
    have HN10 := Lib.hid hN10
    have HD10 := Lib.hid (HD9.out.keep hN10.2.1 (by simp))
    have HFX : Hid (Fr [g] w7 w10) := Lib.hid (HF9.out.trans hN10.2.1 (by simp))
    have HGA : Hid (∀ ad, A1 = some ad → ad.block < g) := Lib.hid (fun ad ha => by have := HYA.out.2 ad.block (by simp [bk, ha]); have := HG.out; omega)
    have HGB : Hid (∀ ad, A2 = some ad → ad.block < g) := Lib.hid (fun ad ha => by have := HYB.out.2 ad.block (by simp [bk, ha]); have := HG.out; omega)
    have HYA10 := Lib.hid (HYA7.out.keep HFX.out (fun ad ha hm => by have := HGA.out ad ha; simp at hm; omega))
    have HYB10 := Lib.hid (HYB7.out.keep HFX.out (fun ad ha hm => by have := HGB.out ad ha; simp at hm; omega))
    clear hN10
    refine call_at (i := 3) (f := ?_) (args := ?_) rfl (by kernel_rfl) (by rfl) ?_ ?_
    rotate_left 2
    · go_simp
      (try (first | with_reducible rfl | (apply And.intro <;> rfl)))
    refine (copy_any A1 a.length c1 a w10 HYA10.out (by have := HA50.out; omega)).mono ?_
    rintro e_ w11 ⟨A11, c11, rfl, hN11⟩
    refine ⟨_, rfl, hHeld.trans hN11.2.1 (by simp), fun hHeld => ?_⟩
    simp only [Act.put, List.setIfInBounds_toArray, List.set_cons_zero, List.set_cons_succ]
    have HN11 := Lib.hid hN11
    clear hN11
    refine step_at (i := 7) rfl (by kernel_rfl) (by rfl) (fun K hK => ?_)
    refine wp_append_bytes _ (.tmp 77) (.tmp 80) _ rfl 5 Try.underlying22 info_u8 (.slice A11 a.length c11) a.length a rfl HN11.out.1 A2 (0) c2 (b.take (0)) rfl ((HYB10.out.keep HN11.out.2.1 (by simp)).take HNB.out) (by have := HNB.out; have := HA50.out; have := HB50.out; omega) ?_
    intro A12 c12 w12 ho12 hg12 hat12
    have hN12 : NewB w10 w12 A12 (a.length + (0)) c12 r := HR.out ▸ NewB.grow HN11.out.2.1 HN11.out.2.2 ho12 hg12 hat12
    refine hK.out _ _ ((hHeld.mono (T := S7) (fun k hk _ => hk)).grown hg12 (fun k hk hl => absurd hl (by have := HN11.out.2.2 k (by rw [bk_mem] at hk; exact hk); have := HFX.out.size; have := HD10.out; have := HSD.out; have := HN10.out.2.1.size; omega))) (fun hHeld => ?_)
    clear hK K
    simp only [Act.put, List.setIfInBounds_toArray, List.set_cons_zero, List.set_cons_succ]
    have HN12 := Lib.hid hN12
    clear hN12 ho12 hg12 hat12
    refine call_at (i := 8) (f := ?_) (args := ?_) rfl (by kernel_rfl) (by rfl) ?_ ?_
    rotate_left 2
    · go_simp
      (try (first | with_reducible rfl | (apply And.intro <;> rfl)))
    refine (same_yes A10 A12 _ _ c10 c12 r w12 (HN10.out.by.keep HN12.out.2.1 (by simp)) (by first | exact HN12.out.by | simpa using HN12.out.by) (by have := HLR.out; have := HNB.out; have := HA50.out; have := HB50.out; omega)).mono ?_
    rintro e_ w13 ⟨rfl, hf13⟩
    refine ⟨_, rfl, hHeld.trans hf13 (by simp), fun hHeld => ?_⟩
    simp only [Act.put, List.setIfInBounds_toArray, List.set_cons_zero, List.set_cons_succ]
    have HF13 : Hid (Fr [] w10 w13) := Lib.hid (HN12.out.2.1.and hf13 (by simp))
    have HD13 := Lib.hid (HD10.out.keep HF13.out (by simp))
    clear hf13
    refine run_at (i := 9) (v := ?_) rfl (by kernel_rfl) (by rfl) (fun _ _ _ h => h) hHeld (fun w1 hw1 => ?_) ?_
    rotate_left 1
    · skip
      go_simp
      (try (first | with_reducible rfl | (apply And.intro <;> rfl)))
    simp only [Act.put, List.setIfInBounds_toArray, List.set_cons_zero, List.set_cons_succ]
    refine run_at (i := 10) (v := ?_) rfl (by kernel_rfl) (by rfl) (fun _ _ _ h => h) hHeld (fun w1 hw1 => ?_) ?_
    rotate_left 1
    · skip
      go_simp
      (try (first | with_reducible rfl | (apply And.intro <;> rfl)))
    simp only [Act.put, List.setIfInBounds_toArray, List.set_cons_zero, List.set_cons_succ]
    refine run_at (i := 12) (v := ?_) rfl (by kernel_rfl) (by rfl) (fun _ _ _ h => h) hHeld (fun w1 hw1 => ?_) ?_
    rotate_left 1
    · skip
      go_simp
      (try (first | with_reducible rfl | (apply And.intro <;> rfl)))
    simp only [Act.put, List.setIfInBounds_toArray, List.set_cons_zero, List.set_cons_succ]
    refine run_at (i := 13) (v := ?_) rfl (by kernel_rfl) (by rfl) (fun _ _ _ h => h) hHeld (fun w1 hw1 => ?_) ?_
    rotate_left 1
    · skip
      go_simp
      (try (first | with_reducible rfl | (apply And.intro <;> rfl)))
    simp only [Act.put, List.setIfInBounds_toArray, List.set_cons_zero, List.set_cons_succ]
    refine run_at (i := 14) (v := ?_) rfl (by kernel_rfl) (by rfl) (fun _ _ _ h => h) hHeld (fun w1 hw1 => ?_) ?_
    rotate_left 1
    · skip
      go_simp
      (try (first | with_reducible rfl | (apply And.intro <;> rfl)))
    simp only [Act.put, List.setIfInBounds_toArray, List.set_cons_zero, List.set_cons_succ]
    refine run_at (i := 15) (v := ?_) rfl (by kernel_rfl) (by rfl) (fun _ _ _ h => h) hHeld (fun w1 hw1 => ?_) ?_
    rotate_left 1
    · skip
      go_simp
      (try (first | with_reducible rfl | (apply And.intro <;> rfl)))
    simp only [Act.put, List.setIfInBounds_toArray, List.set_cons_zero, List.set_cons_succ]
    try first | rw [hwr] | rw [hwr0] | rw [hwr1]
    refine call_at (i := 11) (f := ?_) (args := ?_) rfl (by kernel_rfl) (by rfl) ?_ ?_
    rotate_left 2
    · go_simp
      (try (first | with_reducible rfl | (apply And.intro <;> rfl)))
    refine (csynced_any w13 S7 g r (a.length + (0)) HD13.out).mono ?_
    rintro e_ w14 ⟨rfl, rfl⟩
    refine ⟨_, rfl, hHeld, fun hHeld => ?_⟩
    simp only [Act.put, List.setIfInBounds_toArray, List.set_cons_zero, List.set_cons_succ]
    refine run_at (i := 16) (v := ?_) rfl (by kernel_rfl) (by rfl) (fun _ _ _ h => h) hHeld (fun w1 hw1 => ?_) ?_
    rotate_left 1
    · skip
      go_simp
      (try (first | with_reducible rfl | (apply And.intro <;> rfl)))
    simp only [Act.put, List.setIfInBounds_toArray, List.set_cons_zero, List.set_cons_succ]
    refine run_at (i := 17) (v := ?_) rfl (by kernel_rfl) (by rfl) (fun _ _ _ h => h) hHeld (fun w1 hw1 => ?_) ?_
    rotate_left 1
    · skip
      go_simp
      (try (first | with_reducible rfl | (apply And.intro <;> rfl)))
    simp only [Act.put, List.setIfInBounds_toArray, List.set_cons_zero, List.set_cons_succ]
    refine run_at (i := 18) (v := ?_) rfl (by kernel_rfl) (by rfl) (fun _ _ _ h => h) hHeld (fun w1 hw1 => ?_) ?_
    rotate_left 1
    · skip
      go_simp
      (try (first | with_reducible rfl | (apply And.intro <;> rfl)))
    simp only [Act.put, List.setIfInBounds_toArray, List.set_cons_zero, List.set_cons_succ]
    refine run_at (i := 19) (v := ?_) rfl (by kernel_rfl) (by rfl) (fun _ _ _ h => h) hHeld (fun w1 hw1 => ?_) ?_
    rotate_left 1
    · skip
      go_simp
      (try (first | with_reducible rfl | (apply And.intro <;> rfl)))
    simp only [Act.put, List.setIfInBounds_toArray, List.set_cons_zero, List.set_cons_succ]
    refine call_at (i := 20) (f := ?_) (args := ?_) rfl (by kernel_rfl) (by rfl) ?_ ?_
    rotate_left 2
    · go_simp
      (try (first | with_reducible rfl | (apply And.intro <;> rfl)))
    refine (cdead_any w13 S7 g r (a.length + (0)) HD13.out).mono ?_
    rintro e_ w14 ⟨rfl, rfl⟩
    refine ⟨_, rfl, hHeld, fun hHeld => ?_⟩
    simp only [Act.put, List.setIfInBounds_toArray, List.set_cons_zero, List.set_cons_succ]
    refine run_at (i := 21) (v := ?_) rfl (by kernel_rfl) (by rfl) (fun _ _ _ h => h) hHeld (fun w1 hw1 => ?_) ?_
    rotate_left 1
    · skip
      go_simp
      (try (first | with_reducible rfl | (apply And.intro <;> rfl)))
    simp only [Act.put, List.setIfInBounds_toArray, List.set_cons_zero, List.set_cons_succ]
    refine run_at (i := 22) (v := ?_) rfl (by kernel_rfl) (by rfl) (fun _ _ _ h => h) hHeld (fun w1 hw1 => ?_) ?_
    rotate_left 1
    · skip
      go_simp
      (try (first | with_reducible rfl | (apply And.intro <;> rfl)))
    simp only [Act.put, List.setIfInBounds_toArray, List.set_cons_zero, List.set_cons_succ]
    refine run_at (i := 23) (v := ?_) rfl (by kernel_rfl) (by rfl) (fun _ _ _ h => h) hHeld (fun w1 hw1 => ?_) ?_
    rotate_left 1
    · skip
      go_simp
      (try (first | with_reducible rfl | (apply And.intro <;> rfl)))
    simp only [Act.put, List.setIfInBounds_toArray, List.set_cons_zero, List.set_cons_succ]
    refine run_at (i := 24) (v := ?_) rfl (by kernel_rfl) (by rfl) (fun _ _ _ h => h) hHeld (fun w1 hw1 => ?_) ?_
    rotate_left 1
    · skip
      go_simp
      (try (first | with_reducible rfl | (apply And.intro <;> rfl)))
    simp only [Act.put, List.setIfInBounds_toArray, List.set_cons_zero, List.set_cons_succ]
    refine call_at (i := 25) (f := ?_) (args := ?_) rfl (by kernel_rfl) (by rfl) ?_ ?_
    rotate_left 2
    · go_simp
      (try (first | with_reducible rfl | (apply And.intro <;> rfl)))
    refine (cput_any w13 w2 S7 g r (a.length + (0)) HD13.out (by have := HLR.out; omega) none 0 0 [] (By.nil _ _) (by simp [bk]) (by have := HLR.out; have := HNB.out; have := HA50.out; have := HB50.out; omega) (fun x hx => by have := HS7.out x hx; have := HG.out; omega) (by have := HW2.out.size; have := HG.out; have := HFX.out.size; have := HF13.out.size; have := HGS.out; omega)).mono ?_
    rintro e_ w14 ⟨rfl, S14, hd14, hf14, hs14⟩
    refine ⟨_, rfl, hHeld.trans hf14 (fun x hx _ => hx), fun hHeld => ?_⟩
    simp only [Act.put, List.setIfInBounds_toArray, List.set_cons_zero, List.set_cons_succ]
    have HF14 := Lib.hid hf14
    clear hd14 hf14 hs14
    refine run_at (i := 26) (v := ?_) rfl (by kernel_rfl) (by rfl) (fun _ _ _ h => h) hHeld (fun w1 hw1 => ?_) ?_
    rotate_left 1
    · skip
      go_simp
      (try (first | with_reducible rfl | (apply And.intro <;> rfl)))
    simp only [Act.put, List.setIfInBounds_toArray, List.set_cons_zero, List.set_cons_succ]
    refine run_at (i := 27) (v := ?_) rfl (by kernel_rfl) (by rfl) (fun _ _ _ h => h) hHeld (fun w1 hw1 => ?_) ?_
    rotate_left 1
    · skip
      go_simp
      (try (first | with_reducible rfl | (apply And.intro <;> rfl)))
    simp only [Act.put, List.setIfInBounds_toArray, List.set_cons_zero, List.set_cons_succ]
    refine run_at (i := 28) (v := ?_) rfl (by kernel_rfl) (by rfl) (fun _ _ _ h => h) hHeld (fun w1 hw1 => ?_) ?_
    rotate_left 1
    · skip
      go_simp
      (try (first | with_reducible rfl | (apply And.intro <;> rfl)))
    simp only [Act.put, List.setIfInBounds_toArray, List.set_cons_zero, List.set_cons_succ]
    refine call_at (i := 29) (f := ?_) (args := ?_) rfl (by kernel_rfl) (by rfl) ?_ ?_
    rotate_left 2
    · go_simp
      (try (first | with_reducible rfl | (apply And.intro <;> rfl)))
    refine (dwakes_any w14).mono ?_
    rintro e_ w15 ⟨rfl, hf15⟩
    refine ⟨_, rfl, hHeld.trans hf15 (by simp), fun hHeld => ?_⟩
    simp only [Act.put, List.setIfInBounds_toArray, List.set_cons_zero, List.set_cons_succ]
    have HF15 := Lib.hid hf15
    clear hf15
    refine run_at (i := 30) (v := ?_) rfl (by kernel_rfl) (by rfl) (fun _ _ _ h => h) hHeld (fun w1 hw1 => ?_) ?_
    rotate_left 1
    · skip
      go_simp
      (try (first | with_reducible rfl | (apply And.intro <;> rfl)))
    simp only [Act.put, List.setIfInBounds_toArray, List.set_cons_zero, List.set_cons_succ]
    refine run_at (i := 31) (v := ?_) rfl (by kernel_rfl) (by rfl) (fun _ _ _ h => h) hHeld (fun w1 hw1 => ?_) ?_
    rotate_left 1
    · skip
      go_simp
      (try (first | with_reducible rfl | (apply And.intro <;> rfl)))
    simp only [Act.put, List.setIfInBounds_toArray, List.set_cons_zero, List.set_cons_succ]
    refine wpAnyH_done (by kernel_rfl) ?_ _
    have h10 : Fr [] w w10 := HFR7.out.trans HFX.out (fun x hx hl => by simp at hx; have := HWG.out; omega)
    have h14 : Fr [] w w14 := (h10.and HF13.out (by simp)).trans HF14.out (fun x hx hl => by have := HS7.out x hx; have := HWG.out; omega)
    have HFIN := Lib.hid (h14.and HF15.out (by simp))
    clear h10 h14 hHeld hwr hwr0 hwr1 hn0 hn1
    go_wp2
    all_goals
      go_ret
      exact ⟨rfl, HFIN.out⟩
  · clear hq3'
    go_wp2_with fail
    refine (dput_new w6 w2 S g ⟨a, a.length, true, 1, false⟩ HD6.out ⟨Nat.le_refl _, by dsimp only; omega, by have := HA50.out; simp only; omega⟩ A2 b.length c2 b (HYB.out.1.keep HW6.out (fun ad ha hm => by have := HYB.out.2 ad.block (by simp [bk, ha]); have := HS.out _ hm; have := HG.out; omega)) (fun x hx he => by have := HYB.out.2 x hx; have := HG.out; omega) (by have := HA50.out; have := HB50.out; simp only; omega) (fun x hx => by have := HS.out x hx; have := HG.out; omega) HW6.out.size).mono ?_
    rintro e w7 ⟨rfl, S7, hd7, hf7, hs7⟩
    have HD7 : Hid (Dok w7 S7 g ⟨a ++ b, a.length, true, 0, false⟩) := Lib.hid hd7
    have HS7 : Hid (∀ x ∈ S7, g ≤ x) := Lib.hid (fun x hx => by have := hs7 x hx; have := HG.out; omega)
    have HW7 : Hid (∀ x ∈ S, g ≤ x) := Lib.hid HS.out
    have HFR7 : Hid (Fr [] w w7) := Lib.hid (HW2.out.trans (HW6.out.trans hf7 (fun x hx _ => hx)) (fun x hx hl => absurd hl (by have := HS.out x hx; have := HG.out; have := HW2.out.size; omega)))
    have HYA7 : Hid (By w7 A1 a.length a) := Lib.hid (HYA.out.1.keep (HW6.out.trans hf7 (fun x hx _ => hx)) (fun ad ha hm => by have := HYA.out.2 ad.block (by simp [bk, ha]); have := HS.out _ hm; have := HG.out; omega))
    have HYB7 : Hid (By w7 A2 b.length b) := Lib.hid (HYB.out.1.keep (HW6.out.trans hf7 (fun x hx _ => hx)) (fun ad ha hm => by have := HYB.out.2 ad.block (by simp [bk, ha]); have := HS.out _ hm; have := HG.out; omega))
    have HSZ : Hid (∀ k, k ∈ S7 → k < w7.heap.size) := Lib.hid hd7.lt
    have HGS : Hid (g ≤ w7.heap.size) := Lib.hid (by have := hd7.lt _ hd7.mem; omega)
    have HWG : Hid (w.heap.size ≤ g) := Lib.hid (by have := HG.out; have := HW2.out.size; omega)
    clear hd7 hf7 hs7 HD6 HW6 HS HW7
    rw [show errB (Dsk.passB ⟨a, a.length, true, 1, false⟩) = 0 from rfl]
    go_wp2_with fail
    refine (dsync_any w7 S7 g ⟨a ++ b, a.length, true, 0, false⟩ HD7.out ⟨by simp, by dsimp only; omega, by have := HA50.out; have := HB50.out; simp; omega⟩).mono ?_
    rintro e w8 ⟨rfl, hd8, hf8⟩
    have HD8 : Hid (Dok w8 S7 g ⟨a ++ b, a.length, true, 0, true⟩) := Lib.hid hd8
    have HF8 := Lib.hid hf8
    clear hd8 hf8 HD7
    rw [show errB (Dsk.passB ⟨a ++ b, a.length, true, 0, false⟩) = 9 from rfl]
    go_wp2_with fail
    refine (ddead_any w8 S7 g ⟨a ++ b, a.length, true, 0, true⟩ HD8.out).mono ?_
    rintro e w9 ⟨rfl, rfl⟩
    dsimp only
    go_wp2_with fail
    refine (dcrash_any w8 S7 g ⟨a ++ b, a.length, true, 0, true⟩ HD8.out ⟨by simp, by dsimp only; omega, by have := HA50.out; have := HB50.out; simp; omega⟩ keep HK.out).mono ?_
    rintro e w9 ⟨rfl, hd9, hf9⟩
    rw [crash_some] at hd9
    have HNB : Hid (stayN keep b.length ≤ b.length) := Lib.hid (by first | omega | exact Nat.min_le_right _ _)
    have HD9 := Lib.hid hd9
    have HF9 : Hid (Fr [g] w7 w9) := Lib.hid (HF8.out.trans hf9 (fun x hx _ => hx))
    clear hd9 hf9 HD8 HF8
    go_upto_region 12 with (fail)
    have HSN : Hid ((if (b.length : Int) < if keep < 0 then 0 else keep then (b.length : Int) else if keep < 0 then 0 else keep) = ((stayN keep b.length : Nat) : Int)) := Lib.hid (by unfold stayN; split <;> split <;> omega)
    rw [HSN.out]
    clear HSN
    have HLR : Hid ((a ++ b.take (stayN keep b.length)).length = a.length + (stayN keep b.length)) := Lib.hid (by rw [List.length_append, List.length_take]; have := HNB.out; omega)
    generalize stayN keep b.length = N at *
    have hn0 : (0 : Int) ≤ ((N : Nat) : Int) := by omega
    have hn1 : (N) ≤ c2 := by have := HNB.out; have := HC2.out; omega
    have hwr0 : IntKind.i64.wrap ((a.length : Int) + 0) = ((a.length + 0 : Nat) : Int) := by have := HA50.out; rw [IntKind.wrap_i64]; omega
    have hwr1 : IntKind.i64.wrap (a.length : Int) = ((a.length + 0 : Nat) : Int) := by have := HA50.out; rw [IntKind.wrap_i64]; omega
    have hwr : IntKind.i64.wrap ((a.length : Int) + ((N : Nat) : Int)) = ((a.length + (N) : Nat) : Int) := by have := HNB.out; have := HA50.out; have := HB50.out; rw [IntKind.wrap_i64]; omega
    go_upto_region 16 with (fail)
    refine wp_region_held_drew (S := Fr S7 w9) (by kernel_rfl) (Fr.drew (Fr.refl _ w9)) (fun hHeld => ?_)
    have HD9 : Hid (Dok w9.drew S7 g (cs (a ++ b.take (N)) (a.length + (N)))) := Lib.hid (HD9.out.keep (Fr.drew (Fr.refl [] w9)) (by simp))
    have HF9 : Hid (Fr [g] w7 w9.drew) := Lib.hid (Fr.drew HF9.out)
    have HSD : Hid (w9.heap.size ≤ w9.drew.heap.size) := Lib.hid hHeld.size
    generalize w9.drew = wd at *
    obtain ⟨r, hr⟩ : ∃ r, a ++ b.take (N) = r := ⟨_, rfl⟩
    have HR := Lib.hid hr
    rw [hr] at HD9 HLR
    clear hr
    refine run_at (i := 0) (v := ?_) rfl (by kernel_rfl) (by rfl) (fun _ _ _ h => h) hHeld (fun w1 hw1 => ?_) ?_
    rotate_left 1
    · skip
      go_simp
      (try (first | with_reducible rfl | (apply And.intro <;> rfl)))
    simp only [Act.put, List.setIfInBounds_toArray, List.set_cons_zero, List.set_cons_succ]
    refine run_at (i := 2) (v := ?_) rfl (by kernel_rfl) (by rfl) (fun _ _ _ h => h) hHeld (fun w1 hw1 => ?_) ?_
    rotate_left 1
    · skip
      go_simp
      (try (first | with_reducible rfl | (apply And.intro <;> rfl)))
    simp only [Act.put, List.setIfInBounds_toArray, List.set_cons_zero, List.set_cons_succ]
    refine run_at (i := 4) (v := ?_) rfl (by kernel_rfl) (by rfl) (fun _ _ _ h => h) hHeld (fun w1 hw1 => ?_) ?_
    rotate_left 1
    · skip
      go_simp
      (try (first | with_reducible rfl | (apply And.intro <;> rfl)))
    simp only [Act.put, List.setIfInBounds_toArray, List.set_cons_zero, List.set_cons_succ]
    refine run_at (i := 5) (v := ?_) rfl (by kernel_rfl) (by rfl) (fun _ _ _ h => h) hHeld (fun w1 hw1 => ?_) ?_
    rotate_left 1
    · skip
      go_simp
      (try (first | with_reducible rfl | (apply And.intro <;> rfl)))
    simp only [Act.put, List.setIfInBounds_toArray, List.set_cons_zero, List.set_cons_succ]
    refine run_at (i := 6) (v := ?_) rfl (by kernel_rfl) (by rfl) (fun _ _ _ h => h) hHeld (fun w1 hw1 => ?_) ?_
    rotate_left 1
    · skip
      go_simp
      (try (first | with_reducible rfl | (apply And.intro <;> rfl)))
    simp only [Act.put, List.setIfInBounds_toArray, List.set_cons_zero, List.set_cons_succ]
    refine call_at (i := 1) (f := ?_) (args := ?_) rfl (by kernel_rfl) (by rfl) ?_ ?_
    rotate_left 2
    · go_simp
      (try (first | with_reducible rfl | (apply And.intro <;> rfl)))
    refine (cread_any wd S7 g r (a.length + (N)) HD9.out (by have := HLR.out; omega) (by have := HLR.out; have := HNB.out; have := HA50.out; have := HB50.out; omega)).mono ?_
    rintro e_ w10 ⟨A10, c10, rfl, hN10⟩
    refine ⟨_, rfl, hHeld.trans hN10.2.1 (by simp), fun hHeld => ?_⟩
    simp only [Act.put, List.setIfInBounds_toArray, List.set_cons_zero, List.set_cons_succ]
    have HN10 := Lib.hid hN10
    have HD10 := Lib.hid (HD9.out.keep hN10.2.1 (by simp))
    have HFX : Hid (Fr [g] w7 w10) := Lib.hid (HF9.out.trans hN10.2.1 (by simp))
    have HGA : Hid (∀ ad, A1 = some ad → ad.block < g) := Lib.hid (fun ad ha => by have := HYA.out.2 ad.block (by simp [bk, ha]); have := HG.out; omega)
    have HGB : Hid (∀ ad, A2 = some ad → ad.block < g) := Lib.hid (fun ad ha => by have := HYB.out.2 ad.block (by simp [bk, ha]); have := HG.out; omega)
    have HYA10 := Lib.hid (HYA7.out.keep HFX.out (fun ad ha hm => by have := HGA.out ad ha; simp at hm; omega))
    have HYB10 := Lib.hid (HYB7.out.keep HFX.out (fun ad ha hm => by have := HGB.out ad ha; simp at hm; omega))
    clear hN10
    refine call_at (i := 3) (f := ?_) (args := ?_) rfl (by kernel_rfl) (by rfl) ?_ ?_
    rotate_left 2
    · go_simp
      (try (first | with_reducible rfl | (apply And.intro <;> rfl)))
    refine (copy_any A1 a.length c1 a w10 HYA10.out (by have := HA50.out; omega)).mono ?_
    rintro e_ w11 ⟨A11, c11, rfl, hN11⟩
    refine ⟨_, rfl, hHeld.trans hN11.2.1 (by simp), fun hHeld => ?_⟩
    simp only [Act.put, List.setIfInBounds_toArray, List.set_cons_zero, List.set_cons_succ]
    have HN11 := Lib.hid hN11
    clear hN11
    refine step_at (i := 7) rfl (by kernel_rfl) (by rfl) (fun K hK => ?_)
    refine wp_append_bytes _ (.tmp 77) (.tmp 80) _ rfl 5 Try.underlying22 info_u8 (.slice A11 a.length c11) a.length a rfl HN11.out.1 A2 (N) c2 (b.take (N)) rfl ((HYB10.out.keep HN11.out.2.1 (by simp)).take HNB.out) (by have := HNB.out; have := HA50.out; have := HB50.out; omega) ?_
    intro A12 c12 w12 ho12 hg12 hat12
    have hN12 : NewB w10 w12 A12 (a.length + (N)) c12 r := HR.out ▸ NewB.grow HN11.out.2.1 HN11.out.2.2 ho12 hg12 hat12
    refine hK.out _ _ ((hHeld.mono (T := S7) (fun k hk _ => hk)).grown hg12 (fun k hk hl => absurd hl (by have := HN11.out.2.2 k (by rw [bk_mem] at hk; exact hk); have := HFX.out.size; have := HD10.out; have := HSD.out; have := HN10.out.2.1.size; omega))) (fun hHeld => ?_)
    clear hK K
    simp only [Act.put, List.setIfInBounds_toArray, List.set_cons_zero, List.set_cons_succ]
    have HN12 := Lib.hid hN12
    clear hN12 ho12 hg12 hat12
    refine call_at (i := 8) (f := ?_) (args := ?_) rfl (by kernel_rfl) (by rfl) ?_ ?_
    rotate_left 2
    · go_simp
      (try (first | with_reducible rfl | (apply And.intro <;> rfl)))
    refine (same_yes A10 A12 _ _ c10 c12 r w12 (HN10.out.by.keep HN12.out.2.1 (by simp)) (by first | exact HN12.out.by | simpa using HN12.out.by) (by have := HLR.out; have := HNB.out; have := HA50.out; have := HB50.out; omega)).mono ?_
    rintro e_ w13 ⟨rfl, hf13⟩
    refine ⟨_, rfl, hHeld.trans hf13 (by simp), fun hHeld => ?_⟩
    simp only [Act.put, List.setIfInBounds_toArray, List.set_cons_zero, List.set_cons_succ]
    have HF13 : Hid (Fr [] w10 w13) := Lib.hid (HN12.out.2.1.and hf13 (by simp))
    have HD13 := Lib.hid (HD10.out.keep HF13.out (by simp))
    clear hf13
    refine run_at (i := 9) (v := ?_) rfl (by kernel_rfl) (by rfl) (fun _ _ _ h => h) hHeld (fun w1 hw1 => ?_) ?_
    rotate_left 1
    · skip
      go_simp
      (try (first | with_reducible rfl | (apply And.intro <;> rfl)))
    simp only [Act.put, List.setIfInBounds_toArray, List.set_cons_zero, List.set_cons_succ]
    refine run_at (i := 10) (v := ?_) rfl (by kernel_rfl) (by rfl) (fun _ _ _ h => h) hHeld (fun w1 hw1 => ?_) ?_
    rotate_left 1
    · skip
      go_simp
      (try (first | with_reducible rfl | (apply And.intro <;> rfl)))
    simp only [Act.put, List.setIfInBounds_toArray, List.set_cons_zero, List.set_cons_succ]
    refine run_at (i := 12) (v := ?_) rfl (by kernel_rfl) (by rfl) (fun _ _ _ h => h) hHeld (fun w1 hw1 => ?_) ?_
    rotate_left 1
    · skip
      go_simp
      (try (first | with_reducible rfl | (apply And.intro <;> rfl)))
    simp only [Act.put, List.setIfInBounds_toArray, List.set_cons_zero, List.set_cons_succ]
    refine run_at (i := 13) (v := ?_) rfl (by kernel_rfl) (by rfl) (fun _ _ _ h => h) hHeld (fun w1 hw1 => ?_) ?_
    rotate_left 1
    · skip
      go_simp
      (try (first | with_reducible rfl | (apply And.intro <;> rfl)))
    simp only [Act.put, List.setIfInBounds_toArray, List.set_cons_zero, List.set_cons_succ]
    refine run_at (i := 14) (v := ?_) rfl (by kernel_rfl) (by rfl) (fun _ _ _ h => h) hHeld (fun w1 hw1 => ?_) ?_
    rotate_left 1
    · skip
      go_simp
      (try (first | with_reducible rfl | (apply And.intro <;> rfl)))
    simp only [Act.put, List.setIfInBounds_toArray, List.set_cons_zero, List.set_cons_succ]
    refine run_at (i := 15) (v := ?_) rfl (by kernel_rfl) (by rfl) (fun _ _ _ h => h) hHeld (fun w1 hw1 => ?_) ?_
    rotate_left 1
    · skip
      go_simp
      (try (first | with_reducible rfl | (apply And.intro <;> rfl)))
    simp only [Act.put, List.setIfInBounds_toArray, List.set_cons_zero, List.set_cons_succ]
    try first | rw [hwr] | rw [hwr0] | rw [hwr1]
    refine call_at (i := 11) (f := ?_) (args := ?_) rfl (by kernel_rfl) (by rfl) ?_ ?_
    rotate_left 2
    · go_simp
      (try (first | with_reducible rfl | (apply And.intro <;> rfl)))
    refine (csynced_any w13 S7 g r (a.length + (N)) HD13.out).mono ?_
    rintro e_ w14 ⟨rfl, rfl⟩
    refine ⟨_, rfl, hHeld, fun hHeld => ?_⟩
    simp only [Act.put, List.setIfInBounds_toArray, List.set_cons_zero, List.set_cons_succ]
    refine run_at (i := 16) (v := ?_) rfl (by kernel_rfl) (by rfl) (fun _ _ _ h => h) hHeld (fun w1 hw1 => ?_) ?_
    rotate_left 1
    · skip
      go_simp
      (try (first | with_reducible rfl | (apply And.intro <;> rfl)))
    simp only [Act.put, List.setIfInBounds_toArray, List.set_cons_zero, List.set_cons_succ]
    refine run_at (i := 17) (v := ?_) rfl (by kernel_rfl) (by rfl) (fun _ _ _ h => h) hHeld (fun w1 hw1 => ?_) ?_
    rotate_left 1
    · skip
      go_simp
      (try (first | with_reducible rfl | (apply And.intro <;> rfl)))
    simp only [Act.put, List.setIfInBounds_toArray, List.set_cons_zero, List.set_cons_succ]
    refine run_at (i := 18) (v := ?_) rfl (by kernel_rfl) (by rfl) (fun _ _ _ h => h) hHeld (fun w1 hw1 => ?_) ?_
    rotate_left 1
    · skip
      go_simp
      (try (first | with_reducible rfl | (apply And.intro <;> rfl)))
    simp only [Act.put, List.setIfInBounds_toArray, List.set_cons_zero, List.set_cons_succ]
    refine run_at (i := 19) (v := ?_) rfl (by kernel_rfl) (by rfl) (fun _ _ _ h => h) hHeld (fun w1 hw1 => ?_) ?_
    rotate_left 1
    · skip
      go_simp
      (try (first | with_reducible rfl | (apply And.intro <;> rfl)))
    simp only [Act.put, List.setIfInBounds_toArray, List.set_cons_zero, List.set_cons_succ]
    refine call_at (i := 20) (f := ?_) (args := ?_) rfl (by kernel_rfl) (by rfl) ?_ ?_
    rotate_left 2
    · go_simp
      (try (first | with_reducible rfl | (apply And.intro <;> rfl)))
    refine (cdead_any w13 S7 g r (a.length + (N)) HD13.out).mono ?_
    rintro e_ w14 ⟨rfl, rfl⟩
    refine ⟨_, rfl, hHeld, fun hHeld => ?_⟩
    simp only [Act.put, List.setIfInBounds_toArray, List.set_cons_zero, List.set_cons_succ]
    refine run_at (i := 21) (v := ?_) rfl (by kernel_rfl) (by rfl) (fun _ _ _ h => h) hHeld (fun w1 hw1 => ?_) ?_
    rotate_left 1
    · skip
      go_simp
      (try (first | with_reducible rfl | (apply And.intro <;> rfl)))
    simp only [Act.put, List.setIfInBounds_toArray, List.set_cons_zero, List.set_cons_succ]
    refine run_at (i := 22) (v := ?_) rfl (by kernel_rfl) (by rfl) (fun _ _ _ h => h) hHeld (fun w1 hw1 => ?_) ?_
    rotate_left 1
    · skip
      go_simp
      (try (first | with_reducible rfl | (apply And.intro <;> rfl)))
    simp only [Act.put, List.setIfInBounds_toArray, List.set_cons_zero, List.set_cons_succ]
    refine run_at (i := 23) (v := ?_) rfl (by kernel_rfl) (by rfl) (fun _ _ _ h => h) hHeld (fun w1 hw1 => ?_) ?_
    rotate_left 1
    · skip
      go_simp
      (try (first | with_reducible rfl | (apply And.intro <;> rfl)))
    simp only [Act.put, List.setIfInBounds_toArray, List.set_cons_zero, List.set_cons_succ]
    refine run_at (i := 24) (v := ?_) rfl (by kernel_rfl) (by rfl) (fun _ _ _ h => h) hHeld (fun w1 hw1 => ?_) ?_
    rotate_left 1
    · skip
      go_simp
      (try (first | with_reducible rfl | (apply And.intro <;> rfl)))
    simp only [Act.put, List.setIfInBounds_toArray, List.set_cons_zero, List.set_cons_succ]
    refine call_at (i := 25) (f := ?_) (args := ?_) rfl (by kernel_rfl) (by rfl) ?_ ?_
    rotate_left 2
    · go_simp
      (try (first | with_reducible rfl | (apply And.intro <;> rfl)))
    refine (cput_any w13 w2 S7 g r (a.length + (N)) HD13.out (by have := HLR.out; omega) none 0 0 [] (By.nil _ _) (by simp [bk]) (by have := HLR.out; have := HNB.out; have := HA50.out; have := HB50.out; omega) (fun x hx => by have := HS7.out x hx; have := HG.out; omega) (by have := HW2.out.size; have := HG.out; have := HFX.out.size; have := HF13.out.size; have := HGS.out; omega)).mono ?_
    rintro e_ w14 ⟨rfl, S14, hd14, hf14, hs14⟩
    refine ⟨_, rfl, hHeld.trans hf14 (fun x hx _ => hx), fun hHeld => ?_⟩
    simp only [Act.put, List.setIfInBounds_toArray, List.set_cons_zero, List.set_cons_succ]
    have HF14 := Lib.hid hf14
    clear hd14 hf14 hs14
    refine run_at (i := 26) (v := ?_) rfl (by kernel_rfl) (by rfl) (fun _ _ _ h => h) hHeld (fun w1 hw1 => ?_) ?_
    rotate_left 1
    · skip
      go_simp
      (try (first | with_reducible rfl | (apply And.intro <;> rfl)))
    simp only [Act.put, List.setIfInBounds_toArray, List.set_cons_zero, List.set_cons_succ]
    refine run_at (i := 27) (v := ?_) rfl (by kernel_rfl) (by rfl) (fun _ _ _ h => h) hHeld (fun w1 hw1 => ?_) ?_
    rotate_left 1
    · skip
      go_simp
      (try (first | with_reducible rfl | (apply And.intro <;> rfl)))
    simp only [Act.put, List.setIfInBounds_toArray, List.set_cons_zero, List.set_cons_succ]
    refine run_at (i := 28) (v := ?_) rfl (by kernel_rfl) (by rfl) (fun _ _ _ h => h) hHeld (fun w1 hw1 => ?_) ?_
    rotate_left 1
    · skip
      go_simp
      (try (first | with_reducible rfl | (apply And.intro <;> rfl)))
    simp only [Act.put, List.setIfInBounds_toArray, List.set_cons_zero, List.set_cons_succ]
    refine call_at (i := 29) (f := ?_) (args := ?_) rfl (by kernel_rfl) (by rfl) ?_ ?_
    rotate_left 2
    · go_simp
      (try (first | with_reducible rfl | (apply And.intro <;> rfl)))
    refine (dwakes_any w14).mono ?_
    rintro e_ w15 ⟨rfl, hf15⟩
    refine ⟨_, rfl, hHeld.trans hf15 (by simp), fun hHeld => ?_⟩
    simp only [Act.put, List.setIfInBounds_toArray, List.set_cons_zero, List.set_cons_succ]
    have HF15 := Lib.hid hf15
    clear hf15
    refine run_at (i := 30) (v := ?_) rfl (by kernel_rfl) (by rfl) (fun _ _ _ h => h) hHeld (fun w1 hw1 => ?_) ?_
    rotate_left 1
    · skip
      go_simp
      (try (first | with_reducible rfl | (apply And.intro <;> rfl)))
    simp only [Act.put, List.setIfInBounds_toArray, List.set_cons_zero, List.set_cons_succ]
    refine run_at (i := 31) (v := ?_) rfl (by kernel_rfl) (by rfl) (fun _ _ _ h => h) hHeld (fun w1 hw1 => ?_) ?_
    rotate_left 1
    · skip
      go_simp
      (try (first | with_reducible rfl | (apply And.intro <;> rfl)))
    simp only [Act.put, List.setIfInBounds_toArray, List.set_cons_zero, List.set_cons_succ]
    refine wpAnyH_done (by kernel_rfl) ?_ _
    have h10 : Fr [] w w10 := HFR7.out.trans HFX.out (fun x hx hl => by simp at hx; have := HWG.out; omega)
    have h14 : Fr [] w w14 := (h10.and HF13.out (by simp)).trans HF14.out (fun x hx hl => by have := HS7.out x hx; have := HWG.out; omega)
    have HFIN := Lib.hid (h14.and HF15.out (by simp))
    clear h10 h14 hHeld hwr hwr0 hwr1 hn0 hn1
    go_wp2
    all_goals
      go_ret
      exact ⟨rfl, HFIN.out⟩
  · clear hq3'
    go_wp2_with fail
    refine (dput_new w6 w2 S g ⟨a, a.length, true, 2, false⟩ HD6.out ⟨Nat.le_refl _, by dsimp only; omega, by have := HA50.out; simp only; omega⟩ A2 b.length c2 b (HYB.out.1.keep HW6.out (fun ad ha hm => by have := HYB.out.2 ad.block (by simp [bk, ha]); have := HS.out _ hm; have := HG.out; omega)) (fun x hx he => by have := HYB.out.2 x hx; have := HG.out; omega) (by have := HA50.out; have := HB50.out; simp only; omega) (fun x hx => by have := HS.out x hx; have := HG.out; omega) HW6.out.size).mono ?_
    rintro e w7 ⟨rfl, S7, hd7, hf7, hs7⟩
    have HD7 : Hid (Dok w7 S7 g ⟨a ++ b, a.length, true, 1, false⟩) := Lib.hid hd7
    have HS7 : Hid (∀ x ∈ S7, g ≤ x) := Lib.hid (fun x hx => by have := hs7 x hx; have := HG.out; omega)
    have HW7 : Hid (∀ x ∈ S, g ≤ x) := Lib.hid HS.out
    have HFR7 : Hid (Fr [] w w7) := Lib.hid (HW2.out.trans (HW6.out.trans hf7 (fun x hx _ => hx)) (fun x hx hl => absurd hl (by have := HS.out x hx; have := HG.out; have := HW2.out.size; omega)))
    have HYA7 : Hid (By w7 A1 a.length a) := Lib.hid (HYA.out.1.keep (HW6.out.trans hf7 (fun x hx _ => hx)) (fun ad ha hm => by have := HYA.out.2 ad.block (by simp [bk, ha]); have := HS.out _ hm; have := HG.out; omega))
    have HYB7 : Hid (By w7 A2 b.length b) := Lib.hid (HYB.out.1.keep (HW6.out.trans hf7 (fun x hx _ => hx)) (fun ad ha hm => by have := HYB.out.2 ad.block (by simp [bk, ha]); have := HS.out _ hm; have := HG.out; omega))
    have HSZ : Hid (∀ k, k ∈ S7 → k < w7.heap.size) := Lib.hid hd7.lt
    have HGS : Hid (g ≤ w7.heap.size) := Lib.hid (by have := hd7.lt _ hd7.mem; omega)
    have HWG : Hid (w.heap.size ≤ g) := Lib.hid (by have := HG.out; have := HW2.out.size; omega)
    clear hd7 hf7 hs7 HD6 HW6 HS HW7
    rw [show errB (Dsk.passB ⟨a, a.length, true, 2, false⟩) = 0 from rfl]
    go_wp2_with fail
    refine (dsync_any w7 S7 g ⟨a ++ b, a.length, true, 1, false⟩ HD7.out ⟨by simp, by dsimp only; omega, by have := HA50.out; have := HB50.out; simp; omega⟩).mono ?_
    rintro e w8 ⟨rfl, hd8, hf8⟩
    have HD8 : Hid (Dok w8 S7 g ⟨a ++ b, (a ++ b).length, true, 0, false⟩) := Lib.hid hd8
    have HF8 := Lib.hid hf8
    clear hd8 hf8 HD7
    rw [show errB (Dsk.passB ⟨a ++ b, a.length, true, 1, false⟩) = 0 from rfl]
    go_wp2_with fail
    refine (ddead_any w8 S7 g ⟨a ++ b, (a ++ b).length, true, 0, false⟩ HD8.out).mono ?_
    rintro e w9 ⟨rfl, rfl⟩
    dsimp only
    go_wp2_with fail
    refine (dcrash_any w8 S7 g ⟨a ++ b, (a ++ b).length, true, 0, false⟩ HD8.out ⟨by simp, by dsimp only; omega, by have := HA50.out; have := HB50.out; simp; omega⟩ keep HK.out).mono ?_
    rintro e w9 ⟨rfl, hd9, hf9⟩
    rw [crash_all] at hd9
    have HNB : Hid (b.length ≤ b.length) := Lib.hid (by first | omega | exact Nat.min_le_right _ _)
    have HD9 := Lib.hid hd9
    have HF9 : Hid (Fr [g] w7 w9) := Lib.hid (HF8.out.trans hf9 (fun x hx _ => hx))
    clear hd9 hf9 HD8 HF8
    go_upto_region 12 with (fail)
    have HSN : Hid ((if (b.length : Int) < if keep < 0 then 0 else keep then (b.length : Int) else if keep < 0 then 0 else keep) = ((stayN keep b.length : Nat) : Int)) := Lib.hid (by unfold stayN; split <;> split <;> omega)
    rw [HSN.out]
    clear HSN
    have HLR : Hid ((a ++ b.take (b.length)).length = a.length + (b.length)) := Lib.hid (by rw [List.length_append, List.length_take]; have := HNB.out; omega)
    generalize stayN keep b.length = N at *
    have hn0 : (0 : Int) ≤ ((b.length : Nat) : Int) := by omega
    have hn1 : (b.length) ≤ c2 := by have := HNB.out; have := HC2.out; omega
    have hwr0 : IntKind.i64.wrap ((a.length : Int) + 0) = ((a.length + 0 : Nat) : Int) := by have := HA50.out; rw [IntKind.wrap_i64]; omega
    have hwr1 : IntKind.i64.wrap (a.length : Int) = ((a.length + 0 : Nat) : Int) := by have := HA50.out; rw [IntKind.wrap_i64]; omega
    have hwr : IntKind.i64.wrap ((a.length : Int) + ((b.length : Nat) : Int)) = ((a.length + (b.length) : Nat) : Int) := by have := HNB.out; have := HA50.out; have := HB50.out; rw [IntKind.wrap_i64]; omega
    go_upto_region 16 with (fail)
    refine wp_region_held_drew (S := Fr S7 w9) (by kernel_rfl) (Fr.drew (Fr.refl _ w9)) (fun hHeld => ?_)
    have HD9 : Hid (Dok w9.drew S7 g (cs (a ++ b.take (b.length)) (a.length + (b.length)))) := Lib.hid (HD9.out.keep (Fr.drew (Fr.refl [] w9)) (by simp))
    have HF9 : Hid (Fr [g] w7 w9.drew) := Lib.hid (Fr.drew HF9.out)
    have HSD : Hid (w9.heap.size ≤ w9.drew.heap.size) := Lib.hid hHeld.size
    generalize w9.drew = wd at *
    obtain ⟨r, hr⟩ : ∃ r, a ++ b.take (b.length) = r := ⟨_, rfl⟩
    have HR := Lib.hid hr
    rw [hr] at HD9 HLR
    clear hr
    refine run_at (i := 0) (v := ?_) rfl (by kernel_rfl) (by rfl) (fun _ _ _ h => h) hHeld (fun w1 hw1 => ?_) ?_
    rotate_left 1
    · skip
      go_simp
      (try (first | with_reducible rfl | (apply And.intro <;> rfl)))
    simp only [Act.put, List.setIfInBounds_toArray, List.set_cons_zero, List.set_cons_succ]
    refine run_at (i := 2) (v := ?_) rfl (by kernel_rfl) (by rfl) (fun _ _ _ h => h) hHeld (fun w1 hw1 => ?_) ?_
    rotate_left 1
    · skip
      go_simp
      (try (first | with_reducible rfl | (apply And.intro <;> rfl)))
    simp only [Act.put, List.setIfInBounds_toArray, List.set_cons_zero, List.set_cons_succ]
    refine run_at (i := 4) (v := ?_) rfl (by kernel_rfl) (by rfl) (fun _ _ _ h => h) hHeld (fun w1 hw1 => ?_) ?_
    rotate_left 1
    · skip
      go_simp
      (try (first | with_reducible rfl | (apply And.intro <;> rfl)))
    simp only [Act.put, List.setIfInBounds_toArray, List.set_cons_zero, List.set_cons_succ]
    refine run_at (i := 5) (v := ?_) rfl (by kernel_rfl) (by rfl) (fun _ _ _ h => h) hHeld (fun w1 hw1 => ?_) ?_
    rotate_left 1
    · skip
      go_simp
      (try (first | with_reducible rfl | (apply And.intro <;> rfl)))
    simp only [Act.put, List.setIfInBounds_toArray, List.set_cons_zero, List.set_cons_succ]
    refine run_at (i := 6) (v := ?_) rfl (by kernel_rfl) (by rfl) (fun _ _ _ h => h) hHeld (fun w1 hw1 => ?_) ?_
    rotate_left 1
    · skip
      go_simp
      (try (first | with_reducible rfl | (apply And.intro <;> rfl)))
    simp only [Act.put, List.setIfInBounds_toArray, List.set_cons_zero, List.set_cons_succ]
    refine call_at (i := 1) (f := ?_) (args := ?_) rfl (by kernel_rfl) (by rfl) ?_ ?_
    rotate_left 2
    · go_simp
      (try (first | with_reducible rfl | (apply And.intro <;> rfl)))
    refine (cread_any wd S7 g r (a.length + (b.length)) HD9.out (by have := HLR.out; omega) (by have := HLR.out; have := HNB.out; have := HA50.out; have := HB50.out; omega)).mono ?_
    rintro e_ w10 ⟨A10, c10, rfl, hN10⟩
    refine ⟨_, rfl, hHeld.trans hN10.2.1 (by simp), fun hHeld => ?_⟩
    simp only [Act.put, List.setIfInBounds_toArray, List.set_cons_zero, List.set_cons_succ]
    have HN10 := Lib.hid hN10
    have HD10 := Lib.hid (HD9.out.keep hN10.2.1 (by simp))
    have HFX : Hid (Fr [g] w7 w10) := Lib.hid (HF9.out.trans hN10.2.1 (by simp))
    have HGA : Hid (∀ ad, A1 = some ad → ad.block < g) := Lib.hid (fun ad ha => by have := HYA.out.2 ad.block (by simp [bk, ha]); have := HG.out; omega)
    have HGB : Hid (∀ ad, A2 = some ad → ad.block < g) := Lib.hid (fun ad ha => by have := HYB.out.2 ad.block (by simp [bk, ha]); have := HG.out; omega)
    have HYA10 := Lib.hid (HYA7.out.keep HFX.out (fun ad ha hm => by have := HGA.out ad ha; simp at hm; omega))
    have HYB10 := Lib.hid (HYB7.out.keep HFX.out (fun ad ha hm => by have := HGB.out ad ha; simp at hm; omega))
    clear hN10
    refine call_at (i := 3) (f := ?_) (args := ?_) rfl (by kernel_rfl) (by rfl) ?_ ?_
    rotate_left 2
    · go_simp
      (try (first | with_reducible rfl | (apply And.intro <;> rfl)))
    refine (copy_any A1 a.length c1 a w10 HYA10.out (by have := HA50.out; omega)).mono ?_
    rintro e_ w11 ⟨A11, c11, rfl, hN11⟩
    refine ⟨_, rfl, hHeld.trans hN11.2.1 (by simp), fun hHeld => ?_⟩
    simp only [Act.put, List.setIfInBounds_toArray, List.set_cons_zero, List.set_cons_succ]
    have HN11 := Lib.hid hN11
    clear hN11
    refine step_at (i := 7) rfl (by kernel_rfl) (by rfl) (fun K hK => ?_)
    refine wp_append_bytes _ (.tmp 77) (.tmp 80) _ rfl 5 Try.underlying22 info_u8 (.slice A11 a.length c11) a.length a rfl HN11.out.1 A2 (b.length) c2 (b.take (b.length)) rfl ((HYB10.out.keep HN11.out.2.1 (by simp)).take HNB.out) (by have := HNB.out; have := HA50.out; have := HB50.out; omega) ?_
    intro A12 c12 w12 ho12 hg12 hat12
    have hN12 : NewB w10 w12 A12 (a.length + (b.length)) c12 r := HR.out ▸ NewB.grow HN11.out.2.1 HN11.out.2.2 ho12 hg12 hat12
    refine hK.out _ _ ((hHeld.mono (T := S7) (fun k hk _ => hk)).grown hg12 (fun k hk hl => absurd hl (by have := HN11.out.2.2 k (by rw [bk_mem] at hk; exact hk); have := HFX.out.size; have := HD10.out; have := HSD.out; have := HN10.out.2.1.size; omega))) (fun hHeld => ?_)
    clear hK K
    simp only [Act.put, List.setIfInBounds_toArray, List.set_cons_zero, List.set_cons_succ]
    have HN12 := Lib.hid hN12
    clear hN12 ho12 hg12 hat12
    refine call_at (i := 8) (f := ?_) (args := ?_) rfl (by kernel_rfl) (by rfl) ?_ ?_
    rotate_left 2
    · go_simp
      (try (first | with_reducible rfl | (apply And.intro <;> rfl)))
    refine (same_yes A10 A12 _ _ c10 c12 r w12 (HN10.out.by.keep HN12.out.2.1 (by simp)) (by first | exact HN12.out.by | simpa using HN12.out.by) (by have := HLR.out; have := HNB.out; have := HA50.out; have := HB50.out; omega)).mono ?_
    rintro e_ w13 ⟨rfl, hf13⟩
    refine ⟨_, rfl, hHeld.trans hf13 (by simp), fun hHeld => ?_⟩
    simp only [Act.put, List.setIfInBounds_toArray, List.set_cons_zero, List.set_cons_succ]
    have HF13 : Hid (Fr [] w10 w13) := Lib.hid (HN12.out.2.1.and hf13 (by simp))
    have HD13 := Lib.hid (HD10.out.keep HF13.out (by simp))
    clear hf13
    refine run_at (i := 9) (v := ?_) rfl (by kernel_rfl) (by rfl) (fun _ _ _ h => h) hHeld (fun w1 hw1 => ?_) ?_
    rotate_left 1
    · skip
      go_simp
      (try (first | with_reducible rfl | (apply And.intro <;> rfl)))
    simp only [Act.put, List.setIfInBounds_toArray, List.set_cons_zero, List.set_cons_succ]
    refine run_at (i := 10) (v := ?_) rfl (by kernel_rfl) (by rfl) (fun _ _ _ h => h) hHeld (fun w1 hw1 => ?_) ?_
    rotate_left 1
    · skip
      go_simp
      (try (first | with_reducible rfl | (apply And.intro <;> rfl)))
    simp only [Act.put, List.setIfInBounds_toArray, List.set_cons_zero, List.set_cons_succ]
    refine run_at (i := 12) (v := ?_) rfl (by kernel_rfl) (by rfl) (fun _ _ _ h => h) hHeld (fun w1 hw1 => ?_) ?_
    rotate_left 1
    · skip
      go_simp
      (try (first | with_reducible rfl | (apply And.intro <;> rfl)))
    simp only [Act.put, List.setIfInBounds_toArray, List.set_cons_zero, List.set_cons_succ]
    refine run_at (i := 13) (v := ?_) rfl (by kernel_rfl) (by rfl) (fun _ _ _ h => h) hHeld (fun w1 hw1 => ?_) ?_
    rotate_left 1
    · skip
      go_simp
      (try (first | with_reducible rfl | (apply And.intro <;> rfl)))
    simp only [Act.put, List.setIfInBounds_toArray, List.set_cons_zero, List.set_cons_succ]
    refine run_at (i := 14) (v := ?_) rfl (by kernel_rfl) (by rfl) (fun _ _ _ h => h) hHeld (fun w1 hw1 => ?_) ?_
    rotate_left 1
    · skip
      go_simp
      (try (first | with_reducible rfl | (apply And.intro <;> rfl)))
    simp only [Act.put, List.setIfInBounds_toArray, List.set_cons_zero, List.set_cons_succ]
    refine run_at (i := 15) (v := ?_) rfl (by kernel_rfl) (by rfl) (fun _ _ _ h => h) hHeld (fun w1 hw1 => ?_) ?_
    rotate_left 1
    · skip
      go_simp
      (try (first | with_reducible rfl | (apply And.intro <;> rfl)))
    simp only [Act.put, List.setIfInBounds_toArray, List.set_cons_zero, List.set_cons_succ]
    try first | rw [hwr] | rw [hwr0] | rw [hwr1]
    refine call_at (i := 11) (f := ?_) (args := ?_) rfl (by kernel_rfl) (by rfl) ?_ ?_
    rotate_left 2
    · go_simp
      (try (first | with_reducible rfl | (apply And.intro <;> rfl)))
    refine (csynced_any w13 S7 g r (a.length + (b.length)) HD13.out).mono ?_
    rintro e_ w14 ⟨rfl, rfl⟩
    refine ⟨_, rfl, hHeld, fun hHeld => ?_⟩
    simp only [Act.put, List.setIfInBounds_toArray, List.set_cons_zero, List.set_cons_succ]
    refine run_at (i := 16) (v := ?_) rfl (by kernel_rfl) (by rfl) (fun _ _ _ h => h) hHeld (fun w1 hw1 => ?_) ?_
    rotate_left 1
    · skip
      go_simp
      (try (first | with_reducible rfl | (apply And.intro <;> rfl)))
    simp only [Act.put, List.setIfInBounds_toArray, List.set_cons_zero, List.set_cons_succ]
    refine run_at (i := 17) (v := ?_) rfl (by kernel_rfl) (by rfl) (fun _ _ _ h => h) hHeld (fun w1 hw1 => ?_) ?_
    rotate_left 1
    · skip
      go_simp
      (try (first | with_reducible rfl | (apply And.intro <;> rfl)))
    simp only [Act.put, List.setIfInBounds_toArray, List.set_cons_zero, List.set_cons_succ]
    refine run_at (i := 18) (v := ?_) rfl (by kernel_rfl) (by rfl) (fun _ _ _ h => h) hHeld (fun w1 hw1 => ?_) ?_
    rotate_left 1
    · skip
      go_simp
      (try (first | with_reducible rfl | (apply And.intro <;> rfl)))
    simp only [Act.put, List.setIfInBounds_toArray, List.set_cons_zero, List.set_cons_succ]
    refine run_at (i := 19) (v := ?_) rfl (by kernel_rfl) (by rfl) (fun _ _ _ h => h) hHeld (fun w1 hw1 => ?_) ?_
    rotate_left 1
    · skip
      go_simp
      (try (first | with_reducible rfl | (apply And.intro <;> rfl)))
    simp only [Act.put, List.setIfInBounds_toArray, List.set_cons_zero, List.set_cons_succ]
    refine call_at (i := 20) (f := ?_) (args := ?_) rfl (by kernel_rfl) (by rfl) ?_ ?_
    rotate_left 2
    · go_simp
      (try (first | with_reducible rfl | (apply And.intro <;> rfl)))
    refine (cdead_any w13 S7 g r (a.length + (b.length)) HD13.out).mono ?_
    rintro e_ w14 ⟨rfl, rfl⟩
    refine ⟨_, rfl, hHeld, fun hHeld => ?_⟩
    simp only [Act.put, List.setIfInBounds_toArray, List.set_cons_zero, List.set_cons_succ]
    refine run_at (i := 21) (v := ?_) rfl (by kernel_rfl) (by rfl) (fun _ _ _ h => h) hHeld (fun w1 hw1 => ?_) ?_
    rotate_left 1
    · skip
      go_simp
      (try (first | with_reducible rfl | (apply And.intro <;> rfl)))
    simp only [Act.put, List.setIfInBounds_toArray, List.set_cons_zero, List.set_cons_succ]
    refine run_at (i := 22) (v := ?_) rfl (by kernel_rfl) (by rfl) (fun _ _ _ h => h) hHeld (fun w1 hw1 => ?_) ?_
    rotate_left 1
    · skip
      go_simp
      (try (first | with_reducible rfl | (apply And.intro <;> rfl)))
    simp only [Act.put, List.setIfInBounds_toArray, List.set_cons_zero, List.set_cons_succ]
    refine run_at (i := 23) (v := ?_) rfl (by kernel_rfl) (by rfl) (fun _ _ _ h => h) hHeld (fun w1 hw1 => ?_) ?_
    rotate_left 1
    · skip
      go_simp
      (try (first | with_reducible rfl | (apply And.intro <;> rfl)))
    simp only [Act.put, List.setIfInBounds_toArray, List.set_cons_zero, List.set_cons_succ]
    refine run_at (i := 24) (v := ?_) rfl (by kernel_rfl) (by rfl) (fun _ _ _ h => h) hHeld (fun w1 hw1 => ?_) ?_
    rotate_left 1
    · skip
      go_simp
      (try (first | with_reducible rfl | (apply And.intro <;> rfl)))
    simp only [Act.put, List.setIfInBounds_toArray, List.set_cons_zero, List.set_cons_succ]
    refine call_at (i := 25) (f := ?_) (args := ?_) rfl (by kernel_rfl) (by rfl) ?_ ?_
    rotate_left 2
    · go_simp
      (try (first | with_reducible rfl | (apply And.intro <;> rfl)))
    refine (cput_any w13 w2 S7 g r (a.length + (b.length)) HD13.out (by have := HLR.out; omega) none 0 0 [] (By.nil _ _) (by simp [bk]) (by have := HLR.out; have := HNB.out; have := HA50.out; have := HB50.out; omega) (fun x hx => by have := HS7.out x hx; have := HG.out; omega) (by have := HW2.out.size; have := HG.out; have := HFX.out.size; have := HF13.out.size; have := HGS.out; omega)).mono ?_
    rintro e_ w14 ⟨rfl, S14, hd14, hf14, hs14⟩
    refine ⟨_, rfl, hHeld.trans hf14 (fun x hx _ => hx), fun hHeld => ?_⟩
    simp only [Act.put, List.setIfInBounds_toArray, List.set_cons_zero, List.set_cons_succ]
    have HF14 := Lib.hid hf14
    clear hd14 hf14 hs14
    refine run_at (i := 26) (v := ?_) rfl (by kernel_rfl) (by rfl) (fun _ _ _ h => h) hHeld (fun w1 hw1 => ?_) ?_
    rotate_left 1
    · skip
      go_simp
      (try (first | with_reducible rfl | (apply And.intro <;> rfl)))
    simp only [Act.put, List.setIfInBounds_toArray, List.set_cons_zero, List.set_cons_succ]
    refine run_at (i := 27) (v := ?_) rfl (by kernel_rfl) (by rfl) (fun _ _ _ h => h) hHeld (fun w1 hw1 => ?_) ?_
    rotate_left 1
    · skip
      go_simp
      (try (first | with_reducible rfl | (apply And.intro <;> rfl)))
    simp only [Act.put, List.setIfInBounds_toArray, List.set_cons_zero, List.set_cons_succ]
    refine run_at (i := 28) (v := ?_) rfl (by kernel_rfl) (by rfl) (fun _ _ _ h => h) hHeld (fun w1 hw1 => ?_) ?_
    rotate_left 1
    · skip
      go_simp
      (try (first | with_reducible rfl | (apply And.intro <;> rfl)))
    simp only [Act.put, List.setIfInBounds_toArray, List.set_cons_zero, List.set_cons_succ]
    refine call_at (i := 29) (f := ?_) (args := ?_) rfl (by kernel_rfl) (by rfl) ?_ ?_
    rotate_left 2
    · go_simp
      (try (first | with_reducible rfl | (apply And.intro <;> rfl)))
    refine (dwakes_any w14).mono ?_
    rintro e_ w15 ⟨rfl, hf15⟩
    refine ⟨_, rfl, hHeld.trans hf15 (by simp), fun hHeld => ?_⟩
    simp only [Act.put, List.setIfInBounds_toArray, List.set_cons_zero, List.set_cons_succ]
    have HF15 := Lib.hid hf15
    clear hf15
    refine run_at (i := 30) (v := ?_) rfl (by kernel_rfl) (by rfl) (fun _ _ _ h => h) hHeld (fun w1 hw1 => ?_) ?_
    rotate_left 1
    · skip
      go_simp
      (try (first | with_reducible rfl | (apply And.intro <;> rfl)))
    simp only [Act.put, List.setIfInBounds_toArray, List.set_cons_zero, List.set_cons_succ]
    refine run_at (i := 31) (v := ?_) rfl (by kernel_rfl) (by rfl) (fun _ _ _ h => h) hHeld (fun w1 hw1 => ?_) ?_
    rotate_left 1
    · skip
      go_simp
      (try (first | with_reducible rfl | (apply And.intro <;> rfl)))
    simp only [Act.put, List.setIfInBounds_toArray, List.set_cons_zero, List.set_cons_succ]
    refine wpAnyH_done (by kernel_rfl) ?_ _
    have h10 : Fr [] w w10 := HFR7.out.trans HFX.out (fun x hx hl => by simp at hx; have := HWG.out; omega)
    have h14 : Fr [] w w14 := (h10.and HF13.out (by simp)).trans HF14.out (fun x hx hl => by have := HS7.out x hx; have := HWG.out; omega)
    have HFIN := Lib.hid (h14.and HF15.out (by simp))
    clear h10 h14 hHeld hwr hwr0 hwr1 hn0 hn1
    go_wp2
    all_goals
      go_ret
      exact ⟨rfl, HFIN.out⟩
end Go.Proofs.Ytjpmiigoglcoaaa
