/- DiskCuts: the walk. (written by gen_dlw3.py) -/
import Derived.Test.YtjpmiigoglcoaaaDlw2
import Derived.Deep.DeepCutAuto
namespace Go.Proofs.Ytjpmiigoglcoaaa
set_option maxRecDepth 100000
open Go.RowKit
theorem ccut_bad (w : World) (S : List Nat) (g : Nat) (r : List UInt8) (s : Nat) (h : Dok w S g (cs r s)) (k : Int) (hk : k < 0 ∨ (r.length : Int) < k) :
    Calls Try.prog 11 #[.pointer (some ⟨g, 0, none⟩), .int .i64 k] w fun e w' => e = .returned (.int .i64 1) ∧ w = w' := dcut_bad w S g (cs r s) h rfl k hk
/-- what a crash keeps of a row that is cut -/
def keepN (r : List UInt8) (s : Nat) (keep : Int) : Nat := s + min keep.toNat (r.length - s)
theorem ccrash_any (w : World) (S : List Nat) (g : Nat) (r : List UInt8) (s : Nat) (h : Dok w S g (cs r s)) (hs : s ≤ r.length) (hn : r.length ≤ 1000000) (keep : Int) (hk : -9223372036854775808 ≤ keep ∧ keep < 9223372036854775808) :
    Calls Try.prog 17 #[.pointer (some ⟨g, 0, none⟩), .int .i64 keep] w fun e w' => e = .returned (.tuple #[]) ∧ Dok w' S g (cs (r.take (keepN r s keep)) (keepN r s keep)) ∧ Fr [g] w w' :=
  dcrash_any w S g (cs r s) h (cs_ok hs (by omega)) keep hk

theorem cread_eq (w : World) (S : List Nat) (g : Nat) (r : List UInt8) (s k : Nat) (h : Dok w S g (cs r s)) (hs : s ≤ r.length) (hk : r.length = k) (hn : k ≤ 1000000) :
    Calls Try.prog 13 #[.pointer (some ⟨g, 0, none⟩)] w fun e w' => ∃ A' c', e = .returned (.slice A' k c') ∧ NewB w w' A' k c' r := by
  subst hk
  exact cread_any w S g r s h hs hn
theorem clen_eq (w : World) (S : List Nat) (g : Nat) (r : List UInt8) (s k : Nat) (h : Dok w S g (cs r s)) (hk : r.length = k) : Calls Try.prog 16 #[.pointer (some ⟨g, 0, none⟩)] w fun e w' => e = .returned (.int .i64 k) ∧ w = w' := by
  subst hk
  exact clen_any w S g r s h
set_option maxHeartbeats 4000000 in
theorem diskCuts_walk (w : World) (A : Option Addr) (n c : Nat) (la : List UInt8) (hA : By w A n la) (hn : n ≤ c) (hc : c ≤ maxLen) (B : Option Addr) (m d : Nat) (lb : List UInt8) (hB : By w B m lb) (hm : m ≤ d) (hd : d ≤ maxLen)
    (cut : Int) (hc1 : -9223372036854775808 ≤ cut) (hc2 : cut < 9223372036854775808) (keep : Int) (hk1 : -9223372036854775808 ≤ keep) (hk2 : keep < 9223372036854775808) (bad : Int) (_ : -9223372036854775808 ≤ bad) (_ : bad < 9223372036854775808) :
    Calls Try.prog 3 #[.slice A n c, .slice B m d, .int .i64 cut, .int .i64 keep, .int .i64 bad] w fun e w' => e = .returned (.bool true) ∧ Fr [] w w' := by
  have HB := Lib.hid hB
  have HK := Lib.hid (And.intro hk1 hk2)
  have HC := Lib.hid (And.intro hc1 hc2)
  have HMD := Lib.hid (And.intro hm hd)
  clear hB hk1 hk2 hm hd hc1 hc2
  go_enter Try.func3, Try.ntmps3
  go_wp2_with fail
  rw [show (40 : Int) = ((40 : Nat) : Int) from rfl]
  refine (cut_any A n c 40 la w hA (Nat.le_trans hn hc) hn (by omega)).mono ?_
  rintro e w1 ⟨A1, c1, rfl, hN1⟩
  have ha50 : (la.take 40).length ≤ 40 := List.length_take_le _ _
  generalize la.take 40 = a at *
  have HA50 := Lib.hid ha50
  have HN1 := Lib.hid hN1
  clear hA hn hc hN1 ha50
  go_wp2_with fail
  rw [show (40 : Int) = ((40 : Nat) : Int) from rfl]
  refine (cut_any B m d 40 lb w1 (HB.out.keep HN1.out.2.1 (by simp)) (Nat.le_trans HMD.out.1 HMD.out.2) HMD.out.1 (by omega)).mono ?_
  rintro e w2 ⟨A2, c2, rfl, hN2⟩
  have hb50 : (lb.take 40).length ≤ 40 := List.length_take_le _ _
  generalize lb.take 40 = b at *
  have HB50 := Lib.hid hb50
  have HYA : Hid (By w2 A1 a.length a ∧ ∀ x ∈ bk A1, x < w2.heap.size) := Lib.hid ⟨HN1.out.by.keep hN2.2.1 (by simp), fun x hx => by have := HN1.out.lt x hx; have := hN2.2.1.size; omega⟩
  have HYB : Hid (By w2 A2 b.length b ∧ ∀ x ∈ bk A2, x < w2.heap.size) := Lib.hid ⟨hN2.by, hN2.lt⟩
  have HW2 : Hid (Fr [] w w2) := Lib.hid (HN1.out.2.1.and hN2.2.1 (by simp))
  clear hN2 hb50 HB HN1 HMD
  go_wp2_with fail
  refine (dnew_any w2).mono ?_
  rintro e w3 ⟨rfl, hd3, hf3⟩
  have HD3 : Hid (Dok w3 [w2.heap.size] w2.heap.size (cs [] 0)) := Lib.hid hd3
  have HF3 := Lib.hid hf3
  have HG3 : Hid (w2.heap.size < w3.heap.size) := Lib.hid (hd3.lt _ hd3.mem)
  clear hd3 hf3
  generalize hg : w2.heap.size = g at *
  have HG := Lib.hid hg
  clear hg
  have HGA : Hid (∀ ad, A1 = some ad → ad.block < g) := Lib.hid (fun ad ha => by have := HYA.out.2 ad.block (by simp [bk, ha]); have := HG.out; omega)
  have HGB : Hid (∀ ad, A2 = some ad → ad.block < g) := Lib.hid (fun ad ha => by have := HYB.out.2 ad.block (by simp [bk, ha]); have := HG.out; omega)
  have HWG : Hid (w.heap.size ≤ g) := Lib.hid (by have := HG.out; have := HW2.out.size; omega)
  go_wp2_with fail
  refine (cput_any w3 w2 [g] g [] 0 HD3.out (Nat.zero_le _) A1 _ c1 a (HYA.out.1.keep HF3.out (by simp)) (fun x hx he => by have := HYA.out.2 x hx; omega) (by have := HA50.out; simp; omega) (by simp [HG.out]) (by have := HG.out; have := HG3.out; omega)).mono ?_
  rintro e w4 ⟨rfl, S, hd4, hf4, hs4⟩
  rw [List.nil_append] at hd4
  have HD4 := Lib.hid hd4
  have HS : Hid (∀ x ∈ S, g ≤ x) := Lib.hid (fun x hx => by have := hs4 x hx; have := HG.out; omega)
  have HW4 : Hid (Fr S w2 w4) := Lib.hid ((HF3.out.mono (T := S) (by simp)).trans (hf4.mono (T := S) (fun k hk _ => by simp at hk; subst hk; exact hd4.mem)) (fun x hx _ => hx))
  clear hd4 hf4 hs4 HD3 HF3
  go_wp2_with fail
  refine (csync_any w4 S g a 0 HD4.out (Nat.zero_le _) (by have := HA50.out; omega)).mono ?_
  rintro e w5 ⟨rfl, hd5, hf5⟩
  have HD5 := Lib.hid hd5
  have HW5 : Hid (Fr S w2 w5) := Lib.hid (HW4.out.trans hf5 (fun x hx _ => by simp at hx; subst hx; exact hd5.mem))
  clear hd5 hf5 HD4 HW4
  go_wp2_with fail
  refine (cput_any w5 w2 S g a a.length HD5.out (Nat.le_refl _) A2 _ c2 b (HYB.out.1.keep HW5.out (fun ad ha hm => by have := HGB.out ad ha; have := HS.out _ hm; omega)) (fun x hx he => by have := HYB.out.2 x hx; have := HG.out; omega) (by have := HA50.out; have := HB50.out; omega) (fun x hx => by have := HS.out x hx; have := HG.out; omega) HW5.out.size).mono ?_
  rintro e w6 ⟨rfl, T, hd6, hf6, hs6⟩
  have HT : Hid (∀ x ∈ T, g ≤ x) := Lib.hid (fun x hx => by have := hs6 x hx; have := HG.out; omega)
  have HW6 : Hid (Fr S w2 w6) := Lib.hid (HW5.out.trans hf6 (fun x hx _ => hx))
  have HGS : Hid (g ≤ w6.heap.size) := Lib.hid (by have := hd6.lt _ hd6.mem; omega)
  have HMEM := Lib.hid hd6.mem
  have HFR6 : Hid (Fr [] w w6) := Lib.hid (HW2.out.trans HW6.out (fun x hx hl => absurd hl (by have := HS.out x hx; have := HWG.out; omega)))
  have HYA6 := Lib.hid (HYA.out.1.keep HW6.out (fun ad ha hm => by have := HGA.out ad ha; have := HS.out _ hm; omega))
  have HYB6 := Lib.hid (HYB.out.1.keep HW6.out (fun ad ha hm => by have := HGB.out ad ha; have := HS.out _ hm; omega))
  have HD6 := Lib.hid hd6
  clear hd6 hf6 hs6 HD5 HW5 HW6 HS HYA HYB
  go_wp2_with fail
  refine (copy_any A1 a.length c1 a w6 HYA6.out (by have := HA50.out; omega)).mono ?_
  rintro e w7 ⟨A7, c7, rfl, hN7⟩
  have HN7 := Lib.hid hN7
  clear hN7
  go_wp2_with (at_builtin; refine Stop.mk ?_)
  refine Stop.go ?_
  refine wpList_append_bytes _ rfl (.tmp 39) (.tmp 40) _ rfl 5 Try.underlying22 info_u8 (.slice A7 a.length c7) a.length a rfl HN7.out.1 A2 b.length c2 b rfl (HYB6.out.keep HN7.out.2.1 (by simp)) (by have := HA50.out; have := HB50.out; omega) ?_
  intro A8 c8 w8 ho8 hg8 hat8
  have HN8 : Hid (NewB w6 w8 A8 (a.length + b.length) c8 (a ++ b)) := Lib.hid (NewB.grow HN7.out.2.1 HN7.out.2.2 ho8 hg8 hat8)
  have HD8 := Lib.hid (HD6.out.keep HN8.out.2.1 (by simp))
  have HFR8 := Lib.hid (HFR6.out.and HN8.out.2.1 (by simp))
  have HLR : Hid (((a ++ b).length = a.length + b.length)) := Lib.hid (by simp)
  have HLN : Hid (a.length + b.length ≤ 80 ∧ b.length ≤ 40) := Lib.hid (by have := HA50.out; have := HB50.out; omega)
  have HGS8 : Hid (g ≤ w8.heap.size ∧ ∀ x ∈ bk A8, w6.heap.size ≤ x ∧ x < w8.heap.size) := Lib.hid ⟨by have := HGS.out; have := HN8.out.2.1.size; omega, fun x hx => ⟨HN8.out.2.2 x hx, HN8.out.lt x hx⟩⟩
  have HMEM2 : Hid (g ∈ T) := Lib.hid HD6.out.mem
  have HT8 : Hid (∀ x ∈ T, x < w6.heap.size) := Lib.hid HD6.out.lt
  have HCAP : Hid (a.length + b.length ≤ c8) := Lib.hid HN8.out.cap
  have HY8 : Hid (By w8 A8 (a.length + b.length) (a ++ b)) := Lib.hid HN8.out.by
  clear ho8 hg8 hat8 HN7 HD6 HYB6 HYA6 HN8 HGB HGA
  generalize a ++ b = r at *
  obtain ⟨z, hz⟩ : ∃ z, a.length + b.length = z := ⟨_, rfl⟩
  rw [hz] at HLR HLN HCAP HY8 ⊢
  have HZA : Hid (a.length ≤ z) := Lib.hid (by omega)
  clear hz
  have HQ : Hid (0 ≤ cut % ((z : Int) + 1) ∧ cut % ((z : Int) + 1) < (z : Int) + 1) := Lib.hid ⟨Int.emod_nonneg _ (by omega), Int.emod_lt_of_pos _ (by omega)⟩
  have hwz : wrap64 ((z : Int) + 1) = (z : Int) + 1 := by have := HLN.out; unfold wrap64; omega
  have HWZ := Lib.hid hwz
  clear hwz
  obtain hb | hb | hb : bad < 0 ∨ (0 ≤ bad ∧ bad ≤ (z : Int)) ∨ (z : Int) < bad := by omega
  · have hb1 : ¬ bad ≥ 0 := by omega
    have hb2 : bad < 0 := by omega
    have HBD : Hid ((bad : Int) < 0 ∨ (z : Int) < (bad)) := Lib.hid (by omega)
    clear hb
    go_wp2_with fail
    refine (ccut_bad w8 T g r a.length HD8.out (bad) (by rw [HLR.out]; exact HBD.out)).mono ?_
    rintro e w9 ⟨rfl, rfl⟩
    clear hb1 hb2
    go_wp2_with fail
    refine (cread_any w8 T g r a.length HD8.out (by rw [HLR.out]; exact HZA.out) (by rw [HLR.out]; have := HLN.out; omega)).mono ?_
    rintro e w10 ⟨A10, c10, rfl, hN10⟩
    have HN10 := Lib.hid hN10
    have HD10 := Lib.hid (HD8.out.keep hN10.2.1 (by simp))
    clear hN10
    go_wp2_with fail
    refine (same_yes A10 A8 _ _ c10 c8 r w10 HN10.out.by (HY8.out.keep HN10.out.2.1 (by simp)) (by rw [HLR.out]; have := HLN.out; omega)).mono ?_
    rintro e w11 ⟨rfl, hf11⟩
    have HF11 : Hid (Fr [] w8 w11) := Lib.hid (HN10.out.2.1.and hf11 (by simp))
    have HD11 := Lib.hid (HD10.out.keep hf11 (by simp))
    clear hf11 HN10 HD10
    go_wp2_with fail
    rw [HWZ.out]
    refine (within_pos cut ((z : Int) + 1) HC.out.1 HC.out.2 (by omega) (by have := HLN.out; omega) _).mono ?_
    rintro e w12 ⟨rfl, rfl⟩
    obtain ⟨q, hq, hqz⟩ : ∃ q : Nat, cut % ((z : Int) + 1) = (q : Int) ∧ q ≤ z := ⟨(cut % ((z : Int) + 1)).toNat, by have := HQ.out; omega, by have := HQ.out; omega⟩
    rw [hq]
    clear hq
    have HQZ := Lib.hid hqz
    clear hqz
    go_upto_region 11 with (fail)
    have hn0 : (0 : Int) ≤ (q : Int) := by omega
    have hn1 : q ≤ c8 := by have := HQZ.out; have := HCAP.out; omega
    refine wp_region_held_drew (S := Fr T w11) (by kernel_rfl) (Fr.drew (Fr.refl _ w11)) (fun hHeld => ?_)
    have HD11 : Hid (Dok w11.drew T g (cs r a.length)) := Lib.hid (HD11.out.keep (Fr.drew (Fr.refl [] w11)) (by simp))
    have HF11 : Hid (Fr [] w8 w11.drew) := Lib.hid (Fr.drew HF11.out)
    generalize w11.drew = wd at *
    refine run_at (i := 0) (v := ?_) rfl (by kernel_rfl) (by rfl) (fun _ _ _ h => h) hHeld (fun w1 hw1 => ?_) ?_
    rotate_left 1
    · skip
      go_simp
      (try (first | with_reducible rfl | (apply And.intro <;> rfl)))
    simp only [Act.put, List.setIfInBounds_toArray, List.set_cons_zero, List.set_cons_succ]
    refine run_at (i := 1) (v := ?_) rfl (by kernel_rfl) (by rfl) (fun _ _ _ h => h) hHeld (fun w1 hw1 => ?_) ?_
    rotate_left 1
    · skip
      go_simp
      (try (first | with_reducible rfl | (apply And.intro <;> rfl)))
    simp only [Act.put, List.setIfInBounds_toArray, List.set_cons_zero, List.set_cons_succ]
    refine call_at (i := 2) (f := ?_) (args := ?_) rfl (by kernel_rfl) (by rfl) ?_ ?_
    rotate_left 2
    · go_simp
      (try (first | with_reducible rfl | (apply And.intro <;> rfl)))
    refine (ccut_any wd T g r a.length HD11.out (by rw [HLR.out]; exact HZA.out) (by rw [HLR.out]; have := HLN.out; omega) q (by rw [HLR.out]; exact HQZ.out)).mono ?_
    rintro e_ w12 ⟨rfl, hd12, hf12⟩
    refine ⟨_, rfl, hHeld.trans hf12 (fun x hx _ => by simp at hx; subst hx; exact HMEM2.out), fun hHeld => ?_⟩
    simp only [Act.put, List.setIfInBounds_toArray, List.set_cons_zero, List.set_cons_succ]
    have HLQ : Hid ((r.take q).length = q) := Lib.hid (by rw [List.length_take, HLR.out]; have := HQZ.out; omega)
    have HRQ : Hid (r.take q = r.take q) := Lib.hid rfl
    obtain ⟨rq, hrq⟩ : ∃ rq, r.take q = rq := ⟨_, rfl⟩
    obtain ⟨mq, hmq⟩ : ∃ mq, min a.length q = mq := ⟨_, rfl⟩
    have HMQ : Hid (mq ≤ q ∧ mq ≤ a.length ∧ (a.length < q → mq = a.length) ∧ (¬ a.length < q → mq = q)) := Lib.hid (by omega)
    have HMN : Hid ((if a.length < q then (a.length : Int) else (q : Int)) = (mq : Int)) := Lib.hid (by rw [← hmq]; split <;> omega)
    have HRQE : Hid (rq = r.take q) := Lib.hid hrq.symm
    rw [hrq, hmq] at hd12
    rw [hrq] at HLQ
    have HD12 := Lib.hid hd12
    have HY12 := Lib.hid ((HY8.out.keep HF11.out (by simp)).keep hf12 (fun ad ha hm => by have := HGS8.out.2 ad.block (by simp [bk, ha]); have := HT8.out _ HMEM2.out; simp at hm; omega))
    have HF12 : Hid (Fr [g] w8 w12) := Lib.hid ((HF11.out.mono (T := [g]) (by simp)).trans hf12 (fun x hx _ => hx))
    clear hd12 hf12 hrq hmq HRQ
    refine run_at (i := 3) (v := ?_) rfl (by kernel_rfl) (by rfl) (fun _ _ _ h => h) hHeld (fun w1 hw1 => ?_) ?_
    rotate_left 1
    · skip
      go_simp
      (try (first | with_reducible rfl | (apply And.intro <;> rfl)))
    simp only [Act.put, List.setIfInBounds_toArray, List.set_cons_zero, List.set_cons_succ]
    refine run_at (i := 4) (v := ?_) rfl (by kernel_rfl) (by rfl) (fun _ _ _ h => h) hHeld (fun w1 hw1 => ?_) ?_
    rotate_left 1
    · skip
      go_simp
      (try (first | with_reducible rfl | (apply And.intro <;> rfl)))
    simp only [Act.put, List.setIfInBounds_toArray, List.set_cons_zero, List.set_cons_succ]
    refine run_at (i := 5) (v := ?_) rfl (by kernel_rfl) (by rfl) (fun _ _ _ h => h) hHeld (fun w1 hw1 => ?_) ?_
    rotate_left 1
    · skip
      go_simp
      (try (first | with_reducible rfl | (apply And.intro <;> rfl)))
    simp only [Act.put, List.setIfInBounds_toArray, List.set_cons_zero, List.set_cons_succ]
    refine run_at (i := 7) (v := ?_) rfl (by kernel_rfl) (by rfl) (fun _ _ _ h => h) hHeld (fun w1 hw1 => ?_) ?_
    rotate_left 1
    · skip
      go_simp
      (try (first | with_reducible rfl | (apply And.intro <;> rfl)))
    simp only [Act.put, List.setIfInBounds_toArray, List.set_cons_zero, List.set_cons_succ]
    refine run_at (i := 8) (v := ?_) rfl (by kernel_rfl) (by rfl) (fun _ _ _ h => h) hHeld (fun w1 hw1 => ?_) ?_
    rotate_left 1
    · skip
      go_simp
      (try (first | with_reducible rfl | (apply And.intro <;> rfl)))
    simp only [Act.put, List.setIfInBounds_toArray, List.set_cons_zero, List.set_cons_succ]
    refine run_at (i := 9) (v := ?_) rfl (by kernel_rfl) (by rfl) (fun _ _ _ h => h) hHeld (fun w1 hw1 => ?_) ?_
    rotate_left 1
    · skip
      go_simp
      (try (first | with_reducible rfl | (apply And.intro <;> rfl)))
    simp only [Act.put, List.setIfInBounds_toArray, List.set_cons_zero, List.set_cons_succ]
    refine call_at (i := 6) (f := ?_) (args := ?_) rfl (by kernel_rfl) (by rfl) ?_ ?_
    rotate_left 2
    · go_simp
      (try (first | with_reducible rfl | (apply And.intro <;> rfl)))
    refine (cread_eq w12 T g rq mq q HD12.out (by rw [HLQ.out]; exact HMQ.out.1) HLQ.out (by have := HLN.out; have := HQZ.out; omega)).mono ?_
    rintro e_ w13 ⟨A13, c13, rfl, hN13⟩
    refine ⟨_, rfl, hHeld.trans hN13.2.1 (by simp), fun hHeld => ?_⟩
    simp only [Act.put, List.setIfInBounds_toArray, List.set_cons_zero, List.set_cons_succ]
    have HN13 := Lib.hid hN13
    have HD13 := Lib.hid (HD12.out.keep hN13.2.1 (by simp))
    clear hN13
    refine call_at (i := 10) (f := ?_) (args := ?_) rfl (by kernel_rfl) (by rfl) ?_ ?_
    rotate_left 2
    · go_simp
      (try (first | with_reducible rfl | (apply And.intro <;> rfl)))
    refine (same_yes A13 A8 q q c13 c8 rq w13 HN13.out.by ((HRQE.out ▸ HY12.out.take HQZ.out : By w12 A8 q rq).keep HN13.out.2.1 (by simp)) (by have := HLN.out; have := HQZ.out; omega)).mono ?_
    rintro e_ w14 ⟨rfl, hf14⟩
    refine ⟨_, rfl, hHeld.trans hf14 (by simp), fun hHeld => ?_⟩
    simp only [Act.put, List.setIfInBounds_toArray, List.set_cons_zero, List.set_cons_succ]
    have HD14 := Lib.hid (HD13.out.keep hf14 (by simp))
    have HF14 : Hid (Fr [g] w8 w14) := Lib.hid ((HF12.out.trans HN13.out.2.1 (by simp)).trans hf14 (by simp))
    have HY14 := Lib.hid ((HY12.out.keep HN13.out.2.1 (by simp)).keep hf14 (by simp))
    clear hf14 HN13 HD13
    refine run_at (i := 11) (v := ?_) rfl (by kernel_rfl) (by rfl) (fun _ _ _ h => h) hHeld (fun w1 hw1 => ?_) ?_
    rotate_left 1
    · skip
      go_simp
      (try (first | with_reducible rfl | (apply And.intro <;> rfl)))
    simp only [Act.put, List.setIfInBounds_toArray, List.set_cons_zero, List.set_cons_succ]
    refine run_at (i := 12) (v := ?_) rfl (by kernel_rfl) (by rfl) (fun _ _ _ h => h) hHeld (fun w1 hw1 => ?_) ?_
    rotate_left 1
    · skip
      go_simp
      (try (first | with_reducible rfl | (apply And.intro <;> rfl)))
    simp only [Act.put, List.setIfInBounds_toArray, List.set_cons_zero, List.set_cons_succ]
    refine run_at (i := 13) (v := ?_) rfl (by kernel_rfl) (by rfl) (fun _ _ _ h => h) hHeld (fun w1 hw1 => ?_) ?_
    rotate_left 1
    · skip
      go_simp
      (try (first | with_reducible rfl | (apply And.intro <;> rfl)))
    simp only [Act.put, List.setIfInBounds_toArray, List.set_cons_zero, List.set_cons_succ]
    refine run_at (i := 14) (v := ?_) rfl (by kernel_rfl) (by rfl) (fun _ _ _ h => h) hHeld (fun w1 hw1 => ?_) ?_
    rotate_left 1
    · skip
      go_simp
      (try (first | with_reducible rfl | (apply And.intro <;> rfl)))
    simp only [Act.put, List.setIfInBounds_toArray, List.set_cons_zero, List.set_cons_succ]
    refine run_at (i := 16) (v := ?_) rfl (by kernel_rfl) (by rfl) (fun _ _ _ h => h) hHeld (fun w1 hw1 => ?_) ?_
    rotate_left 1
    · skip
      go_simp
      (try (first | with_reducible rfl | (apply And.intro <;> rfl)))
    simp only [Act.put, List.setIfInBounds_toArray, List.set_cons_zero, List.set_cons_succ]
    refine run_at (i := 17) (v := ?_) rfl (by kernel_rfl) (by rfl) (fun _ _ _ h => h) hHeld (fun w1 hw1 => ?_) ?_
    rotate_left 1
    · skip
      go_simp
      (try (first | with_reducible rfl | (apply And.intro <;> rfl)))
    simp only [Act.put, List.setIfInBounds_toArray, List.set_cons_zero, List.set_cons_succ]
    refine run_at (i := 18) (v := ?_) rfl (by kernel_rfl) (by rfl) (fun _ _ _ h => h) hHeld (fun w1 hw1 => ?_) ?_
    rotate_left 1
    · skip
      go_simp
      (try (first | with_reducible rfl | (apply And.intro <;> rfl)))
    simp only [Act.put, List.setIfInBounds_toArray, List.set_cons_zero, List.set_cons_succ]
    refine run_at (i := 19) (v := ?_) rfl (by kernel_rfl) (by rfl) (fun _ _ _ h => h) hHeld (fun w1 hw1 => ?_) ?_
    rotate_left 1
    · skip
      go_simp
      (try (first | with_reducible rfl | (apply And.intro <;> rfl)))
    simp only [Act.put, List.setIfInBounds_toArray, List.set_cons_zero, List.set_cons_succ]
    rw [HMN.out]
    refine call_at (i := 15) (f := ?_) (args := ?_) rfl (by kernel_rfl) (by rfl) ?_ ?_
    rotate_left 2
    · go_simp
      (try (first | with_reducible rfl | (apply And.intro <;> rfl)))
    refine (csynced_any w14 T g rq mq HD14.out).mono ?_
    rintro e_ w15 ⟨rfl, rfl⟩
    refine ⟨_, rfl, hHeld, fun hHeld => ?_⟩
    simp only [Act.put, List.setIfInBounds_toArray, List.set_cons_zero, List.set_cons_succ]
    refine run_at (i := 20) (v := ?_) rfl (by kernel_rfl) (by rfl) (fun _ _ _ h => h) hHeld (fun w1 hw1 => ?_) ?_
    rotate_left 1
    · skip
      go_simp
      (try (first | with_reducible rfl | (apply And.intro <;> rfl)))
    simp only [Act.put, List.setIfInBounds_toArray, List.set_cons_zero, List.set_cons_succ]
    refine run_at (i := 21) (v := ?_) rfl (by kernel_rfl) (by rfl) (fun _ _ _ h => h) hHeld (fun w1 hw1 => ?_) ?_
    rotate_left 1
    · skip
      go_simp
      (try (first | with_reducible rfl | (apply And.intro <;> rfl)))
    simp only [Act.put, List.setIfInBounds_toArray, List.set_cons_zero, List.set_cons_succ]
    refine run_at (i := 22) (v := ?_) rfl (by kernel_rfl) (by rfl) (fun _ _ _ h => h) hHeld (fun w1 hw1 => ?_) ?_
    rotate_left 1
    · skip
      go_simp
      (try (first | with_reducible rfl | (apply And.intro <;> rfl)))
    simp only [Act.put, List.setIfInBounds_toArray, List.set_cons_zero, List.set_cons_succ]
    refine run_at (i := 23) (v := ?_) rfl (by kernel_rfl) (by rfl) (fun _ _ _ h => h) hHeld (fun w1 hw1 => ?_) ?_
    rotate_left 1
    · skip
      go_simp
      (try (first | with_reducible rfl | (apply And.intro <;> rfl)))
    simp only [Act.put, List.setIfInBounds_toArray, List.set_cons_zero, List.set_cons_succ]
    refine run_at (i := 25) (v := ?_) rfl (by kernel_rfl) (by rfl) (fun _ _ _ h => h) hHeld (fun w1 hw1 => ?_) ?_
    rotate_left 1
    · skip
      go_simp
      (try (first | with_reducible rfl | (apply And.intro <;> rfl)))
    simp only [Act.put, List.setIfInBounds_toArray, List.set_cons_zero, List.set_cons_succ]
    refine call_at (i := 24) (f := ?_) (args := ?_) rfl (by kernel_rfl) (by rfl) ?_ ?_
    rotate_left 2
    · go_simp
      (try (first | with_reducible rfl | (apply And.intro <;> rfl)))
    refine (clen_eq w14 T g rq mq q HD14.out HLQ.out).mono ?_
    rintro e_ w15 ⟨rfl, rfl⟩
    refine ⟨_, rfl, hHeld, fun hHeld => ?_⟩
    simp only [Act.put, List.setIfInBounds_toArray, List.set_cons_zero, List.set_cons_succ]
    refine run_at (i := 26) (v := ?_) rfl (by kernel_rfl) (by rfl) (fun _ _ _ h => h) hHeld (fun w1 hw1 => ?_) ?_
    rotate_left 1
    · skip
      go_simp
      (try (first | with_reducible rfl | (apply And.intro <;> rfl)))
    simp only [Act.put, List.setIfInBounds_toArray, List.set_cons_zero, List.set_cons_succ]
    refine run_at (i := 27) (v := ?_) rfl (by kernel_rfl) (by rfl) (fun _ _ _ h => h) hHeld (fun w1 hw1 => ?_) ?_
    rotate_left 1
    · skip
      go_simp
      (try (first | with_reducible rfl | (apply And.intro <;> rfl)))
    simp only [Act.put, List.setIfInBounds_toArray, List.set_cons_zero, List.set_cons_succ]
    refine wpAnyH_done (by kernel_rfl) ?_ _
    clear hHeld hn0 hn1
    go_wp2_with fail
    refine (ccrash_any w14 T g rq mq HD14.out (by rw [HLQ.out]; exact HMQ.out.1) (by rw [HLQ.out]; have := HLN.out; have := HQZ.out; omega) keep HK.out).mono ?_
    rintro e w15 ⟨rfl, hd15, hf15⟩
    have HKN : Hid (keepN rq mq keep ≤ q ∧ mq ≤ keepN rq mq keep) := Lib.hid (by unfold keepN; rw [HLQ.out]; have := HMQ.out.1; omega)
    generalize keepN rq mq keep = K at *
    obtain ⟨rk, hrk⟩ : ∃ rk, rq.take K = rk := ⟨_, rfl⟩
    rw [hrk] at hd15
    have HLK : Hid (rk.length = K) := Lib.hid (by rw [← hrk, List.length_take, HLQ.out]; have := HKN.out; omega)
    have HRK : Hid (rk = r.take K) := Lib.hid (by rw [← hrk, HRQE.out, List.take_take]; congr 1; have := HKN.out; omega)
    have HD15 := Lib.hid hd15
    have HF15 : Hid (Fr [g] w8 w15) := Lib.hid (HF14.out.trans hf15 (fun x hx _ => hx))
    have HY15 := Lib.hid (HY14.out.keep hf15 (fun ad ha hm => by have := HGS8.out.2 ad.block (by simp [bk, ha]); have := HT8.out _ HMEM2.out; simp at hm; omega))
    clear hd15 hf15 hrk HD14 HF14 HY14
    go_wp2_with fail
    refine (cread_eq w15 T g rk K K HD15.out (Nat.le_of_eq HLK.out.symm) HLK.out (by have := HLN.out; have := HQZ.out; have := HKN.out; omega)).mono ?_
    rintro e w16 ⟨A16, c16, rfl, hN16⟩
    have HN16 := Lib.hid hN16
    have HD16 := Lib.hid (HD15.out.keep hN16.2.1 (by simp))
    clear hN16
    have HKC : Hid (K ≤ c8 ∧ K ≤ z) := Lib.hid (by have := HCAP.out; have := HKN.out; have := HQZ.out; omega)
    have hkc := HKC.out.1
    have hkq := HKN.out.1
    have hk0 : (0 : Int) ≤ (K : Int) := by omega
    by_cases hlt : a.length < q
    · have hka : a.length ≤ K := by have := HKN.out; have := HMQ.out.2.2.1 hlt; omega
      go_wp2_with fail
      refine (same_yes A16 A8 K K c16 c8 rk w16 HN16.out.by ((HRK.out ▸ HY15.out.take HKC.out.2 : By w15 A8 K rk).keep HN16.out.2.1 (by simp)) (by have := HLN.out; have := HKC.out; omega)).mono ?_
      rintro e w17 ⟨rfl, hf17⟩
      have HF17 : Hid (Fr [g] w8 w17) := Lib.hid ((HF15.out.trans HN16.out.2.1 (by simp)).trans hf17 (by simp))
      have HD17 := Lib.hid (HD16.out.keep hf17 (by simp))
      clear hf17
      go_wp2_with fail
      refine (csynced_any w17 T g rk K HD17.out).mono ?_
      rintro e w18 ⟨rfl, rfl⟩
      go_wp2_with fail
      refine (dwakes_any w17).mono ?_
      rintro e w18 ⟨rfl, hf18⟩
      have HFIN : Hid (Fr [] w w18) := Lib.hid ((HFR8.out.trans HF17.out (fun x hx hl => by simp at hx; have := HWG.out; omega)).and hf18 (by simp))
      clear hf18 hlt hka hkc hkq hk0
      go_wp2
      all_goals
        go_ret
        exact ⟨rfl, HFIN.out⟩
    · have hka : q ≤ K := by have := HKN.out; have := HMQ.out.2.2.2 hlt; omega
      go_wp2_with fail
      refine (same_yes A16 A8 K K c16 c8 rk w16 HN16.out.by ((HRK.out ▸ HY15.out.take HKC.out.2 : By w15 A8 K rk).keep HN16.out.2.1 (by simp)) (by have := HLN.out; have := HKC.out; omega)).mono ?_
      rintro e w17 ⟨rfl, hf17⟩
      have HF17 : Hid (Fr [g] w8 w17) := Lib.hid ((HF15.out.trans HN16.out.2.1 (by simp)).trans hf17 (by simp))
      have HD17 := Lib.hid (HD16.out.keep hf17 (by simp))
      clear hf17
      go_wp2_with fail
      refine (csynced_any w17 T g rk K HD17.out).mono ?_
      rintro e w18 ⟨rfl, rfl⟩
      go_wp2_with fail
      refine (dwakes_any w17).mono ?_
      rintro e w18 ⟨rfl, hf18⟩
      have HFIN : Hid (Fr [] w w18) := Lib.hid ((HFR8.out.trans HF17.out (fun x hx hl => by simp at hx; have := HWG.out; omega)).and hf18 (by simp))
      clear hf18 hlt hka hkc hkq hk0
      go_wp2
      all_goals
        go_ret
        exact ⟨rfl, HFIN.out⟩
  · have hb1 : bad ≥ 0 := by omega
    have hb2 : bad ≤ (z : Int) := by omega
    have HBD : Hid ((-1 : Int) < 0 ∨ (z : Int) < (-1)) := Lib.hid (by omega)
    clear hb
    go_wp2_with fail
    refine (ccut_bad w8 T g r a.length HD8.out (-1) (by rw [HLR.out]; exact HBD.out)).mono ?_
    rintro e w9 ⟨rfl, rfl⟩
    clear hb1 hb2
    go_wp2_with fail
    refine (cread_any w8 T g r a.length HD8.out (by rw [HLR.out]; exact HZA.out) (by rw [HLR.out]; have := HLN.out; omega)).mono ?_
    rintro e w10 ⟨A10, c10, rfl, hN10⟩
    have HN10 := Lib.hid hN10
    have HD10 := Lib.hid (HD8.out.keep hN10.2.1 (by simp))
    clear hN10
    go_wp2_with fail
    refine (same_yes A10 A8 _ _ c10 c8 r w10 HN10.out.by (HY8.out.keep HN10.out.2.1 (by simp)) (by rw [HLR.out]; have := HLN.out; omega)).mono ?_
    rintro e w11 ⟨rfl, hf11⟩
    have HF11 : Hid (Fr [] w8 w11) := Lib.hid (HN10.out.2.1.and hf11 (by simp))
    have HD11 := Lib.hid (HD10.out.keep hf11 (by simp))
    clear hf11 HN10 HD10
    go_wp2_with fail
    rw [HWZ.out]
    refine (within_pos cut ((z : Int) + 1) HC.out.1 HC.out.2 (by omega) (by have := HLN.out; omega) _).mono ?_
    rintro e w12 ⟨rfl, rfl⟩
    obtain ⟨q, hq, hqz⟩ : ∃ q : Nat, cut % ((z : Int) + 1) = (q : Int) ∧ q ≤ z := ⟨(cut % ((z : Int) + 1)).toNat, by have := HQ.out; omega, by have := HQ.out; omega⟩
    rw [hq]
    clear hq
    have HQZ := Lib.hid hqz
    clear hqz
    go_upto_region 11 with (fail)
    have hn0 : (0 : Int) ≤ (q : Int) := by omega
    have hn1 : q ≤ c8 := by have := HQZ.out; have := HCAP.out; omega
    refine wp_region_held_drew (S := Fr T w11) (by kernel_rfl) (Fr.drew (Fr.refl _ w11)) (fun hHeld => ?_)
    have HD11 : Hid (Dok w11.drew T g (cs r a.length)) := Lib.hid (HD11.out.keep (Fr.drew (Fr.refl [] w11)) (by simp))
    have HF11 : Hid (Fr [] w8 w11.drew) := Lib.hid (Fr.drew HF11.out)
    generalize w11.drew = wd at *
    refine run_at (i := 0) (v := ?_) rfl (by kernel_rfl) (by rfl) (fun _ _ _ h => h) hHeld (fun w1 hw1 => ?_) ?_
    rotate_left 1
    · skip
      go_simp
      (try (first | with_reducible rfl | (apply And.intro <;> rfl)))
    simp only [Act.put, List.setIfInBounds_toArray, List.set_cons_zero, List.set_cons_succ]
    refine run_at (i := 1) (v := ?_) rfl (by kernel_rfl) (by rfl) (fun _ _ _ h => h) hHeld (fun w1 hw1 => ?_) ?_
    rotate_left 1
    · skip
      go_simp
      (try (first | with_reducible rfl | (apply And.intro <;> rfl)))
    simp only [Act.put, List.setIfInBounds_toArray, List.set_cons_zero, List.set_cons_succ]
    refine call_at (i := 2) (f := ?_) (args := ?_) rfl (by kernel_rfl) (by rfl) ?_ ?_
    rotate_left 2
    · go_simp
      (try (first | with_reducible rfl | (apply And.intro <;> rfl)))
    refine (ccut_any wd T g r a.length HD11.out (by rw [HLR.out]; exact HZA.out) (by rw [HLR.out]; have := HLN.out; omega) q (by rw [HLR.out]; exact HQZ.out)).mono ?_
    rintro e_ w12 ⟨rfl, hd12, hf12⟩
    refine ⟨_, rfl, hHeld.trans hf12 (fun x hx _ => by simp at hx; subst hx; exact HMEM2.out), fun hHeld => ?_⟩
    simp only [Act.put, List.setIfInBounds_toArray, List.set_cons_zero, List.set_cons_succ]
    have HLQ : Hid ((r.take q).length = q) := Lib.hid (by rw [List.length_take, HLR.out]; have := HQZ.out; omega)
    have HRQ : Hid (r.take q = r.take q) := Lib.hid rfl
    obtain ⟨rq, hrq⟩ : ∃ rq, r.take q = rq := ⟨_, rfl⟩
    obtain ⟨mq, hmq⟩ : ∃ mq, min a.length q = mq := ⟨_, rfl⟩
    have HMQ : Hid (mq ≤ q ∧ mq ≤ a.length ∧ (a.length < q → mq = a.length) ∧ (¬ a.length < q → mq = q)) := Lib.hid (by omega)
    have HMN : Hid ((if a.length < q then (a.length : Int) else (q : Int)) = (mq : Int)) := Lib.hid (by rw [← hmq]; split <;> omega)
    have HRQE : Hid (rq = r.take q) := Lib.hid hrq.symm
    rw [hrq, hmq] at hd12
    rw [hrq] at HLQ
    have HD12 := Lib.hid hd12
    have HY12 := Lib.hid ((HY8.out.keep HF11.out (by simp)).keep hf12 (fun ad ha hm => by have := HGS8.out.2 ad.block (by simp [bk, ha]); have := HT8.out _ HMEM2.out; simp at hm; omega))
    have HF12 : Hid (Fr [g] w8 w12) := Lib.hid ((HF11.out.mono (T := [g]) (by simp)).trans hf12 (fun x hx _ => hx))
    clear hd12 hf12 hrq hmq HRQ
    refine run_at (i := 3) (v := ?_) rfl (by kernel_rfl) (by rfl) (fun _ _ _ h => h) hHeld (fun w1 hw1 => ?_) ?_
    rotate_left 1
    · skip
      go_simp
      (try (first | with_reducible rfl | (apply And.intro <;> rfl)))
    simp only [Act.put, List.setIfInBounds_toArray, List.set_cons_zero, List.set_cons_succ]
    refine run_at (i := 4) (v := ?_) rfl (by kernel_rfl) (by rfl) (fun _ _ _ h => h) hHeld (fun w1 hw1 => ?_) ?_
    rotate_left 1
    · skip
      go_simp
      (try (first | with_reducible rfl | (apply And.intro <;> rfl)))
    simp only [Act.put, List.setIfInBounds_toArray, List.set_cons_zero, List.set_cons_succ]
    refine run_at (i := 5) (v := ?_) rfl (by kernel_rfl) (by rfl) (fun _ _ _ h => h) hHeld (fun w1 hw1 => ?_) ?_
    rotate_left 1
    · skip
      go_simp
      (try (first | with_reducible rfl | (apply And.intro <;> rfl)))
    simp only [Act.put, List.setIfInBounds_toArray, List.set_cons_zero, List.set_cons_succ]
    refine run_at (i := 7) (v := ?_) rfl (by kernel_rfl) (by rfl) (fun _ _ _ h => h) hHeld (fun w1 hw1 => ?_) ?_
    rotate_left 1
    · skip
      go_simp
      (try (first | with_reducible rfl | (apply And.intro <;> rfl)))
    simp only [Act.put, List.setIfInBounds_toArray, List.set_cons_zero, List.set_cons_succ]
    refine run_at (i := 8) (v := ?_) rfl (by kernel_rfl) (by rfl) (fun _ _ _ h => h) hHeld (fun w1 hw1 => ?_) ?_
    rotate_left 1
    · skip
      go_simp
      (try (first | with_reducible rfl | (apply And.intro <;> rfl)))
    simp only [Act.put, List.setIfInBounds_toArray, List.set_cons_zero, List.set_cons_succ]
    refine run_at (i := 9) (v := ?_) rfl (by kernel_rfl) (by rfl) (fun _ _ _ h => h) hHeld (fun w1 hw1 => ?_) ?_
    rotate_left 1
    · skip
      go_simp
      (try (first | with_reducible rfl | (apply And.intro <;> rfl)))
    simp only [Act.put, List.setIfInBounds_toArray, List.set_cons_zero, List.set_cons_succ]
    refine call_at (i := 6) (f := ?_) (args := ?_) rfl (by kernel_rfl) (by rfl) ?_ ?_
    rotate_left 2
    · go_simp
      (try (first | with_reducible rfl | (apply And.intro <;> rfl)))
    refine (cread_eq w12 T g rq mq q HD12.out (by rw [HLQ.out]; exact HMQ.out.1) HLQ.out (by have := HLN.out; have := HQZ.out; omega)).mono ?_
    rintro e_ w13 ⟨A13, c13, rfl, hN13⟩
    refine ⟨_, rfl, hHeld.trans hN13.2.1 (by simp), fun hHeld => ?_⟩
    simp only [Act.put, List.setIfInBounds_toArray, List.set_cons_zero, List.set_cons_succ]
    have HN13 := Lib.hid hN13
    have HD13 := Lib.hid (HD12.out.keep hN13.2.1 (by simp))
    clear hN13
    refine call_at (i := 10) (f := ?_) (args := ?_) rfl (by kernel_rfl) (by rfl) ?_ ?_
    rotate_left 2
    · go_simp
      (try (first | with_reducible rfl | (apply And.intro <;> rfl)))
    refine (same_yes A13 A8 q q c13 c8 rq w13 HN13.out.by ((HRQE.out ▸ HY12.out.take HQZ.out : By w12 A8 q rq).keep HN13.out.2.1 (by simp)) (by have := HLN.out; have := HQZ.out; omega)).mono ?_
    rintro e_ w14 ⟨rfl, hf14⟩
    refine ⟨_, rfl, hHeld.trans hf14 (by simp), fun hHeld => ?_⟩
    simp only [Act.put, List.setIfInBounds_toArray, List.set_cons_zero, List.set_cons_succ]
    have HD14 := Lib.hid (HD13.out.keep hf14 (by simp))
    have HF14 : Hid (Fr [g] w8 w14) := Lib.hid ((HF12.out.trans HN13.out.2.1 (by simp)).trans hf14 (by simp))
    have HY14 := Lib.hid ((HY12.out.keep HN13.out.2.1 (by simp)).keep hf14 (by simp))
    clear hf14 HN13 HD13
    refine run_at (i := 11) (v := ?_) rfl (by kernel_rfl) (by rfl) (fun _ _ _ h => h) hHeld (fun w1 hw1 => ?_) ?_
    rotate_left 1
    · skip
      go_simp
      (try (first | with_reducible rfl | (apply And.intro <;> rfl)))
    simp only [Act.put, List.setIfInBounds_toArray, List.set_cons_zero, List.set_cons_succ]
    refine run_at (i := 12) (v := ?_) rfl (by kernel_rfl) (by rfl) (fun _ _ _ h => h) hHeld (fun w1 hw1 => ?_) ?_
    rotate_left 1
    · skip
      go_simp
      (try (first | with_reducible rfl | (apply And.intro <;> rfl)))
    simp only [Act.put, List.setIfInBounds_toArray, List.set_cons_zero, List.set_cons_succ]
    refine run_at (i := 13) (v := ?_) rfl (by kernel_rfl) (by rfl) (fun _ _ _ h => h) hHeld (fun w1 hw1 => ?_) ?_
    rotate_left 1
    · skip
      go_simp
      (try (first | with_reducible rfl | (apply And.intro <;> rfl)))
    simp only [Act.put, List.setIfInBounds_toArray, List.set_cons_zero, List.set_cons_succ]
    refine run_at (i := 14) (v := ?_) rfl (by kernel_rfl) (by rfl) (fun _ _ _ h => h) hHeld (fun w1 hw1 => ?_) ?_
    rotate_left 1
    · skip
      go_simp
      (try (first | with_reducible rfl | (apply And.intro <;> rfl)))
    simp only [Act.put, List.setIfInBounds_toArray, List.set_cons_zero, List.set_cons_succ]
    refine run_at (i := 16) (v := ?_) rfl (by kernel_rfl) (by rfl) (fun _ _ _ h => h) hHeld (fun w1 hw1 => ?_) ?_
    rotate_left 1
    · skip
      go_simp
      (try (first | with_reducible rfl | (apply And.intro <;> rfl)))
    simp only [Act.put, List.setIfInBounds_toArray, List.set_cons_zero, List.set_cons_succ]
    refine run_at (i := 17) (v := ?_) rfl (by kernel_rfl) (by rfl) (fun _ _ _ h => h) hHeld (fun w1 hw1 => ?_) ?_
    rotate_left 1
    · skip
      go_simp
      (try (first | with_reducible rfl | (apply And.intro <;> rfl)))
    simp only [Act.put, List.setIfInBounds_toArray, List.set_cons_zero, List.set_cons_succ]
    refine run_at (i := 18) (v := ?_) rfl (by kernel_rfl) (by rfl) (fun _ _ _ h => h) hHeld (fun w1 hw1 => ?_) ?_
    rotate_left 1
    · skip
      go_simp
      (try (first | with_reducible rfl | (apply And.intro <;> rfl)))
    simp only [Act.put, List.setIfInBounds_toArray, List.set_cons_zero, List.set_cons_succ]
    refine run_at (i := 19) (v := ?_) rfl (by kernel_rfl) (by rfl) (fun _ _ _ h => h) hHeld (fun w1 hw1 => ?_) ?_
    rotate_left 1
    · skip
      go_simp
      (try (first | with_reducible rfl | (apply And.intro <;> rfl)))
    simp only [Act.put, List.setIfInBounds_toArray, List.set_cons_zero, List.set_cons_succ]
    rw [HMN.out]
    refine call_at (i := 15) (f := ?_) (args := ?_) rfl (by kernel_rfl) (by rfl) ?_ ?_
    rotate_left 2
    · go_simp
      (try (first | with_reducible rfl | (apply And.intro <;> rfl)))
    refine (csynced_any w14 T g rq mq HD14.out).mono ?_
    rintro e_ w15 ⟨rfl, rfl⟩
    refine ⟨_, rfl, hHeld, fun hHeld => ?_⟩
    simp only [Act.put, List.setIfInBounds_toArray, List.set_cons_zero, List.set_cons_succ]
    refine run_at (i := 20) (v := ?_) rfl (by kernel_rfl) (by rfl) (fun _ _ _ h => h) hHeld (fun w1 hw1 => ?_) ?_
    rotate_left 1
    · skip
      go_simp
      (try (first | with_reducible rfl | (apply And.intro <;> rfl)))
    simp only [Act.put, List.setIfInBounds_toArray, List.set_cons_zero, List.set_cons_succ]
    refine run_at (i := 21) (v := ?_) rfl (by kernel_rfl) (by rfl) (fun _ _ _ h => h) hHeld (fun w1 hw1 => ?_) ?_
    rotate_left 1
    · skip
      go_simp
      (try (first | with_reducible rfl | (apply And.intro <;> rfl)))
    simp only [Act.put, List.setIfInBounds_toArray, List.set_cons_zero, List.set_cons_succ]
    refine run_at (i := 22) (v := ?_) rfl (by kernel_rfl) (by rfl) (fun _ _ _ h => h) hHeld (fun w1 hw1 => ?_) ?_
    rotate_left 1
    · skip
      go_simp
      (try (first | with_reducible rfl | (apply And.intro <;> rfl)))
    simp only [Act.put, List.setIfInBounds_toArray, List.set_cons_zero, List.set_cons_succ]
    refine run_at (i := 23) (v := ?_) rfl (by kernel_rfl) (by rfl) (fun _ _ _ h => h) hHeld (fun w1 hw1 => ?_) ?_
    rotate_left 1
    · skip
      go_simp
      (try (first | with_reducible rfl | (apply And.intro <;> rfl)))
    simp only [Act.put, List.setIfInBounds_toArray, List.set_cons_zero, List.set_cons_succ]
    refine run_at (i := 25) (v := ?_) rfl (by kernel_rfl) (by rfl) (fun _ _ _ h => h) hHeld (fun w1 hw1 => ?_) ?_
    rotate_left 1
    · skip
      go_simp
      (try (first | with_reducible rfl | (apply And.intro <;> rfl)))
    simp only [Act.put, List.setIfInBounds_toArray, List.set_cons_zero, List.set_cons_succ]
    refine call_at (i := 24) (f := ?_) (args := ?_) rfl (by kernel_rfl) (by rfl) ?_ ?_
    rotate_left 2
    · go_simp
      (try (first | with_reducible rfl | (apply And.intro <;> rfl)))
    refine (clen_eq w14 T g rq mq q HD14.out HLQ.out).mono ?_
    rintro e_ w15 ⟨rfl, rfl⟩
    refine ⟨_, rfl, hHeld, fun hHeld => ?_⟩
    simp only [Act.put, List.setIfInBounds_toArray, List.set_cons_zero, List.set_cons_succ]
    refine run_at (i := 26) (v := ?_) rfl (by kernel_rfl) (by rfl) (fun _ _ _ h => h) hHeld (fun w1 hw1 => ?_) ?_
    rotate_left 1
    · skip
      go_simp
      (try (first | with_reducible rfl | (apply And.intro <;> rfl)))
    simp only [Act.put, List.setIfInBounds_toArray, List.set_cons_zero, List.set_cons_succ]
    refine run_at (i := 27) (v := ?_) rfl (by kernel_rfl) (by rfl) (fun _ _ _ h => h) hHeld (fun w1 hw1 => ?_) ?_
    rotate_left 1
    · skip
      go_simp
      (try (first | with_reducible rfl | (apply And.intro <;> rfl)))
    simp only [Act.put, List.setIfInBounds_toArray, List.set_cons_zero, List.set_cons_succ]
    refine wpAnyH_done (by kernel_rfl) ?_ _
    clear hHeld hn0 hn1
    go_wp2_with fail
    refine (ccrash_any w14 T g rq mq HD14.out (by rw [HLQ.out]; exact HMQ.out.1) (by rw [HLQ.out]; have := HLN.out; have := HQZ.out; omega) keep HK.out).mono ?_
    rintro e w15 ⟨rfl, hd15, hf15⟩
    have HKN : Hid (keepN rq mq keep ≤ q ∧ mq ≤ keepN rq mq keep) := Lib.hid (by unfold keepN; rw [HLQ.out]; have := HMQ.out.1; omega)
    generalize keepN rq mq keep = K at *
    obtain ⟨rk, hrk⟩ : ∃ rk, rq.take K = rk := ⟨_, rfl⟩
    rw [hrk] at hd15
    have HLK : Hid (rk.length = K) := Lib.hid (by rw [← hrk, List.length_take, HLQ.out]; have := HKN.out; omega)
    have HRK : Hid (rk = r.take K) := Lib.hid (by rw [← hrk, HRQE.out, List.take_take]; congr 1; have := HKN.out; omega)
    have HD15 := Lib.hid hd15
    have HF15 : Hid (Fr [g] w8 w15) := Lib.hid (HF14.out.trans hf15 (fun x hx _ => hx))
    have HY15 := Lib.hid (HY14.out.keep hf15 (fun ad ha hm => by have := HGS8.out.2 ad.block (by simp [bk, ha]); have := HT8.out _ HMEM2.out; simp at hm; omega))
    clear hd15 hf15 hrk HD14 HF14 HY14
    go_wp2_with fail
    refine (cread_eq w15 T g rk K K HD15.out (Nat.le_of_eq HLK.out.symm) HLK.out (by have := HLN.out; have := HQZ.out; have := HKN.out; omega)).mono ?_
    rintro e w16 ⟨A16, c16, rfl, hN16⟩
    have HN16 := Lib.hid hN16
    have HD16 := Lib.hid (HD15.out.keep hN16.2.1 (by simp))
    clear hN16
    have HKC : Hid (K ≤ c8 ∧ K ≤ z) := Lib.hid (by have := HCAP.out; have := HKN.out; have := HQZ.out; omega)
    have hkc := HKC.out.1
    have hkq := HKN.out.1
    have hk0 : (0 : Int) ≤ (K : Int) := by omega
    by_cases hlt : a.length < q
    · have hka : a.length ≤ K := by have := HKN.out; have := HMQ.out.2.2.1 hlt; omega
      go_wp2_with fail
      refine (same_yes A16 A8 K K c16 c8 rk w16 HN16.out.by ((HRK.out ▸ HY15.out.take HKC.out.2 : By w15 A8 K rk).keep HN16.out.2.1 (by simp)) (by have := HLN.out; have := HKC.out; omega)).mono ?_
      rintro e w17 ⟨rfl, hf17⟩
      have HF17 : Hid (Fr [g] w8 w17) := Lib.hid ((HF15.out.trans HN16.out.2.1 (by simp)).trans hf17 (by simp))
      have HD17 := Lib.hid (HD16.out.keep hf17 (by simp))
      clear hf17
      go_wp2_with fail
      refine (csynced_any w17 T g rk K HD17.out).mono ?_
      rintro e w18 ⟨rfl, rfl⟩
      go_wp2_with fail
      refine (dwakes_any w17).mono ?_
      rintro e w18 ⟨rfl, hf18⟩
      have HFIN : Hid (Fr [] w w18) := Lib.hid ((HFR8.out.trans HF17.out (fun x hx hl => by simp at hx; have := HWG.out; omega)).and hf18 (by simp))
      clear hf18 hlt hka hkc hkq hk0
      go_wp2
      all_goals
        go_ret
        exact ⟨rfl, HFIN.out⟩
    · have hka : q ≤ K := by have := HKN.out; have := HMQ.out.2.2.2 hlt; omega
      go_wp2_with fail
      refine (same_yes A16 A8 K K c16 c8 rk w16 HN16.out.by ((HRK.out ▸ HY15.out.take HKC.out.2 : By w15 A8 K rk).keep HN16.out.2.1 (by simp)) (by have := HLN.out; have := HKC.out; omega)).mono ?_
      rintro e w17 ⟨rfl, hf17⟩
      have HF17 : Hid (Fr [g] w8 w17) := Lib.hid ((HF15.out.trans HN16.out.2.1 (by simp)).trans hf17 (by simp))
      have HD17 := Lib.hid (HD16.out.keep hf17 (by simp))
      clear hf17
      go_wp2_with fail
      refine (csynced_any w17 T g rk K HD17.out).mono ?_
      rintro e w18 ⟨rfl, rfl⟩
      go_wp2_with fail
      refine (dwakes_any w17).mono ?_
      rintro e w18 ⟨rfl, hf18⟩
      have HFIN : Hid (Fr [] w w18) := Lib.hid ((HFR8.out.trans HF17.out (fun x hx hl => by simp at hx; have := HWG.out; omega)).and hf18 (by simp))
      clear hf18 hlt hka hkc hkq hk0
      go_wp2
      all_goals
        go_ret
        exact ⟨rfl, HFIN.out⟩
  · have hb1 : bad ≥ 0 := by omega
    have hb2 : ¬ bad ≤ (z : Int) := by omega
    have HBD : Hid ((bad : Int) < 0 ∨ (z : Int) < (bad)) := Lib.hid (by omega)
    clear hb
    go_wp2_with fail
    refine (ccut_bad w8 T g r a.length HD8.out (bad) (by rw [HLR.out]; exact HBD.out)).mono ?_
    rintro e w9 ⟨rfl, rfl⟩
    clear hb1 hb2
    go_wp2_with fail
    refine (cread_any w8 T g r a.length HD8.out (by rw [HLR.out]; exact HZA.out) (by rw [HLR.out]; have := HLN.out; omega)).mono ?_
    rintro e w10 ⟨A10, c10, rfl, hN10⟩
    have HN10 := Lib.hid hN10
    have HD10 := Lib.hid (HD8.out.keep hN10.2.1 (by simp))
    clear hN10
    go_wp2_with fail
    refine (same_yes A10 A8 _ _ c10 c8 r w10 HN10.out.by (HY8.out.keep HN10.out.2.1 (by simp)) (by rw [HLR.out]; have := HLN.out; omega)).mono ?_
    rintro e w11 ⟨rfl, hf11⟩
    have HF11 : Hid (Fr [] w8 w11) := Lib.hid (HN10.out.2.1.and hf11 (by simp))
    have HD11 := Lib.hid (HD10.out.keep hf11 (by simp))
    clear hf11 HN10 HD10
    go_wp2_with fail
    rw [HWZ.out]
    refine (within_pos cut ((z : Int) + 1) HC.out.1 HC.out.2 (by omega) (by have := HLN.out; omega) _).mono ?_
    rintro e w12 ⟨rfl, rfl⟩
    obtain ⟨q, hq, hqz⟩ : ∃ q : Nat, cut % ((z : Int) + 1) = (q : Int) ∧ q ≤ z := ⟨(cut % ((z : Int) + 1)).toNat, by have := HQ.out; omega, by have := HQ.out; omega⟩
    rw [hq]
    clear hq
    have HQZ := Lib.hid hqz
    clear hqz
    go_upto_region 11 with (fail)
    have hn0 : (0 : Int) ≤ (q : Int) := by omega
    have hn1 : q ≤ c8 := by have := HQZ.out; have := HCAP.out; omega
    refine wp_region_held_drew (S := Fr T w11) (by kernel_rfl) (Fr.drew (Fr.refl _ w11)) (fun hHeld => ?_)
    have HD11 : Hid (Dok w11.drew T g (cs r a.length)) := Lib.hid (HD11.out.keep (Fr.drew (Fr.refl [] w11)) (by simp))
    have HF11 : Hid (Fr [] w8 w11.drew) := Lib.hid (Fr.drew HF11.out)
    generalize w11.drew = wd at *
    refine run_at (i := 0) (v := ?_) rfl (by kernel_rfl) (by rfl) (fun _ _ _ h => h) hHeld (fun w1 hw1 => ?_) ?_
    rotate_left 1
    · skip
      go_simp
      (try (first | with_reducible rfl | (apply And.intro <;> rfl)))
    simp only [Act.put, List.setIfInBounds_toArray, List.set_cons_zero, List.set_cons_succ]
    refine run_at (i := 1) (v := ?_) rfl (by kernel_rfl) (by rfl) (fun _ _ _ h => h) hHeld (fun w1 hw1 => ?_) ?_
    rotate_left 1
    · skip
      go_simp
      (try (first | with_reducible rfl | (apply And.intro <;> rfl)))
    simp only [Act.put, List.setIfInBounds_toArray, List.set_cons_zero, List.set_cons_succ]
    refine call_at (i := 2) (f := ?_) (args := ?_) rfl (by kernel_rfl) (by rfl) ?_ ?_
    rotate_left 2
    · go_simp
      (try (first | with_reducible rfl | (apply And.intro <;> rfl)))
    refine (ccut_any wd T g r a.length HD11.out (by rw [HLR.out]; exact HZA.out) (by rw [HLR.out]; have := HLN.out; omega) q (by rw [HLR.out]; exact HQZ.out)).mono ?_
    rintro e_ w12 ⟨rfl, hd12, hf12⟩
    refine ⟨_, rfl, hHeld.trans hf12 (fun x hx _ => by simp at hx; subst hx; exact HMEM2.out), fun hHeld => ?_⟩
    simp only [Act.put, List.setIfInBounds_toArray, List.set_cons_zero, List.set_cons_succ]
    have HLQ : Hid ((r.take q).length = q) := Lib.hid (by rw [List.length_take, HLR.out]; have := HQZ.out; omega)
    have HRQ : Hid (r.take q = r.take q) := Lib.hid rfl
    obtain ⟨rq, hrq⟩ : ∃ rq, r.take q = rq := ⟨_, rfl⟩
    obtain ⟨mq, hmq⟩ : ∃ mq, min a.length q = mq := ⟨_, rfl⟩
    have HMQ : Hid (mq ≤ q ∧ mq ≤ a.length ∧ (a.length < q → mq = a.length) ∧ (¬ a.length < q → mq = q)) := Lib.hid (by omega)
    have HMN : Hid ((if a.length < q then (a.length : Int) else (q : Int)) = (mq : Int)) := Lib.hid (by rw [← hmq]; split <;> omega)
    have HRQE : Hid (rq = r.take q) := Lib.hid hrq.symm
    rw [hrq, hmq] at hd12
    rw [hrq] at HLQ
    have HD12 := Lib.hid hd12
    have HY12 := Lib.hid ((HY8.out.keep HF11.out (by simp)).keep hf12 (fun ad ha hm => by have := HGS8.out.2 ad.block (by simp [bk, ha]); have := HT8.out _ HMEM2.out; simp at hm; omega))
    have HF12 : Hid (Fr [g] w8 w12) := Lib.hid ((HF11.out.mono (T := [g]) (by simp)).trans hf12 (fun x hx _ => hx))
    clear hd12 hf12 hrq hmq HRQ
    refine run_at (i := 3) (v := ?_) rfl (by kernel_rfl) (by rfl) (fun _ _ _ h => h) hHeld (fun w1 hw1 => ?_) ?_
    rotate_left 1
    · skip
      go_simp
      (try (first | with_reducible rfl | (apply And.intro <;> rfl)))
    simp only [Act.put, List.setIfInBounds_toArray, List.set_cons_zero, List.set_cons_succ]
    refine run_at (i := 4) (v := ?_) rfl (by kernel_rfl) (by rfl) (fun _ _ _ h => h) hHeld (fun w1 hw1 => ?_) ?_
    rotate_left 1
    · skip
      go_simp
      (try (first | with_reducible rfl | (apply And.intro <;> rfl)))
    simp only [Act.put, List.setIfInBounds_toArray, List.set_cons_zero, List.set_cons_succ]
    refine run_at (i := 5) (v := ?_) rfl (by kernel_rfl) (by rfl) (fun _ _ _ h => h) hHeld (fun w1 hw1 => ?_) ?_
    rotate_left 1
    · skip
      go_simp
      (try (first | with_reducible rfl | (apply And.intro <;> rfl)))
    simp only [Act.put, List.setIfInBounds_toArray, List.set_cons_zero, List.set_cons_succ]
    refine run_at (i := 7) (v := ?_) rfl (by kernel_rfl) (by rfl) (fun _ _ _ h => h) hHeld (fun w1 hw1 => ?_) ?_
    rotate_left 1
    · skip
      go_simp
      (try (first | with_reducible rfl | (apply And.intro <;> rfl)))
    simp only [Act.put, List.setIfInBounds_toArray, List.set_cons_zero, List.set_cons_succ]
    refine run_at (i := 8) (v := ?_) rfl (by kernel_rfl) (by rfl) (fun _ _ _ h => h) hHeld (fun w1 hw1 => ?_) ?_
    rotate_left 1
    · skip
      go_simp
      (try (first | with_reducible rfl | (apply And.intro <;> rfl)))
    simp only [Act.put, List.setIfInBounds_toArray, List.set_cons_zero, List.set_cons_succ]
    refine run_at (i := 9) (v := ?_) rfl (by kernel_rfl) (by rfl) (fun _ _ _ h => h) hHeld (fun w1 hw1 => ?_) ?_
    rotate_left 1
    · skip
      go_simp
      (try (first | with_reducible rfl | (apply And.intro <;> rfl)))
    simp only [Act.put, List.setIfInBounds_toArray, List.set_cons_zero, List.set_cons_succ]
    refine call_at (i := 6) (f := ?_) (args := ?_) rfl (by kernel_rfl) (by rfl) ?_ ?_
    rotate_left 2
    · go_simp
      (try (first | with_reducible rfl | (apply And.intro <;> rfl)))
    refine (cread_eq w12 T g rq mq q HD12.out (by rw [HLQ.out]; exact HMQ.out.1) HLQ.out (by have := HLN.out; have := HQZ.out; omega)).mono ?_
    rintro e_ w13 ⟨A13, c13, rfl, hN13⟩
    refine ⟨_, rfl, hHeld.trans hN13.2.1 (by simp), fun hHeld => ?_⟩
    simp only [Act.put, List.setIfInBounds_toArray, List.set_cons_zero, List.set_cons_succ]
    have HN13 := Lib.hid hN13
    have HD13 := Lib.hid (HD12.out.keep hN13.2.1 (by simp))
    clear hN13
    refine call_at (i := 10) (f := ?_) (args := ?_) rfl (by kernel_rfl) (by rfl) ?_ ?_
    rotate_left 2
    · go_simp
      (try (first | with_reducible rfl | (apply And.intro <;> rfl)))
    refine (same_yes A13 A8 q q c13 c8 rq w13 HN13.out.by ((HRQE.out ▸ HY12.out.take HQZ.out : By w12 A8 q rq).keep HN13.out.2.1 (by simp)) (by have := HLN.out; have := HQZ.out; omega)).mono ?_
    rintro e_ w14 ⟨rfl, hf14⟩
    refine ⟨_, rfl, hHeld.trans hf14 (by simp), fun hHeld => ?_⟩
    simp only [Act.put, List.setIfInBounds_toArray, List.set_cons_zero, List.set_cons_succ]
    have HD14 := Lib.hid (HD13.out.keep hf14 (by simp))
    have HF14 : Hid (Fr [g] w8 w14) := Lib.hid ((HF12.out.trans HN13.out.2.1 (by simp)).trans hf14 (by simp))
    have HY14 := Lib.hid ((HY12.out.keep HN13.out.2.1 (by simp)).keep hf14 (by simp))
    clear hf14 HN13 HD13
    refine run_at (i := 11) (v := ?_) rfl (by kernel_rfl) (by rfl) (fun _ _ _ h => h) hHeld (fun w1 hw1 => ?_) ?_
    rotate_left 1
    · skip
      go_simp
      (try (first | with_reducible rfl | (apply And.intro <;> rfl)))
    simp only [Act.put, List.setIfInBounds_toArray, List.set_cons_zero, List.set_cons_succ]
    refine run_at (i := 12) (v := ?_) rfl (by kernel_rfl) (by rfl) (fun _ _ _ h => h) hHeld (fun w1 hw1 => ?_) ?_
    rotate_left 1
    · skip
      go_simp
      (try (first | with_reducible rfl | (apply And.intro <;> rfl)))
    simp only [Act.put, List.setIfInBounds_toArray, List.set_cons_zero, List.set_cons_succ]
    refine run_at (i := 13) (v := ?_) rfl (by kernel_rfl) (by rfl) (fun _ _ _ h => h) hHeld (fun w1 hw1 => ?_) ?_
    rotate_left 1
    · skip
      go_simp
      (try (first | with_reducible rfl | (apply And.intro <;> rfl)))
    simp only [Act.put, List.setIfInBounds_toArray, List.set_cons_zero, List.set_cons_succ]
    refine run_at (i := 14) (v := ?_) rfl (by kernel_rfl) (by rfl) (fun _ _ _ h => h) hHeld (fun w1 hw1 => ?_) ?_
    rotate_left 1
    · skip
      go_simp
      (try (first | with_reducible rfl | (apply And.intro <;> rfl)))
    simp only [Act.put, List.setIfInBounds_toArray, List.set_cons_zero, List.set_cons_succ]
    refine run_at (i := 16) (v := ?_) rfl (by kernel_rfl) (by rfl) (fun _ _ _ h => h) hHeld (fun w1 hw1 => ?_) ?_
    rotate_left 1
    · skip
      go_simp
      (try (first | with_reducible rfl | (apply And.intro <;> rfl)))
    simp only [Act.put, List.setIfInBounds_toArray, List.set_cons_zero, List.set_cons_succ]
    refine run_at (i := 17) (v := ?_) rfl (by kernel_rfl) (by rfl) (fun _ _ _ h => h) hHeld (fun w1 hw1 => ?_) ?_
    rotate_left 1
    · skip
      go_simp
      (try (first | with_reducible rfl | (apply And.intro <;> rfl)))
    simp only [Act.put, List.setIfInBounds_toArray, List.set_cons_zero, List.set_cons_succ]
    refine run_at (i := 18) (v := ?_) rfl (by kernel_rfl) (by rfl) (fun _ _ _ h => h) hHeld (fun w1 hw1 => ?_) ?_
    rotate_left 1
    · skip
      go_simp
      (try (first | with_reducible rfl | (apply And.intro <;> rfl)))
    simp only [Act.put, List.setIfInBounds_toArray, List.set_cons_zero, List.set_cons_succ]
    refine run_at (i := 19) (v := ?_) rfl (by kernel_rfl) (by rfl) (fun _ _ _ h => h) hHeld (fun w1 hw1 => ?_) ?_
    rotate_left 1
    · skip
      go_simp
      (try (first | with_reducible rfl | (apply And.intro <;> rfl)))
    simp only [Act.put, List.setIfInBounds_toArray, List.set_cons_zero, List.set_cons_succ]
    rw [HMN.out]
    refine call_at (i := 15) (f := ?_) (args := ?_) rfl (by kernel_rfl) (by rfl) ?_ ?_
    rotate_left 2
    · go_simp
      (try (first | with_reducible rfl | (apply And.intro <;> rfl)))
    refine (csynced_any w14 T g rq mq HD14.out).mono ?_
    rintro e_ w15 ⟨rfl, rfl⟩
    refine ⟨_, rfl, hHeld, fun hHeld => ?_⟩
    simp only [Act.put, List.setIfInBounds_toArray, List.set_cons_zero, List.set_cons_succ]
    refine run_at (i := 20) (v := ?_) rfl (by kernel_rfl) (by rfl) (fun _ _ _ h => h) hHeld (fun w1 hw1 => ?_) ?_
    rotate_left 1
    · skip
      go_simp
      (try (first | with_reducible rfl | (apply And.intro <;> rfl)))
    simp only [Act.put, List.setIfInBounds_toArray, List.set_cons_zero, List.set_cons_succ]
    refine run_at (i := 21) (v := ?_) rfl (by kernel_rfl) (by rfl) (fun _ _ _ h => h) hHeld (fun w1 hw1 => ?_) ?_
    rotate_left 1
    · skip
      go_simp
      (try (first | with_reducible rfl | (apply And.intro <;> rfl)))
    simp only [Act.put, List.setIfInBounds_toArray, List.set_cons_zero, List.set_cons_succ]
    refine run_at (i := 22) (v := ?_) rfl (by kernel_rfl) (by rfl) (fun _ _ _ h => h) hHeld (fun w1 hw1 => ?_) ?_
    rotate_left 1
    · skip
      go_simp
      (try (first | with_reducible rfl | (apply And.intro <;> rfl)))
    simp only [Act.put, List.setIfInBounds_toArray, List.set_cons_zero, List.set_cons_succ]
    refine run_at (i := 23) (v := ?_) rfl (by kernel_rfl) (by rfl) (fun _ _ _ h => h) hHeld (fun w1 hw1 => ?_) ?_
    rotate_left 1
    · skip
      go_simp
      (try (first | with_reducible rfl | (apply And.intro <;> rfl)))
    simp only [Act.put, List.setIfInBounds_toArray, List.set_cons_zero, List.set_cons_succ]
    refine run_at (i := 25) (v := ?_) rfl (by kernel_rfl) (by rfl) (fun _ _ _ h => h) hHeld (fun w1 hw1 => ?_) ?_
    rotate_left 1
    · skip
      go_simp
      (try (first | with_reducible rfl | (apply And.intro <;> rfl)))
    simp only [Act.put, List.setIfInBounds_toArray, List.set_cons_zero, List.set_cons_succ]
    refine call_at (i := 24) (f := ?_) (args := ?_) rfl (by kernel_rfl) (by rfl) ?_ ?_
    rotate_left 2
    · go_simp
      (try (first | with_reducible rfl | (apply And.intro <;> rfl)))
    refine (clen_eq w14 T g rq mq q HD14.out HLQ.out).mono ?_
    rintro e_ w15 ⟨rfl, rfl⟩
    refine ⟨_, rfl, hHeld, fun hHeld => ?_⟩
    simp only [Act.put, List.setIfInBounds_toArray, List.set_cons_zero, List.set_cons_succ]
    refine run_at (i := 26) (v := ?_) rfl (by kernel_rfl) (by rfl) (fun _ _ _ h => h) hHeld (fun w1 hw1 => ?_) ?_
    rotate_left 1
    · skip
      go_simp
      (try (first | with_reducible rfl | (apply And.intro <;> rfl)))
    simp only [Act.put, List.setIfInBounds_toArray, List.set_cons_zero, List.set_cons_succ]
    refine run_at (i := 27) (v := ?_) rfl (by kernel_rfl) (by rfl) (fun _ _ _ h => h) hHeld (fun w1 hw1 => ?_) ?_
    rotate_left 1
    · skip
      go_simp
      (try (first | with_reducible rfl | (apply And.intro <;> rfl)))
    simp only [Act.put, List.setIfInBounds_toArray, List.set_cons_zero, List.set_cons_succ]
    refine wpAnyH_done (by kernel_rfl) ?_ _
    clear hHeld hn0 hn1
    go_wp2_with fail
    refine (ccrash_any w14 T g rq mq HD14.out (by rw [HLQ.out]; exact HMQ.out.1) (by rw [HLQ.out]; have := HLN.out; have := HQZ.out; omega) keep HK.out).mono ?_
    rintro e w15 ⟨rfl, hd15, hf15⟩
    have HKN : Hid (keepN rq mq keep ≤ q ∧ mq ≤ keepN rq mq keep) := Lib.hid (by unfold keepN; rw [HLQ.out]; have := HMQ.out.1; omega)
    generalize keepN rq mq keep = K at *
    obtain ⟨rk, hrk⟩ : ∃ rk, rq.take K = rk := ⟨_, rfl⟩
    rw [hrk] at hd15
    have HLK : Hid (rk.length = K) := Lib.hid (by rw [← hrk, List.length_take, HLQ.out]; have := HKN.out; omega)
    have HRK : Hid (rk = r.take K) := Lib.hid (by rw [← hrk, HRQE.out, List.take_take]; congr 1; have := HKN.out; omega)
    have HD15 := Lib.hid hd15
    have HF15 : Hid (Fr [g] w8 w15) := Lib.hid (HF14.out.trans hf15 (fun x hx _ => hx))
    have HY15 := Lib.hid (HY14.out.keep hf15 (fun ad ha hm => by have := HGS8.out.2 ad.block (by simp [bk, ha]); have := HT8.out _ HMEM2.out; simp at hm; omega))
    clear hd15 hf15 hrk HD14 HF14 HY14
    go_wp2_with fail
    refine (cread_eq w15 T g rk K K HD15.out (Nat.le_of_eq HLK.out.symm) HLK.out (by have := HLN.out; have := HQZ.out; have := HKN.out; omega)).mono ?_
    rintro e w16 ⟨A16, c16, rfl, hN16⟩
    have HN16 := Lib.hid hN16
    have HD16 := Lib.hid (HD15.out.keep hN16.2.1 (by simp))
    clear hN16
    have HKC : Hid (K ≤ c8 ∧ K ≤ z) := Lib.hid (by have := HCAP.out; have := HKN.out; have := HQZ.out; omega)
    have hkc := HKC.out.1
    have hkq := HKN.out.1
    have hk0 : (0 : Int) ≤ (K : Int) := by omega
    by_cases hlt : a.length < q
    · have hka : a.length ≤ K := by have := HKN.out; have := HMQ.out.2.2.1 hlt; omega
      go_wp2_with fail
      refine (same_yes A16 A8 K K c16 c8 rk w16 HN16.out.by ((HRK.out ▸ HY15.out.take HKC.out.2 : By w15 A8 K rk).keep HN16.out.2.1 (by simp)) (by have := HLN.out; have := HKC.out; omega)).mono ?_
      rintro e w17 ⟨rfl, hf17⟩
      have HF17 : Hid (Fr [g] w8 w17) := Lib.hid ((HF15.out.trans HN16.out.2.1 (by simp)).trans hf17 (by simp))
      have HD17 := Lib.hid (HD16.out.keep hf17 (by simp))
      clear hf17
      go_wp2_with fail
      refine (csynced_any w17 T g rk K HD17.out).mono ?_
      rintro e w18 ⟨rfl, rfl⟩
      go_wp2_with fail
      refine (dwakes_any w17).mono ?_
      rintro e w18 ⟨rfl, hf18⟩
      have HFIN : Hid (Fr [] w w18) := Lib.hid ((HFR8.out.trans HF17.out (fun x hx hl => by simp at hx; have := HWG.out; omega)).and hf18 (by simp))
      clear hf18 hlt hka hkc hkq hk0
      go_wp2
      all_goals
        go_ret
        exact ⟨rfl, HFIN.out⟩
    · have hka : q ≤ K := by have := HKN.out; have := HMQ.out.2.2.2 hlt; omega
      go_wp2_with fail
      refine (same_yes A16 A8 K K c16 c8 rk w16 HN16.out.by ((HRK.out ▸ HY15.out.take HKC.out.2 : By w15 A8 K rk).keep HN16.out.2.1 (by simp)) (by have := HLN.out; have := HKC.out; omega)).mono ?_
      rintro e w17 ⟨rfl, hf17⟩
      have HF17 : Hid (Fr [g] w8 w17) := Lib.hid ((HF15.out.trans HN16.out.2.1 (by simp)).trans hf17 (by simp))
      have HD17 := Lib.hid (HD16.out.keep hf17 (by simp))
      clear hf17
      go_wp2_with fail
      refine (csynced_any w17 T g rk K HD17.out).mono ?_
      rintro e w18 ⟨rfl, rfl⟩
      go_wp2_with fail
      refine (dwakes_any w17).mono ?_
      rintro e w18 ⟨rfl, hf18⟩
      have HFIN : Hid (Fr [] w w18) := Lib.hid ((HFR8.out.trans HF17.out (fun x hx hl => by simp at hx; have := HWG.out; omega)).and hf18 (by simp))
      clear hf18 hlt hka hkc hkq hk0
      go_wp2
      all_goals
        go_ret
        exact ⟨rfl, HFIN.out⟩
end Go.Proofs.Ytjpmiigoglcoaaa
