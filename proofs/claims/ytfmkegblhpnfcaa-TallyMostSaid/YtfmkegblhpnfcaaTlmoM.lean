/- gavellaw13.TallyMost, walked. -/
import Derived.Test.YtfmkegblhpnfcaaKV1
set_option linter.unusedSimpArgs false
set_option linter.unusedVariables false
namespace Go.Proofs.Ytfmkegblhpnfcaa
set_option maxRecDepth 100000
open Go.RowKit
/-- what replica i votes for -/
def gM (l : List V3) (i : Nat) : List UInt8 := h1b ((l[i]?.map fun v => v.h.headD 0).getD 0 % 3)
theorem gM_len (l : List V3) (i : Nat) : (gM l i).length = 32 := h1b_len _
theorem add_three (a : Addr) : a.add 3 = ⟨a.block, a.off + 3, none⟩ := by unfold Addr.add; simp
theorem rem3 (b : UInt8) : ((b.toNat : Nat) : Int).tmod 3 = (((b % 3 : UInt8).toNat : Nat) : Int) := by
  have h : ∀ n : Fin 256, ((n.val : Nat) : Int).tmod 3 = ((n.val % 3 : Nat) : Int) := by decide +kernel
  have h2 := h ⟨b.toNat, b.toNat_lt⟩
  simp only at h2
  rw [h2, UInt8.toNat_mod]
  rfl
theorem less_h1b {a b : UInt8} (h : lessB (h1b a) (h1b b) = true) : a.toNat < b.toNat := by
  unfold lessB h1b at h
  simp only [decide_eq_true_eq] at h
  unfold Lib.compareBytes at h
  by_cases h1 : a < b
  · exact UInt8.lt_iff_toNat_lt.1 h1
  · rw [if_neg h1] at h
    by_cases h2 : b < a
    · rw [if_pos h2] at h
      omega
    · rw [if_neg h2, Ord.compare_self] at h
      omega
theorem h1b_inj {a b : UInt8} (h : h1b a = h1b b) : a = b := by
  unfold h1b at h
  injection h
/-- both orders: the same hash, as many votes -/
theorem most_same (g : Nat → List UInt8) (hg : ∀ i, (g i).length = 32) (N L : Nat) (hL : 0 < N → L < N) (hN : N ≤ 7) :
    Gd 7 (permV 2 1 g (fun i => (i + L) % N) N) ∧ (∀ x, cntH (permV 2 1 g (fun i => (i + L) % N) N) 2 1 x = cntH (genV 2 1 g N) 2 1 x) ∧ mstV (permV 2 1 g (fun i => (i + L) % N) N) 2 1 = mstV (genV 2 1 g N) 2 1 := by
  by_cases h0 : N = 0
  · subst h0
    exact ⟨trivial, fun _ => rfl, rfl⟩
  · have hl := hL (by omega)
    have hgd : Gd 7 (permV 2 1 g (fun i => (i + L) % N) N) := permV_gd (.inr rfl) (by omega) g _ hg N (fun i hi => by have := Nat.mod_lt (i + L) (show 0 < N by omega); omega) (turn_inj N L hl)
    have hc : ∀ x, cntH (permV 2 1 g (fun i => (i + L) % N) N) 2 1 x = cntH (genV 2 1 g N) 2 1 x := fun x => by
      rw [permV_for, genV_for]
      exact count_turn (fun i => decide (g i = x)) N L hl
    have hgg : Gd 7 (genV 2 1 g N) := genV_gd (.inr rfl) (by omega) g hg N (by omega)
    refine ⟨hgd, hc, ?_⟩
    have b1 := mst_best hgd 2 1
    have b2 := mst_best hgg 2 1
    have hp : 0 < cntH (genV 2 1 g N) 2 1 (g 0) := by
      rw [genV_for]
      exact List.countP_pos_iff.2 ⟨0, List.mem_range.2 (by omega), by simp⟩
    have b3 : Best (cntH (genV 2 1 g N) 2 1) (mstV (permV 2 1 g (fun i => (i + L) % N) N) 2 1) := ⟨fun x => by rw [← hc, ← hc]; exact b1.most x, fun h x hx => b1.least (by rw [hc]; exact h) x (by rw [hc, hc]; exact hx)⟩
    exact (best_one b2 b3 (by have := b2.most (g 0); omega)).symm
theorem most_from {q r : Int} (g : Nat → List UInt8) (N : Nat) (x : List UInt8) (h : 0 < cntH (genV q r g N) q r x) : ∃ i, i < N ∧ g i = x := by
  rw [genV_for] at h
  obtain ⟨i, hi, hx⟩ := List.countP_pos_iff.1 h
  exact ⟨i, List.mem_range.1 hi, of_decide_eq_true hx⟩
set_option maxHeartbeats 4000000 in
theorem tallyMost_walk (w : World) (A : Option Addr) (n0 c0 : Nat) (l : List V3) (hl : V3L w A n0 l) (hnc : n0 ≤ c0) (hcm : c0 ≤ maxLen) (z : Int) (hz1 : -9223372036854775808 ≤ z) (hz2 : z < 9223372036854775808) :
    Calls Try.prog 6 #[.slice A n0 c0, .int .i64 z] w fun e w' => e = .returned (.bool true) ∧ Fr [] w w' := by
  have HL := Lib.hid hl
  have HNC := Lib.hid (And.intro hnc hcm)
  have HZ := Lib.hid (And.intro hz1 hz2)
  have hcb : Try.prog.built 24 [(0, .int .i64 2), (1, .int .i64 1)] = some #[.int .i64 2, .int .i64 1] := by kernel_rfl
  clear hl hnc hcm hz1 hz2
  go_enter Try.func6, Try.ntmps6
  go_upto_region 2 with (first
    | (refine wpList_builtg rfl 24 _ rfl _ _ hcb rfl ?_)
    | (refine wpList_store_blk rfl 24 _ _ rfl w.heap.size #[.int .i64 2, .int .i64 1] rfl rfl 24 #[.int .i64 0, .int .i64 0] (Blk.new w _ _) (by kernel_rfl) rfl (by simp [Value.oneCell']) ?_; intro w2 hb3 hf2))
  have HF2 : Hid (Fr [] w w2) := Lib.hid (((Fr.refl [] w).alloc _).and hf2 (by simp))
  have HB3 := Lib.hid hb3
  obtain ⟨g3, hg3⟩ : ∃ g3, g3 = w.heap.size := ⟨_, rfl⟩
  rw [← hg3] at HB3 ⊢
  have HG3E := Lib.hid hg3
  clear hg3 hb3 hf2 hcb
  go_wp2_with (refine wpList_row rfl 24 _ rfl _ _ rfl _ (Blk.range HB3.out) row_conf2 ?_)
  refine (tnew_ok 2 1 (by decide) w2).mono ?_
  rw [show (3 : Int) * 2 + 1 = 7 by decide]
  rintro e w4 ⟨S1, g4, rfl, ht4, hf4, hs4⟩
  have HT4 := Lib.hid ht4
  have HS4 := Lib.hid hs4
  have HF4 := Lib.hid (HF2.out.and hf4 (by simp))
  have HB34 := Lib.hid (HB3.out.keep hf4 (by simp))
  have HSZ2 : Hid (g3 < w2.heap.size ∧ w2.heap.size ≤ w4.heap.size) := Lib.hid ⟨HB3.out.lt, hf4.size⟩
  clear ht4 hf4 hs4
  go_wp2_with (refine wpList_row rfl 24 _ rfl _ _ rfl _ (Blk.range HB34.out) row_conf2 ?_)
  refine (tnew_ok 2 1 (by decide) w4).mono ?_
  rw [show (3 : Int) * 2 + 1 = 7 by decide]
  rintro e w5 ⟨S2, g5, rfl, ht5, hf5, hs5⟩
  have HT5 := Lib.hid ht5
  have HS5 := Lib.hid hs5
  have HF5 := Lib.hid (HF4.out.and hf5 (by simp))
  have HB35 := Lib.hid (HB34.out.keep hf5 (by simp))
  have HT45 := Lib.hid (HT4.out.keep hf5 (by simp))
  have HL4 : Hid (∀ y ∈ S1, y < w4.heap.size) := Lib.hid HT4.out.lt
  have HD12 : Hid (∀ y ∈ S1, ¬ y ∈ S2) := Lib.hid (fun y h1 h2 => by have := HL4.out y h1; have := HS5.out y h2; omega)
  have HS12 : Hid ((∀ y ∈ S1, w.heap.size ≤ y ∧ y ≠ g3) ∧ (∀ y ∈ S2, w.heap.size ≤ y ∧ y ≠ g3)) := Lib.hid (by
    have h2 := HSZ2.out
    have h3 := HG3E.out
    refine ⟨fun y hy => ?_, fun y hy => ?_⟩
    · have h1 := HS4.out y hy
      omega
    · have h1 := HS5.out y hy
      omega)
  clear ht5 hf5 hs5 HT4 HB3 HB34 HF2 HF4
  have HNW := Lib.hid (fun W => tn_any 2 1 (by omega) W)
  have hn0 : (0 : Int) ≤ n0 := by omega
  go_wp2_with (refine wpList_row rfl 24 _ rfl _ _ rfl _ (Blk.range HB35.out) row_conf2 ?_)
  refine (HNW.out w5).mono ?_
  rw [show (3 : Int) * 2 + 1 = 7 by decide]
  rintro e w6 ⟨rfl, hf6⟩
  obtain ⟨N, hN⟩ : ∃ N : Nat, N = min n0 7 := ⟨_, rfl⟩
  have hmin : min (n0 : Int) 7 = (N : Int) := by omega
  have HN : Hid (N ≤ 7 ∧ N ≤ n0) := Lib.hid (by omega)
  have HT46 := Lib.hid (HT45.out.keep hf6 (by simp))
  have HT56 := Lib.hid (HT5.out.keep hf6 (by simp))
  have HF6 := Lib.hid (HF5.out.and hf6 (by simp))
  clear hN hf6 HT45 HT5 HB35
  go_upto_region 7 with (fail)
  clear hmin hn0
  obtain ⟨L, hLd⟩ : ∃ L : Nat, L = if 0 < N then (z % (N : Int)).toNat else 0 := ⟨_, rfl⟩
  have HLN : Hid (0 < N → L < N) := Lib.hid (fun h => by
    rw [hLd, if_pos h]
    have h1 := Int.emod_lt_of_pos z (b := (N : Int)) (by omega)
    have h2 := Int.emod_nonneg z (b := (N : Int)) (by omega)
    omega)
  have HWI : Hid (0 < N → ∀ W, Calls Try.prog 15 #[.int .i64 z, .int .i64 (N : Int)] W fun e w' => e = .returned (.int .i64 (L : Int)) ∧ W = w') := Lib.hid (fun h W => by
    have h2 := Int.emod_nonneg z (b := (N : Int)) (by omega)
    have h3 := within_pos z (N : Int) HZ.out.1 HZ.out.2 (by omega) (by have := HN.out; omega) W
    rw [show z % (N : Int) = (L : Int) by rw [hLd, if_pos h]; omega] at h3
    exact h3)
  have hL7 : (L : Int) ≤ 7 := by
    by_cases h : 0 < N
    · have := HLN.out h; have := HN.out; omega
    · rw [hLd, if_neg h]; omega
  clear hLd
  obtain ⟨g, hg⟩ : ∃ g, g = gM l := ⟨_, rfl⟩
  obtain ⟨σ, hσ⟩ : ∃ σ : Nat → Nat, σ = fun i => (i + L) % N := ⟨_, rfl⟩
  have HG : Hid (∀ i, (g i).length = 32) := Lib.hid (by rw [hg]; exact gM_len l)
  have HGE := Lib.hid hg
  have HSE : Hid (∀ i, σ i = (i + L) % N) := Lib.hid (fun i => by rw [hσ])
  have HSF := Lib.hid hσ
  clear hg hσ
  have hN7 : (N : Int) ≤ 7 := by have := HN.out; omega
  have HADs : Hid (∀ (W : World) (k : Nat), k < N → Tl W S1 g4 7 (genV 2 1 g k) → Calls Try.prog 10 #[.pointer (some ⟨g4, 0, none⟩), .int .i64 2, .int .i64 1, .int .i64 k, .agg ((g k).map by8).toArray] W fun e w' => e = .returned (.bool true) ∧ Tl w' S1 g4 7 (genV 2 1 g (k + 1)) ∧ Fr S1 W w') := Lib.hid (fun W k hk ht => by
    have hb := HN.out
    have h1 := genV_add (n := 7) (q := 2) (r := 1) (.inr rfl) (by omega) g k (by omega)
    have h2 := tadd_any W S1 g4 7 _ ht ⟨genV_gd (.inr rfl) (by omega) g HG.out k (by omega), by omega, by rw [genV_len]; omega⟩ 2 1 k (g k) (HG.out k)
    rw [h1.1, h1.2] at h2
    exact h2)
  have HADt : Hid (∀ (W : World) (k : Nat), k < N → Tl W S2 g5 7 (permV 2 1 g σ k) → Calls Try.prog 10 #[.pointer (some ⟨g5, 0, none⟩), .int .i64 2, .int .i64 1, .int .i64 (σ k : Nat), .agg ((g (σ k)).map by8).toArray] W fun e w' => Tl w' S2 g5 7 (permV 2 1 g σ (k + 1)) ∧ Fr S2 W w' ∧ ∃ b, e = .returned (.bool b)) := Lib.hid (fun W k hk ht => by
    have hb := HN.out
    have hi := turn_inj N L (HLN.out (by omega))
    have hs : ∀ i, (σ i : Int) < 7 := fun i => by rw [HSE.out]; have := Nat.mod_lt (i + L) (show 0 < N by omega); omega
    have h1 := permV_add (n := 7) (q := 2) (r := 1) (.inr rfl) (by omega) g σ k (hs k) (fun i h => by rw [HSE.out, HSE.out]; exact hi i k h hk)
    have h2 := tadd_any W S2 g5 7 _ ht ⟨permV_gd (.inr rfl) (by omega) g σ HG.out k (fun i _ => hs i) (fun i j h3 h4 => by rw [HSE.out, HSE.out]; exact hi i j h3 (by omega)), by omega, by rw [permV_len]; omega⟩ 2 1 (σ k : Nat) (g (σ k)) (HG.out _)
    rw [h1] at h2
    exact h2.mono (fun e w' h => ⟨h.2.1, h.2.2, _, h.1⟩))
  have HCELL : Hid (∀ i, i < N → ∃ ad b, A = some ad ∧ g i = h1b (b % 3) ∧ w.cell? ⟨(ad.add (i * 36)).block, (ad.add (i * 36)).off + 3, none⟩ = some (.int .u8 (b.toNat : Int))) := Lib.hid (fun i hi => by
    obtain ⟨ad, v, e1, e2, e3, e4, e5⟩ := HL.out.at (i := i) (by have := HN.out; omega)
    obtain ⟨b, hs, e6⟩ : ∃ b hs, v.h = b :: hs := by
      cases hv : v.h with
      | nil => have := e4.h; rw [hv] at this; cases this
      | cons b hs => exact ⟨b, hs, rfl⟩
    exact ⟨ad, b, e1, by rw [HGE.out]; unfold gM; rw [e2]; simp [e6], by have h := e5 3 _ (by simp [V3.cells, e6, by8]; rfl); rw [add_three] at h; exact h⟩)
  go_wp2_with fail
  go_loopw [11] (fun s11 wr => ∃ k : Nat, k ≤ N ∧ s11 = .int .i64 k ∧ Tl wr S1 g4 7 (genV 2 1 g k) ∧ Tl wr S2 g5 7 (permV 2 1 g σ k) ∧ Fr [] w wr) (fun s11 _ => N - (intOf s11).toNat)
  case atStart => exact ⟨0, by omega, rfl, HT46.out, HT56.out, HF6.out⟩
  case round =>
    obtain ⟨k, hk, rfl, h1, h2, h6⟩ := hrel
    have HTs := Lib.hid h1
    have HTt := Lib.hid h2
    have HFr := Lib.hid h6
    clear h1 h2 h6
    by_cases hlt : k < N
    · have hk7 : (k : Int) < 7 := by omega
      have hk0 : (0 : Int) ≤ k := by omega
      have hLT := HLN.out (by omega)
      have hwr : wrap64 ((k : Int) + (L : Int)) = (k : Int) + (L : Int) := by unfold wrap64; omega
      obtain ⟨m, hm⟩ : ∃ m, m = (k + L) % N := ⟨_, rfl⟩
      have hmN : m < N := by rw [hm]; exact Nat.mod_lt _ (by omega)
      have hms : σ k = m := by rw [HSE.out, hm]
      have hrem : ((k : Int) + (L : Int)).tmod (N : Int) = (m : Int) := by
        rw [hm, Int.tmod_eq_emod_of_nonneg (by omega)]
        push_cast
        rfl
      have hrem2 : ((k : Int) + (L : Int)) % (N : Int) = (m : Int) := by
        rw [hm]
        push_cast
        rfl
      have hne : (N = 0) = False := eq_false (by omega)
      have HMS := Lib.hid hms
      have HMN := Lib.hid hmN
      clear hm hms
      go_wp2_with fail
      refine (HWI.out (by omega) wr).mono ?_
      rintro e w7 ⟨rfl, rfl⟩
      obtain ⟨ad, b1, rfl, hg1, hc1⟩ := HCELL.out k hlt
      obtain ⟨ad2, b2, e2, hg2, hc2⟩ := HCELL.out m hmN
      obtain rfl : ad = ad2 := Option.some.inj e2
      have hc1r := HFr.out.cell hc1 (by simp)
      have hr1 := rem3 b1
      have hbu1 : Try.prog.built 30 [(0, .int .u8 ((b1 % 3 : UInt8).toNat : Int))] = some ((h1b (b1 % 3)).map by8).toArray := built_h (b1 % 3)
      have HG1 := Lib.hid hg1
      have HG2 := Lib.hid hg2
      have HC2 := Lib.hid hc2
      rw [← hg1] at hbu1
      clear hg1 hg2 hc1 hc2 e2
      have hkn0 : k < n0 := by have := HN.out; omega
      have hmn0 : m < n0 := by have := HN.out; omega
      have hm0 : (0 : Int) ≤ m := by omega
      have HBU1 := Lib.hid hbu1
      clear hbu1
      go_wp2_with (refine wpList_builtg rfl 30 _ rfl _ _ HBU1.out rfl ?_)
      refine (HADs.out wr k hlt HTs.out).mono ?_
      rintro e w8 ⟨rfl, ht8, hf8⟩
      have HTs8 := Lib.hid ht8
      have HTt8 := Lib.hid (HTt.out.keep hf8 (fun y hy hm => HD12.out y hm hy))
      have HF8 := Lib.hid (HFr.out.and hf8 (fun y hy => (HS12.out.1 y hy).1))
      clear ht8 hf8 hc1r hr1
      have hc2r := HF8.out.cell HC2.out (by simp)
      have hr2 := rem3 b2
      have HBU2 : Hid (Try.prog.built 30 [(0, .int .u8 ((b2 % 3 : UInt8).toNat : Int))] = some ((g m).map by8).toArray) := Lib.hid (by rw [HG2.out]; exact built_h (b2 % 3))
      have hadt := fun W h => HADt.out W k hlt h
      rw [HMS.out] at hadt
      have HADT := Lib.hid hadt
      clear hadt
      go_wp2_with (refine wpList_builtg rfl 30 _ rfl _ _ HBU2.out rfl ?_)
      refine (HADT.out w8 HTt8.out).mono ?_
      rintro e w9 ⟨ht9, hf9, bb, rfl⟩
      have HTt9 := Lib.hid ht9
      have HTs9 := Lib.hid (HTs8.out.keep hf9 (fun y hy hm => HD12.out y hy hm))
      have HF9 := Lib.hid (HF8.out.and hf9 (fun y hy => (HS12.out.2 y hy).1))
      clear ht9 hf9
      go_wp2_with fail
      go_roundw
      case rel => exact ⟨k + 1, by omega, by go_num, HTs9.out, HTt9.out, HF9.out⟩
      case measure => simp [intOf]; omega
    · have hkn : k = N := by omega
      have hdn : decide (k < N) = false := decide_eq_false hlt
      rw [hkn] at HTs HTt
      have hsame := most_same g HG.out N L HLN.out HN.out.1
      rw [← HSF.out] at hsame
      have HOs : Hid (TOk 7 (genV 2 1 g N)) := Lib.hid ⟨genV_gd (.inr rfl) (by omega) g HG.out N (by have := HN.out; omega), by omega, by rw [genV_len]; have := HN.out; omega⟩
      have HOt : Hid (TOk 7 (permV 2 1 g σ N)) := Lib.hid ⟨hsame.1, by omega, by rw [permV_len]; have := HN.out; omega⟩
      have HBS := Lib.hid (mst_best HOs.out.gd 2 1)
      have HML := Lib.hid (mstV_len HOs.out.gd 2 1)
      have HFRM := Lib.hid (most_from (q := 2) (r := 1) g N)
      obtain ⟨M, hM⟩ : ∃ M, M = mstV (genV 2 1 g N) 2 1 := ⟨_, rfl⟩
      obtain ⟨C, hC⟩ : ∃ C : List UInt8 → Nat, C = cntH (genV 2 1 g N) 2 1 := ⟨_, rfl⟩
      have HMs : Hid (∀ W, Tl W S1 g4 7 (genV 2 1 g N) → Calls Try.prog 12 #[.pointer (some ⟨g4, 0, none⟩), .int .i64 2, .int .i64 1] W fun e w' => e = .returned (.tuple #[.agg (M.map by8).toArray, .int .i64 (C M : Nat)]) ∧ Fr [] W w') := Lib.hid (fun W h => by
        have h2 := most_any W S1 g4 7 _ h HOs.out 2 1 ⟨by omega, by omega⟩ ⟨by omega, by omega⟩
        rw [hM, hC]
        exact h2)
      have HMt : Hid (∀ W, Tl W S2 g5 7 (permV 2 1 g σ N) → Calls Try.prog 12 #[.pointer (some ⟨g5, 0, none⟩), .int .i64 2, .int .i64 1] W fun e w' => e = .returned (.tuple #[.agg (M.map by8).toArray, .int .i64 (C M : Nat)]) ∧ Fr [] W w') := Lib.hid (fun W h => by
        have h2 := most_any W S2 g5 7 _ h HOt.out 2 1 ⟨by omega, by omega⟩ ⟨by omega, by omega⟩
        rw [hsame.2.2, hsame.2.1] at h2
        rw [hM, hC]
        exact h2)
      have HAs : Hid (∀ W, Tl W S1 g4 7 (genV 2 1 g N) → Calls Try.prog 9 #[.pointer (some ⟨g4, 0, none⟩), .int .i64 2, .int .i64 1] W fun e w' => e = .returned (.int .i64 (N : Int)) ∧ W = w') := Lib.hid (fun W h => by
        have h2 := all_any W S1 g4 7 _ h HOs.out 2 1 ⟨by omega, by omega⟩ ⟨by omega, by omega⟩
        rw [genV_all] at h2
        exact h2)
      have HH0 : Hid (∀ W, Tl W S1 g4 7 (genV 2 1 g N) → Calls Try.prog 14 #[.pointer (some ⟨g4, 0, none⟩), .int .i64 0] W fun e w' => e = .returned (.int .i64 (N : Int)) ∧ W = w') := Lib.hid (fun W h => by
        have h2 := heard_any W S1 g4 7 _ h 0
        rw [genV_heard (by omega) _ _ (by have := HN.out; omega), if_pos (by omega)] at h2
        exact h2)
      have HH2 : Hid (∀ W, Tl W S1 g4 7 (genV 2 1 g N) → Calls Try.prog 14 #[.pointer (some ⟨g4, 0, none⟩), .int .i64 2] W fun e w' => e = .returned (.int .i64 0) ∧ W = w') := Lib.hid (fun W h => by
        have h2 := heard_any W S1 g4 7 _ h 2
        rw [genV_heard (by omega) _ _ (by have := HN.out; omega), if_neg (by omega)] at h2
        exact h2)
      have HFOR : Hid (∀ W (x : UInt8), Tl W S1 g4 7 (genV 2 1 g N) → Calls Try.prog 11 #[.pointer (some ⟨g4, 0, none⟩), .int .i64 2, .int .i64 1, .agg ((h1b x).map by8).toArray] W fun e w' => e = .returned (.int .i64 (C (h1b x) : Nat)) ∧ Fr [] W w') := Lib.hid (fun W x h => by
        rw [hC]
        exact for_any W S1 g4 7 _ h 2 1 ⟨by omega, by omega⟩ ⟨by omega, by omega⟩ (h1b x) (h1b_len x))
      rw [← hC] at HBS HFRM
      rw [← hM] at HBS HML
      have HCN : Hid (∀ x, C x ≤ N) := Lib.hid (fun x => by rw [hC]; have h := cntH_le (genV 2 1 g N) 2 1 x; rw [genV_len] at h; exact h)
      have HC0 : Hid (0 < N → 0 < C M) := Lib.hid (fun h => by
        have h1 := HBS.out.most (g 0)
        have h2 : 0 < C (g 0) := by
          rw [hC, genV_for]
          exact List.countP_pos_iff.2 ⟨0, List.mem_range.2 h, by simp⟩
        omega)
      obtain ⟨mb, hmb⟩ : ∃ mb : UInt8, 0 < N → M = h1b mb := by
        by_cases h : 0 < N
        · obtain ⟨i, _, hi⟩ := HFRM.out M (HC0.out h)
          exact ⟨_, fun _ => by rw [← hi, HGE.out]; rfl⟩
        · exact ⟨0, fun q => absurd q h⟩
      have HMB := Lib.hid hmb
      have HHS : Hid ((Try.prog.info? 30).map (·.size) = some (M.map by8).toArray.size) := Lib.hid (by rw [List.size_toArray, List.length_map, HML.out]; kernel_rfl)
      have HHZ : Hid (zeroH.size = (M.map by8).toArray.size) := Lib.hid (by rw [show zeroH.size = 32 from rfl, List.size_toArray, List.length_map, HML.out])
      have HHA : Hid (((M.map by8).toArray.all (·.oneCell')) = true) := Lib.hid (all_oneCell_toArray (by8_one M))
      have HRM : Hid (RowTy Try.prog 30 (M.map by8).length) := Lib.hid (row_hash.of (by rw [List.length_map]; exact HML.out))
      clear hM hC hsame hmb hkn hlt HADs HADt
      go_wp2_with fail
      refine (HMs.out wr HTs.out).mono ?_
      rintro e w7 ⟨rfl, hf7⟩
      have HTs7 := Lib.hid (HTs.out.keep hf7 (by simp))
      have HTt7 := Lib.hid (HTt.out.keep hf7 (by simp))
      have HF7 := Lib.hid (HFr.out.and hf7 (by simp))
      clear hf7
      go_wp2_with (refine wpList_store_blk rfl 30 _ _ rfl w7.heap.size (M.map by8).toArray rfl rfl 30 zeroH (Blk.new w7 _ _) HHS.out HHZ.out HHA.out ?_; intro w8 hb8 hf8)
      have HFs8 : Hid (Fr [] w7 w8) := Lib.hid (((Fr.refl [] w7).alloc _).and hf8 (by simp))
      have HB8 := Lib.hid hb8
      have HTs8 := Lib.hid (HTs7.out.keep HFs8.out (by simp))
      have HTt8 := Lib.hid (HTt7.out.keep HFs8.out (by simp))
      have HF8 := Lib.hid (HF7.out.and HFs8.out (by simp))
      obtain ⟨ga, hga⟩ : ∃ ga, ga = w7.heap.size := ⟨_, rfl⟩
      rw [← hga] at HB8 ⊢
      clear hb8 hf8 hga
      refine (HMt.out w8 HTt8.out).mono ?_
      rintro e w9 ⟨rfl, hf9⟩
      have HTs9 := Lib.hid (HTs8.out.keep hf9 (by simp))
      have HF9 := Lib.hid (HF8.out.and hf9 (by simp))
      have HB9 := Lib.hid (HB8.out.keep hf9 (by simp))
      clear hf9
      have hq := fun W => eql_hash M M HML.out HML.out 9998 W
      rw [show decide (M = M) = true by simp] at hq
      have hcc : (((C M : Nat) : Int) != ((C M : Nat) : Int)) = false := by simp
      have hnn : ((N : Int) != (N : Int)) = false := by simp
      have hgt : decide (N < C M) = false := decide_eq_false (by have := HCN.out M; omega)
      have hgt2 : decide ((N : Int) < ((C M : Nat) : Int)) = false := decide_eq_false (by have := HCN.out M; omega)
      have HC64 : Hid (((C M : Nat) : Int) ≤ 7) := Lib.hid (by have := HCN.out M; have := HN.out; omega)
      go_upto_region 15 with (refine wpList_store_blk rfl 30 _ _ rfl w9.heap.size (M.map by8).toArray rfl rfl 30 zeroH (Blk.new w9 _ _) HHS.out HHZ.out HHA.out ?_; intro w10 hb10 hf10)
      have HFs10 : Hid (Fr [] w9 w10) := Lib.hid (((Fr.refl [] w9).alloc _).and hf10 (by simp))
      have HR15 : Hid (w10.rangeAt w9.heap.size 0 (M.map by8)) := Lib.hid hb10.range
      have HB10 := Lib.hid (HB9.out.keep HFs10.out (by simp))
      have HR13 : Hid (w10.rangeAt ga 0 (M.map by8)) := Lib.hid HB10.out.range
      have HTs10 := Lib.hid (HTs9.out.keep HFs10.out (by simp))
      have HF10 := Lib.hid (HF9.out.and HFs10.out (by simp))
      obtain ⟨gb, hgb⟩ : ∃ gb, gb = w9.heap.size := ⟨_, rfl⟩
      rw [← hgb] at HR15 ⊢
      clear hb10 hf10 hgb
      go_wp2_with (first
        | (refine wpList_row rfl 30 (.tmp 13) rfl ga 0 rfl (M.map by8) HR13.out HRM.out ?_)
        | (refine wpList_row rfl 30 (.tmp 15) rfl gb 0 rfl (M.map by8) HR15.out HRM.out ?_))
      refine (HAs.out w10 HTs10.out).mono ?_
      rintro e w11 ⟨rfl, rfl⟩
      clear hq
      go_wp2_with fail
      refine (HAs.out w10 HTs10.out).mono ?_
      rintro e w11 ⟨rfl, rfl⟩
      go_wp2_with fail
      refine (HH0.out w10 HTs10.out).mono ?_
      rintro e w11 ⟨rfl, rfl⟩
      go_wp2_with fail
      refine (HH2.out w10 HTs10.out).mono ?_
      rintro e w11 ⟨rfl, rfl⟩
      go_wp2_with fail
      clear hcc hnn hgt hgt2
      go_loopw [17] (fun s17 wq => ∃ q : Nat, q ≤ 3 ∧ s17 = .int .u8 (q : Int) ∧ Tl wq S1 g4 7 (genV 2 1 g N) ∧ Blk wq ga 30 (M.map by8).toArray ∧ Fr [] w wq) (fun s17 _ => 3 - (intOf s17).toNat)
      case atStart => exact ⟨0, by omega, rfl, HTs10.out, HB10.out, HF10.out⟩
      case round =>
        obtain ⟨q, hq3, rfl, h1, h2, h3⟩ := hrel
        rename World => wq
        have HTq := Lib.hid h1
        have HBq := Lib.hid h2
        have HFq := Lib.hid h3
        clear h1 h2 h3
        by_cases hlt : q < 3
        · have hq64 : (q : Int) < 3 := by omega
          have hwr : IntKind.u8.wrap ((q : Int) + 1) = (q : Int) + 1 := by
            have h : IntKind.u8.wrap ((q : Int) + 1) = ((q : Int) + 1) % 256 := rfl
            rw [h]
            omega
          obtain ⟨x, hx⟩ : ∃ x : UInt8, x.toNat = q := ⟨UInt8.ofNat q, by rw [UInt8.toNat_ofNat']; omega⟩
          have HX := Lib.hid hx
          have HBU : Hid (Try.prog.built 30 [(0, .int .u8 (q : Int))] = some ((h1b x).map by8).toArray) := Lib.hid (by rw [← hx]; exact built_h x)
          clear hx
          go_wp2_with (refine wpList_builtg rfl 30 _ rfl _ _ HBU.out rfl ?_)
          refine (HFOR.out wq x HTq.out).mono ?_
          rintro e ws ⟨rfl, hfs⟩
          have HTq2 := Lib.hid (HTq.out.keep hfs (by simp))
          have HBq2 := Lib.hid (HBq.out.keep hfs (by simp))
          have HFq2 := Lib.hid (HFq.out.and hfs (by simp))
          clear hfs
          have h4 := HBS.out.most (h1b x)
          have hLE := HBS.out.least
          have hd1 : decide (C M < C (h1b x)) = false := decide_eq_false (by omega)
          have hd1i : decide (((C M : Nat) : Int) < ((C (h1b x) : Nat) : Int)) = false := decide_eq_false (by omega)
          have HLE : Hid (0 < N → C (h1b x) = C M → ¬ (q < mb.toNat)) := Lib.hid (fun hN hc hlt2 => by
            have e := HMB.out hN
            rcases hLE (HC0.out hN) (h1b x) hc with h | h
            · rw [e] at h
              have := h1b_inj h
              rw [← this, HX.out] at hlt2
              omega
            · rw [e] at h
              have := less_h1b h
              rw [HX.out] at this
              omega)
          have HM0 : Hid (0 < N → ws.cell? ⟨ga, 0, none⟩ = some (.int .u8 (mb.toNat : Int))) := Lib.hid (fun h => by
            rw [HBq2.out.cell 0, HMB.out h]
            rfl)
          clear h4 hLE
          generalize C (h1b x) = c at *
          by_cases hcc : c = C M
          · subst hcc
            by_cases hN0 : 0 < N
            · have hdN : decide (0 < N) = true := decide_eq_true hN0
              have hm0 := HM0.out hN0
              have hdq : decide ((q : Int) < (mb.toNat : Int)) = false := decide_eq_false (by have := HLE.out hN0 rfl; omega)
              have hdq2 : decide (q < mb.toNat) = false := decide_eq_false (HLE.out hN0 rfl)
              go_wp2_with fail
              go_roundw
              case rel => exact ⟨q + 1, by omega, by go_num, HTq2.out, HBq2.out, HFq2.out⟩
              case measure => simp [intOf]; omega
            · have hdN : decide (0 < N) = false := decide_eq_false hN0
              go_wp2_with fail
              go_roundw
              case rel => exact ⟨q + 1, by omega, by go_num, HTq2.out, HBq2.out, HFq2.out⟩
              case measure => simp [intOf]; omega
          · have hbc : (((c : Nat) : Int) == ((C M : Nat) : Int)) = false := by simp; omega
            go_wp2_with fail
            go_roundw
            case rel => exact ⟨q + 1, by omega, by go_num, HTq2.out, HBq2.out, HFq2.out⟩
            case measure => simp [intOf]; omega
        · have hqe : q = 3 := by omega
          subst hqe
          go_wp2_with fail
          refine (twakes_any wq).mono ?_
          rintro e ws ⟨rfl, hfs⟩
          have HFs := Lib.hid (HFq.out.and hfs (by simp))
          clear hfs
          go_wp2_with fail
          go_ret
          exact ⟨rfl, HFs.out⟩
end Go.Proofs.Ytfmkegblhpnfcaa
