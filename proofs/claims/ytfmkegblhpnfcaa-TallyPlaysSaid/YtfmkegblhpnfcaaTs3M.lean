/- gavellaw13.TallyPlays, walked. -/
import Derived.Test.YtfmkegblhpnfcaaKX3
set_option linter.unusedSimpArgs false
set_option linter.unusedVariables false
namespace Go.Proofs.Ytfmkegblhpnfcaa
set_option maxRecDepth 100000
open Go.RowKit
theorem tvalid_any (f k : Int) (w : World) : Calls Try.prog 17 #[.agg #[.int .i64 f, .int .i64 k]] w fun e w' => e = .returned (.bool (confB f k)) ∧ Fr [] w w' := by
  by_cases h1 : 1 ≤ f
  case neg =>
    have hr : Hid (confB f k = false) := Lib.hid (by simp [confB]; omega)
    go_enter Try.func17, Try.ntmps17
    go_wp2
    go_ret
    exact ⟨by rw [hr.out]; rfl, (Fr.refl [] w).alloc _⟩
  by_cases h2 : f ≤ 21
  case neg =>
    have hr : Hid (confB f k = false) := Lib.hid (by simp [confB]; omega)
    go_enter Try.func17, Try.ntmps17
    go_wp2
    go_ret
    exact ⟨by rw [hr.out]; rfl, (Fr.refl [] w).alloc _⟩
  by_cases h3 : 1 ≤ k
  case neg =>
    have hr : Hid (confB f k = false) := Lib.hid (by simp [confB]; omega)
    go_enter Try.func17, Try.ntmps17
    go_wp2
    go_ret
    exact ⟨by rw [hr.out]; rfl, (Fr.refl [] w).alloc _⟩
  have hd : decide (k ≤ 100) = confB f k := by simp [confB, h1, h2, h3]
  have hr := Lib.hid hd
  clear hd
  cases hk : decide (k ≤ 100) with
  | true =>
    go_enter Try.func17, Try.ntmps17
    go_wp2
    go_ret
    exact ⟨by rw [← hr.out, hk]; rfl, (Fr.refl [] w).alloc _⟩
  | false =>
    go_enter Try.func17, Try.ntmps17
    go_wp2
    go_ret
    exact ⟨by rw [← hr.out, hk]; rfl, (Fr.refl [] w).alloc _⟩
theorem V3L.keepF {w w' : World} {A : Option Addr} {n : Nat} {l : List V3} (h : V3L w A n l) (hf : Fr [] w w') : V3L w' A n l := Lst.keep h hf (fun a ha => by simp) (fun _ _ q => q)
theorem V3L.blk {w : World} {A : Option Addr} {n : Nat} {l : List V3} (h : V3L w A n l) (hn : 0 < n) : ∀ a, A = some a → a.block < w.heap.size := by
  intro a ha
  obtain ⟨ad, v, h1, h2, h3, h4, h5⟩ := Lst.at h hn
  rw [ha] at h1
  injection h1 with h1
  subst h1
  have h6 := h5 0 _ rfl
  have h7 := World.block_lt_of_cell? w _ h6
  rwa [add_block, add_block] at h7
theorem built_rt0 (f c : Int) : Try.prog.built 47 [(0, .agg #[.int .i64 f, .int .i64 c])] = some #[.int .i64 f, .int .i64 c, .slice none 0 0] := by kernel_rfl
set_option maxHeartbeats 4000000 in
theorem tallyPlays_walk (w : World) (f c : Int) (bf : i64In f) (bc : i64In c) (A1 : Option Addr) (n1 c1 : Nat) (l1 : List V3) (hl1 : V3L w A1 n1 l1) (hnc1 : n1 ≤ c1) (hcm1 : c1 ≤ maxLen) (A2 : Option Addr) (n2 c2 : Nat) (l2 : List V3) (hl2 : V3L w A2 n2 l2) (hnc2 : n2 ≤ c2) (hcm2 : c2 ≤ maxLen) :
    Calls Try.prog 4 #[.agg #[.int .i64 f, .int .i64 c], .slice A1 n1 c1, .slice A2 n2 c2] w fun e w' => e = .returned (.bool true) ∧ Fr [] w w' := by
  have HL1 := Lib.hid hl1
  have HL2 := Lib.hid hl2
  have HN1 : Hid (n1 ≤ maxLen) := Lib.hid (by omega)
  have HN2 : Hid (n2 ≤ maxLen) := Lib.hid (by omega)
  clear hl1 hl2 hnc1 hcm1 hnc2 hcm2 bf bc
  obtain ⟨wa, hwa⟩ : ∃ wa, wa = w.alloc (Obj.cells #[.int .i64 f, .int .i64 c] 24) := ⟨_, rfl⟩
  have HF0 : Hid (Fr [] w wa) := Lib.hid (by rw [hwa]; exact (Fr.refl [] w).alloc _)
  have HB0 : Hid (Blk wa w.heap.size 24 #[.int .i64 f, .int .i64 c]) := Lib.hid (by rw [hwa]; exact Blk.new _ _ _)
  have HWA := Lib.hid hwa
  clear hwa
  go_enter Try.func4, Try.ntmps4
  go_upto_region 1 with (fail)
  change Code.wp _ _ _ _ (w.alloc (Obj.cells #[.int .i64 f, .int .i64 c] 24))
  rw [← HWA.out]
  cases hB : confB f c with
  | false =>
    have HB := Lib.hid hB
    clear hB
    go_wp2_with (refine wpList_row rfl 24 _ rfl _ _ rfl _ (Blk.range HB0.out) row_conf2 ?_)
    refine (tnew_no f c HB.out wa).mono ?_
    rintro e w1 ⟨rfl, hf1⟩
    have HB1 := Lib.hid (HB0.out.keep hf1 (by simp))
    have HF1 := Lib.hid (HF0.out.and hf1 (by simp))
    clear hf1
    go_wp2_with (refine wpList_row rfl 24 _ rfl _ _ rfl _ (Blk.range HB1.out) row_conf2 ?_)
    refine (tvalid_any f c w1).mono ?_
    rw [HB.out]
    rintro e w2 ⟨rfl, hf2⟩
    have HF2 := Lib.hid (HF1.out.and hf2 (by simp))
    clear hf2
    go_wp2_with fail
    refine (twakes_any w2).mono ?_
    rintro e w3 ⟨rfl, hf3⟩
    have HF3 := Lib.hid (HF2.out.and hf3 (by simp))
    clear hf3
    go_wp2_with fail
    go_ret
    exact ⟨rfl, HF3.out⟩
  | true =>
    have HB := Lib.hid hB
    have HFF : Hid (1 ≤ f ∧ f ≤ 21) := Lib.hid (by have h4 : 1 ≤ f ∧ f ≤ 21 ∧ 1 ≤ c ∧ c ≤ 100 := by simpa [confB] using hB
                                                   omega)
    clear hB
    go_wp2_with (refine wpList_row rfl 24 _ rfl _ _ rfl _ (Blk.range HB0.out) row_conf2 ?_)
    refine (tnew_ok f c HB.out wa).mono ?_
    rintro e w1 ⟨S, g, rfl, ht1, hf1, hs1⟩
    have HT1 := Lib.hid ht1
    have HS1 := Lib.hid (fun y hy => (show w.heap.size ≤ y ∧ y < w1.heap.size from ⟨by have := hs1 y hy; have := HF0.out.size; omega, ht1.lt y hy⟩))
    have HB1 := Lib.hid (HB0.out.keep hf1 (by simp))
    have HF1 := Lib.hid (HF0.out.and hf1 (by simp))
    clear ht1 hf1 hs1
    go_wp2_with (refine wpList_row rfl 24 _ rfl _ _ rfl _ (Blk.range HB1.out) row_conf2 ?_)
    refine (tvalid_any f c w1).mono ?_
    rw [HB.out]
    rintro e w2 ⟨rfl, hf2⟩
    have HB2 := Lib.hid (HB1.out.keep hf2 (by simp))
    have HT2 := Lib.hid (HT1.out.keep hf2 (by simp))
    have HF2 := Lib.hid (HF1.out.and hf2 (by simp))
    have HW2 : Hid (w1.heap.size ≤ w2.heap.size) := Lib.hid hf2.size
    clear hf2
    have hbt := built_rt0 f c
    go_wp2_with (first
      | (refine wpList_row rfl 24 _ rfl _ _ rfl _ (Blk.range HB2.out) row_conf2 ?_)
      | (refine wpList_builtg rfl 47 _ rfl _ _ hbt rfl ?_))
    obtain ⟨w3, hw3⟩ : ∃ w3, w3 = w2.alloc (Obj.cells #[.int .i64 f, .int .i64 c, .slice none 0 0] 47) := ⟨_, rfl⟩
    have hf3 : Fr [] w2 w3 := by rw [hw3]; exact (Fr.refl [] w2).alloc _
    have hb3 : Blk w3 w2.heap.size 47 #[.int .i64 f, .int .i64 c, .slice none 0 0] := by rw [hw3]; exact Blk.new _ _ _
    have HF3 := Lib.hid (HF2.out.and hf3 (by simp))
    have HR3 : Hid (Rt w3 [w2.heap.size] w2.heap.size f c []) := Lib.hid ⟨none, 0, rfl, hb3, Lst.nil _, fun a ha => by cases ha⟩
    have HT3 := Lib.hid (HT2.out.keep hf3 (by simp))
    have HG3 : Hid (w2.heap.size < w3.heap.size) := Lib.hid hb3.lt
    first | rw [← hw3] | skip
    obtain ⟨gr, hgr⟩ : ∃ gr, gr = w2.heap.size := ⟨_, rfl⟩
    rw [← hgr] at HR3 HG3 HW2 ⊢
    have HGR : Hid (w.heap.size ≤ gr) := Lib.hid (by rw [hgr]; exact HF2.out.size)
    clear hf3 hb3 hw3 hbt hgr
    have HBT3 : Hid (Bth w3 S [gr] g gr f c []) := Lib.hid ⟨HT3.out, HR3.out, fun y hy hm => by have := HS1.out y hy; have := HW2.out; simp at hm; omega, trivial⟩
    have HNEW : Hid (∀ y, y < w.heap.size → ¬ y ∈ gr :: S) := Lib.hid (fun y hy hm => by
      rcases List.mem_cons.1 hm with rfl | hm
      · have := HGR.out; omega
      · have := (HS1.out y hm).1; omega)
    refine (play_any w3 S [gr] g gr f c [] HBT3.out HFF.out (by simp) A1 n1 c1 l1 (HL1.out.keepF HF3.out) (fun h a ha => HNEW.out _ (HL1.out.blk h a ha)) HN1.out).mono ?_
    rintro e w4 ⟨rfl, T, R, hb4, ht4, hr4, hf4⟩
    have HB4 := Lib.hid hb4
    have HTL : Hid (T.length ≤ 40) := Lib.hid (by simpa using ht4)
    have HR4 : Hid (∀ y ∈ R, w.heap.size ≤ y) := Lib.hid (fun y hy => by
      have h1 := HGR.out
      have h2 := HF3.out.size
      rcases hr4 y hy with h | h
      · simp at h; omega
      · omega)
    have HF4 : Hid (Fr [] w w4) := Lib.hid (HF3.out.trans hf4 (fun x hx hl => absurd hx (HNEW.out x hl)))
    clear hb4 ht4 hr4 hf4
    go_wp2_with fail
    refine (tlclone_any w4 S g (3 * f + 1) T HB4.out.t).mono ?_
    rintro e w5 ⟨S2, g2, rfl, ht5, hf5, hs5⟩
    have HT5 := Lib.hid ht5
    have HF5 := Lib.hid hf5
    have HS5 := Lib.hid hs5
    clear ht5 hf5 hs5
    go_wp2_with fail
    refine (rcopy_any w5 R gr f c T (HB4.out.r.keep HF5.out (by simp)) (by have := HTL.out; omega)).mono ?_
    rintro e w6 ⟨R2, gr2, rfl, hr6, hf6, hs6⟩
    have HR6 := Lib.hid hr6
    have HF6 := Lib.hid hf6
    have HS6 := Lib.hid hs6
    have HZ : Hid (w.heap.size ≤ w4.heap.size ∧ w4.heap.size ≤ w5.heap.size) := Lib.hid ⟨HF4.out.size, HF5.out.size⟩
    have HBT6 : Hid (Bth w6 S2 R2 g2 gr2 f c T) := Lib.hid ⟨HT5.out.keep HF6.out (by simp), HR6.out, fun y hy hm => by have h1 := HT5.out.lt y hy; have h2 := HS6.out y hm; omega, HB4.out.gd⟩
    have HBA6 : Hid (Bth w6 S R g gr f c T) := Lib.hid ((HB4.out.keep HF5.out (by simp) (by simp)).keep HF6.out (by simp) (by simp))
    have HF46 := Lib.hid ((HF4.out.and HF5.out (by simp)).and HF6.out (by simp))
    have HN6 : Hid (∀ y, y < w4.heap.size → ¬ y ∈ gr2 :: S2) := Lib.hid (fun y hy hm => by
      have h3 := HZ.out
      rcases List.mem_cons.1 hm with rfl | hm
      · have := HS6.out _ HR6.out.gmem; omega
      · have := HS5.out y hm; omega)
    clear hr6 hf6 hs6
    go_wp2_with fail
    refine (play_any w6 S2 R2 g2 gr2 f c T HBT6.out HFF.out (by have := HTL.out; omega) A2 n2 c2 l2 (HL2.out.keepF HF46.out) (fun h a ha => HN6.out _ (by have h1 := HL2.out.blk h a ha; have h2 := HZ.out; omega)) HN2.out).mono ?_
    rintro e w7 ⟨rfl, T7, R7, -, -, -, hf7⟩
    have HB7 : Hid (Bth w7 S R g gr f c T) := Lib.hid (HBA6.out.keep hf7 (fun y hy => HN6.out y (HB4.out.t.lt y hy)) (fun y hy => HN6.out y (HB4.out.r.lt y hy)))
    have HF7 : Hid (Fr [] w w7) := Lib.hid (HF46.out.trans hf7 (fun x hx hl => absurd hx (HN6.out x (by have := HZ.out; omega))))
    clear hf7
    go_wp2_with fail
    refine (play_any w7 S R g gr f c T HB7.out HFF.out (by have := HTL.out; omega) A1 n1 c1 l1 (HL1.out.keepF HF7.out) (fun h a ha => HNEW.out _ (HL1.out.blk h a ha)) HN1.out).mono ?_
    rintro e w8 ⟨rfl, T8, R8, -, -, -, hf8⟩
    have HF8 : Hid (Fr [] w w8) := Lib.hid (HF7.out.trans hf8 (fun x hx hl => absurd hx (HNEW.out x hl)))
    clear hf8
    go_wp2_with fail
    refine (twakes_any w8).mono ?_
    rintro e w9 ⟨rfl, hf9⟩
    have HF9 := Lib.hid (HF8.out.and hf9 (by simp))
    clear hf9
    go_wp2_with fail
    go_ret
    exact ⟨rfl, HF9.out⟩
end Go.Proofs.Ytfmkegblhpnfcaa
