/- The walk of CommitUnlike. -/
import Derived.Test.YtbajkdlemgnmkaaDoorCm7
import Derived.Test.YtbajkdlemgnmkaaDoorReg2
import Derived.Deep.CutBlock
import Derived.StillTailTactics
namespace Go.Proofs.YtbajkdlemgnmkaaDoor
open Go.RowKit
set_option maxRecDepth 100000

set_option maxHeartbeats 8000000 in
theorem commitUnlike_walk (w : World) (c s : Int) (hc : i64In c) (hs : i64In s) (c' s' : Int) (hc' : i64In c') (hs' : i64In s') (ha : List UInt8) (hal : ha.length = 32) (hb : List UInt8) (hbl : hb.length = 32)
    (A : Option Addr) (n cp : Nat) (p : List UInt8) (hp : By w A n p) (hpc : n ≤ cp) (hpm : cp ≤ maxLen) (A' : Option Addr) (n' cp' : Nat) (q : List UInt8) (hq : By w A' n' q) (hqc : n' ≤ cp') (hqm : cp' ≤ maxLen) (hK : KW w) :
    Calls Tryd.prog 12 #[.agg #[.int .i64 c, .int .i64 s], .agg #[.int .i64 c', .int .i64 s'], .agg (ha.map by8).toArray, .agg (hb.map by8).toArray, .slice A n cp, .slice A' n' cp'] w fun e w' => e = .returned (.bool true) ∧ Fr [] w w' := by
  have HK := Lib.hid hK
  have HC := Lib.hid hc
  have HS := Lib.hid hs
  have HC' := Lib.hid hc'
  have HS' := Lib.hid hs'
  have HAL := Lib.hid hal
  have HBL := Lib.hid hbl
  have HP := Lib.hid hp
  have HQ := Lib.hid hq
  have HPN := Lib.hid (And.intro hpc (Nat.le_trans hpc hpm))
  have HQN := Lib.hid (And.intro hqc (Nat.le_trans hqc hqm))
  obtain ⟨wa, hwa⟩ : ∃ wa, wa = (((w.alloc (Obj.cells #[.int .i64 c, .int .i64 s] 46)).alloc (Obj.cells #[.int .i64 c', .int .i64 s'] 46)).alloc (Obj.cells (ha.map by8).toArray 26)).alloc (Obj.cells (hb.map by8).toArray 26) := ⟨_, rfl⟩
  have hf0 : Fr [] w wa := by rw [hwa]; exact ((((Fr.refl [] w).alloc _).alloc _).alloc _).alloc _
  have hb1 : Blk wa w.heap.size 46 #[.int .i64 c, .int .i64 s] := by rw [hwa]; exact blk_alloc (blk_alloc (blk_alloc (Blk.new _ _ _)))
  have hb2 : Blk wa (w.heap.size + 1) 46 #[.int .i64 c', .int .i64 s'] := by
    have := blk_alloc (t' := 26) (cs' := (hb.map by8).toArray) (blk_alloc (t' := 26) (cs' := (ha.map by8).toArray) (Blk.new (w.alloc (Obj.cells #[.int .i64 c, .int .i64 s] 46)) 46 #[.int .i64 c', .int .i64 s']))
    rw [hwa]; simpa using this
  have hb3 : Blk wa (w.heap.size + 2) 26 (ha.map by8).toArray := by
    have := blk_alloc (t' := 26) (cs' := (hb.map by8).toArray) (Blk.new ((w.alloc (Obj.cells #[.int .i64 c, .int .i64 s] 46)).alloc (Obj.cells #[.int .i64 c', .int .i64 s'] 46)) 26 (ha.map by8).toArray)
    rw [hwa]; simpa using this
  have hb4 : Blk wa (w.heap.size + 3) 26 (hb.map by8).toArray := by
    have := Blk.new (((w.alloc (Obj.cells #[.int .i64 c, .int .i64 s] 46)).alloc (Obj.cells #[.int .i64 c', .int .i64 s'] 46)).alloc (Obj.cells (ha.map by8).toArray 26)) 26 (hb.map by8).toArray
    rw [hwa]; simpa using this
  have HF0 := Lib.hid hf0
  have HB1 := Lib.hid hb1
  have HB2 := Lib.hid hb2
  have HB3 := Lib.hid hb3
  have HB4 := Lib.hid hb4
  have HWS := Lib.hid hb4.lt
  have HWA := Lib.hid hwa
  clear hK hc hs hc' hs' hal hbl hp hq hpc hpm hqc hqm hwa hf0 hb1 hb2 hb3 hb4
  go_enter Tryd.func12, Tryd.ntmps12
  go_upto_region 1 with (fail)
  change Code.wp _ _ _ _ ((((w.alloc (Obj.cells #[.int .i64 c, .int .i64 s] 46)).alloc (Obj.cells #[.int .i64 c', .int .i64 s'] 46)).alloc (Obj.cells (ha.map by8).toArray 26)).alloc (Obj.cells (hb.map by8).toArray 26))
  rw [← HWA.out]
  generalize hga : (ha.map by8).toArray = XA at *
  generalize hgb : (hb.map by8).toArray = XB at *
  have HGA := Lib.hid hga
  have HGB := Lib.hid hgb
  clear hga hgb
  go_wp2_with fail
  rw [show (60 : Int) = ((60 : Nat) : Int) from rfl]
  refine (cut_any A n cp 60 p wa (HP.out.keep HF0.out (by simp)) HPN.out.2 HPN.out.1 (by omega)).mono ?_
  rintro e w1 ⟨A1, c1, rfl, hN1⟩
  have h60 : (p.take 60).length ≤ 60 := List.length_take_le _ _
  generalize p.take 60 = p1 at *
  have HN1 := Lib.hid hN1
  have H60 := Lib.hid h60
  clear hN1 h60
  go_wp2_with fail
  rw [show (60 : Int) = ((60 : Nat) : Int) from rfl]
  refine (cut_any A' n' cp' 60 q w1 (HQ.out.keep (HF0.out.and HN1.out.2.1 (by simp)) (by simp)) HQN.out.2 HQN.out.1 (by omega)).mono ?_
  rintro e w2 ⟨A2, c2, rfl, hN2⟩
  have h60 : (q.take 60).length ≤ 60 := List.length_take_le _ _
  generalize q.take 60 = q1 at *
  have HN2 := Lib.hid hN2
  have H60' := Lib.hid h60
  clear hN2 h60
  have HP1 := Lib.hid (HN1.out.by.keep HN2.out.2.1 (by simp))
  have HQ1 := Lib.hid HN2.out.by
  have HF2 : Hid (Fr [] wa w2) := Lib.hid (HN1.out.2.1.and HN2.out.2.1 (by simp))
  have HA1 : Hid (∀ k ∈ bk A1, wa.heap.size ≤ k ∧ k < w2.heap.size) := Lib.hid (fun k hk => ⟨HN1.out.2.2 k hk, Nat.lt_of_lt_of_le (HN1.out.lt k hk) HN2.out.2.1.size⟩)
  have HA2 : Hid (∀ k ∈ bk A2, wa.heap.size ≤ k ∧ k < w2.heap.size) := Lib.hid (fun k hk => ⟨Nat.le_trans HN1.out.2.1.size (HN2.out.2.2 k hk), HN2.out.lt k hk⟩)
  clear HN1 HN2 HP HQ HPN HQN
  have HB1 := Lib.hid (HB1.out.keep HF2.out (by simp))
  have HB2 := Lib.hid (HB2.out.keep HF2.out (by simp))
  have HB3 := Lib.hid (HB3.out.keep HF2.out (by simp))
  have HB4 := Lib.hid (HB4.out.keep HF2.out (by simp))
  go_upto_region 2 with (fail)
  have hx0 := HB1.out.cell 0
  have hx1 := HB1.out.cell 1
  have hz0 := HB1.out.frozen 0
  have hz1 := HB1.out.frozen 1
  simp only [List.getElem?_toArray, List.getElem?_cons_zero, List.getElem?_cons_succ] at hx0 hx1
  go_still_tail 7, (by kernel_rfl)
  still_call ((within_pos c 3 HC.out.1 HC.out.2 (by omega) (by omega) _).mono fun _ _ h => ⟨h.1, h.2.symm⟩)
  repeat still_step
  still_call ((within_pos s 3 HS.out.1 HS.out.2 (by omega) (by omega) _).mono fun _ _ h => ⟨h.1, h.2.symm⟩)
  repeat still_step
  refine wpStill_nil ?_
  clear hx0 hx1 hz0 hz1
  change wpList _ _ _ _ _ w2.drew
  have hb := HB1.out.drew
  have hf := (Fr.refl [w.heap.size] w2).drew
  generalize w2.drew = wd at *
  have h0 : 0 ≤ c % 3 := Int.emod_nonneg _ (by omega)
  have h1 : c % 3 < 3 := Int.emod_lt_of_pos _ (by omega)
  have h2 : 0 ≤ s % 3 := Int.emod_nonneg _ (by omega)
  have h3 : s % 3 < 3 := Int.emod_lt_of_pos _ (by omega)
  generalize c % 3 = C1 at *
  generalize s % 3 = S1 at *
  refine wpList_store_blk rfl 46 _ _ rfl (w.heap.size) #[.int .i64 C1, .int .i64 S1] rfl rfl 46 #[.int .i64 c, .int .i64 s] hb (by kernel_rfl) rfl (by kernel_rfl) ?_
  intro w3 hbw3 hfw3
  have HFw3 := Lib.hid (hf.trans hfw3 (fun x hx _ => hx))
  clear hb hf hfw3
  have HB1 := Lib.hid hbw3
  clear hbw3
  clear wd
  (try simp only [Act.put])
  have HB2 := Lib.hid (HB2.out.keep HFw3.out (by simp))
  have HB3 := Lib.hid (HB3.out.keep HFw3.out (by simp))
  have HB4 := Lib.hid (HB4.out.keep HFw3.out (by simp))
  go_upto_region 3 with (fail)
  have hx0 := HB2.out.cell 0
  have hx1 := HB2.out.cell 1
  have hz0 := HB2.out.frozen 0
  have hz1 := HB2.out.frozen 1
  simp only [List.getElem?_toArray, List.getElem?_cons_zero, List.getElem?_cons_succ] at hx0 hx1
  go_still_tail 7, (by kernel_rfl)
  still_call ((within_pos c' 3 HC'.out.1 HC'.out.2 (by omega) (by omega) _).mono fun _ _ h => ⟨h.1, h.2.symm⟩)
  repeat still_step
  still_call ((within_pos s' 3 HS'.out.1 HS'.out.2 (by omega) (by omega) _).mono fun _ _ h => ⟨h.1, h.2.symm⟩)
  repeat still_step
  refine wpStill_nil ?_
  clear hx0 hx1 hz0 hz1
  change wpList _ _ _ _ _ w3.drew
  have hb := HB2.out.drew
  have hf := (Fr.refl [w.heap.size + 1] w3).drew
  generalize w3.drew = wd at *
  have h0 : 0 ≤ c' % 3 := Int.emod_nonneg _ (by omega)
  have h1 : c' % 3 < 3 := Int.emod_lt_of_pos _ (by omega)
  have h2 : 0 ≤ s' % 3 := Int.emod_nonneg _ (by omega)
  have h3 : s' % 3 < 3 := Int.emod_lt_of_pos _ (by omega)
  generalize c' % 3 = C2 at *
  generalize s' % 3 = S2 at *
  refine wpList_store_blk rfl 46 _ _ rfl (w.heap.size + 1) #[.int .i64 C2, .int .i64 S2] rfl rfl 46 #[.int .i64 c', .int .i64 s'] hb (by kernel_rfl) rfl (by kernel_rfl) ?_
  intro w4 hbw4 hfw4
  have HFw4 := Lib.hid (hf.trans hfw4 (fun x hx _ => hx))
  clear hb hf hfw4
  have HB2 := Lib.hid hbw4
  clear hbw4
  clear wd
  (try simp only [Act.put])
  have HB1 := Lib.hid (HB1.out.keep HFw4.out (by simp))
  have HB3 := Lib.hid (HB3.out.keep HFw4.out (by simp))
  have HB4 := Lib.hid (HB4.out.keep HFw4.out (by simp))
  have HFS : Hid (Fr [w.heap.size, w.heap.size + 1] w2 w4) := Lib.hid ((HFw3.out.mono (T := [w.heap.size, w.heap.size + 1]) (by simp)).trans HFw4.out (by simp))
  have HF4 : Hid (Fr [] w w4) := Lib.hid ((HF0.out.and HF2.out (by simp)).trans HFS.out (fun x hx hl => by simp at hx; omega))
  have HP4 := Lib.hid (HP1.out.keep HFS.out (fun a ha => by have h1 := (HA1.out a.block (by simp [bk, ha])).1; have h2 := HWS.out; simp; omega))
  have HQ4 := Lib.hid (HQ1.out.keep HFS.out (fun a ha => by have h1 := (HA2.out a.block (by simp [bk, ha])).1; have h2 := HWS.out; simp; omega))
  have HA4 : Hid (∀ k ∈ bk A1, k < w4.heap.size) := Lib.hid (fun k hk => Nat.lt_of_lt_of_le (HA1.out k hk).2 HFS.out.size)
  have HA4' : Hid (∀ k ∈ bk A2, k < w4.heap.size) := Lib.hid (fun k hk => Nat.lt_of_lt_of_le (HA2.out k hk).2 HFS.out.size)
  have HK4 := Lib.hid (HK.out.keep HF4.out (by simp))
  clear HFw3 HFw4 HP1 HQ1 HA1 HA2 HF2 HFS HWA
  have hof1 := fun W (hW : Fr [] w4 W) => of_any C1 S1 (by omega) (by omega) (by omega) (by omega) ha HAL.out A1 p1.length c1 p1 W (HP4.out.keep hW (by simp)) (fun k hk => by have := HA4.out k hk; have := hW.size; omega) (by have := H60.out; omega) (HK4.out.keep hW (by simp))
  have hof2 := fun W (hW : Fr [] w4 W) => of_any C2 S2 (by omega) (by omega) (by omega) (by omega) hb HBL.out A2 q1.length c2 q1 W (HQ4.out.keep hW (by simp)) (fun k hk => by have := HA4'.out k hk; have := hW.size; omega) (by have := H60'.out; omega) (HK4.out.keep hW (by simp))
  have hmat := fun W (hW : Fr [] w4 W) (D : List UInt8) (hD : D.length = 32) => matches_any D hD C2 S2 ⟨⟨by omega, by omega⟩, ⟨by omega, by omega⟩⟩ 0 A2 q1.length c2 q1 hb HBL.out W (HQ4.out.keep hW (by simp)) (fun k hk => by have := HA4'.out k hk; have := hW.size; omega) (by have := H60'.out; omega) (HK4.out.keep hW (by simp))
  have hsame : C1 = C2 → S1 = S2 → ha = hb → p1 = q1 → sumL (ofL C1 S1 ha p1) = sumL (ofL C2 S2 hb q1) := by rintro rfl rfl rfl rfl; rfl
  have hd1 := sumL_len (ofL C1 S1 ha p1)
  have hd2 := sumL_len (ofL C2 S2 hb q1)
  generalize sumL (ofL C1 S1 ha p1) = D1 at *
  generalize sumL (ofL C2 S2 hb q1) = D2 at *


  have HOF1 := Lib.hid hof1
  have HOF2 := Lib.hid hof2
  have HMAT := Lib.hid hmat
  have HSAME := Lib.hid hsame
  have HD1 := Lib.hid hd1
  have HD2 := Lib.hid hd2
  clear hof1 hof2 hmat hsame hd1 hd2
  have HR1 := Lib.hid (show w4.rangeAt w.heap.size 0 [.int .i64 C1, .int .i64 S1] from HB1.out.range)
  have HR2 := Lib.hid (show w4.rangeAt (w.heap.size + 1) 0 [.int .i64 C2, .int .i64 S2] from HB2.out.range)
  have HR3 : Hid (w4.rangeAt (w.heap.size + 2) 0 (ha.map by8)) := Lib.hid (by have h := HB3.out; rw [← HGA.out] at h; exact h.range)
  have HR4 : Hid (w4.rangeAt (w.heap.size + 3) 0 (hb.map by8)) := Lib.hid (by have h := HB4.out; rw [← HGB.out] at h; exact h.range)
  go_upto_region 4 with (fail)
  go_cut [13, 14] (fun s13 s14 wx => ∃ g13 g14, s13 = .pointer (some ⟨g13, 0, none⟩) ∧ s14 = .pointer (some ⟨g14, 0, none⟩) ∧ Blk wx g13 26 (D1.map by8).toArray ∧ Blk wx g14 26 (D2.map by8).toArray ∧ Fr [] w4 wx)
  case first =>
    refine wp_region_held_drew (S := Fr [] w4) (by kernel_rfl) (Fr.drew (Fr.refl _ w4)) (fun hHeld => ?_)
    refine row_at (i := 0) rfl (by kernel_rfl) (by rfl) _ _ rfl _ _ rfl _ (fun w1 hw1 => hw1.range (HR1.out) (by first | (simp; done) | exact HNS.out | exact HNW.out | (intro hm; have hlt := HSB.out _ hm; (try dsimp only at hlt); omega))) (row_name) (fun _ _ _ h => h) hHeld ?_
    simp only [Act.put, List.setIfInBounds_toArray, List.set_cons_zero, List.set_cons_succ]
    refine row_at (i := 1) rfl (by kernel_rfl) (by rfl) _ _ rfl _ _ rfl _ (fun w1 hw1 => hw1.range (HR3.out) (by first | (simp; done) | exact HNS.out | exact HNW.out | (intro hm; have hlt := HSB.out _ hm; (try dsimp only at hlt); omega))) (row_hash.of (by rw [List.length_map]; exact HAL.out)) (fun _ _ _ h => h) hHeld ?_
    simp only [Act.put, List.setIfInBounds_toArray, List.set_cons_zero, List.set_cons_succ]
    refine run_at (i := 2) (v := ?_) rfl (by kernel_rfl) (by rfl) (fun _ _ _ h => h) hHeld (fun w1 hw1 => ?_) ?_
    rotate_left 1
    · skip
      go_simp
      (try (first | with_reducible rfl | (apply And.intro <;> rfl)))
    simp only [Act.put, List.setIfInBounds_toArray, List.set_cons_zero, List.set_cons_succ]
    refine row_at (i := 4) rfl (by kernel_rfl) (by rfl) _ _ rfl _ _ rfl _ (fun w1 hw1 => hw1.range (HR2.out) (by first | (simp; done) | exact HNS.out | exact HNW.out | (intro hm; have hlt := HSB.out _ hm; (try dsimp only at hlt); omega))) (row_name) (fun _ _ _ h => h) hHeld ?_
    simp only [Act.put, List.setIfInBounds_toArray, List.set_cons_zero, List.set_cons_succ]
    refine row_at (i := 5) rfl (by kernel_rfl) (by rfl) _ _ rfl _ _ rfl _ (fun w1 hw1 => hw1.range (HR4.out) (by first | (simp; done) | exact HNS.out | exact HNW.out | (intro hm; have hlt := HSB.out _ hm; (try dsimp only at hlt); omega))) (row_hash.of (by rw [List.length_map]; exact HBL.out)) (fun _ _ _ h => h) hHeld ?_
    simp only [Act.put, List.setIfInBounds_toArray, List.set_cons_zero, List.set_cons_succ]
    refine run_at (i := 6) (v := ?_) rfl (by kernel_rfl) (by rfl) (fun _ _ _ h => h) hHeld (fun w1 hw1 => ?_) ?_
    rotate_left 1
    · skip
      go_simp
      (try (first | with_reducible rfl | (apply And.intro <;> rfl)))
    simp only [Act.put, List.setIfInBounds_toArray, List.set_cons_zero, List.set_cons_succ]
    refine three_at (i := 3) (j := 8) (k := 9) rfl rfl rfl (by kernel_rfl) (by rfl) (by rfl) (by rfl) (fun K hK => ?_) (fun K hK => ?_) (fun K hK => ?_)
    · skip
      refine wp_call (f := ?_) (args := ?_) ?_ ?_
      rotate_left 2
      · go_simp
        (try (first | with_reducible rfl | (apply And.intro <;> rfl)))
      refine (HOF1.out _ hHeld).mono ?_
      rintro e v0 ⟨rfl, hfn⟩
      refine ⟨_, rfl, hK.out _ _ (hHeld.and hfn (by simp)) (fun hHeld => ?_)⟩
      clear hK K
      simp only [Act.put, List.setIfInBounds_toArray, List.set_cons_zero, List.set_cons_succ]
      clear hfn
      refine three_at (i := 7) (j := 8) (k := 9) rfl rfl rfl (by kernel_rfl) (by rfl) (by rfl) (by rfl) (fun K hK => ?_) (fun K hK => ?_) (fun K hK => ?_)
      · skip
        refine wp_call (f := ?_) (args := ?_) ?_ ?_
        rotate_left 2
        · go_simp
          (try (first | with_reducible rfl | (apply And.intro <;> rfl)))
        refine (HOF2.out _ hHeld).mono ?_
        rintro e v1 ⟨rfl, hfn⟩
        refine ⟨_, rfl, hK.out _ _ (hHeld.and hfn (by simp)) (fun hHeld => ?_)⟩
        clear hK K
        simp only [Act.put, List.setIfInBounds_toArray, List.set_cons_zero, List.set_cons_succ]
        clear hfn
        refine two_at (i := 8) (j := 9) rfl rfl (by kernel_rfl) (by rfl) (by rfl) (fun K hK => ?_) (fun K hK => ?_)
        · skip
          refine wp_run (v := ?_) (w' := ?_) ?_ ?_
          rotate_left 2
          · go_simp
            (try (first | with_reducible rfl | (apply And.intro <;> rfl)))
          refine hK.out _ (v1.alloc (Obj.cells zeroH 26)) (hHeld.alloc _) (fun hHeld => ?_)
          clear hK K
          simp only [Act.put, List.setIfInBounds_toArray, List.set_cons_zero, List.set_cons_succ]
          obtain ⟨g13, hg13⟩ : ∃ g, g = v1.heap.size := ⟨_, rfl⟩
          have HG13 : Hid (Blk (v1.alloc (Obj.cells zeroH 26)) g13 26 zeroH) := Lib.hid (by rw [hg13]; exact Blk.new _ _ _)
          have HW13 : Hid (w4.heap.size ≤ g13) := Lib.hid (by rw [hg13]; exact (‹Fr [] w4 v1›).size)
          rw [← hg13]
          clear hg13
          generalize v1.alloc (Obj.cells zeroH 26) = v2 at *
          refine step_at (i := 9) rfl (by kernel_rfl) (by rfl) (fun K hK => ?_)
          refine wp_run (v := ?_) (w' := ?_) ?_ ?_
          rotate_left 2
          · go_simp
            (try (first | with_reducible rfl | (apply And.intro <;> rfl)))
          refine hK.out _ (v2.alloc (Obj.cells zeroH 26)) (hHeld.alloc _) (fun hHeld => ?_)
          clear hK K
          simp only [Act.put, List.setIfInBounds_toArray, List.set_cons_zero, List.set_cons_succ]
          obtain ⟨g14, hg14⟩ : ∃ g, g = v2.heap.size := ⟨_, rfl⟩
          have HNE : Hid (g13 ≠ g14) := Lib.hid (by have h := HG13.out.lt; rw [hg14]; exact Nat.ne_of_lt h)
          have HG14 : Hid (Blk (v2.alloc (Obj.cells zeroH 26)) g14 26 zeroH) := Lib.hid (by rw [hg14]; exact Blk.new _ _ _)
          have HW14 : Hid (w4.heap.size ≤ g14) := Lib.hid (by rw [hg14]; exact (‹Fr [] w4 v2›).size)
          have HG13 := Lib.hid (HG13.out.keep ((Fr.refl [] v2).alloc (Obj.cells zeroH 26)) (by simp))
          rw [← hg14]
          clear hg14
          generalize v2.alloc (Obj.cells zeroH 26) = v3 at *
          refine step_at (i := 10) rfl (by kernel_rfl) (by rfl) (fun K hK => ?_)
          refine wp_store_blk 26 _ _ rfl g13 (D1.map by8).toArray rfl rfl 26 zeroH HG13.out (by rw [hash_sizeS]; simp [HD1.out]) (by rw [zeroH_size]; simp [HD1.out]) (by8_all D1) ?_
          intro wy hby hfy
          refine hK.out _ _ (hHeld.go hfy (by have := HW13.out; simpa using this)) (fun hHeld => ?_)
          clear hK K
          simp only [Act.put, List.setIfInBounds_toArray, List.set_cons_zero, List.set_cons_succ]
          have HG14 := Lib.hid (HG14.out.keep hfy (by have := HNE.out; simp; omega))
          refine step_at (i := 11) rfl (by kernel_rfl) (by rfl) (fun K hK => ?_)
          refine wp_store_blk 26 _ _ rfl g14 (D2.map by8).toArray rfl rfl 26 zeroH HG14.out (by rw [hash_sizeS]; simp [HD2.out]) (by rw [zeroH_size]; simp [HD2.out]) (by8_all D2) ?_
          intro wz hbz hfz
          refine hK.out _ _ (hHeld.go hfz (by have := HW14.out; simpa using this)) (fun hHeld => ?_)
          clear hK K
          simp only [Act.put, List.setIfInBounds_toArray, List.set_cons_zero, List.set_cons_succ]
          refine wpAnyH_done (by kernel_rfl) ?_ _
          go_wp2_with fail
          go_meet
          exact ⟨g13, g14, rfl, rfl, hby.keep hfz (by have := HNE.out; simp; omega), hbz, hHeld⟩
        · skip
          refine wp_run (v := ?_) (w' := ?_) ?_ ?_
          rotate_left 2
          · go_simp
            (try (first | with_reducible rfl | (apply And.intro <;> rfl)))
          refine hK.out _ (v1.alloc (Obj.cells zeroH 26)) (hHeld.alloc _) (fun hHeld => ?_)
          clear hK K
          simp only [Act.put, List.setIfInBounds_toArray, List.set_cons_zero, List.set_cons_succ]
          obtain ⟨g14, hg14⟩ : ∃ g, g = v1.heap.size := ⟨_, rfl⟩
          have HG14 : Hid (Blk (v1.alloc (Obj.cells zeroH 26)) g14 26 zeroH) := Lib.hid (by rw [hg14]; exact Blk.new _ _ _)
          have HW14 : Hid (w4.heap.size ≤ g14) := Lib.hid (by rw [hg14]; exact (‹Fr [] w4 v1›).size)
          rw [← hg14]
          clear hg14
          generalize v1.alloc (Obj.cells zeroH 26) = v2 at *
          refine step_at (i := 8) rfl (by kernel_rfl) (by rfl) (fun K hK => ?_)
          refine wp_run (v := ?_) (w' := ?_) ?_ ?_
          rotate_left 2
          · go_simp
            (try (first | with_reducible rfl | (apply And.intro <;> rfl)))
          refine hK.out _ (v2.alloc (Obj.cells zeroH 26)) (hHeld.alloc _) (fun hHeld => ?_)
          clear hK K
          simp only [Act.put, List.setIfInBounds_toArray, List.set_cons_zero, List.set_cons_succ]
          obtain ⟨g13, hg13⟩ : ∃ g, g = v2.heap.size := ⟨_, rfl⟩
          have HNE : Hid (g14 ≠ g13) := Lib.hid (by have h := HG14.out.lt; rw [hg13]; exact Nat.ne_of_lt h)
          have HG13 : Hid (Blk (v2.alloc (Obj.cells zeroH 26)) g13 26 zeroH) := Lib.hid (by rw [hg13]; exact Blk.new _ _ _)
          have HW13 : Hid (w4.heap.size ≤ g13) := Lib.hid (by rw [hg13]; exact (‹Fr [] w4 v2›).size)
          have HG14 := Lib.hid (HG14.out.keep ((Fr.refl [] v2).alloc (Obj.cells zeroH 26)) (by simp))
          rw [← hg13]
          clear hg13
          generalize v2.alloc (Obj.cells zeroH 26) = v3 at *
          refine step_at (i := 10) rfl (by kernel_rfl) (by rfl) (fun K hK => ?_)
          refine wp_store_blk 26 _ _ rfl g13 (D1.map by8).toArray rfl rfl 26 zeroH HG13.out (by rw [hash_sizeS]; simp [HD1.out]) (by rw [zeroH_size]; simp [HD1.out]) (by8_all D1) ?_
          intro wy hby hfy
          refine hK.out _ _ (hHeld.go hfy (by have := HW13.out; simpa using this)) (fun hHeld => ?_)
          clear hK K
          simp only [Act.put, List.setIfInBounds_toArray, List.set_cons_zero, List.set_cons_succ]
          have HG14 := Lib.hid (HG14.out.keep hfy (by have := HNE.out; simp; omega))
          refine step_at (i := 11) rfl (by kernel_rfl) (by rfl) (fun K hK => ?_)
          refine wp_store_blk 26 _ _ rfl g14 (D2.map by8).toArray rfl rfl 26 zeroH HG14.out (by rw [hash_sizeS]; simp [HD2.out]) (by rw [zeroH_size]; simp [HD2.out]) (by8_all D2) ?_
          intro wz hbz hfz
          refine hK.out _ _ (hHeld.go hfz (by have := HW14.out; simpa using this)) (fun hHeld => ?_)
          clear hK K
          simp only [Act.put, List.setIfInBounds_toArray, List.set_cons_zero, List.set_cons_succ]
          refine wpAnyH_done (by kernel_rfl) ?_ _
          go_wp2_with fail
          go_meet
          exact ⟨g13, g14, rfl, rfl, hby.keep hfz (by have := HNE.out; simp; omega), hbz, hHeld⟩
      · skip
        refine wp_run (v := ?_) (w' := ?_) ?_ ?_
        rotate_left 2
        · go_simp
          (try (first | with_reducible rfl | (apply And.intro <;> rfl)))
        refine hK.out _ (v0.alloc (Obj.cells zeroH 26)) (hHeld.alloc _) (fun hHeld => ?_)
        clear hK K
        simp only [Act.put, List.setIfInBounds_toArray, List.set_cons_zero, List.set_cons_succ]
        obtain ⟨g13, hg13⟩ : ∃ g, g = v0.heap.size := ⟨_, rfl⟩
        have HG13 : Hid (Blk (v0.alloc (Obj.cells zeroH 26)) g13 26 zeroH) := Lib.hid (by rw [hg13]; exact Blk.new _ _ _)
        have HW13 : Hid (w4.heap.size ≤ g13) := Lib.hid (by rw [hg13]; exact (‹Fr [] w4 v0›).size)
        rw [← hg13]
        clear hg13
        generalize v0.alloc (Obj.cells zeroH 26) = v1 at *
        refine two_at (i := 7) (j := 9) rfl rfl (by kernel_rfl) (by rfl) (by rfl) (fun K hK => ?_) (fun K hK => ?_)
        · skip
          refine wp_call (f := ?_) (args := ?_) ?_ ?_
          rotate_left 2
          · go_simp
            (try (first | with_reducible rfl | (apply And.intro <;> rfl)))
          refine (HOF2.out _ hHeld).mono ?_
          rintro e v2 ⟨rfl, hfn⟩
          refine ⟨_, rfl, hK.out _ _ (hHeld.and hfn (by simp)) (fun hHeld => ?_)⟩
          clear hK K
          simp only [Act.put, List.setIfInBounds_toArray, List.set_cons_zero, List.set_cons_succ]
          have HG13 := Lib.hid (HG13.out.keep hfn (by simp))
          clear hfn
          refine step_at (i := 9) rfl (by kernel_rfl) (by rfl) (fun K hK => ?_)
          refine wp_run (v := ?_) (w' := ?_) ?_ ?_
          rotate_left 2
          · go_simp
            (try (first | with_reducible rfl | (apply And.intro <;> rfl)))
          refine hK.out _ (v2.alloc (Obj.cells zeroH 26)) (hHeld.alloc _) (fun hHeld => ?_)
          clear hK K
          simp only [Act.put, List.setIfInBounds_toArray, List.set_cons_zero, List.set_cons_succ]
          obtain ⟨g14, hg14⟩ : ∃ g, g = v2.heap.size := ⟨_, rfl⟩
          have HNE : Hid (g13 ≠ g14) := Lib.hid (by have h := HG13.out.lt; rw [hg14]; exact Nat.ne_of_lt h)
          have HG14 : Hid (Blk (v2.alloc (Obj.cells zeroH 26)) g14 26 zeroH) := Lib.hid (by rw [hg14]; exact Blk.new _ _ _)
          have HW14 : Hid (w4.heap.size ≤ g14) := Lib.hid (by rw [hg14]; exact (‹Fr [] w4 v2›).size)
          have HG13 := Lib.hid (HG13.out.keep ((Fr.refl [] v2).alloc (Obj.cells zeroH 26)) (by simp))
          rw [← hg14]
          clear hg14
          generalize v2.alloc (Obj.cells zeroH 26) = v3 at *
          refine step_at (i := 10) rfl (by kernel_rfl) (by rfl) (fun K hK => ?_)
          refine wp_store_blk 26 _ _ rfl g13 (D1.map by8).toArray rfl rfl 26 zeroH HG13.out (by rw [hash_sizeS]; simp [HD1.out]) (by rw [zeroH_size]; simp [HD1.out]) (by8_all D1) ?_
          intro wy hby hfy
          refine hK.out _ _ (hHeld.go hfy (by have := HW13.out; simpa using this)) (fun hHeld => ?_)
          clear hK K
          simp only [Act.put, List.setIfInBounds_toArray, List.set_cons_zero, List.set_cons_succ]
          have HG14 := Lib.hid (HG14.out.keep hfy (by have := HNE.out; simp; omega))
          refine step_at (i := 11) rfl (by kernel_rfl) (by rfl) (fun K hK => ?_)
          refine wp_store_blk 26 _ _ rfl g14 (D2.map by8).toArray rfl rfl 26 zeroH HG14.out (by rw [hash_sizeS]; simp [HD2.out]) (by rw [zeroH_size]; simp [HD2.out]) (by8_all D2) ?_
          intro wz hbz hfz
          refine hK.out _ _ (hHeld.go hfz (by have := HW14.out; simpa using this)) (fun hHeld => ?_)
          clear hK K
          simp only [Act.put, List.setIfInBounds_toArray, List.set_cons_zero, List.set_cons_succ]
          refine wpAnyH_done (by kernel_rfl) ?_ _
          go_wp2_with fail
          go_meet
          exact ⟨g13, g14, rfl, rfl, hby.keep hfz (by have := HNE.out; simp; omega), hbz, hHeld⟩
        · skip
          refine wp_run (v := ?_) (w' := ?_) ?_ ?_
          rotate_left 2
          · go_simp
            (try (first | with_reducible rfl | (apply And.intro <;> rfl)))
          refine hK.out _ (v1.alloc (Obj.cells zeroH 26)) (hHeld.alloc _) (fun hHeld => ?_)
          clear hK K
          simp only [Act.put, List.setIfInBounds_toArray, List.set_cons_zero, List.set_cons_succ]
          obtain ⟨g14, hg14⟩ : ∃ g, g = v1.heap.size := ⟨_, rfl⟩
          have HNE : Hid (g13 ≠ g14) := Lib.hid (by have h := HG13.out.lt; rw [hg14]; exact Nat.ne_of_lt h)
          have HG14 : Hid (Blk (v1.alloc (Obj.cells zeroH 26)) g14 26 zeroH) := Lib.hid (by rw [hg14]; exact Blk.new _ _ _)
          have HW14 : Hid (w4.heap.size ≤ g14) := Lib.hid (by rw [hg14]; exact (‹Fr [] w4 v1›).size)
          have HG13 := Lib.hid (HG13.out.keep ((Fr.refl [] v1).alloc (Obj.cells zeroH 26)) (by simp))
          rw [← hg14]
          clear hg14
          generalize v1.alloc (Obj.cells zeroH 26) = v2 at *
          refine step_at (i := 7) rfl (by kernel_rfl) (by rfl) (fun K hK => ?_)
          refine wp_call (f := ?_) (args := ?_) ?_ ?_
          rotate_left 2
          · go_simp
            (try (first | with_reducible rfl | (apply And.intro <;> rfl)))
          refine (HOF2.out _ hHeld).mono ?_
          rintro e v3 ⟨rfl, hfn⟩
          refine ⟨_, rfl, hK.out _ _ (hHeld.and hfn (by simp)) (fun hHeld => ?_)⟩
          clear hK K
          simp only [Act.put, List.setIfInBounds_toArray, List.set_cons_zero, List.set_cons_succ]
          have HG13 := Lib.hid (HG13.out.keep hfn (by simp))
          have HG14 := Lib.hid (HG14.out.keep hfn (by simp))
          clear hfn
          refine step_at (i := 10) rfl (by kernel_rfl) (by rfl) (fun K hK => ?_)
          refine wp_store_blk 26 _ _ rfl g13 (D1.map by8).toArray rfl rfl 26 zeroH HG13.out (by rw [hash_sizeS]; simp [HD1.out]) (by rw [zeroH_size]; simp [HD1.out]) (by8_all D1) ?_
          intro wy hby hfy
          refine hK.out _ _ (hHeld.go hfy (by have := HW13.out; simpa using this)) (fun hHeld => ?_)
          clear hK K
          simp only [Act.put, List.setIfInBounds_toArray, List.set_cons_zero, List.set_cons_succ]
          have HG14 := Lib.hid (HG14.out.keep hfy (by have := HNE.out; simp; omega))
          refine step_at (i := 11) rfl (by kernel_rfl) (by rfl) (fun K hK => ?_)
          refine wp_store_blk 26 _ _ rfl g14 (D2.map by8).toArray rfl rfl 26 zeroH HG14.out (by rw [hash_sizeS]; simp [HD2.out]) (by rw [zeroH_size]; simp [HD2.out]) (by8_all D2) ?_
          intro wz hbz hfz
          refine hK.out _ _ (hHeld.go hfz (by have := HW14.out; simpa using this)) (fun hHeld => ?_)
          clear hK K
          simp only [Act.put, List.setIfInBounds_toArray, List.set_cons_zero, List.set_cons_succ]
          refine wpAnyH_done (by kernel_rfl) ?_ _
          go_wp2_with fail
          go_meet
          exact ⟨g13, g14, rfl, rfl, hby.keep hfz (by have := HNE.out; simp; omega), hbz, hHeld⟩
      · skip
        refine wp_run (v := ?_) (w' := ?_) ?_ ?_
        rotate_left 2
        · go_simp
          (try (first | with_reducible rfl | (apply And.intro <;> rfl)))
        refine hK.out _ (v0.alloc (Obj.cells zeroH 26)) (hHeld.alloc _) (fun hHeld => ?_)
        clear hK K
        simp only [Act.put, List.setIfInBounds_toArray, List.set_cons_zero, List.set_cons_succ]
        obtain ⟨g14, hg14⟩ : ∃ g, g = v0.heap.size := ⟨_, rfl⟩
        have HG14 : Hid (Blk (v0.alloc (Obj.cells zeroH 26)) g14 26 zeroH) := Lib.hid (by rw [hg14]; exact Blk.new _ _ _)
        have HW14 : Hid (w4.heap.size ≤ g14) := Lib.hid (by rw [hg14]; exact (‹Fr [] w4 v0›).size)
        rw [← hg14]
        clear hg14
        generalize v0.alloc (Obj.cells zeroH 26) = v1 at *
        refine two_at (i := 7) (j := 8) rfl rfl (by kernel_rfl) (by rfl) (by rfl) (fun K hK => ?_) (fun K hK => ?_)
        · skip
          refine wp_call (f := ?_) (args := ?_) ?_ ?_
          rotate_left 2
          · go_simp
            (try (first | with_reducible rfl | (apply And.intro <;> rfl)))
          refine (HOF2.out _ hHeld).mono ?_
          rintro e v2 ⟨rfl, hfn⟩
          refine ⟨_, rfl, hK.out _ _ (hHeld.and hfn (by simp)) (fun hHeld => ?_)⟩
          clear hK K
          simp only [Act.put, List.setIfInBounds_toArray, List.set_cons_zero, List.set_cons_succ]
          have HG14 := Lib.hid (HG14.out.keep hfn (by simp))
          clear hfn
          refine step_at (i := 8) rfl (by kernel_rfl) (by rfl) (fun K hK => ?_)
          refine wp_run (v := ?_) (w' := ?_) ?_ ?_
          rotate_left 2
          · go_simp
            (try (first | with_reducible rfl | (apply And.intro <;> rfl)))
          refine hK.out _ (v2.alloc (Obj.cells zeroH 26)) (hHeld.alloc _) (fun hHeld => ?_)
          clear hK K
          simp only [Act.put, List.setIfInBounds_toArray, List.set_cons_zero, List.set_cons_succ]
          obtain ⟨g13, hg13⟩ : ∃ g, g = v2.heap.size := ⟨_, rfl⟩
          have HNE : Hid (g14 ≠ g13) := Lib.hid (by have h := HG14.out.lt; rw [hg13]; exact Nat.ne_of_lt h)
          have HG13 : Hid (Blk (v2.alloc (Obj.cells zeroH 26)) g13 26 zeroH) := Lib.hid (by rw [hg13]; exact Blk.new _ _ _)
          have HW13 : Hid (w4.heap.size ≤ g13) := Lib.hid (by rw [hg13]; exact (‹Fr [] w4 v2›).size)
          have HG14 := Lib.hid (HG14.out.keep ((Fr.refl [] v2).alloc (Obj.cells zeroH 26)) (by simp))
          rw [← hg13]
          clear hg13
          generalize v2.alloc (Obj.cells zeroH 26) = v3 at *
          refine step_at (i := 10) rfl (by kernel_rfl) (by rfl) (fun K hK => ?_)
          refine wp_store_blk 26 _ _ rfl g13 (D1.map by8).toArray rfl rfl 26 zeroH HG13.out (by rw [hash_sizeS]; simp [HD1.out]) (by rw [zeroH_size]; simp [HD1.out]) (by8_all D1) ?_
          intro wy hby hfy
          refine hK.out _ _ (hHeld.go hfy (by have := HW13.out; simpa using this)) (fun hHeld => ?_)
          clear hK K
          simp only [Act.put, List.setIfInBounds_toArray, List.set_cons_zero, List.set_cons_succ]
          have HG14 := Lib.hid (HG14.out.keep hfy (by have := HNE.out; simp; omega))
          refine step_at (i := 11) rfl (by kernel_rfl) (by rfl) (fun K hK => ?_)
          refine wp_store_blk 26 _ _ rfl g14 (D2.map by8).toArray rfl rfl 26 zeroH HG14.out (by rw [hash_sizeS]; simp [HD2.out]) (by rw [zeroH_size]; simp [HD2.out]) (by8_all D2) ?_
          intro wz hbz hfz
          refine hK.out _ _ (hHeld.go hfz (by have := HW14.out; simpa using this)) (fun hHeld => ?_)
          clear hK K
          simp only [Act.put, List.setIfInBounds_toArray, List.set_cons_zero, List.set_cons_succ]
          refine wpAnyH_done (by kernel_rfl) ?_ _
          go_wp2_with fail
          go_meet
          exact ⟨g13, g14, rfl, rfl, hby.keep hfz (by have := HNE.out; simp; omega), hbz, hHeld⟩
        · skip
          refine wp_run (v := ?_) (w' := ?_) ?_ ?_
          rotate_left 2
          · go_simp
            (try (first | with_reducible rfl | (apply And.intro <;> rfl)))
          refine hK.out _ (v1.alloc (Obj.cells zeroH 26)) (hHeld.alloc _) (fun hHeld => ?_)
          clear hK K
          simp only [Act.put, List.setIfInBounds_toArray, List.set_cons_zero, List.set_cons_succ]
          obtain ⟨g13, hg13⟩ : ∃ g, g = v1.heap.size := ⟨_, rfl⟩
          have HNE : Hid (g14 ≠ g13) := Lib.hid (by have h := HG14.out.lt; rw [hg13]; exact Nat.ne_of_lt h)
          have HG13 : Hid (Blk (v1.alloc (Obj.cells zeroH 26)) g13 26 zeroH) := Lib.hid (by rw [hg13]; exact Blk.new _ _ _)
          have HW13 : Hid (w4.heap.size ≤ g13) := Lib.hid (by rw [hg13]; exact (‹Fr [] w4 v1›).size)
          have HG14 := Lib.hid (HG14.out.keep ((Fr.refl [] v1).alloc (Obj.cells zeroH 26)) (by simp))
          rw [← hg13]
          clear hg13
          generalize v1.alloc (Obj.cells zeroH 26) = v2 at *
          refine step_at (i := 7) rfl (by kernel_rfl) (by rfl) (fun K hK => ?_)
          refine wp_call (f := ?_) (args := ?_) ?_ ?_
          rotate_left 2
          · go_simp
            (try (first | with_reducible rfl | (apply And.intro <;> rfl)))
          refine (HOF2.out _ hHeld).mono ?_
          rintro e v3 ⟨rfl, hfn⟩
          refine ⟨_, rfl, hK.out _ _ (hHeld.and hfn (by simp)) (fun hHeld => ?_)⟩
          clear hK K
          simp only [Act.put, List.setIfInBounds_toArray, List.set_cons_zero, List.set_cons_succ]
          have HG14 := Lib.hid (HG14.out.keep hfn (by simp))
          have HG13 := Lib.hid (HG13.out.keep hfn (by simp))
          clear hfn
          refine step_at (i := 10) rfl (by kernel_rfl) (by rfl) (fun K hK => ?_)
          refine wp_store_blk 26 _ _ rfl g13 (D1.map by8).toArray rfl rfl 26 zeroH HG13.out (by rw [hash_sizeS]; simp [HD1.out]) (by rw [zeroH_size]; simp [HD1.out]) (by8_all D1) ?_
          intro wy hby hfy
          refine hK.out _ _ (hHeld.go hfy (by have := HW13.out; simpa using this)) (fun hHeld => ?_)
          clear hK K
          simp only [Act.put, List.setIfInBounds_toArray, List.set_cons_zero, List.set_cons_succ]
          have HG14 := Lib.hid (HG14.out.keep hfy (by have := HNE.out; simp; omega))
          refine step_at (i := 11) rfl (by kernel_rfl) (by rfl) (fun K hK => ?_)
          refine wp_store_blk 26 _ _ rfl g14 (D2.map by8).toArray rfl rfl 26 zeroH HG14.out (by rw [hash_sizeS]; simp [HD2.out]) (by rw [zeroH_size]; simp [HD2.out]) (by8_all D2) ?_
          intro wz hbz hfz
          refine hK.out _ _ (hHeld.go hfz (by have := HW14.out; simpa using this)) (fun hHeld => ?_)
          clear hK K
          simp only [Act.put, List.setIfInBounds_toArray, List.set_cons_zero, List.set_cons_succ]
          refine wpAnyH_done (by kernel_rfl) ?_ _
          go_wp2_with fail
          go_meet
          exact ⟨g13, g14, rfl, rfl, hby.keep hfz (by have := HNE.out; simp; omega), hbz, hHeld⟩
    · skip
      refine wp_run (v := ?_) (w' := ?_) ?_ ?_
      rotate_left 2
      · go_simp
        (try (first | with_reducible rfl | (apply And.intro <;> rfl)))
      refine hK.out _ (w4.drew.alloc (Obj.cells zeroH 26)) (hHeld.alloc _) (fun hHeld => ?_)
      clear hK K
      simp only [Act.put, List.setIfInBounds_toArray, List.set_cons_zero, List.set_cons_succ]
      obtain ⟨g13, hg13⟩ : ∃ g, g = w4.heap.size := ⟨_, rfl⟩
      have HG13 : Hid (Blk (w4.drew.alloc (Obj.cells zeroH 26)) g13 26 zeroH) := Lib.hid (by rw [hg13]; exact Blk.new _ _ _)
      have HW13 : Hid (w4.heap.size ≤ g13) := Lib.hid (by rw [hg13]; exact (‹Fr [] w4 w4.drew›).size)
      rw [← hg13]
      clear hg13
      generalize w4.drew.alloc (Obj.cells zeroH 26) = v0 at *
      refine two_at (i := 3) (j := 9) rfl rfl (by kernel_rfl) (by rfl) (by rfl) (fun K hK => ?_) (fun K hK => ?_)
      · skip
        refine wp_call (f := ?_) (args := ?_) ?_ ?_
        rotate_left 2
        · go_simp
          (try (first | with_reducible rfl | (apply And.intro <;> rfl)))
        refine (HOF1.out _ hHeld).mono ?_
        rintro e v1 ⟨rfl, hfn⟩
        refine ⟨_, rfl, hK.out _ _ (hHeld.and hfn (by simp)) (fun hHeld => ?_)⟩
        clear hK K
        simp only [Act.put, List.setIfInBounds_toArray, List.set_cons_zero, List.set_cons_succ]
        have HG13 := Lib.hid (HG13.out.keep hfn (by simp))
        clear hfn
        refine two_at (i := 7) (j := 9) rfl rfl (by kernel_rfl) (by rfl) (by rfl) (fun K hK => ?_) (fun K hK => ?_)
        · skip
          refine wp_call (f := ?_) (args := ?_) ?_ ?_
          rotate_left 2
          · go_simp
            (try (first | with_reducible rfl | (apply And.intro <;> rfl)))
          refine (HOF2.out _ hHeld).mono ?_
          rintro e v2 ⟨rfl, hfn⟩
          refine ⟨_, rfl, hK.out _ _ (hHeld.and hfn (by simp)) (fun hHeld => ?_)⟩
          clear hK K
          simp only [Act.put, List.setIfInBounds_toArray, List.set_cons_zero, List.set_cons_succ]
          have HG13 := Lib.hid (HG13.out.keep hfn (by simp))
          clear hfn
          refine step_at (i := 9) rfl (by kernel_rfl) (by rfl) (fun K hK => ?_)
          refine wp_run (v := ?_) (w' := ?_) ?_ ?_
          rotate_left 2
          · go_simp
            (try (first | with_reducible rfl | (apply And.intro <;> rfl)))
          refine hK.out _ (v2.alloc (Obj.cells zeroH 26)) (hHeld.alloc _) (fun hHeld => ?_)
          clear hK K
          simp only [Act.put, List.setIfInBounds_toArray, List.set_cons_zero, List.set_cons_succ]
          obtain ⟨g14, hg14⟩ : ∃ g, g = v2.heap.size := ⟨_, rfl⟩
          have HNE : Hid (g13 ≠ g14) := Lib.hid (by have h := HG13.out.lt; rw [hg14]; exact Nat.ne_of_lt h)
          have HG14 : Hid (Blk (v2.alloc (Obj.cells zeroH 26)) g14 26 zeroH) := Lib.hid (by rw [hg14]; exact Blk.new _ _ _)
          have HW14 : Hid (w4.heap.size ≤ g14) := Lib.hid (by rw [hg14]; exact (‹Fr [] w4 v2›).size)
          have HG13 := Lib.hid (HG13.out.keep ((Fr.refl [] v2).alloc (Obj.cells zeroH 26)) (by simp))
          rw [← hg14]
          clear hg14
          generalize v2.alloc (Obj.cells zeroH 26) = v3 at *
          refine step_at (i := 10) rfl (by kernel_rfl) (by rfl) (fun K hK => ?_)
          refine wp_store_blk 26 _ _ rfl g13 (D1.map by8).toArray rfl rfl 26 zeroH HG13.out (by rw [hash_sizeS]; simp [HD1.out]) (by rw [zeroH_size]; simp [HD1.out]) (by8_all D1) ?_
          intro wy hby hfy
          refine hK.out _ _ (hHeld.go hfy (by have := HW13.out; simpa using this)) (fun hHeld => ?_)
          clear hK K
          simp only [Act.put, List.setIfInBounds_toArray, List.set_cons_zero, List.set_cons_succ]
          have HG14 := Lib.hid (HG14.out.keep hfy (by have := HNE.out; simp; omega))
          refine step_at (i := 11) rfl (by kernel_rfl) (by rfl) (fun K hK => ?_)
          refine wp_store_blk 26 _ _ rfl g14 (D2.map by8).toArray rfl rfl 26 zeroH HG14.out (by rw [hash_sizeS]; simp [HD2.out]) (by rw [zeroH_size]; simp [HD2.out]) (by8_all D2) ?_
          intro wz hbz hfz
          refine hK.out _ _ (hHeld.go hfz (by have := HW14.out; simpa using this)) (fun hHeld => ?_)
          clear hK K
          simp only [Act.put, List.setIfInBounds_toArray, List.set_cons_zero, List.set_cons_succ]
          refine wpAnyH_done (by kernel_rfl) ?_ _
          go_wp2_with fail
          go_meet
          exact ⟨g13, g14, rfl, rfl, hby.keep hfz (by have := HNE.out; simp; omega), hbz, hHeld⟩
        · skip
          refine wp_run (v := ?_) (w' := ?_) ?_ ?_
          rotate_left 2
          · go_simp
            (try (first | with_reducible rfl | (apply And.intro <;> rfl)))
          refine hK.out _ (v1.alloc (Obj.cells zeroH 26)) (hHeld.alloc _) (fun hHeld => ?_)
          clear hK K
          simp only [Act.put, List.setIfInBounds_toArray, List.set_cons_zero, List.set_cons_succ]
          obtain ⟨g14, hg14⟩ : ∃ g, g = v1.heap.size := ⟨_, rfl⟩
          have HNE : Hid (g13 ≠ g14) := Lib.hid (by have h := HG13.out.lt; rw [hg14]; exact Nat.ne_of_lt h)
          have HG14 : Hid (Blk (v1.alloc (Obj.cells zeroH 26)) g14 26 zeroH) := Lib.hid (by rw [hg14]; exact Blk.new _ _ _)
          have HW14 : Hid (w4.heap.size ≤ g14) := Lib.hid (by rw [hg14]; exact (‹Fr [] w4 v1›).size)
          have HG13 := Lib.hid (HG13.out.keep ((Fr.refl [] v1).alloc (Obj.cells zeroH 26)) (by simp))
          rw [← hg14]
          clear hg14
          generalize v1.alloc (Obj.cells zeroH 26) = v2 at *
          refine step_at (i := 7) rfl (by kernel_rfl) (by rfl) (fun K hK => ?_)
          refine wp_call (f := ?_) (args := ?_) ?_ ?_
          rotate_left 2
          · go_simp
            (try (first | with_reducible rfl | (apply And.intro <;> rfl)))
          refine (HOF2.out _ hHeld).mono ?_
          rintro e v3 ⟨rfl, hfn⟩
          refine ⟨_, rfl, hK.out _ _ (hHeld.and hfn (by simp)) (fun hHeld => ?_)⟩
          clear hK K
          simp only [Act.put, List.setIfInBounds_toArray, List.set_cons_zero, List.set_cons_succ]
          have HG13 := Lib.hid (HG13.out.keep hfn (by simp))
          have HG14 := Lib.hid (HG14.out.keep hfn (by simp))
          clear hfn
          refine step_at (i := 10) rfl (by kernel_rfl) (by rfl) (fun K hK => ?_)
          refine wp_store_blk 26 _ _ rfl g13 (D1.map by8).toArray rfl rfl 26 zeroH HG13.out (by rw [hash_sizeS]; simp [HD1.out]) (by rw [zeroH_size]; simp [HD1.out]) (by8_all D1) ?_
          intro wy hby hfy
          refine hK.out _ _ (hHeld.go hfy (by have := HW13.out; simpa using this)) (fun hHeld => ?_)
          clear hK K
          simp only [Act.put, List.setIfInBounds_toArray, List.set_cons_zero, List.set_cons_succ]
          have HG14 := Lib.hid (HG14.out.keep hfy (by have := HNE.out; simp; omega))
          refine step_at (i := 11) rfl (by kernel_rfl) (by rfl) (fun K hK => ?_)
          refine wp_store_blk 26 _ _ rfl g14 (D2.map by8).toArray rfl rfl 26 zeroH HG14.out (by rw [hash_sizeS]; simp [HD2.out]) (by rw [zeroH_size]; simp [HD2.out]) (by8_all D2) ?_
          intro wz hbz hfz
          refine hK.out _ _ (hHeld.go hfz (by have := HW14.out; simpa using this)) (fun hHeld => ?_)
          clear hK K
          simp only [Act.put, List.setIfInBounds_toArray, List.set_cons_zero, List.set_cons_succ]
          refine wpAnyH_done (by kernel_rfl) ?_ _
          go_wp2_with fail
          go_meet
          exact ⟨g13, g14, rfl, rfl, hby.keep hfz (by have := HNE.out; simp; omega), hbz, hHeld⟩
      · skip
        refine wp_run (v := ?_) (w' := ?_) ?_ ?_
        rotate_left 2
        · go_simp
          (try (first | with_reducible rfl | (apply And.intro <;> rfl)))
        refine hK.out _ (v0.alloc (Obj.cells zeroH 26)) (hHeld.alloc _) (fun hHeld => ?_)
        clear hK K
        simp only [Act.put, List.setIfInBounds_toArray, List.set_cons_zero, List.set_cons_succ]
        obtain ⟨g14, hg14⟩ : ∃ g, g = v0.heap.size := ⟨_, rfl⟩
        have HNE : Hid (g13 ≠ g14) := Lib.hid (by have h := HG13.out.lt; rw [hg14]; exact Nat.ne_of_lt h)
        have HG14 : Hid (Blk (v0.alloc (Obj.cells zeroH 26)) g14 26 zeroH) := Lib.hid (by rw [hg14]; exact Blk.new _ _ _)
        have HW14 : Hid (w4.heap.size ≤ g14) := Lib.hid (by rw [hg14]; exact (‹Fr [] w4 v0›).size)
        have HG13 := Lib.hid (HG13.out.keep ((Fr.refl [] v0).alloc (Obj.cells zeroH 26)) (by simp))
        rw [← hg14]
        clear hg14
        generalize v0.alloc (Obj.cells zeroH 26) = v1 at *
        refine step_at (i := 3) rfl (by kernel_rfl) (by rfl) (fun K hK => ?_)
        refine wp_call (f := ?_) (args := ?_) ?_ ?_
        rotate_left 2
        · go_simp
          (try (first | with_reducible rfl | (apply And.intro <;> rfl)))
        refine (HOF1.out _ hHeld).mono ?_
        rintro e v2 ⟨rfl, hfn⟩
        refine ⟨_, rfl, hK.out _ _ (hHeld.and hfn (by simp)) (fun hHeld => ?_)⟩
        clear hK K
        simp only [Act.put, List.setIfInBounds_toArray, List.set_cons_zero, List.set_cons_succ]
        have HG13 := Lib.hid (HG13.out.keep hfn (by simp))
        have HG14 := Lib.hid (HG14.out.keep hfn (by simp))
        clear hfn
        refine step_at (i := 7) rfl (by kernel_rfl) (by rfl) (fun K hK => ?_)
        refine wp_call (f := ?_) (args := ?_) ?_ ?_
        rotate_left 2
        · go_simp
          (try (first | with_reducible rfl | (apply And.intro <;> rfl)))
        refine (HOF2.out _ hHeld).mono ?_
        rintro e v3 ⟨rfl, hfn⟩
        refine ⟨_, rfl, hK.out _ _ (hHeld.and hfn (by simp)) (fun hHeld => ?_)⟩
        clear hK K
        simp only [Act.put, List.setIfInBounds_toArray, List.set_cons_zero, List.set_cons_succ]
        have HG13 := Lib.hid (HG13.out.keep hfn (by simp))
        have HG14 := Lib.hid (HG14.out.keep hfn (by simp))
        clear hfn
        refine step_at (i := 10) rfl (by kernel_rfl) (by rfl) (fun K hK => ?_)
        refine wp_store_blk 26 _ _ rfl g13 (D1.map by8).toArray rfl rfl 26 zeroH HG13.out (by rw [hash_sizeS]; simp [HD1.out]) (by rw [zeroH_size]; simp [HD1.out]) (by8_all D1) ?_
        intro wy hby hfy
        refine hK.out _ _ (hHeld.go hfy (by have := HW13.out; simpa using this)) (fun hHeld => ?_)
        clear hK K
        simp only [Act.put, List.setIfInBounds_toArray, List.set_cons_zero, List.set_cons_succ]
        have HG14 := Lib.hid (HG14.out.keep hfy (by have := HNE.out; simp; omega))
        refine step_at (i := 11) rfl (by kernel_rfl) (by rfl) (fun K hK => ?_)
        refine wp_store_blk 26 _ _ rfl g14 (D2.map by8).toArray rfl rfl 26 zeroH HG14.out (by rw [hash_sizeS]; simp [HD2.out]) (by rw [zeroH_size]; simp [HD2.out]) (by8_all D2) ?_
        intro wz hbz hfz
        refine hK.out _ _ (hHeld.go hfz (by have := HW14.out; simpa using this)) (fun hHeld => ?_)
        clear hK K
        simp only [Act.put, List.setIfInBounds_toArray, List.set_cons_zero, List.set_cons_succ]
        refine wpAnyH_done (by kernel_rfl) ?_ _
        go_wp2_with fail
        go_meet
        exact ⟨g13, g14, rfl, rfl, hby.keep hfz (by have := HNE.out; simp; omega), hbz, hHeld⟩
    · skip
      refine wp_run (v := ?_) (w' := ?_) ?_ ?_
      rotate_left 2
      · go_simp
        (try (first | with_reducible rfl | (apply And.intro <;> rfl)))
      refine hK.out _ (w4.drew.alloc (Obj.cells zeroH 26)) (hHeld.alloc _) (fun hHeld => ?_)
      clear hK K
      simp only [Act.put, List.setIfInBounds_toArray, List.set_cons_zero, List.set_cons_succ]
      obtain ⟨g14, hg14⟩ : ∃ g, g = w4.heap.size := ⟨_, rfl⟩
      have HG14 : Hid (Blk (w4.drew.alloc (Obj.cells zeroH 26)) g14 26 zeroH) := Lib.hid (by rw [hg14]; exact Blk.new _ _ _)
      have HW14 : Hid (w4.heap.size ≤ g14) := Lib.hid (by rw [hg14]; exact (‹Fr [] w4 w4.drew›).size)
      rw [← hg14]
      clear hg14
      generalize w4.drew.alloc (Obj.cells zeroH 26) = v0 at *
      refine two_at (i := 3) (j := 8) rfl rfl (by kernel_rfl) (by rfl) (by rfl) (fun K hK => ?_) (fun K hK => ?_)
      · skip
        refine wp_call (f := ?_) (args := ?_) ?_ ?_
        rotate_left 2
        · go_simp
          (try (first | with_reducible rfl | (apply And.intro <;> rfl)))
        refine (HOF1.out _ hHeld).mono ?_
        rintro e v1 ⟨rfl, hfn⟩
        refine ⟨_, rfl, hK.out _ _ (hHeld.and hfn (by simp)) (fun hHeld => ?_)⟩
        clear hK K
        simp only [Act.put, List.setIfInBounds_toArray, List.set_cons_zero, List.set_cons_succ]
        have HG14 := Lib.hid (HG14.out.keep hfn (by simp))
        clear hfn
        refine two_at (i := 7) (j := 8) rfl rfl (by kernel_rfl) (by rfl) (by rfl) (fun K hK => ?_) (fun K hK => ?_)
        · skip
          refine wp_call (f := ?_) (args := ?_) ?_ ?_
          rotate_left 2
          · go_simp
            (try (first | with_reducible rfl | (apply And.intro <;> rfl)))
          refine (HOF2.out _ hHeld).mono ?_
          rintro e v2 ⟨rfl, hfn⟩
          refine ⟨_, rfl, hK.out _ _ (hHeld.and hfn (by simp)) (fun hHeld => ?_)⟩
          clear hK K
          simp only [Act.put, List.setIfInBounds_toArray, List.set_cons_zero, List.set_cons_succ]
          have HG14 := Lib.hid (HG14.out.keep hfn (by simp))
          clear hfn
          refine step_at (i := 8) rfl (by kernel_rfl) (by rfl) (fun K hK => ?_)
          refine wp_run (v := ?_) (w' := ?_) ?_ ?_
          rotate_left 2
          · go_simp
            (try (first | with_reducible rfl | (apply And.intro <;> rfl)))
          refine hK.out _ (v2.alloc (Obj.cells zeroH 26)) (hHeld.alloc _) (fun hHeld => ?_)
          clear hK K
          simp only [Act.put, List.setIfInBounds_toArray, List.set_cons_zero, List.set_cons_succ]
          obtain ⟨g13, hg13⟩ : ∃ g, g = v2.heap.size := ⟨_, rfl⟩
          have HNE : Hid (g14 ≠ g13) := Lib.hid (by have h := HG14.out.lt; rw [hg13]; exact Nat.ne_of_lt h)
          have HG13 : Hid (Blk (v2.alloc (Obj.cells zeroH 26)) g13 26 zeroH) := Lib.hid (by rw [hg13]; exact Blk.new _ _ _)
          have HW13 : Hid (w4.heap.size ≤ g13) := Lib.hid (by rw [hg13]; exact (‹Fr [] w4 v2›).size)
          have HG14 := Lib.hid (HG14.out.keep ((Fr.refl [] v2).alloc (Obj.cells zeroH 26)) (by simp))
          rw [← hg13]
          clear hg13
          generalize v2.alloc (Obj.cells zeroH 26) = v3 at *
          refine step_at (i := 10) rfl (by kernel_rfl) (by rfl) (fun K hK => ?_)
          refine wp_store_blk 26 _ _ rfl g13 (D1.map by8).toArray rfl rfl 26 zeroH HG13.out (by rw [hash_sizeS]; simp [HD1.out]) (by rw [zeroH_size]; simp [HD1.out]) (by8_all D1) ?_
          intro wy hby hfy
          refine hK.out _ _ (hHeld.go hfy (by have := HW13.out; simpa using this)) (fun hHeld => ?_)
          clear hK K
          simp only [Act.put, List.setIfInBounds_toArray, List.set_cons_zero, List.set_cons_succ]
          have HG14 := Lib.hid (HG14.out.keep hfy (by have := HNE.out; simp; omega))
          refine step_at (i := 11) rfl (by kernel_rfl) (by rfl) (fun K hK => ?_)
          refine wp_store_blk 26 _ _ rfl g14 (D2.map by8).toArray rfl rfl 26 zeroH HG14.out (by rw [hash_sizeS]; simp [HD2.out]) (by rw [zeroH_size]; simp [HD2.out]) (by8_all D2) ?_
          intro wz hbz hfz
          refine hK.out _ _ (hHeld.go hfz (by have := HW14.out; simpa using this)) (fun hHeld => ?_)
          clear hK K
          simp only [Act.put, List.setIfInBounds_toArray, List.set_cons_zero, List.set_cons_succ]
          refine wpAnyH_done (by kernel_rfl) ?_ _
          go_wp2_with fail
          go_meet
          exact ⟨g13, g14, rfl, rfl, hby.keep hfz (by have := HNE.out; simp; omega), hbz, hHeld⟩
        · skip
          refine wp_run (v := ?_) (w' := ?_) ?_ ?_
          rotate_left 2
          · go_simp
            (try (first | with_reducible rfl | (apply And.intro <;> rfl)))
          refine hK.out _ (v1.alloc (Obj.cells zeroH 26)) (hHeld.alloc _) (fun hHeld => ?_)
          clear hK K
          simp only [Act.put, List.setIfInBounds_toArray, List.set_cons_zero, List.set_cons_succ]
          obtain ⟨g13, hg13⟩ : ∃ g, g = v1.heap.size := ⟨_, rfl⟩
          have HNE : Hid (g14 ≠ g13) := Lib.hid (by have h := HG14.out.lt; rw [hg13]; exact Nat.ne_of_lt h)
          have HG13 : Hid (Blk (v1.alloc (Obj.cells zeroH 26)) g13 26 zeroH) := Lib.hid (by rw [hg13]; exact Blk.new _ _ _)
          have HW13 : Hid (w4.heap.size ≤ g13) := Lib.hid (by rw [hg13]; exact (‹Fr [] w4 v1›).size)
          have HG14 := Lib.hid (HG14.out.keep ((Fr.refl [] v1).alloc (Obj.cells zeroH 26)) (by simp))
          rw [← hg13]
          clear hg13
          generalize v1.alloc (Obj.cells zeroH 26) = v2 at *
          refine step_at (i := 7) rfl (by kernel_rfl) (by rfl) (fun K hK => ?_)
          refine wp_call (f := ?_) (args := ?_) ?_ ?_
          rotate_left 2
          · go_simp
            (try (first | with_reducible rfl | (apply And.intro <;> rfl)))
          refine (HOF2.out _ hHeld).mono ?_
          rintro e v3 ⟨rfl, hfn⟩
          refine ⟨_, rfl, hK.out _ _ (hHeld.and hfn (by simp)) (fun hHeld => ?_)⟩
          clear hK K
          simp only [Act.put, List.setIfInBounds_toArray, List.set_cons_zero, List.set_cons_succ]
          have HG14 := Lib.hid (HG14.out.keep hfn (by simp))
          have HG13 := Lib.hid (HG13.out.keep hfn (by simp))
          clear hfn
          refine step_at (i := 10) rfl (by kernel_rfl) (by rfl) (fun K hK => ?_)
          refine wp_store_blk 26 _ _ rfl g13 (D1.map by8).toArray rfl rfl 26 zeroH HG13.out (by rw [hash_sizeS]; simp [HD1.out]) (by rw [zeroH_size]; simp [HD1.out]) (by8_all D1) ?_
          intro wy hby hfy
          refine hK.out _ _ (hHeld.go hfy (by have := HW13.out; simpa using this)) (fun hHeld => ?_)
          clear hK K
          simp only [Act.put, List.setIfInBounds_toArray, List.set_cons_zero, List.set_cons_succ]
          have HG14 := Lib.hid (HG14.out.keep hfy (by have := HNE.out; simp; omega))
          refine step_at (i := 11) rfl (by kernel_rfl) (by rfl) (fun K hK => ?_)
          refine wp_store_blk 26 _ _ rfl g14 (D2.map by8).toArray rfl rfl 26 zeroH HG14.out (by rw [hash_sizeS]; simp [HD2.out]) (by rw [zeroH_size]; simp [HD2.out]) (by8_all D2) ?_
          intro wz hbz hfz
          refine hK.out _ _ (hHeld.go hfz (by have := HW14.out; simpa using this)) (fun hHeld => ?_)
          clear hK K
          simp only [Act.put, List.setIfInBounds_toArray, List.set_cons_zero, List.set_cons_succ]
          refine wpAnyH_done (by kernel_rfl) ?_ _
          go_wp2_with fail
          go_meet
          exact ⟨g13, g14, rfl, rfl, hby.keep hfz (by have := HNE.out; simp; omega), hbz, hHeld⟩
      · skip
        refine wp_run (v := ?_) (w' := ?_) ?_ ?_
        rotate_left 2
        · go_simp
          (try (first | with_reducible rfl | (apply And.intro <;> rfl)))
        refine hK.out _ (v0.alloc (Obj.cells zeroH 26)) (hHeld.alloc _) (fun hHeld => ?_)
        clear hK K
        simp only [Act.put, List.setIfInBounds_toArray, List.set_cons_zero, List.set_cons_succ]
        obtain ⟨g13, hg13⟩ : ∃ g, g = v0.heap.size := ⟨_, rfl⟩
        have HNE : Hid (g14 ≠ g13) := Lib.hid (by have h := HG14.out.lt; rw [hg13]; exact Nat.ne_of_lt h)
        have HG13 : Hid (Blk (v0.alloc (Obj.cells zeroH 26)) g13 26 zeroH) := Lib.hid (by rw [hg13]; exact Blk.new _ _ _)
        have HW13 : Hid (w4.heap.size ≤ g13) := Lib.hid (by rw [hg13]; exact (‹Fr [] w4 v0›).size)
        have HG14 := Lib.hid (HG14.out.keep ((Fr.refl [] v0).alloc (Obj.cells zeroH 26)) (by simp))
        rw [← hg13]
        clear hg13
        generalize v0.alloc (Obj.cells zeroH 26) = v1 at *
        refine step_at (i := 3) rfl (by kernel_rfl) (by rfl) (fun K hK => ?_)
        refine wp_call (f := ?_) (args := ?_) ?_ ?_
        rotate_left 2
        · go_simp
          (try (first | with_reducible rfl | (apply And.intro <;> rfl)))
        refine (HOF1.out _ hHeld).mono ?_
        rintro e v2 ⟨rfl, hfn⟩
        refine ⟨_, rfl, hK.out _ _ (hHeld.and hfn (by simp)) (fun hHeld => ?_)⟩
        clear hK K
        simp only [Act.put, List.setIfInBounds_toArray, List.set_cons_zero, List.set_cons_succ]
        have HG14 := Lib.hid (HG14.out.keep hfn (by simp))
        have HG13 := Lib.hid (HG13.out.keep hfn (by simp))
        clear hfn
        refine step_at (i := 7) rfl (by kernel_rfl) (by rfl) (fun K hK => ?_)
        refine wp_call (f := ?_) (args := ?_) ?_ ?_
        rotate_left 2
        · go_simp
          (try (first | with_reducible rfl | (apply And.intro <;> rfl)))
        refine (HOF2.out _ hHeld).mono ?_
        rintro e v3 ⟨rfl, hfn⟩
        refine ⟨_, rfl, hK.out _ _ (hHeld.and hfn (by simp)) (fun hHeld => ?_)⟩
        clear hK K
        simp only [Act.put, List.setIfInBounds_toArray, List.set_cons_zero, List.set_cons_succ]
        have HG14 := Lib.hid (HG14.out.keep hfn (by simp))
        have HG13 := Lib.hid (HG13.out.keep hfn (by simp))
        clear hfn
        refine step_at (i := 10) rfl (by kernel_rfl) (by rfl) (fun K hK => ?_)
        refine wp_store_blk 26 _ _ rfl g13 (D1.map by8).toArray rfl rfl 26 zeroH HG13.out (by rw [hash_sizeS]; simp [HD1.out]) (by rw [zeroH_size]; simp [HD1.out]) (by8_all D1) ?_
        intro wy hby hfy
        refine hK.out _ _ (hHeld.go hfy (by have := HW13.out; simpa using this)) (fun hHeld => ?_)
        clear hK K
        simp only [Act.put, List.setIfInBounds_toArray, List.set_cons_zero, List.set_cons_succ]
        have HG14 := Lib.hid (HG14.out.keep hfy (by have := HNE.out; simp; omega))
        refine step_at (i := 11) rfl (by kernel_rfl) (by rfl) (fun K hK => ?_)
        refine wp_store_blk 26 _ _ rfl g14 (D2.map by8).toArray rfl rfl 26 zeroH HG14.out (by rw [hash_sizeS]; simp [HD2.out]) (by rw [zeroH_size]; simp [HD2.out]) (by8_all D2) ?_
        intro wz hbz hfz
        refine hK.out _ _ (hHeld.go hfz (by have := HW14.out; simpa using this)) (fun hHeld => ?_)
        clear hK K
        simp only [Act.put, List.setIfInBounds_toArray, List.set_cons_zero, List.set_cons_succ]
        refine wpAnyH_done (by kernel_rfl) ?_ _
        go_wp2_with fail
        go_meet
        exact ⟨g13, g14, rfl, rfl, hby.keep hfz (by have := HNE.out; simp; omega), hbz, hHeld⟩
  case rest =>
    obtain ⟨g13, g14, rfl, rfl, hb13, hb14, hf5⟩ := hcut
    obtain ⟨wx, hwx⟩ : ∃ wx, wx = wc := ⟨_, rfl⟩
    subst hwx
    have HG1 := Lib.hid hb13.range
    have HG2 := Lib.hid hb14.range
    have HF5 := Lib.hid hf5
    have HX1 := Lib.hid (hf5.range HR1.out (by simp))
    have HX2 := Lib.hid (hf5.range HR2.out (by simp))
    have HX3 := Lib.hid (hf5.range HR3.out (by simp))
    have HX4 := Lib.hid (hf5.range HR4.out (by simp))
    have HL1 := Lib.hid (show (D1.map by8).length = 32 by rw [List.length_map]; exact HD1.out)
    have HL2 := Lib.hid (show (D2.map by8).length = 32 by rw [List.length_map]; exact HD2.out)
    have HL3 := Lib.hid (show (ha.map by8).length = 32 by rw [List.length_map]; exact HAL.out)
    have HL4 := Lib.hid (show (hb.map by8).length = 32 by rw [List.length_map]; exact HBL.out)
    clear hb13 hb14 hf5
    go_upto_region 5 with (fail)
    go_cut [15] (fun s15 wy => s15 = .bool (decide (C1 = C2 ∧ S1 = S2 ∧ ha = hb ∧ p1 = q1)) ∧ Fr [] wx wy)
    case first =>
      have h0 : ∀ W : World, (Op.equalIn 10000 26 (.agg (ha.map by8).toArray) (.agg (hb.map by8).toArray)).run Tryd.prog W = .ok (decide (ha = hb)) W := hash_eql ha hb HAL.out HBL.out
      by_cases e1 : C1 = C2 ∧ S1 = S2
      · obtain ⟨e1, e2⟩ := e1
        have d1 : (C1 == C2) = true := by simp [e1]
        have d2 : (S1 == S2) = true := by simp [e2]
        by_cases e3 : ha = hb
        · have hq := fun W (hW : W = wx) => same_any A1 A2 p1.length q1.length c1 c2 p1 q1 W (by rw [hW]; exact HP4.out.keep HF5.out (by simp)) (by rw [hW]; exact HQ4.out.keep HF5.out (by simp)) (by have := H60.out; omega)
          have hr : decide (C1 = C2 ∧ S1 = S2 ∧ ha = hb ∧ p1 = q1) = decide (p1 = q1) := by simp [e1, e2, e3]
          have HR := Lib.hid hr
          have HQ := Lib.hid hq
          rw [decide_eq_true e3] at h0
          clear hq hr e1 e2 e3
          go_wp2_with (first
            | (refine wpList_row rfl 46 _ rfl _ _ rfl _ HX1.out row_name ?_)
            | (refine wpList_row rfl 46 _ rfl _ _ rfl _ HX2.out row_name ?_)
            | (refine wpList_row rfl 26 _ rfl _ _ rfl _ HX3.out (row_hash.of HL3.out) ?_)
            | (refine wpList_row rfl 26 _ rfl _ _ rfl _ HX4.out (row_hash.of HL4.out) ?_)
            | (go_at_call 38
               refine (HQ.out _ rfl).mono ?_
               rintro e wy ⟨rfl, k, rfl⟩))
          go_meet
          exact ⟨by rw [HR.out], (Fr.refl [] wx).drewN k⟩
        · have hr : decide (C1 = C2 ∧ S1 = S2 ∧ ha = hb ∧ p1 = q1) = false := by simp [e3]
          have HR := Lib.hid hr
          rw [decide_eq_false e3] at h0
          clear hr e1 e2 e3
          go_wp2_with (first
            | (refine wpList_row rfl 46 _ rfl _ _ rfl _ HX1.out row_name ?_)
            | (refine wpList_row rfl 46 _ rfl _ _ rfl _ HX2.out row_name ?_)
            | (refine wpList_row rfl 26 _ rfl _ _ rfl _ HX3.out (row_hash.of HL3.out) ?_)
            | (refine wpList_row rfl 26 _ rfl _ _ rfl _ HX4.out (row_hash.of HL4.out) ?_))
          go_meet
          exact ⟨by rw [HR.out], Fr.refl [] wx⟩
      · have hr : decide (C1 = C2 ∧ S1 = S2 ∧ ha = hb ∧ p1 = q1) = false := by simp; intro a b; exact absurd ⟨a, b⟩ e1
        have HR := Lib.hid hr
        clear hr h0
        by_cases e4 : C1 = C2
        · have e5 : (C1 == C2) = true := by simp [e4]
          have e6 : (S1 == S2) = false := by simp; intro h; exact e1 ⟨e4, h⟩
          clear e1 e4
          go_wp2_with (first
            | (refine wpList_row rfl 46 _ rfl _ _ rfl _ HX1.out row_name ?_)
            | (refine wpList_row rfl 46 _ rfl _ _ rfl _ HX2.out row_name ?_))
          go_meet
          exact ⟨by rw [HR.out], Fr.refl [] wx⟩
        · have e5 : (C1 == C2) = false := by simp [e4]
          clear e1 e4
          go_wp2_with (first
            | (refine wpList_row rfl 46 _ rfl _ _ rfl _ HX1.out row_name ?_)
            | (refine wpList_row rfl 46 _ rfl _ _ rfl _ HX2.out row_name ?_))
          go_meet
          exact ⟨by rw [HR.out], Fr.refl [] wx⟩
    case rest =>
      obtain ⟨rfl, hf6⟩ := hcut
      obtain ⟨wy, hwy⟩ : ∃ wy, wy = wc := ⟨_, rfl⟩
      subst hwy
      have HY2 := Lib.hid (hf6.range HX2.out (by simp))
      have HY4 := Lib.hid (hf6.range HX4.out (by simp))
      have HYG1 := Lib.hid (hf6.range HG1.out (by simp))
      have HYG2 := Lib.hid (hf6.range HG2.out (by simp))
      have HF6 : Hid (Fr [] w4 wy) := Lib.hid (HF5.out.and hf6 (by simp))
      have HBO := Lib.hid (built_opening A2 q1.length c2 hb HBL.out)
      have heq : ∀ W : World, (Op.equalIn 10000 26 (.agg (D1.map by8).toArray) (.agg (D2.map by8).toArray)).run Tryd.prog W = .ok (decide (D1 = D2)) W := hash_eql D1 D2 HD1.out HD2.out
      have hM := fun W (hW : Fr [] wy W) => HMAT.out W (HF6.out.and hW (by simp)) D1 HD1.out
      clear hf6 HX1 HX2 HX3 HX4 HG1 HG2
      by_cases hB : C1 = C2 ∧ S1 = S2 ∧ ha = hb ∧ p1 = q1
      · have hd := HSAME.out hB.1 hB.2.1 hB.2.2.1 hB.2.2.2
        rw [decide_eq_true hB]
        rw [decide_eq_true hd] at heq hM
        have HM := Lib.hid hM
        clear hB hd hM
        go_wp2_with (first
          | (refine wpList_row rfl 26 _ rfl _ _ rfl _ HYG1.out (row_hash.of HL1.out) ?_)
          | (refine wpList_row rfl 26 _ rfl _ _ rfl _ HYG2.out (row_hash.of HL2.out) ?_)
          | (refine wpList_row rfl 46 _ rfl _ _ rfl _ HY2.out row_name ?_)
          | (refine wpList_row rfl 26 _ rfl _ _ rfl _ HY4.out (row_hash.of HL4.out) ?_)
          | (refine wpList_builtg rfl 59 _ rfl _ _ HBO.out rfl ?_)
          | (go_at_call 33
             refine (HM.out _ (Fr.refl _ _)).mono ?_
             rintro e wz ⟨rfl, hfz⟩
             have HFZ := Lib.hid (HF6.out.and hfz (by simp))
             clear hfz)
          | (go_at_call 28
             refine (cwakes_any _ (HK4.out.keep HFZ.out (by simp))).mono ?_
             rintro e wq ⟨rfl, hfq⟩
             have HFQ := Lib.hid (HFZ.out.and hfq (by simp))
             clear hfq))
        go_ret
        exact ⟨rfl, HF4.out.and HFQ.out (by simp)⟩
      · rw [decide_eq_false hB]
        obtain ⟨d, hd⟩ : ∃ d, d = decide (D1 = D2) := ⟨_, rfl⟩
        rw [← hd] at heq hM
        have HM := Lib.hid hM
        have hdd : (d == d) = true := by simp
        clear hB hd hM
        go_upto_region 8 with (fail)
        refine wp_region_held_drew (S := Fr [] wy) (by kernel_rfl) (Fr.drew (Fr.refl _ wy)) (fun hHeld => ?_)
        refine row_at (i := 0) rfl (by kernel_rfl) (by rfl) _ _ rfl _ _ rfl _ (fun w1 hw1 => hw1.range (HYG1.out) (by first | (simp; done) | exact HNS.out | exact HNW.out | (intro hm; have hlt := HSB.out _ hm; (try dsimp only at hlt); omega))) (row_hash.of HL1.out) (fun _ _ _ h => h) hHeld ?_
        simp only [Act.put, List.setIfInBounds_toArray, List.set_cons_zero, List.set_cons_succ]
        refine row_at (i := 1) rfl (by kernel_rfl) (by rfl) _ _ rfl _ _ rfl _ (fun w1 hw1 => hw1.range (HYG2.out) (by first | (simp; done) | exact HNS.out | exact HNW.out | (intro hm; have hlt := HSB.out _ hm; (try dsimp only at hlt); omega))) (row_hash.of HL2.out) (fun _ _ _ h => h) hHeld ?_
        simp only [Act.put, List.setIfInBounds_toArray, List.set_cons_zero, List.set_cons_succ]
        refine run_at (i := 2) (v := ?_) rfl (by kernel_rfl) (by rfl) (fun _ _ _ h => h) hHeld (fun w1 hw1 => ?_) ?_
        rotate_left 1
        · skip
          go_simp
          (try (first | with_reducible rfl | (apply And.intro <;> rfl)))
        simp only [Act.put, List.setIfInBounds_toArray, List.set_cons_zero, List.set_cons_succ]
        refine row_at (i := 3) rfl (by kernel_rfl) (by rfl) _ _ rfl _ _ rfl _ (fun w1 hw1 => hw1.range (HYG1.out) (by first | (simp; done) | exact HNS.out | exact HNW.out | (intro hm; have hlt := HSB.out _ hm; (try dsimp only at hlt); omega))) (row_hash.of HL1.out) (fun _ _ _ h => h) hHeld ?_
        simp only [Act.put, List.setIfInBounds_toArray, List.set_cons_zero, List.set_cons_succ]
        refine row_at (i := 4) rfl (by kernel_rfl) (by rfl) _ _ rfl _ _ rfl _ (fun w1 hw1 => hw1.range (HY2.out) (by first | (simp; done) | exact HNS.out | exact HNW.out | (intro hm; have hlt := HSB.out _ hm; (try dsimp only at hlt); omega))) (row_name) (fun _ _ _ h => h) hHeld ?_
        simp only [Act.put, List.setIfInBounds_toArray, List.set_cons_zero, List.set_cons_succ]
        refine run_at (i := 5) (v := ?_) rfl (by kernel_rfl) (by rfl) (fun _ _ _ h => h) hHeld (fun w1 hw1 => ?_) ?_
        rotate_left 1
        · skip
          go_simp
          (try (first | with_reducible rfl | (apply And.intro <;> rfl)))
        simp only [Act.put, List.setIfInBounds_toArray, List.set_cons_zero, List.set_cons_succ]
        refine row_at (i := 6) rfl (by kernel_rfl) (by rfl) _ _ rfl _ _ rfl _ (fun w1 hw1 => hw1.range (HY4.out) (by first | (simp; done) | exact HNS.out | exact HNW.out | (intro hm; have hlt := HSB.out _ hm; (try dsimp only at hlt); omega))) (row_hash.of HL4.out) (fun _ _ _ h => h) hHeld ?_
        simp only [Act.put, List.setIfInBounds_toArray, List.set_cons_zero, List.set_cons_succ]
        refine build_at (i := 7) rfl (by kernel_rfl) (by rfl) _ _ rfl _ _ (HBO.out) rfl (fun _ _ _ h => h) hHeld ?_
        simp only [Act.put, List.setIfInBounds_toArray, List.set_cons_zero, List.set_cons_succ]
        refine call_at (i := 8) (f := ?_) (args := ?_) rfl (by kernel_rfl) (by rfl) ?_ ?_
        rotate_left 2
        · go_simp
          (try (first | with_reducible rfl | (apply And.intro <;> rfl)))
        refine (HM.out _ hHeld).mono ?_
        rintro e wz ⟨rfl, hfz⟩
        refine ⟨_, rfl, hHeld.and hfz (by simp), fun hHeld => ?_⟩
        clear hfz
        simp only [Act.put, List.setIfInBounds_toArray, List.set_cons_zero, List.set_cons_succ]
        refine run_at (i := 9) (v := ?_) rfl (by kernel_rfl) (by rfl) (fun _ _ _ h => h) hHeld (fun w1 hw1 => ?_) ?_
        rotate_left 1
        · skip
          go_simp
          (try (first | with_reducible rfl | (apply And.intro <;> rfl)))
        simp only [Act.put, List.setIfInBounds_toArray, List.set_cons_zero, List.set_cons_succ]
        refine run_at (i := 10) (v := ?_) rfl (by kernel_rfl) (by rfl) (fun _ _ _ h => h) hHeld (fun w1 hw1 => ?_) ?_
        rotate_left 1
        · skip
          go_simp
          (try (first | with_reducible rfl | (apply And.intro <;> rfl)))
        simp only [Act.put, List.setIfInBounds_toArray, List.set_cons_zero, List.set_cons_succ]
        refine call_at (i := 11) (f := ?_) (args := ?_) rfl (by kernel_rfl) (by rfl) ?_ ?_
        rotate_left 2
        · go_simp
          (try (first | with_reducible rfl | (apply And.intro <;> rfl)))
        refine (cwakes_any _ (HK4.out.keep (HF6.out.and hHeld (by simp)) (by simp))).mono ?_
        rintro e wq ⟨rfl, hfq⟩
        refine ⟨_, rfl, hHeld.and hfq (by simp), fun hHeld => ?_⟩
        clear hfq
        simp only [Act.put, List.setIfInBounds_toArray, List.set_cons_zero, List.set_cons_succ]
        refine run_at (i := 12) (v := ?_) rfl (by kernel_rfl) (by rfl) (fun _ _ _ h => h) hHeld (fun w1 hw1 => ?_) ?_
        rotate_left 1
        · skip
          go_simp
          (try (first | with_reducible rfl | (apply And.intro <;> rfl)))
        simp only [Act.put, List.setIfInBounds_toArray, List.set_cons_zero, List.set_cons_succ]
        refine run_at (i := 13) (v := ?_) rfl (by kernel_rfl) (by rfl) (fun _ _ _ h => h) hHeld (fun w1 hw1 => ?_) ?_
        rotate_left 1
        · skip
          go_simp
          (try (first | with_reducible rfl | (apply And.intro <;> rfl)))
        simp only [Act.put, List.setIfInBounds_toArray, List.set_cons_zero, List.set_cons_succ]
        refine wpAnyH_done (by kernel_rfl) ?_ _
        go_wp2
        go_ret
        exact ⟨rfl, HF4.out.and (HF6.out.and hHeld (by simp)) (by simp)⟩
end Go.Proofs.YtbajkdlemgnmkaaDoor
