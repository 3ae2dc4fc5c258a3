/- The walk of CommitOpens. -/
import Derived.Test.YtbajkdlemgnmkabDoorCmEq
import Derived.Deep.CutBlock
import Derived.StillTailTactics
namespace Go.Proofs.YtbajkdlemgnmkabDoor
open Go.RowKit
set_option maxRecDepth 100000

theorem made_again (c s : Int) (h : List UInt8) : made c s h [] (sgn [] (1000 + c, (made0 c s h []).text)) = made c s h [] [] := by
  unfold made
  congr 1
  simp [sgn, mrk]

set_option maxHeartbeats 8000000 in
theorem commitOpens_walk (w : World) (c s : Int) (hc : i64In c) (hs : i64In s) (ha : List UInt8) (hal : ha.length = 32)
    (A : Option Addr) (n cp : Nat) (p : List UInt8) (hp : By w A n p) (hpc : n ≤ cp) (hpm : cp ≤ maxLen) (at_ : Int) (hat1 : -9223372036854775808 ≤ at_) (hat2 : at_ < 9223372036854775808) (hK : KW w) :
    Calls Tryd.prog 3 #[.agg #[.int .i64 c, .int .i64 s], .agg (ha.map by8).toArray, .slice A n cp, .int .i64 at_] w fun e w' => e = .returned (.bool true) ∧ Fr [] w w' := by
  have HK := Lib.hid hK
  have HC := Lib.hid hc
  have HS := Lib.hid hs
  have HAL := Lib.hid hal
  have HP := Lib.hid hp
  have HPN := Lib.hid (And.intro hpc (Nat.le_trans hpc hpm))
  obtain ⟨wa, hwa⟩ : ∃ wa, wa = (w.alloc (Obj.cells #[.int .i64 c, .int .i64 s] 23)).alloc (Obj.cells (ha.map by8).toArray 25) := ⟨_, rfl⟩
  have hf0 : Fr [] w wa := by rw [hwa]; exact ((Fr.refl [] w).alloc _).alloc _
  have hb1 : Blk wa w.heap.size 23 #[.int .i64 c, .int .i64 s] := by rw [hwa]; exact blk_alloc (Blk.new _ _ _)
  have hb3 : Blk wa (w.heap.size + 1) 25 (ha.map by8).toArray := by
    have := Blk.new (w.alloc (Obj.cells #[.int .i64 c, .int .i64 s] 23)) 25 (ha.map by8).toArray
    rw [hwa]; simpa using this
  have HF0 := Lib.hid hf0
  have HB1 := Lib.hid hb1
  have HB3 := Lib.hid hb3
  have HWS := Lib.hid hb3.lt
  have HWA := Lib.hid hwa
  clear hK hc hs hal hp hpc hpm hwa hf0 hb1 hb3 hat1 hat2
  go_enter Tryd.func3, Tryd.ntmps3
  go_upto_region 1 with (fail)
  change Code.wp _ _ _ _ ((w.alloc (Obj.cells #[.int .i64 c, .int .i64 s] 23)).alloc (Obj.cells (ha.map by8).toArray 25))
  rw [← HWA.out]
  go_wp2_with fail
  rw [show (60 : Int) = ((60 : Nat) : Int) from rfl]
  refine (cut_any A n cp 60 p wa (HP.out.keep HF0.out (by simp)) HPN.out.2 HPN.out.1 (by omega)).mono ?_
  rintro e w1 ⟨A1, c1, rfl, hN1⟩
  have h60 : (p.take 60).length ≤ 60 := List.length_take_le _ _
  generalize p.take 60 = p1 at *
  have HN1 := Lib.hid hN1
  have H60 := Lib.hid h60
  clear hN1 h60
  go_wp2_with fail
  refine (new_any w1).mono ?_
  rintro e w2 ⟨rfl, hbk, hf2⟩
  have HBK := Lib.hid hbk
  have HF2 : Hid (Fr [] wa w2) := Lib.hid (HN1.out.2.1.and hf2 (by simp))
  have HP1 := Lib.hid (HN1.out.by.keep hf2 (by simp))
  have HA1 : Hid (∀ k ∈ bk A1, wa.heap.size ≤ k ∧ k < w1.heap.size) := Lib.hid (fun k hk => ⟨HN1.out.2.2 k hk, HN1.out.lt k hk⟩)
  have HWN : Hid (wa.heap.size ≤ w1.heap.size) := Lib.hid HN1.out.2.1.size
  have HB1 := Lib.hid (HB1.out.keep HF2.out (by simp))
  have HB3 := Lib.hid (HB3.out.keep HF2.out (by simp))
  have HBL := Lib.hid hbk.lt
  clear HN1 HP HPN hbk hf2
  generalize hnb : w1.heap.size = nb at *
  clear hnb
  go_upto_region 5 with (fail)
  have hx0 := HB1.out.cell 0
  have hx1 := HB1.out.cell 1
  have hz0 := HB1.out.frozen 0
  have hz1 := HB1.out.frozen 1
  simp only [List.getElem?_toArray, List.getElem?_cons_zero, List.getElem?_cons_succ] at hx0 hx1
  have k0 : 0 ≤ s % 5 := Int.emod_nonneg _ (by omega)
  have k1 : s % 5 < 5 := Int.emod_lt_of_pos _ (by omega)
  have hwr : IntKind.i64.wrap (1 + s % 5) = 1 + s % 5 := IntWalk.i64_in _ (by omega)
  go_still_tail 8, (by kernel_rfl)
  still_call ((within_pos c 5 HC.out.1 HC.out.2 (by omega) (by omega) _).mono fun _ _ h => ⟨h.1, h.2.symm⟩)
  repeat still_step
  still_call ((within_pos s 5 HS.out.1 HS.out.2 (by omega) (by omega) _).mono fun _ _ h => ⟨h.1, h.2.symm⟩)
  repeat still_step
  refine wpStill_nil ?_
  clear hx0 hx1 hz0 hz1 hwr
  change wpList _ _ _ _ _ w2.drew
  have hb := HB1.out.drew
  have hf := (Fr.refl [w.heap.size] w2).drew
  generalize w2.drew = wd at *
  have h0 : 0 ≤ c % 5 := Int.emod_nonneg _ (by omega)
  have h1 : c % 5 < 5 := Int.emod_lt_of_pos _ (by omega)
  have hS : ∃ S1, S1 = 1 + s % 5 := ⟨_, rfl⟩
  obtain ⟨S1, hS1⟩ := hS
  have h2 : 1 ≤ S1 := by omega
  have h3 : S1 < 6 := by omega
  rw [← hS1]
  generalize c % 5 = C1 at *
  clear hS1 k0 k1
  refine wpList_store_blk rfl 23 _ _ rfl (w.heap.size) #[.int .i64 C1, .int .i64 S1] rfl rfl 23 #[.int .i64 c, .int .i64 s] hb (by kernel_rfl) rfl (by kernel_rfl) ?_
  intro w4 hbw3 hfw3
  have HFw4 := Lib.hid (hf.trans hfw3 (fun x hx _ => hx))
  clear hb hf hfw3
  have HB1 := Lib.hid hbw3
  clear hbw3
  clear wd
  (try simp only [Act.put])
  have HB3 := Lib.hid (HB3.out.keep HFw4.out (by simp))
  have HF4 : Hid (Fr [] w w4) := Lib.hid ((HF0.out.and HF2.out (by simp)).trans HFw4.out (fun x hx hl => by simp at hx; omega))
  have HBK := Lib.hid (HBK.out.keep HFw4.out (fun x hx he => by have := HWN.out; have := HWS.out; simp at hx he; omega))
  have HP4 := Lib.hid (HP1.out.keep HFw4.out (fun a ha => by have h1 := (HA1.out a.block (by simp [bk, ha])).1; have h2 := HWS.out; simp; omega))
  have HA4 : Hid (∀ k ∈ bk A1, k < w4.heap.size) := Lib.hid (fun k hk => by have h1 := (HA1.out k hk).2; have h2 := HBL.out nb (by simp); have := HFw4.out.size; omega)
  have HAN : Hid (∀ k ∈ bk A1, ¬ k ∈ [nb + 1, nb]) := Lib.hid (fun k hk hm => by have h1 := (HA1.out k hk).2; simp at hm; omega)
  have HNS : Hid (¬ w.heap.size ∈ [nb + 1, nb]) := Lib.hid (fun hm => by have := HWN.out; have := HWS.out; simp at hm; omega)
  have HNW : Hid (¬ (w.heap.size + 1) ∈ [nb + 1, nb]) := Lib.hid (fun hm => by have := HWN.out; have := HWS.out; simp at hm; omega)
  have HK4 := Lib.hid (HK.out.keep HF4.out (by simp))
  have HKG : Hid (¬ 0 ∈ [nb + 1, nb]) := Lib.hid (fun hm => by have h1 := World.block_lt_of_cell? w _ (HK.out 0 (by omega)); simp only at h1; have := HWN.out; have := HWS.out; simp at hm; omega)
  have HBS : Hid (∀ k ∈ [nb + 1, nb], w.heap.size ≤ k ∧ k < w4.heap.size) := Lib.hid (fun k hk => by have h2 := HBL.out k hk; have := HFw4.out.size; have := HWN.out; have := HWS.out; simp at hk; omega)
  clear HFw4 HP1 HA1 HF2 HWA HBL
  have hmk1 := fun W (hW : Fr [nb + 1, nb] w4 W) (hb : Bok W [nb + 1, nb] (nb + 1) []) => make_any C1 S1 ⟨by omega, by omega⟩ ⟨by omega, by omega⟩ ha HAL.out A1 p1.length c1 p1 W (HP4.out.keep hW (fun a ha => HAN.out a.block (by simp [bk, ha]))) (fun k hk => by have := HA4.out k hk; have := hW.size; omega) (by have := H60.out; omega) (HK4.out.keep hW HKG.out) [nb + 1, nb] (nb + 1) [] hb (by decide)
  have hmk2 := fun W (hW : Fr [nb + 1, nb] w4 W) (hb : Bok W [nb + 1, nb] (nb + 1) (sgn [] (1000 + C1, (made0 C1 S1 ha p1).text))) => make_any C1 S1 ⟨by omega, by omega⟩ ⟨by omega, by omega⟩ ha HAL.out none 0 0 [] W (By.nil W none) (by simp [bk]) (by omega) (HK4.out.keep hW HKG.out) [nb + 1, nb] (nb + 1) _ hb (by unfold sgn; split <;> simp)
  have hm1 := fun W (hW : Fr [nb + 1, nb] w4 W) => matches_any (made C1 S1 ha p1 []).h (sumL_len _) C1 S1 ⟨⟨by omega, by omega⟩, ⟨by omega, by omega⟩⟩ at_ A1 p1.length c1 p1 ha HAL.out W (HP4.out.keep hW (fun a ha => HAN.out a.block (by simp [bk, ha]))) (fun k hk => by have := HA4.out k hk; have := hW.size; omega) (by have := H60.out; omega) (HK4.out.keep hW HKG.out)
  have hm2 := fun W (hW : Fr [nb + 1, nb] w4 W) => matches_any (made C1 S1 ha [] (sgn [] (1000 + C1, (made0 C1 S1 ha p1).text))).h (sumL_len _) C1 S1 ⟨⟨by omega, by omega⟩, ⟨by omega, by omega⟩⟩ 0 none 0 0 [] ha HAL.out W (By.nil W none) (by simp [bk]) (by omega) (HK4.out.keep hW HKG.out)
  rw [decide_eq_true (show (made C1 S1 ha p1 []).h = sumL (ofL C1 S1 ha p1) from rfl)] at hm1
  rw [decide_eq_true (show (made C1 S1 ha [] (sgn [] (1000 + C1, (made0 C1 S1 ha p1).text))).h = sumL (ofL C1 S1 ha []) from rfl)] at hm2
  have hok1 := made_ok C1 S1 ⟨by omega, by omega⟩ ⟨by omega, by omega⟩ ha p1 (by have := H60.out; omega) [] (by decide)
  have hok2 := made_ok C1 S1 ⟨by omega, by omega⟩ ⟨by omega, by omega⟩ ha [] (by decide) (sgn [] (1000 + C1, (made0 C1 S1 ha p1).text)) (by unfold sgn; split <;> simp)
  have hn1 : (made C1 S1 ha p1 []).n = (p1.length : Int) := rfl
  have hn2 : (made C1 S1 ha [] (sgn [] (1000 + C1, (made0 C1 S1 ha p1).text))).n = 0 := rfl
  have hsame : p1 = [] → made C1 S1 ha p1 [] = made C1 S1 ha [] (sgn [] (1000 + C1, (made0 C1 S1 ha p1).text)) := by rintro rfl; rw [made_again]
  generalize made C1 S1 ha [] (sgn [] (1000 + C1, (made0 C1 S1 ha p1).text)) = x2 at *
  generalize sgn [] (1000 + C1, (made0 C1 S1 ha p1).text) = L1 at *
  generalize made C1 S1 ha p1 [] = x1 at *
  generalize sgn L1 (1000 + C1, (made0 C1 S1 ha []).text) = L2 at *
  have HMK1 := Lib.hid hmk1
  have HMK2 := Lib.hid hmk2
  have HM1 := Lib.hid hm1
  have HM2 := Lib.hid hm2
  have HOK1 := Lib.hid hok1
  have HOK2 := Lib.hid hok2
  have HX1 := Lib.hid hn1
  have HX2 := Lib.hid hn2
  have HSAME := Lib.hid hsame
  have HL1 := Lib.hid (Cm.len hok1.h)
  have HL2 := Lib.hid (Cm.len hok2.h)
  clear hmk1 hmk2 hm1 hm2 hok1 hok2 hn1 hn2 hsame h0 h1 h2 h3
  have HR1 := Lib.hid (show w4.rangeAt w.heap.size 0 [.int .i64 C1, .int .i64 S1] from HB1.out.range)
  have HR3 := Lib.hid (show w4.rangeAt (w.heap.size + 1) 0 (ha.map by8) from HB3.out.range)
  unfold Cm.val at *
  go_upto_region 6 with (fail)
  go_cut [10, 11] (fun s13 s14 wx => ∃ g10 g11, s13 = .pointer (some ⟨g10, 0, none⟩) ∧ s14 = .pointer (some ⟨g11, 0, none⟩) ∧ Blk wx g10 34 x1.cells.toArray ∧ Blk wx g11 34 x2.cells.toArray ∧ Fr [nb + 1, nb] w4 wx)
  case first =>
    refine wp_region_held_drew (S := Fr [nb + 1, nb] w4) (by kernel_rfl) (Fr.drew (Fr.refl _ w4)) (fun hHeld => ?_)
    refine run_at (i := 0) (v := ?_) rfl (by kernel_rfl) (by rfl) (fun _ _ _ h => h) hHeld (fun w1 hw1 => ?_) ?_
    rotate_left 1
    · skip
      go_simp
      (try (first | with_reducible rfl | (apply And.intro <;> rfl)))
    simp only [Act.put, List.setIfInBounds_toArray, List.set_cons_zero, List.set_cons_succ]
    refine row_at (i := 1) rfl (by kernel_rfl) (by rfl) _ _ rfl _ _ rfl _ (fun w1 hw1 => hw1.range (HR1.out) (by first | (simp; done) | exact HNS.out | exact HNW.out | (intro hm; have hlt := HSB.out _ hm; (try dsimp only at hlt); omega))) (row_name) (fun _ _ _ h => h) hHeld ?_
    simp only [Act.put, List.setIfInBounds_toArray, List.set_cons_zero, List.set_cons_succ]
    refine row_at (i := 2) rfl (by kernel_rfl) (by rfl) _ _ rfl _ _ rfl _ (fun w1 hw1 => hw1.range (HR3.out) (by first | (simp; done) | exact HNS.out | exact HNW.out | (intro hm; have hlt := HSB.out _ hm; (try dsimp only at hlt); omega))) (row_hash.of (by rw [List.length_map]; exact HAL.out)) (fun _ _ _ h => h) hHeld ?_
    simp only [Act.put, List.setIfInBounds_toArray, List.set_cons_zero, List.set_cons_succ]
    refine run_at (i := 3) (v := ?_) rfl (by kernel_rfl) (by rfl) (fun _ _ _ h => h) hHeld (fun w1 hw1 => ?_) ?_
    rotate_left 1
    · skip
      go_simp
      (try (first | with_reducible rfl | (apply And.intro <;> rfl)))
    simp only [Act.put, List.setIfInBounds_toArray, List.set_cons_zero, List.set_cons_succ]
    refine run_at (i := 5) (v := ?_) rfl (by kernel_rfl) (by rfl) (fun _ _ _ h => h) hHeld (fun w1 hw1 => ?_) ?_
    rotate_left 1
    · skip
      go_simp
      (try (first | with_reducible rfl | (apply And.intro <;> rfl)))
    simp only [Act.put, List.setIfInBounds_toArray, List.set_cons_zero, List.set_cons_succ]
    refine row_at (i := 6) rfl (by kernel_rfl) (by rfl) _ _ rfl _ _ rfl _ (fun w1 hw1 => hw1.range (HR1.out) (by first | (simp; done) | exact HNS.out | exact HNW.out | (intro hm; have hlt := HSB.out _ hm; (try dsimp only at hlt); omega))) (row_name) (fun _ _ _ h => h) hHeld ?_
    simp only [Act.put, List.setIfInBounds_toArray, List.set_cons_zero, List.set_cons_succ]
    refine row_at (i := 7) rfl (by kernel_rfl) (by rfl) _ _ rfl _ _ rfl _ (fun w1 hw1 => hw1.range (HR3.out) (by first | (simp; done) | exact HNS.out | exact HNW.out | (intro hm; have hlt := HSB.out _ hm; (try dsimp only at hlt); omega))) (row_hash.of (by rw [List.length_map]; exact HAL.out)) (fun _ _ _ h => h) hHeld ?_
    simp only [Act.put, List.setIfInBounds_toArray, List.set_cons_zero, List.set_cons_succ]
    have HBK : Hid (Bok w4.drew [nb + 1, nb] (nb + 1) []) := Lib.hid (HBK.out.keep ((Fr.refl [] w4).drew) (by simp))
    refine three_at (i := 4) (j := 9) (k := 10) rfl rfl rfl (by kernel_rfl) (by rfl) (by rfl) (by rfl) (fun K hK => ?_) (fun K hK => ?_) (fun K hK => ?_)
    · skip
      refine wp_call (f := ?_) (args := ?_) ?_ ?_
      rotate_left 2
      · go_simp
        (try (first | with_reducible rfl | (apply And.intro <;> rfl)))
      refine (HMK1.out _ hHeld HBK.out).mono ?_
      rintro e v0 ⟨rfl, hbn, hfn⟩
      refine ⟨_, rfl, hK.out _ _ (hHeld.trans hfn (fun x hx _ => hx)) (fun hHeld => ?_)⟩
      clear hK K
      simp only [Act.put, List.setIfInBounds_toArray, List.set_cons_zero, List.set_cons_succ]
      have HBK := Lib.hid hbn
      clear hfn hbn
      refine three_at (i := 8) (j := 9) (k := 10) rfl rfl rfl (by kernel_rfl) (by rfl) (by rfl) (by rfl) (fun K hK => ?_) (fun K hK => ?_) (fun K hK => ?_)
      · skip
        refine wp_call (f := ?_) (args := ?_) ?_ ?_
        rotate_left 2
        · go_simp
          (try (first | with_reducible rfl | (apply And.intro <;> rfl)))
        refine (HMK2.out _ hHeld HBK.out).mono ?_
        rintro e v1 ⟨rfl, hbn, hfn⟩
        refine ⟨_, rfl, hK.out _ _ (hHeld.trans hfn (fun x hx _ => hx)) (fun hHeld => ?_)⟩
        clear hK K
        simp only [Act.put, List.setIfInBounds_toArray, List.set_cons_zero, List.set_cons_succ]
        have HBK := Lib.hid hbn
        clear hfn hbn
        refine two_at (i := 9) (j := 10) rfl rfl (by kernel_rfl) (by rfl) (by rfl) (fun K hK => ?_) (fun K hK => ?_)
        · skip
          refine wp_run (v := ?_) (w' := ?_) ?_ ?_
          rotate_left 2
          · go_simp
            (try (first | with_reducible rfl | (apply And.intro <;> rfl)))
          refine hK.out _ (v1.alloc (Obj.cells zeroCm 34)) (hHeld.alloc _) (fun hHeld => ?_)
          clear hK K
          simp only [Act.put, List.setIfInBounds_toArray, List.set_cons_zero, List.set_cons_succ]
          obtain ⟨g10, hg10⟩ : ∃ g, g = v1.heap.size := ⟨_, rfl⟩
          have HG10 : Hid (Blk (v1.alloc (Obj.cells zeroCm 34)) g10 34 zeroCm) := Lib.hid (by rw [hg10]; exact Blk.new _ _ _)
          have HW10 : Hid (w4.heap.size ≤ g10) := Lib.hid (by rw [hg10]; exact (‹Fr [nb + 1, nb] w4 v1›).size)
          have HBK := Lib.hid (HBK.out.keep ((Fr.refl [] v1).alloc (Obj.cells zeroCm 34)) (by simp))
          rw [← hg10]
          clear hg10
          generalize v1.alloc (Obj.cells zeroCm 34) = v2 at *
          refine step_at (i := 10) rfl (by kernel_rfl) (by rfl) (fun K hK => ?_)
          refine wp_run (v := ?_) (w' := ?_) ?_ ?_
          rotate_left 2
          · go_simp
            (try (first | with_reducible rfl | (apply And.intro <;> rfl)))
          refine hK.out _ (v2.alloc (Obj.cells zeroCm 34)) (hHeld.alloc _) (fun hHeld => ?_)
          clear hK K
          simp only [Act.put, List.setIfInBounds_toArray, List.set_cons_zero, List.set_cons_succ]
          obtain ⟨g11, hg11⟩ : ∃ g, g = v2.heap.size := ⟨_, rfl⟩
          have HNE : Hid (g10 ≠ g11) := Lib.hid (by have h := HG10.out.lt; rw [hg11]; exact Nat.ne_of_lt h)
          have HG11 : Hid (Blk (v2.alloc (Obj.cells zeroCm 34)) g11 34 zeroCm) := Lib.hid (by rw [hg11]; exact Blk.new _ _ _)
          have HW11 : Hid (w4.heap.size ≤ g11) := Lib.hid (by rw [hg11]; exact (‹Fr [nb + 1, nb] w4 v2›).size)
          have HG10 := Lib.hid (HG10.out.keep ((Fr.refl [] v2).alloc (Obj.cells zeroCm 34)) (by simp))
          have HBK := Lib.hid (HBK.out.keep ((Fr.refl [] v2).alloc (Obj.cells zeroCm 34)) (by simp))
          rw [← hg11]
          clear hg11
          generalize v2.alloc (Obj.cells zeroCm 34) = v3 at *
          refine step_at (i := 11) rfl (by kernel_rfl) (by rfl) (fun K hK => ?_)
          refine wp_store_blk 34 _ _ rfl g10 x1.cells.toArray rfl rfl 34 zeroCm HG10.out (by rw [List.size_toArray, HL1.out]; kernel_rfl) ((show zeroCm.size = 37 from rfl).trans (by rw [List.size_toArray, HL1.out])) x1.all ?_
          intro wy hby hfy
          refine hK.out _ _ (hHeld.go hfy (by have := HW10.out; simpa using this)) (fun hHeld => ?_)
          clear hK K
          simp only [Act.put, List.setIfInBounds_toArray, List.set_cons_zero, List.set_cons_succ]
          have HG11 := Lib.hid (HG11.out.keep hfy (by have := HNE.out; simp; omega))
          refine step_at (i := 12) rfl (by kernel_rfl) (by rfl) (fun K hK => ?_)
          refine wp_store_blk 34 _ _ rfl g11 x2.cells.toArray rfl rfl 34 zeroCm HG11.out (by rw [List.size_toArray, HL2.out]; kernel_rfl) ((show zeroCm.size = 37 from rfl).trans (by rw [List.size_toArray, HL2.out])) x2.all ?_
          intro wz hbz hfz
          refine hK.out _ _ (hHeld.go hfz (by have := HW11.out; simpa using this)) (fun hHeld => ?_)
          clear hK K
          simp only [Act.put, List.setIfInBounds_toArray, List.set_cons_zero, List.set_cons_succ]
          refine wpAnyH_done (by kernel_rfl) ?_ _
          go_wp2_with fail
          go_meet
          exact ⟨g10, g11, rfl, rfl, hby.keep hfz (by have := HNE.out; simp; omega), hbz, hHeld⟩
        · skip
          refine wp_run (v := ?_) (w' := ?_) ?_ ?_
          rotate_left 2
          · go_simp
            (try (first | with_reducible rfl | (apply And.intro <;> rfl)))
          refine hK.out _ (v1.alloc (Obj.cells zeroCm 34)) (hHeld.alloc _) (fun hHeld => ?_)
          clear hK K
          simp only [Act.put, List.setIfInBounds_toArray, List.set_cons_zero, List.set_cons_succ]
          obtain ⟨g11, hg11⟩ : ∃ g, g = v1.heap.size := ⟨_, rfl⟩
          have HG11 : Hid (Blk (v1.alloc (Obj.cells zeroCm 34)) g11 34 zeroCm) := Lib.hid (by rw [hg11]; exact Blk.new _ _ _)
          have HW11 : Hid (w4.heap.size ≤ g11) := Lib.hid (by rw [hg11]; exact (‹Fr [nb + 1, nb] w4 v1›).size)
          have HBK := Lib.hid (HBK.out.keep ((Fr.refl [] v1).alloc (Obj.cells zeroCm 34)) (by simp))
          rw [← hg11]
          clear hg11
          generalize v1.alloc (Obj.cells zeroCm 34) = v2 at *
          refine step_at (i := 9) rfl (by kernel_rfl) (by rfl) (fun K hK => ?_)
          refine wp_run (v := ?_) (w' := ?_) ?_ ?_
          rotate_left 2
          · go_simp
            (try (first | with_reducible rfl | (apply And.intro <;> rfl)))
          refine hK.out _ (v2.alloc (Obj.cells zeroCm 34)) (hHeld.alloc _) (fun hHeld => ?_)
          clear hK K
          simp only [Act.put, List.setIfInBounds_toArray, List.set_cons_zero, List.set_cons_succ]
          obtain ⟨g10, hg10⟩ : ∃ g, g = v2.heap.size := ⟨_, rfl⟩
          have HNE : Hid (g11 ≠ g10) := Lib.hid (by have h := HG11.out.lt; rw [hg10]; exact Nat.ne_of_lt h)
          have HG10 : Hid (Blk (v2.alloc (Obj.cells zeroCm 34)) g10 34 zeroCm) := Lib.hid (by rw [hg10]; exact Blk.new _ _ _)
          have HW10 : Hid (w4.heap.size ≤ g10) := Lib.hid (by rw [hg10]; exact (‹Fr [nb + 1, nb] w4 v2›).size)
          have HG11 := Lib.hid (HG11.out.keep ((Fr.refl [] v2).alloc (Obj.cells zeroCm 34)) (by simp))
          have HBK := Lib.hid (HBK.out.keep ((Fr.refl [] v2).alloc (Obj.cells zeroCm 34)) (by simp))
          rw [← hg10]
          clear hg10
          generalize v2.alloc (Obj.cells zeroCm 34) = v3 at *
          refine step_at (i := 11) rfl (by kernel_rfl) (by rfl) (fun K hK => ?_)
          refine wp_store_blk 34 _ _ rfl g10 x1.cells.toArray rfl rfl 34 zeroCm HG10.out (by rw [List.size_toArray, HL1.out]; kernel_rfl) ((show zeroCm.size = 37 from rfl).trans (by rw [List.size_toArray, HL1.out])) x1.all ?_
          intro wy hby hfy
          refine hK.out _ _ (hHeld.go hfy (by have := HW10.out; simpa using this)) (fun hHeld => ?_)
          clear hK K
          simp only [Act.put, List.setIfInBounds_toArray, List.set_cons_zero, List.set_cons_succ]
          have HG11 := Lib.hid (HG11.out.keep hfy (by have := HNE.out; simp; omega))
          refine step_at (i := 12) rfl (by kernel_rfl) (by rfl) (fun K hK => ?_)
          refine wp_store_blk 34 _ _ rfl g11 x2.cells.toArray rfl rfl 34 zeroCm HG11.out (by rw [List.size_toArray, HL2.out]; kernel_rfl) ((show zeroCm.size = 37 from rfl).trans (by rw [List.size_toArray, HL2.out])) x2.all ?_
          intro wz hbz hfz
          refine hK.out _ _ (hHeld.go hfz (by have := HW11.out; simpa using this)) (fun hHeld => ?_)
          clear hK K
          simp only [Act.put, List.setIfInBounds_toArray, List.set_cons_zero, List.set_cons_succ]
          refine wpAnyH_done (by kernel_rfl) ?_ _
          go_wp2_with fail
          go_meet
          exact ⟨g10, g11, rfl, rfl, hby.keep hfz (by have := HNE.out; simp; omega), hbz, hHeld⟩
      · skip
        refine wp_run (v := ?_) (w' := ?_) ?_ ?_
        rotate_left 2
        · go_simp
          (try (first | with_reducible rfl | (apply And.intro <;> rfl)))
        refine hK.out _ (v0.alloc (Obj.cells zeroCm 34)) (hHeld.alloc _) (fun hHeld => ?_)
        clear hK K
        simp only [Act.put, List.setIfInBounds_toArray, List.set_cons_zero, List.set_cons_succ]
        obtain ⟨g10, hg10⟩ : ∃ g, g = v0.heap.size := ⟨_, rfl⟩
        have HG10 : Hid (Blk (v0.alloc (Obj.cells zeroCm 34)) g10 34 zeroCm) := Lib.hid (by rw [hg10]; exact Blk.new _ _ _)
        have HW10 : Hid (w4.heap.size ≤ g10) := Lib.hid (by rw [hg10]; exact (‹Fr [nb + 1, nb] w4 v0›).size)
        have HBK := Lib.hid (HBK.out.keep ((Fr.refl [] v0).alloc (Obj.cells zeroCm 34)) (by simp))
        rw [← hg10]
        clear hg10
        generalize v0.alloc (Obj.cells zeroCm 34) = v1 at *
        refine two_at (i := 8) (j := 10) rfl rfl (by kernel_rfl) (by rfl) (by rfl) (fun K hK => ?_) (fun K hK => ?_)
        · skip
          refine wp_call (f := ?_) (args := ?_) ?_ ?_
          rotate_left 2
          · go_simp
            (try (first | with_reducible rfl | (apply And.intro <;> rfl)))
          refine (HMK2.out _ hHeld HBK.out).mono ?_
          rintro e v2 ⟨rfl, hbn, hfn⟩
          refine ⟨_, rfl, hK.out _ _ (hHeld.trans hfn (fun x hx _ => hx)) (fun hHeld => ?_)⟩
          clear hK K
          simp only [Act.put, List.setIfInBounds_toArray, List.set_cons_zero, List.set_cons_succ]
          have HBK := Lib.hid hbn
          have HG10 := Lib.hid (HG10.out.keep hfn (fun hm => by have h1 := HBS.out _ hm; have h2 := HW10.out; omega))
          clear hfn hbn
          refine step_at (i := 10) rfl (by kernel_rfl) (by rfl) (fun K hK => ?_)
          refine wp_run (v := ?_) (w' := ?_) ?_ ?_
          rotate_left 2
          · go_simp
            (try (first | with_reducible rfl | (apply And.intro <;> rfl)))
          refine hK.out _ (v2.alloc (Obj.cells zeroCm 34)) (hHeld.alloc _) (fun hHeld => ?_)
          clear hK K
          simp only [Act.put, List.setIfInBounds_toArray, List.set_cons_zero, List.set_cons_succ]
          obtain ⟨g11, hg11⟩ : ∃ g, g = v2.heap.size := ⟨_, rfl⟩
          have HNE : Hid (g10 ≠ g11) := Lib.hid (by have h := HG10.out.lt; rw [hg11]; exact Nat.ne_of_lt h)
          have HG11 : Hid (Blk (v2.alloc (Obj.cells zeroCm 34)) g11 34 zeroCm) := Lib.hid (by rw [hg11]; exact Blk.new _ _ _)
          have HW11 : Hid (w4.heap.size ≤ g11) := Lib.hid (by rw [hg11]; exact (‹Fr [nb + 1, nb] w4 v2›).size)
          have HG10 := Lib.hid (HG10.out.keep ((Fr.refl [] v2).alloc (Obj.cells zeroCm 34)) (by simp))
          have HBK := Lib.hid (HBK.out.keep ((Fr.refl [] v2).alloc (Obj.cells zeroCm 34)) (by simp))
          rw [← hg11]
          clear hg11
          generalize v2.alloc (Obj.cells zeroCm 34) = v3 at *
          refine step_at (i := 11) rfl (by kernel_rfl) (by rfl) (fun K hK => ?_)
          refine wp_store_blk 34 _ _ rfl g10 x1.cells.toArray rfl rfl 34 zeroCm HG10.out (by rw [List.size_toArray, HL1.out]; kernel_rfl) ((show zeroCm.size = 37 from rfl).trans (by rw [List.size_toArray, HL1.out])) x1.all ?_
          intro wy hby hfy
          refine hK.out _ _ (hHeld.go hfy (by have := HW10.out; simpa using this)) (fun hHeld => ?_)
          clear hK K
          simp only [Act.put, List.setIfInBounds_toArray, List.set_cons_zero, List.set_cons_succ]
          have HG11 := Lib.hid (HG11.out.keep hfy (by have := HNE.out; simp; omega))
          refine step_at (i := 12) rfl (by kernel_rfl) (by rfl) (fun K hK => ?_)
          refine wp_store_blk 34 _ _ rfl g11 x2.cells.toArray rfl rfl 34 zeroCm HG11.out (by rw [List.size_toArray, HL2.out]; kernel_rfl) ((show zeroCm.size = 37 from rfl).trans (by rw [List.size_toArray, HL2.out])) x2.all ?_
          intro wz hbz hfz
          refine hK.out _ _ (hHeld.go hfz (by have := HW11.out; simpa using this)) (fun hHeld => ?_)
          clear hK K
          simp only [Act.put, List.setIfInBounds_toArray, List.set_cons_zero, List.set_cons_succ]
          refine wpAnyH_done (by kernel_rfl) ?_ _
          go_wp2_with fail
          go_meet
          exact ⟨g10, g11, rfl, rfl, hby.keep hfz (by have := HNE.out; simp; omega), hbz, hHeld⟩
        · skip
          refine wp_run (v := ?_) (w' := ?_) ?_ ?_
          rotate_left 2
          · go_simp
            (try (first | with_reducible rfl | (apply And.intro <;> rfl)))
          refine hK.out _ (v1.alloc (Obj.cells zeroCm 34)) (hHeld.alloc _) (fun hHeld => ?_)
          clear hK K
          simp only [Act.put, List.setIfInBounds_toArray, List.set_cons_zero, List.set_cons_succ]
          obtain ⟨g11, hg11⟩ : ∃ g, g = v1.heap.size := ⟨_, rfl⟩
          have HNE : Hid (g10 ≠ g11) := Lib.hid (by have h := HG10.out.lt; rw [hg11]; exact Nat.ne_of_lt h)
          have HG11 : Hid (Blk (v1.alloc (Obj.cells zeroCm 34)) g11 34 zeroCm) := Lib.hid (by rw [hg11]; exact Blk.new _ _ _)
          have HW11 : Hid (w4.heap.size ≤ g11) := Lib.hid (by rw [hg11]; exact (‹Fr [nb + 1, nb] w4 v1›).size)
          have HG10 := Lib.hid (HG10.out.keep ((Fr.refl [] v1).alloc (Obj.cells zeroCm 34)) (by simp))
          have HBK := Lib.hid (HBK.out.keep ((Fr.refl [] v1).alloc (Obj.cells zeroCm 34)) (by simp))
          rw [← hg11]
          clear hg11
          generalize v1.alloc (Obj.cells zeroCm 34) = v2 at *
          refine step_at (i := 8) rfl (by kernel_rfl) (by rfl) (fun K hK => ?_)
          refine wp_call (f := ?_) (args := ?_) ?_ ?_
          rotate_left 2
          · go_simp
            (try (first | with_reducible rfl | (apply And.intro <;> rfl)))
          refine (HMK2.out _ hHeld HBK.out).mono ?_
          rintro e v3 ⟨rfl, hbn, hfn⟩
          refine ⟨_, rfl, hK.out _ _ (hHeld.trans hfn (fun x hx _ => hx)) (fun hHeld => ?_)⟩
          clear hK K
          simp only [Act.put, List.setIfInBounds_toArray, List.set_cons_zero, List.set_cons_succ]
          have HBK := Lib.hid hbn
          have HG10 := Lib.hid (HG10.out.keep hfn (fun hm => by have h1 := HBS.out _ hm; have h2 := HW10.out; omega))
          have HG11 := Lib.hid (HG11.out.keep hfn (fun hm => by have h1 := HBS.out _ hm; have h2 := HW11.out; omega))
          clear hfn hbn
          refine step_at (i := 11) rfl (by kernel_rfl) (by rfl) (fun K hK => ?_)
          refine wp_store_blk 34 _ _ rfl g10 x1.cells.toArray rfl rfl 34 zeroCm HG10.out (by rw [List.size_toArray, HL1.out]; kernel_rfl) ((show zeroCm.size = 37 from rfl).trans (by rw [List.size_toArray, HL1.out])) x1.all ?_
          intro wy hby hfy
          refine hK.out _ _ (hHeld.go hfy (by have := HW10.out; simpa using this)) (fun hHeld => ?_)
          clear hK K
          simp only [Act.put, List.setIfInBounds_toArray, List.set_cons_zero, List.set_cons_succ]
          have HG11 := Lib.hid (HG11.out.keep hfy (by have := HNE.out; simp; omega))
          refine step_at (i := 12) rfl (by kernel_rfl) (by rfl) (fun K hK => ?_)
          refine wp_store_blk 34 _ _ rfl g11 x2.cells.toArray rfl rfl 34 zeroCm HG11.out (by rw [List.size_toArray, HL2.out]; kernel_rfl) ((show zeroCm.size = 37 from rfl).trans (by rw [List.size_toArray, HL2.out])) x2.all ?_
          intro wz hbz hfz
          refine hK.out _ _ (hHeld.go hfz (by have := HW11.out; simpa using this)) (fun hHeld => ?_)
          clear hK K
          simp only [Act.put, List.setIfInBounds_toArray, List.set_cons_zero, List.set_cons_succ]
          refine wpAnyH_done (by kernel_rfl) ?_ _
          go_wp2_with fail
          go_meet
          exact ⟨g10, g11, rfl, rfl, hby.keep hfz (by have := HNE.out; simp; omega), hbz, hHeld⟩
      · skip
        refine wp_run (v := ?_) (w' := ?_) ?_ ?_
        rotate_left 2
        · go_simp
          (try (first | with_reducible rfl | (apply And.intro <;> rfl)))
        refine hK.out _ (v0.alloc (Obj.cells zeroCm 34)) (hHeld.alloc _) (fun hHeld => ?_)
        clear hK K
        simp only [Act.put, List.setIfInBounds_toArray, List.set_cons_zero, List.set_cons_succ]
        obtain ⟨g11, hg11⟩ : ∃ g, g = v0.heap.size := ⟨_, rfl⟩
        have HG11 : Hid (Blk (v0.alloc (Obj.cells zeroCm 34)) g11 34 zeroCm) := Lib.hid (by rw [hg11]; exact Blk.new _ _ _)
        have HW11 : Hid (w4.heap.size ≤ g11) := Lib.hid (by rw [hg11]; exact (‹Fr [nb + 1, nb] w4 v0›).size)
        have HBK := Lib.hid (HBK.out.keep ((Fr.refl [] v0).alloc (Obj.cells zeroCm 34)) (by simp))
        rw [← hg11]
        clear hg11
        generalize v0.alloc (Obj.cells zeroCm 34) = v1 at *
        refine two_at (i := 8) (j := 9) rfl rfl (by kernel_rfl) (by rfl) (by rfl) (fun K hK => ?_) (fun K hK => ?_)
        · skip
          refine wp_call (f := ?_) (args := ?_) ?_ ?_
          rotate_left 2
          · go_simp
            (try (first | with_reducible rfl | (apply And.intro <;> rfl)))
          refine (HMK2.out _ hHeld HBK.out).mono ?_
          rintro e v2 ⟨rfl, hbn, hfn⟩
          refine ⟨_, rfl, hK.out _ _ (hHeld.trans hfn (fun x hx _ => hx)) (fun hHeld => ?_)⟩
          clear hK K
          simp only [Act.put, List.setIfInBounds_toArray, List.set_cons_zero, List.set_cons_succ]
          have HBK := Lib.hid hbn
          have HG11 := Lib.hid (HG11.out.keep hfn (fun hm => by have h1 := HBS.out _ hm; have h2 := HW11.out; omega))
          clear hfn hbn
          refine step_at (i := 9) rfl (by kernel_rfl) (by rfl) (fun K hK => ?_)
          refine wp_run (v := ?_) (w' := ?_) ?_ ?_
          rotate_left 2
          · go_simp
            (try (first | with_reducible rfl | (apply And.intro <;> rfl)))
          refine hK.out _ (v2.alloc (Obj.cells zeroCm 34)) (hHeld.alloc _) (fun hHeld => ?_)
          clear hK K
          simp only [Act.put, List.setIfInBounds_toArray, List.set_cons_zero, List.set_cons_succ]
          obtain ⟨g10, hg10⟩ : ∃ g, g = v2.heap.size := ⟨_, rfl⟩
          have HNE : Hid (g11 ≠ g10) := Lib.hid (by have h := HG11.out.lt; rw [hg10]; exact Nat.ne_of_lt h)
          have HG10 : Hid (Blk (v2.alloc (Obj.cells zeroCm 34)) g10 34 zeroCm) := Lib.hid (by rw [hg10]; exact Blk.new _ _ _)
          have HW10 : Hid (w4.heap.size ≤ g10) := Lib.hid (by rw [hg10]; exact (‹Fr [nb + 1, nb] w4 v2›).size)
          have HG11 := Lib.hid (HG11.out.keep ((Fr.refl [] v2).alloc (Obj.cells zeroCm 34)) (by simp))
          have HBK := Lib.hid (HBK.out.keep ((Fr.refl [] v2).alloc (Obj.cells zeroCm 34)) (by simp))
          rw [← hg10]
          clear hg10
          generalize v2.alloc (Obj.cells zeroCm 34) = v3 at *
          refine step_at (i := 11) rfl (by kernel_rfl) (by rfl) (fun K hK => ?_)
          refine wp_store_blk 34 _ _ rfl g10 x1.cells.toArray rfl rfl 34 zeroCm HG10.out (by rw [List.size_toArray, HL1.out]; kernel_rfl) ((show zeroCm.size = 37 from rfl).trans (by rw [List.size_toArray, HL1.out])) x1.all ?_
          intro wy hby hfy
          refine hK.out _ _ (hHeld.go hfy (by have := HW10.out; simpa using this)) (fun hHeld => ?_)
          clear hK K
          simp only [Act.put, List.setIfInBounds_toArray, List.set_cons_zero, List.set_cons_succ]
          have HG11 := Lib.hid (HG11.out.keep hfy (by have := HNE.out; simp; omega))
          refine step_at (i := 12) rfl (by kernel_rfl) (by rfl) (fun K hK => ?_)
          refine wp_store_blk 34 _ _ rfl g11 x2.cells.toArray rfl rfl 34 zeroCm HG11.out (by rw [List.size_toArray, HL2.out]; kernel_rfl) ((show zeroCm.size = 37 from rfl).trans (by rw [List.size_toArray, HL2.out])) x2.all ?_
          intro wz hbz hfz
          refine hK.out _ _ (hHeld.go hfz (by have := HW11.out; simpa using this)) (fun hHeld => ?_)
          clear hK K
          simp only [Act.put, List.setIfInBounds_toArray, List.set_cons_zero, List.set_cons_succ]
          refine wpAnyH_done (by kernel_rfl) ?_ _
          go_wp2_with fail
          go_meet
          exact ⟨g10, g11, rfl, rfl, hby.keep hfz (by have := HNE.out; simp; omega), hbz, hHeld⟩
        · skip
          refine wp_run (v := ?_) (w' := ?_) ?_ ?_
          rotate_left 2
          · go_simp
            (try (first | with_reducible rfl | (apply And.intro <;> rfl)))
          refine hK.out _ (v1.alloc (Obj.cells zeroCm 34)) (hHeld.alloc _) (fun hHeld => ?_)
          clear hK K
          simp only [Act.put, List.setIfInBounds_toArray, List.set_cons_zero, List.set_cons_succ]
          obtain ⟨g10, hg10⟩ : ∃ g, g = v1.heap.size := ⟨_, rfl⟩
          have HNE : Hid (g11 ≠ g10) := Lib.hid (by have h := HG11.out.lt; rw [hg10]; exact Nat.ne_of_lt h)
          have HG10 : Hid (Blk (v1.alloc (Obj.cells zeroCm 34)) g10 34 zeroCm) := Lib.hid (by rw [hg10]; exact Blk.new _ _ _)
          have HW10 : Hid (w4.heap.size ≤ g10) := Lib.hid (by rw [hg10]; exact (‹Fr [nb + 1, nb] w4 v1›).size)
          have HG11 := Lib.hid (HG11.out.keep ((Fr.refl [] v1).alloc (Obj.cells zeroCm 34)) (by simp))
          have HBK := Lib.hid (HBK.out.keep ((Fr.refl [] v1).alloc (Obj.cells zeroCm 34)) (by simp))
          rw [← hg10]
          clear hg10
          generalize v1.alloc (Obj.cells zeroCm 34) = v2 at *
          refine step_at (i := 8) rfl (by kernel_rfl) (by rfl) (fun K hK => ?_)
          refine wp_call (f := ?_) (args := ?_) ?_ ?_
          rotate_left 2
          · go_simp
            (try (first | with_reducible rfl | (apply And.intro <;> rfl)))
          refine (HMK2.out _ hHeld HBK.out).mono ?_
          rintro e v3 ⟨rfl, hbn, hfn⟩
          refine ⟨_, rfl, hK.out _ _ (hHeld.trans hfn (fun x hx _ => hx)) (fun hHeld => ?_)⟩
          clear hK K
          simp only [Act.put, List.setIfInBounds_toArray, List.set_cons_zero, List.set_cons_succ]
          have HBK := Lib.hid hbn
          have HG11 := Lib.hid (HG11.out.keep hfn (fun hm => by have h1 := HBS.out _ hm; have h2 := HW11.out; omega))
          have HG10 := Lib.hid (HG10.out.keep hfn (fun hm => by have h1 := HBS.out _ hm; have h2 := HW10.out; omega))
          clear hfn hbn
          refine step_at (i := 11) rfl (by kernel_rfl) (by rfl) (fun K hK => ?_)
          refine wp_store_blk 34 _ _ rfl g10 x1.cells.toArray rfl rfl 34 zeroCm HG10.out (by rw [List.size_toArray, HL1.out]; kernel_rfl) ((show zeroCm.size = 37 from rfl).trans (by rw [List.size_toArray, HL1.out])) x1.all ?_
          intro wy hby hfy
          refine hK.out _ _ (hHeld.go hfy (by have := HW10.out; simpa using this)) (fun hHeld => ?_)
          clear hK K
          simp only [Act.put, List.setIfInBounds_toArray, List.set_cons_zero, List.set_cons_succ]
          have HG11 := Lib.hid (HG11.out.keep hfy (by have := HNE.out; simp; omega))
          refine step_at (i := 12) rfl (by kernel_rfl) (by rfl) (fun K hK => ?_)
          refine wp_store_blk 34 _ _ rfl g11 x2.cells.toArray rfl rfl 34 zeroCm HG11.out (by rw [List.size_toArray, HL2.out]; kernel_rfl) ((show zeroCm.size = 37 from rfl).trans (by rw [List.size_toArray, HL2.out])) x2.all ?_
          intro wz hbz hfz
          refine hK.out _ _ (hHeld.go hfz (by have := HW11.out; simpa using this)) (fun hHeld => ?_)
          clear hK K
          simp only [Act.put, List.setIfInBounds_toArray, List.set_cons_zero, List.set_cons_succ]
          refine wpAnyH_done (by kernel_rfl) ?_ _
          go_wp2_with fail
          go_meet
          exact ⟨g10, g11, rfl, rfl, hby.keep hfz (by have := HNE.out; simp; omega), hbz, hHeld⟩
    · skip
      refine wp_run (v := ?_) (w' := ?_) ?_ ?_
      rotate_left 2
      · go_simp
        (try (first | with_reducible rfl | (apply And.intro <;> rfl)))
      refine hK.out _ (w4.drew.alloc (Obj.cells zeroCm 34)) (hHeld.alloc _) (fun hHeld => ?_)
      clear hK K
      simp only [Act.put, List.setIfInBounds_toArray, List.set_cons_zero, List.set_cons_succ]
      obtain ⟨g10, hg10⟩ : ∃ g, g = w4.heap.size := ⟨_, rfl⟩
      have HG10 : Hid (Blk (w4.drew.alloc (Obj.cells zeroCm 34)) g10 34 zeroCm) := Lib.hid (by rw [hg10]; exact Blk.new _ _ _)
      have HW10 : Hid (w4.heap.size ≤ g10) := Lib.hid (by rw [hg10]; exact (‹Fr [nb + 1, nb] w4 w4.drew›).size)
      have HBK := Lib.hid (HBK.out.keep ((Fr.refl [] w4.drew).alloc (Obj.cells zeroCm 34)) (by simp))
      rw [← hg10]
      clear hg10
      generalize w4.drew.alloc (Obj.cells zeroCm 34) = v0 at *
      refine two_at (i := 4) (j := 10) rfl rfl (by kernel_rfl) (by rfl) (by rfl) (fun K hK => ?_) (fun K hK => ?_)
      · skip
        refine wp_call (f := ?_) (args := ?_) ?_ ?_
        rotate_left 2
        · go_simp
          (try (first | with_reducible rfl | (apply And.intro <;> rfl)))
        refine (HMK1.out _ hHeld HBK.out).mono ?_
        rintro e v1 ⟨rfl, hbn, hfn⟩
        refine ⟨_, rfl, hK.out _ _ (hHeld.trans hfn (fun x hx _ => hx)) (fun hHeld => ?_)⟩
        clear hK K
        simp only [Act.put, List.setIfInBounds_toArray, List.set_cons_zero, List.set_cons_succ]
        have HBK := Lib.hid hbn
        have HG10 := Lib.hid (HG10.out.keep hfn (fun hm => by have h1 := HBS.out _ hm; have h2 := HW10.out; omega))
        clear hfn hbn
        refine two_at (i := 8) (j := 10) rfl rfl (by kernel_rfl) (by rfl) (by rfl) (fun K hK => ?_) (fun K hK => ?_)
        · skip
          refine wp_call (f := ?_) (args := ?_) ?_ ?_
          rotate_left 2
          · go_simp
            (try (first | with_reducible rfl | (apply And.intro <;> rfl)))
          refine (HMK2.out _ hHeld HBK.out).mono ?_
          rintro e v2 ⟨rfl, hbn, hfn⟩
          refine ⟨_, rfl, hK.out _ _ (hHeld.trans hfn (fun x hx _ => hx)) (fun hHeld => ?_)⟩
          clear hK K
          simp only [Act.put, List.setIfInBounds_toArray, List.set_cons_zero, List.set_cons_succ]
          have HBK := Lib.hid hbn
          have HG10 := Lib.hid (HG10.out.keep hfn (fun hm => by have h1 := HBS.out _ hm; have h2 := HW10.out; omega))
          clear hfn hbn
          refine step_at (i := 10) rfl (by kernel_rfl) (by rfl) (fun K hK => ?_)
          refine wp_run (v := ?_) (w' := ?_) ?_ ?_
          rotate_left 2
          · go_simp
            (try (first | with_reducible rfl | (apply And.intro <;> rfl)))
          refine hK.out _ (v2.alloc (Obj.cells zeroCm 34)) (hHeld.alloc _) (fun hHeld => ?_)
          clear hK K
          simp only [Act.put, List.setIfInBounds_toArray, List.set_cons_zero, List.set_cons_succ]
          obtain ⟨g11, hg11⟩ : ∃ g, g = v2.heap.size := ⟨_, rfl⟩
          have HNE : Hid (g10 ≠ g11) := Lib.hid (by have h := HG10.out.lt; rw [hg11]; exact Nat.ne_of_lt h)
          have HG11 : Hid (Blk (v2.alloc (Obj.cells zeroCm 34)) g11 34 zeroCm) := Lib.hid (by rw [hg11]; exact Blk.new _ _ _)
          have HW11 : Hid (w4.heap.size ≤ g11) := Lib.hid (by rw [hg11]; exact (‹Fr [nb + 1, nb] w4 v2›).size)
          have HG10 := Lib.hid (HG10.out.keep ((Fr.refl [] v2).alloc (Obj.cells zeroCm 34)) (by simp))
          have HBK := Lib.hid (HBK.out.keep ((Fr.refl [] v2).alloc (Obj.cells zeroCm 34)) (by simp))
          rw [← hg11]
          clear hg11
          generalize v2.alloc (Obj.cells zeroCm 34) = v3 at *
          refine step_at (i := 11) rfl (by kernel_rfl) (by rfl) (fun K hK => ?_)
          refine wp_store_blk 34 _ _ rfl g10 x1.cells.toArray rfl rfl 34 zeroCm HG10.out (by rw [List.size_toArray, HL1.out]; kernel_rfl) ((show zeroCm.size = 37 from rfl).trans (by rw [List.size_toArray, HL1.out])) x1.all ?_
          intro wy hby hfy
          refine hK.out _ _ (hHeld.go hfy (by have := HW10.out; simpa using this)) (fun hHeld => ?_)
          clear hK K
          simp only [Act.put, List.setIfInBounds_toArray, List.set_cons_zero, List.set_cons_succ]
          have HG11 := Lib.hid (HG11.out.keep hfy (by have := HNE.out; simp; omega))
          refine step_at (i := 12) rfl (by kernel_rfl) (by rfl) (fun K hK => ?_)
          refine wp_store_blk 34 _ _ rfl g11 x2.cells.toArray rfl rfl 34 zeroCm HG11.out (by rw [List.size_toArray, HL2.out]; kernel_rfl) ((show zeroCm.size = 37 from rfl).trans (by rw [List.size_toArray, HL2.out])) x2.all ?_
          intro wz hbz hfz
          refine hK.out _ _ (hHeld.go hfz (by have := HW11.out; simpa using this)) (fun hHeld => ?_)
          clear hK K
          simp only [Act.put, List.setIfInBounds_toArray, List.set_cons_zero, List.set_cons_succ]
          refine wpAnyH_done (by kernel_rfl) ?_ _
          go_wp2_with fail
          go_meet
          exact ⟨g10, g11, rfl, rfl, hby.keep hfz (by have := HNE.out; simp; omega), hbz, hHeld⟩
        · skip
          refine wp_run (v := ?_) (w' := ?_) ?_ ?_
          rotate_left 2
          · go_simp
            (try (first | with_reducible rfl | (apply And.intro <;> rfl)))
          refine hK.out _ (v1.alloc (Obj.cells zeroCm 34)) (hHeld.alloc _) (fun hHeld => ?_)
          clear hK K
          simp only [Act.put, List.setIfInBounds_toArray, List.set_cons_zero, List.set_cons_succ]
          obtain ⟨g11, hg11⟩ : ∃ g, g = v1.heap.size := ⟨_, rfl⟩
          have HNE : Hid (g10 ≠ g11) := Lib.hid (by have h := HG10.out.lt; rw [hg11]; exact Nat.ne_of_lt h)
          have HG11 : Hid (Blk (v1.alloc (Obj.cells zeroCm 34)) g11 34 zeroCm) := Lib.hid (by rw [hg11]; exact Blk.new _ _ _)
          have HW11 : Hid (w4.heap.size ≤ g11) := Lib.hid (by rw [hg11]; exact (‹Fr [nb + 1, nb] w4 v1›).size)
          have HG10 := Lib.hid (HG10.out.keep ((Fr.refl [] v1).alloc (Obj.cells zeroCm 34)) (by simp))
          have HBK := Lib.hid (HBK.out.keep ((Fr.refl [] v1).alloc (Obj.cells zeroCm 34)) (by simp))
          rw [← hg11]
          clear hg11
          generalize v1.alloc (Obj.cells zeroCm 34) = v2 at *
          refine step_at (i := 8) rfl (by kernel_rfl) (by rfl) (fun K hK => ?_)
          refine wp_call (f := ?_) (args := ?_) ?_ ?_
          rotate_left 2
          · go_simp
            (try (first | with_reducible rfl | (apply And.intro <;> rfl)))
          refine (HMK2.out _ hHeld HBK.out).mono ?_
          rintro e v3 ⟨rfl, hbn, hfn⟩
          refine ⟨_, rfl, hK.out _ _ (hHeld.trans hfn (fun x hx _ => hx)) (fun hHeld => ?_)⟩
          clear hK K
          simp only [Act.put, List.setIfInBounds_toArray, List.set_cons_zero, List.set_cons_succ]
          have HBK := Lib.hid hbn
          have HG10 := Lib.hid (HG10.out.keep hfn (fun hm => by have h1 := HBS.out _ hm; have h2 := HW10.out; omega))
          have HG11 := Lib.hid (HG11.out.keep hfn (fun hm => by have h1 := HBS.out _ hm; have h2 := HW11.out; omega))
          clear hfn hbn
          refine step_at (i := 11) rfl (by kernel_rfl) (by rfl) (fun K hK => ?_)
          refine wp_store_blk 34 _ _ rfl g10 x1.cells.toArray rfl rfl 34 zeroCm HG10.out (by rw [List.size_toArray, HL1.out]; kernel_rfl) ((show zeroCm.size = 37 from rfl).trans (by rw [List.size_toArray, HL1.out])) x1.all ?_
          intro wy hby hfy
          refine hK.out _ _ (hHeld.go hfy (by have := HW10.out; simpa using this)) (fun hHeld => ?_)
          clear hK K
          simp only [Act.put, List.setIfInBounds_toArray, List.set_cons_zero, List.set_cons_succ]
          have HG11 := Lib.hid (HG11.out.keep hfy (by have := HNE.out; simp; omega))
          refine step_at (i := 12) rfl (by kernel_rfl) (by rfl) (fun K hK => ?_)
          refine wp_store_blk 34 _ _ rfl g11 x2.cells.toArray rfl rfl 34 zeroCm HG11.out (by rw [List.size_toArray, HL2.out]; kernel_rfl) ((show zeroCm.size = 37 from rfl).trans (by rw [List.size_toArray, HL2.out])) x2.all ?_
          intro wz hbz hfz
          refine hK.out _ _ (hHeld.go hfz (by have := HW11.out; simpa using this)) (fun hHeld => ?_)
          clear hK K
          simp only [Act.put, List.setIfInBounds_toArray, List.set_cons_zero, List.set_cons_succ]
          refine wpAnyH_done (by kernel_rfl) ?_ _
          go_wp2_with fail
          go_meet
          exact ⟨g10, g11, rfl, rfl, hby.keep hfz (by have := HNE.out; simp; omega), hbz, hHeld⟩
      · skip
        refine wp_run (v := ?_) (w' := ?_) ?_ ?_
        rotate_left 2
        · go_simp
          (try (first | with_reducible rfl | (apply And.intro <;> rfl)))
        refine hK.out _ (v0.alloc (Obj.cells zeroCm 34)) (hHeld.alloc _) (fun hHeld => ?_)
        clear hK K
        simp only [Act.put, List.setIfInBounds_toArray, List.set_cons_zero, List.set_cons_succ]
        obtain ⟨g11, hg11⟩ : ∃ g, g = v0.heap.size := ⟨_, rfl⟩
        have HNE : Hid (g10 ≠ g11) := Lib.hid (by have h := HG10.out.lt; rw [hg11]; exact Nat.ne_of_lt h)
        have HG11 : Hid (Blk (v0.alloc (Obj.cells zeroCm 34)) g11 34 zeroCm) := Lib.hid (by rw [hg11]; exact Blk.new _ _ _)
        have HW11 : Hid (w4.heap.size ≤ g11) := Lib.hid (by rw [hg11]; exact (‹Fr [nb + 1, nb] w4 v0›).size)
        have HG10 := Lib.hid (HG10.out.keep ((Fr.refl [] v0).alloc (Obj.cells zeroCm 34)) (by simp))
        have HBK := Lib.hid (HBK.out.keep ((Fr.refl [] v0).alloc (Obj.cells zeroCm 34)) (by simp))
        rw [← hg11]
        clear hg11
        generalize v0.alloc (Obj.cells zeroCm 34) = v1 at *
        refine step_at (i := 4) rfl (by kernel_rfl) (by rfl) (fun K hK => ?_)
        refine wp_call (f := ?_) (args := ?_) ?_ ?_
        rotate_left 2
        · go_simp
          (try (first | with_reducible rfl | (apply And.intro <;> rfl)))
        refine (HMK1.out _ hHeld HBK.out).mono ?_
        rintro e v2 ⟨rfl, hbn, hfn⟩
        refine ⟨_, rfl, hK.out _ _ (hHeld.trans hfn (fun x hx _ => hx)) (fun hHeld => ?_)⟩
        clear hK K
        simp only [Act.put, List.setIfInBounds_toArray, List.set_cons_zero, List.set_cons_succ]
        have HBK := Lib.hid hbn
        have HG10 := Lib.hid (HG10.out.keep hfn (fun hm => by have h1 := HBS.out _ hm; have h2 := HW10.out; omega))
        have HG11 := Lib.hid (HG11.out.keep hfn (fun hm => by have h1 := HBS.out _ hm; have h2 := HW11.out; omega))
        clear hfn hbn
        refine step_at (i := 8) rfl (by kernel_rfl) (by rfl) (fun K hK => ?_)
        refine wp_call (f := ?_) (args := ?_) ?_ ?_
        rotate_left 2
        · go_simp
          (try (first | with_reducible rfl | (apply And.intro <;> rfl)))
        refine (HMK2.out _ hHeld HBK.out).mono ?_
        rintro e v3 ⟨rfl, hbn, hfn⟩
        refine ⟨_, rfl, hK.out _ _ (hHeld.trans hfn (fun x hx _ => hx)) (fun hHeld => ?_)⟩
        clear hK K
        simp only [Act.put, List.setIfInBounds_toArray, List.set_cons_zero, List.set_cons_succ]
        have HBK := Lib.hid hbn
        have HG10 := Lib.hid (HG10.out.keep hfn (fun hm => by have h1 := HBS.out _ hm; have h2 := HW10.out; omega))
        have HG11 := Lib.hid (HG11.out.keep hfn (fun hm => by have h1 := HBS.out _ hm; have h2 := HW11.out; omega))
        clear hfn hbn
        refine step_at (i := 11) rfl (by kernel_rfl) (by rfl) (fun K hK => ?_)
        refine wp_store_blk 34 _ _ rfl g10 x1.cells.toArray rfl rfl 34 zeroCm HG10.out (by rw [List.size_toArray, HL1.out]; kernel_rfl) ((show zeroCm.size = 37 from rfl).trans (by rw [List.size_toArray, HL1.out])) x1.all ?_
        intro wy hby hfy
        refine hK.out _ _ (hHeld.go hfy (by have := HW10.out; simpa using this)) (fun hHeld => ?_)
        clear hK K
        simp only [Act.put, List.setIfInBounds_toArray, List.set_cons_zero, List.set_cons_succ]
        have HG11 := Lib.hid (HG11.out.keep hfy (by have := HNE.out; simp; omega))
        refine step_at (i := 12) rfl (by kernel_rfl) (by rfl) (fun K hK => ?_)
        refine wp_store_blk 34 _ _ rfl g11 x2.cells.toArray rfl rfl 34 zeroCm HG11.out (by rw [List.size_toArray, HL2.out]; kernel_rfl) ((show zeroCm.size = 37 from rfl).trans (by rw [List.size_toArray, HL2.out])) x2.all ?_
        intro wz hbz hfz
        refine hK.out _ _ (hHeld.go hfz (by have := HW11.out; simpa using this)) (fun hHeld => ?_)
        clear hK K
        simp only [Act.put, List.setIfInBounds_toArray, List.set_cons_zero, List.set_cons_succ]
        refine wpAnyH_done (by kernel_rfl) ?_ _
        go_wp2_with fail
        go_meet
        exact ⟨g10, g11, rfl, rfl, hby.keep hfz (by have := HNE.out; simp; omega), hbz, hHeld⟩
    · skip
      refine wp_run (v := ?_) (w' := ?_) ?_ ?_
      rotate_left 2
      · go_simp
        (try (first | with_reducible rfl | (apply And.intro <;> rfl)))
      refine hK.out _ (w4.drew.alloc (Obj.cells zeroCm 34)) (hHeld.alloc _) (fun hHeld => ?_)
      clear hK K
      simp only [Act.put, List.setIfInBounds_toArray, List.set_cons_zero, List.set_cons_succ]
      obtain ⟨g11, hg11⟩ : ∃ g, g = w4.heap.size := ⟨_, rfl⟩
      have HG11 : Hid (Blk (w4.drew.alloc (Obj.cells zeroCm 34)) g11 34 zeroCm) := Lib.hid (by rw [hg11]; exact Blk.new _ _ _)
      have HW11 : Hid (w4.heap.size ≤ g11) := Lib.hid (by rw [hg11]; exact (‹Fr [nb + 1, nb] w4 w4.drew›).size)
      have HBK := Lib.hid (HBK.out.keep ((Fr.refl [] w4.drew).alloc (Obj.cells zeroCm 34)) (by simp))
      rw [← hg11]
      clear hg11
      generalize w4.drew.alloc (Obj.cells zeroCm 34) = v0 at *
      refine two_at (i := 4) (j := 9) rfl rfl (by kernel_rfl) (by rfl) (by rfl) (fun K hK => ?_) (fun K hK => ?_)
      · skip
        refine wp_call (f := ?_) (args := ?_) ?_ ?_
        rotate_left 2
        · go_simp
          (try (first | with_reducible rfl | (apply And.intro <;> rfl)))
        refine (HMK1.out _ hHeld HBK.out).mono ?_
        rintro e v1 ⟨rfl, hbn, hfn⟩
        refine ⟨_, rfl, hK.out _ _ (hHeld.trans hfn (fun x hx _ => hx)) (fun hHeld => ?_)⟩
        clear hK K
        simp only [Act.put, List.setIfInBounds_toArray, List.set_cons_zero, List.set_cons_succ]
        have HBK := Lib.hid hbn
        have HG11 := Lib.hid (HG11.out.keep hfn (fun hm => by have h1 := HBS.out _ hm; have h2 := HW11.out; omega))
        clear hfn hbn
        refine two_at (i := 8) (j := 9) rfl rfl (by kernel_rfl) (by rfl) (by rfl) (fun K hK => ?_) (fun K hK => ?_)
        · skip
          refine wp_call (f := ?_) (args := ?_) ?_ ?_
          rotate_left 2
          · go_simp
            (try (first | with_reducible rfl | (apply And.intro <;> rfl)))
          refine (HMK2.out _ hHeld HBK.out).mono ?_
          rintro e v2 ⟨rfl, hbn, hfn⟩
          refine ⟨_, rfl, hK.out _ _ (hHeld.trans hfn (fun x hx _ => hx)) (fun hHeld => ?_)⟩
          clear hK K
          simp only [Act.put, List.setIfInBounds_toArray, List.set_cons_zero, List.set_cons_succ]
          have HBK := Lib.hid hbn
          have HG11 := Lib.hid (HG11.out.keep hfn (fun hm => by have h1 := HBS.out _ hm; have h2 := HW11.out; omega))
          clear hfn hbn
          refine step_at (i := 9) rfl (by kernel_rfl) (by rfl) (fun K hK => ?_)
          refine wp_run (v := ?_) (w' := ?_) ?_ ?_
          rotate_left 2
          · go_simp
            (try (first | with_reducible rfl | (apply And.intro <;> rfl)))
          refine hK.out _ (v2.alloc (Obj.cells zeroCm 34)) (hHeld.alloc _) (fun hHeld => ?_)
          clear hK K
          simp only [Act.put, List.setIfInBounds_toArray, List.set_cons_zero, List.set_cons_succ]
          obtain ⟨g10, hg10⟩ : ∃ g, g = v2.heap.size := ⟨_, rfl⟩
          have HNE : Hid (g11 ≠ g10) := Lib.hid (by have h := HG11.out.lt; rw [hg10]; exact Nat.ne_of_lt h)
          have HG10 : Hid (Blk (v2.alloc (Obj.cells zeroCm 34)) g10 34 zeroCm) := Lib.hid (by rw [hg10]; exact Blk.new _ _ _)
          have HW10 : Hid (w4.heap.size ≤ g10) := Lib.hid (by rw [hg10]; exact (‹Fr [nb + 1, nb] w4 v2›).size)
          have HG11 := Lib.hid (HG11.out.keep ((Fr.refl [] v2).alloc (Obj.cells zeroCm 34)) (by simp))
          have HBK := Lib.hid (HBK.out.keep ((Fr.refl [] v2).alloc (Obj.cells zeroCm 34)) (by simp))
          rw [← hg10]
          clear hg10
          generalize v2.alloc (Obj.cells zeroCm 34) = v3 at *
          refine step_at (i := 11) rfl (by kernel_rfl) (by rfl) (fun K hK => ?_)
          refine wp_store_blk 34 _ _ rfl g10 x1.cells.toArray rfl rfl 34 zeroCm HG10.out (by rw [List.size_toArray, HL1.out]; kernel_rfl) ((show zeroCm.size = 37 from rfl).trans (by rw [List.size_toArray, HL1.out])) x1.all ?_
          intro wy hby hfy
          refine hK.out _ _ (hHeld.go hfy (by have := HW10.out; simpa using this)) (fun hHeld => ?_)
          clear hK K
          simp only [Act.put, List.setIfInBounds_toArray, List.set_cons_zero, List.set_cons_succ]
          have HG11 := Lib.hid (HG11.out.keep hfy (by have := HNE.out; simp; omega))
          refine step_at (i := 12) rfl (by kernel_rfl) (by rfl) (fun K hK => ?_)
          refine wp_store_blk 34 _ _ rfl g11 x2.cells.toArray rfl rfl 34 zeroCm HG11.out (by rw [List.size_toArray, HL2.out]; kernel_rfl) ((show zeroCm.size = 37 from rfl).trans (by rw [List.size_toArray, HL2.out])) x2.all ?_
          intro wz hbz hfz
          refine hK.out _ _ (hHeld.go hfz (by have := HW11.out; simpa using this)) (fun hHeld => ?_)
          clear hK K
          simp only [Act.put, List.setIfInBounds_toArray, List.set_cons_zero, List.set_cons_succ]
          refine wpAnyH_done (by kernel_rfl) ?_ _
          go_wp2_with fail
          go_meet
          exact ⟨g10, g11, rfl, rfl, hby.keep hfz (by have := HNE.out; simp; omega), hbz, hHeld⟩
        · skip
          refine wp_run (v := ?_) (w' := ?_) ?_ ?_
          rotate_left 2
          · go_simp
            (try (first | with_reducible rfl | (apply And.intro <;> rfl)))
          refine hK.out _ (v1.alloc (Obj.cells zeroCm 34)) (hHeld.alloc _) (fun hHeld => ?_)
          clear hK K
          simp only [Act.put, List.setIfInBounds_toArray, List.set_cons_zero, List.set_cons_succ]
          obtain ⟨g10, hg10⟩ : ∃ g, g = v1.heap.size := ⟨_, rfl⟩
          have HNE : Hid (g11 ≠ g10) := Lib.hid (by have h := HG11.out.lt; rw [hg10]; exact Nat.ne_of_lt h)
          have HG10 : Hid (Blk (v1.alloc (Obj.cells zeroCm 34)) g10 34 zeroCm) := Lib.hid (by rw [hg10]; exact Blk.new _ _ _)
          have HW10 : Hid (w4.heap.size ≤ g10) := Lib.hid (by rw [hg10]; exact (‹Fr [nb + 1, nb] w4 v1›).size)
          have HG11 := Lib.hid (HG11.out.keep ((Fr.refl [] v1).alloc (Obj.cells zeroCm 34)) (by simp))
          have HBK := Lib.hid (HBK.out.keep ((Fr.refl [] v1).alloc (Obj.cells zeroCm 34)) (by simp))
          rw [← hg10]
          clear hg10
          generalize v1.alloc (Obj.cells zeroCm 34) = v2 at *
          refine step_at (i := 8) rfl (by kernel_rfl) (by rfl) (fun K hK => ?_)
          refine wp_call (f := ?_) (args := ?_) ?_ ?_
          rotate_left 2
          · go_simp
            (try (first | with_reducible rfl | (apply And.intro <;> rfl)))
          refine (HMK2.out _ hHeld HBK.out).mono ?_
          rintro e v3 ⟨rfl, hbn, hfn⟩
          refine ⟨_, rfl, hK.out _ _ (hHeld.trans hfn (fun x hx _ => hx)) (fun hHeld => ?_)⟩
          clear hK K
          simp only [Act.put, List.setIfInBounds_toArray, List.set_cons_zero, List.set_cons_succ]
          have HBK := Lib.hid hbn
          have HG11 := Lib.hid (HG11.out.keep hfn (fun hm => by have h1 := HBS.out _ hm; have h2 := HW11.out; omega))
          have HG10 := Lib.hid (HG10.out.keep hfn (fun hm => by have h1 := HBS.out _ hm; have h2 := HW10.out; omega))
          clear hfn hbn
          refine step_at (i := 11) rfl (by kernel_rfl) (by rfl) (fun K hK => ?_)
          refine wp_store_blk 34 _ _ rfl g10 x1.cells.toArray rfl rfl 34 zeroCm HG10.out (by rw [List.size_toArray, HL1.out]; kernel_rfl) ((show zeroCm.size = 37 from rfl).trans (by rw [List.size_toArray, HL1.out])) x1.all ?_
          intro wy hby hfy
          refine hK.out _ _ (hHeld.go hfy (by have := HW10.out; simpa using this)) (fun hHeld => ?_)
          clear hK K
          simp only [Act.put, List.setIfInBounds_toArray, List.set_cons_zero, List.set_cons_succ]
          have HG11 := Lib.hid (HG11.out.keep hfy (by have := HNE.out; simp; omega))
          refine step_at (i := 12) rfl (by kernel_rfl) (by rfl) (fun K hK => ?_)
          refine wp_store_blk 34 _ _ rfl g11 x2.cells.toArray rfl rfl 34 zeroCm HG11.out (by rw [List.size_toArray, HL2.out]; kernel_rfl) ((show zeroCm.size = 37 from rfl).trans (by rw [List.size_toArray, HL2.out])) x2.all ?_
          intro wz hbz hfz
          refine hK.out _ _ (hHeld.go hfz (by have := HW11.out; simpa using this)) (fun hHeld => ?_)
          clear hK K
          simp only [Act.put, List.setIfInBounds_toArray, List.set_cons_zero, List.set_cons_succ]
          refine wpAnyH_done (by kernel_rfl) ?_ _
          go_wp2_with fail
          go_meet
          exact ⟨g10, g11, rfl, rfl, hby.keep hfz (by have := HNE.out; simp; omega), hbz, hHeld⟩
      · skip
        refine wp_run (v := ?_) (w' := ?_) ?_ ?_
        rotate_left 2
        · go_simp
          (try (first | with_reducible rfl | (apply And.intro <;> rfl)))
        refine hK.out _ (v0.alloc (Obj.cells zeroCm 34)) (hHeld.alloc _) (fun hHeld => ?_)
        clear hK K
        simp only [Act.put, List.setIfInBounds_toArray, List.set_cons_zero, List.set_cons_succ]
        obtain ⟨g10, hg10⟩ : ∃ g, g = v0.heap.size := ⟨_, rfl⟩
        have HNE : Hid (g11 ≠ g10) := Lib.hid (by have h := HG11.out.lt; rw [hg10]; exact Nat.ne_of_lt h)
        have HG10 : Hid (Blk (v0.alloc (Obj.cells zeroCm 34)) g10 34 zeroCm) := Lib.hid (by rw [hg10]; exact Blk.new _ _ _)
        have HW10 : Hid (w4.heap.size ≤ g10) := Lib.hid (by rw [hg10]; exact (‹Fr [nb + 1, nb] w4 v0›).size)
        have HG11 := Lib.hid (HG11.out.keep ((Fr.refl [] v0).alloc (Obj.cells zeroCm 34)) (by simp))
        have HBK := Lib.hid (HBK.out.keep ((Fr.refl [] v0).alloc (Obj.cells zeroCm 34)) (by simp))
        rw [← hg10]
        clear hg10
        generalize v0.alloc (Obj.cells zeroCm 34) = v1 at *
        refine step_at (i := 4) rfl (by kernel_rfl) (by rfl) (fun K hK => ?_)
        refine wp_call (f := ?_) (args := ?_) ?_ ?_
        rotate_left 2
        · go_simp
          (try (first | with_reducible rfl | (apply And.intro <;> rfl)))
        refine (HMK1.out _ hHeld HBK.out).mono ?_
        rintro e v2 ⟨rfl, hbn, hfn⟩
        refine ⟨_, rfl, hK.out _ _ (hHeld.trans hfn (fun x hx _ => hx)) (fun hHeld => ?_)⟩
        clear hK K
        simp only [Act.put, List.setIfInBounds_toArray, List.set_cons_zero, List.set_cons_succ]
        have HBK := Lib.hid hbn
        have HG11 := Lib.hid (HG11.out.keep hfn (fun hm => by have h1 := HBS.out _ hm; have h2 := HW11.out; omega))
        have HG10 := Lib.hid (HG10.out.keep hfn (fun hm => by have h1 := HBS.out _ hm; have h2 := HW10.out; omega))
        clear hfn hbn
        refine step_at (i := 8) rfl (by kernel_rfl) (by rfl) (fun K hK => ?_)
        refine wp_call (f := ?_) (args := ?_) ?_ ?_
        rotate_left 2
        · go_simp
          (try (first | with_reducible rfl | (apply And.intro <;> rfl)))
        refine (HMK2.out _ hHeld HBK.out).mono ?_
        rintro e v3 ⟨rfl, hbn, hfn⟩
        refine ⟨_, rfl, hK.out _ _ (hHeld.trans hfn (fun x hx _ => hx)) (fun hHeld => ?_)⟩
        clear hK K
        simp only [Act.put, List.setIfInBounds_toArray, List.set_cons_zero, List.set_cons_succ]
        have HBK := Lib.hid hbn
        have HG11 := Lib.hid (HG11.out.keep hfn (fun hm => by have h1 := HBS.out _ hm; have h2 := HW11.out; omega))
        have HG10 := Lib.hid (HG10.out.keep hfn (fun hm => by have h1 := HBS.out _ hm; have h2 := HW10.out; omega))
        clear hfn hbn
        refine step_at (i := 11) rfl (by kernel_rfl) (by rfl) (fun K hK => ?_)
        refine wp_store_blk 34 _ _ rfl g10 x1.cells.toArray rfl rfl 34 zeroCm HG10.out (by rw [List.size_toArray, HL1.out]; kernel_rfl) ((show zeroCm.size = 37 from rfl).trans (by rw [List.size_toArray, HL1.out])) x1.all ?_
        intro wy hby hfy
        refine hK.out _ _ (hHeld.go hfy (by have := HW10.out; simpa using this)) (fun hHeld => ?_)
        clear hK K
        simp only [Act.put, List.setIfInBounds_toArray, List.set_cons_zero, List.set_cons_succ]
        have HG11 := Lib.hid (HG11.out.keep hfy (by have := HNE.out; simp; omega))
        refine step_at (i := 12) rfl (by kernel_rfl) (by rfl) (fun K hK => ?_)
        refine wp_store_blk 34 _ _ rfl g11 x2.cells.toArray rfl rfl 34 zeroCm HG11.out (by rw [List.size_toArray, HL2.out]; kernel_rfl) ((show zeroCm.size = 37 from rfl).trans (by rw [List.size_toArray, HL2.out])) x2.all ?_
        intro wz hbz hfz
        refine hK.out _ _ (hHeld.go hfz (by have := HW11.out; simpa using this)) (fun hHeld => ?_)
        clear hK K
        simp only [Act.put, List.setIfInBounds_toArray, List.set_cons_zero, List.set_cons_succ]
        refine wpAnyH_done (by kernel_rfl) ?_ _
        go_wp2_with fail
        go_meet
        exact ⟨g10, g11, rfl, rfl, hby.keep hfz (by have := HNE.out; simp; omega), hbz, hHeld⟩
  case rest =>
    obtain ⟨g10, g11, rfl, rfl, hb10, hb11, hf5⟩ := hcut
    obtain ⟨wx, hwx⟩ : ∃ wx, wx = wc := ⟨_, rfl⟩
    subst hwx
    have HF5 := Lib.hid hf5
    have hat1 := Cm.at_blk hb10 HOK1.out.h
    have hat2 := Cm.at_blk hb11 HOK2.out.h
    have HXN := Lib.hid (fun W (hW : Fr [] wx W) => hW.range (hf5.range HR1.out HNS.out) (by simp))
    have HXH := Lib.hid (fun W (hW : Fr [] wx W) => hW.range (hf5.range HR3.out HNW.out) (by simp))
    have HH10 := Lib.hid (fun W (hW : Fr [] wx W) => hW.range hat1.hash (by simp))
    have HH11 := Lib.hid (fun W (hW : Fr [] wx W) => hW.range hat2.hash (by simp))
    have HC10 := Lib.hid (fun W (hW : Fr [] wx W) => hW.range hat1.all (by simp))
    have HC11 := Lib.hid (fun W (hW : Fr [] wx W) => hW.range hat2.all (by simp))
    have HCN1 : Hid (wx.cell? ⟨g10, 34, none⟩ = some (.int .i64 (p1.length : Int))) := Lib.hid (by rw [← HX1.out]; exact hat1.n)
    have HCN2 : Hid (wx.cell? ⟨g11, 34, none⟩ = some (.int .i64 0)) := Lib.hid (by rw [← HX2.out]; exact hat2.n)
    have HLH := Lib.hid (show (ha.map by8).length = 32 by rw [List.length_map]; exact HAL.out)
    have HLX1 := Lib.hid (show (x1.h.map by8).length = 32 by rw [List.length_map]; exact HOK1.out.h)
    have HLX2 := Lib.hid (show (x2.h.map by8).length = 32 by rw [List.length_map]; exact HOK2.out.h)
    have HBO3 := Lib.hid (built_opening3 at_ A1 p1.length c1 ha HAL.out)
    have HBO2 := Lib.hid (built_opening2 ha HAL.out)
    have HF00 : Hid (Fr [] wx wx) := Lib.hid (Fr.refl _ _)
    clear hb10 hb11 hf5 hat1 hat2
    by_cases hp0 : 0 < p1.length
    · have hp2 : (0 : Int) < (p1.length : Int) := by omega
      go_wp2_with (first
        | (refine wpList_row rfl 25 _ rfl _ _ rfl _ (HXH.out _ HFY.out) (row_hash.of HLH.out) ?_)
        | (refine wpList_row rfl 25 _ rfl _ _ rfl _ (HXH.out _ HFZ.out) (row_hash.of HLH.out) ?_)
        | (refine wpList_row rfl 25 _ rfl _ _ rfl _ (HXH.out _ HF00.out) (row_hash.of HLH.out) ?_)
        | (refine wpList_row rfl 23 _ rfl _ _ rfl _ (HXN.out _ HFZ.out) row_name ?_)
        | (refine wpList_row rfl 23 _ rfl _ _ rfl _ (HXN.out _ HF00.out) row_name ?_)
        | (refine wpList_row rfl 25 _ rfl _ _ rfl _ (HH10.out _ HF00.out) (row_hash.of HLX1.out) ?_)
        | (refine wpList_row rfl 25 _ rfl _ _ rfl _ (HH11.out _ HFZ.out) (row_hash.of HLX2.out) ?_)
        | (refine wpList_row rfl 34 _ rfl _ _ rfl _ (HC10.out _ HFY.out) (row_commit.of HL1.out) ?_)
        | (refine wpList_row rfl 34 _ rfl _ _ rfl _ (HC11.out _ HFY.out) (row_commit.of HL2.out) ?_)
        | (refine wpList_builtg rfl 38 _ rfl _ _ HBO3.out rfl ?_)
        | (refine wpList_builtg rfl 38 _ rfl _ _ HBO2.out rfl ?_)
        | (go_at_call 8
           ((with_reducible refine (HM1.out _ HF5.out).mono ?_)
            rintro e wz ⟨rfl, hfz⟩
            have HFZ := Lib.hid hfz
            clear hfz))
        | (go_at_call 8
           ((with_reducible refine (HM2.out _ (HF5.out.go HFZ.out (by simp))).mono ?_)
            rintro e wy ⟨rfl, hfy⟩
            have HFY := Lib.hid (HFZ.out.and hfy (by simp))
            have hc11 := HFY.out.cell HCN2.out (by simp)
            have hc10 := HFY.out.cell HCN1.out (by simp)
            clear hfy))
        | (go_at_call 9
           refine (cwakes_any _ (HK4.out.keep (HF5.out.go HFY.out (by simp)) HKG.out)).mono ?_
           rintro e wq ⟨rfl, hfq⟩
           have HFQ := Lib.hid (HFY.out.and hfq (by simp))
           clear hfq))
      go_ret
      exact ⟨rfl, (HF4.out.trans HF5.out (fun x hx hl => by have := (HBS.out x hx).1; omega)).and HFQ.out (by simp)⟩
    · have hpe : p1 = [] := List.eq_nil_of_length_eq_zero (by omega)
      have hx := HSAME.out hpe
      have hcs := fun W => commit_self x1 HOK1.out.h W
      rw [← hx] at HC11 HL2 HM2 HLX2 HH11
      clear hx hpe HSAME
      go_wp2_with (first
        | (refine wpList_row rfl 25 _ rfl _ _ rfl _ (HXH.out _ HFY.out) (row_hash.of HLH.out) ?_)
        | (refine wpList_row rfl 25 _ rfl _ _ rfl _ (HXH.out _ HFZ.out) (row_hash.of HLH.out) ?_)
        | (refine wpList_row rfl 25 _ rfl _ _ rfl _ (HXH.out _ HF00.out) (row_hash.of HLH.out) ?_)
        | (refine wpList_row rfl 23 _ rfl _ _ rfl _ (HXN.out _ HFZ.out) row_name ?_)
        | (refine wpList_row rfl 23 _ rfl _ _ rfl _ (HXN.out _ HF00.out) row_name ?_)
        | (refine wpList_row rfl 25 _ rfl _ _ rfl _ (HH10.out _ HF00.out) (row_hash.of HLX1.out) ?_)
        | (refine wpList_row rfl 25 _ rfl _ _ rfl _ (HH11.out _ HFZ.out) (row_hash.of HLX2.out) ?_)
        | (refine wpList_row rfl 34 _ rfl _ _ rfl _ (HC10.out _ HFY.out) (row_commit.of HL1.out) ?_)
        | (refine wpList_row rfl 34 _ rfl _ _ rfl _ (HC11.out _ HFY.out) (row_commit.of HL2.out) ?_)
        | (refine wpList_builtg rfl 38 _ rfl _ _ HBO3.out rfl ?_)
        | (refine wpList_builtg rfl 38 _ rfl _ _ HBO2.out rfl ?_)
        | (go_at_call 8
           ((with_reducible refine (HM1.out _ HF5.out).mono ?_)
            rintro e wz ⟨rfl, hfz⟩
            have HFZ := Lib.hid hfz
            clear hfz))
        | (go_at_call 8
           ((with_reducible refine (HM2.out _ (HF5.out.go HFZ.out (by simp))).mono ?_)
            rintro e wy ⟨rfl, hfy⟩
            have HFY := Lib.hid (HFZ.out.and hfy (by simp))
            have hc11 := HFY.out.cell HCN2.out (by simp)
            have hc10 := HFY.out.cell HCN1.out (by simp)
            clear hfy))
        | (go_at_call 9
           refine (cwakes_any _ (HK4.out.keep (HF5.out.go HFY.out (by simp)) HKG.out)).mono ?_
           rintro e wq ⟨rfl, hfq⟩
           have HFQ := Lib.hid (HFY.out.and hfq (by simp))
           clear hfq))
      go_ret
      exact ⟨rfl, (HF4.out.trans HF5.out (fun x hx hl => by have := (HBS.out x hx).1; omega)).and HFQ.out (by simp)⟩
end Go.Proofs.YtbajkdlemgnmkabDoor
