/- The walk of CommitAgain. -/
import Derived.Test.YtbajkdlemgnmkaaDoorCmEq
import Derived.Deep.CutBlock
namespace Go.Proofs.YtbajkdlemgnmkaaDoor
open Go.RowKit
set_option maxRecDepth 100000

def entOf (c s : Int) (h b : List UInt8) : Ent := (1000 + c, (made0 c s h b).text)
theorem ent_ne {a b s : Int} {h p : List UInt8} (hab : a ≠ b) : entOf a s h p ≠ entOf b s h p := fun e => hab (by
  have := congrArg Prod.fst e
  simp only [entOf] at this
  omega)
theorem sgn_two (e f : Ent) : sgn (sgn (sgn [] e) f) e = sgn (sgn [] e) f := by
  by_cases h : f = e <;> simp [sgn, h]
theorem made_mark (c s : Int) (h b : List UInt8) (f : Ent) : made c s h b (sgn (sgn [] (entOf c s h b)) f) = made c s h b [] := by
  unfold made
  congr 1
  show mrk (sgn (sgn (sgn [] (entOf c s h b)) f) (entOf c s h b)) (entOf c s h b) = mrk (sgn [] (entOf c s h b)) (entOf c s h b)
  rw [sgn_two]
  by_cases h : f = entOf c s h b <;> simp [sgn, mrk, h, List.idxOf_cons]
theorem sgn_len (a b s : Int) (h p : List UInt8) : (sgn (sgn [] (entOf a s h p)) (entOf b s h p)).length = if a = b then 1 else 2 := by
  by_cases hab : a = b
  · subst hab; simp [sgn]
  · rw [if_neg hab]
    simp [sgn, (ent_ne hab).symm]
set_option maxHeartbeats 8000000 in
theorem commitAgain_walk (w : World) (ha : List UInt8) (hal : ha.length = 32) (A : Option Addr) (n cp : Nat) (p : List UInt8) (hp : By w A n p) (hpc : n ≤ cp) (hpm : cp ≤ maxLen)
    (a : Int) (ha1 : -9223372036854775808 ≤ a) (ha2 : a < 9223372036854775808) (b : Int) (hb1 : -9223372036854775808 ≤ b) (hb2 : b < 9223372036854775808) (hK : KW w) :
    Calls Tryd.prog 9 #[.agg (ha.map by8).toArray, .slice A n cp, .int .i64 a, .int .i64 b] w fun e w' => e = .returned (.bool true) ∧ Fr [] w w' := by
  have HK := Lib.hid hK
  have HAB := Lib.hid (And.intro ha1 ha2)
  have HBB := Lib.hid (And.intro hb1 hb2)
  have HAL := Lib.hid hal
  have HP := Lib.hid hp
  have HPN := Lib.hid (And.intro hpc (Nat.le_trans hpc hpm))
  obtain ⟨wa, hwa⟩ : ∃ wa, wa = w.alloc (Obj.cells (ha.map by8).toArray 26) := ⟨_, rfl⟩
  have hf0 : Fr [] w wa := by rw [hwa]; exact (Fr.refl [] w).alloc _
  have hb3 : Blk wa w.heap.size 26 (ha.map by8).toArray := by rw [hwa]; exact Blk.new _ _ _
  have HF0 := Lib.hid hf0
  have HB3 := Lib.hid hb3.range
  have HWS := Lib.hid hb3.lt
  have HWA := Lib.hid hwa
  clear hK hal hp hpc hpm hwa hf0 hb3 ha1 ha2 hb1 hb2
  go_enter Tryd.func9, Tryd.ntmps9
  go_upto_region 1 with (fail)
  rw [← HWA.out]
  go_wp2_with fail
  rw [show (80 : Int) = ((80 : Nat) : Int) from rfl]
  refine (cut_any A n cp 80 p wa (HP.out.keep HF0.out (by simp)) HPN.out.2 HPN.out.1 (by omega)).mono ?_
  rintro e w1 ⟨A1, c1, rfl, hN1⟩
  have h60 : (p.take 80).length ≤ 80 := List.length_take_le _ _
  generalize p.take 80 = p1 at *
  have HN1 := Lib.hid hN1
  have H60 := Lib.hid h60
  clear hN1 h60
  go_wp2_with fail
  refine (within_pos a 4 HAB.out.1 HAB.out.2 (by omega) (by omega) _).mono ?_
  rintro e wq ⟨rfl, rfl⟩
  have ka0 : 0 ≤ a % 4 := Int.emod_nonneg _ (by omega)
  have ka1 : a % 4 < 4 := Int.emod_lt_of_pos _ (by omega)
  generalize a % 4 = a4 at *
  go_wp2_with fail
  refine (within_pos b 4 HBB.out.1 HBB.out.2 (by omega) (by omega) _).mono ?_
  rintro e wq ⟨rfl, rfl⟩
  have kb0 : 0 ≤ b % 4 := Int.emod_nonneg _ (by omega)
  have kb1 : b % 4 < 4 := Int.emod_lt_of_pos _ (by omega)
  generalize b % 4 = b4 at *
  go_wp2_with fail
  refine (new_any w1).mono ?_
  rintro e w2 ⟨rfl, hbk, hf2⟩
  have HBK0 := Lib.hid hbk
  have HF2 : Hid (Fr [] wa w2) := Lib.hid (HN1.out.2.1.and hf2 (by simp))
  have HP1 := Lib.hid (HN1.out.by.keep hf2 (by simp))
  have HA1 : Hid (∀ k ∈ bk A1, wa.heap.size ≤ k ∧ k < w1.heap.size) := Lib.hid (fun k hk => ⟨HN1.out.2.2 k hk, HN1.out.lt k hk⟩)
  have HWN : Hid (wa.heap.size ≤ w1.heap.size) := Lib.hid HN1.out.2.1.size
  have HBL := Lib.hid hbk.lt
  clear HN1 HP HPN hbk hf2 HWA
  generalize hnb : w1.heap.size = nb at *
  clear hnb
  go_upto_region 6 with (fail)
  obtain ⟨w3, hw3⟩ : ∃ w3, w3 = w2.alloc (Obj.cells #[.int .i64 1, .int .i64 4] 44) := ⟨_, rfl⟩
  have hf3 : Fr [] w2 w3 := by rw [hw3]; exact (Fr.refl [] w2).alloc _
  have hbc : Blk w3 w2.heap.size 44 #[.int .i64 1, .int .i64 4] := by rw [hw3]; exact Blk.new _ _ _
  have HCF := Lib.hid hbc.range
  have HCL := Lib.hid hbc.lt
  have HF3 : Hid (Fr [] wa w3) := Lib.hid (HF2.out.and hf3 (by simp))
  have HFW : Hid (Fr [] w w3) := Lib.hid (HF0.out.and HF3.out (by simp))
  have HBK := Lib.hid (HBK0.out.keep hf3 (by simp))
  have HR3 := Lib.hid (HF3.out.range HB3.out (by simp))
  have HP3 := Lib.hid (HP1.out.keep hf3 (by simp))
  have HA3 : Hid (∀ k ∈ bk A1, k < w3.heap.size) := Lib.hid (fun k hk => by have h1 := (HA1.out k hk).2; have h2 := HBL.out nb (by simp); have := hf3.size; omega)
  have HAN : Hid (∀ k ∈ bk A1, ¬ k ∈ [nb + 1, nb]) := Lib.hid (fun k hk hm => by have h1 := (HA1.out k hk).2; simp at hm; omega)
  have HNS : Hid (¬ w.heap.size ∈ [nb + 1, nb]) := Lib.hid (fun hm => by have := HWN.out; have := HWS.out; simp at hm; omega)
  have HNW : Hid (¬ w2.heap.size ∈ [nb + 1, nb]) := Lib.hid (fun hm => by have := HBL.out _ hm; omega)
  have HK3 := Lib.hid (HK.out.keep HFW.out (by simp))
  have HKG : Hid (¬ 0 ∈ [nb + 1, nb]) := Lib.hid (fun hm => by have h1 := World.block_lt_of_cell? w _ (HK.out 0 (by omega)); simp only at h1; have := HWN.out; have := HWS.out; simp at hm; omega)
  have HBS : Hid (∀ k ∈ [nb + 1, nb], w.heap.size ≤ k ∧ k < w3.heap.size) := Lib.hid (fun k hk => by have h2 := HBL.out k hk; have := hf3.size; have := HWN.out; have := HWS.out; simp at hk; omega)
  have HGC := Lib.hid hw3
  clear HP1 HA1 HF2 HBL hf3 hbc hw3 HBK0
  generalize hgc : w2.heap.size = gc at *
  have hmk := fun (c : Int) (hc : 0 ≤ c ∧ c < 4) (l : List Ent) (hl : l.length < 1048576) W (hW : Fr [nb + 1, nb] w3 W) (A' : Option Addr) (c' : Nat) (hA' : By W A' p1.length p1) (hA2 : ∀ k ∈ bk A', k < W.heap.size) (hb : Bok W [nb + 1, nb] (nb + 1) l) =>
    make_any c 1 ⟨by omega, by omega⟩ ⟨by decide, by decide⟩ ha HAL.out A' p1.length c' p1 W hA' hA2 (by have := H60.out; omega) (HK3.out.keep hW HKG.out) [nb + 1, nb] (nb + 1) l hb hl
  have hmk1 := hmk a4 ⟨ka0, ka1⟩ [] (by decide)
  have hmk2 := hmk b4 ⟨kb0, kb1⟩ (sgn [] (entOf a4 1 ha p1)) (by simp [sgn])
  have hmk3 := hmk a4 ⟨ka0, ka1⟩ (sgn (sgn [] (entOf a4 1 ha p1)) (entOf b4 1 ha p1)) (by rw [sgn_len]; split <;> decide)
  clear hmk
  have hr1 := made_right a4 1 ka0 ha p1 (sgn (sgn [] (entOf a4 1 ha p1)) (entOf b4 1 ha p1)) 4 ka1 (by decide) (by have := H60.out; omega)
  have hr2 := made_right b4 1 kb0 ha p1 (sgn [] (entOf a4 1 ha p1)) 4 kb1 (by decide) (by have := H60.out; omega)
  have hzx := made_mark a4 1 ha p1 (entOf b4 1 ha p1)
  have hL3 := sgn_two (entOf a4 1 ha p1) (entOf b4 1 ha p1)
  have hLn := sgn_len a4 b4 1 ha p1
  have hyx : a4 = b4 → made b4 1 ha p1 (sgn [] (entOf a4 1 ha p1)) = made a4 1 ha p1 [] := by
    rintro rfl
    have h := made_mark a4 1 ha p1 (entOf a4 1 ha p1)
    rwa [show sgn (sgn [] (entOf a4 1 ha p1)) (entOf a4 1 ha p1) = sgn [] (entOf a4 1 ha p1) by simp [sgn]] at h
  have hyb : (made b4 1 ha p1 (sgn [] (entOf a4 1 ha p1))).b = 1000 + b4 := rfl
  have hxb : (made a4 1 ha p1 []).b = 1000 + a4 := rfl
  have hxn : (made a4 1 ha p1 []).n = (p1.length : Int) := rfl
  have hxc : (made a4 1 ha p1 []).c = a4 := rfl
  have hxs : (made a4 1 ha p1 []).s = 1 := rfl
  have hok1 := made_ok a4 1 ⟨by omega, by omega⟩ ⟨by decide, by decide⟩ ha p1 (by have := H60.out; omega) [] (by decide)
  have hok2 := made_ok b4 1 ⟨by omega, by omega⟩ ⟨by decide, by decide⟩ ha p1 (by have := H60.out; omega) (sgn [] (entOf a4 1 ha p1)) (by simp [sgn])
  have hmt := fun W (hW : Fr [nb + 1, nb] w3 W) => matches_any (made a4 1 ha p1 []).h (sumL_len _) a4 1 ⟨⟨by omega, by omega⟩, ⟨by decide, by decide⟩⟩ 0 A1 p1.length c1 p1 ha HAL.out W (HP3.out.keep hW (fun a ha => HAN.out a.block (by simp [bk, ha]))) (fun k hk => by have := HA3.out k hk; have := hW.size; omega) (by have := H60.out; omega) (HK3.out.keep hW HKG.out)
  rw [decide_eq_true (show (made a4 1 ha p1 []).h = sumL (ofL a4 1 ha p1) from rfl)] at hmt
  change ∀ W, Fr [nb + 1, nb] w3 W → ∀ (A' : Option Addr) (c' : Nat), By W A' p1.length p1 → (∀ k ∈ bk A', k < W.heap.size) → Bok W [nb + 1, nb] (nb + 1) [] → Calls _ _ _ W fun e w' => e = .returned (made a4 1 ha p1 []).val ∧ Bok w' [nb + 1, nb] (nb + 1) (sgn [] (entOf a4 1 ha p1)) ∧ Fr [nb + 1, nb] W w' at hmk1
  change ∀ W, Fr [nb + 1, nb] w3 W → ∀ (A' : Option Addr) (c' : Nat), By W A' p1.length p1 → (∀ k ∈ bk A', k < W.heap.size) → Bok W [nb + 1, nb] (nb + 1) (sgn [] (entOf a4 1 ha p1)) → Calls _ _ _ W fun e w' => e = .returned (made b4 1 ha p1 (sgn [] (entOf a4 1 ha p1))).val ∧ Bok w' [nb + 1, nb] (nb + 1) (sgn (sgn [] (entOf a4 1 ha p1)) (entOf b4 1 ha p1)) ∧ Fr [nb + 1, nb] W w' at hmk2
  change ∀ W, Fr [nb + 1, nb] w3 W → ∀ (A' : Option Addr) (c' : Nat), By W A' p1.length p1 → (∀ k ∈ bk A', k < W.heap.size) → Bok W [nb + 1, nb] (nb + 1) (sgn (sgn [] (entOf a4 1 ha p1)) (entOf b4 1 ha p1)) → Calls _ _ _ W fun e w' => e = .returned (made a4 1 ha p1 (sgn (sgn [] (entOf a4 1 ha p1)) (entOf b4 1 ha p1))).val ∧ Bok w' [nb + 1, nb] (nb + 1) (sgn (sgn (sgn [] (entOf a4 1 ha p1)) (entOf b4 1 ha p1)) (entOf a4 1 ha p1)) ∧ Fr [nb + 1, nb] W w' at hmk3
  change rightC 4 (sgn (sgn (sgn [] (entOf a4 1 ha p1)) (entOf b4 1 ha p1)) (entOf a4 1 ha p1)) _ = true at hr1
  change rightC 4 (sgn (sgn [] (entOf a4 1 ha p1)) (entOf b4 1 ha p1)) _ = true at hr2
  rw [hzx, hL3] at hmk3 hr1
  clear hzx hL3
  generalize made b4 1 ha p1 (sgn [] (entOf a4 1 ha p1)) = y at *
  generalize made a4 1 ha p1 [] = x at *
  generalize sgn (sgn [] (entOf a4 1 ha p1)) (entOf b4 1 ha p1) = L2 at *
  generalize sgn [] (entOf a4 1 ha p1) = L1 at *
  have HMK1 := Lib.hid hmk1
  have HMK2 := Lib.hid hmk2
  have HMK3 := Lib.hid hmk3
  have HRX := Lib.hid hr1
  have HRY := Lib.hid hr2
  have HLN := Lib.hid hLn
  have HYX := Lib.hid hyx
  have HYB := Lib.hid hyb
  have HXB := Lib.hid hxb
  have HXN := Lib.hid hxn
  have HXC := Lib.hid hxc
  have HXS := Lib.hid hxs
  have HOKX := Lib.hid hok1
  have HOKY := Lib.hid hok2
  have HMT := Lib.hid hmt
  have HLX := Lib.hid (Cm.len hok1.h)
  have HLY := Lib.hid (Cm.len hok2.h)
  have HLH := Lib.hid (show (ha.map by8).length = 32 by rw [List.length_map]; exact HAL.out)
  clear hmk1 hmk2 hmk3 hr1 hr2 hLn hyx hyb hxb hxn hxc hxs hok1 hok2 hmt
  unfold Cm.val at *
  go_upto_region 7 with (fail)
  rw [← HGC.out]
  clear HGC
  have HRw3 := HR3
  have HPw3 := HP3
  have HAw3 := HA3
  have HBKw3 := HBK
  have HFw3 : Hid (Fr [nb + 1, nb] w3 w3) := Lib.hid (Fr.refl _ _)
  go_upto_region 8 with (first
    | (refine wpList_row rfl 26 _ rfl _ _ rfl _ HRw3.out (row_hash.of HLH.out) ?_)
    | (go_at_call 30
       refine (HMK1.out w3 HFw3.out A1 c1 HPw3.out HAw3.out HBKw3.out).mono ?_
       rintro e w4 ⟨rfl, hbm, hfm⟩
       have HBKw4 := Lib.hid hbm
       have HFw4 := Lib.hid (HFw3.out.trans hfm (fun x hx _ => hx))
       have HFm := Lib.hid hfm
       have HNBw4 : Hid (∀ k ∈ [nb + 1, nb], k < w4.heap.size) := Lib.hid hbm.lt
       clear hbm hfm)
    | (refine wpList_store_box rfl 50 _ _ rfl zeroCm 50 x.cells rfl rfl (by rw [HLX.out]; kernel_rfl) (by rw [HLX.out]; rfl) x.one ?_
       intro w5 hbo hfo
       have HGx := Lib.hid hbo
       have HFo : Hid (Fr [] w4 w5) := Lib.hid hfo
       have HFw5 := Lib.hid (HFw4.out.go hfo (by simp))
       have HBKw5 := Lib.hid (HBKw4.out.keep hfo (by simp))
       have HRw5 := Lib.hid (hfo.range (HFm.out.range HRw3.out HNS.out) (by simp))
       have HPw5 := Lib.hid ((HPw3.out.keep HFm.out (fun a ha => HAN.out a.block (by simp [bk, ha]))).keep hfo (by simp))
       have HAw5 : Hid (∀ k ∈ bk A1, k < w5.heap.size) := Lib.hid (fun k hk => by have h1 := HAw3.out k hk; have h2 := HFm.out.size; have h3 := hfo.size; omega)
       clear hbo hfo))
  have HNx : Hid (¬ w4.heap.size ∈ [nb + 1, nb]) := Lib.hid (fun hm => by have := HNBw4.out _ hm; omega)
  generalize hgx : w4.heap.size = gx at *
  clear HFm HFo HNBw4 HBKw4 HFw4
  clear hgx
  go_upto_region 9 with (first
    | (refine wpList_row rfl 26 _ rfl _ _ rfl _ HRw5.out (row_hash.of HLH.out) ?_)
    | (go_at_call 30
       refine (HMK2.out w5 HFw5.out A1 c1 HPw5.out HAw5.out HBKw5.out).mono ?_
       rintro e w6 ⟨rfl, hbm, hfm⟩
       have HBKw6 := Lib.hid hbm
       have HFw6 := Lib.hid (HFw5.out.trans hfm (fun x hx _ => hx))
       have HFm := Lib.hid hfm
       have HNBw6 : Hid (∀ k ∈ [nb + 1, nb], k < w6.heap.size) := Lib.hid hbm.lt
       clear hbm hfm)
    | (refine wpList_store_box rfl 50 _ _ rfl zeroCm 50 y.cells rfl rfl (by rw [HLY.out]; kernel_rfl) (by rw [HLY.out]; rfl) y.one ?_
       intro w7 hbo hfo
       have HGy := Lib.hid hbo
       have HGx7 := Lib.hid ((HGx.out.keep HFm.out HNx.out).keep hfo (by simp))
       have HFo : Hid (Fr [] w6 w7) := Lib.hid hfo
       have HFw7 := Lib.hid (HFw6.out.go hfo (by simp))
       have HBKw7 := Lib.hid (HBKw6.out.keep hfo (by simp))
       have HRw7 := Lib.hid (hfo.range (HFm.out.range HRw5.out HNS.out) (by simp))
       have HPw7 := Lib.hid ((HPw5.out.keep HFm.out (fun a ha => HAN.out a.block (by simp [bk, ha]))).keep hfo (by simp))
       have HAw7 : Hid (∀ k ∈ bk A1, k < w7.heap.size) := Lib.hid (fun k hk => by have h1 := HAw5.out k hk; have h2 := HFm.out.size; have h3 := hfo.size; omega)
       clear hbo hfo))
  have HNy : Hid (¬ w6.heap.size ∈ [nb + 1, nb]) := Lib.hid (fun hm => by have := HNBw6.out _ hm; omega)
  generalize hgy : w6.heap.size = gy at *
  clear HFm HFo HNBw6 HBKw6 HFw6
  clear hgy
  clear HGx
  have HPC := HPw7
  have HCFW := Lib.hid (HFw7.out.range HCF.out HNW.out)
  have HNB : Hid (∀ k ∈ [nb + 1, nb], k < w7.heap.size) := Lib.hid HBKw7.out.lt
  have hcp := fun W (hW : Fr [nb + 1, nb] w7 W) => copy_any A1 p1.length c1 p1 W (HPw7.out.keep hW (fun a ha => HAN.out a.block (by simp [bk, ha]))) (by have := H60.out; omega)
  have HCP := Lib.hid hcp
  clear hcp
  (try simp only [Act.put])
  go_cut [13] (fun s13 wx => ∃ g13, s13 = .pointer (some ⟨g13, 0, none⟩) ∧ Blk wx g13 50 x.cells.toArray ∧ Bok wx [nb + 1, nb] (nb + 1) L2 ∧ Fr [nb + 1, nb] w7 wx)
  case first =>
    refine wp_region_held_drew (S := Fr [nb + 1, nb] w7) (by kernel_rfl) (Fr.drew (Fr.refl _ w7)) (fun hHeld => ?_)
    refine run_at (i := 0) (v := ?_) rfl (by kernel_rfl) (by rfl) (fun _ _ _ h => h) hHeld (fun w1 hw1 => ?_) ?_
    rotate_left 1
    · skip
      go_simp
      (try (first | with_reducible rfl | (apply And.intro <;> rfl)))
    simp only [Act.put, List.setIfInBounds_toArray, List.set_cons_zero, List.set_cons_succ]
    refine run_at (i := 1) (v := ?_) rfl (by kernel_rfl) (by rfl) (fun _ _ _ h => h) hHeld (fun w1 hw1 => ?_) ?_
    rotate_left 1
    · skip
      go_simp
      (try (first | with_reducible rfl | (apply And.intro <;> rfl)))
    simp only [Act.put, List.setIfInBounds_toArray, List.set_cons_zero, List.set_cons_succ]
    refine run_at (i := 2) (v := ?_) rfl (by kernel_rfl) (by rfl) (fun _ _ _ h => h) hHeld (fun w1 hw1 => ?_) ?_
    rotate_left 1
    · skip
      go_simp
      (try (first | with_reducible rfl | (apply And.intro <;> rfl)))
    simp only [Act.put, List.setIfInBounds_toArray, List.set_cons_zero, List.set_cons_succ]
    refine row_at (i := 3) rfl (by kernel_rfl) (by rfl) _ _ rfl _ _ rfl _ (fun w1 hw1 => hw1.range (HRw7.out) (by first | (simp; done) | exact HNS.out | exact HNW.out | (intro hm; have hlt := HSB.out _ hm; (try dsimp only at hlt); omega))) (row_hash.of HLH.out) (fun _ _ _ h => h) hHeld ?_
    simp only [Act.put, List.setIfInBounds_toArray, List.set_cons_zero, List.set_cons_succ]
    refine run_at (i := 4) (v := ?_) rfl (by kernel_rfl) (by rfl) (fun _ _ _ h => h) hHeld (fun w1 hw1 => ?_) ?_
    rotate_left 1
    · skip
      go_simp
      (try (first | with_reducible rfl | (apply And.intro <;> rfl)))
    simp only [Act.put, List.setIfInBounds_toArray, List.set_cons_zero, List.set_cons_succ]
    have HBK : Hid (Bok w7.drew [nb + 1, nb] (nb + 1) L2) := Lib.hid (HBKw7.out.keep ((Fr.refl [] w7).drew) (by simp))
    refine two_at (i := 5) (j := 7) rfl rfl (by kernel_rfl) (by rfl) (by rfl) (fun K hK => ?_) (fun K hK => ?_)
    · skip
      refine wp_call (f := ?_) (args := ?_) ?_ ?_
      rotate_left 2
      · go_simp
        (try (first | with_reducible rfl | (apply And.intro <;> rfl)))
      refine (HCP.out _ hHeld).mono ?_
      rintro e v0 ⟨AC, cC, rfl, hnC⟩
      have HNC := Lib.hid hnC
      refine ⟨_, rfl, hK.out _ _ (hHeld.go hnC.2.1 (by simp)) (fun hHeld => ?_)⟩
      clear hK K
      simp only [Act.put, List.setIfInBounds_toArray, List.set_cons_zero, List.set_cons_succ]
      have HBK := Lib.hid (HBK.out.keep hnC.2.1 (by simp))
      have HPN := Lib.hid hnC.by
      have HAC : Hid (∀ k ∈ bk AC, k < v0.heap.size) := Lib.hid hnC.lt
      clear hnC
      refine two_at (i := 6) (j := 7) rfl rfl (by kernel_rfl) (by rfl) (by rfl) (fun K hK => ?_) (fun K hK => ?_)
      · skip
        refine wp_call (f := ?_) (args := ?_) ?_ ?_
        rotate_left 2
        · go_simp
          (try (first | with_reducible rfl | (apply And.intro <;> rfl)))
        refine (HMK3.out _ (HFw7.out.trans hHeld (fun x hx _ => hx)) AC cC HPN.out HAC.out HBK.out).mono ?_
        rintro e v1 ⟨rfl, hbn, hfn⟩
        refine ⟨_, rfl, hK.out _ _ (hHeld.trans hfn (fun x hx _ => hx)) (fun hHeld => ?_)⟩
        clear hK K
        simp only [Act.put, List.setIfInBounds_toArray, List.set_cons_zero, List.set_cons_succ]
        have HBK := Lib.hid hbn
        clear hfn hbn
        refine step_at (i := 7) rfl (by kernel_rfl) (by rfl) (fun K hK => ?_)
        refine wp_run (v := ?_) (w' := ?_) ?_ ?_
        rotate_left 2
        · go_simp
          (try (first | with_reducible rfl | (apply And.intro <;> rfl)))
        refine hK.out _ (v1.alloc (Obj.cells zeroCm 50)) (hHeld.alloc _) (fun hHeld => ?_)
        clear hK K
        simp only [Act.put, List.setIfInBounds_toArray, List.set_cons_zero, List.set_cons_succ]
        obtain ⟨g13, hg13⟩ : ∃ g, g = v1.heap.size := ⟨_, rfl⟩
        have HG13 : Hid (Blk (v1.alloc (Obj.cells zeroCm 50)) g13 50 zeroCm) := Lib.hid (by rw [hg13]; exact Blk.new _ _ _)
        have HW13 : Hid (w7.heap.size ≤ g13) := Lib.hid (by rw [hg13]; exact (‹Fr [nb + 1, nb] w7 v1›).size)
        have HBK := Lib.hid (HBK.out.keep ((Fr.refl [] v1).alloc (Obj.cells zeroCm 50)) (by simp))
        rw [← hg13]
        clear hg13
        generalize v1.alloc (Obj.cells zeroCm 50) = v2 at *
        refine step_at (i := 8) rfl (by kernel_rfl) (by rfl) (fun K hK => ?_)
        refine wp_store_blk 50 _ _ rfl g13 x.cells.toArray rfl rfl 50 zeroCm HG13.out (by rw [List.size_toArray, HLX.out]; kernel_rfl) ((show zeroCm.size = 37 from rfl).trans (by rw [List.size_toArray, HLX.out])) x.all ?_
        intro wy hby hfy
        refine hK.out _ _ (hHeld.go hfy (by have := HW13.out; simpa using this)) (fun hHeld => ?_)
        clear hK K
        simp only [Act.put, List.setIfInBounds_toArray, List.set_cons_zero, List.set_cons_succ]
        refine wpAnyH_done (by kernel_rfl) ?_ _
        go_wp2_with fail
        go_meet
        exact ⟨g13, rfl, hby, HBK.out.keep hfy (fun k hk hm => by have h1 := HNB.out k hk; have h2 := HW13.out; simp only [List.mem_singleton] at hm; omega), hHeld⟩
      · skip
        refine wp_run (v := ?_) (w' := ?_) ?_ ?_
        rotate_left 2
        · go_simp
          (try (first | with_reducible rfl | (apply And.intro <;> rfl)))
        refine hK.out _ (v0.alloc (Obj.cells zeroCm 50)) (hHeld.alloc _) (fun hHeld => ?_)
        clear hK K
        simp only [Act.put, List.setIfInBounds_toArray, List.set_cons_zero, List.set_cons_succ]
        obtain ⟨g13, hg13⟩ : ∃ g, g = v0.heap.size := ⟨_, rfl⟩
        have HG13 : Hid (Blk (v0.alloc (Obj.cells zeroCm 50)) g13 50 zeroCm) := Lib.hid (by rw [hg13]; exact Blk.new _ _ _)
        have HW13 : Hid (w7.heap.size ≤ g13) := Lib.hid (by rw [hg13]; exact (‹Fr [nb + 1, nb] w7 v0›).size)
        have HBK := Lib.hid (HBK.out.keep ((Fr.refl [] v0).alloc (Obj.cells zeroCm 50)) (by simp))
        have HPN := Lib.hid (HPN.out.keep ((Fr.refl [] v0).alloc (Obj.cells zeroCm 50)) (by simp))
        have HAC : Hid (∀ k ∈ bk AC, k < (v0.alloc (Obj.cells zeroCm 50)).heap.size) := Lib.hid (fun k hk => Nat.lt_of_lt_of_le (HAC.out k hk) ((Fr.refl [] v0).alloc (Obj.cells zeroCm 50)).size)
        rw [← hg13]
        clear hg13
        generalize v0.alloc (Obj.cells zeroCm 50) = v1 at *
        refine step_at (i := 6) rfl (by kernel_rfl) (by rfl) (fun K hK => ?_)
        refine wp_call (f := ?_) (args := ?_) ?_ ?_
        rotate_left 2
        · go_simp
          (try (first | with_reducible rfl | (apply And.intro <;> rfl)))
        refine (HMK3.out _ (HFw7.out.trans hHeld (fun x hx _ => hx)) AC cC HPN.out HAC.out HBK.out).mono ?_
        rintro e v2 ⟨rfl, hbn, hfn⟩
        refine ⟨_, rfl, hK.out _ _ (hHeld.trans hfn (fun x hx _ => hx)) (fun hHeld => ?_)⟩
        clear hK K
        simp only [Act.put, List.setIfInBounds_toArray, List.set_cons_zero, List.set_cons_succ]
        have HBK := Lib.hid hbn
        have HG13 := Lib.hid (HG13.out.keep hfn (fun hm => by have h1 := HNB.out _ hm; have h2 := HW13.out; omega))
        clear hfn hbn
        refine step_at (i := 8) rfl (by kernel_rfl) (by rfl) (fun K hK => ?_)
        refine wp_store_blk 50 _ _ rfl g13 x.cells.toArray rfl rfl 50 zeroCm HG13.out (by rw [List.size_toArray, HLX.out]; kernel_rfl) ((show zeroCm.size = 37 from rfl).trans (by rw [List.size_toArray, HLX.out])) x.all ?_
        intro wy hby hfy
        refine hK.out _ _ (hHeld.go hfy (by have := HW13.out; simpa using this)) (fun hHeld => ?_)
        clear hK K
        simp only [Act.put, List.setIfInBounds_toArray, List.set_cons_zero, List.set_cons_succ]
        refine wpAnyH_done (by kernel_rfl) ?_ _
        go_wp2_with fail
        go_meet
        exact ⟨g13, rfl, hby, HBK.out.keep hfy (fun k hk hm => by have h1 := HNB.out k hk; have h2 := HW13.out; simp only [List.mem_singleton] at hm; omega), hHeld⟩
    · skip
      refine wp_run (v := ?_) (w' := ?_) ?_ ?_
      rotate_left 2
      · go_simp
        (try (first | with_reducible rfl | (apply And.intro <;> rfl)))
      refine hK.out _ (w7.drew.alloc (Obj.cells zeroCm 50)) (hHeld.alloc _) (fun hHeld => ?_)
      clear hK K
      simp only [Act.put, List.setIfInBounds_toArray, List.set_cons_zero, List.set_cons_succ]
      obtain ⟨g13, hg13⟩ : ∃ g, g = w7.heap.size := ⟨_, rfl⟩
      have HG13 : Hid (Blk (w7.drew.alloc (Obj.cells zeroCm 50)) g13 50 zeroCm) := Lib.hid (by rw [hg13]; exact Blk.new _ _ _)
      have HW13 : Hid (w7.heap.size ≤ g13) := Lib.hid (by rw [hg13]; exact (‹Fr [nb + 1, nb] w7 w7.drew›).size)
      have HBK := Lib.hid (HBK.out.keep ((Fr.refl [] w7.drew).alloc (Obj.cells zeroCm 50)) (by simp))
      rw [← hg13]
      clear hg13
      generalize w7.drew.alloc (Obj.cells zeroCm 50) = v0 at *
      refine step_at (i := 5) rfl (by kernel_rfl) (by rfl) (fun K hK => ?_)
      refine wp_call (f := ?_) (args := ?_) ?_ ?_
      rotate_left 2
      · go_simp
        (try (first | with_reducible rfl | (apply And.intro <;> rfl)))
      refine (HCP.out _ hHeld).mono ?_
      rintro e v1 ⟨AC, cC, rfl, hnC⟩
      have HNC := Lib.hid hnC
      refine ⟨_, rfl, hK.out _ _ (hHeld.go hnC.2.1 (by simp)) (fun hHeld => ?_)⟩
      clear hK K
      simp only [Act.put, List.setIfInBounds_toArray, List.set_cons_zero, List.set_cons_succ]
      have HBK := Lib.hid (HBK.out.keep hnC.2.1 (by simp))
      have HPN := Lib.hid hnC.by
      have HAC : Hid (∀ k ∈ bk AC, k < v1.heap.size) := Lib.hid hnC.lt
      have HG13 := Lib.hid (HG13.out.keep hnC.2.1 (by simp))
      clear hnC
      refine step_at (i := 6) rfl (by kernel_rfl) (by rfl) (fun K hK => ?_)
      refine wp_call (f := ?_) (args := ?_) ?_ ?_
      rotate_left 2
      · go_simp
        (try (first | with_reducible rfl | (apply And.intro <;> rfl)))
      refine (HMK3.out _ (HFw7.out.trans hHeld (fun x hx _ => hx)) AC cC HPN.out HAC.out HBK.out).mono ?_
      rintro e v2 ⟨rfl, hbn, hfn⟩
      refine ⟨_, rfl, hK.out _ _ (hHeld.trans hfn (fun x hx _ => hx)) (fun hHeld => ?_)⟩
      clear hK K
      simp only [Act.put, List.setIfInBounds_toArray, List.set_cons_zero, List.set_cons_succ]
      have HBK := Lib.hid hbn
      have HG13 := Lib.hid (HG13.out.keep hfn (fun hm => by have h1 := HNB.out _ hm; have h2 := HW13.out; omega))
      clear hfn hbn
      refine step_at (i := 8) rfl (by kernel_rfl) (by rfl) (fun K hK => ?_)
      refine wp_store_blk 50 _ _ rfl g13 x.cells.toArray rfl rfl 50 zeroCm HG13.out (by rw [List.size_toArray, HLX.out]; kernel_rfl) ((show zeroCm.size = 37 from rfl).trans (by rw [List.size_toArray, HLX.out])) x.all ?_
      intro wy hby hfy
      refine hK.out _ _ (hHeld.go hfy (by have := HW13.out; simpa using this)) (fun hHeld => ?_)
      clear hK K
      simp only [Act.put, List.setIfInBounds_toArray, List.set_cons_zero, List.set_cons_succ]
      refine wpAnyH_done (by kernel_rfl) ?_ _
      go_wp2_with fail
      go_meet
      exact ⟨g13, rfl, hby, HBK.out.keep hfy (fun k hk hm => by have h1 := HNB.out k hk; have h2 := HW13.out; simp only [List.mem_singleton] at hm; omega), hHeld⟩
  case rest =>
    obtain ⟨g13, rfl, hb13, hbk8, hf8⟩ := hcut
    obtain ⟨wx, hwx⟩ : ∃ wx, wx = wc := ⟨_, rfl⟩
    subst hwx
    have HF8 := Lib.hid (HFw7.out.trans hf8 (fun x hx _ => hx))
    have hatx := Cm.at_blk (HGx7.out.keep hf8 HNx.out) HOKX.out.h
    have haty := Cm.at_blk (HGy.out.keep hf8 HNy.out) HOKY.out.h
    have hatz := Cm.at_blk hb13 HOKX.out.h
    have HXA := Lib.hid (fun W (hW : Fr [] wx W) => hW.range hatx.all (by simp))
    have HXG := Lib.hid (fun W (hW : Fr [] wx W) => hW.range hatx.sig (by simp))
    have HXH := Lib.hid (fun W (hW : Fr [] wx W) => hW.range hatx.hash (by simp))
    have HXM := Lib.hid (fun W (hW : Fr [] wx W) => hW.range hatx.name (by simp))
    have HXN4 : Hid (wx.cell? ⟨gx, 34, none⟩ = some (.int .i64 (p1.length : Int))) := Lib.hid (by rw [← HXN.out]; exact hatx.n)
    have HYA := Lib.hid (fun W (hW : Fr [] wx W) => hW.range haty.all (by simp))
    have HYG := Lib.hid (fun W (hW : Fr [] wx W) => hW.range haty.sig (by simp))
    have HZA := Lib.hid (fun W (hW : Fr [] wx W) => hW.range hatz.all (by simp))
    have HCW := Lib.hid (fun W (hW : Fr [] wx W) => hW.range (hf8.range HCFW.out HNW.out) (by simp))
    have HHW := Lib.hid (fun W (hW : Fr [] wx W) => hW.range (hf8.range HRw7.out HNS.out) (by simp))
    have HBX := Lib.hid (fun W (hW : Fr [] wx W) => hbk8.keep hW (by simp))
    have HLXH := Lib.hid (show (x.h.map by8).length = 32 by rw [List.length_map]; exact HOKX.out.h)
    have HBO := Lib.hid (built_opening A1 p1.length c1 ha HAL.out)
    have HF00 : Hid (Fr [] wx wx) := Lib.hid (Fr.refl _ _)
    have hcs := fun W => commit_self x HOKX.out.h W
    clear hb13 hbk8 hf8 hatx haty hatz HMK1 HMK2 HMK3
    by_cases hab : a4 = b4
    · have hy := HYX.out hab
      have hl := HLN.out
      rw [if_pos hab] at hl
      have hd : (a4 == b4) = true := by simp [hab]
      have hd2 : (a4 != b4) = false := by simp [hab]
      have hsg : ∀ W : World, (Op.equalIn 10000 48 (.agg #[.int .i64 x.b, .int .i64 x.m]) (.agg #[.int .i64 x.b, .int .i64 x.m])).run Tryd.prog W = .ok true W := fun W => sig_selfd x.b x.m 9998 W
      rw [hy] at HYA HYG HRY HLY HOKY
      have HLL := Lib.hid hl
      clear hy hl hab HYX HLN HYB HXB
      go_wp2_with (first
        | (refine wpList_row rfl 50 _ rfl _ _ rfl _ (HXA.out _ HF00.out) (row_commit.of HLX.out) ?_)
        | (refine wpList_row rfl 50 _ rfl _ _ rfl _ (HZA.out _ HF00.out) (row_commit.of HLX.out) ?_)
        | (refine wpList_row rfl 48 _ rfl _ _ rfl _ (HXG.out _ HF00.out) row_sig ?_)
        | (refine wpList_row rfl 48 _ rfl _ _ rfl _ (HYG.out _ HF00.out) row_sig ?_))
      have h := len_any wx _ _ _ (HBX.out _ HF00.out)
      rw [HLL.out] at h
      refine h.mono ?_
      clear h
      rintro e wq ⟨rfl, rfl⟩
      go_wp2_with (first
        | (refine wpList_row rfl 44 _ rfl _ _ rfl _ (HCW.out _ HF00.out) row_conf ?_)
        | (refine wpList_row rfl 50 _ rfl _ _ rfl _ (HXA.out _ HF00.out) (row_commit.of HLX.out) ?_))
      have h := cright_any 1 4 x HOKX.out wx _ _ L2 (HBX.out _ HF00.out)
      rw [HRX.out] at h
      unfold Cm.val at h
      refine h.mono ?_
      clear h
      rintro e wz ⟨rfl, hfz⟩
      have HFZ := Lib.hid hfz
      clear hfz
      go_wp2_with (first
        | (refine wpList_row rfl 44 _ rfl _ _ rfl _ (HCW.out _ HFZ.out) row_conf ?_)
        | (refine wpList_row rfl 50 _ rfl _ _ rfl _ (HYA.out _ HFZ.out) (row_commit.of HLY.out) ?_))
      have h := cright_any 1 4 x HOKY.out wz _ _ L2 (HBX.out _ HFZ.out)
      rw [HRY.out] at h
      unfold Cm.val at h
      refine h.mono ?_
      clear h
      rintro e wy ⟨rfl, hfy⟩
      have HFY := Lib.hid (HFZ.out.and hfy (by simp))
      have hcn := HFY.out.cell HXN4.out (by simp)
      clear hfy
      go_wp2_with (first
        | (refine wpList_row rfl 26 _ rfl _ _ rfl _ (HXH.out _ HFY.out) (row_hash.of HLXH.out) ?_)
        | (refine wpList_row rfl 26 _ rfl _ _ rfl _ (HHW.out _ HFY.out) (row_hash.of HLH.out) ?_)
        | (refine wpList_row rfl 46 _ rfl _ _ rfl _ (HXM.out _ HFY.out) row_name ?_)
        | (refine wpList_builtg rfl 59 _ rfl _ _ HBO.out rfl ?_))
      have hx1 := HXC.out
      have hx2 := HXS.out
      rw [hx1, hx2]
      clear hx1 hx2
      have h := HMT.out wy (HF8.out.go HFY.out (by simp))
      refine h.mono ?_
      clear h
      rintro e wv ⟨rfl, hfv⟩
      have HFV := Lib.hid (HFY.out.and hfv (by simp))
      clear hfv
      go_wp2_with fail
      refine (cwakes_any _ (HK3.out.keep (HF8.out.go HFV.out (by simp)) HKG.out)).mono ?_
      rintro e wu ⟨rfl, hfu⟩
      have HFU := Lib.hid (HFV.out.and hfu (by simp))
      clear hfu
      go_wp2
      go_ret
      exact ⟨rfl, (HFW.out.trans HF8.out (fun x hx hl => by have := (HBS.out x hx).1; omega)).and HFU.out (by simp)⟩
    · have hl := HLN.out
      rw [if_neg hab] at hl
      have hd : (a4 == b4) = false := by simp [hab]
      have hd2 : (a4 != b4) = true := by simp [hab]
      have hbb : (x.b == y.b) = false := by rw [HXB.out, HYB.out]; simp; omega
      have HLL := Lib.hid hl
      clear hl hab HYX HLN HYB HXB
      go_wp2_with (first
        | (refine wpList_row rfl 50 _ rfl _ _ rfl _ (HXA.out _ HF00.out) (row_commit.of HLX.out) ?_)
        | (refine wpList_row rfl 50 _ rfl _ _ rfl _ (HZA.out _ HF00.out) (row_commit.of HLX.out) ?_)
        | (refine wpList_row rfl 48 _ rfl _ _ rfl _ (HXG.out _ HF00.out) row_sig ?_)
        | (refine wpList_row rfl 48 _ rfl _ _ rfl _ (HYG.out _ HF00.out) row_sig ?_))
      have h := len_any wx _ _ _ (HBX.out _ HF00.out)
      rw [HLL.out] at h
      refine h.mono ?_
      clear h
      rintro e wq ⟨rfl, rfl⟩
      go_wp2_with (first
        | (refine wpList_row rfl 44 _ rfl _ _ rfl _ (HCW.out _ HF00.out) row_conf ?_)
        | (refine wpList_row rfl 50 _ rfl _ _ rfl _ (HXA.out _ HF00.out) (row_commit.of HLX.out) ?_))
      have h := cright_any 1 4 x HOKX.out wx _ _ L2 (HBX.out _ HF00.out)
      rw [HRX.out] at h
      unfold Cm.val at h
      refine h.mono ?_
      clear h
      rintro e wz ⟨rfl, hfz⟩
      have HFZ := Lib.hid hfz
      clear hfz
      go_wp2_with (first
        | (refine wpList_row rfl 44 _ rfl _ _ rfl _ (HCW.out _ HFZ.out) row_conf ?_)
        | (refine wpList_row rfl 50 _ rfl _ _ rfl _ (HYA.out _ HFZ.out) (row_commit.of HLY.out) ?_))
      have h := cright_any 1 4 y HOKY.out wz _ _ L2 (HBX.out _ HFZ.out)
      rw [HRY.out] at h
      unfold Cm.val at h
      refine h.mono ?_
      clear h
      rintro e wy ⟨rfl, hfy⟩
      have HFY := Lib.hid (HFZ.out.and hfy (by simp))
      have hcn := HFY.out.cell HXN4.out (by simp)
      clear hfy
      go_wp2_with (first
        | (refine wpList_row rfl 26 _ rfl _ _ rfl _ (HXH.out _ HFY.out) (row_hash.of HLXH.out) ?_)
        | (refine wpList_row rfl 26 _ rfl _ _ rfl _ (HHW.out _ HFY.out) (row_hash.of HLH.out) ?_)
        | (refine wpList_row rfl 46 _ rfl _ _ rfl _ (HXM.out _ HFY.out) row_name ?_)
        | (refine wpList_builtg rfl 59 _ rfl _ _ HBO.out rfl ?_))
      have hx1 := HXC.out
      have hx2 := HXS.out
      rw [hx1, hx2]
      clear hx1 hx2
      have h := HMT.out wy (HF8.out.go HFY.out (by simp))
      refine h.mono ?_
      clear h
      rintro e wv ⟨rfl, hfv⟩
      have HFV := Lib.hid (HFY.out.and hfv (by simp))
      clear hfv
      go_wp2_with fail
      refine (cwakes_any _ (HK3.out.keep (HF8.out.go HFV.out (by simp)) HKG.out)).mono ?_
      rintro e wu ⟨rfl, hfu⟩
      have HFU := Lib.hid (HFV.out.and hfu (by simp))
      clear hfu
      go_wp2
      go_ret
      exact ⟨rfl, (HFW.out.trans HF8.out (fun x hx hl => by have := (HBS.out x hx).1; omega)).and HFU.out (by simp)⟩
end Go.Proofs.YtbajkdlemgnmkaaDoor
