/- The walk of CommitOf. -/
import Derived.Test.YtbajkdlemgnmkaaDoorRefTx
import Derived.Test.YtbajkdlemgnmkaaDoorCm7
import Derived.Deep.CutBlock
namespace Go.Proofs.YtbajkdlemgnmkaaDoor
open Go.RowKit
set_option maxRecDepth 100000

set_option maxHeartbeats 8000000 in
theorem commitOf_walk (w : World) (c s : Int) (hc : i64In c) (hs : i64In s) (ha : List UInt8) (hal : ha.length = 32)
    (A : Option Addr) (n cp : Nat) (p : List UInt8) (hp : By w A n p) (hpc : n ≤ cp) (hpm : cp ≤ maxLen) (A' : Option Addr) (n' cp' : Nat) (q : List UInt8) (hq : By w A' n' q) (hqc : n' ≤ cp') (hqm : cp' ≤ maxLen)
    (x : Cm) (hx : x.Ok) (f k : Int) (hf : i64In f) (hk : i64In k) (twin : Bool) (hK : KW w) :
    Calls Tryd.prog 10 #[.agg #[.int .i64 c, .int .i64 s], .agg (ha.map by8).toArray, .slice A n cp, .slice A' n' cp', x.val, .agg #[.int .i64 f, .int .i64 k], .bool twin] w fun e w' => e = .returned (.bool true) ∧ Fr [] w w' := by
  have HK := Lib.hid hK
  have HC := Lib.hid hc
  have HS := Lib.hid hs
  have HAL := Lib.hid hal
  have HP := Lib.hid hp
  have HQ := Lib.hid hq
  have HX := Lib.hid hx
  have HPN := Lib.hid (And.intro hpc (Nat.le_trans hpc hpm))
  have HQN := Lib.hid (And.intro hqc (Nat.le_trans hqc hqm))
  obtain ⟨wa, hwa⟩ : ∃ wa, wa = (((w.alloc (Obj.cells #[.int .i64 c, .int .i64 s] 46)).alloc (Obj.cells (ha.map by8).toArray 26)).alloc (Obj.cells x.cells.toArray 50)).alloc (Obj.cells #[.int .i64 f, .int .i64 k] 44) := ⟨_, rfl⟩
  have hf0 : Fr [] w wa := by rw [hwa]; exact ((((Fr.refl [] w).alloc _).alloc _).alloc _).alloc _
  have hb1 : Blk wa w.heap.size 46 #[.int .i64 c, .int .i64 s] := by rw [hwa]; exact blk_alloc (blk_alloc (blk_alloc (Blk.new _ _ _)))
  have hb2 : Blk wa (w.heap.size + 1) 26 (ha.map by8).toArray := by
    have := blk_alloc (t' := 44) (cs' := #[.int .i64 f, .int .i64 k]) (blk_alloc (t' := 50) (cs' := x.cells.toArray) (Blk.new (w.alloc (Obj.cells #[.int .i64 c, .int .i64 s] 46)) 26 (ha.map by8).toArray))
    rw [hwa]; simpa using this
  have hb3 : Blk wa (w.heap.size + 2) 50 x.cells.toArray := by
    have := blk_alloc (t' := 44) (cs' := #[.int .i64 f, .int .i64 k]) (Blk.new ((w.alloc (Obj.cells #[.int .i64 c, .int .i64 s] 46)).alloc (Obj.cells (ha.map by8).toArray 26)) 50 x.cells.toArray)
    rw [hwa]; simpa using this
  have hb4 : Blk wa (w.heap.size + 3) 44 #[.int .i64 f, .int .i64 k] := by
    have := Blk.new (((w.alloc (Obj.cells #[.int .i64 c, .int .i64 s] 46)).alloc (Obj.cells (ha.map by8).toArray 26)).alloc (Obj.cells x.cells.toArray 50)) 44 #[.int .i64 f, .int .i64 k]
    rw [hwa]; simpa using this
  have HF0 := Lib.hid hf0
  have HB1 := Lib.hid hb1.range
  have HB2 := Lib.hid hb2.range
  have HB3 := Lib.hid hb3.range
  have HB4 := Lib.hid hb4.range
  have HWA := Lib.hid hwa
  have HV := Lib.hid (fun W => valid_any f k x hx.h W)
  have HRV := Lib.hid (fun W => refvalid_any f k x hx.h W)
  have HT := Lib.hid (fun W => text_any x hx W)
  have HRT := Lib.hid (fun W => reftext_any x hx W)
  have HTL := Lib.hid (x.text_len hx)
  have HXL := Lib.hid (Cm.len hx.h)
  clear hK hc hs hal hp hq hx hpc hpm hqc hqm hwa hf0 hb1 hb2 hb3 hb4 hf hk
  unfold Cm.val at *
  generalize x.text = T at *
  generalize validB k x = V at *
  generalize x.cells = C at *
  go_enter Tryd.func10, Tryd.ntmps10
  go_upto_region 1 with (fail)
  change Code.wp _ _ _ _ ((((w.alloc (Obj.cells #[.int .i64 c, .int .i64 s] 46)).alloc (Obj.cells (ha.map by8).toArray 26)).alloc (Obj.cells C.toArray 50)).alloc (Obj.cells #[.int .i64 f, .int .i64 k] 44))
  rw [← HWA.out]
  go_wp2_with fail
  rw [show (100 : Int) = ((100 : Nat) : Int) from rfl]
  refine (cut_any A n cp 100 p wa (HP.out.keep HF0.out (by simp)) HPN.out.2 HPN.out.1 (by omega)).mono ?_
  rintro e w1 ⟨A1, c1, rfl, hN1⟩
  have h60 : (p.take 100).length ≤ 100 := List.length_take_le _ _
  generalize p.take 100 = p1 at *
  have HN1 := Lib.hid hN1
  have H60 := Lib.hid h60
  clear hN1 h60
  go_wp2_with fail
  rw [show (100 : Int) = ((100 : Nat) : Int) from rfl]
  refine (cut_any A' n' cp' 100 q w1 (HQ.out.keep (HF0.out.and HN1.out.2.1 (by simp)) (by simp)) HQN.out.2 HQN.out.1 (by omega)).mono ?_
  rintro e w2 ⟨A2, c2, rfl, hN2⟩
  have h60 : (q.take 100).length ≤ 100 := List.length_take_le _ _
  generalize q.take 100 = q1 at *
  have HN2 := Lib.hid hN2
  have H60' := Lib.hid h60
  clear hN2 h60
  have HP2 := Lib.hid (HN1.out.by.keep HN2.out.2.1 (by simp))
  have HF2 : Hid (Fr [] wa w2) := Lib.hid (HN1.out.2.1.and HN2.out.2.1 (by simp))
  have HA2 : Hid (∀ k ∈ bk A1, k < w2.heap.size) := Lib.hid (fun k hk => Nat.lt_of_lt_of_le (HN1.out.lt k hk) HN2.out.2.1.size)
  clear HN1 HP HQ HPN HQN
  go_upto_if 21 with (fail)
  go_cut [3] (fun s3 wx => ∃ (A3 : Option Addr) (c3 : Nat) (o : List UInt8), s3 = .slice A3 o.length c3 ∧ By wx A3 o.length o ∧ (∀ k ∈ bk A3, k < wx.heap.size) ∧ o.length ≤ 100 ∧ Fr [] w2 wx)
  case first =>
    cases twin
    · go_wp2_with fail
      go_meet
      exact ⟨A2, c2, q1, rfl, HN2.out.by, HN2.out.lt, H60'.out, Fr.refl _ _⟩
    · go_wp2_with fail
      refine (copy_any A1 p1.length c1 p1 w2 HP2.out (by have := H60.out; omega)).mono ?_
      rintro e w3 ⟨A3, c3, rfl, hN3⟩
      have HN3 := Lib.hid hN3
      clear hN3
      go_wp2_with fail
      go_meet
      exact ⟨A3, c3, p1, rfl, HN3.out.by, HN3.out.lt, H60.out, HN3.out.2.1⟩
  case rest =>
    obtain ⟨A3, c3, o, rfl, hy3, ha3, hl3, hf3⟩ := hcut
    obtain ⟨w3, hw3⟩ : ∃ w3, w3 = wc := ⟨_, rfl⟩
    subst hw3
    have HY3 := Lib.hid hy3
    have HA3 := Lib.hid ha3
    have HL3 := Lib.hid hl3
    have HF3 : Hid (Fr [] wa w3) := Lib.hid (HF2.out.and hf3 (by simp))
    have HP3 := Lib.hid (HP2.out.keep hf3 (by simp))
    have HA13 : Hid (∀ k ∈ bk A1, k < w3.heap.size) := Lib.hid (fun k hk => Nat.lt_of_lt_of_le (HA2.out k hk) hf3.size)
    clear hy3 ha3 hl3 hf3 HP2 HA2 HF2 HN2 H60'
    have HFW : Hid (Fr [] w w3) := Lib.hid (HF0.out.and HF3.out (by simp))
    have HK3 := Lib.hid (HK.out.keep HFW.out (by simp))
    have HR1 := Lib.hid (fun W (hW : Fr [] w3 W) => hW.range (HF3.out.range HB1.out (by simp)) (by simp))
    have HR2 := Lib.hid (fun W (hW : Fr [] w3 W) => hW.range (HF3.out.range HB2.out (by simp)) (by simp))
    have HR3 := Lib.hid (fun W (hW : Fr [] w3 W) => hW.range (HF3.out.range HB3.out (by simp)) (by simp))
    have HR4 := Lib.hid (fun W (hW : Fr [] w3 W) => hW.range (HF3.out.range HB4.out (by simp)) (by simp))
    have hof := fun W (hW : Fr [] w3 W) => of_any c s HC.out.1 HC.out.2 HS.out.1 HS.out.2 ha HAL.out A1 p1.length c1 p1 W (HP3.out.keep hW (by simp)) (fun k hk => by have := HA13.out k hk; have := hW.size; omega) (by have := H60.out; omega) (HK3.out.keep hW (by simp))
    have hrof := fun W (hW : Fr [] w3 W) => refof_any c s HC.out.1 HC.out.2 HS.out.1 HS.out.2 ha HAL.out A1 p1.length c1 p1 W (HP3.out.keep hW (by simp)) (fun k hk => by have := HA13.out k hk; have := hW.size; omega) (by have := H60.out; omega)
    have hm := fun (D : List UInt8) (hD : D.length = 32) W (hW : Fr [] w3 W) => matches_any D hD c s ⟨HC.out, HS.out⟩ 0 A3 o.length c3 o ha HAL.out W (HY3.out.keep hW (by simp)) (fun k hk => by have := HA3.out k hk; have := hW.size; omega) (by have := HL3.out; omega) (HK3.out.keep hW (by simp))
    have hrm := fun (D : List UInt8) (hD : D.length = 32) W (hW : Fr [] w3 W) => refmatches_any D hD c s ⟨HC.out, HS.out⟩ 0 A3 o.length c3 o ha HAL.out W (HY3.out.keep hW (by simp)) (fun k hk => by have := HA3.out k hk; have := hW.size; omega) (by have := HL3.out; omega)
    have hd := sumL_len (ofL c s ha p1)
    generalize sumL (ofL c s ha p1) = D at *
    have hm := hm D hd
    have hrm := hrm D hd
    generalize decide (D = sumL (ofL c s ha o)) = dm at *
    have hq : ∀ W : World, (Op.equalIn 10000 26 (.agg (D.map by8).toArray) (.agg (D.map by8).toArray)).run Tryd.prog W = .ok true W := fun W => by have h := hash_eql D D hd hd W; simpa using h
    have HOF := Lib.hid hof
    have HROF := Lib.hid hrof
    have HM := Lib.hid hm
    have HRM := Lib.hid hrm
    have HD := Lib.hid (show (D.map by8).length = 32 by rw [List.length_map]; exact hd)
    have HBO := Lib.hid (built_opening A3 o.length c3 ha HAL.out)
    have HLH := Lib.hid (show (ha.map by8).length = 32 by rw [List.length_map]; exact HAL.out)
    have HON := Lib.hid (opn_len 0 A3 o.length c3 ha HAL.out)
    have hon : ∀ v ∈ opnCells 0 A3 o.length c3 ha, v.oneCell' = true := by
      intro v hv
      simp only [opnCells, List.mem_cons] at hv
      rcases hv with rfl | rfl | hv
      · rfl
      · rfl
      · exact by8_one ha v hv
    have HOO := Lib.hid hon
    have HF00 : Hid (Fr [] w3 w3) := Lib.hid (Fr.refl _ _)
    clear hof hrof hm hrm hd hon
    generalize opnCells 0 A3 o.length c3 ha = O at *
    go_upto_region 5 with (first
      | (refine wpList_row rfl 46 _ rfl _ _ rfl _ (HR1.out _ HF00.out) row_name ?_)
      | (refine wpList_row rfl 26 _ rfl _ _ rfl _ (HR2.out _ HF00.out) (row_hash.of HLH.out) ?_)
      | (go_at_call 34
         refine (HOF.out _ HF00.out).mono ?_
         rintro e w4 ⟨rfl, hf4⟩
         have HF4 := Lib.hid hf4
         clear hf4)
      | (refine wpList_store_box rfl 26 _ _ rfl zeroH 26 (D.map by8) rfl rfl (by rw [hash_sizeS, HD.out]) (by rw [HD.out]; rfl) (by8_one D) ?_
         intro w5 hb5 hf5
         have HB5 := Lib.hid hb5.range
         have HF5 := Lib.hid (HF4.out.and hf5 (by simp))
         clear hb5 hf5))
    generalize hg15 : w4.heap.size = g15 at *
    clear hg15
    (try simp only [Act.put])
    go_upto_region 6 with (first
      | (refine wpList_row rfl 26 _ rfl _ _ rfl _ (HR2.out _ HF5.out) (row_hash.of HLH.out) ?_)
      | (refine wpList_builtg rfl 59 _ rfl _ _ HBO.out rfl ?_)
      | (refine wpList_store_box rfl 59 _ _ rfl zeroOp 59 O rfl rfl (by rw [HON.out]; kernel_rfl) (by rw [HON.out]; rfl) HOO.out ?_
         intro w6 hb6 hf6
         have HB6 := Lib.hid hb6.range
         have HB56 := Lib.hid (hf6.range HB5.out (by simp))
         have HF6 := Lib.hid (HF5.out.and hf6 (by simp))
         clear hb6 hf6))
    generalize hg16 : w5.heap.size = g16 at *
    clear hg16
    (try simp only [Act.put])
    have HQ1 := Lib.hid (HR1.out _ HF6.out)
    have HQ2 := Lib.hid (HR2.out _ HF6.out)
    have HQ3 := Lib.hid (HR3.out _ HF6.out)
    have HQ4 := Lib.hid (HR4.out _ HF6.out)
    clear HR1 HR2 HR3 HR4
    refine wp_region_held_drew (S := Fr [] w6) (by kernel_rfl) (Fr.drew (Fr.refl _ w6)) (fun hHeld => ?_)
    have hdm : (dm == dm) = true := by simp
    have hdv : (V == V) = true := by simp
    refine row_at (i := 0) rfl (by kernel_rfl) (by rfl) _ _ rfl _ _ rfl _ (fun w1 hw1 => hw1.range (HB56.out) (by first | (simp; done) | exact HNS.out | exact HNW.out | (intro hm; have hlt := HSB.out _ hm; (try dsimp only at hlt); omega))) (row_hash.of HD.out) (fun _ _ _ h => h) hHeld ?_
    simp only [Act.put, List.setIfInBounds_toArray, List.set_cons_zero, List.set_cons_succ]
    refine row_at (i := 1) rfl (by kernel_rfl) (by rfl) _ _ rfl _ _ rfl _ (fun w1 hw1 => hw1.range (HQ1.out) (by first | (simp; done) | exact HNS.out | exact HNW.out | (intro hm; have hlt := HSB.out _ hm; (try dsimp only at hlt); omega))) (row_name) (fun _ _ _ h => h) hHeld ?_
    simp only [Act.put, List.setIfInBounds_toArray, List.set_cons_zero, List.set_cons_succ]
    refine row_at (i := 2) rfl (by kernel_rfl) (by rfl) _ _ rfl _ _ rfl _ (fun w1 hw1 => hw1.range (HQ2.out) (by first | (simp; done) | exact HNS.out | exact HNW.out | (intro hm; have hlt := HSB.out _ hm; (try dsimp only at hlt); omega))) (row_hash.of HLH.out) (fun _ _ _ h => h) hHeld ?_
    simp only [Act.put, List.setIfInBounds_toArray, List.set_cons_zero, List.set_cons_succ]
    refine run_at (i := 3) (v := ?_) rfl (by kernel_rfl) (by rfl) (fun _ _ _ h => h) hHeld (fun w1 hw1 => ?_) ?_
    rotate_left 1
    · skip
      go_simp
      (try (first | with_reducible rfl | (apply And.intro <;> rfl)))
    simp only [Act.put, List.setIfInBounds_toArray, List.set_cons_zero, List.set_cons_succ]
    refine call_at (i := 4) (f := ?_) (args := ?_) rfl (by kernel_rfl) (by rfl) ?_ ?_
    rotate_left 2
    · go_simp
      (try (first | with_reducible rfl | (apply And.intro <;> rfl)))
    refine (HROF.out _ (HF6.out.and hHeld (by simp))).mono ?_
    rintro e wq ⟨rfl, hfq⟩
    refine ⟨_, rfl, hHeld.and hfq (by simp), fun hHeld => ?_⟩
    clear hfq
    simp only [Act.put, List.setIfInBounds_toArray, List.set_cons_zero, List.set_cons_succ]
    refine run_at (i := 5) (v := ?_) rfl (by kernel_rfl) (by rfl) (fun _ _ _ h => h) hHeld (fun w1 hw1 => ?_) ?_
    rotate_left 1
    · skip
      go_simp
      (try (first | with_reducible rfl | (apply And.intro <;> rfl)))
    simp only [Act.put, List.setIfInBounds_toArray, List.set_cons_zero, List.set_cons_succ]
    refine run_at (i := 6) (v := ?_) rfl (by kernel_rfl) (by rfl) (fun _ _ _ h => h) hHeld (fun w1 hw1 => ?_) ?_
    rotate_left 1
    · skip
      go_simp
      (try (first | with_reducible rfl | (apply And.intro <;> rfl)))
    simp only [Act.put, List.setIfInBounds_toArray, List.set_cons_zero, List.set_cons_succ]
    refine row_at (i := 7) rfl (by kernel_rfl) (by rfl) _ _ rfl _ _ rfl _ (fun w1 hw1 => hw1.range (HB56.out) (by first | (simp; done) | exact HNS.out | exact HNW.out | (intro hm; have hlt := HSB.out _ hm; (try dsimp only at hlt); omega))) (row_hash.of HD.out) (fun _ _ _ h => h) hHeld ?_
    simp only [Act.put, List.setIfInBounds_toArray, List.set_cons_zero, List.set_cons_succ]
    refine row_at (i := 8) rfl (by kernel_rfl) (by rfl) _ _ rfl _ _ rfl _ (fun w1 hw1 => hw1.range (HQ1.out) (by first | (simp; done) | exact HNS.out | exact HNW.out | (intro hm; have hlt := HSB.out _ hm; (try dsimp only at hlt); omega))) (row_name) (fun _ _ _ h => h) hHeld ?_
    simp only [Act.put, List.setIfInBounds_toArray, List.set_cons_zero, List.set_cons_succ]
    refine row_at (i := 9) rfl (by kernel_rfl) (by rfl) _ _ rfl _ _ rfl _ (fun w1 hw1 => hw1.range (HB6.out) (by first | (simp; done) | exact HNS.out | exact HNW.out | (intro hm; have hlt := HSB.out _ hm; (try dsimp only at hlt); omega))) (row_opening.of HON.out) (fun _ _ _ h => h) hHeld ?_
    simp only [Act.put, List.setIfInBounds_toArray, List.set_cons_zero, List.set_cons_succ]
    refine row_at (i := 11) rfl (by kernel_rfl) (by rfl) _ _ rfl _ _ rfl _ (fun w1 hw1 => hw1.range (HB56.out) (by first | (simp; done) | exact HNS.out | exact HNW.out | (intro hm; have hlt := HSB.out _ hm; (try dsimp only at hlt); omega))) (row_hash.of HD.out) (fun _ _ _ h => h) hHeld ?_
    simp only [Act.put, List.setIfInBounds_toArray, List.set_cons_zero, List.set_cons_succ]
    refine row_at (i := 12) rfl (by kernel_rfl) (by rfl) _ _ rfl _ _ rfl _ (fun w1 hw1 => hw1.range (HQ1.out) (by first | (simp; done) | exact HNS.out | exact HNW.out | (intro hm; have hlt := HSB.out _ hm; (try dsimp only at hlt); omega))) (row_name) (fun _ _ _ h => h) hHeld ?_
    simp only [Act.put, List.setIfInBounds_toArray, List.set_cons_zero, List.set_cons_succ]
    refine row_at (i := 13) rfl (by kernel_rfl) (by rfl) _ _ rfl _ _ rfl _ (fun w1 hw1 => hw1.range (HB6.out) (by first | (simp; done) | exact HNS.out | exact HNW.out | (intro hm; have hlt := HSB.out _ hm; (try dsimp only at hlt); omega))) (row_opening.of HON.out) (fun _ _ _ h => h) hHeld ?_
    simp only [Act.put, List.setIfInBounds_toArray, List.set_cons_zero, List.set_cons_succ]
    refine call_at (i := 10) (f := ?_) (args := ?_) rfl (by kernel_rfl) (by rfl) ?_ ?_
    rotate_left 2
    · go_simp
      (try (first | with_reducible rfl | (apply And.intro <;> rfl)))
    refine (HM.out _ (HF6.out.and hHeld (by simp))).mono ?_
    rintro e wq ⟨rfl, hfq⟩
    refine ⟨_, rfl, hHeld.and hfq (by simp), fun hHeld => ?_⟩
    clear hfq
    simp only [Act.put, List.setIfInBounds_toArray, List.set_cons_zero, List.set_cons_succ]
    refine call_at (i := 14) (f := ?_) (args := ?_) rfl (by kernel_rfl) (by rfl) ?_ ?_
    rotate_left 2
    · go_simp
      (try (first | with_reducible rfl | (apply And.intro <;> rfl)))
    refine (HRM.out _ (HF6.out.and hHeld (by simp))).mono ?_
    rintro e wq ⟨rfl, hfq⟩
    refine ⟨_, rfl, hHeld.and hfq (by simp), fun hHeld => ?_⟩
    clear hfq
    simp only [Act.put, List.setIfInBounds_toArray, List.set_cons_zero, List.set_cons_succ]
    refine run_at (i := 15) (v := ?_) rfl (by kernel_rfl) (by rfl) (fun _ _ _ h => h) hHeld (fun w1 hw1 => ?_) ?_
    rotate_left 1
    · skip
      go_simp
      (try (first | with_reducible rfl | (apply And.intro <;> rfl)))
    simp only [Act.put, List.setIfInBounds_toArray, List.set_cons_zero, List.set_cons_succ]
    refine run_at (i := 16) (v := ?_) rfl (by kernel_rfl) (by rfl) (fun _ _ _ h => h) hHeld (fun w1 hw1 => ?_) ?_
    rotate_left 1
    · skip
      go_simp
      (try (first | with_reducible rfl | (apply And.intro <;> rfl)))
    simp only [Act.put, List.setIfInBounds_toArray, List.set_cons_zero, List.set_cons_succ]
    refine run_at (i := 17) (v := ?_) rfl (by kernel_rfl) (by rfl) (fun _ _ _ h => h) hHeld (fun w1 hw1 => ?_) ?_
    rotate_left 1
    · skip
      go_simp
      (try (first | with_reducible rfl | (apply And.intro <;> rfl)))
    simp only [Act.put, List.setIfInBounds_toArray, List.set_cons_zero, List.set_cons_succ]
    refine row_at (i := 18) rfl (by kernel_rfl) (by rfl) _ _ rfl _ _ rfl _ (fun w1 hw1 => hw1.range (HQ4.out) (by first | (simp; done) | exact HNS.out | exact HNW.out | (intro hm; have hlt := HSB.out _ hm; (try dsimp only at hlt); omega))) (row_conf) (fun _ _ _ h => h) hHeld ?_
    simp only [Act.put, List.setIfInBounds_toArray, List.set_cons_zero, List.set_cons_succ]
    refine row_at (i := 19) rfl (by kernel_rfl) (by rfl) _ _ rfl _ _ rfl _ (fun w1 hw1 => hw1.range (HQ3.out) (by first | (simp; done) | exact HNS.out | exact HNW.out | (intro hm; have hlt := HSB.out _ hm; (try dsimp only at hlt); omega))) (row_commit.of HXL.out) (fun _ _ _ h => h) hHeld ?_
    simp only [Act.put, List.setIfInBounds_toArray, List.set_cons_zero, List.set_cons_succ]
    refine row_at (i := 21) rfl (by kernel_rfl) (by rfl) _ _ rfl _ _ rfl _ (fun w1 hw1 => hw1.range (HQ4.out) (by first | (simp; done) | exact HNS.out | exact HNW.out | (intro hm; have hlt := HSB.out _ hm; (try dsimp only at hlt); omega))) (row_conf) (fun _ _ _ h => h) hHeld ?_
    simp only [Act.put, List.setIfInBounds_toArray, List.set_cons_zero, List.set_cons_succ]
    refine row_at (i := 22) rfl (by kernel_rfl) (by rfl) _ _ rfl _ _ rfl _ (fun w1 hw1 => hw1.range (HQ3.out) (by first | (simp; done) | exact HNS.out | exact HNW.out | (intro hm; have hlt := HSB.out _ hm; (try dsimp only at hlt); omega))) (row_commit.of HXL.out) (fun _ _ _ h => h) hHeld ?_
    simp only [Act.put, List.setIfInBounds_toArray, List.set_cons_zero, List.set_cons_succ]
    refine call_at (i := 20) (f := ?_) (args := ?_) rfl (by kernel_rfl) (by rfl) ?_ ?_
    rotate_left 2
    · go_simp
      (try (first | with_reducible rfl | (apply And.intro <;> rfl)))
    refine (HV.out _).mono ?_
    rintro e wq ⟨rfl, hfq⟩
    refine ⟨_, rfl, hHeld.and hfq (by simp), fun hHeld => ?_⟩
    clear hfq
    simp only [Act.put, List.setIfInBounds_toArray, List.set_cons_zero, List.set_cons_succ]
    refine call_at (i := 23) (f := ?_) (args := ?_) rfl (by kernel_rfl) (by rfl) ?_ ?_
    rotate_left 2
    · go_simp
      (try (first | with_reducible rfl | (apply And.intro <;> rfl)))
    refine (HRV.out _).mono ?_
    rintro e wq ⟨rfl, hfq⟩
    refine ⟨_, rfl, hHeld.and hfq (by simp), fun hHeld => ?_⟩
    clear hfq
    simp only [Act.put, List.setIfInBounds_toArray, List.set_cons_zero, List.set_cons_succ]
    refine run_at (i := 24) (v := ?_) rfl (by kernel_rfl) (by rfl) (fun _ _ _ h => h) hHeld (fun w1 hw1 => ?_) ?_
    rotate_left 1
    · skip
      go_simp
      (try (first | with_reducible rfl | (apply And.intro <;> rfl)))
    simp only [Act.put, List.setIfInBounds_toArray, List.set_cons_zero, List.set_cons_succ]
    refine run_at (i := 25) (v := ?_) rfl (by kernel_rfl) (by rfl) (fun _ _ _ h => h) hHeld (fun w1 hw1 => ?_) ?_
    rotate_left 1
    · skip
      go_simp
      (try (first | with_reducible rfl | (apply And.intro <;> rfl)))
    simp only [Act.put, List.setIfInBounds_toArray, List.set_cons_zero, List.set_cons_succ]
    refine run_at (i := 26) (v := ?_) rfl (by kernel_rfl) (by rfl) (fun _ _ _ h => h) hHeld (fun w1 hw1 => ?_) ?_
    rotate_left 1
    · skip
      go_simp
      (try (first | with_reducible rfl | (apply And.intro <;> rfl)))
    simp only [Act.put, List.setIfInBounds_toArray, List.set_cons_zero, List.set_cons_succ]
    refine row_at (i := 27) rfl (by kernel_rfl) (by rfl) _ _ rfl _ _ rfl _ (fun w1 hw1 => hw1.range (HQ3.out) (by first | (simp; done) | exact HNS.out | exact HNW.out | (intro hm; have hlt := HSB.out _ hm; (try dsimp only at hlt); omega))) (row_commit.of HXL.out) (fun _ _ _ h => h) hHeld ?_
    simp only [Act.put, List.setIfInBounds_toArray, List.set_cons_zero, List.set_cons_succ]
    refine row_at (i := 29) rfl (by kernel_rfl) (by rfl) _ _ rfl _ _ rfl _ (fun w1 hw1 => hw1.range (HQ3.out) (by first | (simp; done) | exact HNS.out | exact HNW.out | (intro hm; have hlt := HSB.out _ hm; (try dsimp only at hlt); omega))) (row_commit.of HXL.out) (fun _ _ _ h => h) hHeld ?_
    simp only [Act.put, List.setIfInBounds_toArray, List.set_cons_zero, List.set_cons_succ]
    refine call_at (i := 28) (f := ?_) (args := ?_) rfl (by kernel_rfl) (by rfl) ?_ ?_
    rotate_left 2
    · go_simp
      (try (first | with_reducible rfl | (apply And.intro <;> rfl)))
    refine (HT.out _).mono ?_
    rintro e wt ⟨At, ct, rfl, hNt⟩
    have HYT := Lib.hid hNt.by
    refine ⟨_, rfl, hHeld.and hNt.2.1 (by simp), fun hHeld => ?_⟩
    clear hNt
    simp only [Act.put, List.setIfInBounds_toArray, List.set_cons_zero, List.set_cons_succ]
    refine call_at (i := 30) (f := ?_) (args := ?_) rfl (by kernel_rfl) (by rfl) ?_ ?_
    rotate_left 2
    · go_simp
      (try (first | with_reducible rfl | (apply And.intro <;> rfl)))
    refine (HRT.out _).mono ?_
    rintro e wu ⟨Au, cu, rfl, hNu⟩
    have HYU := Lib.hid hNu.by
    have HYT := Lib.hid (HYT.out.keep hNu.2.1 (by simp))
    refine ⟨_, rfl, hHeld.and hNu.2.1 (by simp), fun hHeld => ?_⟩
    clear hNu
    simp only [Act.put, List.setIfInBounds_toArray, List.set_cons_zero, List.set_cons_succ]
    have hsm := same_any At Au T.length T.length ct cu T T wu HYT.out HYU.out (by have := HTL.out; omega)
    rw [decide_eq_true (rfl : T = T)] at hsm
    have HSM := Lib.hid hsm
    clear hsm
    refine call_at (i := 31) (f := ?_) (args := ?_) rfl (by kernel_rfl) (by rfl) ?_ ?_
    rotate_left 2
    · go_simp
      (try (first | with_reducible rfl | (apply And.intro <;> rfl)))
    refine HSM.out.mono ?_
    rintro e wv ⟨rfl, kk, rfl⟩
    refine ⟨_, rfl, hHeld.drewN kk, fun hHeld => ?_⟩
    simp only [Act.put, List.setIfInBounds_toArray, List.set_cons_zero, List.set_cons_succ]
    refine run_at (i := 32) (v := ?_) rfl (by kernel_rfl) (by rfl) (fun _ _ _ h => h) hHeld (fun w1 hw1 => ?_) ?_
    rotate_left 1
    · skip
      go_simp
      (try (first | with_reducible rfl | (apply And.intro <;> rfl)))
    simp only [Act.put, List.setIfInBounds_toArray, List.set_cons_zero, List.set_cons_succ]
    refine run_at (i := 33) (v := ?_) rfl (by kernel_rfl) (by rfl) (fun _ _ _ h => h) hHeld (fun w1 hw1 => ?_) ?_
    rotate_left 1
    · skip
      go_simp
      (try (first | with_reducible rfl | (apply And.intro <;> rfl)))
    simp only [Act.put, List.setIfInBounds_toArray, List.set_cons_zero, List.set_cons_succ]
    refine call_at (i := 34) (f := ?_) (args := ?_) rfl (by kernel_rfl) (by rfl) ?_ ?_
    rotate_left 2
    · go_simp
      (try (first | with_reducible rfl | (apply And.intro <;> rfl)))
    refine (cwakes_any _ (HK3.out.keep (HF6.out.and hHeld (by simp)) (by simp))).mono ?_
    rintro e wq ⟨rfl, hfq⟩
    refine ⟨_, rfl, hHeld.and hfq (by simp), fun hHeld => ?_⟩
    clear hfq
    simp only [Act.put, List.setIfInBounds_toArray, List.set_cons_zero, List.set_cons_succ]
    refine run_at (i := 35) (v := ?_) rfl (by kernel_rfl) (by rfl) (fun _ _ _ h => h) hHeld (fun w1 hw1 => ?_) ?_
    rotate_left 1
    · skip
      go_simp
      (try (first | with_reducible rfl | (apply And.intro <;> rfl)))
    simp only [Act.put, List.setIfInBounds_toArray, List.set_cons_zero, List.set_cons_succ]
    refine run_at (i := 36) (v := ?_) rfl (by kernel_rfl) (by rfl) (fun _ _ _ h => h) hHeld (fun w1 hw1 => ?_) ?_
    rotate_left 1
    · skip
      go_simp
      (try (first | with_reducible rfl | (apply And.intro <;> rfl)))
    simp only [Act.put, List.setIfInBounds_toArray, List.set_cons_zero, List.set_cons_succ]
    refine wpAnyH_done (by kernel_rfl) ?_ _
    go_wp2
    go_ret
    exact ⟨rfl, HFW.out.and (HF6.out.and hHeld (by simp)) (by simp)⟩
end Go.Proofs.YtbajkdlemgnmkaaDoor
