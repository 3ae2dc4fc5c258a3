/- gavellaw13.TallyCounts, walked. -/
import Derived.Test.YtfmkegblhpnfcaaKW2
import Derived.Deep.CutBlock
set_option linter.unusedSimpArgs false
set_option linter.unusedVariables false
namespace Go.Proofs.Ytfmkegblhpnfcaa
set_option maxRecDepth 100000
open Go.RowKit
/-- the sum of the first q of three -/
def s3 (C : List UInt8 → Nat) : Nat → Nat
  | 0 => 0
  | q + 1 => s3 C q + C (h1b (UInt8.ofNat q))
theorem s3_le (C : List UInt8 → Nat) (h : ∀ x, C x ≤ 60) (q : Nat) (hq : q ≤ 3) : s3 C q ≤ 180 := by
  have e : ∀ q, s3 C q ≤ 60 * q := by
    intro q
    induction q with
    | zero => exact Nat.le_refl _
    | succ q ih =>
      have h1 := h (h1b (UInt8.ofNat q))
      unfold s3
      omega
  have := e q
  omega
theorem s3_zero (C : List UInt8 → Nat) (h : ∀ x, C x = 0) (q : Nat) : s3 C q = 0 := by
  induction q with
  | zero => rfl
  | succ q ih =>
    unfold s3
    rw [ih, h]
theorem V3.set35 {v : V3} (h : v.Ok) : v.cells.toArray.setIfInBounds 35 (.bool true) = ({v with s := true} : V3).cells.toArray := by
  have e : ∀ s, ({v with s := s} : V3).cells = (.int .i64 v.k :: .int .i64 v.r :: .int .i64 v.p :: v.h.map by8) ++ [.bool s] := fun s => by simp [V3.cells]
  have hl : (.int .i64 v.k :: .int .i64 v.r :: .int .i64 v.p :: v.h.map by8 : List Value).length = 35 := by simp [h.h]
  rw [List.setIfInBounds_toArray, e true, show v.cells = _ from e v.s, List.set_append_right _ _ (by omega), hl]
  rfl
theorem V3.range3 {w : World} {g : Nat} {t : TypeId} {u : V3} (h : Blk w g t u.cells.toArray) (hu : u.h.length = 32) : w.rangeAt g 3 (u.h.map by8) := fun j x hx => by
  have h1 := h.cell (3 + j)
  rw [h1, List.getElem?_toArray]
  have hj : j < (u.h.map by8).length := (List.getElem?_eq_some_iff.1 hx).1
  have e : u.cells = [.int .i64 u.k, .int .i64 u.r, .int .i64 u.p] ++ ((u.h.map by8) ++ [.bool u.s]) := rfl
  rw [e, List.getElem?_append_right (by simp), show 3 + j - [Value.int .i64 u.k, .int .i64 u.r, .int .i64 u.p].length = j by simp, List.getElem?_append_left hj]
  exact hx
set_option maxHeartbeats 4000000 in
theorem tallyCounts_walk (w : World) (A : Option Addr) (n0 c0 : Nat) (l : List V3) (hl : V3L w A n0 l) (hnc : n0 ≤ c0) (hcm : c0 ≤ maxLen) :
    Calls Try.prog 3 #[.slice A n0 c0] w fun e w' => e = .returned (.bool true) ∧ Fr [] w w' := by
  have HL := Lib.hid hl
  have HNC := Lib.hid (And.intro hnc hcm)
  have hcb : Try.prog.built 24 [(0, .int .i64 2), (1, .int .i64 1)] = some #[.int .i64 2, .int .i64 1] := by kernel_rfl
  clear hl hnc hcm
  go_enter Try.func3, Try.ntmps3
  go_upto_region 2 with (first
    | (refine wpList_builtg rfl 24 _ rfl _ _ hcb rfl ?_)
    | (refine wpList_store_blk rfl 24 _ _ rfl w.heap.size #[.int .i64 2, .int .i64 1] rfl rfl 24 #[.int .i64 0, .int .i64 0] (Blk.new w _ _) (by kernel_rfl) rfl (by simp [Value.oneCell']) ?_; intro w2 hb3 hf2))
  have HF2 : Hid (Fr [] w w2) := Lib.hid (((Fr.refl [] w).alloc _).and hf2 (by simp))
  have HB3 := Lib.hid hb3
  obtain ⟨g3, hg3⟩ : ∃ g3, g3 = w.heap.size := ⟨_, rfl⟩
  rw [← hg3] at HB3 ⊢
  have HG3E := Lib.hid hg3
  clear hg3 hb3 hf2 hcb
  go_wp2_with (refine wpList_row rfl 24 _ rfl _ _ rfl _ (Blk.range HB3.out) row_conf2 ?_)
  refine (tnew_ok 2 1 (by decide) w2).mono ?_
  rw [show (3 : Int) * 2 + 1 = 7 by decide]
  rintro e w4 ⟨S, g, rfl, ht4, hf4, hs4⟩
  have HT4 := Lib.hid ht4
  have HF4 := Lib.hid (HF2.out.and hf4 (by simp))
  have HB4 := Lib.hid (HB3.out.keep hf4 (by simp))
  have HS : Hid (∀ y ∈ S, w.heap.size ≤ y ∧ y ≠ g3) := Lib.hid (fun y hy => by
    have h1 := hs4 y hy
    have h2 := HB3.out.lt
    have h3 := HG3E.out
    omega)
  clear ht4 hf4 hs4
  go_wp2_with fail
  go_loopw [6] (fun s6 wr => ∃ (k : Nat) (T : List Tv), k ≤ 60 ∧ s6 = .int .i64 k ∧ T.length ≤ k ∧ Gd 7 T ∧ Three T ∧ Tl wr S g 7 T ∧ Blk wr g3 24 #[.int .i64 2, .int .i64 1] ∧ Fr [] w wr) (fun s6 _ => 60 - (intOf s6).toNat)
  case atStart => exact ⟨0, [], by omega, rfl, by simp, trivial, (fun v hv => by simp at hv), HT4.out, HB4.out, HF4.out⟩
  case round =>
    obtain ⟨k, T, hk, rfl, hTl, hGd, h3T, h1, h2, h3⟩ := hrel
    have HTL := Lib.hid hTl
    have HGD := Lib.hid hGd
    have H3T := Lib.hid h3T
    have HT := Lib.hid h1
    have HB := Lib.hid h2
    have HF := Lib.hid h3
    clear hTl hGd h3T h1 h2 h3
    have hk60 : (k : Int) ≤ 60 := by omega
    have hk0 : (0 : Int) ≤ k := by omega
    by_cases hlt : k < n0 ∧ k < 60
    · obtain ⟨hlt1, hlt2⟩ := hlt
      obtain ⟨ad, v, rfl, hv, hvl, hvo, hcells⟩ := HL.out.at hlt1
      have HVO := Lib.hid hvo
      have HCL := Lib.hid (fun j u hu => HF.out.cell (hcells j u hu) (by simp))
      have HVL := Lib.hid hvl
      clear hvo hcells hvl hv
      have HRV : Hid (RowTy Try.prog 32 v.cells.length) := Lib.hid (row_v3.of HVL.out)
      have HSZ := Lib.hid (v3_size HVO.out)
      have HSE : Hid (zV3.cells.toArray.size = v.cells.toArray.size) := Lib.hid (by rw [List.size_toArray, List.size_toArray, HVL.out]; rfl)
      have HAL := Lib.hid v.one
      obtain ⟨v1, hv1⟩ : ∃ v1 : V3, v1 = {v with s := true} := ⟨_, rfl⟩
      have HV1O : Hid v1.Ok := Lib.hid (by rw [hv1]; exact ⟨HVO.out.k, HVO.out.r, HVO.out.p, HVO.out.h⟩)
      have HS35 : Hid (v.cells.toArray.setIfInBounds 35 (.bool true) = v1.cells.toArray) := Lib.hid (by rw [hv1]; exact V3.set35 HVO.out)
      have HUD : Hid (∃ b : UInt8, cutV v1 = ⟨1 + v.k % 2, v.r % 3, v.p % 7, h1b (b % 3), true⟩) := Lib.hid ⟨v.h.headD 0, by rw [hv1]; rfl⟩
      clear hv1
      go_upto_region 9 with (first
        | (refine wpList_cells rfl 32 _ rfl _ rfl v.cells HCL.out HRV.out ?_)
        | (refine wpList_store_blk rfl 32 _ _ rfl wr.heap.size v.cells.toArray rfl rfl 32 zV3.cells.toArray (Blk.new wr _ _) HSZ.out HSE.out HAL.out ?_; intro w7 hb7 hf7))
      have HB7 := Lib.hid hb7
      have hf7' : Fr [] wr w7 := ((Fr.refl [] wr).alloc _).and hf7 (by simp)
      have HG7 : Hid (g3 < wr.heap.size ∧ (∀ y ∈ S, y < wr.heap.size) ∧ w.heap.size ≤ wr.heap.size) := Lib.hid ⟨HB.out.lt, HT.out.lt, HF.out.size⟩
      obtain ⟨g7, hg7⟩ : ∃ g7, g7 = wr.heap.size := ⟨_, rfl⟩
      rw [← hg7] at HB7 HG7 ⊢
      have hb8 := HB7.out.set 35 (.bool true)
      rw [HS35.out] at hb8
      have hf8 : Fr [g7] w7 (w7.setCell ⟨g7, 35, none⟩ (.bool true)) := (Fr.refl [g7] w7).setCell _ (by simp) _
      have hfr8 : Fr [g7] wr (w7.setCell ⟨g7, 35, none⟩ (.bool true)) := (hf7'.mono (T := [g7]) (by simp)).trans hf8 (fun x hx _ => hx)
      have HB8 := Lib.hid hb8
      have HT8 := Lib.hid (HT.out.keep hfr8 (fun y hy hm => by have := HG7.out.2.1 y hy; simp at hm; omega))
      have HC8 := Lib.hid (HB.out.keep hfr8 (by have := HG7.out.1; simp; omega))
      have HF8 := Lib.hid (HF.out.and hfr8 (by have := HG7.out; simp; omega))
      clear hb7 hf7 hf7' hb8 hf8 hfr8 hg7
      go_upto_region 10 with (refine wpList_plain rfl (fun K hK => wp_store_cell1 4 _ _ rfl g7 35 (.bool true) rfl rfl rfl 32 _ HB7.out (by rw [List.size_toArray, HVL.out]; omega) (by kernel_rfl) (hK _ _ ?_)))
      generalize w7.setCell ⟨g7, 35, none⟩ (.bool true) = w8 at *
      have HR8 : Hid (w8.rangeAt g7 0 v1.cells) := Lib.hid HB8.out.range
      have HRV1 : Hid (RowTy Try.prog 32 v1.cells.length) := Lib.hid (row_v3.of (V3.len HV1O.out))
      go_wp2_with (refine wpList_row rfl 32 _ rfl g7 0 rfl v1.cells HR8.out HRV1.out ?_)
      refine (vcut_any v1 HV1O.out w8).mono ?_
      obtain ⟨b, hb⟩ := HUD.out
      rw [hb]
      obtain ⟨u, hu⟩ : ∃ u : V3, u = ⟨1 + v.k % 2, v.r % 3, v.p % 7, h1b (b % 3), true⟩ := ⟨_, rfl⟩
      rw [← hu]
      have HUO : Hid u.Ok := Lib.hid (by rw [hu, ← hb]; exact cutV_ok HV1O.out)
      have HUR : Hid ((u.k = 1 ∨ u.k = 2) ∧ 0 ≤ u.r ∧ u.r ≤ 1048576 ∧ 0 ≤ u.p ∧ u.p < 7) := Lib.hid (by rw [hu]; simp only; omega)
      have HUH : Hid (u.h = h1b (b % 3)) := Lib.hid (by rw [hu])
      clear hu hb
      rintro e w9 ⟨rfl, hf9⟩
      have HB9 := Lib.hid (HB8.out.keep hf9 (by simp))
      have HT9 := Lib.hid (HT8.out.keep hf9 (by simp))
      have HC9 := Lib.hid (HC8.out.keep hf9 (by simp))
      have HF9 := Lib.hid (HF8.out.and hf9 (by simp))
      have HUS := Lib.hid (v3_size HUO.out)
      have HUE : Hid (v1.cells.toArray.size = u.cells.toArray.size) := Lib.hid (by rw [List.size_toArray, List.size_toArray, V3.len HUO.out, V3.len HV1O.out])
      have HUA := Lib.hid u.one
      clear hf9
      go_upto_region 11 with (refine wpList_store_blk rfl 32 _ _ rfl g7 u.cells.toArray rfl rfl 32 v1.cells.toArray HB9.out HUS.out HUE.out HUA.out ?_; intro w10 hb10 hf10)
      have HB10 := Lib.hid hb10
      have HT10 := Lib.hid (HT9.out.keep hf10 (fun y hy hm => by have := HG7.out.2.1 y hy; simp at hm; omega))
      have HC10 := Lib.hid (HC9.out.keep hf10 (by have := HG7.out.1; simp; omega))
      have HF10 := Lib.hid (HF9.out.and hf10 (by have := HG7.out; simp; omega))
      clear hf10
      have u0 : w10.cell? ⟨g7, 0, none⟩ = some (.int .i64 u.k) := (hb10.cell 0).trans rfl
      have u1 : w10.cell? ⟨g7, 1, none⟩ = some (.int .i64 u.r) := (hb10.cell 1).trans rfl
      have u2' : w10.cell? ⟨g7, 2, none⟩ = some (.int .i64 u.p) := (hb10.cell 2).trans rfl
      have HRH : Hid (w10.rangeAt g7 3 (u.h.map by8)) := Lib.hid (V3.range3 hb10 HUO.out.h)
      have HRHT : Hid (RowTy Try.prog 30 (u.h.map by8).length) := Lib.hid (row_hash.of (by rw [List.length_map]; exact HUO.out.h))
      clear hb10
      have HOK : Hid (TOk 7 T) := Lib.hid ⟨HGD.out, by omega, by have := HTL.out; omega⟩
      go_wp2_with fail
      refine (all_any w10 S g 7 T HT10.out HOK.out u.k u.r HUO.out.k HUO.out.r).mono ?_
      rintro e w11 ⟨rfl, rfl⟩
      go_wp2_with (refine wpList_row rfl 30 _ rfl g7 3 rfl (u.h.map by8) HRH.out HRHT.out ?_)
      refine (tadd_any w10 S g 7 T HT10.out HOK.out u.k u.r u.p u.h HUO.out.h).mono ?_
      obtain ⟨m, hm⟩ : ∃ m, m = mayV 7 T u.k u.r u.p := ⟨_, rfl⟩
      obtain ⟨T', hT'⟩ : ∃ T', T' = addV 7 T u.k u.r u.p u.h := ⟨_, rfl⟩
      obtain ⟨cA, hcA⟩ : ∃ cA, cA = cntA T u.k u.r := ⟨_, rfl⟩
      have HCA : Hid (cntA T' u.k u.r = cA + if m = true then 1 else 0) := Lib.hid (by rw [hT', hm, hcA]; exact add_cnt u.k u.r u.p u.h)
      have HM2 : Hid (mayV 7 T' u.k u.r u.p = false) := Lib.hid (by rw [hT']; exact add_twice u.k u.r u.p u.h HUR.out)
      have H3T2 : Hid (Three T') := Lib.hid (by rw [hT', HUH.out]; exact add_three3 H3T.out u.k u.r u.p b)
      have HTL2 : Hid (T'.length ≤ k + 1) := Lib.hid (by rw [hT']; have := addV_len 7 T u.k u.r u.p u.h; have := HTL.out; omega)
      have HOK2 : Hid (TOk 7 T') := Lib.hid ⟨by rw [hT']; exact HGD.out.add u.k u.r u.p HUO.out.h, by omega, by have := HTL2.out; omega⟩
      have hcb : cA ≤ 60 := by rw [hcA]; have := cntA_le T u.k u.r; have := HTL.out; omega
      have hcA64 : (cA : Int) ≤ 60 := by omega
      have HAD2 : Hid (∀ W, Tl W S g 7 T' → Calls Try.prog 10 #[.pointer (some ⟨g, 0, none⟩), .int .i64 u.k, .int .i64 u.r, .int .i64 u.p, .agg ((h1b 9).map by8).toArray] W fun e w' => e = .returned (.bool false) ∧ Tl w' S g 7 T' ∧ Fr S W w') := Lib.hid (fun W h => by
        have h2 := tadd_any W S g 7 T' h HOK2.out u.k u.r u.p (h1b 9) (h1b_len 9)
        have e : addV 7 T' u.k u.r u.p (h1b 9) = T' := by unfold addV; rw [HM2.out]; rfl
        rw [e, HM2.out] at h2
        exact h2)
      have HB9h : Hid (Try.prog.built 30 [(0, .int .u8 9)] = some ((h1b 9).map by8).toArray) := Lib.hid (built_h 9)
      rw [← hm, ← hT', ← hcA]
      rintro e w12 ⟨rfl, ht12, hf12⟩
      have HT12 := Lib.hid ht12
      have HGS : Hid (¬ g7 ∈ S) := Lib.hid (fun hmm => by have := HG7.out.2.1 _ hmm; omega)
      have u02 := hf12.cell u0 HGS.out
      have u12 := hf12.cell u1 HGS.out
      have u22 := hf12.cell u2' HGS.out
      have HC12 := Lib.hid (HC10.out.keep hf12 (fun hmm => (HS.out _ hmm).2 rfl))
      have HF12 := Lib.hid (HF10.out.and hf12 (fun y hy => (HS.out y hy).1))
      clear ht12 hf12 u0 u1 u2' hm hT' hcA hcb
      cases m with
      | true =>
        have HCN : Hid (cntA T' u.k u.r = cA + 1) := Lib.hid (by rw [HCA.out]; simp)
        have hnn : ((cA : Int) + 1 != (cA : Int) + 1) = false := by simp
        have hnn2 : (((cA + 1 : Nat) : Int) != (cA : Int) + 1) = false := by simp
        go_wp2_with fail
        refine (all_any w12 S g 7 T' HT12.out HOK2.out u.k u.r HUO.out.k HUO.out.r).mono ?_
        rw [HCN.out]
        rintro e w13 ⟨rfl, rfl⟩
        go_wp2_with (refine wpList_builtg rfl 30 _ rfl _ _ HB9h.out rfl ?_)
        refine (HAD2.out w12 HT12.out).mono ?_
        rintro e w13 ⟨rfl, ht13, hf13⟩
        have HT13 := Lib.hid ht13
        have HC13 := Lib.hid (HC12.out.keep hf13 (fun hm => (HS.out _ hm).2 rfl))
        have HF13 := Lib.hid (HF12.out.and hf13 (fun y hy => (HS.out y hy).1))
        clear ht13 hf13
        go_wp2_with fail
        go_roundw
        case rel => exact ⟨k + 1, T', by omega, by go_num, HTL2.out, HOK2.out.gd, H3T2.out, HT13.out, HC13.out, HF13.out⟩
        case measure => simp [intOf]; omega
      | false =>
        have HCN : Hid (cntA T' u.k u.r = cA) := Lib.hid (by rw [HCA.out]; simp)
        have hnn : ((cA : Int) != (cA : Int)) = false := by simp
        go_wp2_with fail
        refine (all_any w12 S g 7 T' HT12.out HOK2.out u.k u.r HUO.out.k HUO.out.r).mono ?_
        rw [HCN.out]
        rintro e w13 ⟨rfl, rfl⟩
        go_wp2_with (refine wpList_builtg rfl 30 _ rfl _ _ HB9h.out rfl ?_)
        refine (HAD2.out w12 HT12.out).mono ?_
        rintro e w13 ⟨rfl, ht13, hf13⟩
        have HT13 := Lib.hid ht13
        have HC13 := Lib.hid (HC12.out.keep hf13 (fun hm => (HS.out _ hm).2 rfl))
        have HF13 := Lib.hid (HF12.out.and hf13 (fun y hy => (HS.out y hy).1))
        clear ht13 hf13
        go_wp2_with fail
        go_roundw
        case rel => exact ⟨k + 1, T', by omega, by go_num, HTL2.out, HOK2.out.gd, H3T2.out, HT13.out, HC13.out, HF13.out⟩
        case measure => simp [intOf]; omega
    · have HG := HGD.out
      by_cases hlt1 : k < n0
      · have hn2 : ¬ k < 60 := fun h => hlt ⟨hlt1, h⟩
        have hd60 : decide (k < 60) = false := decide_eq_false hn2
        have hd60i : decide ((k : Int) < 60) = false := decide_eq_false (by omega)
        clear hlt HG
        have HOK : Hid (TOk 7 T) := Lib.hid ⟨HGD.out, by omega, by have := HTL.out; omega⟩
        have HTB : Hid (T.length ≤ 60) := Lib.hid (by have := HTL.out; omega)
        have HN7 := Lib.hid (fun W => tn_any 2 1 (by omega) W)
        go_wp2_with fail
        go_loopw [10] (fun s10 wk => ∃ kk : Nat, 1 ≤ kk ∧ kk ≤ 3 ∧ s10 = .int .i64 kk ∧ Tl wk S g 7 T ∧ Blk wk g3 24 #[.int .i64 2, .int .i64 1] ∧ Fr [] w wk) (fun s10 _ => 3 - (intOf s10).toNat)
        case atStart => exact ⟨1, by omega, by omega, rfl, HT.out, HB.out, HF.out⟩
        case round =>
          obtain ⟨kk, hk1, hk3, rfl, h1, h2, h3⟩ := hrel
          rename World => wk
          have HTk := Lib.hid h1
          have HBk := Lib.hid h2
          have HFk := Lib.hid h3
          clear h1 h2 h3
          by_cases hk2 : kk ≤ 2
          · have hki : (kk : Int) ≤ 2 := by omega
            have HKI : Hid (i64In (kk : Int)) := Lib.hid ⟨by omega, by omega⟩
            go_wp2_with fail
            go_loopw [11] (fun s11 wx => ∃ rr : Nat, rr ≤ 4 ∧ s11 = .int .i64 rr ∧ Tl wx S g 7 T ∧ Blk wx g3 24 #[.int .i64 2, .int .i64 1] ∧ Fr [] w wx) (fun s11 _ => 4 - (intOf s11).toNat)
            case atStart => exact ⟨0, by omega, rfl, HTk.out, HBk.out, HFk.out⟩
            case round =>
              obtain ⟨rr, hr4, rfl, h1, h2, h3⟩ := hrel
              rename World => wx
              have HTx := Lib.hid h1
              have HBx := Lib.hid h2
              have HFx := Lib.hid h3
              clear h1 h2 h3
              by_cases hr3 : rr < 4
              · have hri : (rr : Int) < 4 := by omega
                have HRI : Hid (i64In (rr : Int)) := Lib.hid ⟨by omega, by omega⟩
                obtain ⟨C, hC⟩ : ∃ C : List UInt8 → Nat, C = cntH T kk rr := ⟨_, rfl⟩
                obtain ⟨cA, hcA⟩ : ∃ cA, cA = cntA T kk rr := ⟨_, rfl⟩
                have HCB : Hid (∀ x, C x ≤ 60) := Lib.hid (fun x => by rw [hC]; have := cntH_le T kk rr x; have := HTB.out; omega)
                have HS3 : Hid (s3 C 3 = cA) := Lib.hid (by
                  have h := three_sum H3T.out kk rr
                  rw [hC, hcA, ← h]
                  show 0 + _ + _ + _ = _
                  simp)
                have HFOR : Hid (∀ W x, x.length = 32 → Tl W S g 7 T → Calls Try.prog 11 #[.pointer (some ⟨g, 0, none⟩), .int .i64 kk, .int .i64 rr, .agg (x.map by8).toArray] W fun e w' => e = .returned (.int .i64 (C x : Nat)) ∧ Fr [] W w') := Lib.hid (fun W x hx h => by
                  rw [hC]
                  exact for_any W S g 7 T h kk rr HKI.out HRI.out x hx)
                obtain ⟨M, hM⟩ : ∃ M, M = mstV T kk rr := ⟨_, rfl⟩
                have HML : Hid (M.length = 32) := Lib.hid (by rw [hM]; exact mstV_len HGD.out kk rr)
                have HMO : Hid (∀ W, Tl W S g 7 T → Calls Try.prog 12 #[.pointer (some ⟨g, 0, none⟩), .int .i64 kk, .int .i64 rr] W fun e w' => e = .returned (.tuple #[.agg (M.map by8).toArray, .int .i64 (C M : Nat)]) ∧ Fr [] W w') := Lib.hid (fun W h => by
                  rw [hM, hC]
                  exact most_any W S g 7 T h HOK.out kk rr HKI.out HRI.out)
                have HAL : Hid (∀ W, Tl W S g 7 T → Calls Try.prog 9 #[.pointer (some ⟨g, 0, none⟩), .int .i64 kk, .int .i64 rr] W fun e w' => e = .returned (.int .i64 (cA : Nat)) ∧ W = w') := Lib.hid (fun W h => by
                  rw [hcA]
                  exact all_any W S g 7 T h HOK.out kk rr HKI.out HRI.out)
                obtain ⟨q0, hq0⟩ : ∃ q0, q0 = heardV T rr := ⟨_, rfl⟩
                obtain ⟨q1, hq1⟩ : ∃ q1, q1 = heardV T ((rr : Int) + 1) := ⟨_, rfl⟩
                have HH0 : Hid (∀ W, Tl W S g 7 T → Calls Try.prog 14 #[.pointer (some ⟨g, 0, none⟩), .int .i64 rr] W fun e w' => e = .returned (.int .i64 (q0 : Nat)) ∧ W = w') := Lib.hid (fun W h => by
                  rw [hq0]
                  exact heard_any W S g 7 T h rr)
                have HH1 : Hid (∀ W, Tl W S g 7 T → Calls Try.prog 14 #[.pointer (some ⟨g, 0, none⟩), .int .i64 ((rr : Int) + 1)] W fun e w' => e = .returned (.int .i64 (q1 : Nat)) ∧ W = w') := Lib.hid (fun W h => by
                  rw [hq1]
                  exact heard_any W S g 7 T h ((rr : Int) + 1))
                have HQ : Hid (q1 ≤ q0 ∧ cA ≤ q0 ∧ q0 ≤ 7) := Lib.hid ⟨by rw [hq0, hq1]; exact heard_mono T _ _ (by omega), by rw [hq0, hcA]; exact all_heard HGD.out (by omega) kk rr (by omega), by rw [hq0]; exact heard_le (n := 7) HGD.out (by omega) rr⟩
                have HZ : Hid (C M = 0 → cA = 0 ∧ M = zh32) := Lib.hid (fun h => by
                  have hb := (mst_best HGD.out kk rr).most
                  rw [← hC, ← hM] at hb
                  have e : cA = 0 := by
                    rw [← HS3.out]
                    exact s3_zero C (fun x => by have := hb x; omega) 3
                  exact ⟨e, by rw [hM]; exact mst_zero (by rw [← hcA]; exact e)⟩)
                clear hC hcA hM hq0 hq1
                go_wp2_with fail
                go_loopw [12, 13] (fun s12 s13 wh => ∃ q : Nat, q ≤ 3 ∧ s13 = .int .i64 q ∧ s12 = .int .i64 (s3 C q : Nat) ∧ Tl wh S g 7 T ∧ Blk wh g3 24 #[.int .i64 2, .int .i64 1] ∧ Fr [] w wh) (fun _ s13 _ => 3 - (intOf s13).toNat)
                case atStart => exact ⟨0, by omega, rfl, rfl, HTx.out, HBx.out, HFx.out⟩
                case round =>
                  obtain ⟨q, hq3, rfl, rfl, h1, h2, h3⟩ := hrel
                  rename World => wh
                  have HTh := Lib.hid h1
                  have HBh := Lib.hid h2
                  have HFh := Lib.hid h3
                  clear h1 h2 h3
                  have HSB : Hid (s3 C q ≤ 180) := Lib.hid (s3_le C HCB.out q hq3)
                  by_cases hq : q < 3
                  · have hqi : (q : Int) < 3 := by omega
                    have hs64 : ((s3 C q : Nat) : Int) ≤ 180 := by have := HSB.out; omega
                    have HBU : Hid (Try.prog.built 30 [(0, .int .u8 (q : Int))] = some ((h1b (UInt8.ofNat q)).map by8).toArray) := Lib.hid (by
                      have h := built_h (UInt8.ofNat q)
                      unfold by8 at h
                      rw [UInt8.toNat_ofNat', Nat.mod_eq_of_lt (by omega)] at h
                      exact h)
                    have hcx : ((C (h1b (UInt8.ofNat q)) : Nat) : Int) ≤ 60 := by have := HCB.out (h1b (UInt8.ofNat q)); omega
                    go_wp2_with (refine wpList_builtg rfl 30 _ rfl _ _ HBU.out rfl ?_)
                    refine (HFOR.out wh (h1b (UInt8.ofNat q)) (h1b_len _) HTh.out).mono ?_
                    rintro e wj ⟨rfl, hfj⟩
                    have HTj := Lib.hid (HTh.out.keep hfj (by simp))
                    have HBj := Lib.hid (HBh.out.keep hfj (by simp))
                    have HFj := Lib.hid (HFh.out.and hfj (by simp))
                    clear hfj
                    go_wp2_with fail
                    go_roundw
                    case rel => exact ⟨q + 1, by omega, by go_num, by show _ = Value.int .i64 ((s3 C q + C (h1b (UInt8.ofNat q)) : Nat) : Int); go_num, HTj.out, HBj.out, HFj.out⟩
                    case measure => simp [intOf]; omega
                  · have hqe : q = 3 := by omega
                    subst hqe
                    rw [HS3.out]
                    have hc7 : (cA : Int) ≤ 7 := by have := HQ.out; omega
                    have hnn : ((cA : Int) != (cA : Int)) = false := by simp
                    have hd7 : decide (7 < cA) = false := decide_eq_false (by have := HQ.out; omega)
                    have hd7i : decide ((7 : Int) < (cA : Int)) = false := decide_eq_false (by omega)
                    have hdq : decide (q0 < q1) = false := decide_eq_false (by have := HQ.out; omega)
                    have hdqi : decide ((q0 : Int) < (q1 : Int)) = false := decide_eq_false (by have := HQ.out; omega)
                    have hda : decide (q0 < cA) = false := decide_eq_false (by have := HQ.out; omega)
                    have hdai : decide ((q0 : Int) < (cA : Int)) = false := decide_eq_false (by have := HQ.out; omega)
                    have HHS : Hid ((Try.prog.info? 30).map (·.size) = some (M.map by8).toArray.size) := Lib.hid (by rw [List.size_toArray, List.length_map, HML.out]; kernel_rfl)
                    have HHZ : Hid (zeroH.size = (M.map by8).toArray.size) := Lib.hid (by rw [show zeroH.size = 32 from rfl, List.size_toArray, List.length_map, HML.out])
                    have HHA : Hid (((M.map by8).toArray.all (·.oneCell')) = true) := Lib.hid (all_oneCell_toArray (by8_one M))
                    have HRM : Hid (RowTy Try.prog 30 (M.map by8).length) := Lib.hid (row_hash.of (by rw [List.length_map]; exact HML.out))
                    clear hq
                    go_wp2_with fail
                    refine (HMO.out wh HTh.out).mono ?_
                    rintro e w1 ⟨rfl, hf1⟩
                    have HT1 := Lib.hid (HTh.out.keep hf1 (by simp))
                    have HB1 := Lib.hid (HBh.out.keep hf1 (by simp))
                    have HF1 := Lib.hid (HFh.out.and hf1 (by simp))
                    clear hf1
                    go_upto_region 27 with (refine wpList_store_blk rfl 30 _ _ rfl w1.heap.size (M.map by8).toArray rfl rfl 30 zeroH (Blk.new w1 _ _) HHS.out HHZ.out HHA.out ?_; intro w2 hb2 hf2)
                    have HFs2 : Hid (Fr [] w1 w2) := Lib.hid (((Fr.refl [] w1).alloc _).and hf2 (by simp))
                    have HRg : Hid (w2.rangeAt w1.heap.size 0 (M.map by8)) := Lib.hid hb2.range
                    have HT2 := Lib.hid (HT1.out.keep HFs2.out (by simp))
                    have HB2 := Lib.hid (HB1.out.keep HFs2.out (by simp))
                    have HF2 := Lib.hid (HF1.out.and HFs2.out (by simp))
                    obtain ⟨gm, hgm⟩ : ∃ gm, gm = w1.heap.size := ⟨_, rfl⟩
                    rw [← hgm] at HRg ⊢
                    clear hb2 hf2 hgm
                    go_wp2_with fail
                    refine (HAL.out w2 HT2.out).mono ?_
                    rintro e w3 ⟨rfl, rfl⟩
                    go_wp2_with (refine wpList_row rfl 24 _ rfl _ _ rfl _ (Blk.range HB2.out) row_conf2 ?_)
                    refine (HN7.out w2).mono ?_
                    rw [show (3 : Int) * 2 + 1 = 7 by decide]
                    rintro e w3 ⟨rfl, hf3⟩
                    have HT3 := Lib.hid (HT2.out.keep hf3 (by simp))
                    have HB3 := Lib.hid (HB2.out.keep hf3 (by simp))
                    have HF3 := Lib.hid (HF2.out.and hf3 (by simp))
                    have HRg3 : Hid (w3.rangeAt gm 0 (M.map by8)) := Lib.hid (hf3.range HRg.out (by simp))
                    clear hf3
                    have hcm : ((C M : Nat) : Int) ≤ 60 := by have := HCB.out M; omega
                    by_cases hz : C M = 0
                    · obtain ⟨ha0, hm0⟩ := HZ.out hz
                      have hdz : decide (0 < C M) = false := decide_eq_false (by omega)
                      have hdzi : decide ((0 : Int) < ((C M : Nat) : Int)) = false := decide_eq_false (by omega)
                      have hez : (((C M : Nat) : Int) == 0) = true := by simp; omega
                      have haz : ((cA : Int) != 0) = false := by simp; omega
                      have hq : ∀ W : World, (Op.equalIn 10000 30 (.agg (M.map by8).toArray) (.agg zeroH)).run Try.prog W = .ok true W := fun W => by
                        have h := eql_hash M zh32 HML.out rfl 9998 W
                        rw [show decide (M = zh32) = true by simp [hm0]] at h
                        exact h
                      have HBZ : Hid (Try.prog.built 30 [] = some zeroH) := Lib.hid (by kernel_rfl)
                      clear ha0 hm0 hz
                      go_wp2_with (first
                        | (refine wpList_row rfl 30 (.tmp 14) rfl gm 0 rfl (M.map by8) HRg3.out HRM.out ?_)
                        | (refine wpList_builtg rfl 30 _ rfl _ _ HBZ.out rfl ?_))
                      refine (HH1.out w3 HT3.out).mono ?_
                      rintro e w4 ⟨rfl, rfl⟩
                      go_wp2_with fail
                      refine (HH0.out w3 HT3.out).mono ?_
                      rintro e w4 ⟨rfl, rfl⟩
                      go_wp2_with fail
                      refine (HAL.out w3 HT3.out).mono ?_
                      rintro e w4 ⟨rfl, rfl⟩
                      go_wp2_with fail
                      refine (HH0.out w3 HT3.out).mono ?_
                      rintro e w4 ⟨rfl, rfl⟩
                      go_wp2_with fail
                      go_roundw
                      case rel => exact ⟨rr + 1, by omega, by go_num, HT3.out, HB3.out, HF3.out⟩
                      case measure => simp [intOf]; omega
                    · have hdz : decide (0 < C M) = true := decide_eq_true (by omega)
                      have hdzi : decide ((0 : Int) < ((C M : Nat) : Int)) = true := decide_eq_true (by omega)
                      have hez : (((C M : Nat) : Int) == 0) = false := by simp; omega
                      have hcc : (((C M : Nat) : Int) != ((C M : Nat) : Int)) = false := by simp
                      go_wp2_with (refine wpList_row rfl 30 (.tmp 14) rfl gm 0 rfl (M.map by8) HRg3.out HRM.out ?_)
                      refine (HFOR.out w3 M HML.out HT3.out).mono ?_
                      rintro e w4 ⟨rfl, hf4⟩
                      have HT3 := Lib.hid (HT3.out.keep hf4 (by simp))
                      have HB3 := Lib.hid (HB3.out.keep hf4 (by simp))
                      have HF3 := Lib.hid (HF3.out.and hf4 (by simp))
                      clear hf4
                      generalize w4 = w3' at *
                      go_wp2_with fail
                      refine (HH1.out w3' HT3.out).mono ?_
                      rintro e w5 ⟨rfl, rfl⟩
                      go_wp2_with fail
                      refine (HH0.out w3' HT3.out).mono ?_
                      rintro e w5 ⟨rfl, rfl⟩
                      go_wp2_with fail
                      refine (HAL.out w3' HT3.out).mono ?_
                      rintro e w5 ⟨rfl, rfl⟩
                      go_wp2_with fail
                      refine (HH0.out w3' HT3.out).mono ?_
                      rintro e w5 ⟨rfl, rfl⟩
                      go_wp2_with fail
                      go_roundw
                      case rel => exact ⟨rr + 1, by omega, by go_num, HT3.out, HB3.out, HF3.out⟩
                      case measure => simp [intOf]; omega
              · have hre : rr = 4 := by omega
                subst hre
                go_wp2_with fail
                go_roundw
                case rel => exact ⟨kk + 1, by omega, by omega, by go_num, HTx.out, HBx.out, HFx.out⟩
                case measure => simp [intOf]; omega
          · have hke : kk = 3 := by omega
            subst hke
            have hq8 : Hid (heardV T 0 ≤ 7) := Lib.hid (heard_le (n := 7) HGD.out (by omega) 0)
            obtain ⟨q0, hq0⟩ : ∃ q0, q0 = heardV T 0 := ⟨_, rfl⟩
            have HH0 : Hid (∀ W, Tl W S g 7 T → Calls Try.prog 14 #[.pointer (some ⟨g, 0, none⟩), .int .i64 0] W fun e w' => e = .returned (.int .i64 (q0 : Nat)) ∧ W = w') := Lib.hid (fun W h => by
              rw [hq0]
              exact heard_any W S g 7 T h 0)
            rw [← hq0] at hq8
            have HWI : Hid (∀ W, Calls Try.prog 15 #[.int .i64 (q0 : Int), .int .i64 8] W fun e w' => e = .returned (.int .i64 (q0 : Int)) ∧ W = w') := Lib.hid (fun W => by
              have h := within_pos (q0 : Int) 8 (by omega) (by have := hq8.out; omega) (by omega) (by omega) W
              rw [show (q0 : Int) % 8 = (q0 : Int) by have := hq8.out; omega] at h
              exact h)
            clear hq0
            have hqq : ((q0 : Int) == (q0 : Int)) = true := by simp
            go_wp2_with fail
            refine (HH0.out wk HTk.out).mono ?_
            rintro e wz ⟨rfl, rfl⟩
            go_wp2_with fail
            refine (HWI.out wk).mono ?_
            rintro e wz ⟨rfl, rfl⟩
            go_wp2_with fail
            refine (HH0.out wk HTk.out).mono ?_
            rintro e wz ⟨rfl, rfl⟩
            go_wp2_with fail
            refine (twakes_any wk).mono ?_
            rintro e wz ⟨rfl, hfz⟩
            have HFz := Lib.hid (HFk.out.and hfz (by simp))
            clear hfz
            go_wp2_with fail
            go_ret
            exact ⟨rfl, HFz.out⟩
      · have hdn : decide (k < n0) = false := decide_eq_false hlt1
        clear hlt HG
        have HOK : Hid (TOk 7 T) := Lib.hid ⟨HGD.out, by omega, by have := HTL.out; omega⟩
        have HTB : Hid (T.length ≤ 60) := Lib.hid (by have := HTL.out; omega)
        have HN7 := Lib.hid (fun W => tn_any 2 1 (by omega) W)
        go_wp2_with fail
        go_loopw [10] (fun s10 wk => ∃ kk : Nat, 1 ≤ kk ∧ kk ≤ 3 ∧ s10 = .int .i64 kk ∧ Tl wk S g 7 T ∧ Blk wk g3 24 #[.int .i64 2, .int .i64 1] ∧ Fr [] w wk) (fun s10 _ => 3 - (intOf s10).toNat)
        case atStart => exact ⟨1, by omega, by omega, rfl, HT.out, HB.out, HF.out⟩
        case round =>
          obtain ⟨kk, hk1, hk3, rfl, h1, h2, h3⟩ := hrel
          rename World => wk
          have HTk := Lib.hid h1
          have HBk := Lib.hid h2
          have HFk := Lib.hid h3
          clear h1 h2 h3
          by_cases hk2 : kk ≤ 2
          · have hki : (kk : Int) ≤ 2 := by omega
            have HKI : Hid (i64In (kk : Int)) := Lib.hid ⟨by omega, by omega⟩
            go_wp2_with fail
            go_loopw [11] (fun s11 wx => ∃ rr : Nat, rr ≤ 4 ∧ s11 = .int .i64 rr ∧ Tl wx S g 7 T ∧ Blk wx g3 24 #[.int .i64 2, .int .i64 1] ∧ Fr [] w wx) (fun s11 _ => 4 - (intOf s11).toNat)
            case atStart => exact ⟨0, by omega, rfl, HTk.out, HBk.out, HFk.out⟩
            case round =>
              obtain ⟨rr, hr4, rfl, h1, h2, h3⟩ := hrel
              rename World => wx
              have HTx := Lib.hid h1
              have HBx := Lib.hid h2
              have HFx := Lib.hid h3
              clear h1 h2 h3
              by_cases hr3 : rr < 4
              · have hri : (rr : Int) < 4 := by omega
                have HRI : Hid (i64In (rr : Int)) := Lib.hid ⟨by omega, by omega⟩
                obtain ⟨C, hC⟩ : ∃ C : List UInt8 → Nat, C = cntH T kk rr := ⟨_, rfl⟩
                obtain ⟨cA, hcA⟩ : ∃ cA, cA = cntA T kk rr := ⟨_, rfl⟩
                have HCB : Hid (∀ x, C x ≤ 60) := Lib.hid (fun x => by rw [hC]; have := cntH_le T kk rr x; have := HTB.out; omega)
                have HS3 : Hid (s3 C 3 = cA) := Lib.hid (by
                  have h := three_sum H3T.out kk rr
                  rw [hC, hcA, ← h]
                  show 0 + _ + _ + _ = _
                  simp)
                have HFOR : Hid (∀ W x, x.length = 32 → Tl W S g 7 T → Calls Try.prog 11 #[.pointer (some ⟨g, 0, none⟩), .int .i64 kk, .int .i64 rr, .agg (x.map by8).toArray] W fun e w' => e = .returned (.int .i64 (C x : Nat)) ∧ Fr [] W w') := Lib.hid (fun W x hx h => by
                  rw [hC]
                  exact for_any W S g 7 T h kk rr HKI.out HRI.out x hx)
                obtain ⟨M, hM⟩ : ∃ M, M = mstV T kk rr := ⟨_, rfl⟩
                have HML : Hid (M.length = 32) := Lib.hid (by rw [hM]; exact mstV_len HGD.out kk rr)
                have HMO : Hid (∀ W, Tl W S g 7 T → Calls Try.prog 12 #[.pointer (some ⟨g, 0, none⟩), .int .i64 kk, .int .i64 rr] W fun e w' => e = .returned (.tuple #[.agg (M.map by8).toArray, .int .i64 (C M : Nat)]) ∧ Fr [] W w') := Lib.hid (fun W h => by
                  rw [hM, hC]
                  exact most_any W S g 7 T h HOK.out kk rr HKI.out HRI.out)
                have HAL : Hid (∀ W, Tl W S g 7 T → Calls Try.prog 9 #[.pointer (some ⟨g, 0, none⟩), .int .i64 kk, .int .i64 rr] W fun e w' => e = .returned (.int .i64 (cA : Nat)) ∧ W = w') := Lib.hid (fun W h => by
                  rw [hcA]
                  exact all_any W S g 7 T h HOK.out kk rr HKI.out HRI.out)
                obtain ⟨q0, hq0⟩ : ∃ q0, q0 = heardV T rr := ⟨_, rfl⟩
                obtain ⟨q1, hq1⟩ : ∃ q1, q1 = heardV T ((rr : Int) + 1) := ⟨_, rfl⟩
                have HH0 : Hid (∀ W, Tl W S g 7 T → Calls Try.prog 14 #[.pointer (some ⟨g, 0, none⟩), .int .i64 rr] W fun e w' => e = .returned (.int .i64 (q0 : Nat)) ∧ W = w') := Lib.hid (fun W h => by
                  rw [hq0]
                  exact heard_any W S g 7 T h rr)
                have HH1 : Hid (∀ W, Tl W S g 7 T → Calls Try.prog 14 #[.pointer (some ⟨g, 0, none⟩), .int .i64 ((rr : Int) + 1)] W fun e w' => e = .returned (.int .i64 (q1 : Nat)) ∧ W = w') := Lib.hid (fun W h => by
                  rw [hq1]
                  exact heard_any W S g 7 T h ((rr : Int) + 1))
                have HQ : Hid (q1 ≤ q0 ∧ cA ≤ q0 ∧ q0 ≤ 7) := Lib.hid ⟨by rw [hq0, hq1]; exact heard_mono T _ _ (by omega), by rw [hq0, hcA]; exact all_heard HGD.out (by omega) kk rr (by omega), by rw [hq0]; exact heard_le (n := 7) HGD.out (by omega) rr⟩
                have HZ : Hid (C M = 0 → cA = 0 ∧ M = zh32) := Lib.hid (fun h => by
                  have hb := (mst_best HGD.out kk rr).most
                  rw [← hC, ← hM] at hb
                  have e : cA = 0 := by
                    rw [← HS3.out]
                    exact s3_zero C (fun x => by have := hb x; omega) 3
                  exact ⟨e, by rw [hM]; exact mst_zero (by rw [← hcA]; exact e)⟩)
                clear hC hcA hM hq0 hq1
                go_wp2_with fail
                go_loopw [12, 13] (fun s12 s13 wh => ∃ q : Nat, q ≤ 3 ∧ s13 = .int .i64 q ∧ s12 = .int .i64 (s3 C q : Nat) ∧ Tl wh S g 7 T ∧ Blk wh g3 24 #[.int .i64 2, .int .i64 1] ∧ Fr [] w wh) (fun _ s13 _ => 3 - (intOf s13).toNat)
                case atStart => exact ⟨0, by omega, rfl, rfl, HTx.out, HBx.out, HFx.out⟩
                case round =>
                  obtain ⟨q, hq3, rfl, rfl, h1, h2, h3⟩ := hrel
                  rename World => wh
                  have HTh := Lib.hid h1
                  have HBh := Lib.hid h2
                  have HFh := Lib.hid h3
                  clear h1 h2 h3
                  have HSB : Hid (s3 C q ≤ 180) := Lib.hid (s3_le C HCB.out q hq3)
                  by_cases hq : q < 3
                  · have hqi : (q : Int) < 3 := by omega
                    have hs64 : ((s3 C q : Nat) : Int) ≤ 180 := by have := HSB.out; omega
                    have HBU : Hid (Try.prog.built 30 [(0, .int .u8 (q : Int))] = some ((h1b (UInt8.ofNat q)).map by8).toArray) := Lib.hid (by
                      have h := built_h (UInt8.ofNat q)
                      unfold by8 at h
                      rw [UInt8.toNat_ofNat', Nat.mod_eq_of_lt (by omega)] at h
                      exact h)
                    have hcx : ((C (h1b (UInt8.ofNat q)) : Nat) : Int) ≤ 60 := by have := HCB.out (h1b (UInt8.ofNat q)); omega
                    go_wp2_with (refine wpList_builtg rfl 30 _ rfl _ _ HBU.out rfl ?_)
                    refine (HFOR.out wh (h1b (UInt8.ofNat q)) (h1b_len _) HTh.out).mono ?_
                    rintro e wj ⟨rfl, hfj⟩
                    have HTj := Lib.hid (HTh.out.keep hfj (by simp))
                    have HBj := Lib.hid (HBh.out.keep hfj (by simp))
                    have HFj := Lib.hid (HFh.out.and hfj (by simp))
                    clear hfj
                    go_wp2_with fail
                    go_roundw
                    case rel => exact ⟨q + 1, by omega, by go_num, by show _ = Value.int .i64 ((s3 C q + C (h1b (UInt8.ofNat q)) : Nat) : Int); go_num, HTj.out, HBj.out, HFj.out⟩
                    case measure => simp [intOf]; omega
                  · have hqe : q = 3 := by omega
                    subst hqe
                    rw [HS3.out]
                    have hc7 : (cA : Int) ≤ 7 := by have := HQ.out; omega
                    have hnn : ((cA : Int) != (cA : Int)) = false := by simp
                    have hd7 : decide (7 < cA) = false := decide_eq_false (by have := HQ.out; omega)
                    have hd7i : decide ((7 : Int) < (cA : Int)) = false := decide_eq_false (by omega)
                    have hdq : decide (q0 < q1) = false := decide_eq_false (by have := HQ.out; omega)
                    have hdqi : decide ((q0 : Int) < (q1 : Int)) = false := decide_eq_false (by have := HQ.out; omega)
                    have hda : decide (q0 < cA) = false := decide_eq_false (by have := HQ.out; omega)
                    have hdai : decide ((q0 : Int) < (cA : Int)) = false := decide_eq_false (by have := HQ.out; omega)
                    have HHS : Hid ((Try.prog.info? 30).map (·.size) = some (M.map by8).toArray.size) := Lib.hid (by rw [List.size_toArray, List.length_map, HML.out]; kernel_rfl)
                    have HHZ : Hid (zeroH.size = (M.map by8).toArray.size) := Lib.hid (by rw [show zeroH.size = 32 from rfl, List.size_toArray, List.length_map, HML.out])
                    have HHA : Hid (((M.map by8).toArray.all (·.oneCell')) = true) := Lib.hid (all_oneCell_toArray (by8_one M))
                    have HRM : Hid (RowTy Try.prog 30 (M.map by8).length) := Lib.hid (row_hash.of (by rw [List.length_map]; exact HML.out))
                    clear hq
                    go_wp2_with fail
                    refine (HMO.out wh HTh.out).mono ?_
                    rintro e w1 ⟨rfl, hf1⟩
                    have HT1 := Lib.hid (HTh.out.keep hf1 (by simp))
                    have HB1 := Lib.hid (HBh.out.keep hf1 (by simp))
                    have HF1 := Lib.hid (HFh.out.and hf1 (by simp))
                    clear hf1
                    go_upto_region 27 with (refine wpList_store_blk rfl 30 _ _ rfl w1.heap.size (M.map by8).toArray rfl rfl 30 zeroH (Blk.new w1 _ _) HHS.out HHZ.out HHA.out ?_; intro w2 hb2 hf2)
                    have HFs2 : Hid (Fr [] w1 w2) := Lib.hid (((Fr.refl [] w1).alloc _).and hf2 (by simp))
                    have HRg : Hid (w2.rangeAt w1.heap.size 0 (M.map by8)) := Lib.hid hb2.range
                    have HT2 := Lib.hid (HT1.out.keep HFs2.out (by simp))
                    have HB2 := Lib.hid (HB1.out.keep HFs2.out (by simp))
                    have HF2 := Lib.hid (HF1.out.and HFs2.out (by simp))
                    obtain ⟨gm, hgm⟩ : ∃ gm, gm = w1.heap.size := ⟨_, rfl⟩
                    rw [← hgm] at HRg ⊢
                    clear hb2 hf2 hgm
                    go_wp2_with fail
                    refine (HAL.out w2 HT2.out).mono ?_
                    rintro e w3 ⟨rfl, rfl⟩
                    go_wp2_with (refine wpList_row rfl 24 _ rfl _ _ rfl _ (Blk.range HB2.out) row_conf2 ?_)
                    refine (HN7.out w2).mono ?_
                    rw [show (3 : Int) * 2 + 1 = 7 by decide]
                    rintro e w3 ⟨rfl, hf3⟩
                    have HT3 := Lib.hid (HT2.out.keep hf3 (by simp))
                    have HB3 := Lib.hid (HB2.out.keep hf3 (by simp))
                    have HF3 := Lib.hid (HF2.out.and hf3 (by simp))
                    have HRg3 : Hid (w3.rangeAt gm 0 (M.map by8)) := Lib.hid (hf3.range HRg.out (by simp))
                    clear hf3
                    have hcm : ((C M : Nat) : Int) ≤ 60 := by have := HCB.out M; omega
                    by_cases hz : C M = 0
                    · obtain ⟨ha0, hm0⟩ := HZ.out hz
                      have hdz : decide (0 < C M) = false := decide_eq_false (by omega)
                      have hdzi : decide ((0 : Int) < ((C M : Nat) : Int)) = false := decide_eq_false (by omega)
                      have hez : (((C M : Nat) : Int) == 0) = true := by simp; omega
                      have haz : ((cA : Int) != 0) = false := by simp; omega
                      have hq : ∀ W : World, (Op.equalIn 10000 30 (.agg (M.map by8).toArray) (.agg zeroH)).run Try.prog W = .ok true W := fun W => by
                        have h := eql_hash M zh32 HML.out rfl 9998 W
                        rw [show decide (M = zh32) = true by simp [hm0]] at h
                        exact h
                      have HBZ : Hid (Try.prog.built 30 [] = some zeroH) := Lib.hid (by kernel_rfl)
                      clear ha0 hm0 hz
                      go_wp2_with (first
                        | (refine wpList_row rfl 30 (.tmp 14) rfl gm 0 rfl (M.map by8) HRg3.out HRM.out ?_)
                        | (refine wpList_builtg rfl 30 _ rfl _ _ HBZ.out rfl ?_))
                      refine (HH1.out w3 HT3.out).mono ?_
                      rintro e w4 ⟨rfl, rfl⟩
                      go_wp2_with fail
                      refine (HH0.out w3 HT3.out).mono ?_
                      rintro e w4 ⟨rfl, rfl⟩
                      go_wp2_with fail
                      refine (HAL.out w3 HT3.out).mono ?_
                      rintro e w4 ⟨rfl, rfl⟩
                      go_wp2_with fail
                      refine (HH0.out w3 HT3.out).mono ?_
                      rintro e w4 ⟨rfl, rfl⟩
                      go_wp2_with fail
                      go_roundw
                      case rel => exact ⟨rr + 1, by omega, by go_num, HT3.out, HB3.out, HF3.out⟩
                      case measure => simp [intOf]; omega
                    · have hdz : decide (0 < C M) = true := decide_eq_true (by omega)
                      have hdzi : decide ((0 : Int) < ((C M : Nat) : Int)) = true := decide_eq_true (by omega)
                      have hez : (((C M : Nat) : Int) == 0) = false := by simp; omega
                      have hcc : (((C M : Nat) : Int) != ((C M : Nat) : Int)) = false := by simp
                      go_wp2_with (refine wpList_row rfl 30 (.tmp 14) rfl gm 0 rfl (M.map by8) HRg3.out HRM.out ?_)
                      refine (HFOR.out w3 M HML.out HT3.out).mono ?_
                      rintro e w4 ⟨rfl, hf4⟩
                      have HT3 := Lib.hid (HT3.out.keep hf4 (by simp))
                      have HB3 := Lib.hid (HB3.out.keep hf4 (by simp))
                      have HF3 := Lib.hid (HF3.out.and hf4 (by simp))
                      clear hf4
                      generalize w4 = w3' at *
                      go_wp2_with fail
                      refine (HH1.out w3' HT3.out).mono ?_
                      rintro e w5 ⟨rfl, rfl⟩
                      go_wp2_with fail
                      refine (HH0.out w3' HT3.out).mono ?_
                      rintro e w5 ⟨rfl, rfl⟩
                      go_wp2_with fail
                      refine (HAL.out w3' HT3.out).mono ?_
                      rintro e w5 ⟨rfl, rfl⟩
                      go_wp2_with fail
                      refine (HH0.out w3' HT3.out).mono ?_
                      rintro e w5 ⟨rfl, rfl⟩
                      go_wp2_with fail
                      go_roundw
                      case rel => exact ⟨rr + 1, by omega, by go_num, HT3.out, HB3.out, HF3.out⟩
                      case measure => simp [intOf]; omega
              · have hre : rr = 4 := by omega
                subst hre
                go_wp2_with fail
                go_roundw
                case rel => exact ⟨kk + 1, by omega, by omega, by go_num, HTx.out, HBx.out, HFx.out⟩
                case measure => simp [intOf]; omega
          · have hke : kk = 3 := by omega
            subst hke
            have hq8 : Hid (heardV T 0 ≤ 7) := Lib.hid (heard_le (n := 7) HGD.out (by omega) 0)
            obtain ⟨q0, hq0⟩ : ∃ q0, q0 = heardV T 0 := ⟨_, rfl⟩
            have HH0 : Hid (∀ W, Tl W S g 7 T → Calls Try.prog 14 #[.pointer (some ⟨g, 0, none⟩), .int .i64 0] W fun e w' => e = .returned (.int .i64 (q0 : Nat)) ∧ W = w') := Lib.hid (fun W h => by
              rw [hq0]
              exact heard_any W S g 7 T h 0)
            rw [← hq0] at hq8
            have HWI : Hid (∀ W, Calls Try.prog 15 #[.int .i64 (q0 : Int), .int .i64 8] W fun e w' => e = .returned (.int .i64 (q0 : Int)) ∧ W = w') := Lib.hid (fun W => by
              have h := within_pos (q0 : Int) 8 (by omega) (by have := hq8.out; omega) (by omega) (by omega) W
              rw [show (q0 : Int) % 8 = (q0 : Int) by have := hq8.out; omega] at h
              exact h)
            clear hq0
            have hqq : ((q0 : Int) == (q0 : Int)) = true := by simp
            go_wp2_with fail
            refine (HH0.out wk HTk.out).mono ?_
            rintro e wz ⟨rfl, rfl⟩
            go_wp2_with fail
            refine (HWI.out wk).mono ?_
            rintro e wz ⟨rfl, rfl⟩
            go_wp2_with fail
            refine (HH0.out wk HTk.out).mono ?_
            rintro e wz ⟨rfl, rfl⟩
            go_wp2_with fail
            refine (twakes_any wk).mono ?_
            rintro e wz ⟨rfl, hfz⟩
            have HFz := Lib.hid (HFk.out.and hfz (by simp))
            clear hfz
            go_wp2_with fail
            go_ret
            exact ⟨rfl, HFz.out⟩
end Go.Proofs.Ytfmkegblhpnfcaa
