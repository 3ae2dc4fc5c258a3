/- Proved here: CodeBack's statement: for every list of calls the law returns true. Conditions: none. -/
import Derived.Test.YtcnngdhjeihecaaRead
import Derived.Deep.RegionWith
import Derived.Stop.BytesEq
import Derived.Deep.DeepCutAuto
import Derived.Deep.CutBlock
import Derived.Deep.RegionHeld3
namespace Go.Proofs.Ytcnngdhjeihecaa
open Go.RowKit

/-- which bytes a round reads -/
def BackBytes (L : List UInt8) (rd : Nat) (bs : List UInt8) : Prop := (rd = 0 ∧ bs = L) ∨ (rd = 1 ∧ ∃ q, q < L.length ∧ bs = L.take q) ∨ rd = 2

attribute [local go_sem ↓] exec_load_hash_any
attribute [local go_sem] addrOf_ptr isLoadHash_load loadOf_load

set_option maxRecDepth 100000 in
set_option maxHeartbeats 20000000 in
theorem back_walk (w : World) (A : Option Addr) (n c : Nat) (l : List ActV) (hl : Acts w A n l) (hc : n ≤ c) (hx : c ≤ maxLen) (cut : Int) (h1 : -9223372036854775808 ≤ cut) (h2 : cut < 9223372036854775808) :
    Calls Try.prog 6 #[.slice A n c, .int .i64 cut] w fun e w' => e = .returned (.bool true) ∧ Fr [] w w' := by
  unfold maxLen at hx
  have hnm : n ≤ 9223372036854775807 := by omega
  have HL := Lib.hid hl
  have HC := Lib.hid (And.intro h1 h2)
  clear hl hx hc h1 h2
  go_enter Try.func6, Try.ntmps6
  go_wp2_with fail
  refine (newWriter_b w).mono ?_
  rintro e w1 ⟨rfl, hw1, hb1⟩
  have HW1 := Lib.hid hw1
  have HB1 := Lib.hid hb1
  clear hw1 hb1
  go_upto_block 0 with (fail)
  go_cut [6] (fun _ wx => ∃ L : List UInt8, L = written 1125899906842624 90 (l.take 12) ∧ L.length ≤ 1320 ∧ WB wx w.heap.size w.heap.size L ∧ Below w.heap.size w wx)
  case first =>
    go_wp2_with fail
    go_loopw [6] (fun i wr => ∃ k : Nat, k ≤ n ∧ k ≤ 12 ∧ i = .int .i64 k ∧ WB wr w.heap.size w.heap.size (written 1125899906842624 90 (l.take k)) ∧ (written 1125899906842624 90 (l.take k)).length ≤ 110 * k ∧ Below w.heap.size w wr) (fun i _ => 12 - (intOf i).toNat)
    case atStart => exact ⟨0, by omega, by omega, rfl, HW1.out, by simp [written], HB1.out⟩
    case round =>
      obtain ⟨k, hk, hk12, rfl, hwr, hlen, hbel⟩ := hrel
      have HWR := Lib.hid hwr
      have HLEN := Lib.hid hlen
      have HBEL := Lib.hid hbel
      clear hwr hlen hbel HW1 HB1
      by_cases hlt : k < n ∧ k < 12
      · obtain ⟨hkn, hk2⟩ := hlt
        obtain ⟨ad, v, rfl, hg, hok, hcells⟩ := HL.out.at HBEL.out hkn
        have HOK := Lib.hid hok
        have HG := Lib.hid hg
        have HCELLS := Lib.hid hcells
        have hk0 : (0 : Int) ≤ k := by omega
        clear hg hok hcells
        go_wp2_with (first
          | (refine wpList_load_cells rfl 46 _ rfl (ad.add (k * 36)) rfl v.cells _ (fun j x hx => by rw [add_add]; exact HCELLS.out j x hx) Try.underlying46 rfl (by rw [act_size, HOK.out.len]) ?_)
          | (refine wpList_store_box rfl 46 _ _ rfl _ 46 v.cells rfl rfl (by rw [act_size, HOK.out.len]) (by rw [HOK.out.len]; rfl) v.one ?_
             intro wb hblk hfb
             obtain ⟨hc0, hc1, hc2, hc3, hc4⟩ := ActV.in_blk hblk
             have HC4 := Lib.hid hc4
             have HFB := Lib.hid hfb
             have HOKB := Lib.hid (HOK.out.keep hfb (by simp))
             have HWB := Lib.hid (HWR.out.fr hfb)
             have HBB := Lib.hid (HBEL.out.trans (hfb.nil_below HBEL.out.size))
             clear hc4 hblk hfb))
        generalize wr.heap.size = gb at *
        refine (within_pos v.d 4 HOKB.out.d1 HOKB.out.d2 (by omega) (by omega) wb).mono ?_
        rintro e wb' ⟨rfl, rfl⟩
        have hq : v.d % 4 = 0 ∨ v.d % 4 = 1 ∨ v.d % 4 = 2 ∨ v.d % 4 = 3 := by omega
        have hlab := actBytes_len (m := 1125899906842624) (r := 90) HOKB.out (by omega) (by omega) (by omega)
        have HLAB := Lib.hid hlab
        have HSN := Lib.hid (written_snoc (m := 1125899906842624) (r := 90) HG.out)
        clear hlab
        generalize hL : written 1125899906842624 90 (l.take k) = L at *
        clear hL
        have hk1 : k + 1 ≤ 12 := by omega
        have hLs : L.length ≤ 1320 := by have := HLEN.out; omega
        have HLS := Lib.hid hLs
        clear hLs
        rcases hq with hq | hq | hq | hq
        · have hab : actBytes 1125899906842624 90 v = enc v.u := by unfold actBytes; rw [if_pos hq]
          rw [hab] at HSN HLAB
          rw [hq]
          clear hab hq
          go_wp2_with fail
          refine (num_b v.u HOKB.out.u HWB.out (by have := HLS.out; omega)).mono ?_
          rintro e w5 ⟨rfl, hw5, hb5⟩
          have HW5 := Lib.hid hw5
          have HB5 := Lib.hid (HBB.out.trans hb5)
          clear hw5 hb5
          go_wp2
          go_roundw
          case rel => exact ⟨k + 1, by omega, by omega, by go_num, by rw [HSN.out]; exact HW5.out, by rw [HSN.out, List.length_append]; have := HLAB.out; have := HLEN.out; omega, HB5.out⟩
          case measure => simp [intOf]; omega
        · have hab : actBytes 1125899906842624 90 v = enc (v.n % 1125899906842624).toNat := by unfold actBytes; rw [if_neg (by omega), if_pos hq]
          rw [hab] at HSN HLAB
          rw [hq]
          clear hab hq
          go_wp2_with fail
          refine (within_pos v.n 1125899906842624 HOKB.out.n1 HOKB.out.n2 (by omega) (by omega) wb).mono ?_
          rintro e wb' ⟨rfl, rfl⟩
          obtain ⟨t, ht, htl⟩ : ∃ t : Nat, v.n % 1125899906842624 = (t : Int) ∧ t < 1125899906842624 := ⟨(v.n % 1125899906842624).toNat, by omega, by omega⟩
          rw [ht] at HSN HLAB ⊢
          clear ht
          rw [Int.toNat_natCast] at HSN HLAB
          go_wp2_with fail
          refine (int_b t (by omega) HWB.out (by have := HLS.out; omega)).mono ?_
          rintro e w5 ⟨rfl, hw5, hb5⟩
          have HW5 := Lib.hid hw5
          have HB5 := Lib.hid (HBB.out.trans hb5)
          clear hw5 hb5
          go_wp2
          go_roundw
          case rel => exact ⟨k + 1, by omega, by omega, by go_num, by rw [HSN.out]; exact HW5.out, by rw [HSN.out, List.length_append]; have := HLAB.out; have := HLEN.out; omega, HB5.out⟩
          case measure => simp [intOf]; omega
        · have hab : actBytes 1125899906842624 90 v = enc (v.b.take 90).length ++ v.b.take 90 := by unfold actBytes; rw [if_neg (by omega), if_neg (by omega), if_pos hq]
          rw [hab] at HSN HLAB
          rw [hq]
          clear hab hq
          go_wp2_with fail
          rw [show (90 : Int) = ((90 : Nat) : Int) from rfl]
          refine (cut_any v.A v.m v.c 90 v.b wb HOKB.out.b (Nat.le_trans HOKB.out.m HOKB.out.c) HOKB.out.m (by omega)).mono ?_
          rintro e w4 ⟨A4, c4, rfl, hN4⟩
          have HN4 := Lib.hid hN4
          have HB4 := Lib.hid (HBB.out.trans (hN4.2.1.nil_below HBB.out.size))
          have h90 : (v.b.take 90).length ≤ 90 := List.length_take_le _ _
          have H90 := Lib.hid h90
          clear hN4 h90
          generalize v.b.take 90 = b at *
          go_wp2_with fail
          refine (row_n wb A4 _ c4 b HN4.out (by have := H90.out; omega) HWB.out (by have := HLS.out; omega)).mono ?_
          rintro e w5 ⟨rfl, hw5, hb5⟩
          have HW5 := Lib.hid hw5
          have HB5 := Lib.hid (HB4.out.trans hb5)
          clear hw5 hb5
          go_wp2
          go_roundw
          case rel => exact ⟨k + 1, by omega, by omega, by go_num, by rw [HSN.out]; exact HW5.out, by rw [HSN.out, List.length_append]; have := HLAB.out; have := HLEN.out; omega, HB5.out⟩
          case measure => simp [intOf]; omega
        · have hab : actBytes 1125899906842624 90 v = v.h := by unfold actBytes; rw [if_neg (by omega), if_neg (by omega), if_neg (by omega)]
          rw [hab] at HSN HLAB
          rw [hq]
          clear hab hq
          go_wp2_with (first
            | (refine wpList_load_cells rfl 41 _ rfl ⟨gb, 4, none⟩ rfl (v.h.map by8) _ HC4.out Try.underlying41 rfl (by rw [hash_size, List.length_map, HOKB.out.h]) ?_)
            | (go_at_call 32; refine Stop.mk ?_))
          refine Stop.go ?_
          refine (hash_b v.h HOKB.out.h HWB.out (by have := HLS.out; omega)).mono ?_
          rintro e w5 ⟨rfl, hw5, hb5⟩
          have HW5 := Lib.hid hw5
          have HB5 := Lib.hid (HBB.out.trans hb5)
          clear hw5 hb5
          go_wp2
          go_roundw
          case rel => exact ⟨k + 1, by omega, by omega, by go_num, by rw [HSN.out]; exact HW5.out, by rw [HSN.out, List.length_append]; have := HLAB.out; have := HLEN.out; omega, HB5.out⟩
          case measure => simp [intOf]; omega
      · have hkx : (n : Int) ≤ k ∨ (12 : Int) ≤ k := by omega
        have hkm : l.take k = l.take 12 := by
          rcases Nat.lt_or_ge k 12 with h | h
          · rw [List.take_of_length_le (by have := HL.out.1; omega), List.take_of_length_le (by have := HL.out.1; omega)]
          · rw [show k = 12 by omega]
        have HKM := Lib.hid hkm
        clear hkm
        rcases hkx with hkx | hkx
        all_goals
          go_wp2_with fail
          all_goals
           go_meet
           exact ⟨_, rfl, by rw [← HKM.out]; have := HLEN.out; omega, by rw [← HKM.out]; exact HWR.out, HBEL.out⟩
  case rest =>
    obtain ⟨L, hL, hLs, hwc, hbc⟩ := hcut
    have HLW := Lib.hid hL
    have HLS := Lib.hid hLs
    have HWC := Lib.hid hwc
    have HBC := Lib.hid hbc
    clear hL hLs hwc hbc HW1 HB1
    go_wp2_with fail
    refine (bytes_b HWC.out (by have := HLS.out; omega)).mono ?_
    rintro e w6 ⟨A6, c6, rfl, hN6, hw6, hb6⟩
    have HN6 := Lib.hid hN6
    have HB6 := Lib.hid (HBC.out.trans hb6)
    clear hN6 hw6 hb6
    generalize hM : l.take 12 = M at *
    have HM := Lib.hid hM
    clear hM
    go_wp2_with fail
    go_loopw [8, 9] (fun s8 s9 wr => ∃ (rd : Nat) (bs : List UInt8) (A' : Option Addr) (c' : Nat), s9 = .int .i64 rd ∧ rd ≤ 2 ∧ s8 = .slice A' bs.length c' ∧ By wr A' bs.length bs ∧ (∀ k ∈ bk A', k < wr.heap.size) ∧ bs.length ≤ c' ∧ Below w.heap.size w wr ∧ BackBytes L rd bs)
      (fun _ s9 _ => (2 - intOf s9).toNat)
    case atStart => exact ⟨0, L, A6, c6, rfl, by omega, rfl, HN6.out.by, HN6.out.lt, HN6.out.cap, HB6.out, .inl ⟨rfl, rfl⟩⟩
    case round =>
      obtain ⟨rd, bs, A7, c7, rfl, hrd, rfl, hy7, hlt7, hc7, hbel7, hbb⟩ := hrel
      have HY7 := Lib.hid hy7
      have HLT7 := Lib.hid hlt7
      have HBEL7 := Lib.hid hbel7
      clear hy7 hlt7 hbel7 HB6 HN6
      have hstart : (rd = 2) ∨ (∃ z : Bool, (rd = if z then 0 else 1) ∧ Rst L z bs false ∧ bs.length ≤ 1320) := by
        have := HLS.out
        rcases hbb with ⟨rfl, rfl⟩ | ⟨rfl, q, hq, rfl⟩ | rfl
        · exact .inr ⟨true, rfl, .inl ⟨rfl, bs.length, by simp, fun _ => rfl, fun h => by cases h⟩, this⟩
        · exact .inr ⟨false, rfl, .inl ⟨rfl, q, rfl, fun h => (by cases h), fun _ => hq⟩, by rw [List.length_take]; omega⟩
        · exact .inl rfl
      clear hbb
      rcases hstart with rfl | ⟨z, hz, hst, hbl⟩
      rotate_left
      · have HST := Lib.hid hst
        have HBL := Lib.hid hbl
        have hr0 : (rd : Int) < 2 := by rw [hz]; cases z <;> decide
        have hr1 : ((rd : Int) == 0) = z := by rw [hz]; cases z <;> decide
        have HZ := Lib.hid hz
        clear hst hbl hz
        go_wp2_with fail
        refine (newReader_b A7 _ c7 bs wr HY7.out (by have := HBL.out; omega)).mono ?_
        rintro e w8 ⟨g, rfl, hr8, hf8⟩
        generalize hB2 : wr.heap.size = B2 at *
        have hwB : w.heap.size ≤ B2 := by rw [← hB2]; exact HBEL7.out.size
        have HR8 := Lib.hid hr8
        have HBel8 := Lib.hid (HBEL7.out.trans (hf8.nil_below HBEL7.out.size))
        have HLo8 : Hid (Lo w8 B2 A7 bs.length bs) := ⟨HY7.out.keep hf8 (by simp), HLT7.out⟩
        clear hr8 hf8 hB2
        go_wp2_with fail
        go_loopw [11] (fun i wr => ∃ (k : Nat) (R : List UInt8) (bad : Bool), k ≤ n ∧ k ≤ 12 ∧ i = .int .i64 k ∧ RB wr B2 g R bad ∧ Rst (written 1125899906842624 90 (M.drop k)) z R bad ∧ R.length ≤ 1320 ∧ Below B2 w8 wr) (fun i _ => 12 - (intOf i).toNat)
        case atStart => exact ⟨0, bs, false, by omega, by omega, rfl, HR8.out, by rw [List.drop_zero, ← HLW.out]; exact HST.out, HBL.out, Below.refl _ _⟩
        case round =>
          obtain ⟨k, R, bad, hk, hk12, rfl, hr, hst, hRl, hbel⟩ := hrel
          have HR := Lib.hid hr
          have HST2 := Lib.hid hst
          have HRL := Lib.hid hRl
          have HBW : Hid (Below w.heap.size w wr) := HBel8.out.trans (hbel.mono hwB)
          have HBEL := Lib.hid hbel
          clear hr hst hRl hbel
          by_cases hlt : k < n ∧ k < 12
          · obtain ⟨hkn, hk2⟩ := hlt
            obtain ⟨ad, v, rfl, hg, hok, hcells⟩ := HL.out.at HBW.out hkn
            have HOK := Lib.hid hok
            have HOK0 := Lib.hid (HL.out.at0 hkn hg)
            have HG : Hid (M[k]? = some v) := by rw [← HM.out, List.getElem?_take, if_pos hk2]; exact hg
            have HCELLS := Lib.hid hcells
            have hk0 : (0 : Int) ≤ k := by omega
            have hgle := HR.out.le
            clear hg hok hcells
            go_wp2_with (first
              | (refine wpList_load_cells rfl 46 _ rfl (ad.add (k * 36)) rfl v.cells _ (fun j x hx => by rw [add_add]; exact HCELLS.out j x hx) Try.underlying46 rfl (by rw [act_size, HOK.out.len]) ?_)
              | (refine wpList_store_box rfl 46 _ _ rfl _ 46 v.cells rfl rfl (by rw [act_size, HOK.out.len]) (by rw [HOK.out.len]; rfl) v.one ?_
                 intro wb hblk hfb
                 obtain ⟨hc0, hc1, hc2, hc3, hc4⟩ := ActV.in_blk hblk
                 have HC4 := Lib.hid hc4
                 have HOKB := Lib.hid (HOK.out.keep hfb (by simp))
                 have HRB := Lib.hid (HR.out.fr hfb)
                 have HBB := Lib.hid (HBEL.out.trans (hfb.nil_below hgle.2.2))
                 have HBWB := Lib.hid (HBW.out.trans (hfb.nil_below HBW.out.size))
                 clear hc4 hblk hfb))
            have hgb : g < wr.heap.size := hgle.2.1
            have hB2g := hgle.1
            clear hgle
            generalize wr.heap.size = gb at *
            refine (within_pos v.d 4 HOKB.out.d1 HOKB.out.d2 (by omega) (by omega) wb).mono ?_
            rintro e wb' ⟨rfl, rfl⟩
            go_upto_block 7 with (fail)
            go_cut [13, 84] (fun s13 _ wx => ∃ (okb : Bool) (R' : List UInt8) (bad' : Bool), s13 = .bool okb ∧ (z = true → okb = true) ∧ RB wx B2 g R' bad' ∧ Rst (written 1125899906842624 90 (M.drop (k + 1))) z R' bad' ∧ R'.length ≤ 1320 ∧ Below B2 w8 wx)
            case first =>
              have hab : actBytes 1125899906842624 90 v = if v.d % 4 = 0 then enc v.u else if v.d % 4 = 1 then enc (v.n % 1125899906842624).toNat else if v.d % 4 = 2 then enc (v.b.take 90).length ++ v.b.take 90 else v.h := rfl
              have HS0 : Hid (Rst (actBytes 1125899906842624 90 v ++ written 1125899906842624 90 (M.drop (k + 1))) z R bad) := by rw [← written_drop HG.out]; exact HST2.out
              generalize written 1125899906842624 90 (M.drop (k + 1)) = W at *
              have hq : v.d % 4 = 0 ∨ v.d % 4 = 1 ∨ v.d % 4 = 2 ∨ v.d % 4 = 3 := by omega
              clear HST2
              rcases hq with hq | hq | hq | hq
              · rw [hab, if_pos hq] at HS0
                obtain ⟨hv, hs, hl'⟩ := step_num HOKB.out.u HS0.out
                have HV := Lib.hid hv
                have HS := Lib.hid hs
                have HL' := Lib.hid hl'
                rw [hq]
                clear hab hv hs hl' hq
                go_wp2
                go_region_with (first
                  | (go_at_call 18
                     go_must (refine (rnum_s (B := B2) (R := R) (bad := bad) (HRB.out.fr ((Fr.refl [] wb).drew)) (by have := HRL.out; omega)).mono ?_
                              rintro e w5 ⟨rfl, hr5, hf5⟩
                              have hc2' := hf5.cell (a := wb.drew) hc2 (by simp; omega)
                              have HR5 := Lib.hid hr5
                              have HB5 := Lib.hid (HBB.out.drew.trans ((HRB.out.fr ((Fr.refl [] wb).drew)).below hf5))
                              clear hr5 hf5)))
                all_goals
                  go_wp2_with fail
                  go_meet
                  exact ⟨_, _, _, rfl, fun hz => (by rw [HV.out hz]; simp), HR5.out, HS.out, by have := HL'.out; have := HRL.out; omega, HB5.out⟩
              · rw [hab, if_neg (by omega), if_pos hq] at HS0
                have hmod : 0 ≤ v.n % 1125899906842624 ∧ v.n % 1125899906842624 < 1125899906842624 := by omega
                obtain ⟨hv, hs, hl'⟩ := step_int (m := 1125899906842624) (by omega) (by omega) HS0.out
                have HV := Lib.hid hv
                have HS := Lib.hid hs
                have HL' := Lib.hid hl'
                have HMOD := Lib.hid hmod
                rw [hq]
                clear hab hv hs hl' hq hmod
                go_wp2
                go_region_with (first
                  | (go_at_call 23
                     go_must (refine (rint_s (B := B2) (R := R) (bad := bad) 1125899906842624 (by omega) (HRB.out.fr ((Fr.refl [] wb).drew)) (by have := HRL.out; omega)).mono ?_
                              rintro e w5 ⟨rfl, hr5, hf5⟩
                              have hc1' := hf5.cell (a := wb.drew) hc1 (by simp; omega)
                              have HR5 := Lib.hid hr5
                              have HB5 := Lib.hid (HBB.out.drew.trans ((HRB.out.fr ((Fr.refl [] wb).drew)).below hf5))
                              clear hr5 hf5))
                  | (go_at_call 22
                     go_must (refine (within_pos v.n 1125899906842624 HOKB.out.n1 HOKB.out.n2 (by omega) (by omega) _).mono ?_
                              rintro e w6 ⟨rfl, rfl⟩)))
                all_goals
                  go_wp2_with fail
                  go_meet
                  exact ⟨_, _, _, rfl, fun hz => (by have h1 := HV.out hz; have h2 := HMOD.out.1; simp; omega), HR5.out, HS.out, by have := HL'.out; have := HRL.out; omega, HB5.out⟩
              · rw [hab, if_neg (by omega), if_neg (by omega), if_pos hq] at HS0
                have h90 : (v.b.take 90).length ≤ 90 := List.length_take_le _ _
                have h90b : By wb v.A v.m v.b := HOKB.out.b
                generalize hbb : v.b.take 90 = b90 at *
                have HBB90 := Lib.hid hbb
                clear hbb h90b
                obtain ⟨hv, hs, hl'⟩ := step_row (m := 100) (by omega) (by omega) HS0.out
                have HV := Lib.hid hv
                have HS := Lib.hid hs
                have HL' := Lib.hid hl'
                have H90 := Lib.hid h90
                rw [hq]
                clear hab hv hs hl' hq h90
                go_wp2
                go_region_with (first
                  | (go_at_call 20
                     go_must (refine (rrow_s (B := B2) (R := R) (bad := bad) 100 (by omega) (by first | exact (HRB.out.fr ((Fr.refl [] wb).drew)) | exact (HRB.out.fr ((Fr.refl [] wb).drew)).fr HN4.out.2.1) (by have := HRL.out; omega)).mono ?_
                              rintro e w5 ⟨A5, c5, rfl, hy5, hn5, hr5, hf5⟩
                              have HY5 := Lib.hid hy5
                              have HR5 := Lib.hid hr5
                              have HF5 := Lib.hid hf5
                              have HB5 : Hid (Below B2 w8 w5) := by first | exact HBB.out.drew.trans ((HRB.out.fr ((Fr.refl [] wb).drew)).below hf5) | exact HB4.out.trans (((HRB.out.fr ((Fr.refl [] wb).drew)).fr HN4.out.2.1).below hf5)
                              have hc3' : w5.cell? ⟨gb, 3, none⟩ = some (Value.slice v.A v.m v.c) := by first | exact hf5.cell (a := wb.drew) hc3 (by simp; omega) | exact hf5.cell hc3'' (by simp; omega)
                              clear hy5 hn5 hr5 hf5))
                  | (go_at_call 11
                     go_must (refine (cut_any v.A v.m v.c 90 v.b _ (by first | exact HOKB.out.b.drew | exact (HOK0.out.old (HBel8.out.trans (HB5.out.mono hwB))).b) (Nat.le_trans HOKB.out.m HOKB.out.c) HOKB.out.m (by omega)).mono ?_
                              rw [HBB90.out]
                              rintro e w4 ⟨A4, c4, rfl, hN4⟩
                              have HN4 := Lib.hid hN4
                              have HB4 : Hid (Below B2 w8 w4) := by first | exact HBB.out.drew.trans (hN4.2.1.nil_below (Nat.le_trans (Nat.le_of_lt (Nat.lt_of_le_of_lt hB2g HRB.out.le.2.1)) (Nat.le_refl _))) | exact HB5.out.trans (hN4.2.1.nil_below HR5.out.le.2.2)
                              have hc3'' : w4.cell? ⟨gb, 3, none⟩ = some (Value.slice v.A v.m v.c) := by first | exact hN4.2.1.cell (a := wb.drew) hc3 (by simp) | exact hN4.2.1.cell hc3' (by simp)
                              clear hN4))
                  | (go_at_call 19
                     go_must (refine (same_any A5 A4 _ _ c5 c4 (rwV R 100) b90 _ (by first | exact HY5.out | exact HY5.out.keep HN4.out.2.1 (by simp)) (by first | exact HN4.out.by | exact HN4.out.by.keep HF5.out (fun a ha hm => by have h1 : wb.heap.size ≤ a.block := HN4.out.2.2 a.block (by simp [bk, ha]); have h2 := HRB.out.le.2.1; simp at hm; omega)) (by have := rwV_len R 100; have := HRL.out; omega)).mono ?_
                              rintro e w6 ⟨rfl, k6, rfl⟩)))
                all_goals
                  go_wp2_with fail
                  go_meet
                  refine ⟨_, _, _, rfl, fun hz => (by rw [HV.out hz]; simp), ?_, HS.out, by have := HL'.out; have := HRL.out; omega, ?_⟩
                  · first
                    | exact HR5.out.fr ((Fr.refl [] _).drewN _)
                    | exact (HR5.out.fr HN4.out.2.1).fr ((Fr.refl [] _).drewN _)
                  · first
                    | exact HB5.out.trans (((Fr.refl [] _).drewN _).nil_below HR5.out.le.2.2)
                    | exact HB4.out.trans (((Fr.refl [] _).drewN _).nil_below (Nat.le_trans HR5.out.le.2.2 HN4.out.2.1.size))
              · rw [hab, if_neg (by omega), if_neg (by omega), if_neg (by omega)] at HS0
                obtain ⟨hv, hs, hl'⟩ := step_hash HOKB.out.h HS0.out
                have HV := Lib.hid hv
                have HS := Lib.hid hs
                have HL' := Lib.hid hl'
                obtain ⟨h32, hag⟩ := has32_of (w := wb.drew) HOKB.out.h HC4.out
                have heqh := hash_eql (hashOf R) v.h (hashOf_len R) HOKB.out.h
                generalize hH1 : ((hashOf R).map by8).toArray = H1 at *
                generalize hH2 : (v.h.map by8).toArray = H2 at *
                have HH1 := Lib.hid hH1
                have HH2 := Lib.hid hH2
                rw [hq]
                clear hab hv hs hl' hq hH1 hH2
                go_wp2
                go_region_with (first
                  | (go_at_call 25
                     go_must (refine (rhash_s (B := B2) (R := R) (bad := bad) (HRB.out.fr ((Fr.refl [] wb).drew)) (by have := HRL.out; omega)).mono ?_
                              rw [HH1.out]
                              rintro e w5 ⟨rfl, hr5, hf5⟩
                              obtain ⟨h32', hag'⟩ := has32_of (w := w5) HOKB.out.h (fun j x hx => hf5.cell (a := wb.drew) (HC4.out j x hx) (by rw [add_block]; simp; omega))
                              rw [HH2.out] at hag'
                              have HR5 := Lib.hid hr5
                              have HB5 := Lib.hid (HBB.out.drew.trans ((HRB.out.fr ((Fr.refl [] wb).drew)).below hf5))
                              clear hr5 hf5)))
                all_goals
                  go_wp2_with fail
                  go_meet
                  exact ⟨_, _, _, rfl, fun hz => (by rw [HV.out hz]; simp), HR5.out, HS.out, by have := HL'.out; have := HRL.out; omega, HB5.out⟩
            case rest =>
              obtain ⟨okb, R', bad', rfl, hzo, hr', hst', hrl', hbel'⟩ := hcut
              have HR' := Lib.hid hr'
              have HST' := Lib.hid hst'
              have HRL' := Lib.hid hrl'
              have HBEL' := Lib.hid hbel'
              have hoz : okb = true ∨ (okb = false ∧ z = false) := by
                cases okb
                · cases z
                  · exact .inr ⟨rfl, rfl⟩
                  · exact absurd (hzo rfl) (by decide)
                · exact .inl rfl
              clear hr' hst' hrl' hbel' hzo
              rcases hoz with rfl | ⟨rfl, hzf⟩
              · go_wp2
                go_roundw
                case rel => exact ⟨k + 1, R', bad', by omega, by omega, by go_num, HR'.out, HST'.out, HRL'.out, HBEL'.out⟩
                case measure => simp [intOf]; omega
              · have hr1' : ((rd : Int) == 0) = false := by rw [hr1, hzf]
                clear hr1 hzf
                go_wp2
                go_roundw
                case rel => exact ⟨k + 1, R', bad', by omega, by omega, by go_num, HR'.out, HST'.out, HRL'.out, HBEL'.out⟩
                case measure => simp [intOf]; omega
          · have hkx : (n : Int) ≤ k ∨ (12 : Int) ≤ k := by omega
            have hkm : M.drop k = [] := by
              apply List.drop_eq_nil_of_le
              rw [← HM.out, List.length_take, HL.out.1]
              omega
            have hend := HST2.out
            rw [hkm] at hend
            obtain ⟨rfl, rfl⟩ := Rst.end_ hend
            clear hkm hend
            have HW7 := Lib.hid (HLo8.out.below HBEL.out)
            have hgle := HR.out.le
            have hpos : 0 ≤ cut % bs.length ∨ bs.length = 0 := by
              rcases Nat.eq_zero_or_pos bs.length with h | h
              · exact .inr h
              · exact .inl (Int.emod_nonneg _ (by omega))
            cases z
            all_goals
              rcases hkx with hkx | hkx
              all_goals
                go_wp2_with fail
                all_goals
                  refine (ok_b HR.out).mono ?_
                  rintro e wx ⟨rfl, rfl⟩
                  go_wp2_with fail
                  refine (left_b HR.out).mono ?_
                  rintro e wx ⟨rfl, rfl⟩
                  by_cases hb0 : bs.length = 0
                  · go_wp2_with fail
                    refine (wakes_any wr).mono ?_
                    rintro e w9 ⟨rfl, hf9⟩
                    have HF9 := Lib.hid hf9
                    clear hf9
                    go_wp2
                    go_ret
                    exact ⟨rfl, Fr.of_below (HBW.out.trans (HF9.out.nil_below HBW.out.size)) (Nat.le_refl _)⟩
                  · have hb1 : 0 < bs.length := by omega
                    go_wp2_with fail
                    refine (within_pos cut bs.length HC.out.1 HC.out.2 (by omega) (by have := HBL.out; omega) wr).mono ?_
                    rintro e wx ⟨rfl, rfl⟩
                    obtain ⟨t, ht, htl⟩ : ∃ t : Nat, cut % (bs.length : Int) = (t : Int) ∧ t < bs.length := by
                      have h1 := Int.emod_nonneg cut (show (bs.length : Int) ≠ 0 by omega)
                      have h2 := Int.emod_lt_of_pos cut (show (0 : Int) < bs.length by omega)
                      exact ⟨(cut % (bs.length : Int)).toNat, by omega, by omega⟩
                    rw [ht]
                    clear ht hpos
                    have htc : t ≤ c7 := by omega
                    have hlt' : (bs.take t).length = t := by rw [List.length_take]; omega
                    have HLT' := Lib.hid hlt'
                    have HTK := Lib.hid (HW7.out.1.take (k := t) (by omega))
                    clear hlt'
                    go_wp2
                    go_roundw
                    case rel =>
                      refine ⟨rd + 1, bs.take t, A7, c7, by go_num, by omega, by rw [HLT'.out], by rw [HLT'.out]; exact HTK.out, fun x hx => Nat.lt_of_lt_of_le (HLT7.out x hx) hgle.2.2, by rw [HLT'.out]; omega, HBW.out, ?_⟩
                      first
                        | (have hz0 : rd = 1 := HZ.out
                           exact .inr (.inr (by omega)))
                        | (have hz0 : rd = 0 := HZ.out
                           refine .inr (.inl ⟨by omega, t, ?_, ?_⟩)
                           · rcases HST.out with ⟨_, q, hq1, hq2, _⟩ | ⟨h, _⟩
                             · have := hq2 rfl
                               rw [hq1, List.length_take] at htl
                               omega
                             · cases h
                           · rcases HST.out with ⟨_, q, hq1, hq2, _⟩ | ⟨h, _⟩
                             · have := hq2 rfl
                               rw [hq1, this, List.take_length]
                             · cases h)
                    case measure => simp [intOf]; omega
      · go_wp2_with fail
        refine (wakes_any wr).mono ?_
        rintro e w9 ⟨rfl, hf9⟩
        have HF9 := Lib.hid hf9
        clear hf9
        go_wp2
        go_ret
        exact ⟨rfl, Fr.of_below (HBEL7.out.trans (HF9.out.nil_below HBEL7.out.size)) (Nat.le_refl _)⟩

namespace codeBack
open Go.ChangeShapes Go.WideShapes Go.ChangeAt
open Go.ChangeMaps (open_string shut_string)
theorem own : ownKnob Try.prog.godebug = none := by kernel_rfl
set_option linter.unusedVariables false
set_option maxRecDepth 100000 in
set_option maxHeartbeats 2000000 in
theorem lifted (os : Os) (started : os.Started) (H : Type) (enc : TypeId × Value → H) :
    ReturnsInHanded {} Try.checked os 6 .any (Rows.codeBackSpec.pre6 enc Try.prog Try.f6 Rows.codeBackRow.domain false) (Rows.codeBackSpec.post enc Try.prog Try.f6 false true false false) := by
  refine returnsInHanded_of_change (C := Try.checked) own started (by kernel_rfl) Try.func6
    (ChangeSpec.witness6 (enc := enc) (C := Try.checked) false ⟨#[], #[.slice none 0 0, .int .i64 0], []⟩ 8 (by kernel_rfl) (by kernel_rfl) (by kernel_rfl) (by kernel_rfl)) ?_
  intro W base args ds gs before hval0 hW hcnd _
  have hval : ∀ (j : Nat) t v, Try.f6.params[j]? = some t → args[j]? = some v → Value.okWide Try.prog W .any base t v := hval0
  have hW' := hW
  obtain ⟨p, q, hA0, hV, rfl, hfz, hnd⟩ := hW
  have hA : DataW.TrodAll enc Try.prog W 0 (fun _ => true) true Try.f6.params.toList args.toList ds p := hA0
  rw [Try.params6] at hA hval
  obtain ⟨v0, vs0, d0, ds0, p0, q0, hargs, rfl, rfl, h0, r0⟩ := trodAll_cons hA
  obtain ⟨v1, vs1, d1, ds1, p1, q1, rfl, rfl, rfl, h1, r1⟩ := trodAll_cons r0
  obtain ⟨rfl, rfl, rfl⟩ := trodAll_nil r1
  obtain rfl : args = #[v0, v1] := by cases args; simp_all
  obtain ⟨rfl, rfl⟩ := trodVars_none hV
  obtain ⟨a0, len0, cap0, rfl⟩ := okWide_slice Try.underlying44 (hval 0 44 v0 rfl rfl)
  have k0 := h0
  have lt0 : ∀ x ∈ p0, x.block < W.heap.size := by obtain ⟨m, hm⟩ := k0; exact DataW.trod_lt m _ _ _ hm
  obtain ⟨l0, y0, c0, x0⟩ : ∃ l, Acts W a0 len0 l ∧ len0 ≤ cap0 ∧ cap0 ≤ maxLen := by
    obtain ⟨fuel, hf⟩ := h0
    exact acts_of_trod (by simpa [Value.cells] using hf)
  obtain ⟨a1, rfl, rfl, rfl, w1⟩ := open_int Try.underlying3 (hval 1 3 v1 rfl rfl) h1
  have b1 := i64_of w1
  clear hA0 hval0
  refine (back_walk W a0 len0 cap0 l0 y0 c0 x0 a1 b1.1 b1.2).mono fun e W' ⟨he, hg⟩ => ?_
  subst he
  have hb := hg.below_all
  exact ⟨_, rfl, _, _, _, [], _, [], hW', trodAll_mk1 (shut_bool Try.underlying4 _), (trodAll_cons_mk (Below.trod laidOut (by kernel_rfl) (of_decide_eq_true (by kernel_rfl)) k0 hb lt0) (trodAll_cons_mk (shut_int Try.underlying3 w1) trodAll_mk0)), rfl, hb.frame _, fun h => by cases h⟩
theorem over : Rows.codeBackRow.holds Try.pinned (OpenSpec.ofChange Rows.codeBackSpec) :=
  OpenClaim.holds_of_wide 6 Try.f6 rfl rfl rfl rfl rfl rfl rfl ⟨rfl, rfl, rfl, rfl, rfl⟩ rfl rfl rfl rfl rfl (by kernel_rfl) Try.func6 (by kernel_rfl)
    (of_decide_eq_true (by kernel_rfl)) (by unfold Func.isWrapper; first | (rw [if_pos (by decide +kernel)]; kernel_rfl) | (rw [if_neg (by decide +kernel)]; exact ⟨rfl, rfl⟩))
    (fun os started H enc _ => lifted os started H enc)
/-- the statement -/
theorem proved : Rows.CodeBackSaid := over
end codeBack
end Go.Proofs.Ytcnngdhjeihecaa
