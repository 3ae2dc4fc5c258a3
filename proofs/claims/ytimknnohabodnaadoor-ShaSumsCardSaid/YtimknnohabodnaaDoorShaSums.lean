/- The walk of ShaSums. -/
import Derived.Test.YtimknnohabodnaaDoorShaRr
import Derived.Test.YtimknnohabodnaaDoorIntact
import Derived.Test.YtimknnohabodnaaDoorShaW
import Derived.Deep.CutBlock
namespace Go.Proofs.YtimknnohabodnaaDoor
open Go.RowKit

theorem make_v (v : Nat) (hn : v ≤ 1073741824) (w : World) : ∃ wa, (Instr.makeSlice 23 (.int .i64 v) (.int .i64 v)).run Tryd.prog w = .ok (.slice (some ⟨w.heap.size, 0, none⟩) v v) wa ∧
    Blk wa w.heap.size 5 ((List.replicate v (0 : UInt8)).map by8).toArray ∧ Fr [] w wa := by
  obtain ⟨i, hi0, hz0, hz1, hz2⟩ := info_parts info_u8
  have h := run_make (P := Tryd.prog) w 23 5 i _ Tryd.underlying23 hi0 hz0 .i64 .i64 v (v : Int) (by omega) (by omega) (by rw [hz2]; omega) (by omega)
  refine ⟨_, by rw [h, hz1, Nat.mul_one, madeCells_u8]; simp, Blk.new _ _ _, (Fr.refl [] w).alloc _⟩

theorem hash_self (xs : List UInt8) (hx : xs.length = 32) (w : World) :
    (Op.equalIn 10000 26 (.agg (xs.map by8).toArray) (.agg (xs.map by8).toArray)).run Tryd.prog w = .ok true w := by
  have h := hash_eql xs xs hx hx w
  simpa using h

set_option maxRecDepth 100000 in
set_option maxHeartbeats 20000000 in
theorem sums_walk (w : World) (A : Option Addr) (n c : Nat) (bs : List UInt8) (hb : By w A n bs) (hc : n ≤ c) (hx : c ≤ maxLen) (A' : Option Addr) (n' c' : Nat) (l : List RowV) (hl : RowsIn w A' n' l) (hc' : n' ≤ c') (hx' : c' ≤ maxLen)
    (m : Int) (h1 : -9223372036854775808 ≤ m) (h2 : m < 9223372036854775808) (hK : KW w) :
    Calls Tryd.prog 5 #[.slice A n c, .slice A' n' c', .int .i64 m] w fun e w' => e = .returned (.bool true) ∧ Fr [] w w' := by
  unfold maxLen at hx hx'
  have hnm : n' ≤ 9223372036854775807 := by omega
  have HL := Lib.hid hl
  have HM1 := Lib.hid h1
  have HM2 := Lib.hid h2
  have HK := Lib.hid hK
  have HB := Lib.hid hb
  have hnx : n ≤ maxLen := by unfold maxLen; omega
  have HN := Lib.hid (And.intro hnx hc)
  clear hl hx hc hx' hc' h1 h2 hK hb hnx
  go_enter Tryd.func5, Tryd.ntmps5
  go_wp2_with fail
  rw [show (300 : Int) = ((300 : Nat) : Int) from rfl]
  refine (cut_any A n c 300 bs w HB.out HN.out.1 HN.out.2 (by omega)).mono ?_
  rintro e w1 ⟨A1, c1, rfl, hN1⟩
  have h300 : (bs.take 300).length ≤ 300 := List.length_take_le _ _
  generalize bs.take 300 = b1 at *
  have HN1 := Lib.hid hN1
  have H300 := Lib.hid h300
  clear hN1 h300
  go_upto_if 14 with (fail)
  go_cut [0] (fun s0 wx => ∃ (A1 : Option Addr) (c1 : Nat) (B : List UInt8), s0 = .slice A1 B.length c1 ∧ By wx A1 B.length B ∧ B.length ≤ 300 ∧ (∀ y ∈ bk A1, w.heap.size ≤ y) ∧ Fr [] w wx)
  case first =>
    by_cases hm3 : m.tmod 3 = 0
    · have hd : (m.tmod 3 == 0) = true := by simp [hm3]
      have hv0 : 0 ≤ m % 200 := Int.emod_nonneg _ (by omega)
      have hv1 : m % 200 < 200 := Int.emod_lt_of_pos _ (by omega)
      obtain ⟨v, hv⟩ : ∃ v : Nat, m % 200 = v := ⟨(m % 200).toNat, by omega⟩
      have hv2 : v < 200 := by omega
      obtain ⟨wa, hmk, hba, hfa⟩ := make_v v (by omega) w1
      have HMK := Lib.hid hmk
      have HBA := Lib.hid hba
      have HFA := Lib.hid hfa
      have HV := Lib.hid hv
      clear hmk hba hfa hv hv0 hv1 hm3
      go_wp2_with fail
      refine (within_pos m 200 HM1.out HM2.out (by omega) (by omega) _).mono ?_
      rw [HV.out]
      rintro e w2 ⟨rfl, rfl⟩
      have hmk := HMK.out
      have hvI : (v : Int) ≤ 9223372036854775807 := by omega
      go_wp2_with fail
      go_meet
      exact ⟨some ⟨w1.heap.size, 0, none⟩, v, List.replicate v 0, by rw [List.length_replicate], By.blk (List.replicate v 0) HBA.out rfl, by rw [List.length_replicate]; omega, by simp [bk]; exact HN1.out.2.1.size, HN1.out.2.1.trans HFA.out (by simp)⟩
    · have hd : (m.tmod 3 == 0) = false := by simp [hm3]
      clear hm3
      go_wp2_with fail
      go_meet
      exact ⟨A1, c1, b1, rfl, HN1.out.by, H300.out, HN1.out.2.2, HN1.out.2.1⟩
  case rest =>
    obtain ⟨A2, c2, B, rfl, hB, hBl, hBk, hF⟩ := hcut
    obtain ⟨wB, hwB⟩ : ∃ wB, wB = wc := ⟨_, rfl⟩
    subst hwB
    have HB2 := Lib.hid hB
    have HB300 := Lib.hid hBl
    have HBK := Lib.hid hBk
    have HF2 := Lib.hid hF
    clear hB hBl hBk hF HN1 H300 HB HN
    go_upto_block 0 with (fail)
    go_cut [7, 8] (fun s7 _ wr => ∃ (k : Nat) (A7 : Option Addr) (c7 : Nat) (rs : List RowV), k ≤ 6 ∧ s7 = .slice A7 k c7 ∧ rs.length = k ∧ (∀ r ∈ rs, r.n ≤ 80) ∧ wr.ownsRow 0 23 1 (.slice A7 k c7) k (rs.map RowV.val) ∧ RowsOk wr [] rs ∧ Fr [] wB wr)
    case first =>
      go_wp2_with fail
      go_loopw [7, 8] (fun s7 i wr => ∃ (k : Nat) (A7 : Option Addr) (c7 : Nat) (rs : List RowV), k ≤ 6 ∧ i = .int .i64 k ∧ s7 = .slice A7 k c7 ∧ rs.length = k ∧ (∀ r ∈ rs, r.n ≤ 80) ∧ wr.ownsRow 0 23 1 (.slice A7 k c7) k (rs.map RowV.val) ∧ (∀ y ∈ bk A7, wB.heap.size ≤ y) ∧ RowsOk wr [] rs ∧ Fr [] wB wr) (fun _ i _ => 6 - (intOf i).toNat)
      case atStart => exact ⟨0, none, 0, [], by omega, rfl, rfl, rfl, by simp, ⟨rfl, .inl ⟨rfl, rfl⟩⟩, by simp [bk], by intro r hr; simp at hr, Fr.refl _ _⟩
      case round =>
        obtain ⟨k, A7, c7, rs, hk6, rfl, rfl, hrl, hrn, ho, hbk, hok, hf⟩ := hrel
        have HRL := Lib.hid hrl
        have HRN := Lib.hid hrn
        have HO := Lib.hid ho
        have HBK7 := Lib.hid hbk
        have HOK := Lib.hid hok
        have HF := Lib.hid hf
        clear hrl hrn ho hbk hok hf
        by_cases hlt : k < n' ∧ k < 6
        · obtain ⟨hkn, hk2⟩ := hlt
          obtain ⟨ad, r, rfl, hg, hy, hrc, hrm, hcell⟩ := HL.out.at (HF2.out.and HF.out (by simp)).below_all hkn
          have HY := Lib.hid hy
          have HRC := Lib.hid (And.intro hrc hrm)
          have hk0 : (0 : Int) ≤ k := by omega
          clear hg hy hrc hrm
          go_wp2_with fail
          rw [show (80 : Int) = ((80 : Nat) : Int) from rfl]
          refine (cut_any r.A r.n r.c 80 r.b wr HY.out (Nat.le_trans HRC.out.1 HRC.out.2) HRC.out.1 (by omega)).mono ?_
          rintro e w3 ⟨A3, c3, rfl, hN3⟩
          have h80 : (r.b.take 80).length ≤ 80 := List.length_take_le _ _
          generalize r.b.take 80 = b at *
          have HN3 := Lib.hid hN3
          have H80 := Lib.hid h80
          clear hN3 h80
          go_wp2_with (at_builtin; refine Stop.mk ?_)
          have HO3 := Lib.hid (own_keep HO.out HN3.out.2.1 (by simp))
          have HOK3 := Lib.hid (HOK.out.keep (S' := []) HN3.out.2.1 (by simp) (fun y hy _ => hy))
          have HF3 := Lib.hid (HF.out.and HN3.out.2.1 (by simp))
          refine Stop.go ?_
          refine wpList_append_vals _ rfl (.tmp 28) (.tmp 34) _ rfl 23 (.slice none 0 0) 24 Tryd.underlying22 info_row rfl (.slice A7 k c7) k _ rfl (HO3.out.alloc _) ⟨w3.heap.size, 0, none⟩ 1
            (.slice A3 b.length c3) rfl ?_ rfl (by omega) (by omega) ?_
          · exact (Blk.new w3 23 #[Value.slice A3 b.length c3]).cell 0
          intro A9 c9 w6 ho9 hg9 hat9
          have hf36 : Fr (bk A7) w3 w6 := (((Fr.refl [] w3).alloc _).mono (by simp)).grown hg9 (fun y hy _ => by rw [bk_mem] at hy; exact hy)
          have HR6 := Lib.hid (own_keep HN3.out.1 hf36 (fun y hy hm => rows_apart HO3.out HN3.out.1 y hm (by rw [bk_mem] at hy; exact hy)))
          have HOK6 := Lib.hid (HOK3.out.keep (S' := []) hf36 (fun r hr y hy hm => rows_apart HO3.out (HOK3.out r hr).1 y hm hy) (fun y hy _ => hy))
          have HOK7 : Hid (RowsOk w6 [] (rs ++ [RowV.mk A3 b.length c3 b])) := Lib.hid (by
            intro r hr
            rcases List.mem_append.1 hr with hr | hr
            · exact HOK6.out r hr
            · simp at hr
              subst hr
              exact ⟨HR6.out, by simp⟩)
          have HO9 : Hid (w6.ownsRow 0 23 1 (.slice A9 (k + 1) c9) (k + 1) ((rs ++ [RowV.mk A3 b.length c3 b]).map RowV.val)) := Lib.hid (by simpa [RowV.val] using ho9)
          have HBK9 : Hid (∀ y ∈ bk A9, wB.heap.size ≤ y) := Lib.hid (by
            intro y hy
            have := HF3.out.size
            rcases hat9 with e | e
            · rw [e, bk_own] at hy; exact HBK7.out y hy
            · rw [e] at hy; simp at hy; omega)
          have HF9 := Lib.hid (HF3.out.and hf36 (fun y hy => HBK7.out y hy))
          clear ho9 hg9 hat9 hf36
          go_wp2
          go_roundw
          case rel =>
            refine ⟨k + 1, A9, c9, rs ++ [RowV.mk A3 b.length c3 b], by omega, by go_num, rfl, by simp [HRL.out], ?_, HO9.out, HBK9.out, HOK7.out, HF9.out⟩
            intro r hr
            rcases List.mem_append.1 hr with hr | hr
            · exact HRN.out r hr
            · simp at hr
              subst hr
              exact H80.out
          case measure => simp [intOf]; omega
        · by_cases hkn : k < n'
          · have hk2 : ¬ k < 6 := fun h => hlt ⟨hkn, h⟩
            go_wp2_with fail
            go_meet
            exact ⟨k, A7, c7, rs, hk6, rfl, HRL.out, HRN.out, HO.out, HOK.out, HF.out⟩
          · go_wp2_with fail
            go_meet
            exact ⟨k, A7, c7, rs, hk6, rfl, HRL.out, HRN.out, HO.out, HOK.out, HF.out⟩
    case rest =>
      obtain ⟨k, A7, c7, rs, hk6, rfl, hrl, hrn, ho, hok, hf⟩ := hcut
      have HRL := Lib.hid hrl
      have HRN := Lib.hid hrn
      have HO := Lib.hid ho
      have HOK := Lib.hid hok
      have HFc := Lib.hid (HF2.out.and hf (by simp))
      have HBc := Lib.hid (HB2.out.keep hf (by simp))
      have h300 := HB300.out
      clear hrl hrn ho hok hf HB2 HF2 HL
      go_wp2_with fail
      refine (lend_any A2 B.length c2 B wc HBc.out (by omega)).mono ?_
      rintro e w4 ⟨g, rfl, hbl, hgs, hf4⟩
      have HBL := Lib.hid hbl
      have HF4 := Lib.hid hf4
      clear hbl hgs hf4
      have hyx : ∀ W, Fr [] w4 W → By W (some ⟨g, 0, none⟩) B.length B := fun W hW => by
        have h := (By.blk (lent B) (HBL.out.keep hW (by simp)) rfl).take (k := B.length) (by rw [lent_len]; omega)
        rw [show (lent B).take B.length = B from List.take_left] at h
        exact h
      have HYX := Lib.hid hyx
      have hS := sumL_len B
      have hq := hash_self (sumL B) hS
      have HQ := Lib.hid hq
      clear hyx hq
      go_wp2_with fail
      refine (sum_any (some ⟨g, 0, none⟩) B.length (B.length + 3) B w4 (HYX.out w4 (Fr.refl _ _)) (by omega) (by omega) (HK.out.keep (HFc.out.and HF4.out (by simp)) (by simp))).mono ?_
      rintro e w5 ⟨rfl, hf5⟩
      have HF5 := Lib.hid (HF4.out.and hf5 (by simp))
      have HBL5 := Lib.hid (HBL.out.keep hf5 (by simp))
      clear hf5 HBL HF4 HYX
      have href := refsum_any A2 B.length c2 B w5 (HBc.out.keep HF5.out (by simp)) (by omega)
      have hq := HQ.out
      have HREF := Lib.hid href
      clear href
      generalize ((sumL B).map by8).toArray = H at *
      go_wp2_with fail
      refine HREF.out.mono ?_
      rintro e w6 ⟨rfl, hf6⟩
      have HF6 := Lib.hid (HF5.out.and hf6 (by simp))
      have HBL6 := Lib.hid (HBL5.out.keep hf6 (by simp))
      clear hf6 HF5 HBL5 HREF
      go_wp2_with fail
      refine (intact_any A2 g B.length c2 B w6 (HBc.out.keep HF6.out (by simp)) HBL6.out (by omega)).mono ?_
      rintro e w7 ⟨rfl, q7, rfl⟩
      have HF7 := Lib.hid (HF6.out.drewN q7)
      clear HF6 HBL6 HQ hq
      generalize w6.drewN q7 = w7 at *
      have hrw : ∀ W, Fr [] wc W → RwsIn W A7 k rs := fun W hW => rws_of_own HRL.out (by omega) (fun r hr => Nat.le_trans (HRN.out r hr) (by omega)) (own_keep HO.out hW (by simp)) (HOK.out.keep (S' := []) hW (by simp) (fun y hy _ => hy))
      have HRW := Lib.hid hrw
      have hK7 := HK.out.keep (HFc.out.and HF7.out (by simp)) (by simp)
      have hsr := sharows_any A7 k c7 rs w7 (HRW.out w7 HF7.out) hK7
      have hrr := fun W (hW : Fr [] wc W) => refrows_any A7 k c7 rs W (HRW.out W hW)
      have hq2 := hash_self (sumL (enc k ++ encRw (rs.map (·.b)))) (sumL_len _)
      generalize ((sumL (enc k ++ encRw (rs.map (·.b)))).map by8).toArray = H2 at *
      have HSR := Lib.hid hsr
      have HRR := Lib.hid hrr
      clear hrw hsr hrr hK7
      go_wp2_with fail
      refine HSR.out.mono ?_
      rintro e w8 ⟨rfl, hf8⟩
      have HF8 := Lib.hid (HF7.out.and hf8 (by simp))
      clear hf8
      go_wp2_with fail
      refine (HRR.out w8 HF8.out).mono ?_
      rintro e w9 ⟨rfl, hf9⟩
      have HF9 := Lib.hid (HF8.out.and hf9 (by simp))
      clear hf9
      go_wp2_with fail
      refine (shawakes_any w9 (HK.out.keep (HFc.out.and HF9.out (by simp)) (by simp))).mono ?_
      rintro e wz ⟨rfl, hfz⟩
      have HFZ := Lib.hid (HF9.out.and hfz (by simp))
      clear hfz
      go_wp2
      go_ret
      exact ⟨rfl, HFc.out.and HFZ.out (by simp)⟩
end Go.Proofs.YtimknnohabodnaaDoor
