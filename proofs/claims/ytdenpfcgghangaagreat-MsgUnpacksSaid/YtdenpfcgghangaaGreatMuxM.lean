/- MsgUnpacks: the walk. -/
import Derived.Test.YtdenpfcgghangaaGreatKQ8
import Derived.Test.YtdenpfcgghangaaGreatLend
import Derived.Test.YtdenpfcgghangaaGreatOpen
import Derived.Test.YtdenpfcgghangaaGreatActs
set_option linter.unusedSimpArgs false
set_option linter.unusedVariables false
namespace Go.Proofs.YtdenpfcgghangaaGreat
open Go.RowKit
set_option maxRecDepth 100000
theorem kmsg_conL (x y : Wmg) (w : World) (hx : x.Li w []) (hy : y.Li w []) (e : x.con = y.con) (C D : List Value) (hC : x.cells = C) (hD : y.cells = D) :
  Calls Tryz.prog 12 #[.agg C.toArray, .agg D.toArray] w fun e w' => e = .returned (.bool true) ∧ Fr [] w w' := by
 refine (kmsg_any x y w hx hy (congrArg Cmg.q e) (congrArg Cmg.cm e) (congrArg Cmg.st e) (congrArg Cmg.ce e) (congrArg Cmg.ak e) (congrArg Cmg.pr e) (congrArg Cmg.po e) (congrArg Cmg.op e) (congrArg Cmg.dn e) (congrArg Cmg.rp e) (congrArg Cmg.de e) C D hC hD).mono ?_
 rintro e_ w' ⟨b, rfl, hb, hf⟩
 rw [hb.2 ⟨congrArg Cmg.f e, congrArg Cmg.t e, congrArg Cmg.e e, congrArg Cmg.r e, congrArg Cmg.tm e, congrArg Cmg.vt e, congrArg Cmg.i e, congrArg Cmg.en e⟩]
 exact ⟨rfl, hf⟩
theorem NewB.nil_ {w w' : World} (hf : Fr [] w w') : NewB w w' none 0 0 [] := ⟨⟨by simp, .inl ⟨rfl, rfl⟩⟩, hf, by simp [bk]⟩
set_option maxHeartbeats 8000000 in
theorem msgUnpacks_walk (w : World) (x : Wmg) (hx : x.In w) (A : Option Addr) (n d : Nat) (l : List UInt8) (hy : By w A n l) (hnd : n ≤ d) (hd : d ≤ maxLen)
  (how : Int) (hh1 : -9223372036854775808 ≤ how) (hh2 : how < 9223372036854775808) (at_ : Int) (ha1 : -9223372036854775808 ≤ at_) (ha2 : at_ < 9223372036854775808) (ch : UInt8) :
  Calls Tryz.prog 3 #[x.val, .slice A n d, .int .i64 how, .int .i64 at_, .int .u8 (ch.toNat : Int)] w fun e w' => e = .returned (.bool true) ∧ Fr [] w w' := by
 unfold Wmg.val
 obtain ⟨C, hC⟩ : ∃ C, x.cells = C := ⟨_, rfl⟩
 rw [hC]
 obtain ⟨wa, hwa⟩ : ∃ wa, wa = w.alloc (Obj.cells C.toArray 61) := ⟨_, rfl⟩
 have hf0 : Fr [] w wa := by rw [hwa]; exact (Fr.refl [] w).alloc _
 have hb0 : Blk wa w.heap.size 61 C.toArray := by rw [hwa]; exact Blk.new _ _ _
 have hlx : x.Len := ⟨hx.cm.h, hx.st.h, hx.ce.k.h, hx.ak.h, hx.vt.h, hx.en.h, hx.op.h⟩
 have HCL : Hid (C.length = 295) := Lib.hid (by rw [← hC]; exact Wmg.lenz hlx)
 have HX := Lib.hid hx
 have HC := Lib.hid hC
 have HR0 : Hid (wa.rangeAt w.heap.size 0 C) := Lib.hid hb0.range
 have HF0 := Lib.hid hf0
 have HWA := Lib.hid hwa
 have HY0 := Lib.hid (hy.keep hf0 (by simp))
 have HND := Lib.hid (And.intro hnd hd)
 have HHO := Lib.hid (And.intro hh1 hh2)
 have HAT := Lib.hid (And.intro ha1 ha2)
 clear hx hC hb0 hf0 hwa hlx hy hnd hd hh1 hh2 ha1 ha2
 go_enter Tryz.func3, Tryz.ntmps3
 go_upto_region 1 with (fail)
 change Code.wp _ _ _ _ (w.alloc (Obj.cells C.toArray 61))
 rw [← HWA.out]
 go_wp2_with (refine wpList_load_mid rfl 61 _ rfl w.heap.size 0 rfl C _ HR0.out Tryz.underlying61 rfl (row_msg.of HCL.out).2 ?_)
 refine (msmall_ex x wa (Wmg.In.keepM HX.out HF0.out) C HC.out).mono ?_
 rintro e_ w1 ⟨xs, rfl, hv, hxs, hf1⟩
 have HXS : Hid (xs.Ok w1 []) := Lib.hid (hxs _ (by simp))
 have HVB := Lib.hid hv
 have HF1 := Lib.hid (HF0.out.and hf1 (by simp))
 have HY1 := Lib.hid (HY0.out.keep hf1 (by simp))
 obtain ⟨E, hE⟩ : ∃ E, E = xs.cells := ⟨_, rfl⟩
 have HE := Lib.hid hE
 rw [← hE]
 clear hv hxs hf1 hE HR0 HWA HY0
 go_wp2_with fail
 refine (refpack_any xs w1 HXS.out HVB.out E HE.out.symm).mono ?_
 intro e_ w2 h
 have h2 : ∃ (A1 : Option Addr) (n1 c1 : Nat) (l1 : List UInt8) (b : Bool), e_ = .returned (.tuple #[.slice A1 n1 c1, .bool b]) ∧ NewB w1 w2 A1 n1 c1 l1 ∧ n1 ≤ 15030 := by
  unfold PackPost at h
  by_cases hm : 1 ≤ xs.q ∧ xs.q ≤ 14
  · rw [if_pos hm] at h
    obtain ⟨A1, c1, h, hN⟩ := h
    exact ⟨A1, _, c1, _, true, h, hN, Wmg.bytes_len HXS.out⟩
  · rw [if_neg hm] at h
    exact ⟨none, 0, 0, [], false, h.1, NewB.nil_ h.2, by omega⟩
 clear h
 obtain ⟨A1, n1, c1, l1, b1, rfl, hN, hn1⟩ := h2
 have HN := Lib.hid hN
 have HN1 := Lib.hid hn1
 have HY2 := Lib.hid (HY1.out.keep hN.2.1 (by simp))
 have HF2 := Lib.hid (HF1.out.and hN.2.1 (by simp))
 clear hN hn1 HY1
 go_wp2_with fail
 refine (within_pos how 5 HHO.out.1 HHO.out.2 (by omega) (by omega) _).mono ?_
 rintro e wx ⟨rfl, rfl⟩
 go_upto_block 0 with (fail)
 go_cut [11] (fun s11 wx => ∃ (A : Option Addr) (n c : Nat) (l : List UInt8), s11 = .slice A n c ∧ Hid (By wx A n l) ∧ Hid (n ≤ 15031) ∧ Hid (Fr [] w wx))
 case first =>
  obtain hq | hq | hq | hq | hq : how % 5 = 1 ∨ how % 5 = 2 ∨ how % 5 = 3 ∨ how % 5 = 4 ∨ ¬ (how % 5 = 1 ∨ how % 5 = 2 ∨ how % 5 = 3 ∨ how % 5 = 4) := by omega
  · have hq1 : (how % 5 == 1) = true := by simp [hq]
    clear hq
    by_cases hz : 0 < n1
    · have hz0 : (0 : Int) < n1 := by omega
      have hn0 : (n1 : Int) ≤ 15030 := by have := HN1.out; omega
      go_wp2_with fail
      refine (within_pos at_ n1 HAT.out.1 HAT.out.2 (by omega) (by omega) _).mono ?_
      rintro e w3 ⟨rfl, rfl⟩
      obtain ⟨q, hq, hqn⟩ : ∃ q : Nat, at_ % (n1 : Int) = (q : Int) ∧ q < n1 := by
       have h1 : 0 ≤ at_ % (n1 : Int) := Int.emod_nonneg _ (by omega)
       have h2 : at_ % (n1 : Int) < n1 := Int.emod_lt_of_pos _ (by omega)
       exact ⟨(at_ % (n1 : Int)).toNat, by omega, by omega⟩
      rw [hq]
      clear hq
      obtain ⟨ad, bq, rfl, hlq, hc0, hz1, hst⟩ := own_store HN.out.1 hqn
      obtain ⟨y, hyx⟩ := xor_any bq ch
      obtain ⟨ho3, hf3⟩ := hst (y.toNat : Int) y rfl
      have HO3 := Lib.hid ho3
      have HF3 := Lib.hid hf3
      have hbk : ∀ k ∈ bk (some ad), w1.heap.size ≤ k := HN.out.2.2
      have HBK := Lib.hid hbk
      have hq0 : (0 : Int) ≤ q := by omega
      have hqn' : (q : Int) < n1 := by omega
      clear hlq hst ho3 hf3 hbk hqn
      go_wp2_with fail
      all_goals
       go_meet
       exact ⟨some ad, n1, c1, _, rfl, Lib.hid (By.of_own HO3.out), Lib.hid (by have := HN1.out; omega), Lib.hid ((HF1.out.and HN.out.2.1 (by simp)).trans HF3.out (fun k hk hl => by have h1 := HBK.out k hk; have h2 := HF1.out.size; omega))⟩
    · have hz0 : ¬ (n1 : Int) > 0 := by omega
      have hz2 : ¬ (0 : Int) < n1 := by omega
      go_wp2_with fail
      all_goals
       go_meet
       exact ⟨A1, n1, c1, l1, rfl, Lib.hid HN.out.by, Lib.hid (by have := HN1.out; omega), HF2⟩
  · have hq1 : (how % 5 == 1) = false := by simp [hq]
    have hq2 : (how % 5 == 2) = true := by simp [hq]
    have hn0 : (n1 : Int) ≤ 15030 := by have := HN1.out; omega
    have hw : wrap64 ((n1 : Int) + 1) = (n1 : Int) + 1 := by unfold wrap64; omega
    clear hq
    go_wp2_with fail
    refine (within_pos at_ ((n1 : Int) + 1) HAT.out.1 HAT.out.2 (by omega) (by omega) _).mono ?_
    rintro e w3 ⟨rfl, rfl⟩
    obtain ⟨q, hq, hqn⟩ : ∃ q : Nat, at_ % ((n1 : Int) + 1) = (q : Int) ∧ q ≤ n1 := by
     have h1 : 0 ≤ at_ % ((n1 : Int) + 1) := Int.emod_nonneg _ (by omega)
     have h2 : at_ % ((n1 : Int) + 1) < (n1 : Int) + 1 := Int.emod_lt_of_pos _ (by omega)
     exact ⟨(at_ % ((n1 : Int) + 1)).toNat, by omega, by omega⟩
    rw [hq]
    clear hq hw
    have hq0 : (0 : Int) ≤ q := by omega
    have hqc : (q : Int) ≤ c1 := by have := HN.out.cap; omega
    have HQN := Lib.hid hqn
    clear hqn
    go_wp2_with fail
    all_goals
     go_meet
     exact ⟨A1, q, c1, l1.take q, rfl, Lib.hid (HN.out.by.take HQN.out), Lib.hid (by have := HN1.out; have := HQN.out; omega), HF2⟩
  · have hq1 : (how % 5 == 1) = false := by simp [hq]
    have hq2 : (how % 5 == 2) = false := by simp [hq]
    have hq3 : (how % 5 == 3) = true := by simp [hq]
    clear hq
    go_wp2_with (at_builtin; refine Stop.mk ?_)
    refine Stop.go ?_
    refine wpList_append_bytes _ rfl _ _ _ rfl 5 Tryz.underlying52 info_u8 (.slice A1 n1 c1) n1 l1 rfl (HN.out.1.alloc _) (some ⟨w2.heap.size, 0, none⟩) 1 1 [ch] rfl
     (By.one (Blk.new _ _ _) rfl) (by have := HN1.out; omega) ?_
    intro A3 c3 w3 ho3 hg3 hat3
    have hlen : l1.length = n1 := HN.out.by.1
    have hfr : Fr [] w1 w3 := (HN.out.2.1.alloc _).grown hg3 (fun k hk hl => by have h1 := HN.out.2.2 k ((bk_mem A1 n1 c1 k).1 hk); omega)
    have HY3 : Hid (By w3 A3 (n1 + 1) (l1 ++ [ch])) := Lib.hid (By.of_own ho3)
    have HF3 : Hid (Fr [] w w3) := Lib.hid (HF1.out.and hfr (by simp))
    clear ho3 hg3 hat3 hlen hfr
    go_wp2_with fail
    all_goals
     go_meet
     exact ⟨A3, n1 + 1, c3, _, rfl, HY3, Lib.hid (by have := HN1.out; omega), HF3⟩
  · have hq1 : (how % 5 == 1) = false := by simp [hq]
    have hq2 : (how % 5 == 2) = false := by simp [hq]
    have hq3 : (how % 5 == 3) = false := by simp [hq]
    have hq4 : (how % 5 == 4) = true := by simp [hq]
    clear hq
    go_wp2_with fail
    rw [show (300 : Int) = ((300 : Nat) : Int) from rfl]
    refine (cut_any A n d 300 l w2 HY2.out (Nat.le_trans HND.out.1 HND.out.2) HND.out.1 (by omega)).mono ?_
    rintro e w3 ⟨A3, c3, rfl, hN3⟩
    have HN3 := Lib.hid hN3
    have hln : (l.take 300).length ≤ 300 := List.length_take_le _ _
    generalize l.take 300 = fl at *
    have HLN := Lib.hid hln
    clear hN3 hln
    go_wp2_with fail
    all_goals
     go_meet
     exact ⟨A3, _, c3, fl, rfl, Lib.hid HN3.out.by, Lib.hid (by have := HLN.out; omega), Lib.hid (HF2.out.and HN3.out.2.1 (by simp))⟩
  · have hq1 : (how % 5 == 1) = false := by simp; omega
    have hq2 : (how % 5 == 2) = false := by simp; omega
    have hq3 : (how % 5 == 3) = false := by simp; omega
    have hq4 : (how % 5 == 4) = false := by simp; omega
    clear hq
    go_wp2_with fail
    all_goals
     go_meet
     exact ⟨A1, n1, c1, l1, rfl, Lib.hid HN.out.by, Lib.hid (by have := HN1.out; omega), HF2⟩
 case rest =>
  obtain ⟨B, m, c, bs, rfl, HYB, HNB, HFB⟩ := hcut
  rename World => wy
  clear HN HN1 HY2 HF2 HF1 HXS HVB HE HX HC HCL HF0 HND HHO HAT
  go_wp2_with fail
  refine (lend_any B m c bs wy HYB.out (by have := HNB.out; omega)).mono ?_
  rintro e_ w3 ⟨g, rfl, hbl, hg, hf3⟩
  have HBL := Lib.hid hbl
  have HG := Lib.hid hg
  have HYB3 := Lib.hid (HYB.out.keep hf3 (by simp))
  have HF3 := Lib.hid (HFB.out.and hf3 (by simp))
  have HYX : Hid (By w3 (some ⟨g, 0, none⟩) m bs) := Lib.hid (by
   have h := (By.blk (lent bs) hbl rfl).take (k := bs.length) (by rw [lent_len]; omega)
   unfold lent at h
   rw [List.take_left] at h
   rw [← HYB.out.1]
   exact h)
  clear hbl hg hf3
  go_wp2_with fail
  refine (munpack_any (some ⟨g, 0, none⟩) m (m + 3) bs w3 HYX.out (by have := HNB.out; omega)).mono ?_
  rintro e_ w4 ⟨y, rfl, hcy, hly, hiy, hf4⟩
  have HCY := Lib.hid hcy
  have HIY : Hid (y.Li w4 []) := Lib.hid (hiy [] (by simp))
  have HLY := Lib.hid hly
  have HB4 := Lib.hid (HBL.out.keep hf4 (by simp))
  have HYB4 := Lib.hid (HYB3.out.keep hf4 (by simp))
  have HF4 := Lib.hid (HF3.out.and hf4 (by simp))
  obtain ⟨V, hV⟩ : ∃ V, V = y.cells := ⟨_, rfl⟩
  have HVE := Lib.hid hV
  have HVL : Hid (V.length = 295) := Lib.hid (by rw [hV]; exact Wmg.lenz hly)
  have HVO : Hid (V.toArray.all (·.oneCell') = true) := Lib.hid (by rw [hV]; exact all_oneCell_toArray (Wmg.one _))
  have HVS : Hid ((Tryz.prog.info? 61).map (·.size) = some V.toArray.size) := Lib.hid (by rw [List.size_toArray, HVL.out]; kernel_rfl)
  have HZ0 : Hid ((mz 0 0 0).cells.toArray.size = V.toArray.size) := Lib.hid (by rw [List.size_toArray, List.size_toArray, HVL.out, Wmg.lenz (mz_len 0 0 0)])
  have HBN : Hid (Blk (w4.alloc (Obj.cells (mz 0 0 0).cells.toArray 61)) w4.heap.size 61 (mz 0 0 0).cells.toArray) := Lib.hid (Blk.new _ _ _)
  rw [← hV]
  clear hV hcy hly hiy hf4
  go_upto_region 14 with (refine wpList_store_blk rfl 61 _ _ rfl w4.heap.size V.toArray rfl rfl 61 (mz 0 0 0).cells.toArray HBN.out HVS.out HZ0.out HVO.out ?_
                          intro w5 hb5 hf5)
  have HB5 := Lib.hid hb5
  have HF45 : Hid (Fr [] w4 w5) := Lib.hid (((Fr.refl [] w4).alloc _).trans hf5 (fun q hq hl => by simp at hq; omega))
  obtain ⟨gy, hgy⟩ : ∃ gy, gy = w4.heap.size := ⟨_, rfl⟩
  rw [← hgy] at HB5 ⊢
  clear hb5 hf5 hgy HBN
  have HYB5 := Lib.hid (HYB4.out.keep HF45.out (by simp))
  have HIY5 := Lib.hid (HIY.out.keep (S' := []) HF45.out (by simp))
  have HBL5 := Lib.hid (HB4.out.keep HF45.out (by simp))
  have HF5 := Lib.hid (HF4.out.and HF45.out (by simp))
  go_wp2_with fail
  refine (runpack_any B m c bs w5 HYB5.out (by have := HNB.out; omega)).mono ?_
  rintro e_ w6 ⟨z, rfl, hcz, hlz, hiz, hf6⟩
  have HCZ := Lib.hid hcz
  have HIZ : Hid (z.Li w6 []) := Lib.hid (hiz [] (by simp))
  have HYB6 := Lib.hid (HYB5.out.keep hf6 (by simp))
  have HIY6 := Lib.hid (HIY5.out.keep (S' := []) hf6 (by simp))
  have HBL6 := Lib.hid (HBL5.out.keep hf6 (by simp))
  have HB6 := Lib.hid (HB5.out.keep hf6 (by simp))
  have HF6 := Lib.hid (HF5.out.and hf6 (by simp))
  obtain ⟨U, hU⟩ : ∃ U, U = z.cells := ⟨_, rfl⟩
  have HUE := Lib.hid hU
  have HUL : Hid (U.length = 295) := Lib.hid (by rw [hU]; exact Wmg.lenz hlz)
  have HUO : Hid (U.toArray.all (·.oneCell') = true) := Lib.hid (by rw [hU]; exact all_oneCell_toArray (Wmg.one _))
  have HUS : Hid ((Tryz.prog.info? 61).map (·.size) = some U.toArray.size) := Lib.hid (by rw [List.size_toArray, HUL.out]; kernel_rfl)
  have HZU : Hid ((mz 0 0 0).cells.toArray.size = U.toArray.size) := Lib.hid (by rw [List.size_toArray, List.size_toArray, HUL.out, Wmg.lenz (mz_len 0 0 0)])
  have HBM : Hid (Blk (w6.alloc (Obj.cells (mz 0 0 0).cells.toArray 61)) w6.heap.size 61 (mz 0 0 0).cells.toArray) := Lib.hid (Blk.new _ _ _)
  rw [← hU]
  clear hU hcz hlz hiz hf6
  go_upto_region 15 with (refine wpList_store_blk rfl 61 _ _ rfl w6.heap.size U.toArray rfl rfl 61 (mz 0 0 0).cells.toArray HBM.out HUS.out HZU.out HUO.out ?_
                          intro w7 hb7 hf7)
  have HB7 := Lib.hid hb7
  have HF67 : Hid (Fr [] w6 w7) := Lib.hid (((Fr.refl [] w6).alloc _).trans hf7 (fun q hq hl => by simp at hq; omega))
  obtain ⟨gz, hgz⟩ : ∃ gz, gz = w6.heap.size := ⟨_, rfl⟩
  rw [← hgz] at HB7 ⊢
  clear hb7 hf7 hgz HBM
  have HYB7 := Lib.hid (HYB6.out.keep HF67.out (by simp))
  have HIY7 := Lib.hid (HIY6.out.keep (S' := []) HF67.out (by simp))
  have HIZ7 := Lib.hid (HIZ.out.keep (S' := []) HF67.out (by simp))
  have HBL7 := Lib.hid (HBL6.out.keep HF67.out (by simp))
  have HRY : Hid (w7.rangeAt gy 0 V) := Lib.hid (HB6.out.keep HF67.out (by simp)).range
  have HRZ : Hid (w7.rangeAt gz 0 U) := Lib.hid HB7.out.range
  have HF7 := Lib.hid (HF6.out.and HF67.out (by simp))
  have HCC : Hid (y.con = z.con) := Lib.hid (by rw [HCY.out, HCZ.out])
  clear HCY HCZ
  generalize (pU bs).2 = bb
  cases bb
  all_goals
   go_wp2_with (first
    | (refine wpList_row rfl 61 _ rfl _ _ rfl _ HRY.out (row_msg.of HVL.out) ?_)
    | (refine wpList_row rfl 61 _ rfl _ _ rfl _ HRZ.out (row_msg.of HUL.out) ?_))
   refine (kmsg_conL y z w7 HIY7.out HIZ7.out HCC.out V U HVE.out.symm HUE.out.symm).mono ?_
   rintro e_ w8 ⟨rfl, hf8⟩
   have HF8 := Lib.hid hf8
   clear hf8
   go_wp2_with fail
   refine (intact_any B g m c bs w8 (HYB7.out.keep HF8.out (by simp)) (HBL7.out.keep HF8.out (by simp)) (by have := HNB.out; omega)).mono ?_
   rintro e_ w9 ⟨rfl, kk, hw9⟩
   have HF9 : Hid (Fr [] w8 w9) := Lib.hid (by rw [hw9]; exact (Fr.refl [] w8).drewN _)
   clear hw9
   go_wp2_with fail
   refine (mwakes2_any w9).mono ?_
   rintro e_ w10 ⟨rfl, hf10⟩
   have HF10 := Lib.hid hf10
   clear hf10
   go_wp2_with fail
   go_ret
   exact ⟨rfl, ((HF7.out.and HF8.out (by simp)).and HF9.out (by simp)).and HF10.out (by simp)⟩
end Go.Proofs.YtdenpfcgghangaaGreat
