/- Proved here: CodeLeft's statement: for every list of calls and every tail the law returns true. Conditions: none. -/
import Derived.Test.YtcnngdhjeihecaaRead
import Derived.Test.YtcnngdhjeihecaaVals
import Derived.Deep.RegionWith
import Derived.Deep.DeepCutAuto
import Derived.Deep.CutBlock
namespace Go.Proofs.Ytcnngdhjeihecaa
open Go.RowKit

theorem info_int : (Try.prog.info? 3).map (fun i => (i.zero, i.size, i.bytes)) = some (some (.int .i64 0), 1, 8) := by kernel_rfl
/-- where each call's bytes begin -/
def starts (l : List ActV) (k : Nat) : List Value := (List.range k).map fun j => .int .i64 ((written 1099511627776 30 (l.take j)).length : Int)
/-- a row of numbers shares no block with a writer -/
theorem Wr.apart {w : World} {S : List Nat} {g n : Nat} {l : List UInt8} {v : Value} {xs : List Value} (h : Wr w S g l) (ho : w.ownsRow 0 3 1 v n xs) : ∀ k, v.ownBlock = some k → ¬ k ∈ S := by
  obtain ⟨A, c, rfl, hb, hr⟩ := h
  intro k hk hm
  simp at hm
  rcases hm with rfl | hm
  · exact own_ne ho hb (by decide) hk
  · rcases hr.2 with ⟨hv, _⟩ | ⟨g', cap, cur, hv, _, hh, _⟩
    · injection hv with hA
      subst hA
      simp [bk] at hm
    · injection hv with hA
      subst hA
      simp [bk] at hm
      subst hm
      exact own_ne ho (g := k) (t := 5) (cs := cur) hh (by decide) hk

theorem left_next {w w' : World} {B n c : Nat} {S S' : List Nat} {A : Option Addr} {xs : List Value} {L L' : List UInt8} (hw : Wr w S B L) (hS : ∀ x ∈ S, B ≤ x) (hB : B ≤ w.heap.size) (ho : w.ownsRow 0 3 1 (.slice A n c) n xs)
    (h1 : Wr w' S' B L') (h2 : Fr S w w') (h3 : ∀ x ∈ S', x < w.heap.size → x ∈ S) : Wr w' S' B L' ∧ (∀ x ∈ S', B ≤ x) ∧ w'.ownsRow 0 3 1 (.slice A n c) n xs ∧ Below B w w' := by
  refine ⟨h1, fun x hx => ?_, own_keep ho h2 (hw.apart ho), h2.below hB hS⟩
  by_cases h : x < w.heap.size
  · exact hS x (h3 x hx h)
  · omega

set_option maxRecDepth 100000 in
set_option maxHeartbeats 20000000 in
theorem left_walk (w : World) (A : Option Addr) (n c : Nat) (l : List ActV) (hl : Acts w A n l) (hc : n ≤ c) (hx : c ≤ maxLen) (T : Option Addr) (m d : Nat) (tl : List UInt8) (ht : By w T m tl) (hd : m ≤ d) (hy : d ≤ maxLen) :
    Calls Try.prog 10 #[.slice A n c, .slice T m d] w fun e w' => e = .returned (.bool true) ∧ Fr [] w w' := by
  have hmm : m ≤ maxLen := Nat.le_trans hd hy
  unfold maxLen at hx hy
  have hnm : n ≤ 9223372036854775807 := by omega
  have hmn : m ≤ 9223372036854775807 := by omega
  have HL := Lib.hid hl
  have HT := Lib.hid ht
  have HMM := Lib.hid hmm
  clear hl hx hc ht hy hmm
  go_enter Try.func10, Try.ntmps10
  go_wp2_with fail
  refine (newWriter_any w).mono ?_
  rintro e w1 ⟨rfl, hw1, hb1⟩
  have HW1 := Lib.hid hw1
  have HB1 := Lib.hid hb1
  clear hw1 hb1
  go_upto_block 0 with (fail)
  go_cut [6, 7] (fun s6 _ wx => ∃ (L : List UInt8) (S : List Nat) (A6 : Option Addr) (c6 : Nat), L = written 1099511627776 30 (l.take 10) ∧ L.length ≤ 1100 ∧ s6 = .slice A6 (min n 10) c6 ∧ Wr wx S w.heap.size L ∧ (∀ x ∈ S, w.heap.size ≤ x) ∧ wx.ownsRow 0 3 1 (.slice A6 (min n 10) c6) (min n 10) (starts l (min n 10)) ∧ Below w.heap.size w wx)
  case first =>
    go_wp2_with fail
    go_loopw [6, 7] (fun s6 i wr => ∃ (k : Nat) (S : List Nat) (A6 : Option Addr) (c6 : Nat), k ≤ n ∧ k ≤ 10 ∧ i = .int .i64 k ∧ s6 = .slice A6 k c6 ∧ Wr wr S w.heap.size (written 1099511627776 30 (l.take k)) ∧ (∀ x ∈ S, w.heap.size ≤ x) ∧
      (written 1099511627776 30 (l.take k)).length ≤ 110 * k ∧ wr.ownsRow 0 3 1 (.slice A6 k c6) k (starts l k) ∧ (∀ x ∈ bk A6, w.heap.size ≤ x) ∧ Below w.heap.size w wr) (fun _ i _ => 10 - (intOf i).toNat)
    case atStart => exact ⟨0, [w.heap.size], none, 0, by omega, by omega, rfl, rfl, by simpa [written] using HW1.out, by simp, by simp [written], ⟨rfl, .inl ⟨rfl, rfl⟩⟩, by simp [bk], HB1.out.below_all⟩
    case round =>
      obtain ⟨k, S, A6, c6, hk, hk12, rfl, rfl, hwr, hS, hlen, ho6, hbk6, hbel⟩ := hrel
      have HWR := Lib.hid hwr
      have HSS := Lib.hid hS
      have HLEN := Lib.hid hlen
      have HO6 := Lib.hid ho6
      have HBK6 := Lib.hid hbk6
      have HBEL := Lib.hid hbel
      clear hwr hS hlen ho6 hbk6 hbel HW1 HB1
      by_cases hlt : k < n ∧ k < 10
      · obtain ⟨hkn, hk2⟩ := hlt
        have hLs : (written 1099511627776 30 (l.take k)).length ≤ 1100 := by have := HLEN.out; omega
        have HLS := Lib.hid hLs
        clear hLs
        go_wp2_with fail
        refine (bytes_any wr S _ _ HWR.out (by have := HLS.out; omega)).mono ?_
        rintro e w2 ⟨A2, c2, rfl, hN2⟩
        have HN2 := Lib.hid hN2.2.1
        have HW2 := Lib.hid (HWR.out.keep hN2.2.1 (by simp))
        have HO2 := Lib.hid (own_keep HO6.out hN2.2.1 (by simp))
        have hszb : w.heap.size ≤ w2.heap.size := Nat.le_trans HBEL.out.size hN2.2.1.size
        clear hN2
        go_wp2_with (at_builtin; refine Stop.mk ?_)
        refine Stop.go ?_
        refine wpList_append_vals _ rfl (.tmp 24) (.tmp 28) _ rfl 3 (.int .i64 0) 8 Try.underlying62 info_int rfl (.slice A6 k c6) k _ rfl (HO2.out.alloc _) ⟨w2.heap.size, 0, none⟩ 1
          (.int .i64 ((written 1099511627776 30 (l.take k)).length : Int)) rfl ?_ rfl (by omega) (by omega) ?_
        · exact (Blk.new w2 3 #[Value.int IntKind.i64 ((written 1099511627776 30 (l.take k)).length : Int)]).cell 0
        intro A3 c3 w3 ho3 hg3 hat3
        have hap := HW2.out.apart HO2.out
        have hf23 : Fr (bk A6) w2 w3 := (((Fr.refl [] w2).alloc _).mono (by simp)).grown hg3 (fun x hx _ => by rw [bk_mem] at hx; exact hx)
        have HW3 := Lib.hid (HW2.out.keep hf23 (fun x hx hm => hap x (by rw [bk_mem]; exact hm) hx))
        have HO3 : Hid (w3.ownsRow 0 3 1 (.slice A3 (k + 1) c3) (k + 1) (starts l (k + 1))) := by
          have e : starts l (k + 1) = starts l k ++ [.int .i64 ((written 1099511627776 30 (l.take k)).length : Int)] := by
            unfold starts; rw [List.range_succ, List.map_append]; rfl
          rw [e]; exact ho3
        have HBK3 : Hid (∀ x ∈ bk A3, w.heap.size ≤ x) := by
          intro x hx
          rcases hat3 with e | e
          · rw [e, bk_own] at hx; exact HBK6.out x hx
          · rw [e] at hx; simp at hx; omega
        have HBEL3 := Lib.hid ((HBEL.out.trans (HN2.out.nil_below HBEL.out.size)).trans (hf23.below hszb HBK6.out))
        clear ho3 hg3 hat3 hap hf23 HBK6 HO2 HW2 HWR HO6
        obtain ⟨ad, v, rfl, hg, hok, hcells⟩ := HL.out.at HBEL3.out hkn
        have HOK := Lib.hid hok
        have HG := Lib.hid hg
        obtain ⟨p, hp⟩ : ∃ p, ad.add (k * 36) = p := ⟨_, rfl⟩
        obtain ⟨hc0, hc1, hc2, hc3, hc4⟩ := ActV.in_mem (p := p) (v := v) (w := w3) (fun j x hx => by rw [← hp, add_add]; exact hcells j x hx)
        have HC4 := Lib.hid hc4
        have hk0 : (0 : Int) ≤ k := by omega
        have hlab := actBytes_len (m := 1099511627776) (r := 30) HOK.out (by omega) (by omega) (by omega)
        have HLAB := Lib.hid hlab
        have HSN := Lib.hid (written_snoc (m := 1099511627776) (r := 30) HG.out)
        have hq : v.d % 4 = 0 ∨ v.d % 4 = 1 ∨ v.d % 4 = 2 ∨ v.d % 4 = 3 := by omega
        clear hlab hg hok hcells hc4
        generalize hL : written 1099511627776 30 (l.take k) = L at *
        clear hL
        go_wp2_with fail
        refine (within_pos v.d 4 HOK.out.d1 HOK.out.d2 (by omega) (by omega) w3).mono ?_
        rintro e w3' ⟨rfl, rfl⟩
        rcases hq with hq | hq | hq | hq
        · have hab : actBytes 1099511627776 30 v = enc v.u := by unfold actBytes; rw [if_pos hq]
          rw [hab] at HSN HLAB
          rw [hq]
          clear hab hq
          have HWQ := HW3
          have HOQ := HO3
          have HBELQ := HBEL3
          go_wp2_with fail
          refine (num_any v.u HOK.out.u w3 S _ _ HWQ.out (by have := HLS.out; omega)).mono ?_
          rintro e w5 ⟨rfl, S5, k1, k2, k3⟩
          obtain ⟨h1, h2, h3, h4⟩ := left_next HWQ.out HSS.out HBELQ.out.size HOQ.out k1 k2 k3
          have H1 := Lib.hid h1
          have H2 := Lib.hid h2
          have H3 := Lib.hid h3
          have H4 := Lib.hid (HBELQ.out.trans h4)
          clear h1 h2 h3 h4 k1 k2 k3
          go_wp2
          go_roundw
          case rel => exact ⟨k + 1, S5, A3, c3, by omega, by omega, by go_num, rfl, by rw [HSN.out]; exact H1.out, H2.out, by rw [HSN.out, List.length_append]; have := HLAB.out; have := HLEN.out; omega, H3.out, HBK3.out, H4.out⟩
          case measure => simp [intOf]; omega
        · have hab : actBytes 1099511627776 30 v = enc (v.n % 1099511627776).toNat := by unfold actBytes; rw [if_neg (by omega), if_pos hq]
          rw [hab] at HSN HLAB
          rw [hq]
          clear hab hq
          have HWQ := HW3
          have HOQ := HO3
          have HBELQ := HBEL3
          go_wp2_with fail
          refine (within_pos v.n 1099511627776 HOK.out.n1 HOK.out.n2 (by omega) (by omega) w3).mono ?_
          rintro e w3' ⟨rfl, rfl⟩
          obtain ⟨t, ht, htl⟩ : ∃ t : Nat, v.n % 1099511627776 = (t : Int) ∧ t < 1099511627776 := ⟨(v.n % 1099511627776).toNat, by omega, by omega⟩
          rw [ht] at HSN HLAB ⊢
          clear ht
          rw [Int.toNat_natCast] at HSN HLAB
          go_wp2_with fail
          refine (int_nat t (by omega) w3 S _ _ HWQ.out (by have := HLS.out; omega)).mono ?_
          rintro e w5 ⟨rfl, S5, k1, k2, k3⟩
          obtain ⟨h1, h2, h3, h4⟩ := left_next HWQ.out HSS.out HBELQ.out.size HOQ.out k1 k2 k3
          have H1 := Lib.hid h1
          have H2 := Lib.hid h2
          have H3 := Lib.hid h3
          have H4 := Lib.hid (HBELQ.out.trans h4)
          clear h1 h2 h3 h4 k1 k2 k3
          go_wp2
          go_roundw
          case rel => exact ⟨k + 1, S5, A3, c3, by omega, by omega, by go_num, rfl, by rw [HSN.out]; exact H1.out, H2.out, by rw [HSN.out, List.length_append]; have := HLAB.out; have := HLEN.out; omega, H3.out, HBK3.out, H4.out⟩
          case measure => simp [intOf]; omega
        · have hab : actBytes 1099511627776 30 v = enc (v.b.take 30).length ++ v.b.take 30 := by unfold actBytes; rw [if_neg (by omega), if_neg (by omega), if_pos hq]
          rw [hab] at HSN HLAB
          rw [hq]
          clear hab hq
          go_wp2_with fail
          rw [show (30 : Int) = ((30 : Nat) : Int) from rfl]
          refine (cut_any v.A v.m v.c 30 v.b w3 HOK.out.b (Nat.le_trans HOK.out.m HOK.out.c) HOK.out.m (by omega)).mono ?_
          rintro e w4 ⟨A4, c4, rfl, hN4⟩
          have HN4 := Lib.hid hN4
          have HWQ := Lib.hid (HW3.out.keep hN4.2.1 (by simp))
          have HOQ := Lib.hid (own_keep HO3.out hN4.2.1 (by simp))
          have HBELQ := Lib.hid (HBEL3.out.trans (hN4.2.1.nil_below HBEL3.out.size))
          have h30 : (v.b.take 30).length ≤ 30 := List.length_take_le _ _
          have H30 := Lib.hid h30
          clear hN4 h30
          generalize v.b.take 30 = b at *
          go_wp2_with fail
          refine (row_any A4 _ c4 b w4 HN4.out.by (by have := H30.out; omega) S (fun x hx hm => by have h1 := HN4.out.2.2 x hx; have h2 := HW3.out.lt x hm; omega) _ _ HWQ.out (by have := HLS.out; omega)).mono ?_
          rintro e w5 ⟨rfl, S5, k1, k2, k3⟩
          obtain ⟨h1, h2, h3, h4⟩ := left_next HWQ.out HSS.out HBELQ.out.size HOQ.out k1 k2 k3
          have H1 := Lib.hid h1
          have H2 := Lib.hid h2
          have H3 := Lib.hid h3
          have H4 := Lib.hid (HBELQ.out.trans h4)
          clear h1 h2 h3 h4 k1 k2 k3
          go_wp2
          go_roundw
          case rel => exact ⟨k + 1, S5, A3, c3, by omega, by omega, by go_num, rfl, by rw [HSN.out]; exact H1.out, H2.out, by rw [HSN.out, List.length_append]; have := HLAB.out; have := HLEN.out; omega, H3.out, HBK3.out, H4.out⟩
          case measure => simp [intOf]; omega
        · have hab : actBytes 1099511627776 30 v = v.h := by unfold actBytes; rw [if_neg (by omega), if_neg (by omega), if_neg (by omega)]
          rw [hab] at HSN HLAB
          rw [hq]
          clear hab hq
          have HWQ := HW3
          have HOQ := HO3
          have HBELQ := HBEL3
          go_wp2_with (first
            | (refine wpList_load_cells rfl 41 _ rfl ⟨p.block, p.off + 4, none⟩ rfl (v.h.map by8) _ HC4.out Try.underlying41 rfl (by rw [hash_size, List.length_map, HOK.out.h]) ?_)
            | (go_at_call 32; refine Stop.mk ?_))
          refine Stop.go ?_
          refine (hash_any v.h HOK.out.h w3 S _ _ HWQ.out (by have := HLS.out; omega)).mono ?_
          rintro e w5 ⟨rfl, S5, k1, k2, k3⟩
          obtain ⟨h1, h2, h3, h4⟩ := left_next HWQ.out HSS.out HBELQ.out.size HOQ.out k1 k2 k3
          have H1 := Lib.hid h1
          have H2 := Lib.hid h2
          have H3 := Lib.hid h3
          have H4 := Lib.hid (HBELQ.out.trans h4)
          clear h1 h2 h3 h4 k1 k2 k3
          go_wp2
          go_roundw
          case rel => exact ⟨k + 1, S5, A3, c3, by omega, by omega, by go_num, rfl, by rw [HSN.out]; exact H1.out, H2.out, by rw [HSN.out, List.length_append]; have := HLAB.out; have := HLEN.out; omega, H3.out, HBK3.out, H4.out⟩
          case measure => simp [intOf]; omega
      · have hkx : (n : Int) ≤ k ∨ (10 : Int) ≤ k := by omega
        have hkm : l.take k = l.take 10 := by
          rcases Nat.lt_or_ge k 10 with h | h
          · rw [List.take_of_length_le (by have := HL.out.1; omega), List.take_of_length_le (by have := HL.out.1; omega)]
          · rw [show k = 10 by omega]
        have hkn : k = min n 10 := by omega
        have HKM := Lib.hid hkm
        have HKN := Lib.hid hkn
        clear hkm hkn
        rcases hkx with hkx | hkx
        all_goals
          go_wp2_with fail
          all_goals
            go_meet
            exact ⟨_, S, A6, c6, rfl, by rw [← HKM.out]; have := HLEN.out; omega, by rw [← HKN.out], by rw [← HKM.out]; exact HWR.out, HSS.out, by rw [← HKN.out]; exact HO6.out, HBEL.out⟩
  case rest =>
    obtain ⟨L, S, A6, c6, hL, hLs, rfl, hwc, hSS, ho6, hbc⟩ := hcut
    have HLW := Lib.hid hL
    have HLS := Lib.hid hLs
    have HWC : Hid (WB wc w.heap.size w.heap.size L) := ⟨S, hwc, hSS, hbc.size⟩
    have HBC := Lib.hid hbc
    have HO6 := Lib.hid ho6
    clear hL hLs hwc hbc HW1 HB1 hSS ho6
    go_wp2_with fail
    refine (bytes_b HWC.out (by have := HLS.out; omega)).mono ?_
    rintro e w2 ⟨A2, c2, rfl, hN2, hw2, hb2⟩
    have HN2 := Lib.hid hN2
    have HO2 := Lib.hid (own_keep HO6.out hN2.2.1 (by simp))
    have HB2 := Lib.hid (HBC.out.trans hb2)
    clear hw2 hb2 hN2
    go_wp2_with fail
    rw [show (20 : Int) = ((20 : Nat) : Int) from rfl]
    refine (cut_any T m d 20 tl w2 (HT.out.old HB2.out) HMM.out hd (by omega)).mono ?_
    rintro e w3 ⟨A3, c3, rfl, hN3⟩
    have h20 : (tl.take 20).length = min m 20 := by rw [List.length_take, HT.out.1]; omega
    have H20 := Lib.hid h20
    clear h20
    generalize tl.take 20 = t at *
    have HN3 := Lib.hid hN3
    have HO3 := Lib.hid (own_keep HO2.out hN3.2.1 (by simp))
    have HN23 := Lib.hid (own_keep HN2.out.1 hN3.2.1 (by simp))
    have HB3 := Lib.hid (HB2.out.trans (hN3.2.1.nil_below HB2.out.size))
    clear hN3
    go_wp2_with (at_builtin; refine Stop.mk ?_)
    refine Stop.go ?_
    refine wpList_append_bytes _ rfl (.tmp 73) (.tmp 75) _ rfl 5 Try.underlying23 info_u8 (.slice A2 L.length c2) L.length L rfl HN23.out A3 t.length c3 t rfl HN3.out.by (by have := HLS.out; have := H20.out; omega) ?_
    intro A4 c4 w4 ho4 hg4 hat4
    have hf4 : Fr (bk A2) w3 w4 := (Fr.refl _ w3).grown hg4 (fun x hx _ => by rw [bk_mem] at hx; exact hx)
    have hap : ∀ x, (Value.slice A6 (min n 10) c6).ownBlock = some x → ¬ x ∈ bk A2 := fun x hx hm => by
      have h1 := own_lt HO6.out x hx
      have h2 := HN2.out.2.2 x hm
      omega
    have HO4 := Lib.hid (own_keep HO3.out hf4 hap)
    have HOB4 := Lib.hid ho4
    have HB4 := Lib.hid (HB3.out.trans (hf4.below HB3.out.size (fun x hx => by have h2 := HN2.out.2.2 x hx; have := HBC.out.size; omega)))
    clear ho4 hg4 hat4 hf4 hap
    go_wp2_with fail
    refine (newReader_b A4 _ c4 (L ++ t) w4 (By.of_own HOB4.out) (by have := HLS.out; have := H20.out; omega)).mono ?_
    rintro e w5 ⟨g, rfl, hr5, hf5⟩
    have HR5 := Lib.hid hr5
    have HO5 := Lib.hid (own_keep HO4.out hf5 (by simp))
    have HB5 := Lib.hid (HB4.out.trans (hf5.nil_below HB4.out.size))
    have hlt6 : ∀ x, (Value.slice A6 (min n 10) c6).ownBlock = some x → x < w4.heap.size := fun x hx => own_lt HO4.out x hx
    have HLT6 := Lib.hid hlt6
    clear hr5 hf5 hlt6
    have hwB : w.heap.size ≤ w4.heap.size := HB4.out.size
    generalize w4.heap.size = B2 at *
    have hM : ∃ M, M = l.take 10 ∧ M.length = min n 10 := ⟨_, rfl, by rw [List.length_take, HL.out.1]; omega⟩
    obtain ⟨M, hM1, hM2⟩ := hM
    have HM1 := Lib.hid hM1
    have HM2 := Lib.hid hM2
    clear hM1 hM2
    have hq10 : min n 10 ≤ 10 := by omega
    have hqn : min n 10 ≤ n := by omega
    have HQ : Hid (min n 10 = min n 10) := rfl
    generalize hqq : min n 10 = q at *
    have HQQ := Lib.hid hqq
    clear hqq HQ
    go_wp2_with fail
    go_loopw [83] (fun i wr => ∃ (k : Nat), k ≤ q ∧ i = .int .i64 k ∧ RB wr B2 g (written 1099511627776 30 (M.drop k) ++ t) false ∧ Below B2 w5 wr) (fun i _ => q - (intOf i).toNat)
    case atStart => exact ⟨0, by omega, rfl, by rw [List.drop_zero, HM1.out, ← HLW.out]; exact HR5.out, Below.refl _ _⟩
    case round =>
      obtain ⟨k, hk, rfl, hr, hbel⟩ := hrel
      have HR := Lib.hid hr
      have HBEL := Lib.hid hbel
      have HBW : Hid (Below w.heap.size w wr) := HB5.out.trans (hbel.mono hwB)
      clear hr hbel
      by_cases hlt : k < q
      · obtain ⟨ad, v, rfl, hg, hok, hcells⟩ := HL.out.at HBW.out (show k < n by omega)
        have HOK := Lib.hid hok
        have HG : Hid (M[k]? = some v) := by rw [HM1.out, List.getElem?_take, if_pos (by omega)]; exact hg
        have HSPLIT : Hid (L = written 1099511627776 30 (l.take k) ++ written 1099511627776 30 (M.drop k)) := by
          rw [HLW.out, ← HM1.out]
          have e : l.take k = M.take k := by rw [HM1.out, List.take_take, Nat.min_eq_left (by omega)]
          rw [e]
          unfold written
          rw [← List.flatten_append, ← List.map_append, List.take_append_drop]
          exact (rfl : _ = _)
        have HWD := Lib.hid (written_drop (m := 1099511627776) (r := 30) HG.out)
        obtain ⟨p, hp⟩ : ∃ p, ad.add (k * 36) = p := ⟨_, rfl⟩
        obtain ⟨hc0, hc1, hc2, hc3, hc4⟩ := ActV.in_mem (p := p) (v := v) (w := wr) (fun j x hx => by rw [← hp, add_add]; exact hcells j x hx)
        have hlen : (written 1099511627776 30 (l.take k)).length + (written 1099511627776 30 (M.drop k) ++ t).length = L.length + t.length := by
          have := congrArg List.length HSPLIT.out
          simp only [List.length_append] at this ⊢
          omega
        have hat : ∃ ada, A6 = some ada ∧ wr.cell? (ada.add k) = some (.int .i64 ((written 1099511627776 30 (l.take k)).length : Int)) := by
          obtain ⟨gq, cap, hv, _, _⟩ := HO5.out.form (show 0 < q by omega)
          injection hv with hA
          refine ⟨_, hA, ?_⟩
          subst hA
          have h1 := HO5.out.cells (g := gq) rfl k (.int .i64 ((written 1099511627776 30 (l.take k)).length : Int)) (by simp [starts, hlt])
          have h2 : gq < B2 := HLT6.out gq rfl
          rw [HBEL.out.cell (by rw [add_block]; exact h2)]
          exact h1
        obtain ⟨ada, rfl, hcat⟩ := hat
        have hRl : (written 1099511627776 30 (M.drop k) ++ t).length ≤ 1073741824 := by have := HLS.out; have := H20.out; omega
        have HRL := Lib.hid hRl
        have hk0 : (0 : Int) ≤ k := by omega
        have hlen3 := hlen
        clear hg hok hcells hRl hlen
        generalize hoo : (written 1099511627776 30 (l.take k)).length = o at *
        generalize hRR : (written 1099511627776 30 (M.drop k) ++ t) = R at *
        have HRR := Lib.hid hRR
        have hLs : L.length ≤ 1100 := HLS.out
        have hts : t.length ≤ 20 := by have := H20.out; omega
        have hsub : IntKind.i64.wrap ((L.length : Int) + (t.length : Int) - (o : Int)) = (R.length : Int) := by rw [IntWalk.i64_in _ (by omega)]; omega
        have hne : ((R.length : Int) != (R.length : Int)) = false := by simp
        have HLEN3 := Lib.hid hlen3
        clear hRR hoo hlen3
        go_upto_region 24 with (fail)
        go_cut [100] (fun s100 wx => s100 = .bool false ∧ wx = wr.drew)
        case first =>
          go_region_with (first
            | (go_at_call 24; refine (left_b (HR.out.fr ((Fr.refl [] wr).drew))).mono ?_; rintro e w6 ⟨rfl, rfl⟩)
            | (go_at_call 21; refine (ok_b (HR.out.fr ((Fr.refl [] wr).drew))).mono ?_; rintro e w6 ⟨rfl, rfl⟩))
          all_goals
            go_wp2_with fail
            go_meet
            exact ⟨rfl, rfl⟩
        case rest =>
          obtain ⟨rfl, rfl⟩ := hcut
          have HRD := Lib.hid (HR.out.fr ((Fr.refl [] wr).drew))
          have HBD := Lib.hid (HBEL.out.drew)
          have hR2 : ∃ R2, R2 = written 1099511627776 30 (M.drop (k + 1)) ++ t ∧ R = actBytes 1099511627776 30 v ++ R2 := ⟨_, rfl, by rw [← HRR.out, HWD.out, List.append_assoc]⟩
          obtain ⟨R2, hR2, hRx⟩ := hR2
          have HR2 := Lib.hid hR2
          have HRX := Lib.hid hRx
          have hq : v.d % 4 = 0 ∨ v.d % 4 = 1 ∨ v.d % 4 = 2 ∨ v.d % 4 = 3 := by omega
          clear hR2 hRx hsub hne
          go_wp2_with fail
          refine (within_pos v.d 4 HOK.out.d1 HOK.out.d2 (by omega) (by omega) wr.drew).mono ?_
          rintro e w3' ⟨rfl, rfl⟩
          rcases hq with hq | hq | hq | hq
          · have hab : actBytes 1099511627776 30 v = enc v.u := by unfold actBytes; rw [if_pos hq]
            rw [hab] at HRX
            rw [hq]
            clear hab hq
            obtain ⟨g1, g2, g3⟩ := rd_enc HOK.out.u R2
            rw [← HRX.out] at g1 g2 g3
            have G2 := Lib.hid g2
            have G3 := Lib.hid (g3 false)
            clear g1 g2 g3
            go_wp2_with fail
            refine (rnum_s HRD.out HRL.out).mono ?_
            rw [G2.out, G3.out]
            rintro e w6 ⟨rfl, hr6, hf6⟩
            have HR6 := Lib.hid hr6
            have HB6 := Lib.hid (HBD.out.trans (HRD.out.below hf6))
            clear hr6 hf6
            go_wp2
            go_roundw
            case rel => exact ⟨k + 1, by omega, by go_num, by rw [← HR2.out]; exact HR6.out, HB6.out⟩
            case measure => simp [intOf]; omega
          · have hab : actBytes 1099511627776 30 v = enc (v.n % 1099511627776).toNat := by unfold actBytes; rw [if_neg (by omega), if_pos hq]
            rw [hab] at HRX
            rw [hq]
            clear hab hq
            obtain ⟨g1, g2, g3⟩ := in_enc (n := (v.n % 1099511627776).toNat) (m := 1099511627776) (by omega) (by omega) R2
            rw [← HRX.out] at g1 g2 g3
            have G2 := Lib.hid g2
            have G3 := Lib.hid (g3 false)
            clear g1 g2 g3
            go_wp2_with fail
            refine (rint_s 1099511627776 (by omega) HRD.out HRL.out).mono ?_
            rw [G2.out, G3.out]
            rintro e w6 ⟨rfl, hr6, hf6⟩
            have HR6 := Lib.hid hr6
            have HB6 := Lib.hid (HBD.out.trans (HRD.out.below hf6))
            clear hr6 hf6
            go_wp2
            go_roundw
            case rel => exact ⟨k + 1, by omega, by go_num, by rw [← HR2.out]; exact HR6.out, HB6.out⟩
            case measure => simp [intOf]; omega
          · have hab : actBytes 1099511627776 30 v = enc (v.b.take 30).length ++ v.b.take 30 := by unfold actBytes; rw [if_neg (by omega), if_neg (by omega), if_pos hq]
            rw [hab] at HRX
            rw [hq]
            have h30 : (v.b.take 30).length ≤ 30 := List.length_take_le _ _
            obtain ⟨g1, g2, g3⟩ := rw_enc (b := v.b.take 30) (m := 30) (by omega) (by omega) R2
            rw [← HRX.out] at g1 g2 g3
            have G2 := Lib.hid g2
            have G3 := Lib.hid (g3 false)
            clear g1 g2 g3 hab hq h30
            go_wp2_with fail
            refine (rrow_s 30 (by omega) HRD.out HRL.out).mono ?_
            rw [G2.out, G3.out]
            rintro e w6 ⟨A7, c7, rfl, hy6, hn6, hr6, hf6⟩
            have HR6 := Lib.hid hr6
            have HB6 := Lib.hid (HBD.out.trans (HRD.out.below hf6))
            clear hr6 hf6 hy6 hn6
            go_wp2
            go_roundw
            case rel => exact ⟨k + 1, by omega, by go_num, by rw [← HR2.out]; exact HR6.out, HB6.out⟩
            case measure => simp [intOf]; omega
          · have hab : actBytes 1099511627776 30 v = v.h := by unfold actBytes; rw [if_neg (by omega), if_neg (by omega), if_neg (by omega)]
            rw [hab] at HRX
            rw [hq]
            clear hab hq
            obtain ⟨g1, g2, g3⟩ := hash_ok HOK.out.h R2
            rw [← HRX.out] at g1 g2 g3
            have G2 := Lib.hid g2
            have G3 := Lib.hid (g3 false)
            clear g1 g2 g3
            go_wp2_with fail
            refine (rhash_s HRD.out HRL.out).mono ?_
            rw [G2.out, G3.out]
            rintro e w6 ⟨rfl, hr6, hf6⟩
            have HR6 := Lib.hid hr6
            have HB6 := Lib.hid (HBD.out.trans (HRD.out.below hf6))
            clear hr6 hf6
            go_wp2
            go_roundw
            case rel => exact ⟨k + 1, by omega, by go_num, by rw [← HR2.out]; exact HR6.out, HB6.out⟩
            case measure => simp [intOf]; omega
      · have hkm : M.drop k = [] := List.drop_eq_nil_of_le (by rw [HM2.out]; omega)
        rw [hkm] at HR
        have HT2 := Lib.hid H20.out
        have hrr : written 1099511627776 30 [] ++ t = t := by simp [written]
        rw [hrr] at HR
        have hfin : ((t.length : Int) == (min m 20 : Nat)) = true := by rw [H20.out]; simp
        clear hkm hrr
        by_cases hm20 : m ≤ 20
        all_goals
          have htl : (t.length : Int) = (if m ≤ 20 then (m : Int) else 20) := by
            rw [H20.out]
            split <;> omega
          first
            | rw [if_pos hm20] at htl
            | rw [if_neg hm20] at htl
          have HTL := Lib.hid htl
          clear htl hfin
          go_wp2_with fail
          refine (left_b HR.out).mono ?_
          rintro e wx ⟨rfl, rfl⟩
          rw [HTL.out]
          go_wp2_with fail
          refine (ok_b HR.out).mono ?_
          rintro e wx ⟨rfl, rfl⟩
          go_wp2_with fail
          refine (wakes_any wr).mono ?_
          rintro e w9 ⟨rfl, hf9⟩
          have HF9 := Lib.hid hf9
          clear hf9
          go_wp2
          go_ret
          exact ⟨rfl, Fr.of_below (HBW.out.trans (HF9.out.nil_below HBW.out.size)) (Nat.le_refl _)⟩

namespace codeLeft
open Go.ChangeShapes Go.WideShapes Go.ChangeAt
open Go.ChangeMaps (open_string shut_string)
theorem own : ownKnob Try.prog.godebug = none := by kernel_rfl
set_option linter.unusedVariables false
set_option maxRecDepth 100000 in
set_option maxHeartbeats 2000000 in
theorem lifted (os : Os) (started : os.Started) (H : Type) (enc : TypeId × Value → H) :
    ReturnsInHanded {} Try.checked os 10 .any (Rows.codeLeftSpec.pre6 enc Try.prog Try.f10 Rows.codeLeftRow.domain false) (Rows.codeLeftSpec.post enc Try.prog Try.f10 false true false false) := by
  refine returnsInHanded_of_change (C := Try.checked) own started (by kernel_rfl) Try.func10
    (ChangeSpec.witness6 (enc := enc) (C := Try.checked) false ⟨#[], #[.slice none 0 0, .slice none 0 0], []⟩ 8 (by kernel_rfl) (by kernel_rfl) (by kernel_rfl) (by kernel_rfl)) ?_
  intro W base args ds gs before hval0 hW hcnd _
  have hval : ∀ (j : Nat) t v, Try.f10.params[j]? = some t → args[j]? = some v → Value.okWide Try.prog W .any base t v := hval0
  have hW' := hW
  obtain ⟨p, q, hA0, hV, rfl, hfz, hnd⟩ := hW
  have hA : DataW.TrodAll enc Try.prog W 0 (fun _ => true) true Try.f10.params.toList args.toList ds p := hA0
  rw [Try.params10] at hA hval
  obtain ⟨v0, vs0, d0, ds0, p0, q0, hargs, rfl, rfl, h0, r0⟩ := trodAll_cons hA
  obtain ⟨v1, vs1, d1, ds1, p1, q1, rfl, rfl, rfl, h1, r1⟩ := trodAll_cons r0
  obtain ⟨rfl, rfl, rfl⟩ := trodAll_nil r1
  obtain rfl : args = #[v0, v1] := by cases args; simp_all
  obtain ⟨rfl, rfl⟩ := trodVars_none hV
  obtain ⟨a0, len0, cap0, rfl⟩ := okWide_slice Try.underlying44 (hval 0 44 v0 rfl rfl)
  have k0 := h0
  have lt0 : ∀ x ∈ p0, x.block < W.heap.size := by obtain ⟨m, hm⟩ := k0; exact DataW.trod_lt m _ _ _ hm
  obtain ⟨l0, y0, c0, x0⟩ : ∃ l, Acts W a0 len0 l ∧ len0 ≤ cap0 ∧ cap0 ≤ maxLen := by
    obtain ⟨fuel, hf⟩ := h0
    exact acts_of_trod (by simpa [Value.cells] using hf)
  obtain ⟨a1, len1, cap1, rfl⟩ := okWide_slice Try.underlying23 (hval 1 23 v1 rfl rfl)
  have k1 := h1
  have lt1 : ∀ x ∈ p1, x.block < W.heap.size := by obtain ⟨m, hm⟩ := k1; exact DataW.trod_lt m _ _ _ hm
  obtain ⟨l1, y1, c1, x1⟩ : ∃ l, By W a1 len1 l ∧ len1 ≤ cap1 ∧ cap1 ≤ maxLen := by
    obtain ⟨fuel, hf⟩ := h1
    exact by_of_trod (by simpa [Value.cells] using hf)
  clear hA0 hval0
  refine (left_walk W a0 len0 cap0 l0 y0 c0 x0 a1 len1 cap1 l1 y1 c1 x1).mono fun e W' ⟨he, hg⟩ => ?_
  subst he
  have hb := hg.below_all
  exact ⟨_, rfl, _, _, _, [], _, [], hW', trodAll_mk1 (shut_bool Try.underlying4 _), (trodAll_cons_mk (Below.trod laidOut (by kernel_rfl) (of_decide_eq_true (by kernel_rfl)) k0 hb lt0) (trodAll_cons_mk (Below.trod laidOut (by kernel_rfl) (of_decide_eq_true (by kernel_rfl)) k1 hb lt1) trodAll_mk0)), rfl, hb.frame _, fun h => by cases h⟩
theorem over : Rows.codeLeftRow.holds Try.pinned (OpenSpec.ofChange Rows.codeLeftSpec) :=
  OpenClaim.holds_of_wide 10 Try.f10 rfl rfl rfl rfl rfl rfl rfl ⟨rfl, rfl, rfl, rfl, rfl⟩ rfl rfl rfl rfl rfl (by kernel_rfl) Try.func10 (by kernel_rfl)
    (of_decide_eq_true (by kernel_rfl)) (by unfold Func.isWrapper; first | (rw [if_pos (by decide +kernel)]; kernel_rfl) | (rw [if_neg (by decide +kernel)]; exact ⟨rfl, rfl⟩))
    (fun os started H enc _ => lifted os started H enc)
/-- the statement -/
theorem proved : Rows.CodeLeftSaid := over
end codeLeft
end Go.Proofs.Ytcnngdhjeihecaa
