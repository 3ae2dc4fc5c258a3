/- gavelref01's Sum is SHA-256. -/
import Derived.Test.YtlkhfhhaallhgaaShaT4
import Derived.Test.YtlkhfhhaallhgaaShaT5
import Derived.Test.YtlkhfhhaallhgaaShaT6
namespace Go.Proofs.Ytlkhfhhaallhgaa
set_option maxRecDepth 100000
open Go.RowKit

set_option maxRecDepth 100000 in
set_option maxHeartbeats 40000000 in
theorem refsum_any (A : Option Addr) (n c : Nat) (l : List UInt8) (w : World) (hr : By w A n l) (hn : n ≤ 1073741824) :
    Calls Try.prog 49 #[.slice A n c] w fun e w' => e = .returned (.agg ((sumL l).map by8).toArray) ∧ Fr [] w w' := by
  have HR := Lib.hid hr
  have HLN := Lib.hid hr.1
  clear hr
  go_enter Try.func49, Try.ntmps49
  go_wp2_with fail
  refine (rounds_any _).mono ?_
  rintro e w1 ⟨rfl, hf1⟩
  have HF1 := Lib.hid hf1
  clear hf1
  go_wp2_with (first
    | (at_builtin; refine Stop.mk ?_)
    | (refine wpList_store_box rfl 119 _ _ rfl _ 119 (kay.map i32) rfl rfl (by rw [words_size]; rfl) rfl (i32_one _) ?_
       intro wb hblk hfb
       have HBK := Lib.hid hblk
       have HFB := Lib.hid hfb
       clear hblk hfb))
  have hbH : Blk w1 w.heap.size 35 zeroH := (Blk.new w 35 zeroH).keep HF1.out (by simp)
  have hs1 : w.heap.size < w1.heap.size := hbH.lt
  have hs2 : w1.heap.size < wb.heap.size := HBK.out.lt
  have hf0 : Fr [] w w1 := ((Fr.refl [] w).alloc _).trans HF1.out (by simp)
  obtain ⟨wq, hwq⟩ : ∃ wq, wq = wb.alloc (Obj.cells (st0.list.map i32).toArray 121) := ⟨_, rfl⟩
  change Stop (wpList _ _ _ _ _ (wb.alloc (Obj.cells (st0.list.map i32).toArray 121)))
  rw [← hwq]
  have hfq : Fr [] wb wq := by rw [hwq]; exact (Fr.refl [] _).alloc _
  have hb4 : Blk wq wb.heap.size 121 (st0.list.map i32).toArray := by rw [hwq]; exact Blk.new _ _ _
  have hsq : wb.heap.size < wq.heap.size := hb4.lt
  have HQ : Hid (Blk wq w.heap.size 35 zeroH ∧ Blk wq w1.heap.size 119 (kay.map i32).toArray ∧ Blk wq wb.heap.size 121 (st0.list.map i32).toArray ∧ Fr [] w wq) :=
    Lib.hid ⟨(hbH.keep HFB.out (by simp)).keep hfq (by simp), HBK.out.keep hfq (by simp), hb4, (hf0.trans HFB.out (by simp)).trans hfq (by simp)⟩
  have HRQ := Lib.hid (HR.out.keep HQ.out.2.2.2 (by simp))
  clear hbH hf0 hwq hfq hb4 HBK HFB HF1
  generalize hg2 : w.heap.size = g2 at *
  generalize w1.heap.size = g3 at *
  generalize wb.heap.size = g4 at *
  have HG2 := Lib.hid hg2
  clear hg2
  refine Stop.go ?_
  refine wpList_append_bytes _ rfl (.const (.slice none 0 0)) (.tmp 26) _ rfl 5 Try.underlying41 info_u8 (.slice none 0 0) 0 [] rfl
      ⟨rfl, .inl ⟨rfl, rfl⟩⟩ A n c l rfl HRQ.out (by omega) ?_
  intro A1 c1 w2 ho1 hg1 hat1
  have hN1 : NewB wq w2 A1 n c1 l := by
    have := NewB.grow (w := wq) (A := none) (c := 0) (l := []) (Fr.refl [] wq) (by simp [bk]) ho1 hg1 hat1
    simpa using this
  have HN1 := Lib.hid hN1
  rw [Nat.zero_add]
  clear ho1 hg1 hat1 hN1
  go_wp2_with (at_builtin; refine Stop.mk ?_)
  refine Stop.go ?_
  refine wpList_append_bytes _ rfl (.tmp 27) (.tmp 28) _ rfl 5 Try.underlying41 info_u8 (.slice A1 n c1) n l rfl (HN1.out.1.alloc _) (some ⟨w2.heap.size, 0, none⟩) 1 1 [128] rfl
      (By.one (Blk.new _ _ _) rfl) (by omega) ?_
  intro A2 c2 w3 ho2 hg2 hat2
  have hN2 : NewB wq w3 A2 (n + 1) c2 (l ++ [128]) := NewB.grow (HN1.out.2.1.alloc _) HN1.out.2.2 ho2 hg2 hat2
  have HN2 := Lib.hid hN2
  clear ho2 hg2 hat2 hN2 HN1
  go_wp2
  go_loopw [5] (fun v wr => ∃ (k c' : Nat) (A' : Option Addr), k ≤ zeros n ∧ v = .slice A' (n + 1 + k) c' ∧ NewB wq wr A' (n + 1 + k) c' (l ++ [128] ++ List.replicate k 0)) (fun v _ => (n + 1 + zeros n) - lenV v)
  case atStart => exact ⟨0, c2, A2, Nat.zero_le _, rfl, by simpa using HN2.out⟩
  case round =>
    obtain ⟨k, c', A', hk, rfl, hN⟩ := hrel
    have HN := Lib.hid hN
    have hz : zeros n = (119 - n % 64) % 64 := rfl
    have hz64 := zeros_lt n
    clear hN HN2
    by_cases hlt : k < zeros n
    · have hne : (((n : Int) + 1 + (k : Int)) % 64 != 56) = true := by simp only [bne_iff_ne, ne_eq]; omega
      have hcast : ((n + 1 + k : Nat) : Int) = (n : Int) + 1 + (k : Int) := by omega
      go_wp2_with (at_builtin; refine Stop.mk ?_)
      refine Stop.go ?_
      refine wpList_append_bytes _ rfl (.tmp 34) (.tmp 35) _ rfl 5 Try.underlying41 info_u8 (.slice A' (n + 1 + k) c') (n + 1 + k) (l ++ [128] ++ List.replicate k 0) rfl (HN.out.1.alloc _) (some ⟨wr.heap.size, 0, none⟩) 1 1 [0] rfl
        (By.one (Blk.new _ _ _) rfl) (by omega) ?_
      intro A3 c3 w4 ho3 hg3 hat3
      have hN3 : NewB wq w4 A3 (n + 1 + (k + 1)) c3 (l ++ [128] ++ List.replicate (k + 1) 0) := by
        have h := NewB.grow (HN.out.2.1.alloc _) HN.out.2.2 ho3 hg3 hat3
        rw [List.append_assoc, ← List.replicate_succ'] at h
        exact h
      have HN3 := Lib.hid hN3
      clear ho3 hg3 hat3 hN3 hne
      go_wp2
      go_roundw
      case rel => exact ⟨k + 1, c3, A3, by omega, rfl, HN3.out⟩
      case measure => simp [lenV]; omega
    · have hk3 : k = zeros n := by omega
      have hne : (((n : Int) + 1 + (k : Int)) % 64 != 56) = false := by simp only [bne_eq_false_iff_eq]; omega
      have hcast : ((n + 1 + k : Nat) : Int) = (n : Int) + 1 + (k : Int) := by omega
      have HP0 : Hid (NewB wq wr A' (n + 1 + k + 0) c' (l ++ [128] ++ List.replicate k 0 ++ (len8 n).take 0)) := Lib.hid (by simpa using HN.out)
      have HKZ := Lib.hid hk3
      clear hk3 hlt hz HN
      generalize hPP : l ++ [128] ++ List.replicate k 0 = PP at *
      have HPP := Lib.hid hPP
      clear hPP
      generalize hm : n + 1 + k = m at *
      have HMM := Lib.hid hm
      have hm2 : m ≤ 1073741900 := by omega
      clear hm
      go_wp2
      clear hne hcast
      go_loopw [5, 7] (fun v i wr => ∃ (j c' : Nat) (A' : Option Addr), j ≤ 8 ∧ i = .int .i64 (7 - (j : Int)) ∧ v = .slice A' (m + j) c' ∧ NewB wq wr A' (m + j) c' (PP ++ (len8 n).take j)) (fun v _ _ => (m + 8) - lenV v)
      case atStart => exact ⟨0, c', A', by omega, rfl, rfl, HP0.out⟩
      case round =>
        obtain ⟨j, c5, A5, hj, rfl, rfl, hN⟩ := hrel
        have HN := Lib.hid hN
        clear hN HP0
        by_cases hlt : j < 8
        · have hge : (0 : Int) ≤ 7 - (j : Int) := by omega
          have hj0 : (0 : Int) ≤ j := by omega
          have h8a : (0 : Int) ≤ 8 * (7 - (j : Int)) := by omega
          have h8b : (8 : Int) * (7 - (j : Int)) ≤ 64 := by omega
          have e8 : ((8 : Int) * (7 - (j : Int))).toNat = 8 * (7 - j) := by omega
          have hnI : (n : Int) ≤ 1073741824 := by omega
          have hbyte : (n : Int) * 8 / 2 ^ (8 * (7 - j)) % 256 = ((UInt8.ofNat (n * 8 / 2 ^ (8 * (7 - j)) % 256)).toNat : Int) := by
            have h := by8_len n (7 - j)
            unfold by8 at h
            injection h with _ h
            exact h.symm
          have HBY := Lib.hid hbyte
          clear hbyte
          go_wp2_with (at_builtin; refine Stop.mk ?_)
          refine Stop.go ?_
          refine wpList_append_bytes _ rfl (.tmp 45) (.tmp 52) _ rfl 5 Try.underlying41 info_u8 (.slice A5 (m + j) c5) (m + j) (PP ++ (len8 n).take j) rfl (HN.out.1.alloc _) (some ⟨wr.heap.size, 0, none⟩) 1 1 [UInt8.ofNat (n * 8 / 2 ^ (8 * (7 - j)) % 256)] rfl
            (By.one (Blk.new _ _ _) HBY.out) (by omega) ?_
          intro A6 c6 w5 ho3 hg3 hat3
          have hN3 : NewB wq w5 A6 (m + (j + 1)) c6 (PP ++ (len8 n).take (j + 1)) := by
            have h := NewB.grow (HN.out.2.1.alloc _) HN.out.2.2 ho3 hg3 hat3
            have e : (len8 n).take (j + 1) = (len8 n).take j ++ [UInt8.ofNat (n * 8 / 2 ^ (8 * (7 - j)) % 256)] := by
              rw [List.take_add_one, List.getElem?_eq_getElem (by rw [len8_len]; exact hlt)]
              unfold len8
              simp
            rw [e, ← List.append_assoc]
            exact h
          have HN3 := Lib.hid hN3
          clear ho3 hg3 hat3 hN3
          go_wp2
          go_roundw
          case rel => exact ⟨j + 1, c6, A6, by omega, by congr 1; omega, rfl, HN3.out⟩
          case measure => simp [lenV]; omega
        · have hj8 : j = 8 := by omega
          have hfin : PP ++ (len8 n).take j = ending l n := by
            rw [hj8, List.take_of_length_le (by rw [len8_len]; omega), ← HPP.out, HKZ.out]
            rfl
          have hlen : m + j = (ending l n).length := by
            rw [← hfin, List.length_append, List.length_take, len8_len]
            have h1 : PP.length = m := by rw [← HPP.out, ← HMM.out]; simp [HLN.out]; omega
            omega
          have hNE : NewB wq wr A5 (ending l n).length c5 (ending l n) := by
            have h := HN.out
            rw [hfin, hlen] at h
            exact h
          have HE := Lib.hid hNE
          have hdiv : (ending l n).length % 64 = 0 := by
            rw [← hlen, hj8, ← HMM.out, HKZ.out]
            unfold zeros
            omega
          have hEL : (ending l n).length ≤ 1073742000 := by omega
          have hlt0 : ¬ (0 : Int) ≤ 7 - (j : Int) := by omega
          have HSUM : Hid (outBytes (mixes ((ending l n).length / 64) st0 (ending l n)) = sumL l) := Lib.hid (by unfold sumL; rw [HLN.out])
          rw [hlen]
          generalize hEE : ending l n = E at *
          clear hfin hNE HN HPP HMM HKZ hlen hlt hm2
          go_wp2
          obtain ⟨T, hT⟩ : ∃ T, T = E.length / 64 := ⟨_, rfl⟩
          have hT64 : E.length = 64 * T := by omega
          rw [← hT] at HSUM
          have HT64 := Lib.hid hT64
          clear hT hdiv hlt0 hT64
          have HQ2 : Hid (Blk wr g2 35 zeroH ∧ Blk wr g3 119 (kay.map i32).toArray ∧ Blk wr g4 121 (st0.list.map i32).toArray ∧ Fr [] w wr) :=
            Lib.hid ⟨HQ.out.1.keep HE.out.2.1 (by simp), HQ.out.2.1.keep HE.out.2.1 (by simp), HQ.out.2.2.1.keep HE.out.2.1 (by simp), HQ.out.2.2.2.trans HE.out.2.1 (by simp)⟩
          have HBE := Lib.hid HE.out.by
          have HCE : Hid (E.length ≤ c5) := Lib.hid HE.out.cap
          have HNEW : Hid (∀ k ∈ bk A5, g4 < k) := Lib.hid (fun k hk => by have := HE.out.2.2 k hk; omega)
          have hszr : g4 < wr.heap.size := HQ2.out.2.2.1.lt
          clear HQ HE HRQ hsq
          obtain ⟨wo, rfl⟩ : ∃ wo : World, wo = wr := ⟨_, rfl⟩
          go_loopw [8] (fun i wr => ∃ (q : Nat) (st : St), q ≤ T ∧ i = .int .i64 ((64 * q : Nat) : Int) ∧ mixes (T - q) st (E.drop (64 * q)) = mixes T st0 E ∧ st.Nn ∧ Blk wr g4 121 (st.list.map i32).toArray ∧ Fr [g4] wo wr) (fun i _ => E.length - (intOf i).toNat)
          case atStart => exact ⟨0, st0, Nat.zero_le _, rfl, by simp, st0_nn, HQ2.out.2.2.1, Fr.refl _ _⟩
          case round =>
            obtain ⟨q, st, hq, rfl, hmx, hnn, hb4, hf4⟩ := hrel
            have HMX := Lib.hid hmx
            have HNN := Lib.hid hnn
            have HB4 := Lib.hid hb4
            have HF4 := Lib.hid hf4
            clear hmx hnn hb4 hf4
            by_cases hlt : q < T
            · have hat0 : (0 : Int) ≤ ((64 * q : Nat) : Int) := by omega
              have HBE1 := Lib.hid (HBE.out.keep HF4.out (fun a ha h => by have := HNEW.out a.block (by simp [bk, ha]); simp at h; omega))
              have hat1 : 64 * q + 64 ≤ E.length := by have := HT64.out; omega
              have hdA : decide (64 * q < E.length) = true := by simp; omega
              generalize hatt : 64 * q = at0 at *
              have HAT := Lib.hid hatt
              clear hatt
              obtain ⟨wv, hwv⟩ : ∃ wv, wv = wr.alloc (Obj.cells zero64 119) := ⟨_, rfl⟩
              have hbv : Blk wv wr.heap.size 119 zero64 := by rw [hwv]; exact Blk.new _ _ _
              have hfv : Fr [] wr wv := by rw [hwv]; exact (Fr.refl [] _).alloc _
              have hgw4 : g4 < wr.heap.size := HB4.out.lt
              have HBV := Lib.hid hbv
              have HFV := Lib.hid hfv
              have HWV := Lib.hid hwv
              have HBEv := Lib.hid (HBE1.out.keep hfv (by simp))
              have hA5 : ∃ ad, A5 = some ad ∧ ad.block < wr.heap.size := by
                obtain ⟨a, b, e, -, hc⟩ := HBE1.out.at (show 0 < E.length by omega)
                refine ⟨a, e, ?_⟩
                have := World.block_lt_of_cell? wr _ hc
                rwa [add_block] at this
              obtain ⟨ad, rfl, had⟩ := hA5
              have HAD := Lib.hid had
              have HGWO : Hid (wo.heap.size ≤ wr.heap.size) := Lib.hid HF4.out.size
              clear hbv hfv hwv had
              go_wp2
              change Code.wp _ _ _ _ (wr.alloc (Obj.cells zero64 119))
              rw [← HWV.out]
              generalize wr.heap.size = gw at *
              have HLB : Hid (((E.drop at0).take 64).length = 64) := Lib.hid (by rw [List.length_take, List.length_drop]; omega)
              have HWD : Hid (∀ k, k < 16 → (sched0 ((E.drop at0).take 64))[k]? = some (wdAt E (at0 + 4 * k))) := Lib.hid (fun k hk => by rw [sched0_at _ hk, wdAt_block E at0 k hk])
              generalize hBB : (E.drop at0).take 64 = BB at *
              have HBBE := Lib.hid hBB
              clear hBB
              go_loopw [10] (fun i wx => ∃ (k : Nat) (M : List Int), k ≤ 16 ∧ i = .int .i64 k ∧ M.length = 64 ∧ M.take k = (sched0 BB).take k ∧ Blk wx gw 119 (M.map i32).toArray ∧ Fr [gw] wv wx ∧ ∀ z ∈ M, (0 : Int) ≤ z) (fun i _ => 16 - (intOf i).toNat)
              case atStart => exact ⟨0, List.replicate 64 0, by omega, rfl, by simp, by simp, HBV.out, Fr.refl _ _, by intro z hz; have := List.eq_of_mem_replicate hz; omega⟩
              case round =>
                obtain ⟨k, M, hk, rfl, hM, hTT, hbm, hfm, hnn⟩ := hrel
                have HBM := Lib.hid hbm
                have HFM := Lib.hid hfm
                have HM := Lib.hid hM
                have HTT := Lib.hid hTT
                have HMN := Lib.hid hnn
                clear hbm hfm hM hTT hnn
                by_cases hlt16 : k < 16
                · obtain ⟨pk, hpk⟩ : ∃ pk : Nat, pk = at0 + 4 * k := ⟨_, rfl⟩
                  have hpI : ((at0 : Nat) : Int) + 4 * (k : Int) = (pk : Int) := by omega
                  have hpE : pk + 4 ≤ E.length := by omega
                  have hcne : c5 ≠ pk := by have := HCE.out; omega
                  have hpc : pk ≤ c5 := by have := HCE.out; omega
                  have hcut : ∀ wx : World, Fr [gw] wv wx → By wx (some (ad.add pk)) (E.length - pk) (E.drop pk) := fun wx h => (HBEv.out.keep h (fun a ha => by injection ha with ha; subst ha; have := HAD.out; simp; omega)).cutn (by omega) HCE.out hcne
                  obtain ⟨a4, ha4, d0, d1, d2, d3⟩ := (hcut _ HFM.out).four (by omega)
                  have hw4 : wd ((E.drop pk).getD 0 0) ((E.drop pk).getD 1 0) ((E.drop pk).getD 2 0) ((E.drop pk).getD 3 0) = wdAt E pk := wdAt_drop E pk
                  have hsc := HWD.out k hlt16
                  rw [← hpk, ← hw4] at hsc
                  generalize (E.drop pk).getD 0 0 = b0 at *
                  generalize (E.drop pk).getD 1 0 = b1 at *
                  generalize (E.drop pk).getD 2 0 = b2 at *
                  generalize (E.drop pk).getD 3 0 = b3 at *
                  have HSC := Lib.hid hsc
                  have HZ := Lib.hid (wd_nn b0 b1 b2 b3)
                  injection ha4 with ha4
                  obtain ⟨nn, hnE⟩ : ∃ nn : Nat, nn = E.length - pk := ⟨_, rfl⟩
                  have hnn4 : 4 ≤ nn := by omega
                  have hnsub : E.length - pk = nn := hnE.symm
                  have hnI : (E.length : Int) - (pk : Int) = (nn : Int) := by omega
                  have j0 : 0 < nn := by omega
                  have j1 : 1 < nn := by omega
                  have j2 : 2 < nn := by omega
                  have j3 : 3 < nn := by omega
                  have hk0 : (0 : Int) ≤ k := by omega
                  have hk16 : (k : Int) < 64 := by omega
                  have z0 := b0.toNat_lt
                  have z1 := b1.toNat_lt
                  have z2 := b2.toNat_lt
                  have z3 := b3.toNat_lt
                  have hcm := HBM.out.word (i := k) (by have := HM.out; omega)
                  have hzm := HBM.out.frozen k
                  clear hcut hw4 hsc hpk hnE
                  go_wp2
                  go_region
                  clear d0 d1 d2 d3 j0 j1 j2 j3 hcm hzm hpI hnsub hnI
                  go_wp2
                  go_roundw
                  case rel =>
                    exact ⟨k + 1, M.set k (wd b0 b1 b2 b3), by omega, by go_num, by rw [List.length_set]; exact HM.out, set_takeI HTT.out (by rw [HM.out]; omega) HSC.out, (HBM.out.drewN 1).setWord k (wd b0 b1 b2 b3), (HFM.out.drewN 1).setCell _ (fun _ => by simp) _, nn_set HMN.out k HZ.out⟩
                  case measure => simp [intOf]; omega
                · have hk3 : k = 16 := by omega
                  have hki : (k : Int) = 16 := by omega
                  have HS0 : Hid (M.take 16 = schedN BB 0) := Lib.hid (by have := HTT.out; rw [hk3] at this; rw [this]; exact List.take_of_length_le (by simp [sched0]))
                  rw [hki]
                  clear hlt16 HTT hk3 hki hk
                  go_wp2
                  refine loop4 gw BB M wr HM.out HS0.out HBM.out HMN.out ?_
                  intro u12 u13 u14 u94 u95 u96 u97 u98 u99 u100 u101 u102 u103 u104 u105 u106 u107 u108 u109 u110 u111 u112 u113 u114 u115 u116 u117 u118 u119 u120 u121 u122 u123 u124 u125 u126 u127 u128 u129 u130 u131 u132 u133 u134 w4 hbw4 hfw4 hwl4
                  have HBW := Lib.hid hbw4
                  have HFW : Hid (Fr [gw] wv w4) := Lib.hid (HFM.out.trans hfw4 (fun x hx _ => hx))
                  have HWL := Lib.hid hwl4
                  have HMX1 : Hid (mixS st BB = st.plus (rnds (sched BB) st 64)) := Lib.hid rfl
                  have HB4w : Hid (Blk w4 g4 121 (st.list.map i32).toArray) := Lib.hid ((HB4.out.keep HFV.out (by simp)).keep HFW.out (by simp; omega))
                  generalize sched BB = W at *
                  have hgwr : gw < w4.heap.size := HBW.out.lt
                  have hz8 : ((st.list.map i32).toArray).size = 8 := rfl
                  clear hbw4 hfw4 hwl4 HBM HM HMN HS0 HFM
                  go_wp2_with (first
                    | (refine wpList_load_row rfl 121 _ rfl g4 rfl 121 (st.list.map i32).toArray _ _ HB4w.out Try.underlying121 rfl (by rw [words8_size]; rfl) ?_)
                    | (refine wpList_store_box rfl 121 _ _ rfl _ 121 (st.list.map i32) rfl rfl (by rw [words8_size]; rfl) rfl (i32_one _) ?_
                       intro wd1 hblk hfb
                       have HBV1 := Lib.hid hblk
                       have HFV1 := Lib.hid hfb
                       clear hblk hfb))
                  have HB4d := Lib.hid (HB4w.out.keep HFV1.out (by simp))
                  have HBWd := Lib.hid (HBW.out.keep HFV1.out (by simp))
                  have HB3d : Hid (Blk wd1 g3 119 (kay.map i32).toArray) := Lib.hid ((((HQ2.out.2.1.keep HF4.out (by simp; omega)).keep HFV.out (by simp)).keep HFW.out (by simp; omega)).keep HFV1.out (by simp))
                  have hgg : gw < w4.heap.size := hgwr
                  generalize hgv : w4.heap.size = gv at *
                  clear hgv hz8
                  refine loop5 g3 gw gv W st HNN HWL wd1 HBV1 HB3d HBWd (by omega) (by omega) ?_
                  intro u16 u17 u18 u19 u20 u136 u137 u138 u139 u140 u141 u142 u143 u144 u145 u146 u147 u148 u149 u150 u151 u152 u153 u154 u155 u156 u157 u158 u159 u160 u161 u162 u163 u164 u165 u166 u167 u168 u169 u170 u171 u172 u173 u174 u175 u176 u177 u178 u179 u180 u181 u182 u183 u184 u185 u186 u187 u188 u189 u190 u191 u192 u193 u194 u195 u196 u197 u198 u199 u200 u201 u202 u203 u204 u205 u206 u207 u208 u209 u210 u211 u212 u213 u214 u215 u216 u217 w5 hbx hfx
                  have HBX := Lib.hid hbx
                  have HFX := Lib.hid hfx
                  clear hbx hfx
                  generalize rnds W st 64 = R at *
                  have HPL : Hid (∀ j, j < 8 → (mixS st BB).list.getD j 0 = (st.list.getD j 0 + R.list.getD j 0) % 4294967296) := Lib.hid (fun j hj => by rw [HMX1.out, plus_at st R hj]; rfl)
                  have hFl : (mixS st BB).list.length = 8 := rfl
                  generalize hFE : (mixS st BB).list = F at *
                  have HFE := Lib.hid hFE
                  have HFL := Lib.hid hFl
                  have HB4x := Lib.hid (HB4d.out.keep HFX.out (by simp; omega))
                  have HG4V : Hid (¬ gv = g4) := Lib.hid (by omega)
                  clear hFl hFE HMX1
                  go_wp2
                  refine loop6 g4 gv st R F HFL HPL w5 HB4x HBX HG4V ?_
                  intro u21 u218 u219 u220 u221 u222 u223 u224 u225 u226 u227 u228 u229 w6 hby hfy
                  have HBY := Lib.hid hby
                  have HFY := Lib.hid hfy
                  clear hby hfy
                  have HB4e : Hid (Blk w6 g4 121 ((mixS st BB).list.map i32).toArray) := Lib.hid (by rw [HFE.out]; exact HBY.out)
                  have HMXE : Hid (mixes (T - (q + 1)) (mixS st BB) (E.drop (64 * (q + 1))) = mixes T st0 E) := Lib.hid (by
                    have h := HMX.out
                    rw [show T - q = (T - (q + 1)) + 1 by omega] at h
                    simp only [mixes] at h
                    rw [HBBE.out, List.drop_drop] at h
                    rw [← h, show 64 * (q + 1) = at0 + 64 by have := HAT.out; omega])
                  have HFRE : Hid (Fr [g4] wo w6) := Lib.hid (by
                    have h1 : Fr [g4] wo wv := HF4.out.trans HFV.out (by simp)
                    have h2 := h1.trans HFW.out (fun x hx hl => by have := HGWO.out; simp at hx; omega)
                    have h3 := h2.trans HFV1.out (by simp)
                    have h4 := h3.trans HFX.out (fun x hx hl => by have := HGWO.out; simp at hx; omega)
                    exact h4.trans HFY.out (fun x hx _ => hx))
                  go_wp2
                  go_roundw
                  case rel => exact ⟨q + 1, mixS st BB, by omega, by have := HAT.out; congr 1; omega, HMXE.out, mixS_nn _ _, HB4e.out, HFRE.out⟩
                  case measure => simp [intOf]; have := HAT.out; omega
            · have hqT : q = T := by omega
              have hst : st = mixes T st0 E := by
                have h := HMX.out
                rw [hqT, Nat.sub_self] at h
                exact h
              have HST := Lib.hid hst
              have hdq : decide (64 * q < E.length) = false := by have := HT64.out; simp; omega
              have hdq2 : ¬ ((64 * q : Nat) : Int) < (E.length : Int) := by have := HT64.out; omega
              have HHR : Hid (Blk wr g2 35 zeroH) := Lib.hid (HQ2.out.1.keep HF4.out (by simp; omega))
              have HFRW : Hid (Fr [] w wr) := Lib.hid (HQ2.out.2.2.2.trans HF4.out (fun x hx hl => by have := HG2.out; simp at hx; omega))
              clear hqT hst hlt HMX
              go_upto_region 39 with (fail)
              obtain ⟨wz, hwz⟩ : ∃ wz, wz = wr.alloc (Obj.cells zeroH 35) := ⟨_, rfl⟩
              have hbo : Blk wz wr.heap.size 35 zeroH := by rw [hwz]; exact Blk.new _ _ _
              have hfo : Fr [] wr wz := by rw [hwz]; exact (Fr.refl [] _).alloc _
              change Code.wp _ _ _ _ (wr.alloc (Obj.cells zeroH 35))
              rw [← hwz]
              have HB4z := Lib.hid (HB4.out.keep hfo (by simp))
              have HHRz := Lib.hid (HHR.out.keep hfo (by simp))
              have HFRz := Lib.hid (HFRW.out.trans hfo (by simp))
              have HBO := Lib.hid hbo
              have hgo4 : g4 < wr.heap.size := HB4.out.lt
              have hgo2 : g2 < wr.heap.size := HHR.out.lt
              clear hwz hbo hfo HB4 HHR HFRW hdq hdq2
              have HGOW : Hid (w.heap.size ≤ wr.heap.size) := Lib.hid (by have := HG2.out; omega)
              generalize wr.heap.size = go at *
              have HOS : Hid (outBytes st = sumL l) := Lib.hid (by rw [HST.out]; exact HSUM.out)
              have hOB : ∀ k, k < 32 → (outBytes st)[k]? = some (byteOf (st.list.getD (k / 4) 0 / 2 ^ (24 - 8 * (k % 4)))) := fun k hk => by unfold outBytes; simp [hk]
              have hOl := outBytes_len st
              generalize outBytes st = O at *
              have HOB := Lib.hid hOB
              have HOL := Lib.hid hOl
              clear hOB hOl
              go_wp2
              go_loopw [23] (fun i wx => ∃ (k : Nat) (M : List UInt8), k ≤ 8 ∧ i = .int .i64 k ∧ M.length = 32 ∧ M.take (4 * k) = O.take (4 * k) ∧ Blk wx go 35 (M.map by8).toArray ∧ Fr [go] wz wx) (fun i _ => 8 - (intOf i).toNat)
              case atStart => exact ⟨0, List.replicate 32 0, by omega, rfl, by simp, by simp, HBO.out, Fr.refl _ _⟩
              case round =>
                obtain ⟨k, M, hk, rfl, hM, hT, hbm, hfm⟩ := hrel
                have HBM := Lib.hid hbm
                have HFM := Lib.hid hfm
                have HM := Lib.hid hM
                have HTT := Lib.hid hT
                clear hbm hfm hM hT
                by_cases hlt : k < 8
                · have hcs := (HB4z.out.keep HFM.out (by simp; omega)).word (i := k) (by rw [St.len]; omega)
                  obtain ⟨pk, hpk⟩ : ∃ pk, pk = 4 * k := ⟨_, rfl⟩
                  have hO0 := HOB.out pk (by omega)
                  have hO1 := HOB.out (pk + 1) (by omega)
                  have hO2 := HOB.out (pk + 2) (by omega)
                  have hO3 := HOB.out (pk + 3) (by omega)
                  rw [show pk / 4 = k by omega, show pk % 4 = 0 by omega] at hO0
                  rw [show (pk + 1) / 4 = k by omega, show (pk + 1) % 4 = 1 by omega] at hO1
                  rw [show (pk + 2) / 4 = k by omega, show (pk + 2) % 4 = 2 by omega] at hO2
                  rw [show (pk + 3) / 4 = k by omega, show (pk + 3) % 4 = 3 by omega] at hO3
                  have hnn : 0 ≤ st.list.getD k 0 := by
                    have := HNN.out
                    have hq : k = 0 ∨ k = 1 ∨ k = 2 ∨ k = 3 ∨ k = 4 ∨ k = 5 ∨ k = 6 ∨ k = 7 := by omega
                    rcases hq with h | h | h | h | h | h | h | h <;> rw [h]
                    · exact this.a
                    · exact this.b
                    · exact this.c
                    · exact this.d
                    · exact this.e
                    · exact this.f
                    · exact this.g
                    · exact this.h
                  generalize st.list.getD k 0 = x at *
                  have HO : Hid (O[pk]? = some (byteOf (x / 16777216)) ∧ O[pk + 1]? = some (byteOf (x / 65536)) ∧ O[pk + 2]? = some (byteOf (x / 256)) ∧ O[pk + 3]? = some (byteOf x)) := Lib.hid ⟨by simpa using hO0, by simpa using hO1, by simpa using hO2, by simpa using hO3⟩
                  have hp4 : (4 : Int) * (k : Int) = (pk : Int) := by omega
                  have hk0 : (0 : Int) ≤ k := by omega
                  have hk8 : (k : Int) < 8 := by omega
                  have hp0 : (0 : Int) ≤ pk := by omega
                  have hp29 : (pk : Int) < 29 := by omega
                  have hm0 := HBM.out.byte (i := pk) (by rw [HM.out]; omega)
                  have hm1 := HBM.out.byte (i := pk + 1) (by rw [HM.out]; omega)
                  have hm2 := HBM.out.byte (i := pk + 2) (by rw [HM.out]; omega)
                  have hm3 := HBM.out.byte (i := pk + 3) (by rw [HM.out]; omega)
                  have hz0 := HBM.out.frozen pk
                  have hz1 := HBM.out.frozen (pk + 1)
                  have hz2 := HBM.out.frozen (pk + 2)
                  have hz3 := HBM.out.frozen (pk + 3)
                  have e1 : ((pk : Int) + 1).toNat = pk + 1 := by omega
                  have e2 : ((pk : Int) + 2).toNat = pk + 2 := by omega
                  have e3 : ((pk : Int) + 3).toNat = pk + 3 := by omega
                  have w1e : IntKind.i64.wrap ((pk : Int) + 1) = (pk : Int) + 1 := IntWalk.i64_in _ (by omega)
                  have w2e : IntKind.i64.wrap ((pk : Int) + 2) = (pk : Int) + 2 := IntWalk.i64_in _ (by omega)
                  have w3e : IntKind.i64.wrap ((pk : Int) + 3) = (pk : Int) + 3 := IntWalk.i64_in _ (by omega)
                  have HPK := Lib.hid hpk
                  clear hO0 hO1 hO2 hO3 hpk
                  go_wp2
                  go_region
                  have hb4 := ((((HBM.out.setByte pk (byteOf (x / 16777216))).setByte (pk + 1) (byteOf (x / 65536))).setByte (pk + 2) (byteOf (x / 256))).setByte (pk + 3) (byteOf x)).drew
                  simp only [by8_byteOf] at hb4
                  have hf4 := ((((HFM.out.setCell ⟨go, pk, none⟩ (fun _ => by simp) (.int .u8 (x / 16777216 % 256))).setCell ⟨go, pk + 1, none⟩ (fun _ => by simp) (.int .u8 (x / 65536 % 256))).setCell ⟨go, pk + 2, none⟩ (fun _ => by simp) (.int .u8 (x / 256 % 256))).setCell ⟨go, pk + 3, none⟩ (fun _ => by simp) (.int .u8 (x % 256))).drew
                  have ht0 : M.take pk = O.take pk := by rw [HPK.out]; exact HTT.out
                  have hl : pk + 3 < M.length := by rw [HM.out]; omega
                  have ht4 : ((((M.set pk (byteOf (x / 16777216))).set (pk + 1) (byteOf (x / 65536))).set (pk + 2) (byteOf (x / 256))).set (pk + 3) (byteOf x)).take (4 * (k + 1)) = O.take (4 * (k + 1)) := by
                    rw [show 4 * (k + 1) = pk + 3 + 1 by have := HPK.out; omega]
                    exact set_takeB (set_takeB (set_takeB (set_takeB ht0 (by omega) HO.out.1) (by rw [List.length_set]; omega) HO.out.2.1) (by rw [List.length_set, List.length_set]; omega) HO.out.2.2.1) (by rw [List.length_set, List.length_set, List.length_set]; omega) HO.out.2.2.2
                  have HB5 := Lib.hid hb4
                  have HF5 := Lib.hid hf4
                  have HT5 := Lib.hid ht4
                  clear hb4 hf4 ht0 hl ht4 hm0 hm1 hm2 hm3 hz0 hz1 hz2 hz3 e1 e2 e3 w1e w2e w3e hcs
                  go_wp2
                  go_roundw
                  case rel => exact ⟨k + 1, _, by omega, by go_num, by simp only [List.length_set]; exact HM.out, HT5.out, HB5.out, HF5.out⟩
                  case measure => simp [intOf]; omega
                · have hMO : M = O := by
                    have e := HTT.out
                    rw [List.take_of_length_le (by have := HM.out; omega), List.take_of_length_le (by have := HOL.out; omega)] at e
                    exact e
                  have hsz : ((M.map by8).toArray).size = 32 := by simp [HM.out]
                  have hone : (((M.map by8).toArray).all (·.oneCell')) = true := by
                    rw [Array.all_eq_true_iff_forall_mem]
                    intro u hu
                    exact by8_one M u (by simpa using hu)
                  have HHM : Hid ((M.map by8).toArray = ((sumL l).map by8).toArray) := Lib.hid (by rw [hMO, HOS.out])
                  have HSZ := Lib.hid hsz
                  have HONE := Lib.hid hone
                  have hdk8 : decide ((k : Int) < 8) = false := by simp; omega
                  have hk8 : (8 : Int) ≤ k := by omega
                  clear hsz hone hlt hMO
                  have HBRR := Lib.hid (HHRz.out.keep HFM.out (by simp; omega))
                  generalize (M.map by8).toArray = H at *
                  go_wp2_with (first
                    | (refine wpList_load_row rfl 35 _ rfl go rfl 35 H _ _ HBM.out Try.underlying35 rfl (by rw [hash_sizeS, HSZ.out]) ?_)
                    | (refine wpList_store_row rfl 35 _ _ rfl g2 H rfl rfl 35 zeroH HBRR.out (by rw [hash_sizeS, HSZ.out]) (by rw [HSZ.out, zeroH_size]) HONE.out ?_))
                  have hgr := setRow_blk HBRR.out H
                  refine bodyPost_ret (v := .agg H) (results_cell_row Try.results49 _ _ g2 35 H _ _ rfl hgr Try.underlying35 rfl (by rw [hash_sizeS, HSZ.out])) rfl ⟨?_, ?_⟩
                  · rw [HHM.out]
                  · exact ((HFRz.out.trans HFM.out (fun x hx hl => by have := HGOW.out; simp at hx; omega))).trans (setRow_fr _ g2 H) (fun x hx hl => by have := HG2.out; simp at hx; omega)
end Go.Proofs.Ytlkhfhhaallhgaa
