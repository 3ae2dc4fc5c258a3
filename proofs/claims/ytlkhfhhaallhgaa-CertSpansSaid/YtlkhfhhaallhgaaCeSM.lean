/- The walk of CertSpans. -/
import Derived.Test.YtlkhfhhaallhgaaCeGM
namespace Go.Proofs.Ytlkhfhhaallhgaa
open Go.RowKit Go.Sort
set_option maxRecDepth 100000
theorem built_n01 : Try.prog.built 23 [(1, .int .i64 1)] = some #[.int .i64 0, .int .i64 1] := by kernel_rfl
theorem lst_cut {w : World} {A : Option Addr} {n cap q : Nat} {l : List Wst} (h : Lst 38 Wst.cells (fun _ v => v.Ok) w A n l) (hk : q ≤ n) (hc : n ≤ cap) : Lst 38 Wst.cells (fun _ v => v.Ok) w (if cap = q then A else A.map (·.add (q * 38))) (n - q) (l.drop q) := by
  refine ⟨by rw [List.length_drop, h.1], fun v hv => h.2.1 v (List.mem_of_mem_drop hv), fun hn => ?_⟩
  obtain ⟨ad, rfl, hcell⟩ := h.2.2 (by omega)
  rw [if_neg (by omega)]
  refine ⟨ad.add (q * 38), rfl, fun i v hv j x hx => ?_⟩
  rw [add_add]
  rw [List.getElem?_drop] at hv
  have := hcell (q + i) v hv j x hx
  rw [show q * 38 + (i * 38 + j) = (q + i) * 38 + j by omega]
  exact this
set_option maxHeartbeats 8000000 in
theorem certSpans_walk (w : World) (f0 : Int) (hf1 : -9223372036854775808 ≤ f0) (hf2 : f0 < 9223372036854775808)
    (T : Option Addr) (nT cT : Nat) (lT : List Int) (hT : UL w T nT lT) (hTc : nT ≤ cT) (hTm : cT ≤ maxLen)
    (B : Option Addr) (nb cb : Nat) (lb : List Int) (hb : Nums w B nb lb) (hnb : nb ≤ cb) (hcb : cb ≤ maxLen) :
    Calls Try.prog 5 #[.int .i64 f0, .slice T nT cT, .slice B nb cb] w fun e w' => e = .returned (.bool true) ∧ Fr [] w w' := by
  have hmod := within_pos f0 4 hf1 hf2 (by decide) (by decide) w
  obtain ⟨Fn, hF, hF1, hF2⟩ : ∃ Fn : Nat, 1 + f0 % 4 = (Fn : Int) ∧ 1 ≤ Fn ∧ Fn ≤ 4 := ⟨(1 + f0 % 4).toNat, by omega, by omega, by omega⟩
  have hm0 : 0 ≤ f0 % 4 := Int.emod_nonneg _ (by omega)
  have hm1 : f0 % 4 < 4 := Int.emod_lt_of_pos _ (by omega)
  generalize f0 % 4 = f3 at *
  have HFN := Lib.hid hF
  have HMOD := Lib.hid hmod
  have HT := Lib.hid hT
  have HNB := Lib.hid hb
  have hnT64 : (nT : Int) ≤ 9223372036854775807 := by unfold maxLen at hTm; omega
  have hnb64 : (nb : Int) ≤ 9223372036854775807 := by unfold maxLen at hcb; omega
  clear hT hTc hTm hb hnb hcb hf1 hf2 hF hmod
  go_enter Try.func5, Try.ntmps5
  go_upto_region 2 with (first
    | (go_at_call 6; refine HMOD.out.mono ?_; rintro e_ w' ⟨rfl, rfl⟩)
    | (refine wpList_builtg rfl 27 _ rfl _ _ (built_cfC (1 + f3) 1) rfl ?_)
    | (refine wpList_store_box rfl 27 _ _ rfl #[.int .i64 0, .int .i64 0] 27 [.int .i64 (1 + f3), .int .i64 1] rfl rfl (by kernel_rfl) rfl (by intro v hv; simp at hv; rcases hv with rfl | rfl <;> rfl) ?_; intro w1 hb1 hf1))
  try simp only [Act.put]
  rw [HFN.out] at hb1 ⊢
  have hb1' : Blk w1 w.heap.size 27 #[.int .i64 (Fn : Int), .int .i64 1] := by simpa using hb1
  have HCF1 := Lib.hid hb1'
  have HF1 := Lib.hid hf1
  clear hb1 hb1' hf1 HMOD hm0 hm1
  go_wp2_with fail
  refine (cenew_any w1).mono ?_
  rintro e w3 ⟨Sb, gb, gr, rfl, hb3, hr3, hf3, hn3, hg3, hng⟩
  have HB3 := Lib.hid hb3
  have HR3 := Lib.hid hr3
  have HF3 := Lib.hid hf3
  have HN3 := Lib.hid (And.intro hn3 (And.intro hg3 hng))
  clear hb3 hr3 hf3 hn3 hg3 hng
  go_upto_region 5 with (refine wpList_store_box rfl 31 _ _ rfl #[.pointer none, .pointer none] 31 [.pointer (some ⟨gb, 0, none⟩), .pointer (some ⟨gr, 0, none⟩)] rfl rfl (by kernel_rfl) rfl (by intro v hv; simp at hv; rcases hv with rfl | rfl <;> rfl) ?_; intro w4 hb4 hf4)
  have HBX4 := Lib.hid hb4
  have HF4 := Lib.hid hf4
  clear hb4 hf4
  obtain ⟨gC, hgC⟩ : ∃ gC, gC = w.heap.size := ⟨_, rfl⟩
  obtain ⟨gKb, hgK⟩ : ∃ gKb, gKb = w3.heap.size := ⟨_, rfl⟩
  have HF14 := Lib.hid ((HF1.out.trans HF3.out (by simp)).trans HF4.out (by simp))
  have HLT : Hid (w.heap.size ≤ gC ∧ gC < w1.heap.size ∧ w1.heap.size ≤ gKb ∧ gKb < w4.heap.size) := Lib.hid (by
    rw [hgC, hgK]
    exact ⟨Nat.le_refl _, HCF1.out.lt, HF3.out.size, HBX4.out.lt⟩)
  have HCF4 := Lib.hid ((HCF1.out.keep HF3.out (by simp)).keep HF4.out (by simp))
  have HBB4 : Hid (BB w4 Sb gb [gr] gr []) := Lib.hid ⟨HB3.out.keep HF4.out (by simp), HR3.out.keep HF4.out (by simp), List.nodup_nil, fun k hk hm => by simp at hk; subst hk; exact HN3.out.2.2 hm⟩
  have HSL : Hid ((∀ k ∈ Sb, w1.heap.size ≤ k ∧ k < gKb) ∧ w1.heap.size ≤ gr ∧ gr < gKb) := Lib.hid (by
    rw [hgK]
    exact ⟨fun k hk => ⟨HN3.out.1 k hk, HB3.out.lt k hk⟩, HN3.out.2.1, HR3.out.lt gr (by simp)⟩)
  rw [← hgC] at HCF4 ⊢
  rw [← hgK] at HBX4 ⊢
  clear HCF1 HB3 HR3 HN3 hgC hgK
  have HFW4 : Hid (Fr [] w w4) := HF14
  have hbk := HBX4.out.range
  go_wp2_with (first
    | (refine wpList_midg rfl 31 _ rfl gKb 0 rfl _ HBX4.out.range row_books ?_)
    | (refine wpList_builtg rfl 23 _ rfl _ _ built_n01 rfl ?_))
  refine (bkCommit_any 0 1 ⟨by decide, by decide⟩ ⟨by decide, by decide⟩ none 0 0 [] w4 (By.nil _ _) (by simp [bk]) (by omega) Sb gb [gr] gr [] HBB4.out (by decide)).mono ?_
  rintro e w5 ⟨rfl, Sr5, hbb5, hf5, hs5⟩
  have HBB5 := Lib.hid hbb5
  have HF5 := Lib.hid hf5
  have HS5 : Hid (∀ q ∈ Sr5, q < w4.heap.size → q = gr) := Lib.hid (fun q hq h => by simpa using hs5 q hq h)
  have HYR : Hid (rightC 1 (sgn [] (1000 + 0, (made 0 1 hzC [] []).text)) (made 0 1 hzC [] []) = true) := Lib.hid (made_right 0 1 (by decide) hzC [] [] 1 (by decide) ⟨by decide, by decide⟩ (by decide))
  have HYO : Hid (made 0 1 hzC [] []).Ok := Lib.hid (made_ok 0 1 (by decide) ⟨by decide, by decide⟩ hzC [] (by decide) [] (by decide))
  have HL5 : Hid ((sgn [] (1000 + 0, (made 0 1 hzC [] []).text)).length ≤ 1) := Lib.hid (by have := sgn_lenC [] (1000 + 0, (made 0 1 hzC [] []).text); simpa using this)
  clear hbb5 hf5 hs5
  generalize sgn [] (1000 + 0, (made 0 1 hzC [] []).text) = b5 at *
  generalize made 0 1 hzC [] [] = Y at *
  obtain ⟨YC, hYC⟩ : ∃ YC, Y.cells = YC := ⟨_, rfl⟩
  have hyv : Y.val = .agg YC.toArray := by rw [← hYC]; rfl
  have HYL : Hid (YC.length = 37) := Lib.hid (by rw [← hYC]; exact Cm.len HYO.out.h)
  have HYN : Hid (∀ u ∈ YC, u.oneCell' = true) := Lib.hid (by rw [← hYC]; exact Cm.one Y)
  have HYC := Lib.hid hYC
  rw [hyv]
  clear hyv hYC
  have HNB5 : Hid (∀ q, (q = gC ∨ q = gKb ∨ w4.heap.size ≤ q) → ¬ q ∈ Sb ++ [gr]) := Lib.hid (fun q hq hm => by
    have h1 := HLT.out
    have h2 := HSL.out
    rcases List.mem_append.1 hm with h | h
    · have := h2.1 q h
      rcases hq with rfl | rfl | hq <;> omega
    · simp at h
      subst h
      rcases hq with rfl | rfl | hq <;> omega)
  go_upto_region 6 with (refine wpList_store_box rfl 39 _ _ rfl zeroCm 39 YC rfl rfl (by rw [HYL.out]; kernel_rfl) (by rw [HYL.out]; rfl) HYN.out ?_; intro w6 hb6 hf6)
  have HY6 := Lib.hid hb6
  have HF6 := Lib.hid hf6
  clear hb6 hf6
  obtain ⟨gM, hgM⟩ : ∃ gM, gM = w5.heap.size := ⟨_, rfl⟩
  rw [← hgM] at HY6 ⊢
  have HMT : Hid (w4.heap.size ≤ gM ∧ gM < w6.heap.size) := Lib.hid ⟨by rw [hgM]; exact HF5.out.size, HY6.out.lt⟩
  have HBB6 := Lib.hid (HBB5.out.keep HF6.out (by simp) (by simp))
  have HF46 := Lib.hid (HF5.out.trans HF6.out (by simp))
  have HCF6 := Lib.hid (HCF4.out.keep HF46.out (HNB5.out gC (.inl rfl)))
  have HBX6 := Lib.hid (HBX4.out.keep HF46.out (HNB5.out gKb (.inr (.inl rfl))))
  have HSLT : Hid (∀ q ∈ Sb ++ Sr5, q ≠ gC ∧ q ≠ gKb ∧ q ≠ gM ∧ q < w6.heap.size ∧ w1.heap.size ≤ q) := Lib.hid (fun q hq => by
    have h1 := HLT.out
    have h2 := HSL.out
    have h3 := HMT.out
    rcases List.mem_append.1 hq with h | h
    · have := h2.1 q h
      have h5 := HBB5.out.b.lt q h
      exact ⟨by omega, by omega, by omega, by omega, by omega⟩
    · have h5 := HBB5.out.r.lt q h
      rcases Nat.lt_or_ge q w4.heap.size with h6 | h6
      · have := HS5.out q h h6
        exact ⟨by omega, by omega, by omega, by omega, by omega⟩
      · exact ⟨by omega, by omega, by omega, by omega, by omega⟩)
  have HFW6 : Hid (Fr [] w w6) := Lib.hid (HFW4.out.and HF46.out (fun q hq => by
    have h1 := HLT.out
    have h2 := HSL.out
    rcases List.mem_append.1 hq with h | h
    · have := h2.1 q h; omega
    · simp at h; omega))
  clear HBB4 HCF4 HBX4 HBB5 HF5 HF6 HF46 hgM HS5 HNB5
  have hcf6 := HCF6.out.cell 0
  simp only [List.getElem?_toArray, List.getElem?_cons_zero] at hcf6
  obtain ⟨N, hN⟩ : ∃ N, N = 3 * Fn + 1 := ⟨_, rfl⟩
  have hN13 : N ≤ 13 := by omega
  have hN1 : 1 ≤ N := by omega
  have HNI := Lib.hid (show 3 * (Fn : Int) + 1 = (N : Int) by omega)
  have HNF := Lib.hid hN
  have hw3 : IntKind.i64.wrap (3 * (Fn : Int)) = 3 * (Fn : Int) := IntWalk.i64_in _ (by omega)
  have hw4 : IntKind.i64.wrap (3 * (Fn : Int) + 1) = (N : Int) := (IntWalk.i64_in _ (by omega)).trans HNI.out
  clear hN
  go_upto_region 7 with (fail)
  clear hw3 hw4 hcf6
  have HT6 : Hid (UL w6 T nT lT) := Lib.hid (HT.out.keep HFW6.out (by simp))
  go_upto_block 0 with (fail)
  go_cut [12, 13, 14, 15] (fun sa sl sh _ wx => ∃ (k : Nat) (A9 : Option Addr) (c9 : Nat) (L : List Wst) (b : List Ent) (Sr' : List Nat) (lo hi : Nat), k = N ∧ sa = .slice A9 k c9 ∧ sl = .int .u64 (lo : Int) ∧ sh = .int .u64 (hi : Int) ∧ lo < 18446744073709551616 ∧ hi < 18446744073709551616 ∧ Hid (L.length = k) ∧ Hid (∀ (i : Nat) (v : Wst), L[i]? = some v → v.r = (i : Int)) ∧ Hid (∀ v ∈ L, Gd (Fn : Int) b (wcm Y) lo hi v) ∧ Hid (wx.ownsRow w6.heap.size 45 38 (.slice A9 k c9) k (L.flatMap Wst.cells)) ∧ Hid (BB wx Sb gb Sr' gr b) ∧ Hid (b.length ≤ k + 1) ∧ Hid (Pre b5 b) ∧ Hid (∀ q ∈ Sr', q < w6.heap.size → q ∈ Sr5) ∧ Hid (∀ q ∈ bk A9, ¬ q ∈ Sr') ∧ Hid (Fr (Sb ++ Sr5) w6 wx))
  case first =>
    go_wp2_with fail
    go_loopw [12, 13, 14, 15] (fun sa sl sh si wx => ∃ (k : Nat) (A9 : Option Addr) (c9 : Nat) (L : List Wst) (b : List Ent) (Sr' : List Nat) (lo hi : Nat), k ≤ N ∧ si = .int .i64 k ∧ sa = .slice A9 k c9 ∧ sl = .int .u64 (lo : Int) ∧ sh = .int .u64 (hi : Int) ∧ lo < 18446744073709551616 ∧ hi < 18446744073709551616 ∧ Hid (L.length = k) ∧ Hid (∀ (i : Nat) (v : Wst), L[i]? = some v → v.r = (i : Int)) ∧ Hid (∀ v ∈ L, Gd (Fn : Int) b (wcm Y) lo hi v) ∧ Hid (wx.ownsRow w6.heap.size 45 38 (.slice A9 k c9) k (L.flatMap Wst.cells)) ∧ Hid (BB wx Sb gb Sr' gr b) ∧ Hid (b.length ≤ k + 1) ∧ Hid (Pre b5 b) ∧ Hid (∀ q ∈ Sr', q < w6.heap.size → q ∈ Sr5) ∧ Hid (∀ q ∈ bk A9, ¬ q ∈ Sr') ∧ Hid (Fr (Sb ++ Sr5) w6 wx)) (fun _ _ _ i _ => N + 1 - (intOf i).toNat)
    case atStart => exact ⟨0, none, 0, [], b5, Sr5, 18446744073709551615, 0, Nat.zero_le _, rfl, rfl, rfl, rfl, by decide, by decide, Lib.hid rfl, Lib.hid (by simp), Lib.hid (by simp), Lib.hid ⟨rfl, .inl ⟨rfl, rfl⟩⟩, HBB6, Lib.hid (by have := HL5.out; omega), Lib.hid (Pre.refl _), Lib.hid (fun q h _ => h), Lib.hid (by simp [bk]), Lib.hid (Fr.refl _ _)⟩
    case round =>
      obtain ⟨k, A9, c9, L, b, Sr', lo, hi, hkN, rfl, rfl, rfl, rfl, hlo, hhi, HLL, HLR, HLG, HO, HBK, HBL, HPB, HSN, HAD, HF⟩ := hrel
      rename World => wr
      by_cases hkn : k < N
      case neg =>
        have hke : k = N := by omega
        go_wp2_with fail
        go_meet
        exact ⟨k, A9, c9, L, b, Sr', lo, hi, hke, rfl, rfl, rfl, hlo, hhi, HLL, HLR, HLG, HO, HBK, HBL, HPB, HSN, HAD, HF⟩
      go_upto_if 47 with (fail)
      go_cut [16] (fun s wx => ∃ t : Nat, s = .int .u64 (t : Int) ∧ 1 ≤ t ∧ t ≤ 5000 ∧ wr = wx)
      case first =>
        by_cases hkT : k < nT
        · have HUL : Hid (UL wr T nT lT) := Lib.hid (Lst.keep' HT6.out HF.out (fun hn a ha hm => by
            have h1 := HSLT.out a.block hm
            have h2 := HT.out.lt hn a ha
            have h3 := HLT.out
            omega) (fun _ _ h => h))
          obtain ⟨ad, v, rfl, hv, hv0, hv1, hcell⟩ := HUL.out.get hkT
          obtain ⟨tt, ht1, ht2, ht3⟩ : ∃ tt : Nat, 1 + v % 5000 = (tt : Int) ∧ 1 ≤ tt ∧ tt ≤ 5000 := ⟨(1 + v % 5000).toNat, by omega, by omega, by omega⟩
          have HT1 := Lib.hid ht1
          clear ht1
          go_wp2_with fail
          go_meet
          exact ⟨tt, congrArg (Value.int .u64) HT1.out, ht2, ht3, rfl⟩
        · go_wp2_with fail
          go_meet
          exact ⟨9, rfl, by omega, by omega, rfl⟩
      case rest =>
      obtain ⟨t, rfl, ht1, ht5, rfl⟩ := hcut
      go_upto_region 16 with (fail)
      have HSBL : Hid (∀ q ∈ Sb ++ Sr', q ≠ gC ∧ q ≠ gKb ∧ q ≠ gM ∧ q < wr.heap.size) := Lib.hid (fun q hq => by
        have h3 := HMT.out
        have h4 := HLT.out
        have h5 := HF.out.size
        rcases List.mem_append.1 hq with h | h
        · have := HSLT.out q (List.mem_append.2 (.inl h))
          exact ⟨this.1, this.2.1, this.2.2.1, HBK.out.b.lt q h⟩
        · have h8 := HBK.out.r.lt q h
          rcases Nat.lt_or_ge q w6.heap.size with h6 | h6
          · have := HSLT.out q (List.mem_append.2 (.inr (HSN.out q h h6)))
            exact ⟨this.1, this.2.1, this.2.2.1, h8⟩
          · exact ⟨by omega, by omega, by omega, h8⟩)
      have HBXr := Lib.hid ((HBX6.out.keep HF.out (fun hm => (HSLT.out _ hm).2.1 rfl)).range)
      have HYr := Lib.hid ((HY6.out.keep HF.out (fun hm => (HSLT.out _ hm).2.2.1 rfl)).range)
      have HST := bkStamp_any (k : Int) ⟨by omega, by omega⟩ Y HYO.out t (by omega) wr Sb gb Sr' gr b HBK.out (by have := HBL.out; omega)
      rw [HYC.out] at HST
      have HVO : Hid (stOf (k : Int) Y t b).Ok := Lib.hid (stOf_ok ⟨by omega, by omega⟩ HYO.out (by omega) (by have := HBL.out; omega))
      have HVG : Hid (Gd (Fn : Int) (bkOf (k : Int) Y t b) (wcm Y) (min lo t) (max hi t) (stOf (k : Int) Y t b)) := Lib.hid ⟨HVO.out, by unfold hasB; rw [decide_eq_true_eq]; exact ⟨by show (0 : Int) ≤ (k : Int); omega, by show (k : Int) < 3 * (Fn : Int) + 1; have := HNI.out; omega⟩, stOf_of _ _ _ _ _ rfl rfl rfl, stOf_right (by unfold hasB; rw [decide_eq_true_eq]; exact ⟨by omega, by have := HNI.out; omega⟩) ht1 (by omega), by show min lo t ≤ t; omega, by show t ≤ max hi t; omega⟩
      have HVR : Hid ((stOf (k : Int) Y t b).r = (k : Int)) := Lib.hid rfl
      have HPP : Hid (Pre b (bkOf (k : Int) Y t b)) := Lib.hid (Pre.sgn _ _)
      have HBL2 : Hid ((bkOf (k : Int) Y t b).length ≤ b.length + 1) := Lib.hid (sgn_lenC _ _)
      go_wp2_with (first
        | (refine wpList_midg rfl 31 _ rfl gKb 0 rfl _ HBXr.out row_books ?_)
        | (refine wpList_midg rfl 39 _ rfl gM 0 rfl YC HYr.out (row_cmt.of HYL.out) ?_))
      refine HST.mono ?_
      rintro e w7 ⟨rfl, Sr2, hb2, hf2, hs2⟩
      generalize bkOf (k : Int) Y t b = b2 at *
      generalize stOf (k : Int) Y t b = v at *
      have HBK2 := Lib.hid hb2
      have HF2 := Lib.hid hf2
      have HS2 := Lib.hid hs2
      clear hb2 hf2 hs2 HST
      have HAB : Hid (∀ q ∈ bk A9, ¬ q ∈ Sb ++ Sr') := Lib.hid (fun q hq hm => by
        rcases List.mem_append.1 hm with h | h
        · have h1 := own_ge HO.out q hq
          have h2 := (HSLT.out q (List.mem_append.2 (.inl h))).2.2.2.1
          omega
        · exact HAD.out q hq h)
      have HO7 := Lib.hid (own_keep HO.out HF2.out (fun q hq => HAB.out q ((bk_mem A9 k c9 q).1 hq)))
      have HAS2 : Hid (∀ q ∈ bk A9, ¬ q ∈ Sr2) := Lib.hid (fun q hq hm => HAD.out q hq (HS2.out q hm (own_lt HO.out q ((bk_mem A9 k c9 q).2 hq))))
      have HF7 : Hid (Fr (Sb ++ Sr5) w6 w7) := Lib.hid (HF.out.trans HF2.out (fun q hq hl => by
        rcases List.mem_append.1 hq with h | h
        · exact List.mem_append.2 (.inl h)
        · exact List.mem_append.2 (.inr (HSN.out q h hl))))
      obtain ⟨D, hD⟩ : ∃ D, v.cells = D := ⟨_, rfl⟩
      have HDL : Hid (38 = D.length) := Lib.hid (by rw [← hD]; exact (Wst.len HVO.out.h).symm)
      have HD1 : Hid (∀ u ∈ D, u.oneCell' = true) := Lib.hid (by rw [← hD]; exact v.one)
      have HDD : Hid ((L ++ [v]).flatMap Wst.cells = L.flatMap Wst.cells ++ D) := Lib.hid (by rw [List.flatMap_append, List.flatMap_singleton, hD])
      unfold Wst.val
      rw [hD]
      clear hD
      go_wp2_with (first
        | (refine wpList_build_one rfl 42 45 _ rfl Try.underlying42 D 80 (by rw [← HDL.out]; exact el_stamp) rfl (by rw [← HDL.out]; decide) (by rw [← HDL.out]; decide) ?_)
        | (at_builtin; refine Stop.mk ?_))
      refine Stop.go ?_
      refine wpList_append_one3 rfl _ _ 42 45 rfl Try.underlying42 38 80 el_stamp (by decide) w6.heap.size (.slice A9 k c9) k _ D rfl (HO7.out.alloc _) (by have := HF7.out.size; simp; omega) HDL.out.symm HD1.out w7.heap.size 45 rfl (Blk.new w7 _ _) (by omega) (by decide) ?_
      intro A1 c1 w8 ho8 hf8 hb8
      have HO8 : Hid (w8.ownsRow w6.heap.size 45 38 (.slice A1 (k + 1) c1) (k + 1) ((L ++ [v]).flatMap Wst.cells)) := Lib.hid (by rw [HDD.out]; exact ho8)
      have hfz : Fr (bk A9) w7 w8 := (((Fr.refl [] w7).alloc (Obj.cells D.toArray 45)).mono (T := bk A9) (by simp)).trans (by rw [← bk_own A9 k c9]; exact hf8) (fun _ h _ => h)
      have HF8 : Hid (Fr (Sb ++ Sr5) w6 w8) := Lib.hid (HF7.out.trans hfz (fun q hq hl => by have := own_ge HO7.out q hq; omega))
      have HBK8 := Lib.hid (HBK2.out.keep hfz (fun q hq hm => HAB.out q hm (List.mem_append.2 (.inl hq))) (fun q hq hm => HAS2.out q hm hq))
      have HA8 : Hid (∀ q ∈ bk A1, ¬ q ∈ Sr2) := Lib.hid (fun q hq hm => by
        rw [← bk_own A1 (k + 1) c1] at hq
        rcases hb8 with h | h
        · rw [h, bk_own] at hq; exact HAS2.out q hq hm
        · rw [h] at hq
          simp at hq
          have h1 := HBK2.out.r.lt q hm
          omega)
      have HLL2 : Hid ((L ++ [v]).length = k + 1) := Lib.hid (by rw [List.length_append, HLL.out]; rfl)
      have HLR2 : Hid (∀ (i : Nat) (u : Wst), (L ++ [v])[i]? = some u → u.r = (i : Int)) := Lib.hid (fun i u hu => by
        rcases Nat.lt_or_ge i k with h | h
        · rw [List.getElem?_append_left (by rw [HLL.out]; exact h)] at hu
          exact HLR.out i u hu
        · rw [List.getElem?_append_right (by rw [HLL.out]; exact h), HLL.out] at hu
          have h3 := (List.getElem?_eq_some_iff.1 hu).1
          simp at h3
          have h4 : i = k := by omega
          subst h4
          rw [Nat.sub_self] at hu
          simp at hu
          rw [← hu]
          exact HVR.out)
      have HLG2 : Hid (∀ u ∈ L ++ [v], Gd (Fn : Int) b2 (wcm Y) (min lo t) (max hi t) u) := Lib.hid (fun u hu => by
        rcases List.mem_append.1 hu with h | h
        · exact (HLG.out u h).pre HPP.out (Nat.min_le_left _ _) (Nat.le_max_left _ _)
        · rw [List.mem_singleton.1 h]; exact HVG.out)
      have HSN2 : Hid (∀ q ∈ Sr2, q < w6.heap.size → q ∈ Sr5) := Lib.hid (fun q hq hl => HSN.out q (HS2.out q hq (Nat.lt_of_lt_of_le hl HF.out.size)) hl)
      have HBL3 : Hid (b2.length ≤ k + 1 + 1) := Lib.hid (by have := HBL.out; have := HBL2.out; omega)
      have HPB2 := Lib.hid (HPB.out.trans HPP.out)
      have hlo2 : min lo t < 18446744073709551616 := by omega
      have hhi2 : max hi t < 18446744073709551616 := by omega
      have hmi : min (lo : Int) (t : Int) = ((min lo t : Nat) : Int) := by omega
      have hma : max (hi : Int) (t : Int) = ((max hi t : Nat) : Int) := by omega
      clear ho8 hf8 hb8 hfz
      go_wp2_with fail
      go_roundw
      case rel => exact ⟨k + 1, A1, c1, L ++ [v], b2, Sr2, min lo t, max hi t, by omega, by go_num, rfl, rfl, rfl, hlo2, hhi2, HLL2, HLR2, HLG2, HO8, HBK8, HBL3, HPB2, HSN2, HA8, HF8⟩
      case measure => simp [intOf]; omega
  case rest =>
  obtain ⟨k, A9, c9, L, b, Sr', lo, hi, rfl, rfl, rfl, rfl, hlo, hhi, HLL, HLR, HLG, HO, HBK, HBL, HPB, HSN, HAD, HF⟩ := hcut
  rename World => wb
  have HAP : Hid (L.Pairwise (fun a b => a.r ≠ b.r)) := Lib.hid (by
    rw [List.pairwise_iff_getElem]
    intro i j hi hj hij
    have h1 := HLR.out i L[i] (List.getElem?_eq_getElem hi)
    have h2 := HLR.out j L[j] (List.getElem?_eq_getElem hj)
    omega)
  have HCAP : Hid (k ≤ c9 ∧ c9 ≤ maxLen) := Lib.hid ⟨own_capn HO.out, own_capm HO.out⟩
  have HLS : Hid (Lst 38 Wst.cells (fun _ v => v.Ok) wb A9 k L) := Lib.hid (Lst.of_own HO.out HLL.out (fun v hv => ⟨Wst.len (HLG.out v hv).ok.h, (HLG.out v hv).ok⟩))
  have HBXb := Lib.hid (HBX6.out.keep HF.out (fun hm => (HSLT.out _ hm).2.1 rfl))
  have HYb := Lib.hid ((HY6.out.keep HF.out (fun hm => (HSLT.out _ hm).2.2.1 rfl)).range)
  have HCFb := Lib.hid (HCF6.out.keep HF.out (fun hm => (HSLT.out _ hm).1 rfl))
  have HNBb := Lib.hid ((HNB.out.keep HFW6.out (by simp)))
  have HNBD : Hid (0 < nb → ∀ a, B = some a → ¬ a.block ∈ Sb ++ Sr5) := Lib.hid (fun hn a ha hm => by
    have h1 := HSLT.out a.block hm
    have h2 := HNB.out.lt hn a ha
    have h3 := HLT.out
    omega)
  have HFWb : Hid (Fr [] w wb) := Lib.hid (HFW6.out.and HF.out (fun q hq => by
    have h1 := HSLT.out q hq
    have h2 := HLT.out
    omega))
  have HNBx : Hid (∀ j, j < nb → ∃ ad v, B = some ad ∧ -9223372036854775808 ≤ v ∧ v < 9223372036854775808 ∧ wb.cell? (ad.add j) = some (.int .i64 v)) := Lib.hid (fun j hj => by
    obtain ⟨ad, v, h1, h2, h3, h4⟩ := HNBb.out.at hj
    exact ⟨ad, v, h1, h2, h3, HF.out.cell h4 (by rw [add_block]; exact HNBD.out (by omega) ad h1)⟩)
  have HRC : Hid (rightC 1 b (cmOf (wcm Y)) = true) := Lib.hid (by rw [cmOf_wcm]; exact rightC_pre HPB.out HYR.out)
  have HBOK := Lib.hid HBK.out.b
  obtain ⟨Q, hQ⟩ : ∃ Q, Q = 2 * Fn + 1 := ⟨_, rfl⟩
  have HQF := Lib.hid hQ
  have hQk : Q ≤ k := by have := HNF.out; omega
  have hQ9 : Q ≤ 9 := by omega
  have hQ1 : 1 ≤ Q := by omega
  have hQo : Q % 2 = 1 := by omega
  clear hQ HNB HT HT6 HNBb HNBD HO HBK HBL HPB HSN HAD HBX6 HY6 HCF6 HFW6 HBB6 HL5 HYR HFW4
  go_upto_block 2 with (fail)
  go_cut [17] (fun _ wx => Hid (Fr [] wb wx))
  case first =>
    go_wp2_with fail
    go_loopw [17] (fun i wr => ∃ j : Nat, j ≤ nb ∧ i = .int .i64 j ∧ Hid (Fr [] wb wr)) (fun i _ => nb + 1 - (intOf i).toNat)
    case atStart => exact ⟨0, Nat.zero_le _, rfl, Lib.hid (Fr.refl _ _)⟩
    case round =>
      obtain ⟨j, hjn, rfl, HFr⟩ := hrel
      rename World => wr
      by_cases hlt : j < nb ∧ j < 6
      case neg =>
        by_cases hk2 : j < nb
        · have hk3 : ¬ j < 6 := fun h => hlt ⟨hk2, h⟩
          have hk4 : ¬ (j : Int) < 6 := by omega
          go_wp2_with fail
          go_meet
          exact HFr
        · go_wp2_with fail
          go_meet
          exact HFr
      obtain ⟨hj1, hj2⟩ := hlt
      have hj6 : (j : Int) < 6 := by omega
      obtain ⟨adb, z, rfl, hz1, hz2, hzc⟩ := HNBx.out j hj1
      have hzr := HFr.out.cell hzc (by simp)
      have hw2 := within_pos z (k : Int) hz1 hz2 (by omega) (by omega) wr
      obtain ⟨q, hq, hqk⟩ : ∃ q : Nat, z % (k : Int) = (q : Int) ∧ q < k := ⟨(z % (k : Int)).toNat, by have := Int.emod_nonneg z (show (k : Int) ≠ 0 by omega); omega, by have := Int.emod_lt_of_pos z (show (0 : Int) < k by omega); omega⟩
      rw [hq] at hw2
      go_upto_region 21 with (first | (go_at_call 6; refine hw2.mono ?_; rintro e w' ⟨rfl, rfl⟩))
      clear hw2 hzr hzc hq hz1 hz2
      have hqk' : q ≤ k := by omega
      have hqc : q ≤ c9 := by have := HCAP.out; omega
      have HLr := Lib.hid (HLS.out.keep HFr.out (by simp) (fun _ _ h => h))
      refine wp_region_held_drew (S := Fr [] wr) (by kernel_rfl) (Fr.drew (Fr.refl _ wr)) (fun hHeld => ?_)
      refine run_at (i := 0) (v := ?_) rfl (by kernel_rfl) (by rfl) (fun _ _ _ h => h) hHeld (fun w1 hw1 => ?_) ?_
      rotate_left 1
      · skip
        go_simp
        (try (first | with_reducible rfl | (apply And.intro <;> rfl)))
      simp only [Act.put, List.setIfInBounds_toArray, List.set_cons_zero, List.set_cons_succ]
      refine run_at (i := 1) (v := ?_) rfl (by kernel_rfl) (by rfl) (fun _ _ _ h => h) hHeld (fun w1 hw1 => ?_) ?_
      rotate_left 1
      · skip
        go_simp
        (try (first | with_reducible rfl | (apply And.intro <;> rfl)))
      simp only [Act.put, List.setIfInBounds_toArray, List.set_cons_zero, List.set_cons_succ]
      refine run_at (i := 2) (v := ?_) rfl (by kernel_rfl) (by rfl) (fun _ _ _ h => h) hHeld (fun w1 hw1 => ?_) ?_
      rotate_left 1
      · skip
        go_simp
        (try (first | with_reducible rfl | (apply And.intro <;> rfl)))
      simp only [Act.put, List.setIfInBounds_toArray, List.set_cons_zero, List.set_cons_succ]
      refine run_at (i := 4) (v := ?_) rfl (by kernel_rfl) (by rfl) (fun _ _ _ h => h) hHeld (fun w1 hw1 => ?_) ?_
      rotate_left 1
      · skip
        go_simp
        (try (first | with_reducible rfl | (apply And.intro <;> rfl)))
      simp only [Act.put, List.setIfInBounds_toArray, List.set_cons_zero, List.set_cons_succ]
      refine run_at (i := 5) (v := ?_) rfl (by kernel_rfl) (by rfl) (fun _ _ _ h => h) hHeld (fun w1 hw1 => ?_) ?_
      rotate_left 1
      · skip
        go_simp
        (try (first | with_reducible rfl | (apply And.intro <;> rfl)))
      simp only [Act.put, List.setIfInBounds_toArray, List.set_cons_zero, List.set_cons_succ]
      refine run_at (i := 6) (v := ?_) rfl (by kernel_rfl) (by rfl) (fun _ _ _ h => h) hHeld (fun w1 hw1 => ?_) ?_
      rotate_left 1
      · skip
        go_simp
        (try (first | with_reducible rfl | (apply And.intro <;> rfl)))
      simp only [Act.put, List.setIfInBounds_toArray, List.set_cons_zero, List.set_cons_succ]
      refine call_at (i := 3) (f := ?_) (args := ?_) rfl (by kernel_rfl) (by rfl) ?_ ?_
      rotate_left 2
      · go_simp
        (try (first | with_reducible rfl | (apply And.intro <;> rfl)))
      refine (copyStamps_any (if c9 = q then A9 else A9.map (·.add (q * 38))) (k - q) (c9 - q) (L.drop q) _ (lst_cut (HLr.out.keep hHeld (by simp) (fun _ _ h => h)) hqk' HCAP.out.1) (by omega)).mono ?_
      rintro e w1 ⟨A1, c1, rfl, hN1⟩
      refine ⟨_, rfl, hHeld.trans hN1.2.1 (by simp), fun hHeld => ?_⟩
      simp only [Act.put, List.setIfInBounds_toArray, List.set_cons_zero, List.set_cons_succ]
      have HN1 := Lib.hid hN1
      clear hN1
      refine step_at (i := 7) rfl (by kernel_rfl) (by rfl) (fun K hK => ?_)
      refine wp_append_ownl _ _ _ _ rfl 45 38 80 Try.underlying42 el_stamp (by decide) (by decide) Wst.one A1 (k - q) c1 (L.drop q) rfl HN1.out.1 A9 q c9 (L.take q) rfl ((HLr.out.keep hHeld (by simp) (fun _ _ h => h)).take hqk') (by omega) ?_
      intro A2 c2 w2 ho2 hf2 hb2
      refine hK.out _ _ (hHeld.and hf2 (fun z hz => by have := HN1.out.2.2 z hz; simpa using this)) (fun hHeld => ?_)
      clear hK K
      simp only [Act.put, List.setIfInBounds_toArray, List.set_cons_zero, List.set_cons_succ]
      refine run_at (i := 8) (v := ?_) rfl (by kernel_rfl) (by rfl) (fun _ _ _ h => h) hHeld (fun w1 hw1 => ?_) ?_
      rotate_left 1
      · skip
        go_simp
        (try (first | with_reducible rfl | (apply And.intro <;> rfl)))
      simp only [Act.put, List.setIfInBounds_toArray, List.set_cons_zero, List.set_cons_succ]
      refine wpAnyH_done (by kernel_rfl) ?_ _
      have HFw2 : Hid (Fr [] wb w2) := Lib.hid (HFr.out.trans hHeld (by simp))
      have e2 : k - q + q = k := by omega
      rw [e2] at ho2 ⊢
      have HPM : Hid ((L.drop q ++ L.take q).Perm L) := Lib.hid (List.perm_append_comm.trans (by rw [List.take_append_drop]))
      have HGD2 : Hid (∀ v ∈ L.drop q ++ L.take q, Gd (Fn : Int) b (wcm Y) lo hi v) := Lib.hid (fun v hv => HLG.out v (HPM.out.mem_iff.1 hv))
      have HLE2 : Hid ((L.drop q ++ L.take q).length = k) := Lib.hid (by rw [HPM.out.length_eq]; exact HLL.out)
      have HAP2 : Hid ((L.drop q ++ L.take q).Pairwise (fun a b => a.r ≠ b.r)) := Lib.hid (HPM.out.symm.pairwise HAP.out (fun h => h.symm))
      have HL2 : Hid (Lst 38 Wst.cells (fun _ v => v.Ok) w2 A2 k (L.drop q ++ L.take q)) := Lib.hid (Lst.of_own ho2 HLE2.out (fun v hv => ⟨Wst.len (HGD2.out v hv).ok.h, (HGD2.out v hv).ok⟩))
      have HC2 : Hid (k ≤ c2) := Lib.hid (own_capn ho2)
      generalize L.drop q ++ L.take q = L2 at *
      clear ho2 hf2 hb2 HPM hHeld HN1 e2
      obtain ⟨M, hM⟩ : ∃ M, M = L2.take Q := ⟨_, rfl⟩
      have HMQ : Hid (M.length = Q) := Lib.hid (by rw [hM, List.length_take, HLE2.out]; omega)
      have HMG : Hid (∀ v ∈ M, Gd (Fn : Int) b (wcm Y) lo hi v) := Lib.hid (fun v hv => HGD2.out v (List.mem_of_mem_take (by rw [← hM]; exact hv)))
      have HMA : Hid (M.Pairwise (fun a b => a.r ≠ b.r)) := Lib.hid (by rw [hM]; exact HAP2.out.sublist (List.take_sublist _ _))
      have HML : Hid (Lst 38 Wst.cells (fun _ v => v.Ok) w2 A2 Q M) := Lib.hid (by rw [hM]; exact HL2.out.take hQk)
      clear hM
      obtain ⟨R, hR⟩ : ∃ R, R = refL (wcm Y) M (3 * Fn + 1) := ⟨_, rfl⟩
      have HRP : Hid (R.Perm M) := Lib.hid (by
        rw [hR]
        refine refL_perm HMA.out (fun v hv => ⟨(HMG.out v hv).of, ?_⟩)
        have := (HMG.out v hv).has
        unfold hasB at this
        rw [decide_eq_true_eq] at this
        exact ⟨this.1, by omega⟩)
      have HRR : Hid (R.Pairwise (fun a b => a.r < b.r)) := Lib.hid (by rw [hR]; exact refL_rise _ _ _)
      have HRL : Hid (R.length = Q) := Lib.hid (HRP.out.length_eq.trans HMQ.out)
      have HRG : Hid (∀ v ∈ R, Gd (Fn : Int) b (wcm Y) lo hi v) := Lib.hid (fun v hv => HMG.out v (HRP.out.mem_iff.1 hv))
      have HMK : Hid (∀ W, Fr [] w2 W → Calls Try.prog 10 #[.agg #[.int .i64 (Fn : Int), .int .i64 1], .agg YC.toArray, .slice A2 Q c2] W fun e w' => Fr [] W w' ∧ ∃ ad : Addr, e = .returned (.tuple #[.agg (YC ++ [Value.slice (some ad) Q Q]).toArray, .int .i64 0]) ∧ Lst 38 Wst.cells (fun _ v => v.Ok) w' (some ad) Q R ∧ W.heap.size ≤ ad.block) := Lib.hid (fun W hW => by
        refine (mkcert_any Fn hF1 (by omega) 1 (wcm Y) (wcm_ok HYO.out) A2 Q c2 M W (HML.out.keep hW (by simp) (fun _ _ h => h)) (by omega) YC HYC.out).mono ?_
        rintro e w' ⟨h1, h2⟩
        refine ⟨h1, ?_⟩
        rw [← hR, ← HQF.out] at h2
        rcases h2 with ⟨h3, -⟩ | ⟨-, ad, h4, h5, h6⟩
        · exact absurd h3 (by rw [HRL.out]; omega)
        · exact ⟨ad, h4, by rw [List.take_of_length_le (by rw [HRL.out]; exact Nat.le_refl _)] at h5; exact h5, h6⟩)
      clear hR
      have HCF2 := Lib.hid (HCFb.out.keep HFw2.out (by simp))
      have HY2 := Lib.hid (HFw2.out.range HYb.out (by simp))
      have HCR2 := Lib.hid HCF2.out.range
      have hcf2 := HCF2.out.cell 0
      simp only [List.getElem?_toArray, List.getElem?_cons_zero] at hcf2
      have HC0 := Lib.hid hcf2
      have HBX2 := Lib.hid ((HBXb.out.keep HFw2.out (by simp)).range)
      have HBO2 := Lib.hid (HBOK.out.keep HFw2.out (by simp))
      have hw5 : IntKind.i64.wrap (2 * (Fn : Int)) = 2 * (Fn : Int) := IntWalk.i64_in _ (by omega)
      have hw6 : IntKind.i64.wrap (2 * (Fn : Int) + 1) = (Q : Int) := (IntWalk.i64_in _ (by omega)).trans (by have := HQF.out; omega)
      have hQc : Q ≤ c2 := by have := HC2.out; omega
      have hQk2 : (Q : Int) ≤ (c2 : Int) := by omega
      clear hcf2
      have HEL : Hid (∀ ad : Addr, (YC ++ [Value.slice (some ad) Q Q]).length = 38) := Lib.hid (fun ad => by rw [List.length_append, HYL.out]; rfl)
      have HEO : Hid (∀ ad : Addr, (((YC ++ [Value.slice (some ad) Q Q]).toArray.all (·.oneCell')) = true)) := Lib.hid (fun ad => all_oneCell_toArray (fun u hu => by
        rcases List.mem_append.1 hu with h | h
        · exact HYN.out u h
        · rw [List.mem_singleton.1 h]; rfl))
      have HES : Hid (∀ ad : Addr, (Try.prog.info? 48).map (·.size) = some (YC ++ [Value.slice (some ad) Q Q]).toArray.size) := Lib.hid (fun ad => by rw [List.size_toArray, HEL.out ad]; kernel_rfl)
      have HEZ : Hid (∀ ad : Addr, ceZ.size = (YC ++ [Value.slice (some ad) Q Q]).toArray.size) := Lib.hid (fun ad => by rw [show ceZ.size = 38 from rfl, List.size_toArray, HEL.out ad])
      go_upto_region 22 with (fail)
      go_cut [20, 21] (fun s e wx => ∃ (g20 : Nat) (ad : Addr), s = .pointer (some ⟨g20, 0, none⟩) ∧ e = .int .i64 0 ∧ Hid (Blk wx g20 48 (YC ++ [Value.slice (some ad) Q Q]).toArray) ∧ Hid (Lst 38 Wst.cells (fun _ v => v.Ok) wx (some ad) Q R) ∧ Hid (Fr [] w2 wx))
      case first =>
        rename_i J K2 hJ hK2
        refine wp_region_held_drew (S := Fr [] w2) (by kernel_rfl) (Fr.drew (Fr.refl _ w2)) (fun hHeld => ?_)
        refine row_at (i := 0) rfl (by kernel_rfl) (by rfl) _ _ rfl _ _ rfl _ (fun w1 hw1 => hw1.range (HCR2.out) (by first | (simp; done) | exact HNS.out | exact HNW.out | (intro hm; have hlt := HSB.out _ hm; (try dsimp only at hlt); omega))) (row_conf) (fun _ _ _ h => h) hHeld ?_
        simp only [Act.put, List.setIfInBounds_toArray, List.set_cons_zero, List.set_cons_succ]
        refine row_at (i := 1) rfl (by kernel_rfl) (by rfl) _ _ rfl _ _ rfl _ (fun w1 hw1 => hw1.range (HY2.out) (by first | (simp; done) | exact HNS.out | exact HNW.out | (intro hm; have hlt := HSB.out _ hm; (try dsimp only at hlt); omega))) (row_cmt.of HYL.out) (fun _ _ _ h => h) hHeld ?_
        simp only [Act.put, List.setIfInBounds_toArray, List.set_cons_zero, List.set_cons_succ]
        refine run_at (i := 2) (v := ?_) rfl (by kernel_rfl) (by rfl) (fun _ _ _ h => h) hHeld (fun w1 hw1 => ?_) ?_
        rotate_left 1
        · skip
          go_simp
          (try (first | with_reducible rfl | (apply And.intro <;> rfl)))
        simp only [Act.put, List.setIfInBounds_toArray, List.set_cons_zero, List.set_cons_succ]
        refine run_at (i := 3) (v := ?_) rfl (by kernel_rfl) (by rfl) (fun _ _ _ h => h) hHeld (fun w1 hw1 => ?_) ?_
        rotate_left 1
        · skip
          go_simp
          (try (first | with_reducible rfl | (apply And.intro <;> rfl)))
        simp only [Act.put, List.setIfInBounds_toArray, List.set_cons_zero, List.set_cons_succ]
        refine run_at (i := 4) (v := ?_) rfl (by kernel_rfl) (by rfl) (fun _ _ _ h => h) hHeld (fun w1 hw1 => ?_) ?_
        rotate_left 1
        · skip
          have hcw0 := hw1.cell (HC0.out) (by first | (simp; done) | exact HNS.out | exact HNW.out | (intro hm; have hlt := HSB.out _ hm; (try dsimp only at hlt); omega))
          go_simp
          (try (first | with_reducible rfl | (apply And.intro <;> rfl)))
        simp only [Act.put, List.setIfInBounds_toArray, List.set_cons_zero, List.set_cons_succ]
        refine run_at (i := 5) (v := ?_) rfl (by kernel_rfl) (by rfl) (fun _ _ _ h => h) hHeld (fun w1 hw1 => ?_) ?_
        rotate_left 1
        · skip
          go_simp
          (try (first | with_reducible rfl | (apply And.intro <;> rfl)))
        simp only [Act.put, List.setIfInBounds_toArray, List.set_cons_zero, List.set_cons_succ]
        refine run_at (i := 6) (v := ?_) rfl (by kernel_rfl) (by rfl) (fun _ _ _ h => h) hHeld (fun w1 hw1 => ?_) ?_
        rotate_left 1
        · skip
          go_simp
          (try (first | with_reducible rfl | (apply And.intro <;> rfl)))
        simp only [Act.put, List.setIfInBounds_toArray, List.set_cons_zero, List.set_cons_succ]
        refine run_at (i := 7) (v := ?_) rfl (by kernel_rfl) (by rfl) (fun _ _ _ h => h) hHeld (fun w1 hw1 => ?_) ?_
        rotate_left 1
        · skip
          go_simp
          (try (first | with_reducible rfl | (apply And.intro <;> rfl)))
        simp only [Act.put, List.setIfInBounds_toArray, List.set_cons_zero, List.set_cons_succ]
        refine two_at (i := 8) (j := 12) rfl rfl (by kernel_rfl) (by rfl) (by rfl) (fun K hK => ?_) (fun K hK => ?_)
        · skip
          refine wp_call (f := ?_) (args := ?_) ?_ ?_
          rotate_left 2
          · go_simp
            (try (first | with_reducible rfl | (apply And.intro <;> rfl)))
          refine (HMK.out _ hHeld).mono ?_
          rintro e v0 ⟨hfm, ad, rfl, hl0, had⟩
          refine ⟨_, rfl, hK.out _ _ (hHeld.and hfm (by simp)) (fun hHeld => ?_)⟩
          clear hK K
          simp only [Act.put, List.setIfInBounds_toArray, List.set_cons_zero, List.set_cons_succ]
          have HL0 := Lib.hid hl0
          have HAD0 : Hid (ad.block < v0.heap.size) := Lib.hid (hl0.lt (by omega) (by decide) (fun v hv => Wst.len (hl0.2.1 v hv).2.h) ad rfl)
          clear hfm hl0 had
          obtain ⟨E1, hE1⟩ : ∃ E1, YC ++ [Value.slice (some ad) Q Q] = E1 := ⟨_, rfl⟩
          have HE1 := Lib.hid hE1
          have HESa := Lib.hid (HES.out ad)
          have HEZa := Lib.hid (HEZ.out ad)
          have HEOa := Lib.hid (HEO.out ad)
          rw [hE1] at HESa HEZa HEOa ⊢
          clear hE1
          refine run_at (i := 9) (v := ?_) rfl (by kernel_rfl) (by rfl) (fun _ _ _ h => h) hHeld (fun w1 hw1 => ?_) ?_
          rotate_left 1
          · skip
            go_simp
            (try (first | with_reducible rfl | (apply And.intro <;> rfl)))
          simp only [Act.put, List.setIfInBounds_toArray, List.set_cons_zero, List.set_cons_succ]
          refine run_at (i := 10) (v := ?_) rfl (by kernel_rfl) (by rfl) (fun _ _ _ h => h) hHeld (fun w1 hw1 => ?_) ?_
          rotate_left 1
          · skip
            go_simp
            (try (first | with_reducible rfl | (apply And.intro <;> rfl)))
          simp only [Act.put, List.setIfInBounds_toArray, List.set_cons_zero, List.set_cons_succ]
          refine run_at (i := 11) (v := ?_) rfl (by kernel_rfl) (by rfl) (fun _ _ _ h => h) hHeld (fun w1 hw1 => ?_) ?_
          rotate_left 1
          · skip
            go_simp
            (try (first | with_reducible rfl | (apply And.intro <;> rfl)))
          simp only [Act.put, List.setIfInBounds_toArray, List.set_cons_zero, List.set_cons_succ]
          refine step_at (i := 12) rfl (by kernel_rfl) (by rfl) (fun K hK => ?_)
          refine wp_run (v := ?_) (w' := ?_) ?_ ?_
          rotate_left 2
          · go_simp
            (try (first | with_reducible rfl | (apply And.intro <;> rfl)))
          refine hK.out _ (v0.alloc (Obj.cells ceZ 48)) (hHeld.alloc _) (fun hHeld => ?_)
          clear hK K
          simp only [Act.put, List.setIfInBounds_toArray, List.set_cons_zero, List.set_cons_succ]
          refine step_at (i := 13) rfl (by kernel_rfl) (by rfl) (fun K hK => ?_)
          refine wp_store_blk 48 _ _ rfl v0.heap.size E1.toArray rfl rfl 48 ceZ (Blk.new v0 _ _) HESa.out HEZa.out HEOa.out ?_
          intro v2 hb2 hf2
          have HB2 := Lib.hid hb2
          have hv0 := ‹Fr [] w2 v0›.size
          have HLv : Hid (Lst 38 Wst.cells (fun _ v => v.Ok) v2 (some ad) Q R) := Lib.hid ((HL0.out.keep ((Fr.refl [] v0).alloc (Obj.cells ceZ 48)) (by simp) (fun _ _ h => h)).keep hf2 (fun a ha => by injection ha with ha; subst ha; have := HAD0.out; simp; omega) (fun _ _ h => h))
          refine hK.out _ _ (hHeld.and hf2 (by simpa using hv0)) (fun hHeld => ?_)
          clear hK K hb2 hf2
          simp only [Act.put, List.setIfInBounds_toArray, List.set_cons_zero, List.set_cons_succ]
          refine run_at (i := 14) (v := ?_) rfl (by kernel_rfl) (by rfl) (fun _ _ _ h => h) hHeld (fun w1 hw1 => ?_) ?_
          rotate_left 1
          · skip
            go_simp
            (try (first | with_reducible rfl | (apply And.intro <;> rfl)))
          simp only [Act.put, List.setIfInBounds_toArray, List.set_cons_zero, List.set_cons_succ]
          refine wpAnyH_done (by kernel_rfl) ?_ _
          refine hK2 _ _ (Met.intro (hJ _ _ ?_))
          repeat apply Exists.intro
          refine ⟨?_, rfl⟩
          exact ⟨_, ad, rfl, rfl, by rw [HE1.out]; exact HB2, HLv, Lib.hid hHeld⟩
        · skip
          refine wp_run (v := ?_) (w' := ?_) ?_ ?_
          rotate_left 2
          · go_simp
            (try (first | with_reducible rfl | (apply And.intro <;> rfl)))
          have hb8 : Blk (w2.drew.alloc (Obj.cells ceZ 48)) w2.heap.size 48 ceZ := Blk.new w2.drew _ _
          refine hK.out _ (w2.drew.alloc (Obj.cells ceZ 48)) (hHeld.alloc _) (fun hHeld => ?_)
          clear hK K
          simp only [Act.put, List.setIfInBounds_toArray, List.set_cons_zero, List.set_cons_succ]
          have HG8L : Hid (w2.heap.size < (w2.drew.alloc (Obj.cells ceZ 48)).heap.size) := Lib.hid hb8.lt
          generalize w2.drew.alloc (Obj.cells ceZ 48) = wv at *
          obtain ⟨g8, hg8⟩ : ∃ g8, g8 = w2.heap.size := ⟨_, rfl⟩
          rw [← hg8] at hb8 HG8L ⊢
          have HG8E := Lib.hid hg8
          have HB8 := Lib.hid hb8
          clear hg8 hb8
          refine call_at (i := 8) (f := ?_) (args := ?_) rfl (by kernel_rfl) (by rfl) ?_ ?_
          rotate_left 2
          · go_simp
            (try (first | with_reducible rfl | (apply And.intro <;> rfl)))
          refine (HMK.out _ hHeld).mono ?_
          rintro e v0 ⟨hfm, ad, rfl, hl0, had⟩
          refine ⟨_, rfl, hHeld.and hfm (by simp), fun hHeld => ?_⟩
          simp only [Act.put, List.setIfInBounds_toArray, List.set_cons_zero, List.set_cons_succ]
          have HL0 := Lib.hid hl0
          have HAD0 : Hid (g8 < ad.block) := Lib.hid (Nat.lt_of_lt_of_le HG8L.out had)
          have HB9 := Lib.hid (HB8.out.keep hfm (by simp))
          clear hfm hl0 had
          obtain ⟨E1, hE1⟩ : ∃ E1, YC ++ [Value.slice (some ad) Q Q] = E1 := ⟨_, rfl⟩
          have HE1 := Lib.hid hE1
          have HESa := Lib.hid (HES.out ad)
          have HEZa := Lib.hid (HEZ.out ad)
          have HEOa := Lib.hid (HEO.out ad)
          rw [hE1] at HESa HEZa HEOa ⊢
          clear hE1
          refine run_at (i := 9) (v := ?_) rfl (by kernel_rfl) (by rfl) (fun _ _ _ h => h) hHeld (fun w1 hw1 => ?_) ?_
          rotate_left 1
          · skip
            go_simp
            (try (first | with_reducible rfl | (apply And.intro <;> rfl)))
          simp only [Act.put, List.setIfInBounds_toArray, List.set_cons_zero, List.set_cons_succ]
          refine run_at (i := 10) (v := ?_) rfl (by kernel_rfl) (by rfl) (fun _ _ _ h => h) hHeld (fun w1 hw1 => ?_) ?_
          rotate_left 1
          · skip
            go_simp
            (try (first | with_reducible rfl | (apply And.intro <;> rfl)))
          simp only [Act.put, List.setIfInBounds_toArray, List.set_cons_zero, List.set_cons_succ]
          refine run_at (i := 11) (v := ?_) rfl (by kernel_rfl) (by rfl) (fun _ _ _ h => h) hHeld (fun w1 hw1 => ?_) ?_
          rotate_left 1
          · skip
            go_simp
            (try (first | with_reducible rfl | (apply And.intro <;> rfl)))
          simp only [Act.put, List.setIfInBounds_toArray, List.set_cons_zero, List.set_cons_succ]
          refine step_at (i := 13) rfl (by kernel_rfl) (by rfl) (fun K hK => ?_)
          refine wp_store_blk 48 _ _ rfl g8 E1.toArray rfl rfl 48 ceZ HB9.out HESa.out HEZa.out HEOa.out ?_
          intro v2 hb2 hf2
          have HB2 := Lib.hid hb2
          have HLv : Hid (Lst 38 Wst.cells (fun _ v => v.Ok) v2 (some ad) Q R) := Lib.hid (HL0.out.keep hf2 (fun a ha => by injection ha with ha; subst ha; have := HAD0.out; simp; omega) (fun _ _ h => h))
          refine hK.out _ _ (hHeld.and hf2 (by have := HG8E.out; simpa using Nat.le_of_eq this.symm)) (fun hHeld => ?_)
          clear hK K hb2 hf2
          simp only [Act.put, List.setIfInBounds_toArray, List.set_cons_zero, List.set_cons_succ]
          refine run_at (i := 14) (v := ?_) rfl (by kernel_rfl) (by rfl) (fun _ _ _ h => h) hHeld (fun w1 hw1 => ?_) ?_
          rotate_left 1
          · skip
            go_simp
            (try (first | with_reducible rfl | (apply And.intro <;> rfl)))
          simp only [Act.put, List.setIfInBounds_toArray, List.set_cons_zero, List.set_cons_succ]
          refine wpAnyH_done (by kernel_rfl) ?_ _
          refine hK2 _ _ (Met.intro (hJ _ _ ?_))
          repeat apply Exists.intro
          refine ⟨?_, rfl⟩
          exact ⟨_, ad, rfl, rfl, by rw [HE1.out]; exact HB2, HLv, Lib.hid hHeld⟩
      case rest =>
      obtain ⟨g20, ad, rfl, rfl, HBC, HLC, HFC⟩ := hcut
      rename World => w3
      have HFw3 := Lib.hid (HFw2.out.trans HFC.out (by simp))
      obtain ⟨E1, hE1⟩ : ∃ E1, YC ++ [Value.slice (some ad) Q Q] = E1 := ⟨_, rfl⟩
      have HE1 := Lib.hid hE1
      have HELa := Lib.hid (HEL.out ad)
      rw [hE1] at HBC HELa
      have HZC : Hid (Wce.cells ⟨wcm Y, some ad, Q, Q, R⟩ = E1) := Lib.hid (by show Y.cells ++ [Value.slice (some ad) Q Q] = E1; rw [HYC.out]; exact hE1)
      clear hE1
      have HIN : Hid (Wce.In w3 ⟨wcm Y, some ad, Q, Q, R⟩) := Lib.hid ⟨wcm_ok HYO.out, HLC.out, by show Q ≤ maxLen; unfold maxLen; omega, Nat.le_refl _⟩
      have HER := Lib.hid HBC.out.range
      have HCR3 := Lib.hid (HFC.out.range HCR2.out (by simp))
      have HBX3 := Lib.hid (HFC.out.range HBX2.out (by simp))
      have HBO3 := Lib.hid (HBO2.out.keep HFC.out (by simp))
      have HCB : Hid (certB (Fn : Int) 1 b ⟨wcm Y, some ad, Q, Q, R⟩ = true) := Lib.hid (cert_good (by have := HQF.out; omega) HRL.out HRC.out HRR.out HRG.out)
      have hright := cert_any (Fn : Int) 1 ⟨by omega, by omega⟩ _ w3 HIN.out E1 HZC.out Sb gb b HBO3.out
      rw [HCB.out] at hright
      have hgb : w3.cell? ⟨gKb, 0, none⟩ = some (.pointer (some ⟨gb, 0, none⟩)) := HBX3.out 0 _ rfl
      go_wp2_with (first
        | (refine wpList_midg rfl 27 _ rfl gC 0 rfl _ HCR3.out row_conf ?_)
        | (refine wpList_midg rfl 48 _ rfl g20 0 rfl E1 HER.out (row_cer3.of HELa.out) ?_))
      refine hright.mono ?_
      rintro e w4 ⟨rfl, hf4⟩
      have HF4 := Lib.hid hf4
      have ht := time_any _ w4 (HIN.out.keep hf4) (by show Q < 50; omega) E1 HZC.out
      have HER4 := Lib.hid (hf4.range HER.out (by simp))
      clear hf4 hright hgb
      go_wp2_with (first
        | (refine wpList_midg rfl 48 _ rfl g20 0 rfl E1 HER4.out (row_cer3.of HELa.out) ?_))
      refine ht.mono ?_
      rintro e w5 ⟨m5, rfl, hm5, -, hf5⟩
      have hb5 := med_good (by rw [HRL.out]; omega) (hm5 hQo) HRG.out
      have hd5 : decide (m5 < (lo : Int)) = false := decide_eq_false (by omega)
      have HF5 := Lib.hid (HF4.out.trans hf5 (by simp))
      have ht2 := time_any _ w5 (HIN.out.keep HF5.out) (by show Q < 50; omega) E1 HZC.out
      have HER5 := Lib.hid (HF5.out.range HER.out (by simp))
      clear hf5 ht hm5 hb5
      go_wp2_with (first
        | (refine wpList_midg rfl 48 _ rfl g20 0 rfl E1 HER5.out (row_cer3.of HELa.out) ?_))
      refine ht2.mono ?_
      rintro e w6 ⟨m6, rfl, hm6, -, hf6⟩
      have hb6 := med_good (by rw [HRL.out]; omega) (hm6 hQo) HRG.out
      have hd6 : decide ((hi : Int) < m6) = false := decide_eq_false (by omega)
      have HF6 := Lib.hid (HFw3.out.trans (HF5.out.trans hf6 (by simp)) (by simp))
      clear hf6 ht2 hm6 hb6
      go_wp2_with fail
      go_roundw
      case rel => exact ⟨j + 1, by omega, by go_num, HF6⟩
      case measure => simp [intOf]; omega
  case rest =>
  have HFx := hcut
  rename World => wx
  have hwk := cewakes_any wx
  go_wp2_with fail
  refine hwk.mono ?_
  rintro e w7 ⟨rfl, hf7⟩
  go_wp2_with fail
  go_ret
  exact ⟨rfl, (HFWb.out.trans HFx.out (by simp)).trans hf7 (by simp)⟩
end Go.Proofs.Ytlkhfhhaallhgaa
