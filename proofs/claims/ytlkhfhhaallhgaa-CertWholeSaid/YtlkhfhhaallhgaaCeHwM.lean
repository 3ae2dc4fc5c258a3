/- The walk of CertWhole. -/
import Derived.Test.YtlkhfhhaallhgaaCeHM
namespace Go.Proofs.Ytlkhfhhaallhgaa
open Go.RowKit Go.Sort
set_option maxRecDepth 100000
theorem own_up {w : World} {B : Nat} {e : TypeId} {k n c : Nat} {A : Option Addr} {xs : List Value} (h : w.ownsRow 0 e k (.slice A n c) n xs) (hb : ∀ x ∈ bk A, B ≤ x) : w.ownsRow B e k (.slice A n c) n xs := by
  refine ⟨h.1, ?_⟩
  rcases h.2 with h | ⟨g, cap, cur, h1, h2, h3⟩
  · exact .inl h
  · refine .inr ⟨g, cap, cur, h1, hb g ?_, h3⟩
    injection h1 with h1
    subst h1
    simp [bk]
theorem lst_two (w : World) (u v : Wst) (hu : u.Ok) (hv : v.Ok) : Lst 38 Wst.cells (fun _ v => v.Ok) (w.alloc (Obj.cells (u.cells ++ v.cells).toArray 45)) (some ⟨w.heap.size, 0, none⟩) 2 [u, v] := by
  have h1 := Wst.len hu.h
  have h2 := Wst.len hv.h
  have hl : (u.cells ++ v.cells).length = 76 := by rw [List.length_append, h1, h2]
  refine Lst.of_own (base := 0) (e := 45) (c := 2) ⟨by simp [h1, h2], .inr ⟨w.heap.size, 2, _, rfl, Nat.zero_le _, Blk.new w _ _, Nat.le_refl _, by decide, by rw [List.size_toArray, hl], ?_⟩⟩ rfl (fun x hx => ?_)
  · rw [show (u.cells ++ v.cells).toArray.toList = u.cells ++ v.cells from rfl, List.take_of_length_le (by rw [hl]; decide)]
    simp
  · rcases List.mem_cons.1 hx with h | h
    · rw [h]; exact ⟨h1, hu⟩
    · rw [List.mem_singleton.1 h]; exact ⟨h2, hv⟩
theorem lst_cutH {w : World} {A : Option Addr} {n cap q : Nat} {l : List Wst} (h : Lst 38 Wst.cells (fun _ v => v.Ok) w A n l) (hk : q ≤ n) (hc : n ≤ cap) : Lst 38 Wst.cells (fun _ v => v.Ok) w (if cap = q then A else A.map (·.add (q * 38))) (n - q) (l.drop q) := by
  refine ⟨by rw [List.length_drop, h.1], fun v hv => h.2.1 v (List.mem_of_mem_drop hv), fun hn => ?_⟩
  obtain ⟨ad, rfl, hcell⟩ := h.2.2 (by omega)
  rw [if_neg (by omega)]
  refine ⟨ad.add (q * 38), rfl, fun i v hv j x hx => ?_⟩
  rw [add_add]
  rw [List.getElem?_drop] at hv
  have := hcell (q + i) v hv j x hx
  rw [show q * 38 + (i * 38 + j) = (q + i) * 38 + j by omega]
  exact this
theorem by_new1 (w : World) (t : TypeId) : By (w.alloc (Obj.cells #[.int .u8 1] t)) (some ⟨w.heap.size, 0, none⟩) 1 [1] := By.one (Blk.new w t #[.int .u8 1]) rfl
theorem built_nmH (c s : Int) : Try.prog.built 23 [(0, .int .i64 c), (1, .int .i64 s)] = some #[.int .i64 c, .int .i64 s] := by kernel_rfl
set_option maxHeartbeats 8000000 in
theorem certWhole_walk (w : World) (f0 : Int) (hf1 : -9223372036854775808 ≤ f0) (hf2 : f0 < 9223372036854775808) (c s : Int) (hc : i64In c) (hs : i64In s)
    (T : Option Addr) (nT cT : Nat) (lT : List Int) (hT : UL w T nT lT) (hTc : nT ≤ cT) (hTm : cT ≤ maxLen)
    (sk : Int) (hk1 : -9223372036854775808 ≤ sk) (hk2 : sk < 9223372036854775808) :
    Calls Try.prog 3 #[.int .i64 f0, .agg #[.int .i64 c, .int .i64 s], .slice T nT cT, .int .i64 sk] w fun e w' => e = .returned (.bool true) ∧ Fr [] w w' := by
  obtain ⟨wa, hwa⟩ : ∃ wa, wa = w.alloc (Obj.cells #[.int .i64 c, .int .i64 s] 23) := ⟨_, rfl⟩
  have hf0 : Fr [] w wa := by rw [hwa]; exact (Fr.refl [] w).alloc _
  have hba : Blk wa w.heap.size 23 #[.int .i64 c, .int .i64 s] := by rw [hwa]; exact Blk.new _ _ _
  have HF0 := Lib.hid hf0
  have HWA := Lib.hid hwa
  have HBA := Lib.hid hba
  have HC := Lib.hid hc
  have HS := Lib.hid hs
  have HT := Lib.hid hT
  have hnT64 : (nT : Int) ≤ 9223372036854775807 := by unfold maxLen at hTm; omega
  have HSK := Lib.hid (And.intro hk1 hk2)
  have HWS : Hid (w.heap.size < wa.heap.size) := Lib.hid hba.lt
  have hmod := within_pos f0 4 hf1 hf2 (by decide) (by decide) wa
  obtain ⟨Fn, hF, hF1, hF2⟩ : ∃ Fn : Nat, 1 + f0 % 4 = (Fn : Int) ∧ 1 ≤ Fn ∧ Fn ≤ 4 := ⟨(1 + f0 % 4).toNat, by omega, by omega, by omega⟩
  have hm0 : 0 ≤ f0 % 4 := Int.emod_nonneg _ (by omega)
  have hm1 : f0 % 4 < 4 := Int.emod_lt_of_pos _ (by omega)
  generalize f0 % 4 = f3 at *
  have HFN := Lib.hid hF
  have HMOD := Lib.hid hmod
  clear hf0 hwa hba hc hs hT hTc hTm hk1 hk2 hf1 hf2 hF hmod
  go_enter Try.func3, Try.ntmps3
  go_upto_region 1 with (fail)
  change Code.wp _ _ _ _ (w.alloc (Obj.cells #[.int .i64 c, .int .i64 s] 23))
  rw [← HWA.out]
  go_upto_region 2 with (first
    | (go_at_call 6; refine HMOD.out.mono ?_; rintro e_ w' ⟨rfl, rfl⟩)
    | (refine wpList_builtg rfl 27 _ rfl _ _ (built_cfC (1 + f3) 3) rfl ?_)
    | (refine wpList_store_box rfl 27 _ _ rfl #[.int .i64 0, .int .i64 0] 27 [.int .i64 (1 + f3), .int .i64 3] rfl rfl (by kernel_rfl) rfl (by intro v hv; simp at hv; rcases hv with rfl | rfl <;> rfl) ?_; intro w1 hb1 hf1))
  try simp only [Act.put]
  rw [HFN.out] at hb1 ⊢
  have hb1' : Blk w1 wa.heap.size 27 #[.int .i64 (Fn : Int), .int .i64 3] := by simpa using hb1
  have HCF1 := Lib.hid hb1'
  have HF1 := Lib.hid hf1
  clear hb1 hb1' hf1 HMOD hm0 hm1
  go_wp2_with fail
  refine (cenew_any w1).mono ?_
  rintro e w3 ⟨Sb, gb, gr, rfl, hb3, hr3, hf3, hn3, hg3, hng⟩
  have HB3 := Lib.hid hb3
  have HR3 := Lib.hid hr3
  have HF3 := Lib.hid hf3
  have HN3 := Lib.hid (And.intro hn3 (And.intro hg3 hng))
  clear hb3 hr3 hf3 hn3 hg3 hng
  go_upto_region 5 with (refine wpList_store_box rfl 31 _ _ rfl #[.pointer none, .pointer none] 31 [.pointer (some ⟨gb, 0, none⟩), .pointer (some ⟨gr, 0, none⟩)] rfl rfl (by kernel_rfl) rfl (by intro v hv; simp at hv; rcases hv with rfl | rfl <;> rfl) ?_; intro w4 hb4 hf4)
  have HBX4 := Lib.hid hb4
  have HF4 := Lib.hid hf4
  clear hb4 hf4
  obtain ⟨gC, hgC⟩ : ∃ gC, gC = wa.heap.size := ⟨_, rfl⟩
  obtain ⟨gKb, hgKb⟩ : ∃ gKb, gKb = w3.heap.size := ⟨_, rfl⟩
  have HF14 := Lib.hid ((HF1.out.trans HF3.out (by simp)).trans HF4.out (by simp))
  have HLT : Hid (w.heap.size < gC ∧ gC < w1.heap.size ∧ w1.heap.size ≤ gKb ∧ gKb < w4.heap.size) := Lib.hid (by
    rw [hgC, hgKb]
    exact ⟨HWS.out, HCF1.out.lt, HF3.out.size, HBX4.out.lt⟩)
  have HCF4 := Lib.hid ((HCF1.out.keep HF3.out (by simp)).keep HF4.out (by simp))
  have HBB4 : Hid (BB w4 Sb gb [gr] gr []) := Lib.hid ⟨HB3.out.keep HF4.out (by simp), HR3.out.keep HF4.out (by simp), List.nodup_nil, fun k hk hm => by simp at hk; subst hk; exact HN3.out.2.2 hm⟩
  have HSL : Hid ((∀ k ∈ Sb, w1.heap.size ≤ k ∧ k < gKb) ∧ w1.heap.size ≤ gr ∧ gr < gKb) := Lib.hid (by
    rw [hgKb]
    exact ⟨fun k hk => ⟨HN3.out.1 k hk, HB3.out.lt k hk⟩, HN3.out.2.1, HR3.out.lt gr (by simp)⟩)
  rw [← hgC] at HCF4
  rw [← hgKb] at HBX4
  clear HCF1 HB3 HR3 HN3
  have HFW4 : Hid (Fr [] w w4) := Lib.hid (HF0.out.trans HF14.out (by simp))
  have hba := HBA.out.keep HF14.out (by simp)
  have hx0 := hba.cell 0
  have hx1 := hba.cell 1
  have hz0 := hba.frozen 0
  have hz1 := hba.frozen 1
  simp only [List.getElem?_toArray, List.getElem?_cons_zero, List.getElem?_cons_succ] at hx0 hx1
  rw [← hgC, ← hgKb]
  clear hgC hgKb HBA HF0 HWA HF14 HF1 HF3 HF4 HWS
  obtain ⟨C4, hC4⟩ : ∃ C4, C4 = c % 3 := ⟨_, rfl⟩
  obtain ⟨S4, hS4⟩ : ∃ S4, S4 = s % 9 := ⟨_, rfl⟩
  have hc0 : 0 ≤ C4 := by rw [hC4]; exact Int.emod_nonneg _ (by omega)
  have hc1 : C4 < 3 := by rw [hC4]; exact Int.emod_lt_of_pos _ (by omega)
  have hs0 : 0 ≤ S4 := by rw [hS4]; exact Int.emod_nonneg _ (by omega)
  have hs1 : S4 < 9 := by rw [hS4]; exact Int.emod_lt_of_pos _ (by omega)
  have HWC : Hid (∀ W, Calls Try.prog 6 #[.int .i64 c, .int .i64 3] W fun e w' => e = .returned (.int .i64 C4) ∧ W = w') := Lib.hid (fun W => by rw [hC4]; exact within_pos c 3 HC.out.1 HC.out.2 (by omega) (by omega) W)
  have HWS : Hid (∀ W, Calls Try.prog 6 #[.int .i64 s, .int .i64 9] W fun e w' => e = .returned (.int .i64 S4) ∧ W = w') := Lib.hid (fun W => by rw [hS4]; exact within_pos s 9 HS.out.1 HS.out.2 (by omega) (by omega) W)
  have hw9 : IntKind.i64.wrap (1 + S4) = 1 + S4 := IntWalk.i64_in _ (by omega)
  clear hC4 hS4
  refine wp_region_till 8 (Fr [w.heap.size] w4) (Fr [] w4) (by kernel_rfl) (Fr.drew (Fr.refl _ w4)) (Fr.drew (Fr.refl _ w4)) (fun hA hB => ?_)
  refine till_run (i := 0) (v := ?_) rfl (by kernel_rfl) (by rfl) (fun _ _ _ h => h) hA hB (fun w1 hw1 => ?_) ?_
  rotate_left 1
  · skip
    go_simp
    (try (first | with_reducible rfl | (apply And.intro <;> rfl)))
  simp only [Act.put, List.setIfInBounds_toArray, List.set_cons_zero, List.set_cons_succ]
  refine till_run (i := 1) (v := ?_) rfl (by kernel_rfl) (by rfl) (fun _ _ _ h => h) hA hB (fun w1 hw1 => ?_) ?_
  rotate_left 1
  · skip
    have hcw0 := hw1.cell (hx0) (by first | (simp; done) | exact HNS.out | exact HNW.out | (intro hm; have hlt := HSB.out _ hm; (try dsimp only at hlt); omega))
    go_simp
    (try (first | with_reducible rfl | (apply And.intro <;> rfl)))
  simp only [Act.put, List.setIfInBounds_toArray, List.set_cons_zero, List.set_cons_succ]
  refine till_run (i := 3) (v := ?_) rfl (by kernel_rfl) (by rfl) (fun _ _ _ h => h) hA hB (fun w1 hw1 => ?_) ?_
  rotate_left 1
  · skip
    go_simp
    (try (first | with_reducible rfl | (apply And.intro <;> rfl)))
  simp only [Act.put, List.setIfInBounds_toArray, List.set_cons_zero, List.set_cons_succ]
  refine till_run (i := 4) (v := ?_) rfl (by kernel_rfl) (by rfl) (fun _ _ _ h => h) hA hB (fun w1 hw1 => ?_) ?_
  rotate_left 1
  · skip
    have hcw0 := hw1.cell (hx1) (by first | (simp; done) | exact HNS.out | exact HNW.out | (intro hm; have hlt := HSB.out _ hm; (try dsimp only at hlt); omega))
    go_simp
    (try (first | with_reducible rfl | (apply And.intro <;> rfl)))
  simp only [Act.put, List.setIfInBounds_toArray, List.set_cons_zero, List.set_cons_succ]
  refine till_call (i := 2) (f := ?_) (args := ?_) rfl (by kernel_rfl) (by rfl) ?_ ?_
  rotate_left 2
  · go_simp
    (try (first | with_reducible rfl | (apply And.intro <;> rfl)))
  refine (HWC.out _).mono ?_
  rintro e wx ⟨rfl, rfl⟩
  refine ⟨_, rfl, ⟨hA, hB⟩, fun hB => ?_⟩
  simp only [Act.put, List.setIfInBounds_toArray, List.set_cons_zero, List.set_cons_succ]
  refine till_call (i := 5) (f := ?_) (args := ?_) rfl (by kernel_rfl) (by rfl) ?_ ?_
  rotate_left 2
  · go_simp
    (try (first | with_reducible rfl | (apply And.intro <;> rfl)))
  refine (HWS.out _).mono ?_
  rintro e wx ⟨rfl, rfl⟩
  refine ⟨_, rfl, ⟨hA, hB⟩, fun hB => ?_⟩
  simp only [Act.put, List.setIfInBounds_toArray, List.set_cons_zero, List.set_cons_succ]
  refine till_run (i := 6) (v := ?_) rfl (by kernel_rfl) (by rfl) (fun _ _ _ h => h) hA hB (fun w1 hw1 => ?_) ?_
  rotate_left 1
  · skip
    go_simp
    (try (first | with_reducible rfl | (apply And.intro <;> rfl)))
  simp only [Act.put, List.setIfInBounds_toArray, List.set_cons_zero, List.set_cons_succ]
  refine till_build (i := 7) rfl (by kernel_rfl) (by rfl) _ _ rfl _ _ (built_nmH C4 (1 + S4)) rfl (fun _ _ _ h => h) hA hB ?_
  simp only [Act.put, List.setIfInBounds_toArray, List.set_cons_zero, List.set_cons_succ]
  refine till_step (i := 8) rfl (by kernel_rfl) (by kernel_rfl) (by rfl) (fun K hK => ?_)
  refine wp_store_blk 23 _ _ rfl w.heap.size #[.int .i64 C4, .int .i64 (1 + S4)] rfl rfl 23 #[.int .i64 c, .int .i64 s] (hba.keep hB (by simp)) (by kernel_rfl) rfl (by simp [Value.oneCell']) ?_
  intro wb hb3 hf3
  refine hK.out _ _ (hA.trans hf3 (fun _ h _ => h)) (fun hA => ?_)
  clear hK K
  simp only [Act.put, List.setIfInBounds_toArray, List.set_cons_zero, List.set_cons_succ]
  refine till_done (by kernel_rfl) ?_ _
  have hf43 : Fr [w.heap.size] w4 wb := hA
  have HNM := Lib.hid hb3
  have hsz4 : w4.heap.size ≤ wb.heap.size := hf43.size
  have HNS1 : Hid (∀ k ∈ Sb ++ [gr], w.heap.size < k ∧ k < wb.heap.size) := Lib.hid (fun k hk => by
    have h1 := HSL.out
    have h2 := HLT.out
    rcases List.mem_append.1 hk with h | h
    · have := h1.1 k h; omega
    · simp at h; omega)
  have HCFb := Lib.hid (HCF4.out.keep hf43 (by have := HLT.out; simp; omega))
  have HBXb := Lib.hid (HBX4.out.keep hf43 (by have := HLT.out; simp; omega))
  have HBBb := Lib.hid (HBB4.out.keep hf43 (fun k hk hm => by have := HNS1.out k (List.mem_append.2 (.inl hk)); simp at hm; omega) (fun k hk hm => by have := HNS1.out k (List.mem_append.2 (.inr hk)); simp at hm; omega))
  have HTB : Hid (0 < nT → ∀ a, T = some a → a.block < w.heap.size) := Lib.hid (fun hn a ha => HT.out.lt hn a ha)
  have HTw : Hid (UL wb T nT lT) := Lib.hid (Lst.keep' (HT.out.keep HFW4.out (by simp)) hf43 (fun hn a ha hm => by have := HTB.out hn a ha; simp at hm; omega) (fun _ _ h => h))
  have HFWb : Hid (Fr [] w wb) := Lib.hid (HFW4.out.and hf43 (by simp))
  have hwb : w.heap.size ≤ wb.heap.size := HFWb.out.size
  have HLTb : Hid (w.heap.size < gC ∧ gC < gKb ∧ gKb < wb.heap.size) := Lib.hid (by have := HLT.out; omega)
  have HSLb : Hid (∀ q ∈ Sb ++ [gr], q ≠ w.heap.size ∧ q ≠ gC ∧ q ≠ gKb ∧ q < wb.heap.size ∧ w.heap.size ≤ q) := Lib.hid (fun q hq => by
    have h1 := HSL.out
    have h2 := HLT.out
    rcases List.mem_append.1 hq with h | h
    · have := h1.1 q h
      exact ⟨by omega, by omega, by omega, by omega, by omega⟩
    · simp at h
      subst h
      exact ⟨by omega, by omega, by omega, by omega, by omega⟩)
  have HTlt : Hid (0 < nT → ∀ a, T = some a → a.block < w.heap.size) := Lib.hid (fun hn a ha => HT.out.lt hn a ha)
  clear hf43 hb3 hf3 hba HCF4 HBX4 HBB4 HWC HWS hA hx0 hx1 hz0 hz1 hw9 HT HTB HSL HLT HNS1 HC HS HFW4
  go_wp2_with (first
    | (refine wpList_midg rfl 31 _ rfl gKb 0 rfl _ HBXb.out.range row_books ?_)
    | (refine wpList_midg rfl 23 _ rfl w.heap.size 0 rfl _ HNM.out.range row_name ?_))
  refine (bkCommit_any C4 (1 + S4) ⟨hc0, by omega⟩ ⟨by omega, by omega⟩ (some ⟨wb.heap.size, 0, none⟩) 1 1 [1] _ (by_new1 wb _) (fun k hk => by simp [bk] at hk; subst hk; simp) (by decide) Sb gb [gr] gr [] (HBBb.out.keep ((Fr.refl [] wb).alloc _) (by simp) (by simp)) (by decide)).mono ?_
  rintro e w5 ⟨rfl, Sr5, hbb5, hf5, hs5⟩
  have HBB5 := Lib.hid hbb5
  have HF5 : Hid (Fr (Sb ++ [gr]) wb w5) := Lib.hid ((((Fr.refl [] wb).alloc _).mono (T := Sb ++ [gr]) (by simp)).trans hf5 (fun _ h _ => h))
  have HS5 : Hid (∀ q ∈ Sr5, q < wb.heap.size → q = gr) := Lib.hid (fun q hq h => by simpa using hs5 q hq (by simp; omega))
  have HYR : Hid (rightC 3 (sgn [] (1000 + C4, (made C4 (1 + S4) hzC [1] []).text)) (made C4 (1 + S4) hzC [1] []) = true) := Lib.hid (made_right C4 (1 + S4) hc0 hzC [1] [] 3 hc1 ⟨by omega, by omega⟩ (by decide))
  have HYO : Hid (made C4 (1 + S4) hzC [1] []).Ok := Lib.hid (made_ok C4 (1 + S4) (by omega) ⟨by omega, by omega⟩ hzC [1] (by decide) [] (by decide))
  have HYS : Hid ((made C4 (1 + S4) hzC [1] []).s = 1 + S4) := Lib.hid rfl
  have HL5 : Hid ((sgn [] (1000 + C4, (made C4 (1 + S4) hzC [1] []).text)).length ≤ 1) := Lib.hid (by have := sgn_lenC [] (1000 + C4, (made C4 (1 + S4) hzC [1] []).text); simpa using this)
  clear hbb5 hf5 hs5
  generalize sgn [] (1000 + C4, (made C4 (1 + S4) hzC [1] []).text) = b5 at *
  generalize made C4 (1 + S4) hzC [1] [] = Y at *
  obtain ⟨YC, hYC⟩ : ∃ YC, Y.cells = YC := ⟨_, rfl⟩
  have hyv : Y.val = .agg YC.toArray := by rw [← hYC]; rfl
  have HYL : Hid (YC.length = 37) := Lib.hid (by rw [← hYC]; exact Cm.len HYO.out.h)
  have HYN : Hid (∀ u ∈ YC, u.oneCell' = true) := Lib.hid (by rw [← hYC]; exact Cm.one Y)
  have HYC := Lib.hid hYC
  rw [hyv]
  clear hyv hYC
  go_upto_region 7 with (refine wpList_store_box rfl 39 _ _ rfl zeroCm 39 YC rfl rfl (by rw [HYL.out]; kernel_rfl) (by rw [HYL.out]; rfl) HYN.out ?_; intro w6 hb6 hf6)
  have HY6 := Lib.hid hb6
  have HF6 := Lib.hid hf6
  clear hb6 hf6
  obtain ⟨gM, hgM⟩ : ∃ gM, gM = w5.heap.size := ⟨_, rfl⟩
  rw [← hgM] at HY6 ⊢
  have HMT : Hid (wb.heap.size ≤ gM ∧ gM < w6.heap.size) := Lib.hid ⟨by rw [hgM]; exact HF5.out.size, HY6.out.lt⟩
  have HBB6 := Lib.hid (HBB5.out.keep HF6.out (by simp) (by simp))
  have HFb6 : Hid (Fr (Sb ++ [gr]) wb w6) := Lib.hid (HF5.out.trans HF6.out (by simp))
  have HCF6 := Lib.hid (HCFb.out.keep HFb6.out (fun hm => (HSLb.out _ hm).2.1 rfl))
  have HBX6 := Lib.hid (HBXb.out.keep HFb6.out (fun hm => (HSLb.out _ hm).2.2.1 rfl))
  have HNM6 := Lib.hid (HNM.out.keep HFb6.out (fun hm => (HSLb.out _ hm).1 rfl))
  have HS6 : Hid (∀ q ∈ Sb ++ Sr5, q ≠ w.heap.size ∧ q ≠ gC ∧ q ≠ gKb ∧ q ≠ gM ∧ q < w6.heap.size ∧ w.heap.size ≤ q) := Lib.hid (fun q hq => by
    have h3 := HMT.out
    have h4 := HLTb.out
    rcases List.mem_append.1 hq with h | h
    · have := HSLb.out q (List.mem_append.2 (.inl h))
      have h5 := HBB5.out.b.lt q h
      exact ⟨by omega, by omega, by omega, by omega, by omega, by omega⟩
    · have h5 := HBB5.out.r.lt q h
      rcases Nat.lt_or_ge q wb.heap.size with h6 | h6
      · have h7 := HS5.out q h h6
        have := HSLb.out q (List.mem_append.2 (.inr (by simp [h7])))
        exact ⟨by omega, by omega, by omega, by omega, by omega, by omega⟩
      · exact ⟨by omega, by omega, by omega, by omega, by omega, by omega⟩)
  have hn0 := HNM6.out.cell 0
  have hn1 := HNM6.out.cell 1
  simp only [List.getElem?_toArray, List.getElem?_cons_zero, List.getElem?_cons_succ] at hn0 hn1
  have hw20 : IntKind.i64.wrap (1 + S4 + 20) = 1 + S4 + 20 := IntWalk.i64_in _ (by omega)
  clear HBB5 HF5 HF6 hgM HS5 HCFb HBXb HNM
  go_wp2_with (first
    | (refine wpList_midg rfl 31 _ rfl gKb 0 rfl _ HBX6.out.range row_books ?_)
    | (refine wpList_builtg rfl 23 _ rfl _ _ (built_nmH C4 (1 + S4 + 20)) rfl ?_))
  refine (bkCommit_any C4 (1 + S4 + 20) ⟨hc0, by omega⟩ ⟨by omega, by omega⟩ (some ⟨w6.heap.size, 0, none⟩) 1 1 [1] _ (by_new1 w6 _) (fun k hk => by simp [bk] at hk; subst hk; simp) (by decide) Sb gb Sr5 gr b5 (HBB6.out.keep ((Fr.refl [] w6).alloc _) (by simp) (by simp)) (by have := HL5.out; omega)).mono ?_
  rintro e w7 ⟨rfl, Sr7, hbb7, hf7, hs7⟩
  have HBB7 := Lib.hid hbb7
  have HF7 : Hid (Fr (Sb ++ Sr5) w6 w7) := Lib.hid ((((Fr.refl [] w6).alloc _).mono (T := Sb ++ Sr5) (by simp)).trans hf7 (fun _ h _ => h))
  have HS7 : Hid (∀ q ∈ Sr7, q < w6.heap.size → q ∈ Sr5) := Lib.hid (fun q hq h => hs7 q hq (by simp; omega))
  have HZO : Hid (made C4 (1 + S4 + 20) hzC [1] b5).Ok := Lib.hid (made_ok C4 (1 + S4 + 20) (by omega) ⟨by omega, by omega⟩ hzC [1] (by decide) b5 (by have := HL5.out; omega))
  have HZS : Hid ((made C4 (1 + S4 + 20) hzC [1] b5).s = 1 + S4 + 20) := Lib.hid rfl
  have HL7 : Hid ((sgn b5 (1000 + C4, (made C4 (1 + S4 + 20) hzC [1] b5).text)).length ≤ 2) := Lib.hid (by have := sgn_lenC b5 (1000 + C4, (made C4 (1 + S4 + 20) hzC [1] b5).text); have := HL5.out; omega)
  have HP7 : Hid (Pre b5 (sgn b5 (1000 + C4, (made C4 (1 + S4 + 20) hzC [1] b5).text))) := Lib.hid (Pre.sgn _ _)
  clear hbb7 hf7 hs7
  generalize sgn b5 (1000 + C4, (made C4 (1 + S4 + 20) hzC [1] b5).text) = b7 at *
  generalize made C4 (1 + S4 + 20) hzC [1] b5 = Z at *
  obtain ⟨ZC, hZC⟩ : ∃ ZC, Z.cells = ZC := ⟨_, rfl⟩
  have hzv : Z.val = .agg ZC.toArray := by rw [← hZC]; rfl
  have HZL : Hid (ZC.length = 37) := Lib.hid (by rw [← hZC]; exact Cm.len HZO.out.h)
  have HZN : Hid (∀ u ∈ ZC, u.oneCell' = true) := Lib.hid (by rw [← hZC]; exact Cm.one Z)
  have HZC := Lib.hid hZC
  rw [hzv]
  clear hzv hZC hw20 hn0 hn1
  go_upto_region 8 with (refine wpList_store_box rfl 39 _ _ rfl zeroCm 39 ZC rfl rfl (by rw [HZL.out]; kernel_rfl) (by rw [HZL.out]; rfl) HZN.out ?_; intro w8 hb8 hf8)
  have HZ8 := Lib.hid hb8
  have HF8 := Lib.hid hf8
  clear hb8 hf8
  obtain ⟨gZ, hgZ⟩ : ∃ gZ, gZ = w7.heap.size := ⟨_, rfl⟩
  rw [← hgZ] at HZ8 ⊢
  have HZT : Hid (w6.heap.size ≤ gZ ∧ gZ < w8.heap.size) := Lib.hid ⟨by rw [hgZ]; exact HF7.out.size, HZ8.out.lt⟩
  have HBB8 := Lib.hid (HBB7.out.keep HF8.out (by simp) (by simp))
  have HF68 : Hid (Fr (Sb ++ Sr5) w6 w8) := Lib.hid (HF7.out.trans HF8.out (by simp))
  have HCF8 := Lib.hid (HCF6.out.keep HF68.out (fun hm => (HS6.out _ hm).2.1 rfl))
  have HBX8 := Lib.hid (HBX6.out.keep HF68.out (fun hm => (HS6.out _ hm).2.2.1 rfl))
  have HY8 := Lib.hid (HY6.out.keep HF68.out (fun hm => (HS6.out _ hm).2.2.2.1 rfl))
  have HS8 : Hid (∀ q ∈ Sb ++ Sr7, q ≠ w.heap.size ∧ q ≠ gC ∧ q ≠ gKb ∧ q ≠ gM ∧ q ≠ gZ ∧ q < w8.heap.size ∧ w.heap.size ≤ q) := Lib.hid (fun q hq => by
    have h2 := HMT.out
    have h3 := HZT.out
    have h4 := HLTb.out
    rcases List.mem_append.1 hq with h | h
    · have := HS6.out q (List.mem_append.2 (.inl h))
      have h5 := HBB7.out.b.lt q h
      exact ⟨this.1, this.2.1, this.2.2.1, this.2.2.2.1, by omega, by omega, by omega⟩
    · have h5 := HBB7.out.r.lt q h
      rcases Nat.lt_or_ge q w6.heap.size with h6 | h6
      · have := HS6.out q (List.mem_append.2 (.inr (HS7.out q h h6)))
        exact ⟨this.1, this.2.1, this.2.2.1, this.2.2.2.1, by omega, by omega, by omega⟩
      · exact ⟨by omega, by omega, by omega, by omega, by omega, by omega, by omega⟩)
  clear hgZ
  have HFW8 : Hid (Fr [] w w8) := Lib.hid ((HFWb.out.and HFb6.out (fun q hq => by have := HSLb.out q hq; omega)).and HF68.out (fun q hq => by have := HS6.out q hq; omega))
  have HTw6 : Hid (UL w6 T nT lT) := Lib.hid (Lst.keep' HTw.out HFb6.out (fun hn a ha hm => by
      have h1 := HTlt.out hn a ha
      have := HSLb.out _ hm
      omega) (fun _ _ h => h))
  have HTw8 : Hid (UL w8 T nT lT) := Lib.hid (Lst.keep' HTw6.out HF68.out (fun hn a ha hm => by
      have h1 := HTlt.out hn a ha
      have := HS6.out _ hm
      omega) (fun _ _ h => h))
  have hcf8 := HCF8.out.cell 0
  simp only [List.getElem?_toArray, List.getElem?_cons_zero] at hcf8
  obtain ⟨N, hN⟩ : ∃ N, N = 3 * Fn + 1 := ⟨_, rfl⟩
  have hN13 : N ≤ 13 := by omega
  have hN1 : 4 ≤ N := by omega
  have HNI := Lib.hid (show 3 * (Fn : Int) + 1 = (N : Int) by omega)
  have HNF := Lib.hid hN
  have hw3 : IntKind.i64.wrap (3 * (Fn : Int)) = 3 * (Fn : Int) := IntWalk.i64_in _ (by omega)
  have hw4 : IntKind.i64.wrap (3 * (Fn : Int) + 1) = (N : Int) := (IntWalk.i64_in _ (by omega)).trans HNI.out
  clear hN
  go_upto_region 9 with (fail)
  clear hw3 hw4 hcf8
  have hwk := within_pos sk (N : Int) HSK.out.1 HSK.out.2 (by omega) (by omega) w8
  obtain ⟨q, hq, hqN⟩ : ∃ q : Nat, sk % (N : Int) = (q : Int) ∧ q < N := ⟨(sk % (N : Int)).toNat, by have := Int.emod_nonneg sk (show (N : Int) ≠ 0 by omega); omega, by have := Int.emod_lt_of_pos sk (show (0 : Int) < N by omega); omega⟩
  rw [hq] at hwk
  go_upto_region 10 with (first | (go_at_call 6; refine hwk.mono ?_; rintro e_ w' ⟨rfl, rfl⟩))
  clear hwk hq HSK
  have HWN : Hid (Wi (Fn : Int) q b7 (wcm Y) [] 0) := Lib.hid (Wi.nil _ _ _ _)
  have HP57 : Hid (Pre b5 b7) := HP7
  go_upto_block 0 with (fail)
  go_cut [15, 16] (fun sa _ wx => ∃ (k m : Nat) (A9 : Option Addr) (c9 : Nat) (L : List Wst) (b : List Ent) (Sr' : List Nat), k = N ∧ sa = .slice A9 m c9 ∧ Hid (L.length = m) ∧ Hid (m ≤ 2 * k) ∧ Hid (Wi (Fn : Int) q b (wcm Y) L k) ∧ Hid (wx.ownsRow w8.heap.size 45 38 (.slice A9 m c9) m (L.flatMap Wst.cells)) ∧ Hid (BB wx Sb gb Sr' gr b) ∧ Hid (b.length ≤ 2 * k + 2) ∧ Hid (Pre b5 b) ∧ Hid (∀ x ∈ Sr', x < w8.heap.size → x ∈ Sr7) ∧ Hid (∀ x ∈ bk A9, ¬ x ∈ Sr') ∧ Hid (Fr (Sb ++ Sr7) w8 wx))
  case first =>
    go_wp2_with fail
    go_loopw [15, 16] (fun sa si wx => ∃ (k m : Nat) (A9 : Option Addr) (c9 : Nat) (L : List Wst) (b : List Ent) (Sr' : List Nat), k ≤ N ∧ si = .int .i64 k ∧ sa = .slice A9 m c9 ∧ Hid (L.length = m) ∧ Hid (m ≤ 2 * k) ∧ Hid (Wi (Fn : Int) q b (wcm Y) L k) ∧ Hid (wx.ownsRow w8.heap.size 45 38 (.slice A9 m c9) m (L.flatMap Wst.cells)) ∧ Hid (BB wx Sb gb Sr' gr b) ∧ Hid (b.length ≤ 2 * k + 2) ∧ Hid (Pre b5 b) ∧ Hid (∀ x ∈ Sr', x < w8.heap.size → x ∈ Sr7) ∧ Hid (∀ x ∈ bk A9, ¬ x ∈ Sr') ∧ Hid (Fr (Sb ++ Sr7) w8 wx)) (fun _ i _ => N + 1 - (intOf i).toNat)
    case atStart => exact ⟨0, 0, none, 0, [], b7, Sr7, Nat.zero_le _, rfl, rfl, Lib.hid rfl, Lib.hid (by omega), HWN, Lib.hid ⟨rfl, .inl ⟨rfl, rfl⟩⟩, HBB8, Lib.hid (by have := HL7.out; omega), HP57, Lib.hid (fun x h _ => h), Lib.hid (by simp [bk]), Lib.hid (Fr.refl _ _)⟩
    case round =>
      obtain ⟨k, m, A9, c9, L, b, Sr', hkN, rfl, rfl, HLL, HML, HWI, HO, HBK, HBL, HPB, HSN, HAD, HF⟩ := hrel
      rename World => wr
      by_cases hkn : k < N
      case neg =>
        have hke : k = N := by omega
        go_wp2_with fail
        go_meet
        exact ⟨k, m, A9, c9, L, b, Sr', hke, rfl, HLL, HML, HWI, HO, HBK, HBL, HPB, HSN, HAD, HF⟩
      go_upto_if 69 with (fail)
      go_cut [17] (fun s wx => ∃ t : Nat, s = .int .u64 (t : Int) ∧ 1 ≤ t ∧ t ≤ 5000 ∧ wr = wx)
      case first =>
        by_cases hkT : k < nT
        · have HUL : Hid (UL wr T nT lT) := Lib.hid (Lst.keep' HTw8.out HF.out (fun hn a ha hm => by
            have h1 := HTlt.out hn a ha
            have := HS8.out _ hm
            omega) (fun _ _ h => h))
          obtain ⟨ad, v, rfl, hv, hv0, hv1, hcell⟩ := HUL.out.get hkT
          obtain ⟨tt, ht1, ht2, ht3⟩ : ∃ tt : Nat, 1 + v % 900 = (tt : Int) ∧ 1 ≤ tt ∧ tt ≤ 5000 := ⟨(1 + v % 900).toNat, by omega, by omega, by omega⟩
          have HT1 := Lib.hid ht1
          clear ht1
          go_wp2_with fail
          go_meet
          exact ⟨tt, congrArg (Value.int .u64) HT1.out, ht2, ht3, rfl⟩
        · go_wp2_with fail
          go_meet
          exact ⟨7, rfl, by omega, by omega, rfl⟩
      case rest =>
      obtain ⟨t, rfl, ht1, ht5, rfl⟩ := hcut
      have hm26 : m ≤ 26 := by have := HML.out; omega
      have hb28 : b.length ≤ 28 := by have := HBL.out; omega
      have HSBL : Hid (∀ x ∈ Sb ++ Sr', x ≠ gC ∧ x ≠ gKb ∧ x ≠ gM ∧ x ≠ gZ ∧ x < wr.heap.size) := Lib.hid (fun x hx => by
        have h3 := HMT.out
        have h4 := HLTb.out
        have h5 := HF.out.size
        have h9 := HZT.out
        rcases List.mem_append.1 hx with h | h
        · have := HS8.out x (List.mem_append.2 (.inl h))
          exact ⟨this.2.1, this.2.2.1, this.2.2.2.1, this.2.2.2.2.1, HBK.out.b.lt x h⟩
        · have h8 := HBK.out.r.lt x h
          rcases Nat.lt_or_ge x w8.heap.size with h6 | h6
          · have := HS8.out x (List.mem_append.2 (.inr (HSN.out x h h6)))
            exact ⟨this.2.1, this.2.2.1, this.2.2.2.1, this.2.2.2.2.1, h8⟩
          · exact ⟨by omega, by omega, by omega, by omega, h8⟩)
      have HBXr := Lib.hid ((HBX8.out.keep HF.out (fun hm => (HS8.out _ hm).2.2.1 rfl)).range)
      have HYr := Lib.hid ((HY8.out.keep HF.out (fun hm => (HS8.out _ hm).2.2.2.1 rfl)).range)
      have HZr := Lib.hid ((HZ8.out.keep HF.out (fun hm => (HS8.out _ hm).2.2.2.2.1 rfl)).range)
      have e1 : (k : Int).tmod (N : Int) = (k : Int) := Int.tmod_eq_of_lt (by omega) (by omega)
      have e2 : (k : Int) % (N : Int) = (k : Int) := Int.emod_eq_of_lt (by omega) (by omega)
      have hN0 : ((N : Int) == 0) = false := by simp; omega
      have hNz : ¬ N = 0 := by omega
      by_cases hkq : k = q
      · subst hkq
        obtain ⟨r2, e3, e4, hr2, hr3⟩ : ∃ r2 : Nat, ((k : Int) + 1).tmod (N : Int) = (r2 : Int) ∧ ((k : Int) + 1) % (N : Int) = (r2 : Int) ∧ r2 < N ∧ r2 ≠ k := by
          by_cases h : k + 1 = N
          · refine ⟨0, ?_, ?_, by omega, by omega⟩
            · rw [show (k : Int) + 1 = (N : Int) by omega, Int.tmod_self]; rfl
            · rw [show (k : Int) + 1 = (N : Int) by omega, Int.emod_self]; rfl
          · refine ⟨k + 1, ?_, ?_, by omega, by omega⟩
            · rw [Int.tmod_eq_of_lt (by omega) (by omega)]; omega
            · rw [Int.emod_eq_of_lt (by omega) (by omega)]; omega
        obtain ⟨t2, ht2⟩ : ∃ t2 : Nat, t2 = t + 1 := ⟨_, rfl⟩
        have hw7 : IntKind.i64.wrap ((k : Int) + 1) = (k : Int) + 1 := IntWalk.i64_in _ (by omega)
        have hw8 : IntKind.u64.wrap ((t : Int) + 1) = (t2 : Int) := by simp [IntKind.wrap, IntKind.bits, IntKind.signed]; omega
        have HA9 : Hid (∀ x ∈ bk A9, w8.heap.size ≤ x) := Lib.hid (own_ge HO.out)
        have HN3 : Hid (∀ g, (g = gKb ∨ g = gM ∨ g = gZ) → ¬ g ∈ Sb ++ Sr' ++ bk A9) := Lib.hid (fun g hg hm => by
          rcases List.mem_append.1 hm with h | h
          · have := HSBL.out g h
            rcases hg with rfl | rfl | rfl
            · exact this.2.1 rfl
            · exact this.2.2.1 rfl
            · exact this.2.2.2.1 rfl
          · have h1 := HA9.out g h
            have h2 := HLTb.out
            have h3 := HMT.out
            have h4 := HZT.out
            rcases hg with rfl | rfl | rfl <;> omega)
        have HNK : Hid (¬ gKb ∈ Sb ++ Sr' ++ bk A9) := Lib.hid (HN3.out _ (.inl rfl))
        have HNM2 : Hid (¬ gM ∈ Sb ++ Sr' ++ bk A9) := Lib.hid (HN3.out _ (.inr (.inl rfl)))
        have HNZ : Hid (¬ gZ ∈ Sb ++ Sr' ++ bk A9) := Lib.hid (HN3.out _ (.inr (.inr rfl)))
        have HUO : Hid (stOf (k : Int) Z t b).Ok := Lib.hid (stOf_ok ⟨by omega, by omega⟩ HZO.out (by omega) (by omega))
        have HUN : Hid (ofB (stOf (k : Int) Z t b) (wcm Y) = false) := Lib.hid (by
          have h1 := HZS.out
          have h2 := HYS.out
          unfold ofB nameB stOf wcm
          simp only [h1, h2]
          have : decide (1 + S4 + 20 = 1 + S4) = false := decide_eq_false (by omega)
          rw [this]
          simp)
        have HP1 : Hid (Pre b (bkOf (k : Int) Z t b)) := Lib.hid (Pre.sgn _ _)
        have HB1 : Hid ((bkOf (k : Int) Z t b).length ≤ b.length + 1) := Lib.hid (sgn_lenC _ _)
        have hst1 := fun W => fun (hW : BB W Sb gb Sr' gr b) => bkStamp_any (k : Int) ⟨by omega, by omega⟩ Z HZO.out t (by omega) W Sb gb Sr' gr b hW (by omega)
        rw [HZC.out] at hst1
        generalize bkOf (k : Int) Z t b = b1 at *
        generalize stOf (k : Int) Z t b = u at *
        have hb1 : b1.length ≤ 29 := by have := HB1.out; omega
        have HVO : Hid (stOf (r2 : Int) Y t2 b1).Ok := Lib.hid (stOf_ok ⟨by omega, by omega⟩ HYO.out (by omega) (by omega))
        have HVG : Hid (Gd (Fn : Int) (bkOf (r2 : Int) Y t2 b1) (wcm Y) 0 18446744073709551616 (stOf (r2 : Int) Y t2 b1)) := Lib.hid ⟨HVO.out, by unfold hasB; rw [decide_eq_true_eq]; exact ⟨by show (0 : Int) ≤ (r2 : Int); omega, by show (r2 : Int) < 3 * (Fn : Int) + 1; have := HNI.out; omega⟩, stOf_of _ _ _ _ _ rfl rfl rfl, stOf_right (by unfold hasB; rw [decide_eq_true_eq]; exact ⟨by omega, by have := HNI.out; omega⟩) (by omega) (by omega), Nat.zero_le _, by show t2 ≤ 18446744073709551616; omega⟩
        have HVR : Hid ((stOf (r2 : Int) Y t2 b1).r = (r2 : Int)) := Lib.hid rfl
        have HPP : Hid (Pre b1 (bkOf (r2 : Int) Y t2 b1)) := Lib.hid (Pre.sgn _ _)
        have HBL2 : Hid ((bkOf (r2 : Int) Y t2 b1).length ≤ b1.length + 1) := Lib.hid (sgn_lenC _ _)
        have hst2 := fun W Sx => fun (hW : BB W Sb gb Sx gr b1) => bkStamp_any (r2 : Int) ⟨by omega, by omega⟩ Y HYO.out t2 (by omega) W Sb gb Sx gr b1 hW (by omega)
        rw [HYC.out] at hst2
        generalize bkOf (r2 : Int) Y t2 b1 = b2 at *
        generalize stOf (r2 : Int) Y t2 b1 = v at *
        clear ht2
        have HST1 := Lib.hid hst1
        have HST2 := Lib.hid hst2
        clear hst1 hst2
        go_upto_region 18 with (fail)
        refine wp_region_held_drew (S := Fr (Sb ++ Sr' ++ bk A9) wr) (by kernel_rfl) (Fr.drew (Fr.refl _ wr)) (fun hHeld => ?_)
        refine run_at (i := 0) (v := ?_) rfl (by kernel_rfl) (by rfl) (fun _ _ _ h => h) hHeld (fun w1 hw1 => ?_) ?_
        rotate_left 1
        · skip
          go_simp
          (try (first | with_reducible rfl | (apply And.intro <;> rfl)))
        simp only [Act.put, List.setIfInBounds_toArray, List.set_cons_zero, List.set_cons_succ]
        refine row_at (i := 1) rfl (by kernel_rfl) (by rfl) _ _ rfl _ _ rfl _ (fun w1 hw1 => hw1.range HBXr.out HNK.out) (row_books) (fun _ _ _ h => h) hHeld ?_
        simp only [Act.put, List.setIfInBounds_toArray, List.set_cons_zero, List.set_cons_succ]
        refine run_at (i := 2) (v := ?_) rfl (by kernel_rfl) (by rfl) (fun _ _ _ h => h) hHeld (fun w1 hw1 => ?_) ?_
        rotate_left 1
        · skip
          go_simp
          (try (first | with_reducible rfl | (apply And.intro <;> rfl)))
        simp only [Act.put, List.setIfInBounds_toArray, List.set_cons_zero, List.set_cons_succ]
        refine row_at (i := 3) rfl (by kernel_rfl) (by rfl) _ _ rfl _ _ rfl _ (fun w1 hw1 => hw1.range HZr.out HNZ.out) (row_cmt.of HZL.out) (fun _ _ _ h => h) hHeld ?_
        simp only [Act.put, List.setIfInBounds_toArray, List.set_cons_zero, List.set_cons_succ]
        refine run_at (i := 4) (v := ?_) rfl (by kernel_rfl) (by rfl) (fun _ _ _ h => h) hHeld (fun w1 hw1 => ?_) ?_
        rotate_left 1
        · skip
          go_simp
          (try (first | with_reducible rfl | (apply And.intro <;> rfl)))
        simp only [Act.put, List.setIfInBounds_toArray, List.set_cons_zero, List.set_cons_succ]
        refine row_at (i := 6) rfl (by kernel_rfl) (by rfl) _ _ rfl _ _ rfl _ (fun w1 hw1 => hw1.range HBXr.out HNK.out) (row_books) (fun _ _ _ h => h) hHeld ?_
        simp only [Act.put, List.setIfInBounds_toArray, List.set_cons_zero, List.set_cons_succ]
        refine run_at (i := 7) (v := ?_) rfl (by kernel_rfl) (by rfl) (fun _ _ _ h => h) hHeld (fun w1 hw1 => ?_) ?_
        rotate_left 1
        · skip
          go_simp
          (try (first | with_reducible rfl | (apply And.intro <;> rfl)))
        simp only [Act.put, List.setIfInBounds_toArray, List.set_cons_zero, List.set_cons_succ]
        refine run_at (i := 8) (v := ?_) rfl (by kernel_rfl) (by rfl) (fun _ _ _ h => h) hHeld (fun w1 hw1 => ?_) ?_
        rotate_left 1
        · skip
          go_simp
          (try (first | with_reducible rfl | (apply And.intro <;> rfl)))
        simp only [Act.put, List.setIfInBounds_toArray, List.set_cons_zero, List.set_cons_succ]
        refine run_at (i := 9) (v := ?_) rfl (by kernel_rfl) (by rfl) (fun _ _ _ h => h) hHeld (fun w1 hw1 => ?_) ?_
        rotate_left 1
        · skip
          go_simp
          (try (first | with_reducible rfl | (apply And.intro <;> rfl)))
        simp only [Act.put, List.setIfInBounds_toArray, List.set_cons_zero, List.set_cons_succ]
        refine run_at (i := 10) (v := ?_) rfl (by kernel_rfl) (by rfl) (fun _ _ _ h => h) hHeld (fun w1 hw1 => ?_) ?_
        rotate_left 1
        · skip
          go_simp
          (try (first | with_reducible rfl | (apply And.intro <;> rfl)))
        simp only [Act.put, List.setIfInBounds_toArray, List.set_cons_zero, List.set_cons_succ]
        refine row_at (i := 11) rfl (by kernel_rfl) (by rfl) _ _ rfl _ _ rfl _ (fun w1 hw1 => hw1.range HYr.out HNM2.out) (row_cmt.of HYL.out) (fun _ _ _ h => h) hHeld ?_
        simp only [Act.put, List.setIfInBounds_toArray, List.set_cons_zero, List.set_cons_succ]
        refine run_at (i := 12) (v := ?_) rfl (by kernel_rfl) (by rfl) (fun _ _ _ h => h) hHeld (fun w1 hw1 => ?_) ?_
        rotate_left 1
        · skip
          go_simp
          (try (first | with_reducible rfl | (apply And.intro <;> rfl)))
        simp only [Act.put, List.setIfInBounds_toArray, List.set_cons_zero, List.set_cons_succ]
        refine run_at (i := 13) (v := ?_) rfl (by kernel_rfl) (by rfl) (fun _ _ _ h => h) hHeld (fun w1 hw1 => ?_) ?_
        rotate_left 1
        · skip
          go_simp
          (try (first | with_reducible rfl | (apply And.intro <;> rfl)))
        simp only [Act.put, List.setIfInBounds_toArray, List.set_cons_zero, List.set_cons_succ]
        refine call_at (i := 5) (f := ?_) (args := ?_) rfl (by kernel_rfl) (by rfl) ?_ ?_
        rotate_left 2
        · go_simp
          (try (first | with_reducible rfl | (apply And.intro <;> rfl)))
        refine (HST1.out _ (HBK.out.keep (Fr.drew (Fr.refl [] wr)) (by simp) (by simp))).mono ?_
        rintro e w9 ⟨rfl, Sr1, hb9, hf9, hs9⟩
        have HB9 := Lib.hid hb9
        have HS9 := Lib.hid hs9
        have HFa : Hid (Fr (Sb ++ Sr') wr w9) := Lib.hid (((Fr.drew (Fr.refl [] wr)).mono (T := Sb ++ Sr') (by simp)).trans hf9 (fun x hx _ => hx))
        refine ⟨_, rfl, hHeld.trans hf9 (fun x hx _ => List.mem_append.2 (.inl hx)), fun hHeld => ?_⟩
        clear hb9 hf9 hs9
        simp only [Act.put, List.setIfInBounds_toArray, List.set_cons_zero, List.set_cons_succ]
        refine call_at (i := 14) (f := ?_) (args := ?_) rfl (by kernel_rfl) (by rfl) ?_ ?_
        rotate_left 2
        · go_simp
          (try (first | with_reducible rfl | (apply And.intro <;> rfl)))
        refine (HST2.out _ Sr1 HB9.out).mono ?_
        rintro e w10 ⟨rfl, Sr2, hb2, hf2, hs2⟩
        have HBK2 := Lib.hid hb2
        have HS2 : Hid (∀ x ∈ Sr2, x < wr.heap.size → x ∈ Sr') := Lib.hid (fun x hx hl => HS9.out x (hs2 x hx (Nat.lt_of_lt_of_le hl HFa.out.size)) hl)
        have HF2 : Hid (Fr (Sb ++ Sr') wr w10) := Lib.hid (HFa.out.trans hf2 (fun x hx hl => by
          rcases List.mem_append.1 hx with h | h
          · exact List.mem_append.2 (.inl h)
          · exact List.mem_append.2 (.inr (HS9.out x h hl))))
        refine ⟨_, rfl, HF2.out.mono (fun x hx _ => List.mem_append.2 (.inl hx)), fun hHeld => ?_⟩
        clear hb2 hf2 hs2
        unfold Wst.val
        simp only [Act.put, List.setIfInBounds_toArray, List.set_cons_zero, List.set_cons_succ]
        have HAB : Hid (∀ x ∈ bk A9, ¬ x ∈ Sb ++ Sr') := Lib.hid (fun x hx hm => by
          rcases List.mem_append.1 hm with h | h
          · have h1 := own_ge HO.out x hx
            have h2 := (HS8.out x (List.mem_append.2 (.inl h))).2.2.2.2.2.1
            omega
          · exact HAD.out x hx h)
        have HO9 := Lib.hid (own_keep HO.out HF2.out (fun x hx => HAB.out x ((bk_mem A9 m c9 x).1 hx)))
        have HAS2 : Hid (∀ x ∈ bk A9, ¬ x ∈ Sr2) := Lib.hid (fun x hx hm => HAD.out x hx (HS2.out x hm (own_lt HO.out x ((bk_mem A9 m c9 x).2 hx))))
        have HF9 : Hid (Fr (Sb ++ Sr7) w8 w10) := Lib.hid (HF.out.trans HF2.out (fun x hx hl => by
          rcases List.mem_append.1 hx with h | h
          · exact List.mem_append.2 (.inl h)
          · exact List.mem_append.2 (.inr (HSN.out x h hl))))
        have HL2 := Lib.hid (lst_two w10 u v HUO.out HVO.out)
        have HUL : Hid (u.cells.length = 38) := Lib.hid (Wst.len HUO.out.h)
        have HVL : Hid (v.cells.length = 38) := Lib.hid (Wst.len HVO.out.h)
        obtain ⟨D1, hD1⟩ : ∃ D, u.cells = D := ⟨_, rfl⟩
        obtain ⟨D2, hD2⟩ : ∃ D, v.cells = D := ⟨_, rfl⟩
        rw [hD1] at HUL HL2
        rw [hD2] at HVL HL2
        rw [hD1, hD2]
        clear hD1 hD2
        refine step_at (i := 15) rfl (by kernel_rfl) (by rfl) (fun K hK => ?_)
        refine wp_build_two 42 45 _ _ rfl Try.underlying42 D1 D2 80 (by rw [HUL.out]; exact el_stamp) (by rw [HUL.out, HVL.out]) rfl rfl (by rw [HUL.out]; decide) (by rw [HUL.out]; decide) ?_
        refine hK.out _ _ (hHeld.alloc _) (fun hHeld => ?_)
        clear hK K
        simp only [Act.put, List.setIfInBounds_toArray, List.set_cons_zero, List.set_cons_succ]
        refine step_at (i := 16) rfl (by kernel_rfl) (by rfl) (fun K hK => ?_)
        refine wp_append_ownl _ _ _ _ rfl 45 38 80 Try.underlying42 el_stamp (by decide) (by decide) Wst.one A9 m c9 L rfl (own_any (HO9.out.alloc _) (Nat.zero_le _)) (some ⟨w10.heap.size, 0, none⟩) 2 2 [u, v] rfl HL2.out (by omega) ?_
        intro A1 c1 wz hoz hfz0 hbz
        have hfz : Fr (bk A9) w10 wz := (((Fr.refl [] w10).alloc _).mono (T := bk A9) (by simp)).trans hfz0 (fun _ h _ => h)
        refine hK.out _ _ (hHeld.trans hfz0 (fun x hx _ => List.mem_append.2 (.inr hx))) (fun hHeld => ?_)
        clear hK K
        simp only [Act.put, List.setIfInBounds_toArray, List.set_cons_zero, List.set_cons_succ]
        refine run_at (i := 17) (v := ?_) rfl (by kernel_rfl) (by rfl) (fun _ _ _ h => h) hHeld (fun w1 hw1 => ?_) ?_
        rotate_left 1
        · skip
          go_simp
          (try (first | with_reducible rfl | (apply And.intro <;> rfl)))
        simp only [Act.put, List.setIfInBounds_toArray, List.set_cons_zero, List.set_cons_succ]
        refine wpAnyH_done (by kernel_rfl) ?_ _
        have hbz2 : ∀ x ∈ bk A1, x ∈ bk A9 ∨ w10.heap.size ≤ x := fun x hx => (hbz x hx).imp id (fun h => by simp at h; omega)
        have HOz : Hid (wz.ownsRow w8.heap.size 45 38 (.slice A1 (m + 2) c1) (m + 2) ((L ++ [u, v]).flatMap Wst.cells)) := Lib.hid (own_up hoz (fun x hx => by
          rcases hbz2 x hx with h | h
          · exact HA9.out x h
          · exact Nat.le_trans HF9.out.size h))
        have HFz : Hid (Fr (Sb ++ Sr7) w8 wz) := Lib.hid (HF9.out.trans hfz (fun x hx hl => by have := HA9.out x hx; omega))
        have HBKz := Lib.hid (HBK2.out.keep hfz (fun x hx hm => HAB.out x hm (List.mem_append.2 (.inl hx))) (fun x hx hm => HAS2.out x hm hx))
        have HAz : Hid (∀ x ∈ bk A1, ¬ x ∈ Sr2) := Lib.hid (fun x hx hm => by
          rcases hbz2 x hx with h | h
          · exact HAS2.out x h hm
          · have h1 := HBK2.out.r.lt x hm
            omega)
        have HLL2 : Hid ((L ++ [u, v]).length = m + 2) := Lib.hid (by rw [List.length_append, HLL.out]; rfl)
        have HWI2 := Lib.hid (HWI.out.two HP1.out HPP.out HUO.out HUN.out HVG.out (by rw [HVR.out]; omega))
        have HSN2 : Hid (∀ x ∈ Sr2, x < w8.heap.size → x ∈ Sr7) := Lib.hid (fun x hx hl => HSN.out x (HS2.out x hx (Nat.lt_of_lt_of_le hl HF.out.size)) hl)
        have HBL3 : Hid (b2.length ≤ 2 * (k + 1) + 2) := Lib.hid (by have := HBL.out; have := HBL2.out; have := HB1.out; omega)
        have HPB2 := Lib.hid ((HPB.out.trans HP1.out).trans HPP.out)
        have HML2 : Hid (m + 2 ≤ 2 * (k + 1)) := Lib.hid (by have := HML.out; omega)
        clear hoz hfz0 hbz hfz hbz2 hHeld
        go_wp2_with fail
        go_roundw
        case rel => exact ⟨k + 1, m + 2, A1, c1, L ++ [u, v], b2, Sr2, by omega, by go_num, rfl, HLL2, HML2, HWI2, HOz, HBKz, HBL3, HPB2, HSN2, HAz, HFz⟩
        case measure => simp [intOf]; omega
      · have hd : ((k : Int) == (q : Int)) = false := by simp; omega
        have hst := bkStamp_any (k : Int) ⟨by omega, by omega⟩ Y HYO.out t (by omega) wr Sb gb Sr' gr b HBK.out (by omega)
        rw [HYC.out] at hst
        have HVO : Hid (stOf (k : Int) Y t b).Ok := Lib.hid (stOf_ok ⟨by omega, by omega⟩ HYO.out (by omega) (by omega))
        have HVG : Hid (Gd (Fn : Int) (bkOf (k : Int) Y t b) (wcm Y) 0 18446744073709551616 (stOf (k : Int) Y t b)) := Lib.hid ⟨HVO.out, by unfold hasB; rw [decide_eq_true_eq]; exact ⟨by show (0 : Int) ≤ (k : Int); omega, by show (k : Int) < 3 * (Fn : Int) + 1; have := HNI.out; omega⟩, stOf_of _ _ _ _ _ rfl rfl rfl, stOf_right (by unfold hasB; rw [decide_eq_true_eq]; exact ⟨by omega, by have := HNI.out; omega⟩) ht1 (by omega), Nat.zero_le _, by show t ≤ 18446744073709551616; omega⟩
        have HVR : Hid ((stOf (k : Int) Y t b).r = (k : Int)) := Lib.hid rfl
        have HPP : Hid (Pre b (bkOf (k : Int) Y t b)) := Lib.hid (Pre.sgn _ _)
        have HBL2 : Hid ((bkOf (k : Int) Y t b).length ≤ b.length + 1) := Lib.hid (sgn_lenC _ _)
        go_wp2_with (first
          | (refine wpList_midg rfl 31 _ rfl gKb 0 rfl _ HBXr.out row_books ?_)
          | (refine wpList_midg rfl 39 _ rfl gM 0 rfl YC HYr.out (row_cmt.of HYL.out) ?_))
        refine hst.mono ?_
        rintro e w9 ⟨rfl, Sr2, hb2, hf2, hs2⟩
        generalize bkOf (k : Int) Y t b = b2 at *
        generalize stOf (k : Int) Y t b = v at *
        have HBK2 := Lib.hid hb2
        have HF2 := Lib.hid hf2
        have HS2 := Lib.hid hs2
        clear hb2 hf2 hs2 hst e1 e2
        have HAB : Hid (∀ x ∈ bk A9, ¬ x ∈ Sb ++ Sr') := Lib.hid (fun x hx hm => by
          rcases List.mem_append.1 hm with h | h
          · have h1 := own_ge HO.out x hx
            have h2 := (HS8.out x (List.mem_append.2 (.inl h))).2.2.2.2.2.1
            omega
          · exact HAD.out x hx h)
        have HO9 := Lib.hid (own_keep HO.out HF2.out (fun x hx => HAB.out x ((bk_mem A9 m c9 x).1 hx)))
        have HAS2 : Hid (∀ x ∈ bk A9, ¬ x ∈ Sr2) := Lib.hid (fun x hx hm => HAD.out x hx (HS2.out x hm (own_lt HO.out x ((bk_mem A9 m c9 x).2 hx))))
        have HF9 : Hid (Fr (Sb ++ Sr7) w8 w9) := Lib.hid (HF.out.trans HF2.out (fun x hx hl => by
          rcases List.mem_append.1 hx with h | h
          · exact List.mem_append.2 (.inl h)
          · exact List.mem_append.2 (.inr (HSN.out x h hl))))
        obtain ⟨D, hD⟩ : ∃ D, v.cells = D := ⟨_, rfl⟩
        have HDL : Hid (38 = D.length) := Lib.hid (by rw [← hD]; exact (Wst.len HVO.out.h).symm)
        have HD1 : Hid (∀ u ∈ D, u.oneCell' = true) := Lib.hid (by rw [← hD]; exact v.one)
        have HDD : Hid ((L ++ [v]).flatMap Wst.cells = L.flatMap Wst.cells ++ D) := Lib.hid (by rw [List.flatMap_append, List.flatMap_singleton, hD])
        unfold Wst.val
        rw [hD]
        clear hD
        go_wp2_with (first
          | (refine wpList_build_one rfl 42 45 _ rfl Try.underlying42 D 80 (by rw [← HDL.out]; exact el_stamp) rfl (by rw [← HDL.out]; decide) (by rw [← HDL.out]; decide) ?_)
          | (at_builtin; refine Stop.mk ?_))
        refine Stop.go ?_
        refine wpList_append_one3 rfl _ _ 42 45 rfl Try.underlying42 38 80 el_stamp (by decide) w8.heap.size (.slice A9 m c9) m _ D rfl (HO9.out.alloc _) (by have := HF9.out.size; simp; omega) HDL.out.symm HD1.out w9.heap.size 45 rfl (Blk.new w9 _ _) (by omega) (by decide) ?_
        intro A1 c1 wz hoz hfz0 hbz
        have HOz : Hid (wz.ownsRow w8.heap.size 45 38 (.slice A1 (m + 1) c1) (m + 1) ((L ++ [v]).flatMap Wst.cells)) := Lib.hid (by rw [HDD.out]; exact hoz)
        have hfz : Fr (bk A9) w9 wz := (((Fr.refl [] w9).alloc (Obj.cells D.toArray 45)).mono (T := bk A9) (by simp)).trans (by rw [← bk_own A9 m c9]; exact hfz0) (fun _ h _ => h)
        have HFz : Hid (Fr (Sb ++ Sr7) w8 wz) := Lib.hid (HF9.out.trans hfz (fun x hx hl => by have := own_ge HO9.out x hx; omega))
        have HBKz := Lib.hid (HBK2.out.keep hfz (fun x hx hm => HAB.out x hm (List.mem_append.2 (.inl hx))) (fun x hx hm => HAS2.out x hm hx))
        have HAz : Hid (∀ x ∈ bk A1, ¬ x ∈ Sr2) := Lib.hid (fun x hx hm => by
          rw [← bk_own A1 (m + 1) c1] at hx
          rcases hbz with h | h
          · rw [h, bk_own] at hx; exact HAS2.out x hx hm
          · rw [h] at hx
            simp at hx
            have h1 := HBK2.out.r.lt x hm
            omega)
        have HLL2 : Hid ((L ++ [v]).length = m + 1) := Lib.hid (by rw [List.length_append, HLL.out]; rfl)
        have HWI2 := Lib.hid (HWI.out.snoc HPP.out HVG.out HVR.out hkq)
        have HSN2 : Hid (∀ x ∈ Sr2, x < w8.heap.size → x ∈ Sr7) := Lib.hid (fun x hx hl => HSN.out x (HS2.out x hx (Nat.lt_of_lt_of_le hl HF.out.size)) hl)
        have HBL3 : Hid (b2.length ≤ 2 * (k + 1) + 2) := Lib.hid (by have := HBL.out; have := HBL2.out; omega)
        have HPB2 := Lib.hid (HPB.out.trans HPP.out)
        have HML2 : Hid (m + 1 ≤ 2 * (k + 1)) := Lib.hid (by have := HML.out; omega)
        clear hoz hfz0 hbz hfz
        go_wp2_with fail
        go_roundw
        case rel => exact ⟨k + 1, m + 1, A1, c1, L ++ [v], b2, Sr2, by omega, by go_num, rfl, HLL2, HML2, HWI2, HOz, HBKz, HBL3, HPB2, HSN2, HAz, HFz⟩
        case measure => simp [intOf]; omega
  case rest =>
  obtain ⟨k, m, A9, c9, L, b, Sr', rfl, rfl, HLL, HML, HWI, HO, HBK, HBL, HPB, HSN, HAD, HF⟩ := hcut
  rename World => wy
  have HLS : Hid (Lst 38 Wst.cells (fun _ v => v.Ok) wy A9 m L) := Lib.hid (Lst.of_own HO.out HLL.out (fun v hv => ⟨Wst.len (HWI.out.ok v hv).h, HWI.out.ok v hv⟩))
  have HBXb := Lib.hid (HBX8.out.keep HF.out (fun hm => (HS8.out _ hm).2.2.1 rfl))
  have HYb := Lib.hid ((HY8.out.keep HF.out (fun hm => (HS8.out _ hm).2.2.2.1 rfl)).range)
  have HCFb := Lib.hid (HCF8.out.keep HF.out (fun hm => (HS8.out _ hm).2.1 rfl))
  have HFWy : Hid (Fr [] w wy) := Lib.hid (HFW8.out.and HF.out (fun x hx => by have := HS8.out x hx; omega))
  have HRC : Hid (rightC 3 b (cmOf (wcm Y)) = true) := Lib.hid (by rw [cmOf_wcm]; exact rightC_pre HPB.out HYR.out)
  have HBOK := Lib.hid HBK.out.b
  obtain ⟨Q, hQ⟩ : ∃ Q, Q = 2 * Fn + 1 := ⟨_, rfl⟩
  have HQF := Lib.hid hQ
  have hQ9 : Q ≤ 9 := by omega
  have hQ3 : 3 ≤ Q := by omega
  have hm26 : m ≤ 26 := by have := HML.out; omega
  clear hQ
  obtain ⟨R0, hR0⟩ : ∃ R, R = refL (wcm Y) L (3 * Fn + 1) := ⟨_, rfl⟩
  have HR0L : Hid (Q ≤ R0.length) := Lib.hid (by
    have h := refL_count HWI.out k (Nat.le_refl _)
    have h2 := HNF.out
    have h3 := HQF.out
    rw [hR0, ← h2]
    split at h <;> omega)
  obtain ⟨R, hR⟩ : ∃ R, R = R0.take Q := ⟨_, rfl⟩
  have HRL : Hid (R.length = Q) := Lib.hid (by rw [hR, List.length_take]; have := HR0L.out; omega)
  have HRG0 : Hid (∀ v ∈ R, Gd (Fn : Int) b (wcm Y) 0 18446744073709551616 v ∧ v.r ≠ (q : Int)) := Lib.hid (fun v hv => by
    have h := List.mem_of_mem_take (by rw [← hR]; exact hv : v ∈ R0.take Q)
    rw [hR0] at h
    exact refL_wi HWI.out _ v h)
  have HRG : Hid (∀ v ∈ R, Gd (Fn : Int) b (wcm Y) 0 18446744073709551616 v) := Lib.hid (fun v hv => (HRG0.out v hv).1)
  have HRR : Hid (R.Pairwise (fun a b => a.r < b.r)) := Lib.hid (by rw [hR, hR0]; exact (refL_rise _ _ _).sublist (List.take_sublist _ _))
  have HMK : Hid (∀ W, Fr [] wy W → Calls Try.prog 10 #[.agg #[.int .i64 (Fn : Int), .int .i64 3], .agg YC.toArray, .slice A9 m c9] W fun e w' => Fr [] W w' ∧ ∃ ad : Addr, e = .returned (.tuple #[.agg (YC ++ [Value.slice (some ad) Q Q]).toArray, .int .i64 0]) ∧ Lst 38 Wst.cells (fun _ v => v.Ok) w' (some ad) Q R ∧ W.heap.size ≤ ad.block) := Lib.hid (fun W hW => by
    refine (mkcert_any Fn hF1 (by omega) 3 (wcm Y) (wcm_ok HYO.out) A9 m c9 L W (HLS.out.keep hW (by simp) (fun _ _ h => h)) (by omega) YC HYC.out).mono ?_
    rintro e w' ⟨h1, h2⟩
    refine ⟨h1, ?_⟩
    rw [← hR0, ← HQF.out, ← hR] at h2
    rcases h2 with ⟨h3, -⟩ | ⟨-, ad, h4, h5, h6⟩
    · exact absurd h3 (by have := HR0L.out; omega)
    · exact ⟨ad, h4, h5, h6⟩)
  have HFEW : Hid (∀ W (A : Option Addr) (c : Nat), Lst 38 Wst.cells (fun _ v => v.Ok) W A (Q - 1) (R.drop 1) → Calls Try.prog 10 #[.agg #[.int .i64 (Fn : Int), .int .i64 3], .agg YC.toArray, .slice A (Q - 1) c] W fun e w' => Fr [] W w' ∧ e = .returned (.tuple #[.agg ceZ, .int .i64 8])) := Lib.hid (fun W A c hW => by
    refine (mkcert_any Fn hF1 (by omega) 3 (wcm Y) (wcm_ok HYO.out) A (Q - 1) c (R.drop 1) W hW (by omega) YC HYC.out).mono ?_
    rintro e w' ⟨h1, h2⟩
    refine ⟨h1, ?_⟩
    have hlen : (refL (wcm Y) (R.drop 1) (3 * Fn + 1)).length = Q - 1 := by
      rw [refL_few (HRR.out.sublist (List.drop_sublist _ _)) (fun v hv => ?_), List.length_drop, HRL.out]
      have := HRG.out v (List.mem_of_mem_drop hv)
      have h3 := this.has
      unfold hasB at h3
      rw [decide_eq_true_eq] at h3
      exact ⟨this.of, h3.1, by omega⟩
    rcases h2 with ⟨-, h4⟩ | ⟨h3, -⟩
    · exact h4
    · exact absurd h3 (by rw [hlen, ← HQF.out]; omega))
  clear hR hR0 HO HBK HBL HPB HSN HAD HWI HLL HML HTw HTw6 HTw8 HBX8 HY8 HZ8 HCF8 HR0L
  have HEL : Hid (∀ ad : Addr, (YC ++ [Value.slice (some ad) Q Q]).length = 38) := Lib.hid (fun ad => by rw [List.length_append, HYL.out]; rfl)
  have HEO : Hid (∀ ad : Addr, (((YC ++ [Value.slice (some ad) Q Q]).toArray.all (·.oneCell')) = true)) := Lib.hid (fun ad => all_oneCell_toArray (fun u hu => by
    rcases List.mem_append.1 hu with h | h
    · exact HYN.out u h
    · rw [List.mem_singleton.1 h]; rfl))
  have HES : Hid (∀ ad : Addr, (Try.prog.info? 48).map (·.size) = some (YC ++ [Value.slice (some ad) Q Q]).toArray.size) := Lib.hid (fun ad => by rw [List.size_toArray, HEL.out ad]; kernel_rfl)
  have HEZ : Hid (∀ ad : Addr, ceZ.size = (YC ++ [Value.slice (some ad) Q Q]).toArray.size) := Lib.hid (fun ad => by rw [show ceZ.size = 38 from rfl, List.size_toArray, HEL.out ad])
  have HCRb := Lib.hid HCFb.out.range
  go_upto_region 20 with (fail)
  go_wp2_with (first
    | (refine wpList_midg rfl 27 _ rfl gC 0 rfl _ HCRb.out row_conf ?_)
    | (refine wpList_midg rfl 39 _ rfl gM 0 rfl YC HYb.out (row_cmt.of HYL.out) ?_))
  refine (HMK.out wy (Fr.refl _ _)).mono ?_
  rintro e wz ⟨hfz, ad, rfl, hl0, had⟩
  have HLz := Lib.hid hl0
  have HFz := Lib.hid hfz
  have HADz : Hid (ad.block < wz.heap.size) := Lib.hid (hl0.lt (by omega) (by decide) (fun v hv => Wst.len (hl0.2.1 v hv).2.h) ad rfl)
  clear hfz hl0 had
  obtain ⟨E1, hE1⟩ : ∃ E1, YC ++ [Value.slice (some ad) Q Q] = E1 := ⟨_, rfl⟩
  have HE1 := Lib.hid hE1
  have HESa := Lib.hid (HES.out ad)
  have HEZa := Lib.hid (HEZ.out ad)
  have HEOa := Lib.hid (HEO.out ad)
  have HELa := Lib.hid (HEL.out ad)
  rw [hE1] at HESa HEZa HEOa HELa
  rw [hE1]
  clear hE1
  go_upto_region 21 with (refine wpList_store_blk rfl 48 _ _ rfl wz.heap.size E1.toArray rfl rfl 48 ceZ (Blk.new wz _ _) HESa.out HEZa.out HEOa.out ?_; intro w3 hb3 hf3)
  have HFz3 : Hid (Fr [] wz w3) := Lib.hid (((Fr.refl [] wz).alloc (Obj.cells ceZ 48)).and hf3 (by simp))
  have HBC := Lib.hid hb3
  have HLC : Hid (Lst 38 Wst.cells (fun _ v => v.Ok) w3 (some ad) Q R) := Lib.hid (HLz.out.keep HFz3.out (by simp) (fun _ _ h => h))
  obtain ⟨g18, hg18⟩ : ∃ g18, g18 = wz.heap.size := ⟨_, rfl⟩
  rw [← hg18] at HBC ⊢
  clear hb3 hf3 hg18
  have HFw3 : Hid (Fr [] wy w3) := Lib.hid (HFz.out.trans HFz3.out (by simp))
  have HZC : Hid (Wce.cells ⟨wcm Y, some ad, Q, Q, R⟩ = E1) := Lib.hid (by show Y.cells ++ [Value.slice (some ad) Q Q] = E1; rw [HYC.out]; exact HE1.out)
  have HIN : Hid (Wce.In w3 ⟨wcm Y, some ad, Q, Q, R⟩) := Lib.hid ⟨wcm_ok HYO.out, HLC.out, by show Q ≤ maxLen; unfold maxLen; omega, Nat.le_refl _⟩
  have HER := Lib.hid HBC.out.range
  have HCF3 := Lib.hid (HCFb.out.keep HFw3.out (by simp))
  have HCR3 := Lib.hid HCF3.out.range
  have HBX3 := Lib.hid ((HBXb.out.keep HFw3.out (by simp)).range)
  have HBO3 := Lib.hid (HBOK.out.keep HFw3.out (by simp))
  have HCB : Hid (certB (Fn : Int) 3 b ⟨wcm Y, some ad, Q, Q, R⟩ = true) := Lib.hid (cert_good (by have := HQF.out; omega) HRL.out HRC.out HRR.out HRG.out)
  have hright := cert_any (Fn : Int) 3 ⟨by omega, by omega⟩ _ w3 HIN.out E1 HZC.out Sb gb b HBO3.out
  rw [HCB.out] at hright
  have hgb : w3.cell? ⟨gKb, 0, none⟩ = some (.pointer (some ⟨gb, 0, none⟩)) := HBX3.out 0 _ rfl
  have H37 : Hid (w3.cell? ⟨g18, 37, none⟩ = some (.slice (some ad) Q Q)) := Lib.hid (by
    rw [HBC.out.cell 37, List.getElem?_toArray, ← HE1.out, List.getElem?_append_right (by have := HYL.out; omega), HYL.out]
    rfl)
  have HC0 : Hid (w3.cell? ⟨gC, 0, none⟩ = some (.int .i64 (Fn : Int))) := Lib.hid (by simpa using HCF3.out.cell 0)
  go_wp2_with (first
    | (refine wpList_midg rfl 27 _ rfl gC 0 rfl _ HCR3.out row_conf ?_)
    | (refine wpList_midg rfl 48 _ rfl g18 0 rfl E1 HER.out (row_cer3.of HELa.out) ?_))
  refine hright.mono ?_
  rintro e w4 ⟨rfl, hf4⟩
  have HF4 := Lib.hid hf4
  have h37 := hf4.cell H37.out (by simp)
  have hc0 := hf4.cell HC0.out (by simp)
  have hw5 : IntKind.i64.wrap (2 * (Fn : Int)) = 2 * (Fn : Int) := IntWalk.i64_in _ (by omega)
  have hw6 : IntKind.i64.wrap (2 * (Fn : Int) + 1) = (Q : Int) := (IntWalk.i64_in _ (by omega)).trans (by have := HQF.out; omega)
  have HLD := Lib.hid (HLC.out.keep hf4 (by simp) (fun _ _ h => h))
  have HFw4 := Lib.hid (HFw3.out.trans hf4 (by simp))
  clear hf4 hright hgb
  go_upto_block 2 with (fail)
  clear hw5 hw6 h37 hc0
  have H374 := Lib.hid (HF4.out.cell H37.out (by simp))
  go_cut [20, 136] (fun _ _ wx => Hid (Fr [] w4 wx))
  case first =>
    go_wp2_with fail
    go_loopw [136] (fun si wr => ∃ j : Nat, j ≤ Q ∧ si = .int .i64 j ∧ Hid (Fr [] w4 wr)) (fun i _ => Q + 1 - (intOf i).toNat)
    case atStart => exact ⟨0, Nat.zero_le _, rfl, Lib.hid (Fr.refl _ _)⟩
    case round =>
      obtain ⟨j, hjQ, rfl, HFr⟩ := hrel
      rename World => wr
      by_cases hjq : j < Q
      case neg =>
        go_wp2_with fail
        go_meet
        exact HFr
      have H37r := Lib.hid (HFr.out.cell H374.out (by simp))
      obtain ⟨ad', v, hA', hv, hcl, hok, hcells⟩ := HLD.out.at (i := j) hjq
      injection hA' with hA'
      subst hA'
      have HVR : Hid (wr.cell? (ad.add (j * 38)) = some (.int .i64 v.r)) := Lib.hid (by
        have := HFr.out.cell (hcells 0 _ rfl) (by simp)
        rw [add_add, Nat.add_zero] at this
        exact this)
      have hvq : ¬ v.r = (q : Int) := (HRG0.out v (List.mem_of_getElem? hv)).2
      have hd : (v.r == (q : Int)) = false := by simp [hvq]
      have HV := Lib.hid hv
      clear hv hcl hok hcells hvq
      go_upto_region 26 with (fail)
      rcases Nat.eq_zero_or_pos j with hj0 | hj0
      · subst hj0
        have HVR0 : Hid (wr.cell? ad = some (.int .i64 v.r)) := Lib.hid (by
          have h := HVR.out
          rw [Nat.zero_mul] at h
          have e0 : ad.add 0 = ad := by unfold Addr.add; rw [if_pos rfl]
          rw [e0] at h
          exact h)
        refine wp_region_held_drew (S := Fr [] wr) (by kernel_rfl) (Fr.drew (Fr.refl _ wr)) (fun hHeld => ?_)
        refine run_at (i := 0) (v := ?_) rfl (by kernel_rfl) (by rfl) (fun _ _ _ h => h) hHeld (fun w1 hw1 => ?_) ?_
        rotate_left 1
        · skip
          go_simp
          (try (first | with_reducible rfl | (apply And.intro <;> rfl)))
        simp only [Act.put, List.setIfInBounds_toArray, List.set_cons_zero, List.set_cons_succ]
        refine run_at (i := 1) (v := ?_) rfl (by kernel_rfl) (by rfl) (fun _ _ _ h => h) hHeld (fun w1 hw1 => ?_) ?_
        rotate_left 1
        · skip
          have hcw0 := hw1.cell (H37r.out) (by first | (simp; done) | exact HNS.out | exact HNW.out | (intro hm; have hlt := HSB.out _ hm; (try dsimp only at hlt); omega))
          go_simp
          (try (first | with_reducible rfl | (apply And.intro <;> rfl)))
        simp only [Act.put, List.setIfInBounds_toArray, List.set_cons_zero, List.set_cons_succ]
        refine run_at (i := 2) (v := ?_) rfl (by kernel_rfl) (by rfl) (fun _ _ _ h => h) hHeld (fun w1 hw1 => ?_) ?_
        rotate_left 1
        · skip
          go_simp
          (try (first | with_reducible rfl | (apply And.intro <;> rfl)))
        simp only [Act.put, List.setIfInBounds_toArray, List.set_cons_zero, List.set_cons_succ]
        refine run_at (i := 3) (v := ?_) rfl (by kernel_rfl) (by rfl) (fun _ _ _ h => h) hHeld (fun w1 hw1 => ?_) ?_
        rotate_left 1
        · skip
          go_simp
          (try (first | with_reducible rfl | (apply And.intro <;> rfl)))
        simp only [Act.put, List.setIfInBounds_toArray, List.set_cons_zero, List.set_cons_succ]
        refine run_at (i := 4) (v := ?_) rfl (by kernel_rfl) (by rfl) (fun _ _ _ h => h) hHeld (fun w1 hw1 => ?_) ?_
        rotate_left 1
        · skip
          go_simp
          (try (first | with_reducible rfl | (apply And.intro <;> rfl)))
        simp only [Act.put, List.setIfInBounds_toArray, List.set_cons_zero, List.set_cons_succ]
        refine run_at (i := 5) (v := ?_) rfl (by kernel_rfl) (by rfl) (fun _ _ _ h => h) hHeld (fun w1 hw1 => ?_) ?_
        rotate_left 1
        · skip
          have hcw0 := hw1.cell (HVR0.out) (by first | (simp; done) | exact HNS.out | exact HNW.out | (intro hm; have hlt := HSB.out _ hm; (try dsimp only at hlt); omega))
          go_simp
          (try (first | with_reducible rfl | (apply And.intro <;> rfl)))
        simp only [Act.put, List.setIfInBounds_toArray, List.set_cons_zero, List.set_cons_succ]
        refine run_at (i := 6) (v := ?_) rfl (by kernel_rfl) (by rfl) (fun _ _ _ h => h) hHeld (fun w1 hw1 => ?_) ?_
        rotate_left 1
        · skip
          go_simp
          (try (first | with_reducible rfl | (apply And.intro <;> rfl)))
        simp only [Act.put, List.setIfInBounds_toArray, List.set_cons_zero, List.set_cons_succ]
        refine run_at (i := 7) (v := ?_) rfl (by kernel_rfl) (by rfl) (fun _ _ _ h => h) hHeld (fun w1 hw1 => ?_) ?_
        rotate_left 1
        · skip
          go_simp
          (try (first | with_reducible rfl | (apply And.intro <;> rfl)))
        simp only [Act.put, List.setIfInBounds_toArray, List.set_cons_zero, List.set_cons_succ]
        refine run_at (i := 8) (v := ?_) rfl (by kernel_rfl) (by rfl) (fun _ _ _ h => h) hHeld (fun w1 hw1 => ?_) ?_
        rotate_left 1
        · skip
          go_simp
          (try (first | with_reducible rfl | (apply And.intro <;> rfl)))
        simp only [Act.put, List.setIfInBounds_toArray, List.set_cons_zero, List.set_cons_succ]
        refine run_at (i := 9) (v := ?_) rfl (by kernel_rfl) (by rfl) (fun _ _ _ h => h) hHeld (fun w1 hw1 => ?_) ?_
        rotate_left 1
        · skip
          go_simp
          (try (first | with_reducible rfl | (apply And.intro <;> rfl)))
        simp only [Act.put, List.setIfInBounds_toArray, List.set_cons_zero, List.set_cons_succ]
        refine run_at (i := 10) (v := ?_) rfl (by kernel_rfl) (by rfl) (fun _ _ _ h => h) hHeld (fun w1 hw1 => ?_) ?_
        rotate_left 1
        · skip
          go_simp
          (try (first | with_reducible rfl | (apply And.intro <;> rfl)))
        simp only [Act.put, List.setIfInBounds_toArray, List.set_cons_zero, List.set_cons_succ]
        refine run_at (i := 11) (v := ?_) rfl (by kernel_rfl) (by rfl) (fun _ _ _ h => h) hHeld (fun w1 hw1 => ?_) ?_
        rotate_left 1
        · skip
          go_simp
          (try (first | with_reducible rfl | (apply And.intro <;> rfl)))
        simp only [Act.put, List.setIfInBounds_toArray, List.set_cons_zero, List.set_cons_succ]
        refine skip_at (i := 12) rfl (by kernel_rfl) (fun _ _ _ h => h) (by kernel_rfl) hHeld ?_
        simp only [Act.put, List.setIfInBounds_toArray, List.set_cons_zero, List.set_cons_succ]
        refine skip_at (i := 13) rfl (by kernel_rfl) (fun _ _ _ h => h) (by kernel_rfl) hHeld ?_
        simp only [Act.put, List.setIfInBounds_toArray, List.set_cons_zero, List.set_cons_succ]
        refine skip_at (i := 14) rfl (by kernel_rfl) (fun _ _ _ h => h) (by kernel_rfl) hHeld ?_
        simp only [Act.put, List.setIfInBounds_toArray, List.set_cons_zero, List.set_cons_succ]
        refine skip_at (i := 15) rfl (by kernel_rfl) (fun _ _ _ h => h) (by kernel_rfl) hHeld ?_
        simp only [Act.put, List.setIfInBounds_toArray, List.set_cons_zero, List.set_cons_succ]
        refine skip_at (i := 16) rfl (by kernel_rfl) (fun _ _ _ h => h) (by kernel_rfl) hHeld ?_
        simp only [Act.put, List.setIfInBounds_toArray, List.set_cons_zero, List.set_cons_succ]
        refine skip_at (i := 17) rfl (by kernel_rfl) (fun _ _ _ h => h) (by kernel_rfl) hHeld ?_
        simp only [Act.put, List.setIfInBounds_toArray, List.set_cons_zero, List.set_cons_succ]
        refine skip_at (i := 18) rfl (by kernel_rfl) (fun _ _ _ h => h) (by kernel_rfl) hHeld ?_
        simp only [Act.put, List.setIfInBounds_toArray, List.set_cons_zero, List.set_cons_succ]
        refine skip_at (i := 19) rfl (by kernel_rfl) (fun _ _ _ h => h) (by kernel_rfl) hHeld ?_
        simp only [Act.put, List.setIfInBounds_toArray, List.set_cons_zero, List.set_cons_succ]
        refine skip_at (i := 20) rfl (by kernel_rfl) (fun _ _ _ h => h) (by kernel_rfl) hHeld ?_
        simp only [Act.put, List.setIfInBounds_toArray, List.set_cons_zero, List.set_cons_succ]
        refine skip_at (i := 21) rfl (by kernel_rfl) (fun _ _ _ h => h) (by kernel_rfl) hHeld ?_
        simp only [Act.put, List.setIfInBounds_toArray, List.set_cons_zero, List.set_cons_succ]
        refine skip_at (i := 22) rfl (by kernel_rfl) (fun _ _ _ h => h) (by kernel_rfl) hHeld ?_
        simp only [Act.put, List.setIfInBounds_toArray, List.set_cons_zero, List.set_cons_succ]
        refine skip_at (i := 23) rfl (by kernel_rfl) (fun _ _ _ h => h) (by kernel_rfl) hHeld ?_
        simp only [Act.put, List.setIfInBounds_toArray, List.set_cons_zero, List.set_cons_succ]
        refine skip_at (i := 24) rfl (by kernel_rfl) (fun _ _ _ h => h) (by kernel_rfl) hHeld ?_
        simp only [Act.put, List.setIfInBounds_toArray, List.set_cons_zero, List.set_cons_succ]
        refine skip_at (i := 25) rfl (by kernel_rfl) (fun _ _ _ h => h) (by kernel_rfl) hHeld ?_
        simp only [Act.put, List.setIfInBounds_toArray, List.set_cons_zero, List.set_cons_succ]
        refine run_at (i := 26) (v := ?_) rfl (by kernel_rfl) (by rfl) (fun _ _ _ h => h) hHeld (fun w1 hw1 => ?_) ?_
        rotate_left 1
        · skip
          go_simp
          (try (first | with_reducible rfl | (apply And.intro <;> rfl)))
        simp only [Act.put, List.setIfInBounds_toArray, List.set_cons_zero, List.set_cons_succ]
        refine run_at (i := 27) (v := ?_) rfl (by kernel_rfl) (by rfl) (fun _ _ _ h => h) hHeld (fun w1 hw1 => ?_) ?_
        rotate_left 1
        · skip
          go_simp
          (try (first | with_reducible rfl | (apply And.intro <;> rfl)))
        simp only [Act.put, List.setIfInBounds_toArray, List.set_cons_zero, List.set_cons_succ]
        refine wpAnyH_done (by kernel_rfl) ?_ _
        have HFy := Lib.hid (HFr.out.trans hHeld (by simp))
        clear hHeld
        go_wp2_with fail
        go_roundw
        case rel => exact ⟨0 + 1, by omega, by go_num, HFy⟩
        case measure => simp [intOf] <;> omega
      · obtain ⟨p, rfl⟩ : ∃ p, j = p + 1 := ⟨j - 1, by omega⟩
        obtain ⟨ad', u, hA', hu, hcl', hok', hcells'⟩ := HLD.out.at (i := p) (by omega)
        injection hA' with hA'
        subst hA'
        have HUR : Hid (wr.cell? (ad.add (p * 38)) = some (.int .i64 u.r)) := Lib.hid (by
          have := HFr.out.cell (hcells' 0 _ rfl) (by simp)
          rw [add_add, Nat.add_zero] at this
          exact this)
        have hur : u.r < v.r := by
          have h1 := (List.getElem?_eq_some_iff.1 hu).1
          have h2 := (List.getElem?_eq_some_iff.1 HV.out).1
          have h3 := List.pairwise_iff_getElem.1 HRR.out p (p + 1) h1 h2 (by omega)
          have h4 := (List.getElem?_eq_some_iff.1 hu).2
          have h5 := (List.getElem?_eq_some_iff.1 HV.out).2
          rw [h4, h5] at h3
          exact h3
        have hd2 : decide (v.r ≤ u.r) = false := decide_eq_false (by omega)
        clear hu hcl' hok' hcells' hur
        have hwp : IntKind.i64.wrap (p : Int) = (p : Int) := IntWalk.i64_in _ (by omega)
        have hpn : (p : Int) < (Q : Int) := by omega
        have hp0 : (0 : Int) ≤ (p : Int) := by omega
        have hp1 : (0 : Int) < (p : Int) + 1 := by omega
        have hp2 : (0 : Int) ≤ (p : Int) + 1 := by omega
        have hp3 : (p : Int) + 1 < (Q : Int) := by omega
        refine wp_region_held_drew (S := Fr [] wr) (by kernel_rfl) (Fr.drew (Fr.refl _ wr)) (fun hHeld => ?_)
        refine run_at (i := 0) (v := ?_) rfl (by kernel_rfl) (by rfl) (fun _ _ _ h => h) hHeld (fun w1 hw1 => ?_) ?_
        rotate_left 1
        · skip
          go_simp
          (try (first | with_reducible rfl | (apply And.intro <;> rfl)))
        simp only [Act.put, List.setIfInBounds_toArray, List.set_cons_zero, List.set_cons_succ]
        refine run_at (i := 1) (v := ?_) rfl (by kernel_rfl) (by rfl) (fun _ _ _ h => h) hHeld (fun w1 hw1 => ?_) ?_
        rotate_left 1
        · skip
          have hcw0 := hw1.cell (H37r.out) (by first | (simp; done) | exact HNS.out | exact HNW.out | (intro hm; have hlt := HSB.out _ hm; (try dsimp only at hlt); omega))
          go_simp
          (try (first | with_reducible rfl | (apply And.intro <;> rfl)))
        simp only [Act.put, List.setIfInBounds_toArray, List.set_cons_zero, List.set_cons_succ]
        refine run_at (i := 2) (v := ?_) rfl (by kernel_rfl) (by rfl) (fun _ _ _ h => h) hHeld (fun w1 hw1 => ?_) ?_
        rotate_left 1
        · skip
          go_simp
          (try (first | with_reducible rfl | (apply And.intro <;> rfl)))
        simp only [Act.put, List.setIfInBounds_toArray, List.set_cons_zero, List.set_cons_succ]
        refine run_at (i := 3) (v := ?_) rfl (by kernel_rfl) (by rfl) (fun _ _ _ h => h) hHeld (fun w1 hw1 => ?_) ?_
        rotate_left 1
        · skip
          go_simp
          (try (first | with_reducible rfl | (apply And.intro <;> rfl)))
        simp only [Act.put, List.setIfInBounds_toArray, List.set_cons_zero, List.set_cons_succ]
        refine run_at (i := 4) (v := ?_) rfl (by kernel_rfl) (by rfl) (fun _ _ _ h => h) hHeld (fun w1 hw1 => ?_) ?_
        rotate_left 1
        · skip
          go_simp
          (try (first | with_reducible rfl | (apply And.intro <;> rfl)))
        simp only [Act.put, List.setIfInBounds_toArray, List.set_cons_zero, List.set_cons_succ]
        refine run_at (i := 5) (v := ?_) rfl (by kernel_rfl) (by rfl) (fun _ _ _ h => h) hHeld (fun w1 hw1 => ?_) ?_
        rotate_left 1
        · skip
          have hcw0 := hw1.cell (HVR.out) (by first | (simp; done) | exact HNS.out | exact HNW.out | (intro hm; have hlt := HSB.out _ hm; (try dsimp only at hlt); omega))
          go_simp
          (try (first | with_reducible rfl | (apply And.intro <;> rfl)))
        simp only [Act.put, List.setIfInBounds_toArray, List.set_cons_zero, List.set_cons_succ]
        refine run_at (i := 6) (v := ?_) rfl (by kernel_rfl) (by rfl) (fun _ _ _ h => h) hHeld (fun w1 hw1 => ?_) ?_
        rotate_left 1
        · skip
          go_simp
          (try (first | with_reducible rfl | (apply And.intro <;> rfl)))
        simp only [Act.put, List.setIfInBounds_toArray, List.set_cons_zero, List.set_cons_succ]
        refine run_at (i := 7) (v := ?_) rfl (by kernel_rfl) (by rfl) (fun _ _ _ h => h) hHeld (fun w1 hw1 => ?_) ?_
        rotate_left 1
        · skip
          go_simp
          (try (first | with_reducible rfl | (apply And.intro <;> rfl)))
        simp only [Act.put, List.setIfInBounds_toArray, List.set_cons_zero, List.set_cons_succ]
        refine run_at (i := 8) (v := ?_) rfl (by kernel_rfl) (by rfl) (fun _ _ _ h => h) hHeld (fun w1 hw1 => ?_) ?_
        rotate_left 1
        · skip
          go_simp
          (try (first | with_reducible rfl | (apply And.intro <;> rfl)))
        simp only [Act.put, List.setIfInBounds_toArray, List.set_cons_zero, List.set_cons_succ]
        refine run_at (i := 9) (v := ?_) rfl (by kernel_rfl) (by rfl) (fun _ _ _ h => h) hHeld (fun w1 hw1 => ?_) ?_
        rotate_left 1
        · skip
          go_simp
          (try (first | with_reducible rfl | (apply And.intro <;> rfl)))
        simp only [Act.put, List.setIfInBounds_toArray, List.set_cons_zero, List.set_cons_succ]
        refine run_at (i := 10) (v := ?_) rfl (by kernel_rfl) (by rfl) (fun _ _ _ h => h) hHeld (fun w1 hw1 => ?_) ?_
        rotate_left 1
        · skip
          go_simp
          (try (first | with_reducible rfl | (apply And.intro <;> rfl)))
        simp only [Act.put, List.setIfInBounds_toArray, List.set_cons_zero, List.set_cons_succ]
        refine run_at (i := 11) (v := ?_) rfl (by kernel_rfl) (by rfl) (fun _ _ _ h => h) hHeld (fun w1 hw1 => ?_) ?_
        rotate_left 1
        · skip
          go_simp
          (try (first | with_reducible rfl | (apply And.intro <;> rfl)))
        simp only [Act.put, List.setIfInBounds_toArray, List.set_cons_zero, List.set_cons_succ]
        refine run_at (i := 12) (v := ?_) rfl (by kernel_rfl) (by rfl) (fun _ _ _ h => h) hHeld (fun w1 hw1 => ?_) ?_
        rotate_left 1
        · skip
          go_simp
          (try (first | with_reducible rfl | (apply And.intro <;> rfl)))
        simp only [Act.put, List.setIfInBounds_toArray, List.set_cons_zero, List.set_cons_succ]
        refine run_at (i := 13) (v := ?_) rfl (by kernel_rfl) (by rfl) (fun _ _ _ h => h) hHeld (fun w1 hw1 => ?_) ?_
        rotate_left 1
        · skip
          have hcw0 := hw1.cell (H37r.out) (by first | (simp; done) | exact HNS.out | exact HNW.out | (intro hm; have hlt := HSB.out _ hm; (try dsimp only at hlt); omega))
          go_simp
          (try (first | with_reducible rfl | (apply And.intro <;> rfl)))
        simp only [Act.put, List.setIfInBounds_toArray, List.set_cons_zero, List.set_cons_succ]
        refine run_at (i := 14) (v := ?_) rfl (by kernel_rfl) (by rfl) (fun _ _ _ h => h) hHeld (fun w1 hw1 => ?_) ?_
        rotate_left 1
        · skip
          go_simp
          (try (first | with_reducible rfl | (apply And.intro <;> rfl)))
        simp only [Act.put, List.setIfInBounds_toArray, List.set_cons_zero, List.set_cons_succ]
        refine run_at (i := 15) (v := ?_) rfl (by kernel_rfl) (by rfl) (fun _ _ _ h => h) hHeld (fun w1 hw1 => ?_) ?_
        rotate_left 1
        · skip
          go_simp
          (try (first | with_reducible rfl | (apply And.intro <;> rfl)))
        simp only [Act.put, List.setIfInBounds_toArray, List.set_cons_zero, List.set_cons_succ]
        refine run_at (i := 16) (v := ?_) rfl (by kernel_rfl) (by rfl) (fun _ _ _ h => h) hHeld (fun w1 hw1 => ?_) ?_
        rotate_left 1
        · skip
          go_simp
          (try (first | with_reducible rfl | (apply And.intro <;> rfl)))
        simp only [Act.put, List.setIfInBounds_toArray, List.set_cons_zero, List.set_cons_succ]
        refine run_at (i := 17) (v := ?_) rfl (by kernel_rfl) (by rfl) (fun _ _ _ h => h) hHeld (fun w1 hw1 => ?_) ?_
        rotate_left 1
        · skip
          have hcw0 := hw1.cell (HVR.out) (by first | (simp; done) | exact HNS.out | exact HNW.out | (intro hm; have hlt := HSB.out _ hm; (try dsimp only at hlt); omega))
          go_simp
          (try (first | with_reducible rfl | (apply And.intro <;> rfl)))
        simp only [Act.put, List.setIfInBounds_toArray, List.set_cons_zero, List.set_cons_succ]
        refine run_at (i := 18) (v := ?_) rfl (by kernel_rfl) (by rfl) (fun _ _ _ h => h) hHeld (fun w1 hw1 => ?_) ?_
        rotate_left 1
        · skip
          go_simp
          (try (first | with_reducible rfl | (apply And.intro <;> rfl)))
        simp only [Act.put, List.setIfInBounds_toArray, List.set_cons_zero, List.set_cons_succ]
        refine run_at (i := 19) (v := ?_) rfl (by kernel_rfl) (by rfl) (fun _ _ _ h => h) hHeld (fun w1 hw1 => ?_) ?_
        rotate_left 1
        · skip
          have hcw0 := hw1.cell (H37r.out) (by first | (simp; done) | exact HNS.out | exact HNW.out | (intro hm; have hlt := HSB.out _ hm; (try dsimp only at hlt); omega))
          go_simp
          (try (first | with_reducible rfl | (apply And.intro <;> rfl)))
        simp only [Act.put, List.setIfInBounds_toArray, List.set_cons_zero, List.set_cons_succ]
        refine run_at (i := 20) (v := ?_) rfl (by kernel_rfl) (by rfl) (fun _ _ _ h => h) hHeld (fun w1 hw1 => ?_) ?_
        rotate_left 1
        · skip
          go_simp
          (try (first | with_reducible rfl | (apply And.intro <;> rfl)))
        simp only [Act.put, List.setIfInBounds_toArray, List.set_cons_zero, List.set_cons_succ]
        refine run_at (i := 21) (v := ?_) rfl (by kernel_rfl) (by rfl) (fun _ _ _ h => h) hHeld (fun w1 hw1 => ?_) ?_
        rotate_left 1
        · skip
          go_simp
          (try (first | with_reducible rfl | (apply And.intro <;> rfl)))
        simp only [Act.put, List.setIfInBounds_toArray, List.set_cons_zero, List.set_cons_succ]
        refine run_at (i := 22) (v := ?_) rfl (by kernel_rfl) (by rfl) (fun _ _ _ h => h) hHeld (fun w1 hw1 => ?_) ?_
        rotate_left 1
        · skip
          go_simp
          (try (first | with_reducible rfl | (apply And.intro <;> rfl)))
        simp only [Act.put, List.setIfInBounds_toArray, List.set_cons_zero, List.set_cons_succ]
        refine run_at (i := 23) (v := ?_) rfl (by kernel_rfl) (by rfl) (fun _ _ _ h => h) hHeld (fun w1 hw1 => ?_) ?_
        rotate_left 1
        · skip
          go_simp
          (try (first | with_reducible rfl | (apply And.intro <;> rfl)))
        simp only [Act.put, List.setIfInBounds_toArray, List.set_cons_zero, List.set_cons_succ]
        refine run_at (i := 24) (v := ?_) rfl (by kernel_rfl) (by rfl) (fun _ _ _ h => h) hHeld (fun w1 hw1 => ?_) ?_
        rotate_left 1
        · skip
          have hcw0 := hw1.cell (HUR.out) (by first | (simp; done) | exact HNS.out | exact HNW.out | (intro hm; have hlt := HSB.out _ hm; (try dsimp only at hlt); omega))
          go_simp
          (try (first | with_reducible rfl | (apply And.intro <;> rfl)))
        simp only [Act.put, List.setIfInBounds_toArray, List.set_cons_zero, List.set_cons_succ]
        refine run_at (i := 25) (v := ?_) rfl (by kernel_rfl) (by rfl) (fun _ _ _ h => h) hHeld (fun w1 hw1 => ?_) ?_
        rotate_left 1
        · skip
          go_simp
          (try (first | with_reducible rfl | (apply And.intro <;> rfl)))
        simp only [Act.put, List.setIfInBounds_toArray, List.set_cons_zero, List.set_cons_succ]
        refine run_at (i := 26) (v := ?_) rfl (by kernel_rfl) (by rfl) (fun _ _ _ h => h) hHeld (fun w1 hw1 => ?_) ?_
        rotate_left 1
        · skip
          go_simp
          (try (first | with_reducible rfl | (apply And.intro <;> rfl)))
        simp only [Act.put, List.setIfInBounds_toArray, List.set_cons_zero, List.set_cons_succ]
        refine run_at (i := 27) (v := ?_) rfl (by kernel_rfl) (by rfl) (fun _ _ _ h => h) hHeld (fun w1 hw1 => ?_) ?_
        rotate_left 1
        · skip
          go_simp
          (try (first | with_reducible rfl | (apply And.intro <;> rfl)))
        simp only [Act.put, List.setIfInBounds_toArray, List.set_cons_zero, List.set_cons_succ]
        refine wpAnyH_done (by kernel_rfl) ?_ _
        have HFy := Lib.hid (HFr.out.trans hHeld (by simp))
        clear hHeld
        go_wp2_with fail
        go_roundw
        case rel => exact ⟨p + 1 + 1, by omega, by go_num, HFy⟩
        case measure => simp [intOf]; omega
  case rest =>
  have HFx := hcut
  rename World => wx
  have HFyx := Lib.hid (HFw4.out.trans HFx.out (by simp))
  have HCRx := Lib.hid ((HCFb.out.keep HFyx.out (by simp)).range)
  have HYx := Lib.hid (HFyx.out.range HYb.out (by simp))
  have H37x := Lib.hid (HFx.out.cell H374.out (by simp))
  have HLx := Lib.hid (HLD.out.keep HFx.out (by simp) (fun _ _ h => h))
  have hq1 : (1 : Int) ≤ (Q : Int) := by omega
  have hqn : ¬ Q = 1 := by omega
  have HLcut : Hid (∀ W, Fr [] wx W → Lst 38 Wst.cells (fun _ v => v.Ok) W (some (ad.add 38)) (Q - 1) (R.drop 1)) := Lib.hid (fun W hW => by
    have h := lst_cutH (cap := Q) (q := 1) (HLx.out.keep hW (by simp) (fun _ _ h => h)) (by omega) (Nat.le_refl _)
    rw [if_neg (by omega)] at h
    exact h)
  go_upto_region 29 with (fail)
  go_cut [21, 22] (fun _ e wv => e = .int .i64 8 ∧ Hid (Fr [] wx wv))
  case first =>
    rename_i J K2 hJ hK2
    refine wp_region_held_drew (S := Fr [] wx) (by kernel_rfl) (Fr.drew (Fr.refl _ wx)) (fun hHeld => ?_)
    refine row_at (i := 0) rfl (by kernel_rfl) (by rfl) _ _ rfl _ _ rfl _ (fun w1 hw1 => hw1.range (HCRx.out) (by first | (simp; done) | exact HNS.out | exact HNW.out | (intro hm; have hlt := HSB.out _ hm; (try dsimp only at hlt); omega))) (row_conf) (fun _ _ _ h => h) hHeld ?_
    simp only [Act.put, List.setIfInBounds_toArray, List.set_cons_zero, List.set_cons_succ]
    refine row_at (i := 1) rfl (by kernel_rfl) (by rfl) _ _ rfl _ _ rfl _ (fun w1 hw1 => hw1.range (HYx.out) (by first | (simp; done) | exact HNS.out | exact HNW.out | (intro hm; have hlt := HSB.out _ hm; (try dsimp only at hlt); omega))) (row_cmt.of HYL.out) (fun _ _ _ h => h) hHeld ?_
    simp only [Act.put, List.setIfInBounds_toArray, List.set_cons_zero, List.set_cons_succ]
    refine run_at (i := 2) (v := ?_) rfl (by kernel_rfl) (by rfl) (fun _ _ _ h => h) hHeld (fun w1 hw1 => ?_) ?_
    rotate_left 1
    · skip
      go_simp
      (try (first | with_reducible rfl | (apply And.intro <;> rfl)))
    simp only [Act.put, List.setIfInBounds_toArray, List.set_cons_zero, List.set_cons_succ]
    refine run_at (i := 3) (v := ?_) rfl (by kernel_rfl) (by rfl) (fun _ _ _ h => h) hHeld (fun w1 hw1 => ?_) ?_
    rotate_left 1
    · skip
      have hcw0 := hw1.cell (H37x.out) (by first | (simp; done) | exact HNS.out | exact HNW.out | (intro hm; have hlt := HSB.out _ hm; (try dsimp only at hlt); omega))
      go_simp
      (try (first | with_reducible rfl | (apply And.intro <;> rfl)))
    simp only [Act.put, List.setIfInBounds_toArray, List.set_cons_zero, List.set_cons_succ]
    refine run_at (i := 4) (v := ?_) rfl (by kernel_rfl) (by rfl) (fun _ _ _ h => h) hHeld (fun w1 hw1 => ?_) ?_
    rotate_left 1
    · skip
      go_simp
      (try (first | with_reducible rfl | (apply And.intro <;> rfl)))
    simp only [Act.put, List.setIfInBounds_toArray, List.set_cons_zero, List.set_cons_succ]
    refine two_at (i := 5) (j := 9) rfl rfl (by kernel_rfl) (by rfl) (by rfl) (fun K hK => ?_) (fun K hK => ?_)
    · skip
      refine wp_call (f := ?_) (args := ?_) ?_ ?_
      rotate_left 2
      · go_simp
        (try (first | with_reducible rfl | (apply And.intro <;> rfl)))
      refine (HFEW.out _ _ (Q - 1) (HLcut.out _ hHeld)).mono ?_
      rintro e v0 ⟨hfm, rfl⟩
      refine ⟨_, rfl, hK.out _ _ (hHeld.and hfm (by simp)) (fun hHeld => ?_)⟩
      clear hK K hfm
      simp only [Act.put, List.setIfInBounds_toArray, List.set_cons_zero, List.set_cons_succ]
      refine run_at (i := 6) (v := ?_) rfl (by kernel_rfl) (by rfl) (fun _ _ _ h => h) hHeld (fun w1 hw1 => ?_) ?_
      rotate_left 1
      · skip
        go_simp
        (try (first | with_reducible rfl | (apply And.intro <;> rfl)))
      simp only [Act.put, List.setIfInBounds_toArray, List.set_cons_zero, List.set_cons_succ]
      refine run_at (i := 7) (v := ?_) rfl (by kernel_rfl) (by rfl) (fun _ _ _ h => h) hHeld (fun w1 hw1 => ?_) ?_
      rotate_left 1
      · skip
        go_simp
        (try (first | with_reducible rfl | (apply And.intro <;> rfl)))
      simp only [Act.put, List.setIfInBounds_toArray, List.set_cons_zero, List.set_cons_succ]
      refine run_at (i := 8) (v := ?_) rfl (by kernel_rfl) (by rfl) (fun _ _ _ h => h) hHeld (fun w1 hw1 => ?_) ?_
      rotate_left 1
      · skip
        go_simp
        (try (first | with_reducible rfl | (apply And.intro <;> rfl)))
      simp only [Act.put, List.setIfInBounds_toArray, List.set_cons_zero, List.set_cons_succ]
      refine step_at (i := 9) rfl (by kernel_rfl) (by rfl) (fun K hK => ?_)
      refine wp_run (v := ?_) (w' := ?_) ?_ ?_
      rotate_left 2
      · go_simp
        (try (first | with_reducible rfl | (apply And.intro <;> rfl)))
      refine hK.out _ (v0.alloc (Obj.cells ceZ 48)) (hHeld.alloc _) (fun hHeld => ?_)
      clear hK K
      simp only [Act.put, List.setIfInBounds_toArray, List.set_cons_zero, List.set_cons_succ]
      refine step_at (i := 10) rfl (by kernel_rfl) (by rfl) (fun K hK => ?_)
      refine wp_store_blk 48 _ _ rfl v0.heap.size ceZ rfl rfl 48 ceZ (Blk.new v0 _ _) zCe_sz rfl zCe_row ?_
      intro v2 hb2 hf2
      have hv0 := ‹Fr [] wx v0›.size
      refine hK.out _ _ (hHeld.and hf2 (by simpa using hv0)) (fun hHeld => ?_)
      clear hK K hb2 hf2
      simp only [Act.put, List.setIfInBounds_toArray, List.set_cons_zero, List.set_cons_succ]
      refine run_at (i := 11) (v := ?_) rfl (by kernel_rfl) (by rfl) (fun _ _ _ h => h) hHeld (fun w1 hw1 => ?_) ?_
      rotate_left 1
      · skip
        go_simp
        (try (first | with_reducible rfl | (apply And.intro <;> rfl)))
      simp only [Act.put, List.setIfInBounds_toArray, List.set_cons_zero, List.set_cons_succ]
      refine wpAnyH_done (by kernel_rfl) ?_ _
      refine hK2 _ _ (Met.intro (hJ _ _ ?_))
      repeat apply Exists.intro
      refine ⟨?_, rfl⟩
      exact ⟨rfl, Lib.hid hHeld⟩
    · skip
      refine wp_run (v := ?_) (w' := ?_) ?_ ?_
      rotate_left 2
      · go_simp
        (try (first | with_reducible rfl | (apply And.intro <;> rfl)))
      have hb8 : Blk (wx.drew.alloc (Obj.cells ceZ 48)) wx.heap.size 48 ceZ := Blk.new wx.drew _ _
      refine hK.out _ (wx.drew.alloc (Obj.cells ceZ 48)) (hHeld.alloc _) (fun hHeld => ?_)
      clear hK K
      simp only [Act.put, List.setIfInBounds_toArray, List.set_cons_zero, List.set_cons_succ]
      generalize wx.drew.alloc (Obj.cells ceZ 48) = wv at *
      obtain ⟨g8, hg8⟩ : ∃ g8, g8 = wx.heap.size := ⟨_, rfl⟩
      rw [← hg8] at hb8 ⊢
      have HG8E := Lib.hid hg8
      have HB8 := Lib.hid hb8
      clear hg8 hb8
      refine call_at (i := 5) (f := ?_) (args := ?_) rfl (by kernel_rfl) (by rfl) ?_ ?_
      rotate_left 2
      · go_simp
        (try (first | with_reducible rfl | (apply And.intro <;> rfl)))
      refine (HFEW.out _ _ (Q - 1) (HLcut.out _ hHeld)).mono ?_
      rintro e v0 ⟨hfm, rfl⟩
      refine ⟨_, rfl, hHeld.and hfm (by simp), fun hHeld => ?_⟩
      simp only [Act.put, List.setIfInBounds_toArray, List.set_cons_zero, List.set_cons_succ]
      have HB9 := Lib.hid (HB8.out.keep hfm (by simp))
      clear hfm
      refine run_at (i := 6) (v := ?_) rfl (by kernel_rfl) (by rfl) (fun _ _ _ h => h) hHeld (fun w1 hw1 => ?_) ?_
      rotate_left 1
      · skip
        go_simp
        (try (first | with_reducible rfl | (apply And.intro <;> rfl)))
      simp only [Act.put, List.setIfInBounds_toArray, List.set_cons_zero, List.set_cons_succ]
      refine run_at (i := 7) (v := ?_) rfl (by kernel_rfl) (by rfl) (fun _ _ _ h => h) hHeld (fun w1 hw1 => ?_) ?_
      rotate_left 1
      · skip
        go_simp
        (try (first | with_reducible rfl | (apply And.intro <;> rfl)))
      simp only [Act.put, List.setIfInBounds_toArray, List.set_cons_zero, List.set_cons_succ]
      refine run_at (i := 8) (v := ?_) rfl (by kernel_rfl) (by rfl) (fun _ _ _ h => h) hHeld (fun w1 hw1 => ?_) ?_
      rotate_left 1
      · skip
        go_simp
        (try (first | with_reducible rfl | (apply And.intro <;> rfl)))
      simp only [Act.put, List.setIfInBounds_toArray, List.set_cons_zero, List.set_cons_succ]
      refine step_at (i := 10) rfl (by kernel_rfl) (by rfl) (fun K hK => ?_)
      refine wp_store_blk 48 _ _ rfl g8 ceZ rfl rfl 48 ceZ HB9.out zCe_sz rfl zCe_row ?_
      intro v2 hb2 hf2
      refine hK.out _ _ (hHeld.and hf2 (by have := HG8E.out; simpa using Nat.le_of_eq this.symm)) (fun hHeld => ?_)
      clear hK K hb2 hf2
      simp only [Act.put, List.setIfInBounds_toArray, List.set_cons_zero, List.set_cons_succ]
      refine run_at (i := 11) (v := ?_) rfl (by kernel_rfl) (by rfl) (fun _ _ _ h => h) hHeld (fun w1 hw1 => ?_) ?_
      rotate_left 1
      · skip
        go_simp
        (try (first | with_reducible rfl | (apply And.intro <;> rfl)))
      simp only [Act.put, List.setIfInBounds_toArray, List.set_cons_zero, List.set_cons_succ]
      refine wpAnyH_done (by kernel_rfl) ?_ _
      refine hK2 _ _ (Met.intro (hJ _ _ ?_))
      repeat apply Exists.intro
      refine ⟨?_, rfl⟩
      exact ⟨rfl, Lib.hid hHeld⟩
  case rest =>
  obtain ⟨rfl, HFe⟩ := hcut
  rename World => we
  have hwk := cewakes_any we
  go_wp2_with fail
  refine hwk.mono ?_
  rintro e w9 ⟨rfl, hf9⟩
  go_wp2_with fail
  go_ret
  exact ⟨rfl, (((HFWy.out.trans HFyx.out (by simp)).trans HFe.out (by simp)).trans hf9 (by simp))⟩
end Go.Proofs.Ytlkhfhhaallhgaa
