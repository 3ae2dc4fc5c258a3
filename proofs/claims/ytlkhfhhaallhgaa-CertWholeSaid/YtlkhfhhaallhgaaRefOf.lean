/- gavelref01's Of, CommitText: the document's own commitment, and what is signed of it. -/
import Derived.Test.YtlkhfhhaallhgaaJoin
import Derived.Test.YtlkhfhhaallhgaaCm4
namespace Go.Proofs.Ytlkhfhhaallhgaa
open Go.RowKit
set_option maxRecDepth 100000

theorem refint_any (z : Int) (h2 : z < 9223372036854775808) (w : World) :
    Calls Try.prog 36 #[.int .i64 z] w fun e w' => ∃ A c, e = .returned (.slice A (encI z).length c) ∧ NewB w w' A (encI z).length c (encI z) := by
  unfold encI
  by_cases hz : z < 0
  · rw [show z.toNat = 0 by omega]
    exact refint_neg z hz w
  · obtain ⟨n, rfl⟩ : ∃ n : Nat, z = n := ⟨z.toNat, by omega⟩
    rw [Int.toNat_natCast]
    exact refint_nat n (by omega) w
theorem Fr.byk {w w' : World} {A : Option Addr} {n : Nat} {l : List UInt8} (hf : Fr [] w w') (h : By w A n l) : By w' A n l := h.keep hf (by simp)

set_option maxHeartbeats 4000000 in
theorem refof_any (c s : Int) (hc1 : -9223372036854775808 ≤ c) (hc2 : c < 9223372036854775808) (hs1 : -9223372036854775808 ≤ s) (hs2 : s < 9223372036854775808) (h : List UInt8) (hh : h.length = 32)
    (A : Option Addr) (n cap : Nat) (b : List UInt8) (w : World) (hb : By w A n b) (hA : ∀ k ∈ bk A, k < w.heap.size) (hn : n ≤ 1000) :
    Calls Try.prog 33 #[.agg #[.int .i64 c, .int .i64 s], .agg (h.map by8).toArray, .slice A n cap] w fun e w' => e = .returned (.agg ((sumL (ofL c s h b)).map by8).toArray) ∧ Fr [] w w' := by
  have hln := hb.1
  obtain ⟨wa, hwa⟩ : ∃ wa, wa = ((w.alloc (Obj.cells #[.int .i64 c, .int .i64 s] 23)).alloc (Obj.cells (h.map by8).toArray 35)).alloc (Obj.cells zeroH 35) := ⟨_, rfl⟩
  have hf0 : Fr [] w wa := by rw [hwa]; exact (((Fr.refl [] w).alloc _).alloc _).alloc _
  have hb1 : Blk wa w.heap.size 23 #[.int .i64 c, .int .i64 s] := by rw [hwa]; exact blk_alloc (blk_alloc (Blk.new _ _ _))
  have hb2 : Blk wa (w.heap.size + 1) 35 (h.map by8).toArray := by
    have := blk_alloc (t' := 35) (cs' := zeroH) (Blk.new (w.alloc (Obj.cells #[.int .i64 c, .int .i64 s] 23)) 35 (h.map by8).toArray)
    rw [hwa]
    simpa using this
  have hb3 : Blk wa (w.heap.size + 2) 35 zeroH := by
    have := Blk.new ((w.alloc (Obj.cells #[.int .i64 c, .int .i64 s] 23)).alloc (Obj.cells (h.map by8).toArray 35)) 35 zeroH
    rw [hwa]
    simpa using this
  have hyh : By wa (some ⟨w.heap.size + 1, 0, none⟩) 32 h := by have := By.blk h hb2 rfl; rwa [hh] at this
  have HC0 : Hid (wa.cell? ⟨w.heap.size, 0, none⟩ = some (.int .i64 c)) := Lib.hid (hb1.cell 0)
  have HC1 : Hid (wa.cell? ⟨w.heap.size, 1, none⟩ = some (.int .i64 s)) := Lib.hid (hb1.cell 1)
  have HYH := Lib.hid hyh
  have HB3 := Lib.hid hb3
  have HF0 := Lib.hid hf0
  have HWA := Lib.hid hwa
  have HB := Lib.hid (hb.keep hf0 (by simp))
  have HA : Hid (∀ k ∈ bk A, k < wa.heap.size) := Lib.hid (fun k hk => by have := hA k hk; have := hf0.size; omega)
  have HLN := Lib.hid hln
  have HBD := Lib.hid (And.intro hc2 hs2)
  clear hb1 hb2 hb3 hf0 hwa hb hA hln hyh hc1 hs1 hc2 hs2
  generalize hXH : (h.map by8).toArray = XH at *
  clear hXH
  go_enter Try.func33, Try.ntmps33
  go_upto_region 1 with (fail)
  change Code.wp _ _ _ _ (((w.alloc (Obj.cells #[.int .i64 c, .int .i64 s] 23)).alloc (Obj.cells XH 35)).alloc (Obj.cells zeroH 35))
  rw [← HWA.out]
  refine wp_region_held_drew (S := Fr [w.heap.size + 2] wa) (by kernel_rfl) (Fr.drew (Fr.refl _ wa)) (fun hHeld => ?_)
  have HFD : Hid (Fr [] wa wa.drew) := Lib.hid (Fr.drew (Fr.refl [] wa))
  have HSD : Hid (wa.heap.size ≤ wa.drew.heap.size) := Lib.hid (Nat.le_refl _)
  generalize wa.drew = wd at *
  refine run_at (i := 3) (v := ?_) rfl (by kernel_rfl) (by rfl) (fun _ _ _ h => h) hHeld (fun w1 hw1 => ?_) ?_
  rotate_left 1
  · skip
    go_simp
    (try (first | with_reducible rfl | (apply And.intro <;> rfl)))
  simp only [Act.put, List.setIfInBounds_toArray, List.set_cons_zero, List.set_cons_succ]
  refine run_at (i := 4) (v := ?_) rfl (by kernel_rfl) (by rfl) (fun _ _ _ h => h) hHeld (fun w1 hw1 => ?_) ?_
  rotate_left 1
  · skip
    have hcw0 := hw1.cell (HC0.out) (by first | (simp; done) | exact HNS.out | exact HNW.out | (intro hm; have hlt := HSB.out _ hm; (try dsimp only at hlt); omega))
    go_simp
    (try (first | with_reducible rfl | (apply And.intro <;> rfl)))
  simp only [Act.put, List.setIfInBounds_toArray, List.set_cons_zero, List.set_cons_succ]
  refine run_at (i := 6) (v := ?_) rfl (by kernel_rfl) (by rfl) (fun _ _ _ h => h) hHeld (fun w1 hw1 => ?_) ?_
  rotate_left 1
  · skip
    go_simp
    (try (first | with_reducible rfl | (apply And.intro <;> rfl)))
  simp only [Act.put, List.setIfInBounds_toArray, List.set_cons_zero, List.set_cons_succ]
  refine run_at (i := 7) (v := ?_) rfl (by kernel_rfl) (by rfl) (fun _ _ _ h => h) hHeld (fun w1 hw1 => ?_) ?_
  rotate_left 1
  · skip
    have hcw0 := hw1.cell (HC1.out) (by first | (simp; done) | exact HNS.out | exact HNW.out | (intro hm; have hlt := HSB.out _ hm; (try dsimp only at hlt); omega))
    go_simp
    (try (first | with_reducible rfl | (apply And.intro <;> rfl)))
  simp only [Act.put, List.setIfInBounds_toArray, List.set_cons_zero, List.set_cons_succ]
  refine run_at (i := 9) (v := ?_) rfl (by kernel_rfl) (by rfl) (fun _ _ _ h => h) hHeld (fun w1 hw1 => ?_) ?_
  rotate_left 1
  · skip
    go_simp
    (try (first | with_reducible rfl | (apply And.intro <;> rfl)))
  simp only [Act.put, List.setIfInBounds_toArray, List.set_cons_zero, List.set_cons_succ]
  refine run_at (i := 10) (v := ?_) rfl (by kernel_rfl) (by rfl) (fun _ _ _ h => h) hHeld (fun w1 hw1 => ?_) ?_
  rotate_left 1
  · skip
    go_simp
    (try (first | with_reducible rfl | (apply And.intro <;> rfl)))
  simp only [Act.put, List.setIfInBounds_toArray, List.set_cons_zero, List.set_cons_succ]
  refine step_at (i := 0) rfl (by kernel_rfl) (by rfl) (fun K hK => ?_)
  refine wp_run (v := ?_) (w' := ?_) ?_ ?_
  rotate_left 2
  · go_simp
    (try (first | with_reducible rfl | (apply And.intro <;> rfl)))
  refine hK.out _ (wd.alloc (Obj.cells (wCommit.map by8).toArray 5)) (hHeld.alloc _) (fun hHeld => ?_)
  clear hK K
  simp only [Act.put, List.setIfInBounds_toArray, List.set_cons_zero, List.set_cons_succ]
  have hconv := conv_const wd (wCommit.map by8).toArray 6 6 wd.heap.size rfl
  have hyw : By (wd.alloc (Obj.cells (wCommit.map by8).toArray 5 (6, 6 + 1))) (some ⟨wd.heap.size, 0, none⟩) 6 wCommit := By.mark wd _ rfl _ _ _ wCommit rfl
  have hfw : Fr [] wd (wd.alloc (Obj.cells (wCommit.map by8).toArray 5 (6, 6 + 1))) := (Fr.refl [] wd).alloc _
  refine step_at (i := 1) rfl (by kernel_rfl) (by rfl) (fun K hK => ?_)
  refine wp_run (v := .slice (some ⟨wd.heap.size, 0, none⟩) 6 6) (w' := wd.alloc (Obj.cells (wCommit.map by8).toArray 5 (6, 6 + 1))) ?_ ?_
  · have hrun := hconv
    go_simp
    (try (first | rfl | exact ⟨rfl, rfl⟩))
  refine hK.out _ _ ((HFD.out.and hfw (by simp)).mono (by simp)) (fun hHeld => ?_)
  clear hK K hconv
  simp only [Act.put, List.setIfInBounds_toArray, List.set_cons_zero, List.set_cons_succ]
  have HYW := Lib.hid hyw
  have HW1 := Lib.hid hfw
  have HFD := Lib.hid (HFD.out.and hfw (by simp))
  have HGW : Hid (wd.heap.size < (wd.alloc (Obj.cells (wCommit.map by8).toArray 5 (6, 6 + 1))).heap.size) := Lib.hid (by show wd.heap.size < (wd.heap.push _).size; rw [Array.size_push]; omega)
  generalize wd.alloc (Obj.cells (wCommit.map by8).toArray 5 (6, 6 + 1)) = w1 at *
  clear hyw hfw
  refine call_at (i := 2) (f := ?_) (args := ?_) rfl (by kernel_rfl) (by rfl) ?_ ?_
  rotate_left 2
  · go_simp
    (try (first | with_reducible rfl | (apply And.intro <;> rfl)))
  refine (refrow_any (some ⟨wd.heap.size, 0, none⟩) 6 6 wCommit w1 HYW.out (fun k hk => by simp [bk] at hk; subst hk; exact HGW.out) (by omega)).mono ?_
  rintro e w2 ⟨A2, c2, rfl, hN⟩
  obtain ⟨n2, hn2⟩ : ∃ nn_, nn_ = (enc 6).length + 6 := ⟨_, rfl⟩
  obtain ⟨l2, hl2⟩ : ∃ ll_, ll_ = enc 6 ++ wCommit := ⟨_, rfl⟩
  rw [← hn2] at hN ⊢
  rw [← hl2] at hN
  have HB2 : Hid (n2 ≤ 2000) := Lib.hid (by rw [hn2]; have := enc_ten (m := 6) (by omega); omega)
  have HL2 := Lib.hid hl2
  refine ⟨_, rfl, hHeld.go hN.2.1 (by simp), fun hHeld => ?_⟩
  simp only [Act.put, List.setIfInBounds_toArray, List.set_cons_zero, List.set_cons_succ]
  have HY2 := Lib.hid hN.by
  have HFD := Lib.hid (HFD.out.and hN.2.1 (by simp))
  clear hN hn2 hl2
  clear HYW HW1 HGW
  refine call_at (i := 5) (f := ?_) (args := ?_) rfl (by kernel_rfl) (by rfl) ?_ ?_
  rotate_left 2
  · go_simp
    (try (first | with_reducible rfl | (apply And.intro <;> rfl)))
  refine (refint_any c HBD.out.1 w2).mono ?_
  rintro e w5 ⟨A5, c5, rfl, hN⟩
  obtain ⟨n5, hn5⟩ : ∃ nn_, nn_ = (encI c).length := ⟨_, rfl⟩
  obtain ⟨l5, hl5⟩ : ∃ ll_, ll_ = encI c := ⟨_, rfl⟩
  rw [← hn5] at hN ⊢
  rw [← hl5] at hN
  have HB5 : Hid (n5 ≤ 2000) := Lib.hid (by rw [hn5]; have := encI_len c HBD.out.1; omega)
  have HL5 := Lib.hid hl5
  refine ⟨_, rfl, hHeld.go hN.2.1 (by simp), fun hHeld => ?_⟩
  simp only [Act.put, List.setIfInBounds_toArray, List.set_cons_zero, List.set_cons_succ]
  have HY5 := Lib.hid hN.by
  have HFD := Lib.hid (HFD.out.and hN.2.1 (by simp))
  have HY2 := Lib.hid (Fr.byk hN.2.1 HY2.out)
  clear hN hn5 hl5
  refine call_at (i := 8) (f := ?_) (args := ?_) rfl (by kernel_rfl) (by rfl) ?_ ?_
  rotate_left 2
  · go_simp
    (try (first | with_reducible rfl | (apply And.intro <;> rfl)))
  refine (refint_any s HBD.out.2 w5).mono ?_
  rintro e w8 ⟨A8, c8, rfl, hN⟩
  obtain ⟨n8, hn8⟩ : ∃ nn_, nn_ = (encI s).length := ⟨_, rfl⟩
  obtain ⟨l8, hl8⟩ : ∃ ll_, ll_ = encI s := ⟨_, rfl⟩
  rw [← hn8] at hN ⊢
  rw [← hl8] at hN
  have HB8 : Hid (n8 ≤ 2000) := Lib.hid (by rw [hn8]; have := encI_len s HBD.out.2; omega)
  have HL8 := Lib.hid hl8
  refine ⟨_, rfl, hHeld.go hN.2.1 (by simp), fun hHeld => ?_⟩
  simp only [Act.put, List.setIfInBounds_toArray, List.set_cons_zero, List.set_cons_succ]
  have HY8 := Lib.hid hN.by
  have HFD := Lib.hid (HFD.out.and hN.2.1 (by simp))
  have HY2 := Lib.hid (Fr.byk hN.2.1 HY2.out)
  have HY5 := Lib.hid (Fr.byk hN.2.1 HY5.out)
  clear hN hn8 hl8
  refine call_at (i := 11) (f := ?_) (args := ?_) rfl (by kernel_rfl) (by rfl) ?_ ?_
  rotate_left 2
  · go_simp
    (try (first | with_reducible rfl | (apply And.intro <;> rfl)))
  refine (refrow_any A n cap b w8 (Fr.byk HFD.out HB.out) (fun k hk => by have := HA.out k hk; have := HFD.out.size; omega) (by omega)).mono ?_
  rintro e w11 ⟨A11, c11, rfl, hN⟩
  obtain ⟨n11, hn11⟩ : ∃ nn_, nn_ = (enc n).length + n := ⟨_, rfl⟩
  obtain ⟨l11, hl11⟩ : ∃ ll_, ll_ = enc n ++ b := ⟨_, rfl⟩
  rw [← hn11] at hN ⊢
  rw [← hl11] at hN
  have HB11 : Hid (n11 ≤ 2000) := Lib.hid (by rw [hn11]; have := enc_ten (m := n) (by omega); omega)
  have HL11 := Lib.hid hl11
  refine ⟨_, rfl, hHeld.go hN.2.1 (by simp), fun hHeld => ?_⟩
  simp only [Act.put, List.setIfInBounds_toArray, List.set_cons_zero, List.set_cons_succ]
  have HY11 := Lib.hid hN.by
  have HFD := Lib.hid (HFD.out.and hN.2.1 (by simp))
  have HY2 := Lib.hid (Fr.byk hN.2.1 HY2.out)
  have HY5 := Lib.hid (Fr.byk hN.2.1 HY5.out)
  have HY8 := Lib.hid (Fr.byk hN.2.1 HY8.out)
  clear hN hn11 hl11
  refine step_at (i := 12) rfl (by kernel_rfl) (by rfl) (fun K hK => ?_)
  refine wp_run (v := ?_) (w' := ?_) ?_ ?_
  rotate_left 2
  · go_simp
    (try (first | with_reducible rfl | (apply And.intro <;> rfl)))
  refine hK.out _ (w11.alloc (Obj.cells #[.slice A2 n2 c2, .slice A5 n5 c5, .slice A8 n8 c8, .slice (some ⟨w.heap.size + 1, 0, none⟩) 32 32, .slice A11 n11 c11] 41)) (hHeld.alloc _) (fun hHeld => ?_)
  clear hK K
  simp only [Act.put, List.setIfInBounds_toArray, List.set_cons_zero, List.set_cons_succ]
  have hfb : Fr [] w11 (w11.alloc (Obj.cells #[.slice A2 n2 c2, .slice A5 n5 c5, .slice A8 n8 c8, .slice (some ⟨w.heap.size + 1, 0, none⟩) 32 32, .slice A11 n11 c11] 41)) := (Fr.refl [] w11).alloc _
  have hbb : Blk (w11.alloc (Obj.cells #[.slice A2 n2 c2, .slice A5 n5 c5, .slice A8 n8 c8, .slice (some ⟨w.heap.size + 1, 0, none⟩) 32 32, .slice A11 n11 c11] 41)) w11.heap.size 41 (([⟨A2, n2, c2, l2⟩, ⟨A5, n5, c5, l5⟩, ⟨A8, n8, c8, l8⟩, ⟨some ⟨w.heap.size + 1, 0, none⟩, 32, 32, h⟩, ⟨A11, n11, c11, l11⟩] : List RowV).map RowV.val).toArray := Blk.new _ _ _
  generalize w11.alloc (Obj.cells #[.slice A2 n2 c2, .slice A5 n5 c5, .slice A8 n8 c8, .slice (some ⟨w.heap.size + 1, 0, none⟩) 32 32, .slice A11 n11 c11] 41) = wj at *
  have HFD := Lib.hid (HFD.out.and hfb (by simp))
  have hj := join_any w11.heap.size 5 [⟨A2, n2, c2, l2⟩, ⟨A5, n5, c5, l5⟩, ⟨A8, n8, c8, l8⟩, ⟨some ⟨w.heap.size + 1, 0, none⟩, 32, 32, h⟩, ⟨A11, n11, c11, l11⟩] wj hbb rfl (by omega) (by
    intro r hr
    simp only [List.mem_cons, List.not_mem_nil, or_false] at hr
    rcases hr with rfl | rfl | rfl | rfl | rfl
    · exact ⟨Fr.byk hfb HY2.out, HB2.out⟩
    · exact ⟨Fr.byk hfb HY5.out, HB5.out⟩
    · exact ⟨Fr.byk hfb HY8.out, HB8.out⟩
    · exact ⟨Fr.byk HFD.out HYH.out, by show 32 ≤ 2000; omega⟩
    · exact ⟨Fr.byk hfb HY11.out, HB11.out⟩)
  have hJ : joinL [⟨A2, n2, c2, l2⟩, ⟨A5, n5, c5, l5⟩, ⟨A8, n8, c8, l8⟩, ⟨some ⟨w.heap.size + 1, 0, none⟩, 32, 32, h⟩, ⟨A11, n11, c11, l11⟩] = ofL c s h b := by
    simp only [joinL, List.map_cons, List.map_nil, List.flatten_cons, List.flatten_nil, HL2.out, HL5.out, HL8.out, HL11.out, ofL, headL, HLN.out]
    simp [wCommit]
  rw [hJ] at hj
  have hlen : (ofL c s h b).length ≤ 1073741824 := by
    have h1 := headL_len wCommit (by decide) c s HBD.out.1 HBD.out.2
    have h3 := enc_ten (m := b.length) (by have := HLN.out; omega)
    have h4 := HLN.out
    simp only [ofL, List.length_append]
    omega
  obtain ⟨X, hX⟩ : ∃ X, X = ofL c s h b := ⟨_, rfl⟩
  rw [← hX] at hj hlen
  have HX := Lib.hid hX
  clear hX
  have HJ := Lib.hid hj
  have HLX := Lib.hid hlen
  clear hfb hbb hj hJ hlen HY2 HY5 HY8 HY11 HL2 HL5 HL8 HL11
  refine call_at (i := 13) (f := ?_) (args := ?_) rfl (by kernel_rfl) (by rfl) ?_ ?_
  rotate_left 2
  · go_simp
    (try (first | with_reducible rfl | (apply And.intro <;> rfl)))
  refine HJ.out.mono ?_
  rintro e wk ⟨Aj, cj, rfl, hN⟩
  refine ⟨_, rfl, hHeld.go hN.2.1 (by simp), fun hHeld => ?_⟩
  simp only [Act.put, List.setIfInBounds_toArray, List.set_cons_zero, List.set_cons_succ]
  have hrs := refsum_any Aj X.length cj X wk hN.by HLX.out
  have hsl : ((sumL X).map by8).toArray.size = 32 := by simp [sumL_len]
  have hone := by8_all (sumL X)
  obtain ⟨H, hH⟩ : ∃ H, H = ((sumL X).map by8).toArray := ⟨_, rfl⟩
  rw [← hH] at hrs hsl hone
  have HH := Lib.hid hH
  clear hH
  have HFD := Lib.hid (HFD.out.and hN.2.1 (by simp))
  have HRS := Lib.hid hrs
  have HSL := Lib.hid hsl
  have HONE := Lib.hid hone
  clear hN hrs hsl hone
  refine call_at (i := 14) (f := ?_) (args := ?_) rfl (by kernel_rfl) (by rfl) ?_ ?_
  rotate_left 2
  · go_simp
    (try (first | with_reducible rfl | (apply And.intro <;> rfl)))
  refine HRS.out.mono ?_
  rintro e wm ⟨rfl, hfm⟩
  refine ⟨_, rfl, hHeld.go hfm (by simp), fun hHeld => ?_⟩
  simp only [Act.put, List.setIfInBounds_toArray, List.set_cons_zero, List.set_cons_succ]
  have HFD := Lib.hid (HFD.out.and hfm (by simp))
  clear hfm
  have HB5' := Lib.hid (HB3.out.keep HFD.out (by simp))
  refine step_at (i := 15) rfl (by kernel_rfl) (by rfl) (fun K hK => ?_)
  refine wp_store_blk 35 _ _ rfl (w.heap.size + 2) H rfl rfl 35 zeroH HB5'.out (by rw [hash_sizeS, HSL.out]) (by rw [HSL.out, zeroH_size]) HONE.out ?_
  intro w6 hb6 hf6
  refine hK.out _ _ (hHeld.trans hf6 (fun x hx _ => hx)) (fun hHeld => ?_)
  clear hK K
  simp only [Act.put, List.setIfInBounds_toArray, List.set_cons_zero, List.set_cons_succ]
  have HB6 := Lib.hid hb6
  have HF6 := Lib.hid ((HF0.out.and HFD.out (by simp)).trans hf6 (fun x hx hl => by simp at hx; omega))
  clear hb6 hf6
  refine wpAnyH_done (by kernel_rfl) ?_ _
  go_wp2
  exact bodyPost_ret (v := .agg H) (results_cell_row Try.results33 _ _ (w.heap.size + 2) 35 H _ _ rfl HB6.out Try.underlying35 rfl (by rw [hash_sizeS, HSL.out])) rfl ⟨by rw [HH.out, HX.out], HF6.out⟩
end Go.Proofs.Ytlkhfhhaallhgaa
