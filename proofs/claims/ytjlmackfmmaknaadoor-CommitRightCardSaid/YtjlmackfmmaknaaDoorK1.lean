/- Texts that the proof stands on: gavelref01's Of, CommitText: the document's own commitment, and what is signed of it. | gavelref01's CommitText, ValidCommit, Matches. | gavelref01's Book: the document's own signatures, as a list. | gavelref01's Book: Sign and Copy. | gavelref01's MakeCommit. | gavelref01's RightCommit. | Package commit: the document's example (wakes). | No number's bytes are the beginning of another one's. | Which commitments are right behind one that was made: the made one if its name may be; none with anything of it turned. | Package commit: an opening is built of its parts. | Package commit: a commitment is equal to itself. | '==' of two structs in a region that draws its order. | A region that draws its order and stores at its end into blocks that it has read: two conditions on the world, one that holds all along, one that holds till a given operation has come up. Plain lemmas; no program. -/
import Derived.Test.YtjlmackfmmaknaaDoorJoin
import Derived.Test.YtjlmackfmmaknaaDoorCm4
import Derived.Test.YtjlmackfmmaknaaDoorBook3
import Derived.Test.YtjlmackfmmaknaaDoorActs
import Derived.Deep.DeepCutAuto
import Derived.Deep.AppendLies
import Derived.Test.YtjlmackfmmaknaaDoorCm5
import Derived.Test.YtjlmackfmmaknaaDoorWr
import Derived.Test.YtjlmackfmmaknaaDoorReg2
import Derived.Laws.StructEq
import Derived.Test.YtjlmackfmmaknaaDoorReg
set_option maxRecDepth 100000

namespace Go.Proofs.YtjlmackfmmaknaaDoor
open Go.RowKit
set_option maxRecDepth 100000

theorem refint_any (z : Int) (h2 : z < 9223372036854775808) (w : World) :
    Calls Tryd.prog 90 #[.int .i64 z] w fun e w' => ∃ A c, e = .returned (.slice A (encI z).length c) ∧ NewB w w' A (encI z).length c (encI z) := by
  unfold encI
  by_cases hz : z < 0
  · rw [show z.toNat = 0 by omega]
    exact refint_neg z hz w
  · obtain ⟨n, rfl⟩ : ∃ n : Nat, z = n := ⟨z.toNat, by omega⟩
    rw [Int.toNat_natCast]
    exact refint_nat n (by omega) w
theorem Fr.byk {w w' : World} {A : Option Addr} {n : Nat} {l : List UInt8} (hf : Fr [] w w') (h : By w A n l) : By w' A n l := h.keep hf (by simp)

set_option maxHeartbeats 4000000 in
theorem refof_any (c s : Int) (hc1 : -9223372036854775808 ≤ c) (hc2 : c < 9223372036854775808) (hs1 : -9223372036854775808 ≤ s) (hs2 : s < 9223372036854775808) (h : List UInt8) (hh : h.length = 32)
    (A : Option Addr) (n cap : Nat) (b : List UInt8) (w : World) (hb : By w A n b) (hA : ∀ k ∈ bk A, k < w.heap.size) (hn : n ≤ 1000) :
    Calls Tryd.prog 67 #[.agg #[.int .i64 c, .int .i64 s], .agg (h.map by8).toArray, .slice A n cap] w fun e w' => e = .returned (.agg ((sumL (ofL c s h b)).map by8).toArray) ∧ Fr [] w w' := by
  have hln := hb.1
  obtain ⟨wa, hwa⟩ : ∃ wa, wa = ((w.alloc (Obj.cells #[.int .i64 c, .int .i64 s] 42)).alloc (Obj.cells (h.map by8).toArray 26)).alloc (Obj.cells zeroH 26) := ⟨_, rfl⟩
  have hf0 : Fr [] w wa := by rw [hwa]; exact (((Fr.refl [] w).alloc _).alloc _).alloc _
  have hb1 : Blk wa w.heap.size 42 #[.int .i64 c, .int .i64 s] := by rw [hwa]; exact blk_alloc (blk_alloc (Blk.new _ _ _))
  have hb2 : Blk wa (w.heap.size + 1) 26 (h.map by8).toArray := by
    have := blk_alloc (t' := 26) (cs' := zeroH) (Blk.new (w.alloc (Obj.cells #[.int .i64 c, .int .i64 s] 42)) 26 (h.map by8).toArray)
    rw [hwa]
    simpa using this
  have hb3 : Blk wa (w.heap.size + 2) 26 zeroH := by
    have := Blk.new ((w.alloc (Obj.cells #[.int .i64 c, .int .i64 s] 42)).alloc (Obj.cells (h.map by8).toArray 26)) 26 zeroH
    rw [hwa]
    simpa using this
  have hyh : By wa (some ⟨w.heap.size + 1, 0, none⟩) 32 h := by have := By.blk h hb2 rfl; rwa [hh] at this
  have HC0 : Hid (wa.cell? ⟨w.heap.size, 0, none⟩ = some (.int .i64 c)) := Lib.hid (hb1.cell 0)
  have HC1 : Hid (wa.cell? ⟨w.heap.size, 1, none⟩ = some (.int .i64 s)) := Lib.hid (hb1.cell 1)
  have HYH := Lib.hid hyh
  have HB3 := Lib.hid hb3
  have HF0 := Lib.hid hf0
  have HWA := Lib.hid hwa
  have HB := Lib.hid (hb.keep hf0 (by simp))
  have HA : Hid (∀ k ∈ bk A, k < wa.heap.size) := Lib.hid (fun k hk => by have := hA k hk; have := hf0.size; omega)
  have HLN := Lib.hid hln
  have HBD := Lib.hid (And.intro hc2 hs2)
  clear hb1 hb2 hb3 hf0 hwa hb hA hln hyh hc1 hs1 hc2 hs2
  generalize hXH : (h.map by8).toArray = XH at *
  clear hXH
  go_enter Tryd.func67, Tryd.ntmps67
  go_upto_region 1 with (fail)
  change Code.wp _ _ _ _ (((w.alloc (Obj.cells #[.int .i64 c, .int .i64 s] 42)).alloc (Obj.cells XH 26)).alloc (Obj.cells zeroH 26))
  rw [← HWA.out]
  refine wp_region_held_drew (S := Fr [w.heap.size + 2] wa) (by kernel_rfl) (Fr.drew (Fr.refl _ wa)) (fun hHeld => ?_)
  have HFD : Hid (Fr [] wa wa.drew) := Lib.hid (Fr.drew (Fr.refl [] wa))
  have HSD : Hid (wa.heap.size ≤ wa.drew.heap.size) := Lib.hid (Nat.le_refl _)
  generalize wa.drew = wd at *
  refine run_at (i := 3) (v := ?_) rfl (by kernel_rfl) (by rfl) (fun _ _ _ h => h) hHeld (fun w1 hw1 => ?_) ?_
  rotate_left 1
  · skip
    go_simp
    (try (first | with_reducible rfl | (apply And.intro <;> rfl)))
  simp only [Act.put, List.setIfInBounds_toArray, List.set_cons_zero, List.set_cons_succ]
  refine run_at (i := 4) (v := ?_) rfl (by kernel_rfl) (by rfl) (fun _ _ _ h => h) hHeld (fun w1 hw1 => ?_) ?_
  rotate_left 1
  · skip
    have hcw0 := hw1.cell (HC0.out) (by first | (simp; done) | exact HNS.out | exact HNW.out | (intro hm; have hlt := HSB.out _ hm; (try dsimp only at hlt); omega))
    go_simp
    (try (first | with_reducible rfl | (apply And.intro <;> rfl)))
  simp only [Act.put, List.setIfInBounds_toArray, List.set_cons_zero, List.set_cons_succ]
  refine run_at (i := 6) (v := ?_) rfl (by kernel_rfl) (by rfl) (fun _ _ _ h => h) hHeld (fun w1 hw1 => ?_) ?_
  rotate_left 1
  · skip
    go_simp
    (try (first | with_reducible rfl | (apply And.intro <;> rfl)))
  simp only [Act.put, List.setIfInBounds_toArray, List.set_cons_zero, List.set_cons_succ]
  refine run_at (i := 7) (v := ?_) rfl (by kernel_rfl) (by rfl) (fun _ _ _ h => h) hHeld (fun w1 hw1 => ?_) ?_
  rotate_left 1
  · skip
    have hcw0 := hw1.cell (HC1.out) (by first | (simp; done) | exact HNS.out | exact HNW.out | (intro hm; have hlt := HSB.out _ hm; (try dsimp only at hlt); omega))
    go_simp
    (try (first | with_reducible rfl | (apply And.intro <;> rfl)))
  simp only [Act.put, List.setIfInBounds_toArray, List.set_cons_zero, List.set_cons_succ]
  refine run_at (i := 9) (v := ?_) rfl (by kernel_rfl) (by rfl) (fun _ _ _ h => h) hHeld (fun w1 hw1 => ?_) ?_
  rotate_left 1
  · skip
    go_simp
    (try (first | with_reducible rfl | (apply And.intro <;> rfl)))
  simp only [Act.put, List.setIfInBounds_toArray, List.set_cons_zero, List.set_cons_succ]
  refine run_at (i := 10) (v := ?_) rfl (by kernel_rfl) (by rfl) (fun _ _ _ h => h) hHeld (fun w1 hw1 => ?_) ?_
  rotate_left 1
  · skip
    go_simp
    (try (first | with_reducible rfl | (apply And.intro <;> rfl)))
  simp only [Act.put, List.setIfInBounds_toArray, List.set_cons_zero, List.set_cons_succ]
  refine step_at (i := 0) rfl (by kernel_rfl) (by rfl) (fun K hK => ?_)
  refine wp_run (v := ?_) (w' := ?_) ?_ ?_
  rotate_left 2
  · go_simp
    (try (first | with_reducible rfl | (apply And.intro <;> rfl)))
  refine hK.out _ (wd.alloc (Obj.cells (wCommit.map by8).toArray 5)) (hHeld.alloc _) (fun hHeld => ?_)
  clear hK K
  simp only [Act.put, List.setIfInBounds_toArray, List.set_cons_zero, List.set_cons_succ]
  have hconv := conv_const wd (wCommit.map by8).toArray 6 6 wd.heap.size rfl
  have hyw : By (wd.alloc (Obj.cells (wCommit.map by8).toArray 5 (6, 6 + 1))) (some ⟨wd.heap.size, 0, none⟩) 6 wCommit := By.mark wd _ rfl _ _ _ wCommit rfl
  have hfw : Fr [] wd (wd.alloc (Obj.cells (wCommit.map by8).toArray 5 (6, 6 + 1))) := (Fr.refl [] wd).alloc _
  refine step_at (i := 1) rfl (by kernel_rfl) (by rfl) (fun K hK => ?_)
  refine wp_run (v := .slice (some ⟨wd.heap.size, 0, none⟩) 6 6) (w' := wd.alloc (Obj.cells (wCommit.map by8).toArray 5 (6, 6 + 1))) ?_ ?_
  · have hrun := hconv
    go_simp
    (try (first | rfl | exact ⟨rfl, rfl⟩))
  refine hK.out _ _ ((HFD.out.and hfw (by simp)).mono (by simp)) (fun hHeld => ?_)
  clear hK K hconv
  simp only [Act.put, List.setIfInBounds_toArray, List.set_cons_zero, List.set_cons_succ]
  have HYW := Lib.hid hyw
  have HW1 := Lib.hid hfw
  have HFD := Lib.hid (HFD.out.and hfw (by simp))
  have HGW : Hid (wd.heap.size < (wd.alloc (Obj.cells (wCommit.map by8).toArray 5 (6, 6 + 1))).heap.size) := Lib.hid (by show wd.heap.size < (wd.heap.push _).size; rw [Array.size_push]; omega)
  generalize wd.alloc (Obj.cells (wCommit.map by8).toArray 5 (6, 6 + 1)) = w1 at *
  clear hyw hfw
  refine call_at (i := 2) (f := ?_) (args := ?_) rfl (by kernel_rfl) (by rfl) ?_ ?_
  rotate_left 2
  · go_simp
    (try (first | with_reducible rfl | (apply And.intro <;> rfl)))
  refine (refrow_any (some ⟨wd.heap.size, 0, none⟩) 6 6 wCommit w1 HYW.out (fun k hk => by simp [bk] at hk; subst hk; exact HGW.out) (by omega)).mono ?_
  rintro e w2 ⟨A2, c2, rfl, hN⟩
  obtain ⟨n2, hn2⟩ : ∃ nn_, nn_ = (enc 6).length + 6 := ⟨_, rfl⟩
  obtain ⟨l2, hl2⟩ : ∃ ll_, ll_ = enc 6 ++ wCommit := ⟨_, rfl⟩
  rw [← hn2] at hN ⊢
  rw [← hl2] at hN
  have HB2 : Hid (n2 ≤ 2000) := Lib.hid (by rw [hn2]; have := enc_ten (m := 6) (by omega); omega)
  have HL2 := Lib.hid hl2
  refine ⟨_, rfl, hHeld.go hN.2.1 (by simp), fun hHeld => ?_⟩
  simp only [Act.put, List.setIfInBounds_toArray, List.set_cons_zero, List.set_cons_succ]
  have HY2 := Lib.hid hN.by
  have HFD := Lib.hid (HFD.out.and hN.2.1 (by simp))
  clear hN hn2 hl2
  clear HYW HW1 HGW
  refine call_at (i := 5) (f := ?_) (args := ?_) rfl (by kernel_rfl) (by rfl) ?_ ?_
  rotate_left 2
  · go_simp
    (try (first | with_reducible rfl | (apply And.intro <;> rfl)))
  refine (refint_any c HBD.out.1 w2).mono ?_
  rintro e w5 ⟨A5, c5, rfl, hN⟩
  obtain ⟨n5, hn5⟩ : ∃ nn_, nn_ = (encI c).length := ⟨_, rfl⟩
  obtain ⟨l5, hl5⟩ : ∃ ll_, ll_ = encI c := ⟨_, rfl⟩
  rw [← hn5] at hN ⊢
  rw [← hl5] at hN
  have HB5 : Hid (n5 ≤ 2000) := Lib.hid (by rw [hn5]; have := encI_len c HBD.out.1; omega)
  have HL5 := Lib.hid hl5
  refine ⟨_, rfl, hHeld.go hN.2.1 (by simp), fun hHeld => ?_⟩
  simp only [Act.put, List.setIfInBounds_toArray, List.set_cons_zero, List.set_cons_succ]
  have HY5 := Lib.hid hN.by
  have HFD := Lib.hid (HFD.out.and hN.2.1 (by simp))
  have HY2 := Lib.hid (Fr.byk hN.2.1 HY2.out)
  clear hN hn5 hl5
  refine call_at (i := 8) (f := ?_) (args := ?_) rfl (by kernel_rfl) (by rfl) ?_ ?_
  rotate_left 2
  · go_simp
    (try (first | with_reducible rfl | (apply And.intro <;> rfl)))
  refine (refint_any s HBD.out.2 w5).mono ?_
  rintro e w8 ⟨A8, c8, rfl, hN⟩
  obtain ⟨n8, hn8⟩ : ∃ nn_, nn_ = (encI s).length := ⟨_, rfl⟩
  obtain ⟨l8, hl8⟩ : ∃ ll_, ll_ = encI s := ⟨_, rfl⟩
  rw [← hn8] at hN ⊢
  rw [← hl8] at hN
  have HB8 : Hid (n8 ≤ 2000) := Lib.hid (by rw [hn8]; have := encI_len s HBD.out.2; omega)
  have HL8 := Lib.hid hl8
  refine ⟨_, rfl, hHeld.go hN.2.1 (by simp), fun hHeld => ?_⟩
  simp only [Act.put, List.setIfInBounds_toArray, List.set_cons_zero, List.set_cons_succ]
  have HY8 := Lib.hid hN.by
  have HFD := Lib.hid (HFD.out.and hN.2.1 (by simp))
  have HY2 := Lib.hid (Fr.byk hN.2.1 HY2.out)
  have HY5 := Lib.hid (Fr.byk hN.2.1 HY5.out)
  clear hN hn8 hl8
  refine call_at (i := 11) (f := ?_) (args := ?_) rfl (by kernel_rfl) (by rfl) ?_ ?_
  rotate_left 2
  · go_simp
    (try (first | with_reducible rfl | (apply And.intro <;> rfl)))
  refine (refrow_any A n cap b w8 (Fr.byk HFD.out HB.out) (fun k hk => by have := HA.out k hk; have := HFD.out.size; omega) (by omega)).mono ?_
  rintro e w11 ⟨A11, c11, rfl, hN⟩
  obtain ⟨n11, hn11⟩ : ∃ nn_, nn_ = (enc n).length + n := ⟨_, rfl⟩
  obtain ⟨l11, hl11⟩ : ∃ ll_, ll_ = enc n ++ b := ⟨_, rfl⟩
  rw [← hn11] at hN ⊢
  rw [← hl11] at hN
  have HB11 : Hid (n11 ≤ 2000) := Lib.hid (by rw [hn11]; have := enc_ten (m := n) (by omega); omega)
  have HL11 := Lib.hid hl11
  refine ⟨_, rfl, hHeld.go hN.2.1 (by simp), fun hHeld => ?_⟩
  simp only [Act.put, List.setIfInBounds_toArray, List.set_cons_zero, List.set_cons_succ]
  have HY11 := Lib.hid hN.by
  have HFD := Lib.hid (HFD.out.and hN.2.1 (by simp))
  have HY2 := Lib.hid (Fr.byk hN.2.1 HY2.out)
  have HY5 := Lib.hid (Fr.byk hN.2.1 HY5.out)
  have HY8 := Lib.hid (Fr.byk hN.2.1 HY8.out)
  clear hN hn11 hl11
  refine step_at (i := 12) rfl (by kernel_rfl) (by rfl) (fun K hK => ?_)
  refine wp_run (v := ?_) (w' := ?_) ?_ ?_
  rotate_left 2
  · go_simp
    (try (first | with_reducible rfl | (apply And.intro <;> rfl)))
  refine hK.out _ (w11.alloc (Obj.cells #[.slice A2 n2 c2, .slice A5 n5 c5, .slice A8 n8 c8, .slice (some ⟨w.heap.size + 1, 0, none⟩) 32 32, .slice A11 n11 c11] 23)) (hHeld.alloc _) (fun hHeld => ?_)
  clear hK K
  simp only [Act.put, List.setIfInBounds_toArray, List.set_cons_zero, List.set_cons_succ]
  have hfb : Fr [] w11 (w11.alloc (Obj.cells #[.slice A2 n2 c2, .slice A5 n5 c5, .slice A8 n8 c8, .slice (some ⟨w.heap.size + 1, 0, none⟩) 32 32, .slice A11 n11 c11] 23)) := (Fr.refl [] w11).alloc _
  have hbb : Blk (w11.alloc (Obj.cells #[.slice A2 n2 c2, .slice A5 n5 c5, .slice A8 n8 c8, .slice (some ⟨w.heap.size + 1, 0, none⟩) 32 32, .slice A11 n11 c11] 23)) w11.heap.size 23 (([⟨A2, n2, c2, l2⟩, ⟨A5, n5, c5, l5⟩, ⟨A8, n8, c8, l8⟩, ⟨some ⟨w.heap.size + 1, 0, none⟩, 32, 32, h⟩, ⟨A11, n11, c11, l11⟩] : List RowV).map RowV.val).toArray := Blk.new _ _ _
  generalize w11.alloc (Obj.cells #[.slice A2 n2 c2, .slice A5 n5 c5, .slice A8 n8 c8, .slice (some ⟨w.heap.size + 1, 0, none⟩) 32 32, .slice A11 n11 c11] 23) = wj at *
  have HFD := Lib.hid (HFD.out.and hfb (by simp))
  have hj := join_any w11.heap.size 5 [⟨A2, n2, c2, l2⟩, ⟨A5, n5, c5, l5⟩, ⟨A8, n8, c8, l8⟩, ⟨some ⟨w.heap.size + 1, 0, none⟩, 32, 32, h⟩, ⟨A11, n11, c11, l11⟩] wj hbb rfl (by omega) (by
    intro r hr
    simp only [List.mem_cons, List.not_mem_nil, or_false] at hr
    rcases hr with rfl | rfl | rfl | rfl | rfl
    · exact ⟨Fr.byk hfb HY2.out, HB2.out⟩
    · exact ⟨Fr.byk hfb HY5.out, HB5.out⟩
    · exact ⟨Fr.byk hfb HY8.out, HB8.out⟩
    · exact ⟨Fr.byk HFD.out HYH.out, by show 32 ≤ 2000; omega⟩
    · exact ⟨Fr.byk hfb HY11.out, HB11.out⟩)
  have hJ : joinL [⟨A2, n2, c2, l2⟩, ⟨A5, n5, c5, l5⟩, ⟨A8, n8, c8, l8⟩, ⟨some ⟨w.heap.size + 1, 0, none⟩, 32, 32, h⟩, ⟨A11, n11, c11, l11⟩] = ofL c s h b := by
    simp only [joinL, List.map_cons, List.map_nil, List.flatten_cons, List.flatten_nil, HL2.out, HL5.out, HL8.out, HL11.out, ofL, headL, HLN.out]
    simp [wCommit]
  rw [hJ] at hj
  have hlen : (ofL c s h b).length ≤ 1073741824 := by
    have h1 := headL_len wCommit (by decide) c s HBD.out.1 HBD.out.2
    have h3 := enc_ten (m := b.length) (by have := HLN.out; omega)
    have h4 := HLN.out
    simp only [ofL, List.length_append]
    omega
  obtain ⟨X, hX⟩ : ∃ X, X = ofL c s h b := ⟨_, rfl⟩
  rw [← hX] at hj hlen
  have HX := Lib.hid hX
  clear hX
  have HJ := Lib.hid hj
  have HLX := Lib.hid hlen
  clear hfb hbb hj hJ hlen HY2 HY5 HY8 HY11 HL2 HL5 HL8 HL11
  refine call_at (i := 13) (f := ?_) (args := ?_) rfl (by kernel_rfl) (by rfl) ?_ ?_
  rotate_left 2
  · go_simp
    (try (first | with_reducible rfl | (apply And.intro <;> rfl)))
  refine HJ.out.mono ?_
  rintro e wk ⟨Aj, cj, rfl, hN⟩
  refine ⟨_, rfl, hHeld.go hN.2.1 (by simp), fun hHeld => ?_⟩
  simp only [Act.put, List.setIfInBounds_toArray, List.set_cons_zero, List.set_cons_succ]
  have hrs := refsum_any Aj X.length cj X wk hN.by HLX.out
  have hsl : ((sumL X).map by8).toArray.size = 32 := by simp [sumL_len]
  have hone := by8_all (sumL X)
  obtain ⟨H, hH⟩ : ∃ H, H = ((sumL X).map by8).toArray := ⟨_, rfl⟩
  rw [← hH] at hrs hsl hone
  have HH := Lib.hid hH
  clear hH
  have HFD := Lib.hid (HFD.out.and hN.2.1 (by simp))
  have HRS := Lib.hid hrs
  have HSL := Lib.hid hsl
  have HONE := Lib.hid hone
  clear hN hrs hsl hone
  refine call_at (i := 14) (f := ?_) (args := ?_) rfl (by kernel_rfl) (by rfl) ?_ ?_
  rotate_left 2
  · go_simp
    (try (first | with_reducible rfl | (apply And.intro <;> rfl)))
  refine HRS.out.mono ?_
  rintro e wm ⟨rfl, hfm⟩
  refine ⟨_, rfl, hHeld.go hfm (by simp), fun hHeld => ?_⟩
  simp only [Act.put, List.setIfInBounds_toArray, List.set_cons_zero, List.set_cons_succ]
  have HFD := Lib.hid (HFD.out.and hfm (by simp))
  clear hfm
  have HB5' := Lib.hid (HB3.out.keep HFD.out (by simp))
  refine step_at (i := 15) rfl (by kernel_rfl) (by rfl) (fun K hK => ?_)
  refine wp_store_blk 26 _ _ rfl (w.heap.size + 2) H rfl rfl 26 zeroH HB5'.out (by rw [hash_sizeS, HSL.out]) (by rw [HSL.out, zeroH_size]) HONE.out ?_
  intro w6 hb6 hf6
  refine hK.out _ _ (hHeld.trans hf6 (fun x hx _ => hx)) (fun hHeld => ?_)
  clear hK K
  simp only [Act.put, List.setIfInBounds_toArray, List.set_cons_zero, List.set_cons_succ]
  have HB6 := Lib.hid hb6
  have HF6 := Lib.hid ((HF0.out.and HFD.out (by simp)).trans hf6 (fun x hx hl => by simp at hx; omega))
  clear hb6 hf6
  refine wpAnyH_done (by kernel_rfl) ?_ _
  go_wp2
  exact bodyPost_ret (v := .agg H) (results_cell_row Tryd.results67 _ _ (w.heap.size + 2) 26 H _ _ rfl HB6.out Tryd.underlying26 rfl (by rw [hash_sizeS, HSL.out])) rfl ⟨by rw [HH.out, HX.out], HF6.out⟩
end Go.Proofs.YtjlmackfmmaknaaDoor

namespace Go.Proofs.YtjlmackfmmaknaaDoor
open Go.RowKit
set_option maxRecDepth 100000

theorem NewB.from2 {w0 w w1 : World} {A : Option Addr} {n c : Nat} {l : List UInt8} (h : NewB w w1 A n c l) (hf : Fr [] w0 w) : NewB w0 w1 A n c l := ⟨h.1, hf.and h.2.1 (by simp), fun k hk => Nat.le_trans hf.size (h.2.2 k hk)⟩
theorem By.of_range {w : World} {g o : Nat} {l : List UInt8} (h : w.rangeAt g o (l.map by8)) : By w (some ⟨g, o, none⟩) l.length l :=
  ⟨rfl, fun _ => ⟨_, rfl, fun j u hu => by rw [Addr.add_mid]; exact h j u hu⟩⟩

set_option maxHeartbeats 4000000 in
theorem reftext_any (x : Cm) (hx : x.Ok) (w : World) :
    Calls Tryd.prog 69 #[x.val] w fun e w' => ∃ A c, e = .returned (.slice A x.text.length c) ∧ NewB w w' A x.text.length c x.text := by
  obtain ⟨wa, hwa⟩ : ∃ wa, wa = w.alloc (Obj.cells x.cells.toArray 54) := ⟨_, rfl⟩
  have hf0 : Fr [] w wa := by rw [hwa]; exact (Fr.refl [] w).alloc _
  have hb0 : Blk wa w.heap.size 54 x.cells.toArray := by rw [hwa]; exact Blk.new _ _ _
  have hat := Cm.at_blk hb0 hx.h
  have hyh := By.of_range hat.hash
  rw [hx.h] at hyh
  have HAT := Lib.hid hat
  have HYH := Lib.hid hyh
  have HF0 := Lib.hid hf0
  have HWA := Lib.hid hwa
  have HX := Lib.hid hx
  clear hwa hf0 hb0 hx hat hyh
  unfold Cm.val
  generalize hC : x.cells.toArray = C at *
  clear hC
  go_enter Tryd.func69, Tryd.ntmps69
  go_upto_region 1 with (fail)
  rw [← HWA.out]
  refine wp_region_held_drew (S := Fr [] wa) (by kernel_rfl) (Fr.drew (Fr.refl _ wa)) (fun hHeld => ?_)
  have HFD : Hid (Fr [] wa wa.drew) := Lib.hid (Fr.drew (Fr.refl [] wa))
  generalize wa.drew = wd at *
  refine run_at (i := 3) (v := ?_) rfl (by kernel_rfl) (by rfl) (fun _ _ _ h => h) hHeld (fun w1 hw1 => ?_) ?_
  rotate_left 1
  · skip
    go_simp
    (try (first | with_reducible rfl | (apply And.intro <;> rfl)))
  simp only [Act.put, List.setIfInBounds_toArray, List.set_cons_zero, List.set_cons_succ]
  refine run_at (i := 4) (v := ?_) rfl (by kernel_rfl) (by rfl) (fun _ _ _ h => h) hHeld (fun w1 hw1 => ?_) ?_
  rotate_left 1
  · skip
    go_simp
    (try (first | with_reducible rfl | (apply And.intro <;> rfl)))
  simp only [Act.put, List.setIfInBounds_toArray, List.set_cons_zero, List.set_cons_succ]
  refine run_at (i := 5) (v := ?_) rfl (by kernel_rfl) (by rfl) (fun _ _ _ h => h) hHeld (fun w1 hw1 => ?_) ?_
  rotate_left 1
  · skip
    have hcw0 := hw1.cell (HAT.out.c) (by first | (simp; done) | exact HNS.out | exact HNW.out | (intro hm; have hlt := HSB.out _ hm; (try dsimp only at hlt); omega))
    go_simp
    (try (first | with_reducible rfl | (apply And.intro <;> rfl)))
  simp only [Act.put, List.setIfInBounds_toArray, List.set_cons_zero, List.set_cons_succ]
  refine run_at (i := 7) (v := ?_) rfl (by kernel_rfl) (by rfl) (fun _ _ _ h => h) hHeld (fun w1 hw1 => ?_) ?_
  rotate_left 1
  · skip
    go_simp
    (try (first | with_reducible rfl | (apply And.intro <;> rfl)))
  simp only [Act.put, List.setIfInBounds_toArray, List.set_cons_zero, List.set_cons_succ]
  refine run_at (i := 8) (v := ?_) rfl (by kernel_rfl) (by rfl) (fun _ _ _ h => h) hHeld (fun w1 hw1 => ?_) ?_
  rotate_left 1
  · skip
    go_simp
    (try (first | with_reducible rfl | (apply And.intro <;> rfl)))
  simp only [Act.put, List.setIfInBounds_toArray, List.set_cons_zero, List.set_cons_succ]
  refine run_at (i := 9) (v := ?_) rfl (by kernel_rfl) (by rfl) (fun _ _ _ h => h) hHeld (fun w1 hw1 => ?_) ?_
  rotate_left 1
  · skip
    have hcw0 := hw1.cell (HAT.out.s) (by first | (simp; done) | exact HNS.out | exact HNW.out | (intro hm; have hlt := HSB.out _ hm; (try dsimp only at hlt); omega))
    go_simp
    (try (first | with_reducible rfl | (apply And.intro <;> rfl)))
  simp only [Act.put, List.setIfInBounds_toArray, List.set_cons_zero, List.set_cons_succ]
  refine run_at (i := 11) (v := ?_) rfl (by kernel_rfl) (by rfl) (fun _ _ _ h => h) hHeld (fun w1 hw1 => ?_) ?_
  rotate_left 1
  · skip
    go_simp
    (try (first | with_reducible rfl | (apply And.intro <;> rfl)))
  simp only [Act.put, List.setIfInBounds_toArray, List.set_cons_zero, List.set_cons_succ]
  refine run_at (i := 12) (v := ?_) rfl (by kernel_rfl) (by rfl) (fun _ _ _ h => h) hHeld (fun w1 hw1 => ?_) ?_
  rotate_left 1
  · skip
    go_simp
    (try (first | with_reducible rfl | (apply And.intro <;> rfl)))
  simp only [Act.put, List.setIfInBounds_toArray, List.set_cons_zero, List.set_cons_succ]
  refine run_at (i := 13) (v := ?_) rfl (by kernel_rfl) (by rfl) (fun _ _ _ h => h) hHeld (fun w1 hw1 => ?_) ?_
  rotate_left 1
  · skip
    go_simp
    (try (first | with_reducible rfl | (apply And.intro <;> rfl)))
  simp only [Act.put, List.setIfInBounds_toArray, List.set_cons_zero, List.set_cons_succ]
  refine run_at (i := 14) (v := ?_) rfl (by kernel_rfl) (by rfl) (fun _ _ _ h => h) hHeld (fun w1 hw1 => ?_) ?_
  rotate_left 1
  · skip
    have hcw0 := hw1.cell (HAT.out.n) (by first | (simp; done) | exact HNS.out | exact HNW.out | (intro hm; have hlt := HSB.out _ hm; (try dsimp only at hlt); omega))
    go_simp
    (try (first | with_reducible rfl | (apply And.intro <;> rfl)))
  simp only [Act.put, List.setIfInBounds_toArray, List.set_cons_zero, List.set_cons_succ]
  refine step_at (i := 0) rfl (by kernel_rfl) (by rfl) (fun K hK => ?_)
  refine wp_run (v := ?_) (w' := ?_) ?_ ?_
  rotate_left 2
  · go_simp
    (try (first | with_reducible rfl | (apply And.intro <;> rfl)))
  refine hK.out _ (wd.alloc (Obj.cells (wRequest.map by8).toArray 5)) (hHeld.alloc _) (fun hHeld => ?_)
  clear hK K
  simp only [Act.put, List.setIfInBounds_toArray, List.set_cons_zero, List.set_cons_succ]
  have hconv := conv_const wd (wRequest.map by8).toArray 7 7 wd.heap.size rfl
  have hyw : By (wd.alloc (Obj.cells (wRequest.map by8).toArray 5 (7, 7 + 1))) (some ⟨wd.heap.size, 0, none⟩) 7 wRequest := By.mark wd _ rfl _ _ _ wRequest rfl
  have hfw : Fr [] wd (wd.alloc (Obj.cells (wRequest.map by8).toArray 5 (7, 7 + 1))) := (Fr.refl [] wd).alloc _
  refine step_at (i := 1) rfl (by kernel_rfl) (by rfl) (fun K hK => ?_)
  refine wp_run (v := .slice (some ⟨wd.heap.size, 0, none⟩) 7 7) (w' := wd.alloc (Obj.cells (wRequest.map by8).toArray 5 (7, 7 + 1))) ?_ ?_
  · have hrun := hconv
    go_simp
    (try (first | rfl | exact ⟨rfl, rfl⟩))
  refine hK.out _ _ ((HFD.out.and hfw (by simp)).mono (by simp)) (fun hHeld => ?_)
  clear hK K hconv
  simp only [Act.put, List.setIfInBounds_toArray, List.set_cons_zero, List.set_cons_succ]
  have HYW := Lib.hid hyw
  have HW1 := Lib.hid hfw
  have HFD := Lib.hid (HFD.out.and hfw (by simp))
  have HGW : Hid (wd.heap.size < (wd.alloc (Obj.cells (wRequest.map by8).toArray 5 (7, 7 + 1))).heap.size) := Lib.hid (by show wd.heap.size < (wd.heap.push _).size; rw [Array.size_push]; omega)
  generalize wd.alloc (Obj.cells (wRequest.map by8).toArray 5 (7, 7 + 1)) = w1 at *
  clear hyw hfw
  refine call_at (i := 2) (f := ?_) (args := ?_) rfl (by kernel_rfl) (by rfl) ?_ ?_
  rotate_left 2
  · go_simp
    (try (first | with_reducible rfl | (apply And.intro <;> rfl)))
  refine (refrow_any (some ⟨wd.heap.size, 0, none⟩) 7 7 wRequest w1 HYW.out (fun k hk => by simp [bk] at hk; subst hk; exact HGW.out) (by omega)).mono ?_
  rintro e w2 ⟨A2, c2, rfl, hN⟩
  obtain ⟨n2, hn2⟩ : ∃ nn_, nn_ = (enc 7).length + 7 := ⟨_, rfl⟩
  obtain ⟨l2, hl2⟩ : ∃ ll_, ll_ = enc 7 ++ wRequest := ⟨_, rfl⟩
  rw [← hn2] at hN ⊢
  rw [← hl2] at hN
  have HB2 : Hid (n2 ≤ 2000) := Lib.hid (by rw [hn2]; have := enc_ten (m := 7) (by omega); omega)
  have HL2 := Lib.hid hl2
  refine ⟨_, rfl, hHeld.go hN.2.1 (by simp), fun hHeld => ?_⟩
  simp only [Act.put, List.setIfInBounds_toArray, List.set_cons_zero, List.set_cons_succ]
  have HY2 := Lib.hid hN.by
  have HFD := Lib.hid (HFD.out.and hN.2.1 (by simp))
  clear hN hn2 hl2
  clear HYW HW1 HGW
  refine call_at (i := 6) (f := ?_) (args := ?_) rfl (by kernel_rfl) (by rfl) ?_ ?_
  rotate_left 2
  · go_simp
    (try (first | with_reducible rfl | (apply And.intro <;> rfl)))
  refine (refint_any x.c HX.out.c.2 w2).mono ?_
  rintro e w6 ⟨A6, c6, rfl, hN⟩
  obtain ⟨n6, hn6⟩ : ∃ nn_, nn_ = (encI x.c).length := ⟨_, rfl⟩
  obtain ⟨l6, hl6⟩ : ∃ ll_, ll_ = encI x.c := ⟨_, rfl⟩
  rw [← hn6] at hN ⊢
  rw [← hl6] at hN
  have HB6 : Hid (n6 ≤ 2000) := Lib.hid (by rw [hn6]; have := encI_len x.c HX.out.c.2; omega)
  have HL6 := Lib.hid hl6
  refine ⟨_, rfl, hHeld.go hN.2.1 (by simp), fun hHeld => ?_⟩
  simp only [Act.put, List.setIfInBounds_toArray, List.set_cons_zero, List.set_cons_succ]
  have HY6 := Lib.hid hN.by
  have HFD := Lib.hid (HFD.out.and hN.2.1 (by simp))
  have HY2 := Lib.hid (Fr.byk hN.2.1 HY2.out)
  clear hN hn6 hl6
  refine call_at (i := 10) (f := ?_) (args := ?_) rfl (by kernel_rfl) (by rfl) ?_ ?_
  rotate_left 2
  · go_simp
    (try (first | with_reducible rfl | (apply And.intro <;> rfl)))
  refine (refint_any x.s HX.out.s.2 w6).mono ?_
  rintro e w10 ⟨A10, c10, rfl, hN⟩
  obtain ⟨n10, hn10⟩ : ∃ nn_, nn_ = (encI x.s).length := ⟨_, rfl⟩
  obtain ⟨l10, hl10⟩ : ∃ ll_, ll_ = encI x.s := ⟨_, rfl⟩
  rw [← hn10] at hN ⊢
  rw [← hl10] at hN
  have HB10 : Hid (n10 ≤ 2000) := Lib.hid (by rw [hn10]; have := encI_len x.s HX.out.s.2; omega)
  have HL10 := Lib.hid hl10
  refine ⟨_, rfl, hHeld.go hN.2.1 (by simp), fun hHeld => ?_⟩
  simp only [Act.put, List.setIfInBounds_toArray, List.set_cons_zero, List.set_cons_succ]
  have HY10 := Lib.hid hN.by
  have HFD := Lib.hid (HFD.out.and hN.2.1 (by simp))
  have HY2 := Lib.hid (Fr.byk hN.2.1 HY2.out)
  have HY6 := Lib.hid (Fr.byk hN.2.1 HY6.out)
  clear hN hn10 hl10
  refine call_at (i := 15) (f := ?_) (args := ?_) rfl (by kernel_rfl) (by rfl) ?_ ?_
  rotate_left 2
  · go_simp
    (try (first | with_reducible rfl | (apply And.intro <;> rfl)))
  refine (refint_any x.n HX.out.n.2 w10).mono ?_
  rintro e w15 ⟨A15, c15, rfl, hN⟩
  obtain ⟨n15, hn15⟩ : ∃ nn_, nn_ = (encI x.n).length := ⟨_, rfl⟩
  obtain ⟨l15, hl15⟩ : ∃ ll_, ll_ = encI x.n := ⟨_, rfl⟩
  rw [← hn15] at hN ⊢
  rw [← hl15] at hN
  have HB15 : Hid (n15 ≤ 2000) := Lib.hid (by rw [hn15]; have := encI_len x.n HX.out.n.2; omega)
  have HL15 := Lib.hid hl15
  refine ⟨_, rfl, hHeld.go hN.2.1 (by simp), fun hHeld => ?_⟩
  simp only [Act.put, List.setIfInBounds_toArray, List.set_cons_zero, List.set_cons_succ]
  have HY15 := Lib.hid hN.by
  have HFD := Lib.hid (HFD.out.and hN.2.1 (by simp))
  have HY2 := Lib.hid (Fr.byk hN.2.1 HY2.out)
  have HY6 := Lib.hid (Fr.byk hN.2.1 HY6.out)
  have HY10 := Lib.hid (Fr.byk hN.2.1 HY10.out)
  clear hN hn15 hl15
  refine step_at (i := 16) rfl (by kernel_rfl) (by rfl) (fun K hK => ?_)
  refine wp_run (v := ?_) (w' := ?_) ?_ ?_
  rotate_left 2
  · go_simp
    (try (first | with_reducible rfl | (apply And.intro <;> rfl)))
  refine hK.out _ (w15.alloc (Obj.cells #[.slice A2 n2 c2, .slice A6 n6 c6, .slice A10 n10 c10, .slice (some ⟨w.heap.size, 2, none⟩) 32 32, .slice A15 n15 c15] 23)) (hHeld.alloc _) (fun hHeld => ?_)
  clear hK K
  simp only [Act.put, List.setIfInBounds_toArray, List.set_cons_zero, List.set_cons_succ]
  have hfb : Fr [] w15 (w15.alloc (Obj.cells #[.slice A2 n2 c2, .slice A6 n6 c6, .slice A10 n10 c10, .slice (some ⟨w.heap.size, 2, none⟩) 32 32, .slice A15 n15 c15] 23)) := (Fr.refl [] w15).alloc _
  have hbb : Blk (w15.alloc (Obj.cells #[.slice A2 n2 c2, .slice A6 n6 c6, .slice A10 n10 c10, .slice (some ⟨w.heap.size, 2, none⟩) 32 32, .slice A15 n15 c15] 23)) w15.heap.size 23 (([⟨A2, n2, c2, l2⟩, ⟨A6, n6, c6, l6⟩, ⟨A10, n10, c10, l10⟩, ⟨some ⟨w.heap.size, 2, none⟩, 32, 32, x.h⟩, ⟨A15, n15, c15, l15⟩] : List RowV).map RowV.val).toArray := Blk.new _ _ _
  generalize w15.alloc (Obj.cells #[.slice A2 n2 c2, .slice A6 n6 c6, .slice A10 n10 c10, .slice (some ⟨w.heap.size, 2, none⟩) 32 32, .slice A15 n15 c15] 23) = wj at *
  have HFD := Lib.hid (HFD.out.and hfb (by simp))
  have hj := join_any w15.heap.size 5 [⟨A2, n2, c2, l2⟩, ⟨A6, n6, c6, l6⟩, ⟨A10, n10, c10, l10⟩, ⟨some ⟨w.heap.size, 2, none⟩, 32, 32, x.h⟩, ⟨A15, n15, c15, l15⟩] wj hbb rfl (by omega) (by
    intro r hr
    simp only [List.mem_cons, List.not_mem_nil, or_false] at hr
    rcases hr with rfl | rfl | rfl | rfl | rfl
    · exact ⟨Fr.byk hfb HY2.out, HB2.out⟩
    · exact ⟨Fr.byk hfb HY6.out, HB6.out⟩
    · exact ⟨Fr.byk hfb HY10.out, HB10.out⟩
    · exact ⟨Fr.byk HFD.out HYH.out, by show 32 ≤ 2000; omega⟩
    · exact ⟨Fr.byk hfb HY15.out, HB15.out⟩)
  have hJ : joinL [⟨A2, n2, c2, l2⟩, ⟨A6, n6, c6, l6⟩, ⟨A10, n10, c10, l10⟩, ⟨some ⟨w.heap.size, 2, none⟩, 32, 32, x.h⟩, ⟨A15, n15, c15, l15⟩] = x.text := by
    simp only [joinL, List.map_cons, List.map_nil, List.flatten_cons, List.flatten_nil, HL2.out, HL6.out, HL10.out, HL15.out, Cm.text, headL]
    simp [wRequest]
  rw [hJ] at hj
  obtain ⟨X, hX⟩ : ∃ X, X = x.text := ⟨_, rfl⟩
  rw [← hX] at hj
  have HXT := Lib.hid hX
  clear hX
  have HJ := Lib.hid hj
  clear hfb hbb hj hJ HY2 HY6 HY10 HY15 HL2 HL6 HL10 HL15
  refine call_at (i := 17) (f := ?_) (args := ?_) rfl (by kernel_rfl) (by rfl) ?_ ?_
  rotate_left 2
  · go_simp
    (try (first | with_reducible rfl | (apply And.intro <;> rfl)))
  refine HJ.out.mono ?_
  rintro e wk ⟨Aj, cj, rfl, hN⟩
  have HN := Lib.hid (hN.from2 (HF0.out.and HFD.out (by simp)))
  refine ⟨_, rfl, hHeld.go hN.2.1 (by simp), fun hHeld => ?_⟩
  clear hN
  simp only [Act.put, List.setIfInBounds_toArray, List.set_cons_zero, List.set_cons_succ]
  refine run_at (i := 18) (v := ?_) rfl (by kernel_rfl) (by rfl) (fun _ _ _ h => h) hHeld (fun w1 hw1 => ?_) ?_
  rotate_left 1
  · skip
    go_simp
    (try (first | with_reducible rfl | (apply And.intro <;> rfl)))
  simp only [Act.put, List.setIfInBounds_toArray, List.set_cons_zero, List.set_cons_succ]
  refine wpAnyH_done (by kernel_rfl) ?_ _
  go_wp2
  go_ret
  rw [← HXT.out]
  exact ⟨Aj, cj, rfl, HN.out⟩
set_option maxHeartbeats 1000000 in
theorem refvalid_any (f k : Int) (x : Cm) (hx : x.h.length = 32) (w : World) :
    Calls Tryd.prog 73 #[.agg #[.int .i64 f, .int .i64 k], x.val] w fun e w' => e = .returned (.bool (validB k x)) ∧ Fr [] w w' := by
  obtain ⟨wa, hwa⟩ : ∃ wa, wa = (w.alloc (Obj.cells #[.int .i64 f, .int .i64 k] 50)).alloc (Obj.cells x.cells.toArray 54) := ⟨_, rfl⟩
  have hf0 : Fr [] w wa := by rw [hwa]; exact ((Fr.refl [] w).alloc _).alloc _
  have hb0 : Blk wa (w.heap.size + 1) 54 x.cells.toArray := by
    have := Blk.new (w.alloc (Obj.cells #[.int .i64 f, .int .i64 k] 50)) 54 x.cells.toArray
    rw [hwa]; simpa using this
  have hb1 : Blk wa w.heap.size 50 #[.int .i64 f, .int .i64 k] := by rw [hwa]; exact blk_alloc (Blk.new _ _ _)
  have hat := Cm.at_blk hb0 hx
  have hc0 := hat.c
  have hc1 := hat.s
  have hc2 := hat.n
  have hc3 := hb1.cell 1
  simp only [List.getElem?_toArray, List.getElem?_cons_zero, List.getElem?_cons_succ] at hc3
  have HF0 := Lib.hid hf0
  have HWA := Lib.hid hwa
  clear hwa hf0 hb0 hb1 hat hx
  unfold Cm.val
  have hv : ∃ r, r = validB k x ∧ validB k x = decide (0 ≤ x.c ∧ x.c < k ∧ 1 ≤ x.s ∧ x.s ≤ 1048576 ∧ 0 ≤ x.n ∧ x.n ≤ 256) := ⟨_, rfl, rfl⟩
  obtain ⟨r, hr, hr2⟩ := hv
  rw [← hr] at hr2 ⊢
  clear hr
  generalize hC : x.cells.toArray = C at *
  clear hC
  generalize x.c = xc at *
  generalize x.s = xs at *
  generalize x.n = xn at *
  by_cases h1 : 0 ≤ xc
  case neg =>
    have HR : Hid (r = false) := Lib.hid (by rw [hr2]; simp; omega)
    clear hr2
    go_enter Tryd.func73, Tryd.ntmps73
    go_upto_region 1 with (fail)
    rw [← HWA.out]
    go_wp2
    go_ret
    exact ⟨by rw [HR.out]; rfl, HF0.out⟩
  by_cases h2 : xc < k
  case neg =>
    have HR : Hid (r = false) := Lib.hid (by rw [hr2]; simp; omega)
    clear hr2
    go_enter Tryd.func73, Tryd.ntmps73
    go_upto_region 1 with (fail)
    rw [← HWA.out]
    go_wp2
    go_ret
    exact ⟨by rw [HR.out]; rfl, HF0.out⟩
  by_cases h3 : 1 ≤ xs
  case neg =>
    have HR : Hid (r = false) := Lib.hid (by rw [hr2]; simp; omega)
    clear hr2
    go_enter Tryd.func73, Tryd.ntmps73
    go_upto_region 1 with (fail)
    rw [← HWA.out]
    go_wp2
    go_ret
    exact ⟨by rw [HR.out]; rfl, HF0.out⟩
  by_cases h4 : xs ≤ 1048576
  case neg =>
    have HR : Hid (r = false) := Lib.hid (by rw [hr2]; simp; omega)
    clear hr2
    go_enter Tryd.func73, Tryd.ntmps73
    go_upto_region 1 with (fail)
    rw [← HWA.out]
    go_wp2
    go_ret
    exact ⟨by rw [HR.out]; rfl, HF0.out⟩
  by_cases h5 : 0 ≤ xn
  case neg =>
    have HR : Hid (r = false) := Lib.hid (by rw [hr2]; simp; omega)
    clear hr2
    go_enter Tryd.func73, Tryd.ntmps73
    go_upto_region 1 with (fail)
    rw [← HWA.out]
    go_wp2
    go_ret
    exact ⟨by rw [HR.out]; rfl, HF0.out⟩
  by_cases h6 : xn ≤ 256
  case neg =>
    have HR : Hid (r = false) := Lib.hid (by rw [hr2]; simp; omega)
    clear hr2
    go_enter Tryd.func73, Tryd.ntmps73
    go_upto_region 1 with (fail)
    rw [← HWA.out]
    go_wp2
    go_ret
    exact ⟨by rw [HR.out]; rfl, HF0.out⟩
  have HR : Hid (r = true) := Lib.hid (by rw [hr2]; simp; omega)
  clear hr2
  go_enter Tryd.func73, Tryd.ntmps73
  go_upto_region 1 with (fail)
  rw [← HWA.out]
  go_wp2
  go_ret
  exact ⟨by rw [HR.out]; rfl, HF0.out⟩
end Go.Proofs.YtjlmackfmmaknaaDoor

namespace Go.Proofs.YtjlmackfmmaknaaDoor
set_option maxRecDepth 100000
open Go.RowKit

def ecells (e : Ent) : List Value := [.int .i64 e.1, .string ⟨e.2.toArray⟩]
/-- the document's book at block g -/
def RBk (w : World) (S : List Nat) (g : Nat) (l : List Ent) : Prop :=
  ∃ A c, S = g :: bk A ∧ Blk w g 48 #[.slice A l.length c] ∧ w.ownsRow 0 160 2 (.slice A l.length c) l.length (l.flatMap ecells)
theorem RBk.keep {w w' : World} {S T : List Nat} {g : Nat} {l : List Ent} (h : RBk w S g l) (hf : Fr T w w') (hn : ∀ x ∈ S, ¬ x ∈ T) : RBk w' S g l := by
  obtain ⟨A, c, rfl, h1, h2⟩ := h
  exact ⟨A, c, rfl, h1.keep hf (hn g (by simp)), own_keep h2 hf (fun x hx => hn x (by rw [bk_mem] at hx; simp [hx]))⟩
theorem RBk.lt {w : World} {S : List Nat} {g : Nat} {l : List Ent} (h : RBk w S g l) : ∀ x ∈ S, x < w.heap.size := by
  obtain ⟨A, c, rfl, h1, h2⟩ := h
  intro x hx
  simp at hx
  rcases hx with rfl | hx
  · exact h1.lt
  · exact own_lt h2 x (by rw [bk_mem]; exact hx)
theorem ecells_at {l : List Ent} {i : Nat} {e : Ent} (h : l[i]? = some e) : (l.flatMap ecells)[i * 2]? = some (.int .i64 e.1) ∧ (l.flatMap ecells)[i * 2 + 1]? = some (.string ⟨e.2.toArray⟩) := by
  induction l generalizing i with
  | nil => simp at h
  | cons a r ih =>
    rcases i with _ | i
    · simp at h
      subst h
      simp [ecells]
    · simp at h
      obtain ⟨h1, h2⟩ := ih h
      rw [show (i + 1) * 2 = i * 2 + 2 by omega]
      simp only [List.flatMap_cons, ecells, List.cons_append, List.nil_append, List.getElem?_cons_succ]
      exact ⟨h1, h2⟩
/-- where the entries lie -/
theorem RBk.cells {w : World} {S : List Nat} {g : Nat} {l : List Ent} (h : RBk w S g l) :
    ∃ A c, S = g :: bk A ∧ w.cell? ⟨g, 0, none⟩ = some (.slice A l.length c) ∧ ∀ i e, l[i]? = some e → ∃ gq, A = some ⟨gq, 0, none⟩ ∧ w.cell? ⟨gq, i * 2, none⟩ = some (.int .i64 e.1) ∧ w.cell? ⟨gq, i * 2 + 1, none⟩ = some (.string ⟨e.2.toArray⟩) := by
  obtain ⟨A, c, hS, h1, h2⟩ := h
  refine ⟨A, c, hS, by simpa using h1.cell 0, fun i e hi => ?_⟩
  have hl : i < l.length := (List.getElem?_eq_some_iff.1 hi).1
  obtain ⟨gq, cap, hv, _, _⟩ := h2.form (by omega)
  injection hv with hA
  subst hA
  have hc := h2.cells (g := gq) rfl
  have hadd : ∀ j, (⟨gq, 0, none⟩ : Addr).add j = ⟨gq, j, none⟩ := fun j => by unfold Addr.add; split <;> simp_all
  obtain ⟨e1, e2⟩ := ecells_at hi
  exact ⟨gq, rfl, by rw [← hadd]; exact hc _ _ e1, by rw [← hadd]; exact hc _ _ e2⟩

theorem rightB_at {l : List Ent} (hnd : l.Nodup) {x : Int} {t : List UInt8} {i : Nat} {e : Ent} (hi : l[i]? = some e) : rightB l x ((i : Int) + 1) t = decide (e = (x, t)) := by
  unfold rightB
  obtain ⟨hl, hg⟩ := List.getElem?_eq_some_iff.1 hi
  by_cases he : e = (x, t)
  · have hm : (x, t) ∈ l := by rw [← he, ← hg]; exact List.getElem_mem hl
    have hidx : l.idxOf (x, t) = i := by rw [← he, ← hg]; exact List.Nodup.idxOf_getElem hnd i hl
    rw [hidx]
    simp [hm, he]
  · rw [decide_eq_false he]
    simp only [Bool.and_eq_false_iff, decide_eq_false_iff_not]
    by_cases hm : (x, t) ∈ l
    · right
      have hlt : l.idxOf (x, t) < l.length := List.idxOf_lt_length_iff.2 hm
      have hge : l[l.idxOf (x, t)] = (x, t) := List.getElem_idxOf hlt
      have hne : l.idxOf (x, t) ≠ i := by
        intro h
        apply he
        rw [← hg, ← hge]
        simp only [h]
      simp
      omega
    · exact Or.inl hm
theorem rightB_out {l : List Ent} {x m : Int} {t : List UInt8} (h : m < 1 ∨ (l.length : Int) < m) : rightB l x m t = false := by
  unfold rightB
  by_cases hm : (x, t) ∈ l
  · have hlt : l.idxOf (x, t) < l.length := List.idxOf_lt_length_iff.2 hm
    simp only [Bool.and_eq_false_iff]
    right
    simp
    omega
  · simp [hm]

set_option maxRecDepth 100000 in
set_option maxHeartbeats 2000000 in
theorem refright_any (w : World) (S : List Nat) (g : Nat) (l : List Ent) (h : RBk w S g l) (hnd : l.Nodup) (x m : Int) (A : Option Addr) (n c : Nat) (t : List UInt8) (hy : By w A n t) (hm1 : -9223372036854775808 ≤ m) (hm2 : m < 9223372036854775808) :
    Calls Tryd.prog 74 #[.pointer (some ⟨g, 0, none⟩), .agg #[.int .i64 x, .int .i64 m], .slice A n c] w fun e w' => e = .returned (.bool (rightB l x m t)) ∧ Fr [] w w' := by
  have HB := Lib.hid h
  have HY := Lib.hid hy
  have HND := Lib.hid hnd
  clear h hy hnd
  go_enter Tryd.func74, Tryd.ntmps74
  go_wp2
  have hfa : Fr [] w (w.alloc (Obj.cells #[.int .i64 x, .int .i64 m] 52)) := (Fr.refl [] w).alloc _
  have hbx : Blk (w.alloc (Obj.cells #[.int .i64 x, .int .i64 m] 52)) w.heap.size 52 #[.int .i64 x, .int .i64 m] := Blk.new _ _ _
  have HB1 := Lib.hid (HB.out.keep hfa (by simp))
  have HY1 := Lib.hid (HY.out.keep hfa (by simp))
  have HFA := Lib.hid hfa
  clear hfa
  generalize w.alloc (Obj.cells #[.int .i64 x, .int .i64 m] 52) = wa at *
  generalize w.heap.size = gh at *
  have hc0 := hbx.cell 0
  have hc1 := hbx.cell 1
  simp at hc0 hc1
  clear hbx
  obtain ⟨A0, c0, hS, hcb, hcells⟩ := HB1.out.cells
  have HCS := Lib.hid hcells
  have HHS := Lib.hid hS
  have hconv := fun k : Nat => conv_text A n c t (wa.drewN k) (HY1.out.drewN k)
  clear hcells hS
  by_cases h1 : m < 1
  · have HR : Hid (rightB l x m t = false) := Lib.hid (rightB_out (Or.inl h1))
    have hd : decide (1 ≤ m) = false := by simp; omega
    clear h1
    go_quiet (fail)
    go_wp2
    go_ret
    exact ⟨by rw [HR.out]; rfl, HFA.out.drewN _⟩
  · by_cases h2 : (l.length : Int) < m
    · have HR : Hid (rightB l x m t = false) := Lib.hid (rightB_out (Or.inr h2))
      have hd1 : decide (1 ≤ m) = true := by simp; omega
      have hd2 : decide (m ≤ (l.length : Int)) = false := by simp; omega
      have hd3 : (1 : Int) ≤ m := by omega
      clear h1 h2
      go_quiet (fail)
      go_wp2
      go_ret
      exact ⟨by rw [HR.out]; rfl, HFA.out.drewN _⟩
    · obtain ⟨i, hi⟩ : ∃ i : Nat, m = (i : Int) + 1 := ⟨(m - 1).toNat, by omega⟩
      have hil : i < l.length := by omega
      have hge : l[i]? = some l[i] := List.getElem?_eq_getElem hil
      generalize l[i] = e at *
      have HR : Hid (rightB l x m t = decide (e = (x, t))) := Lib.hid (by rw [hi]; exact rightB_at HND.out hge)
      obtain ⟨gq, rfl, hca, hcs⟩ := HCS.out i e hge
      obtain ⟨x', t'⟩ := e
      simp only at hca hcs
      have hsub : IntKind.i64.wrap (m - 1) = (i : Int) := by rw [IntWalk.i64_in _ (by omega)]; omega
      have hsub2 : m - 1 = (i : Int) := by omega
      have hd1 : decide (1 ≤ m) = true := by simp; omega
      have hd2 : decide (m ≤ (l.length : Int)) = true := by simp; omega
      have hi0 : (0 : Int) ≤ i := by omega
      have hiL : (i : Int) < (l.length : Int) := by omega
      have hd3 : (1 : Int) ≤ m := by omega
      have hd4 : m ≤ (l.length : Int) := by omega
      clear h1 h2 hi hge HCS
      by_cases hx : x' = x
      · have hxe : (x' == x) = true := by simp [hx]
        have HD : Hid (rightB l x m t = (t' == t)) := Lib.hid (by rw [HR.out, hx]; by_cases ht : t' = t <;> simp [ht])
        clear hx
        go_quiet (fail)
        go_wp2
        go_ret
        exact ⟨by rw [HD.out]; rfl, HFA.out.drewN _⟩
      · have hxe : (x' == x) = false := by simp [hx]
        have HD : Hid (rightB l x m t = false) := Lib.hid (by rw [HR.out]; simp [hx])
        clear hx
        go_quiet (fail)
        go_wp2
        go_ret
        exact ⟨by rw [HD.out]; rfl, HFA.out.drewN _⟩
end Go.Proofs.YtjlmackfmmaknaaDoor

namespace Go.Proofs.YtjlmackfmmaknaaDoor
set_option maxRecDepth 100000
open Go.RowKit

theorem signed_info : (Tryd.prog.info? 160).map (fun i => (i.zero, i.size, i.bytes)) = some (some (.agg #[.int .i64 0, .string ByteArray.empty]), 2, 24) := by kernel_rfl
theorem mrk_at {l : List Ent} (hnd : l.Nodup) {i : Nat} {e : Ent} (hi : l[i]? = some e) : e ∈ l ∧ mrk l e = (i : Int) + 1 := by
  obtain ⟨hl, hg⟩ := List.getElem?_eq_some_iff.1 hi
  refine ⟨by rw [← hg]; exact List.getElem_mem hl, ?_⟩
  unfold mrk
  have hidx : l.idxOf e = i := by rw [← hg]; exact List.Nodup.idxOf_getElem hnd i hl
  rw [hidx]
  simp

set_option maxRecDepth 100000 in
set_option maxHeartbeats 2000000 in
theorem refsign_any (w : World) (S : List Nat) (g : Nat) (l : List Ent) (h : RBk w S g l) (hnd : l.Nodup) (x : Int) (A : Option Addr) (n c : Nat) (t : List UInt8) (hy : By w A n t) (hll : l.length < 1048576) :
    Calls Tryd.prog 68 #[.pointer (some ⟨g, 0, none⟩), .int .i64 x, .slice A n c] w fun e w' => e = .returned (.agg #[.int .i64 x, .int .i64 (mrk (sgn l (x, t)) (x, t))]) ∧
      ∃ S', RBk w' S' g (sgn l (x, t)) ∧ Fr S w w' ∧ ∀ y ∈ S', y < w.heap.size → y ∈ S := by
  have HB := Lib.hid h
  have HY := Lib.hid hy
  have HND := Lib.hid hnd
  have HL := Lib.hid hll
  clear h hy hnd hll
  have hfa : Fr [] w (w.alloc (Obj.cells #[.int .i64 0, .int .i64 0] 52)) := (Fr.refl [] w).alloc _
  have hba : Blk (w.alloc (Obj.cells #[.int .i64 0, .int .i64 0] 52)) w.heap.size 52 #[.int .i64 0, .int .i64 0] := Blk.new _ _ _
  have HB1 := Lib.hid (HB.out.keep hfa (by simp))
  have HY1 := Lib.hid (HY.out.keep hfa (by simp))
  have HG0 := Lib.hid (show ¬ g = w.heap.size by have := HB.out.lt g (by obtain ⟨_, _, rfl, _⟩ := HB.out; simp); omega)
  have HGS := Lib.hid (show ¬ w.heap.size ∈ S from fun hh => by have := HB.out.lt _ hh; omega)
  have HFIN := Lib.hid (show ∀ w', Fr (w.heap.size :: S) (w.alloc (Obj.cells #[.int .i64 0, .int .i64 0] 52)) w' → Fr S w w' from fun w' h => (hfa.mono (T := S) (by simp)).trans h (by intro y hy hl; simp at hy; rcases hy with rfl | hy; exact absurd hl (by omega); exact hy))
  have HSZ := Lib.hid (show w.heap.size < (w.alloc (Obj.cells #[.int .i64 0, .int .i64 0] 52)).heap.size by simp)
  have HBA := Lib.hid hba
  have HSS := Lib.hid (show ∀ y, y < w.heap.size → y < (w.alloc (Obj.cells #[.int .i64 0, .int .i64 0] 52)).heap.size by intro y h; simp; omega)
  obtain ⟨A0, c0, hS, hcb, hcells⟩ := HB1.out.cells
  have HCS := Lib.hid hcells
  have HHS := Lib.hid hS
  have hconv := fun k : Nat => conv_text A n c t ((w.alloc (Obj.cells #[.int .i64 0, .int .i64 0] 52)).drewN k) (HY1.out.drewN k)
  clear hcells hfa hba HB HY hS
  go_enter Tryd.func68, Tryd.ntmps68
  go_wp2
  generalize w.alloc (Obj.cells #[.int .i64 0, .int .i64 0] 52) = wa at *
  generalize hgs : w.heap.size = gs at *
  have HGE := Lib.hid hgs
  clear hgs
  have hs0 := HBA.out.cell 0
  have hs1 := HBA.out.cell 1
  have hz0 := HBA.out.frozen 0
  have hz1 := HBA.out.frozen 1
  simp at hs0 hs1
  go_loopw [13] (fun i wr => ∃ (k q : Nat), k ≤ l.length ∧ i = .int .i64 k ∧ wr = wa.drewN q ∧ Hid (∀ j, j < k → l[j]? ≠ some (x, t))) (fun i _ => l.length - (intOf i).toNat)
  case atStart => exact ⟨0, 0, by omega, rfl, rfl, Lib.hid (by intro j hj; omega)⟩
  case round =>
    obtain ⟨k, q, hk, rfl, rfl, HNO⟩ := hrel
    by_cases hlt : k < l.length
    · have hn1 : (l.length : Int) ≤ 9223372036854775807 := by have := HL.out; omega
      have hge : l[k]? = some l[k] := List.getElem?_eq_getElem hlt
      generalize l[k] = e at *
      obtain ⟨gq, rfl, hca, hcs⟩ := HCS.out k e hge
      obtain ⟨x', t'⟩ := e
      simp only at hca hcs
      have hi0 : (0 : Int) ≤ k := by omega
      by_cases hx : x' = x
      · subst hx
        have hxe : (x' == x') = true := by simp
        by_cases ht : t' = t
        · subst ht
          have hte : (t' == t') = true := by simp
          have HMK := Lib.hid (mrk_at HND.out hge)
          have hk1 : IntKind.i64.wrap ((k : Int) + 1) = (k : Int) + 1 := IntWalk.i64_in _ (by have := HL.out; omega)
          clear hge
          go_wp2
          go_quiet (fail)
          go_wp2
          have hbf := ((HBA.out.drewN (q + nq)).set 0 (.int .i64 x')).set 1 (.int .i64 ((k : Int) + 1))
          have hfr : Fr [gs] wa _ := (((Fr.refl [gs] wa).drewN (q + nq)).setCell ⟨gs, 0, none⟩ (by simp) (.int .i64 x')).setCell ⟨gs, 1, none⟩ (by simp) (.int .i64 ((k : Int) + 1))
          have hbw := HB1.out.keep hfr (fun y hy hm => HGS.out (by simp at hm; rw [← hm]; exact hy))
          have hff := HFIN.out _ ((((Fr.refl (gs :: S) wa).drewN (q + nq)).setCell ⟨gs, 0, none⟩ (by simp) (.int .i64 x')).setCell ⟨gs, 1, none⟩ (by simp) (.int .i64 ((k : Int) + 1)))
          generalize ((wa.drewN (q + nq)).setCell ⟨gs, 0, none⟩ (.int .i64 x')).setCell ⟨gs, 1, none⟩ (.int .i64 ((k : Int) + 1)) = wf at *
          have hf0 := hbf.cell 0
          have hf1 := hbf.cell 1
          simp at hf0 hf1
          have hm1 := HMK.out.1
          have e1 : sgn l (x', t') = l := if_pos hm1
          refine bodyPost_ret (v := .agg #[.int .i64 x', .int .i64 ((k : Int) + 1)]) (by simp [results, Tryd.results68, go_sem, hf0, hf1]) rfl ⟨by rw [e1, HMK.out.2], S, ?_, hff, fun y hy _ => hy⟩
          rw [e1]
          exact hbw
        · have hte : (t' == t) = false := by simp [ht]
          go_wp2
          go_quiet (fail)
          go_wp2
          go_roundw
          case rel =>
            refine ⟨k + 1, q + nq, by omega, by go_num, rfl, Lib.hid fun j hj => ?_⟩
            rcases Nat.lt_or_ge j k with h | h
            · exact HNO.out j h
            · have e : j = k := by omega
              subst e
              rw [hge]
              simp [ht]
          case measure => simp [intOf]; omega
      · have hxe : (x' == x) = false := by simp [hx]
        go_wp2
        go_quiet (fail)
        go_wp2
        go_roundw
        case rel =>
          refine ⟨k + 1, q + nq, by omega, by go_num, rfl, Lib.hid fun j hj => ?_⟩
          rcases Nat.lt_or_ge j k with h | h
          · exact HNO.out j h
          · have e : j = k := by omega
            subst e
            rw [hge]
            simp [hx]
        case measure => simp [intOf]; omega
    · have hkl : k = l.length := by omega
      subst hkl
      have hn1 : (l.length : Int) ≤ 9223372036854775807 := by have := HL.out; omega
      have hnm : ¬ (x, t) ∈ l := by
        intro hm
        obtain ⟨j, hj, he⟩ := List.getElem_of_mem hm
        exact HNO.out j hj (by rw [List.getElem?_eq_getElem hj, he])
      have HNM := Lib.hid hnm
      clear HNO hnm
      obtain ⟨i, hi0, hz0', hz1', hz2'⟩ := info_parts signed_info
      obtain ⟨A0', c0', hS2, hb, ho⟩ := HB1.out
      have hcb2 := hb.cell 0
      simp at hcb2
      rw [hcb] at hcb2
      injection hcb2 with hcb2
      injection hcb2 with hA1 _ hC1
      subst hA1
      subst hC1
      have HSB := Lib.hid hS2
      have HB := Lib.hid hb
      have HO := Lib.hid ho
      have HNG := Lib.hid (own_ne ho hb (by decide))
      have HNS := Lib.hid (show (Value.slice A0 l.length c0).ownBlock ≠ some gs from fun e => HGS.out (by rw [hS2]; rw [bk_mem] at e; simp [e]))
      have hcbw := (hb.keep (((Fr.refl [] wa).drewN (q + 1)).alloc (Obj.cells #[.int .i64 x, .string ⟨t.toArray⟩] 160)) (by simp)).cell 0
      generalize hww : (wa.drewN (q + 1)).alloc (Obj.cells #[.int .i64 x, .string ⟨t.toArray⟩] 160) = ww at hcbw
      simp at hcbw
      rw [← hww] at hcbw
      clear hS2 hb ho hs0 hs1 hz0 hz1 hww
      go_wp2
      go_region_law (first
        | (refine step_append_lies _ rfl (.tmp 48) (.tmp 53) _ rfl 0 160 i (.agg #[.int .i64 0, .string ByteArray.empty]) 2 24 Tryd.underlying46 hi0 hz0' hz1' hz2' rfl (by omega) (.slice A0 l.length c0) l.length (l.flatMap ecells) rfl (own_keep HO.out (((Fr.refl [] wa).drewN (q + 1)).alloc _) (by simp)) ⟨wa.heap.size, 0, none⟩ 1 1 (ecells (x, t)) rfl rfl ?_ ?_ (by omega) (by have := HL.out; simp only [maxLen]; omega) (by have := HL.out; omega) (Nat.zero_le _) _ rfl ?_
           · intro j u hj
             have hbb : Blk ((wa.drewN (q + 1)).alloc (Obj.cells #[.int .i64 x, .string ⟨t.toArray⟩] 160)) wa.heap.size 160 #[.int .i64 x, .string ⟨t.toArray⟩] := Blk.new _ _ _
             have hadd : (⟨wa.heap.size, 0, none⟩ : Addr).add j = ⟨wa.heap.size, j, none⟩ := by unfold Addr.add; split <;> simp_all
             rw [hadd]
             have := hbb.cell j
             rw [this, ← hj]
             simp [ecells]
           · intro u hu
             simp [ecells] at hu
             rcases hu with rfl | rfl <;> rfl
           intro g1 c1 w1 ho1 hgr1 hat1 hlt1
           have hfw : Fr [] wa ((wa.drewN (q + 1)).alloc (Obj.cells #[.int .i64 x, .string ⟨t.toArray⟩] 160)) := ((Fr.refl [] wa).drewN (q + 1)).alloc _
           have hf1 : Fr S wa w1 := (hfw.mono (T := S) (by simp)).grown hgr1 (fun k hk _ => by rw [HSB.out]; rw [bk_mem] at hk; simp [hk])
           have hb1 := (HB.out.keep hfw (by simp)).grown hgr1 HNG.out
           have hs1 := (HBA.out.keep hfw (by simp)).grown hgr1 HNS.out
           have hzg := hb1.frozen 0
           have hcg := hb1.cell 0
           have hne1 : ¬ g = gs := HG0.out
           have hne2 : ¬ gs = g := fun e => HG0.out e.symm
           have hs2 := hs1.keep ((Fr.refl [g] w1).setCell ⟨g, 0, none⟩ (by simp) (.slice (some ⟨g1, 0, none⟩) (l.length + 1) c1)) (by simpa using hne2)
           have hb2 := hb1.set 0 (.slice (some ⟨g1, 0, none⟩) (l.length + 1) c1)
           generalize hw2 : w1.setCell ⟨g, 0, none⟩ (.slice (some ⟨g1, 0, none⟩) (l.length + 1) c1) = w2 at hs2 hb2
           have hc0 := hs2.cell 0
           have hc1 := hs2.cell 1
           have hz0 := hs2.frozen 0
           have hz1 := hs2.frozen 1
           have hc2 := hb2.cell 0
           simp at hcg hc0 hc1 hc2
           rw [← hw2] at hc0 hc1 hz0 hz1 hc2
           clear hs2 hb2 hw2
           have HF1 := Lib.hid hf1
           have HB1' := Lib.hid hb1
           have HS1' := Lib.hid hs1
           have HO1 := Lib.hid ho1
           have HG1 := Lib.hid (show g1 ≠ gs ∧ (g1 < gs → g1 ∈ S) from by
             rcases hat1 with h | h
             · refine ⟨fun e => HNS.out (by rw [h, e]), fun _ => ?_⟩
               rw [HSB.out]
               rw [bk_mem] at h
               simp [h]
             · have := HSZ.out
               simp at h
               exact ⟨by omega, fun hl => by omega⟩)
           clear hf1 hb1 hs1 ho1 hat1 hgr1 hlt1 hfw hcb hcbw))
      all_goals
        have HB2 := Lib.hid (HB1'.out.set 0 (.slice (some ⟨g1, 0, none⟩) (l.length + 1) c1))
        have hf2 : Fr [g] w1 (w1.setCell ⟨g, 0, none⟩ (.slice (some ⟨g1, 0, none⟩) (l.length + 1) c1)) := (Fr.refl _ _).setCell _ (by simp) _
        have HS2 := Lib.hid (HS1'.out.keep hf2 (by simpa using hne2))
        have HF2 := Lib.hid ((HF1.out.setCell ⟨g, 0, none⟩ (fun _ => by rw [HSB.out]; simp) (.slice (some ⟨g1, 0, none⟩) (l.length + 1) c1)))
        have HNE1 := Lib.hid (own_ne HO1.out HB1'.out (by decide))
        have HO2 := Lib.hid (own_keep HO1.out hf2 (fun k hk hm => HNE1.out (by simp at hm; rw [hk, hm])))
        clear hf2 HF1 HB1' HS1' HO1 hcg hzg
        generalize w1.setCell ⟨g, 0, none⟩ (.slice (some ⟨g1, 0, none⟩) (l.length + 1) c1) = w2 at *
        go_wp2
        have hbf := (HS2.out.set 0 (.int .i64 x)).set 1 (.int .i64 ((l.length : Int) + 1))
        have hf3 : Fr [gs] w2 ((w2.setCell ⟨gs, 0, none⟩ (.int .i64 x)).setCell ⟨gs, 1, none⟩ (.int .i64 ((l.length : Int) + 1))) := (((Fr.refl _ _).setCell _ (by simp) _).setCell _ (by simp) _)
        have hff := HFIN.out _ ((HF2.out.mono (T := gs :: S) (fun k hk _ => by simp [hk])).trans hf3 (by simp))
        have hb3 := HB2.out.keep hf3 (by simpa using hne1)
        have ho3 := own_keep HO2.out hf3 (fun k hk hm => HG1.out.1 (by simp at hm; subst hm; simpa [Value.ownBlock] using hk))
        generalize (w2.setCell ⟨gs, 0, none⟩ (.int .i64 x)).setCell ⟨gs, 1, none⟩ (.int .i64 ((l.length : Int) + 1)) = wf at *
        have hf0 := hbf.cell 0
        have hf1 := hbf.cell 1
        simp at hf0 hf1
        have e1 : sgn l (x, t) = l ++ [(x, t)] := if_neg HNM.out
        refine bodyPost_ret (v := .agg #[.int .i64 x, .int .i64 ((l.length : Int) + 1)]) (by simp [results, Tryd.results68, go_sem, hf0, hf1]) rfl ⟨by rw [e1, mrk_new HNM.out]; rfl, [g, g1], ?_, hff, ?_⟩
        · rw [e1]
          refine ⟨some ⟨g1, 0, none⟩, c1, rfl, ?_, ?_⟩
          · simpa using hb3
          · simpa using ho3
        · intro y hy hl
          rw [HGE.out] at hl
          simp at hy
          rcases hy with rfl | rfl
          · rw [HSB.out]; simp
          · exact HG1.out.2 hl
end Go.Proofs.YtjlmackfmmaknaaDoor

namespace Go.Proofs.YtjlmackfmmaknaaDoor
open Go.RowKit
set_option maxRecDepth 100000

set_option maxHeartbeats 2000000 in
theorem refmake_any (c s : Int) (hc : 0 ≤ c ∧ c < 1099511627776) (hs : i64In s) (h : List UInt8) (hh : h.length = 32) (A : Option Addr) (n cap : Nat) (b : List UInt8) (w : World)
    (hb : By w A n b) (hA : ∀ k ∈ bk A, k < w.heap.size) (hn : n ≤ 1000) (Sb : List Nat) (gb : Nat) (l : List Ent) (hbk : RBk w Sb gb l) (hnd : l.Nodup) (hl : l.length < 1048576) :
    Calls Tryd.prog 23 #[.pointer (some ⟨gb, 0, none⟩), .agg #[.int .i64 c, .int .i64 s], .agg (h.map by8).toArray, .slice A n cap] w fun e w' => e = .returned (made c s h b l).val ∧
      ∃ S', RBk w' S' gb (sgn l (1000 + c, (made0 c s h b).text)) ∧ Fr Sb w w' ∧ ∀ y ∈ S', y < w.heap.size → y ∈ Sb := by
  obtain ⟨wa, hwa⟩ : ∃ wa, wa = ((w.alloc (Obj.cells #[.int .i64 c, .int .i64 s] 42)).alloc (Obj.cells (h.map by8).toArray 26)).alloc (Obj.cells zeroCm 54) := ⟨_, rfl⟩
  have hf0 : Fr [] w wa := by rw [hwa]; exact (((Fr.refl [] w).alloc _).alloc _).alloc _
  have hb1 : Blk wa w.heap.size 42 #[.int .i64 c, .int .i64 s] := by rw [hwa]; exact blk_alloc (blk_alloc (Blk.new _ _ _))
  have hb2 : Blk wa (w.heap.size + 1) 26 (h.map by8).toArray := by
    have := blk_alloc (t' := 54) (cs' := zeroCm) (Blk.new (w.alloc (Obj.cells #[.int .i64 c, .int .i64 s] 42)) 26 (h.map by8).toArray)
    rw [hwa]
    simpa using this
  have hb3 : Blk wa (w.heap.size + 2) 54 zeroCm := by
    have := Blk.new ((w.alloc (Obj.cells #[.int .i64 c, .int .i64 s] 42)).alloc (Obj.cells (h.map by8).toArray 26)) 54 zeroCm
    rw [hwa]
    simpa using this
  have HR1 := Lib.hid hb1.range
  have HC1 : Hid (wa.cell? ⟨w.heap.size, 0, none⟩ = some (.int .i64 c)) := Lib.hid (hb1.cell 0)
  have HR2 := Lib.hid hb2.range
  have HB3 := Lib.hid hb3
  have HF0 := Lib.hid hf0
  have HWA := Lib.hid hwa
  have HSB : Hid (∀ k ∈ Sb, k < w.heap.size) := Lib.hid hbk.lt
  have HBK := Lib.hid (hbk.keep hf0 (by simp))
  have HB := Lib.hid (hb.keep hf0 (by simp))
  have HBN := Lib.hid hb.1
  have HA : Hid (∀ k ∈ bk A, k < wa.heap.size) := Lib.hid (fun k hk => by have := hA k hk; have := hf0.size; omega)
  have HND := Lib.hid hnd
  have HH := Lib.hid hh
  have HC := Lib.hid hc
  have HS := Lib.hid hs
  have HL := Lib.hid hl
  clear hb1 hb2 hb3 hf0 hwa hb hA hnd hh hc hs hbk hl
  have hof := fun W (hW : Fr [] wa W) => refof_any c s (by have := HC.out; omega) (by have := HC.out; omega) HS.out.1 HS.out.2 h HH.out A n cap b W (HB.out.keep hW (by simp)) (fun k hk => by have := HA.out k hk; have := hW.size; omega) hn
  have hbuilt := built_commit c s n (sumL (ofL c s h b)) (sumL_len _)
  have hx0 : (Cm.mk c s (sumL (ofL c s h b)) n 0 0) = made0 c s h b := by unfold made0; rw [HBN.out]
  rw [hx0] at hbuilt
  generalize hH : ((sumL (ofL c s h b)).map by8).toArray = H at *
  have hok0 : (made0 c s h b).Ok := ⟨⟨by have := HC.out; show _ ≤ c; omega, by have := HC.out; show c < _; omega⟩, HS.out, sumL_len _, ⟨by show _ ≤ ((b.length : Nat) : Int); omega, by have := HBN.out; show ((b.length : Nat) : Int) < _; omega⟩, ⟨by show _ ≤ (0 : Int); decide, by show (0 : Int) < _; decide⟩, ⟨by show _ ≤ (0 : Int); decide, by show (0 : Int) < _; decide⟩⟩
  have hcl := Cm.len hok0.h
  have hall := Cm.all (made0 c s h b)
  have hval : (made c s h b l).val = .agg (Cm.cells ⟨c, s, (made0 c s h b).h, (made0 c s h b).n, 1000 + c, mrk (sgn l (1000 + c, (made0 c s h b).text)) (1000 + c, (made0 c s h b).text)⟩).toArray := rfl
  have HVAL := Lib.hid hval
  have hx0c : (made0 c s h b).c = c := rfl
  have hx0s : (made0 c s h b).s = s := rfl
  have HX0S := Lib.hid hx0s
  have HX0C := Lib.hid hx0c
  have HOF := Lib.hid hof
  have HBUILT := Lib.hid hbuilt
  have HOK := Lib.hid hok0
  have HCL := Lib.hid hcl
  have HALL := Lib.hid hall
  clear hof hbuilt hx0 hok0 hcl hH hall hval hx0c hx0s
  generalize made0 c s h b = x0 at *
  go_enter Tryd.func23, Tryd.ntmps23
  go_upto_region 1 with (fail)
  change Code.wp _ _ _ _ (((w.alloc (Obj.cells #[.int .i64 c, .int .i64 s] 42)).alloc (Obj.cells (h.map by8).toArray 26)).alloc (Obj.cells zeroCm 54))
  rw [← HWA.out]
  refine wp_region_held_drew (S := Fr [] wa) (by kernel_rfl) (Fr.drew (Fr.refl _ wa)) (fun hHeld => ?_)
  refine row_at (i := 0) rfl (by kernel_rfl) (by rfl) _ _ rfl _ _ rfl _ (fun w1 hw1 => hw1.range (HR1.out) (by first | (simp; done) | exact HNS.out | exact HNW.out | (intro hm; have hlt := HSB.out _ hm; (try dsimp only at hlt); omega))) (row_name) (fun _ _ _ h => h) hHeld ?_
  simp only [Act.put, List.setIfInBounds_toArray, List.set_cons_zero, List.set_cons_succ]
  refine row_at (i := 1) rfl (by kernel_rfl) (by rfl) _ _ rfl _ _ rfl _ (fun w1 hw1 => hw1.range (HR1.out) (by first | (simp; done) | exact HNS.out | exact HNW.out | (intro hm; have hlt := HSB.out _ hm; (try dsimp only at hlt); omega))) (row_name) (fun _ _ _ h => h) hHeld ?_
  simp only [Act.put, List.setIfInBounds_toArray, List.set_cons_zero, List.set_cons_succ]
  refine row_at (i := 2) rfl (by kernel_rfl) (by rfl) _ _ rfl _ _ rfl _ (fun w1 hw1 => hw1.range (HR2.out) (by first | (simp; done) | exact HNS.out | exact HNW.out | (intro hm; have hlt := HSB.out _ hm; (try dsimp only at hlt); omega))) (row_hash.of (by rw [List.length_map]; exact HH.out)) (fun _ _ _ h => h) hHeld ?_
  simp only [Act.put, List.setIfInBounds_toArray, List.set_cons_zero, List.set_cons_succ]
  refine run_at (i := 3) (v := ?_) rfl (by kernel_rfl) (by rfl) (fun _ _ _ h => h) hHeld (fun w1 hw1 => ?_) ?_
  rotate_left 1
  · skip
    go_simp
    (try (first | with_reducible rfl | (apply And.intro <;> rfl)))
  simp only [Act.put, List.setIfInBounds_toArray, List.set_cons_zero, List.set_cons_succ]
  refine run_at (i := 5) (v := ?_) rfl (by kernel_rfl) (by rfl) (fun _ _ _ h => h) hHeld (fun w1 hw1 => ?_) ?_
  rotate_left 1
  · skip
    go_simp
    (try (first | with_reducible rfl | (apply And.intro <;> rfl)))
  simp only [Act.put, List.setIfInBounds_toArray, List.set_cons_zero, List.set_cons_succ]
  refine run_at (i := 6) (v := ?_) rfl (by kernel_rfl) (by rfl) (fun _ _ _ h => h) hHeld (fun w1 hw1 => ?_) ?_
  rotate_left 1
  · skip
    go_simp
    (try (first | with_reducible rfl | (apply And.intro <;> rfl)))
  simp only [Act.put, List.setIfInBounds_toArray, List.set_cons_zero, List.set_cons_succ]
  refine two_at (i := 4) (j := 8) rfl rfl (by kernel_rfl) (by rfl) (by rfl) (fun K hK => ?_) (fun K hK => ?_)
  focus
    refine wp_call (f := ?_) (args := ?_) ?_ ?_
    rotate_left 2
    · go_simp
      (try (first | with_reducible rfl | (apply And.intro <;> rfl)))
    refine (HOF.out _ hHeld).mono ?_
    rintro e w1 ⟨rfl, hf1⟩
    refine ⟨_, rfl, hK.out _ _ (hHeld.and hf1 (by simp)) (fun hHeld => ?_)⟩
    clear hK K
    simp only [Act.put, List.setIfInBounds_toArray, List.set_cons_zero, List.set_cons_succ]
    refine build_at (i := 7) rfl (by kernel_rfl) (by rfl) _ _ rfl _ _ (HBUILT.out) rfl (fun _ _ _ h => h) hHeld ?_
    simp only [Act.put, List.setIfInBounds_toArray, List.set_cons_zero, List.set_cons_succ]
    refine step_at (i := 8) rfl (by kernel_rfl) (by rfl) (fun K hK => ?_)
    refine wp_run (v := ?_) (w' := ?_) ?_ ?_
    rotate_left 2
    · go_simp
      (try (first | with_reducible rfl | (apply And.intro <;> rfl)))
    refine hK.out _ (w1.alloc (Obj.cells zeroCm 54)) (hHeld.alloc _) (fun hHeld => ?_)
    clear hK K
    simp only [Act.put, List.setIfInBounds_toArray, List.set_cons_zero, List.set_cons_succ]
    have HB9 := Lib.hid (Blk.new w1 54 zeroCm)
    have HG9 : Hid (wa.heap.size ≤ w1.heap.size) := Lib.hid (by have := hf1.size; exact this)
    generalize w1.alloc (Obj.cells zeroCm 54) = w2 at *
    generalize w1.heap.size = g9 at *
    clear hf1
  rotate_left
  focus
    refine wp_run (v := ?_) (w' := ?_) ?_ ?_
    rotate_left 2
    · go_simp
      (try (first | with_reducible rfl | (apply And.intro <;> rfl)))
    refine hK.out _ (wa.drew.alloc (Obj.cells zeroCm 54)) (hHeld.alloc _) (fun hHeld => ?_)
    clear hK K
    simp only [Act.put, List.setIfInBounds_toArray, List.set_cons_zero, List.set_cons_succ]
    refine call_at (i := 4) (f := ?_) (args := ?_) rfl (by kernel_rfl) (by rfl) ?_ ?_
    rotate_left 2
    · go_simp
      (try (first | with_reducible rfl | (apply And.intro <;> rfl)))
    refine (HOF.out _ hHeld).mono ?_
    rintro e w2 ⟨rfl, hf1⟩
    have HB9 : Hid (Blk w2 wa.heap.size 54 zeroCm) := Lib.hid ((Blk.new wa.drew 54 zeroCm).keep hf1 (by simp))
    refine ⟨_, rfl, hHeld.and hf1 (by simp), fun hHeld => ?_⟩
    clear hf1
    simp only [Act.put, List.setIfInBounds_toArray, List.set_cons_zero, List.set_cons_succ]
    refine build_at (i := 7) rfl (by kernel_rfl) (by rfl) _ _ rfl _ _ (HBUILT.out) rfl (fun _ _ _ h => h) hHeld ?_
    simp only [Act.put, List.setIfInBounds_toArray, List.set_cons_zero, List.set_cons_succ]
    obtain ⟨g9, hg9⟩ : ∃ g9, g9 = wa.heap.size := ⟨_, rfl⟩
    have HG9 : Hid (wa.heap.size ≤ g9) := Lib.hid (by rw [hg9]; exact Nat.le_refl _)
    rw [← hg9] at HB9 ⊢
    clear hg9
  all_goals
    refine step_at (i := 9) rfl (by kernel_rfl) (by rfl) (fun K hK => ?_)
    refine wp_store_blk 54 _ _ rfl g9 x0.cells.toArray rfl rfl 54 zeroCm HB9.out (by rw [List.size_toArray, HCL.out]; kernel_rfl) ((show zeroCm.size = 37 from rfl).trans (by rw [List.size_toArray, HCL.out])) HALL.out ?_
    intro w3 hb3 hf3
    refine hK.out _ _ (hHeld.go hf3 (by have := HG9.out; simpa using this)) (fun hHeld => ?_)
    clear hK K
    simp only [Act.put, List.setIfInBounds_toArray, List.set_cons_zero, List.set_cons_succ]
    refine wpAnyH_done (by kernel_rfl) ?_ _
    have HX9 := Lib.hid hb3
    have HF3 := Lib.hid hHeld
    clear hb3 hf3 HB9
    have hat := Cm.at_blk HX9.out HOK.out.h
    have HAT := Lib.hid hat
    have hwr : IntKind.i64.wrap (1000 + c) = 1000 + c := IntWalk.i64_in _ (by have := HC.out; omega)
    have HNS : Hid (¬ g9 ∈ Sb) := Lib.hid (fun hm => by have := HSB.out _ hm; have := HG9.out; have := HF0.out.size; omega)
    have HNW : Hid (¬ w.heap.size ∈ g9 :: Sb) := Lib.hid (fun hm => by
      have h1 := HB3.out.lt
      have h2 := HG9.out
      rcases List.mem_cons.1 hm with hm | hm
      · omega
      · have := HSB.out _ hm; omega)
    have HT := Lib.hid (fun W => reftext_any x0 HOK.out W)
    have HTL := Lib.hid (x0.text_len HOK.out)
    clear hat
    unfold Cm.val at HT
    go_upto_region 2 with (fail)
    refine wp_region_held_drew (S := Fr (g9 :: Sb) w3) (by kernel_rfl) (Fr.drew (Fr.refl _ w3)) (fun hHeld => ?_)
    refine run_at (i := 0) (v := ?_) rfl (by kernel_rfl) (by rfl) (fun _ _ _ h => h) hHeld (fun w1 hw1 => ?_) ?_
    rotate_left 1
    · skip
      go_simp
      (try (first | with_reducible rfl | (apply And.intro <;> rfl)))
    simp only [Act.put, List.setIfInBounds_toArray, List.set_cons_zero, List.set_cons_succ]
    refine run_at (i := 1) (v := ?_) rfl (by kernel_rfl) (by rfl) (fun _ _ _ h => h) hHeld (fun w1 hw1 => ?_) ?_
    rotate_left 1
    · skip
      go_simp
      (try (first | with_reducible rfl | (apply And.intro <;> rfl)))
    simp only [Act.put, List.setIfInBounds_toArray, List.set_cons_zero, List.set_cons_succ]
    refine run_at (i := 2) (v := ?_) rfl (by kernel_rfl) (by rfl) (fun _ _ _ h => h) hHeld (fun w1 hw1 => ?_) ?_
    rotate_left 1
    · skip
      have hcw0 := hw1.cell (HF3.out.cell HC1.out (by simp)) (by first | (simp; done) | exact HNS.out | exact HNW.out | (intro hm; have hlt := HSB.out _ hm; (try dsimp only at hlt); omega))
      go_simp
      (try (first | with_reducible rfl | (apply And.intro <;> rfl)))
    simp only [Act.put, List.setIfInBounds_toArray, List.set_cons_zero, List.set_cons_succ]
    refine run_at (i := 3) (v := ?_) rfl (by kernel_rfl) (by rfl) (fun _ _ _ h => h) hHeld (fun w1 hw1 => ?_) ?_
    rotate_left 1
    · skip
      go_simp
      (try (first | with_reducible rfl | (apply And.intro <;> rfl)))
    simp only [Act.put, List.setIfInBounds_toArray, List.set_cons_zero, List.set_cons_succ]
    refine step_at (i := 4) rfl (by kernel_rfl) (by rfl) (fun K hK => ?_)
    refine wp_row _ _ rfl _ _ rfl _ (HAT.out.all) (row_commit.of HCL.out) ?_
    refine hK.out _ _ hHeld (fun hHeld => ?_)
    clear hK K
    simp only [Act.put, List.setIfInBounds_toArray, List.set_cons_zero, List.set_cons_succ]
    refine call_at (i := 5) (f := ?_) (args := ?_) rfl (by kernel_rfl) (by rfl) ?_ ?_
    rotate_left 2
    · go_simp
      (try (first | with_reducible rfl | (apply And.intro <;> rfl)))
    have h := HT.out w3.drew
    have hsg := fun W (hW : Fr [] w3 W) A' n' c' (t : List UInt8) (hy : By W A' n' t) => refsign_any W Sb gb l ((HBK.out.keep HF3.out (by simp)).keep hW (by simp)) HND.out (1000 + c) A' n' c' t hy HL.out
    have HSG := Lib.hid hsg
    clear hsg
    generalize hXT : x0.text = X at *
    have HXT := Lib.hid hXT
    clear hXT
    refine h.mono ?_
    rintro e w4 ⟨A4, c4, rfl, hn4⟩
    have HF4 : Hid (Fr [] w3 w4) := Lib.hid ((Fr.drew (Fr.refl [] w3)).and hn4.2.1 (by simp))
    refine ⟨_, rfl, HF4.out.mono (by simp), fun hHeld => ?_⟩
    have HN4 := Lib.hid hn4
    clear hn4 h
    simp only [Act.put, List.setIfInBounds_toArray, List.set_cons_zero, List.set_cons_succ]
    refine call_at (i := 6) (f := ?_) (args := ?_) rfl (by kernel_rfl) (by rfl) ?_ ?_
    rotate_left 2
    · go_simp
      (try (first | with_reducible rfl | (apply And.intro <;> rfl)))
    refine (HSG.out w4 HF4.out A4 _ c4 X HN4.out.by).mono ?_
    generalize mrk (sgn l (1000 + c, X)) (1000 + c, X) = mk at *
    rintro e w5 ⟨rfl, S', hb5, hf5, hs5⟩
    refine ⟨_, rfl, hHeld.trans hf5 (fun x hx _ => List.mem_cons_of_mem _ hx), fun hHeld => ?_⟩
    have HB5 := Lib.hid hb5
    have HLT4 : Hid (g9 < w4.heap.size ∧ w.heap.size + 2 < w4.heap.size) := Lib.hid ⟨by have := HX9.out.lt; have := HF4.out.size; omega, by have := HB3.out.lt; have := HF3.out.size; have := HF4.out.size; omega⟩
    have HS5 := Lib.hid hs5
    have HSW : Hid (w.heap.size ≤ w4.heap.size) := Lib.hid (by have := HF0.out.size; have := HF3.out.size; have := HF4.out.size; omega)
    clear hs5
    have HF5 := Lib.hid (HF4.out.mono (T := Sb) (by simp) |>.trans hf5 (fun x hx _ => hx))
    have HX5 := Lib.hid ((HX9.out.keep HF4.out (by simp)).keep hf5 HNS.out)
    clear hb5 hf5 HN4
    simp only [Act.put, List.setIfInBounds_toArray, List.set_cons_zero, List.set_cons_succ]
    refine run_at (i := 7) (v := ?_) rfl (by kernel_rfl) (by rfl) (fun _ _ _ h => h) hHeld (fun w1 hw1 => ?_) ?_
    rotate_left 1
    · skip
      go_simp
      (try (first | with_reducible rfl | (apply And.intro <;> rfl)))
    simp only [Act.put, List.setIfInBounds_toArray, List.set_cons_zero, List.set_cons_succ]
    refine step_at (i := 8) rfl (by kernel_rfl) (by rfl) (fun K hK => ?_)
    refine wp_store_mid 52 _ _ rfl g9 35 #[.int .i64 (1000 + c), .int .i64 mk] rfl rfl (HX5.out.there 35 2 (by rw [List.size_toArray, HCL.out]; omega)) (by kernel_rfl) (by kernel_rfl) ?_
    have hb6 := (HX5.out.set 35 (.int .i64 (1000 + c))).set 36 (.int .i64 mk)
    rw [show x0.cells.toArray = (Cm.cells ⟨c, s, x0.h, x0.n, x0.b, x0.m⟩).toArray by rw [← HX0C.out, ← HX0S.out], cells_sig _ _ _ _ _ _ _ _ HOK.out.h] at hb6
    have hf6 : Fr [g9] w5 ((w5.setCell ⟨g9, 35, none⟩ (.int .i64 (1000 + c))).setCell ⟨g9, 36, none⟩ (.int .i64 mk)) := ((Fr.refl [g9] w5).setCell _ (fun _ => by simp) _).setCell _ (fun _ => by simp) _
    change K _ ((w5.setCell ⟨g9, 35, none⟩ (.int .i64 (1000 + c))).setCell ⟨g9, 36, none⟩ (.int .i64 mk))
    generalize (w5.setCell ⟨g9, 35, none⟩ (.int .i64 (1000 + c))).setCell ⟨g9, 36, none⟩ (.int .i64 mk) = w6 at *
    refine hK.out _ _ (hHeld.trans hf6 (fun x hx _ => by simp at hx; simp [hx])) (fun hHeld => ?_)
    clear hK K
    simp only [Act.put, List.setIfInBounds_toArray, List.set_cons_zero, List.set_cons_succ]
    refine wpAnyH_done (by kernel_rfl) ?_ _
    have HB6 := Lib.hid hb6
    have HBK6 := Lib.hid (HB5.out.keep hf6 (fun x hx he => HNS.out (by simp at he; rw [← he]; exact HS5.out x hx (by rw [he]; exact HLT4.out.1))))
    have HF6 : Hid (Fr Sb w w6) := Lib.hid (((HF0.out.and HF3.out (by simp)).mono (T := Sb) (by simp) |>.trans HF5.out (fun x hx _ => hx)).trans hf6 (fun x hx hl => by simp at hx; subst hx; have := HG9.out; have := HF0.out.size; omega))
    have HF63 := Lib.hid hf6
    have HALL6 := Lib.hid (Cm.all ⟨c, s, x0.h, x0.n, 1000 + c, mk⟩)
    have HCL6 := Lib.hid (Cm.len (x := ⟨c, s, x0.h, x0.n, 1000 + c, mk⟩) HOK.out.h)
    clear hb6 hf6
    generalize hD : (Cm.cells ⟨c, s, x0.h, x0.n, 1000 + c, mk⟩).toArray = D at *
    have HB3b := Lib.hid (((HB3.out.keep HF3.out (by simp)).keep HF5.out (fun hm => by have := HSB.out _ hm; omega)))
    have HB3c := Lib.hid (HB3b.out.keep HF63.out (by have := HG9.out; have := HB3.out.lt; simp; omega))
    have hsz : D.size = 37 := by rw [← hD, List.size_toArray]; exact HCL6.out
    have HSZ := Lib.hid hsz
    have HVAL2 := Lib.hid hD
    clear hsz hD
    go_wp2_with (first
      | (refine wpList_load_row rfl 54 _ rfl g9 rfl 54 D _ _ HB6.out Tryd.underlying54 rfl (by rw [HSZ.out]; kernel_rfl) ?_)
      | (refine wpList_store_row rfl 54 _ _ rfl (w.heap.size + 2) D rfl rfl 54 zeroCm HB3c.out (by rw [HSZ.out]; kernel_rfl) (by rw [HSZ.out]; rfl) HALL6.out ?_))
    have hgr := setRow_blk HB3c.out D
    have hfr := setRow_fr w6 (w.heap.size + 2) D
    refine bodyPost_ret (v := .agg D) (results_cell_row Tryd.results23 _ _ (w.heap.size + 2) 54 D _ _ rfl hgr Tryd.underlying54 rfl (by rw [HSZ.out]; kernel_rfl)) rfl ⟨?_, S', ?_, ?_, fun y hy hl => HS5.out y hy (by have := HSW.out; omega)⟩
    · rw [HVAL.out]
    · rw [HXT.out]
      exact HBK6.out.keep hfr (fun x hx hm => by simp at hm; subst hm; have := HSB.out _ (HS5.out _ hx HLT4.out.2); omega)
    · exact HF6.out.trans hfr (fun x hx hl => by simp at hx; omega)
end Go.Proofs.YtjlmackfmmaknaaDoor

namespace Go.Proofs.YtjlmackfmmaknaaDoor
open Go.RowKit
set_option maxRecDepth 100000

set_option maxHeartbeats 1000000 in
theorem refright_c (f k : Int) (hk : k ≤ 1000) (x : Cm) (hx : x.Ok) (w : World) (Sb : List Nat) (gb : Nat) (l : List Ent) (hb : RBk w Sb gb l) (hnd : l.Nodup) :
    Calls Tryd.prog 25 #[.agg #[.int .i64 f, .int .i64 k], .pointer (some ⟨gb, 0, none⟩), x.val] w fun e w' => e = .returned (.bool (rightC k l x)) ∧ Fr [] w w' := by
  obtain ⟨wa, hwa⟩ : ∃ wa, wa = (w.alloc (Obj.cells #[.int .i64 f, .int .i64 k] 50)).alloc (Obj.cells x.cells.toArray 54) := ⟨_, rfl⟩
  have hf0 : Fr [] w wa := by rw [hwa]; exact ((Fr.refl [] w).alloc _).alloc _
  have hb0 : Blk wa (w.heap.size + 1) 54 x.cells.toArray := by
    have := Blk.new (w.alloc (Obj.cells #[.int .i64 f, .int .i64 k] 50)) 54 x.cells.toArray
    rw [hwa]; simpa using this
  have hb1 : Blk wa w.heap.size 50 #[.int .i64 f, .int .i64 k] := by rw [hwa]; exact blk_alloc (Blk.new _ _ _)
  have HAT := Lib.hid (Cm.at_blk hb0 hx.h)
  have HCF := Lib.hid hb1.range
  have HF0 := Lib.hid hf0
  have HWA := Lib.hid hwa
  have HX := Lib.hid hx
  have HBK := Lib.hid (hb.keep hf0 (by simp))
  have HND := Lib.hid hnd
  have HKB := Lib.hid hk
  clear hwa hf0 hb0 hb1 hx hb hnd hk
  have HV := Lib.hid (fun w => refvalid_any f k x HX.out.h w)
  have HT := Lib.hid (fun w => reftext_any x HX.out w)
  have HTL := Lib.hid (x.text_len HX.out)
  have HCL := Lib.hid (Cm.len HX.out.h)
  obtain ⟨r, hr, hr2⟩ : ∃ r, r = rightC k l x ∧ rightC k l x = (validB k x && (signB x.b x.c && rightB l x.b x.m x.text)) := ⟨_, rfl, rfl⟩
  rw [← hr] at hr2 ⊢
  clear hr
  unfold Cm.val at *
  go_enter Tryd.func25, Tryd.ntmps25
  go_upto_region 1 with (fail)
  rw [← HWA.out]
  refine wp_region_held_drew (S := Fr [] wa) (by kernel_rfl) (Fr.drew (Fr.refl _ wa)) (fun hHeld => ?_)
  refine row_at (i := 0) rfl (by kernel_rfl) (by rfl) _ _ rfl _ _ rfl _ (fun w1 hw1 => hw1.range (HCF.out) (by first | (simp; done) | exact HNS.out | exact HNW.out | (intro hm; have hlt := HSB.out _ hm; (try dsimp only at hlt); omega))) (row_conf) (fun _ _ _ h => h) hHeld ?_
  simp only [Act.put, List.setIfInBounds_toArray, List.set_cons_zero, List.set_cons_succ]
  refine row_at (i := 1) rfl (by kernel_rfl) (by rfl) _ _ rfl _ _ rfl _ (fun w1 hw1 => hw1.range (HAT.out.all) (by first | (simp; done) | exact HNS.out | exact HNW.out | (intro hm; have hlt := HSB.out _ hm; (try dsimp only at hlt); omega))) (row_commit.of HCL.out) (fun _ _ _ h => h) hHeld ?_
  simp only [Act.put, List.setIfInBounds_toArray, List.set_cons_zero, List.set_cons_succ]
  refine call_at (i := 2) (f := ?_) (args := ?_) rfl (by kernel_rfl) (by rfl) ?_ ?_
  rotate_left 2
  · go_simp
    (try (first | with_reducible rfl | (apply And.intro <;> rfl)))
  cases hv : validB k x
  case false =>
    have HR : Hid (r = false) := Lib.hid (by rw [hr2, hv]; rfl)
    have h := HV.out wa.drew
    rw [hv] at h
    clear hr2 hv
    refine h.mono ?_
    rintro e w1 ⟨rfl, hf1⟩
    refine ⟨_, rfl, hHeld.and hf1 (by simp), fun hHeld => ?_⟩
    simp only [Act.put, List.setIfInBounds_toArray, List.set_cons_zero, List.set_cons_succ]
    refine run_at (i := 3) (v := ?_) rfl (by kernel_rfl) (by rfl) (fun _ _ _ h => h) hHeld (fun w1 hw1 => ?_) ?_
    rotate_left 1
    · skip
      go_simp
      (try (first | with_reducible rfl | (apply And.intro <;> rfl)))
    simp only [Act.put, List.setIfInBounds_toArray, List.set_cons_zero, List.set_cons_succ]
    refine skip_at (i := 4) rfl (by kernel_rfl) (fun _ _ _ h => h) (by rfl) hHeld ?_
    simp only [Act.put, List.setIfInBounds_toArray, List.set_cons_zero, List.set_cons_succ]
    refine skip_at (i := 5) rfl (by kernel_rfl) (fun _ _ _ h => h) (by rfl) hHeld ?_
    simp only [Act.put, List.setIfInBounds_toArray, List.set_cons_zero, List.set_cons_succ]
    refine skip_at (i := 6) rfl (by kernel_rfl) (fun _ _ _ h => h) (by rfl) hHeld ?_
    simp only [Act.put, List.setIfInBounds_toArray, List.set_cons_zero, List.set_cons_succ]
    refine skip_at (i := 7) rfl (by kernel_rfl) (fun _ _ _ h => h) (by rfl) hHeld ?_
    simp only [Act.put, List.setIfInBounds_toArray, List.set_cons_zero, List.set_cons_succ]
    refine skip_at (i := 8) rfl (by kernel_rfl) (fun _ _ _ h => h) (by rfl) hHeld ?_
    simp only [Act.put, List.setIfInBounds_toArray, List.set_cons_zero, List.set_cons_succ]
    refine skip_at (i := 9) rfl (by kernel_rfl) (fun _ _ _ h => h) (by rfl) hHeld ?_
    simp only [Act.put, List.setIfInBounds_toArray, List.set_cons_zero, List.set_cons_succ]
    refine skip_at (i := 10) rfl (by kernel_rfl) (fun _ _ _ h => h) (by rfl) hHeld ?_
    simp only [Act.put, List.setIfInBounds_toArray, List.set_cons_zero, List.set_cons_succ]
    refine skip_at (i := 11) rfl (by kernel_rfl) (fun _ _ _ h => h) (by rfl) hHeld ?_
    simp only [Act.put, List.setIfInBounds_toArray, List.set_cons_zero, List.set_cons_succ]
    refine run_at (i := 12) (v := ?_) rfl (by kernel_rfl) (by rfl) (fun _ _ _ h => h) hHeld (fun w1 hw1 => ?_) ?_
    rotate_left 1
    · skip
      go_simp
      (try (first | with_reducible rfl | (apply And.intro <;> rfl)))
    simp only [Act.put, List.setIfInBounds_toArray, List.set_cons_zero, List.set_cons_succ]
    refine run_at (i := 13) (v := ?_) rfl (by kernel_rfl) (by rfl) (fun _ _ _ h => h) hHeld (fun w1 hw1 => ?_) ?_
    rotate_left 1
    · skip
      go_simp
      (try (first | with_reducible rfl | (apply And.intro <;> rfl)))
    simp only [Act.put, List.setIfInBounds_toArray, List.set_cons_zero, List.set_cons_succ]
    refine skip_at (i := 14) rfl (by kernel_rfl) (fun _ _ _ h => h) (by rfl) hHeld ?_
    simp only [Act.put, List.setIfInBounds_toArray, List.set_cons_zero, List.set_cons_succ]
    refine skip_at (i := 15) rfl (by kernel_rfl) (fun _ _ _ h => h) (by rfl) hHeld ?_
    simp only [Act.put, List.setIfInBounds_toArray, List.set_cons_zero, List.set_cons_succ]
    refine skip_at (i := 16) rfl (by kernel_rfl) (fun _ _ _ h => h) (by rfl) hHeld ?_
    simp only [Act.put, List.setIfInBounds_toArray, List.set_cons_zero, List.set_cons_succ]
    refine skip_at (i := 17) rfl (by kernel_rfl) (fun _ _ _ h => h) (by rfl) hHeld ?_
    simp only [Act.put, List.setIfInBounds_toArray, List.set_cons_zero, List.set_cons_succ]
    refine skip_at (i := 18) rfl (by kernel_rfl) (fun _ _ _ h => h) (by rfl) hHeld ?_
    simp only [Act.put, List.setIfInBounds_toArray, List.set_cons_zero, List.set_cons_succ]
    refine skip_at (i := 19) rfl (by kernel_rfl) (fun _ _ _ h => h) (by rfl) hHeld ?_
    simp only [Act.put, List.setIfInBounds_toArray, List.set_cons_zero, List.set_cons_succ]
    refine run_at (i := 20) (v := ?_) rfl (by kernel_rfl) (by rfl) (fun _ _ _ h => h) hHeld (fun w1 hw1 => ?_) ?_
    rotate_left 1
    · skip
      go_simp
      (try (first | with_reducible rfl | (apply And.intro <;> rfl)))
    simp only [Act.put, List.setIfInBounds_toArray, List.set_cons_zero, List.set_cons_succ]
    refine run_at (i := 21) (v := ?_) rfl (by kernel_rfl) (by rfl) (fun _ _ _ h => h) hHeld (fun w1 hw1 => ?_) ?_
    rotate_left 1
    · skip
      go_simp
      (try (first | with_reducible rfl | (apply And.intro <;> rfl)))
    simp only [Act.put, List.setIfInBounds_toArray, List.set_cons_zero, List.set_cons_succ]
    refine wpAnyH_done (by kernel_rfl) ?_ _
    go_wp2
    go_ret
    exact ⟨by rw [HR.out]; rfl, HF0.out.and hHeld (by simp)⟩
  have h := HV.out wa.drew
  rw [hv] at h
  have hcb : 0 ≤ x.c ∧ x.c < k := by
    simp only [validB, decide_eq_true_eq] at hv
    omega
  refine h.mono ?_
  rintro e w1 ⟨rfl, hf1⟩
  refine ⟨_, rfl, hHeld.and hf1 (by simp), fun hHeld => ?_⟩
  clear hf1 h
  simp only [Act.put, List.setIfInBounds_toArray, List.set_cons_zero, List.set_cons_succ]
  have hcc := hcb.1
  have hck : x.c < 1000 := by have := HKB.out; omega
  refine run_at (i := 3) (v := ?_) rfl (by kernel_rfl) (by rfl) (fun _ _ _ h => h) hHeld (fun w1 hw1 => ?_) ?_
  rotate_left 1
  · skip
    go_simp
    (try (first | with_reducible rfl | (apply And.intro <;> rfl)))
  simp only [Act.put, List.setIfInBounds_toArray, List.set_cons_zero, List.set_cons_succ]
  refine run_at (i := 4) (v := ?_) rfl (by kernel_rfl) (by rfl) (fun _ _ _ h => h) hHeld (fun w1 hw1 => ?_) ?_
  rotate_left 1
  · skip
    go_simp
    (try (first | with_reducible rfl | (apply And.intro <;> rfl)))
  simp only [Act.put, List.setIfInBounds_toArray, List.set_cons_zero, List.set_cons_succ]
  refine run_at (i := 5) (v := ?_) rfl (by kernel_rfl) (by rfl) (fun _ _ _ h => h) hHeld (fun w1 hw1 => ?_) ?_
  rotate_left 1
  · skip
    go_simp
    (try (first | with_reducible rfl | (apply And.intro <;> rfl)))
  simp only [Act.put, List.setIfInBounds_toArray, List.set_cons_zero, List.set_cons_succ]
  refine run_at (i := 6) (v := ?_) rfl (by kernel_rfl) (by rfl) (fun _ _ _ h => h) hHeld (fun w1 hw1 => ?_) ?_
  rotate_left 1
  · skip
    have hcw0 := hw1.cell (HAT.out.b) (by first | (simp; done) | exact HNS.out | exact HNW.out | (intro hm; have hlt := HSB.out _ hm; (try dsimp only at hlt); omega))
    go_simp
    (try (first | with_reducible rfl | (apply And.intro <;> rfl)))
  simp only [Act.put, List.setIfInBounds_toArray, List.set_cons_zero, List.set_cons_succ]
  refine run_at (i := 7) (v := ?_) rfl (by kernel_rfl) (by rfl) (fun _ _ _ h => h) hHeld (fun w1 hw1 => ?_) ?_
  rotate_left 1
  · skip
    go_simp
    (try (first | with_reducible rfl | (apply And.intro <;> rfl)))
  simp only [Act.put, List.setIfInBounds_toArray, List.set_cons_zero, List.set_cons_succ]
  refine run_at (i := 8) (v := ?_) rfl (by kernel_rfl) (by rfl) (fun _ _ _ h => h) hHeld (fun w1 hw1 => ?_) ?_
  rotate_left 1
  · skip
    go_simp
    (try (first | with_reducible rfl | (apply And.intro <;> rfl)))
  simp only [Act.put, List.setIfInBounds_toArray, List.set_cons_zero, List.set_cons_succ]
  refine run_at (i := 9) (v := ?_) rfl (by kernel_rfl) (by rfl) (fun _ _ _ h => h) hHeld (fun w1 hw1 => ?_) ?_
  rotate_left 1
  · skip
    have hcw0 := hw1.cell (HAT.out.c) (by first | (simp; done) | exact HNS.out | exact HNW.out | (intro hm; have hlt := HSB.out _ hm; (try dsimp only at hlt); omega))
    go_simp
    (try (first | with_reducible rfl | (apply And.intro <;> rfl)))
  simp only [Act.put, List.setIfInBounds_toArray, List.set_cons_zero, List.set_cons_succ]
  have hwr : IntKind.i64.wrap (1000 + x.c) = 1000 + x.c := IntWalk.i64_in _ (by omega)
  refine run_at (i := 10) (v := ?_) rfl (by kernel_rfl) (by rfl) (fun _ _ _ h => h) hHeld (fun w1 hw1 => ?_) ?_
  rotate_left 1
  · skip
    go_simp
    (try (first | with_reducible rfl | (apply And.intro <;> rfl)))
  simp only [Act.put, List.setIfInBounds_toArray, List.set_cons_zero, List.set_cons_succ]
  (try rw [hwr])
  cases hs : signB x.b x.c
  case false =>
    have HR : Hid (r = false) := Lib.hid (by rw [hr2, hv, hs]; rfl)
    have hne : (x.b == 1000 + x.c) = false := by
      simp only [signB, decide_eq_false_iff_not] at hs
      simp
      omega
    clear hr2 hv hs
    refine run_at (i := 11) (v := ?_) rfl (by kernel_rfl) (by rfl) (fun _ _ _ h => h) hHeld (fun w1 hw1 => ?_) ?_
    rotate_left 1
    · skip
      go_simp
      (try (first | with_reducible rfl | (apply And.intro <;> rfl)))
    simp only [Act.put, List.setIfInBounds_toArray, List.set_cons_zero, List.set_cons_succ]
    refine run_at (i := 12) (v := ?_) rfl (by kernel_rfl) (by rfl) (fun _ _ _ h => h) hHeld (fun w1 hw1 => ?_) ?_
    rotate_left 1
    · skip
      go_simp
      (try (first | with_reducible rfl | (apply And.intro <;> rfl)))
    simp only [Act.put, List.setIfInBounds_toArray, List.set_cons_zero, List.set_cons_succ]
    refine run_at (i := 13) (v := ?_) rfl (by kernel_rfl) (by rfl) (fun _ _ _ h => h) hHeld (fun w1 hw1 => ?_) ?_
    rotate_left 1
    · skip
      go_simp
      (try (first | with_reducible rfl | (apply And.intro <;> rfl)))
    simp only [Act.put, List.setIfInBounds_toArray, List.set_cons_zero, List.set_cons_succ]
    refine skip_at (i := 14) rfl (by kernel_rfl) (fun _ _ _ h => h) (by rfl) hHeld ?_
    simp only [Act.put, List.setIfInBounds_toArray, List.set_cons_zero, List.set_cons_succ]
    refine skip_at (i := 15) rfl (by kernel_rfl) (fun _ _ _ h => h) (by rfl) hHeld ?_
    simp only [Act.put, List.setIfInBounds_toArray, List.set_cons_zero, List.set_cons_succ]
    refine skip_at (i := 16) rfl (by kernel_rfl) (fun _ _ _ h => h) (by rfl) hHeld ?_
    simp only [Act.put, List.setIfInBounds_toArray, List.set_cons_zero, List.set_cons_succ]
    refine skip_at (i := 17) rfl (by kernel_rfl) (fun _ _ _ h => h) (by rfl) hHeld ?_
    simp only [Act.put, List.setIfInBounds_toArray, List.set_cons_zero, List.set_cons_succ]
    refine skip_at (i := 18) rfl (by kernel_rfl) (fun _ _ _ h => h) (by rfl) hHeld ?_
    simp only [Act.put, List.setIfInBounds_toArray, List.set_cons_zero, List.set_cons_succ]
    refine skip_at (i := 19) rfl (by kernel_rfl) (fun _ _ _ h => h) (by rfl) hHeld ?_
    simp only [Act.put, List.setIfInBounds_toArray, List.set_cons_zero, List.set_cons_succ]
    refine run_at (i := 20) (v := ?_) rfl (by kernel_rfl) (by rfl) (fun _ _ _ h => h) hHeld (fun w1 hw1 => ?_) ?_
    rotate_left 1
    · skip
      go_simp
      (try (first | with_reducible rfl | (apply And.intro <;> rfl)))
    simp only [Act.put, List.setIfInBounds_toArray, List.set_cons_zero, List.set_cons_succ]
    refine run_at (i := 21) (v := ?_) rfl (by kernel_rfl) (by rfl) (fun _ _ _ h => h) hHeld (fun w1 hw1 => ?_) ?_
    rotate_left 1
    · skip
      go_simp
      (try (first | with_reducible rfl | (apply And.intro <;> rfl)))
    simp only [Act.put, List.setIfInBounds_toArray, List.set_cons_zero, List.set_cons_succ]
    refine wpAnyH_done (by kernel_rfl) ?_ _
    go_wp2
    go_ret
    exact ⟨by rw [HR.out]; rfl, HF0.out.and hHeld (by simp)⟩
  have heq : (x.b == 1000 + x.c) = true := by
    simp only [signB, decide_eq_true_eq] at hs
    simp
    omega
  have HR : Hid (r = rightB l x.b x.m x.text) := Lib.hid (by rw [hr2, hv, hs]; rfl)
  clear hr2 hv hs
  refine run_at (i := 11) (v := ?_) rfl (by kernel_rfl) (by rfl) (fun _ _ _ h => h) hHeld (fun w1 hw1 => ?_) ?_
  rotate_left 1
  · skip
    go_simp
    (try (first | with_reducible rfl | (apply And.intro <;> rfl)))
  simp only [Act.put, List.setIfInBounds_toArray, List.set_cons_zero, List.set_cons_succ]
  refine run_at (i := 12) (v := ?_) rfl (by kernel_rfl) (by rfl) (fun _ _ _ h => h) hHeld (fun w1 hw1 => ?_) ?_
  rotate_left 1
  · skip
    go_simp
    (try (first | with_reducible rfl | (apply And.intro <;> rfl)))
  simp only [Act.put, List.setIfInBounds_toArray, List.set_cons_zero, List.set_cons_succ]
  refine run_at (i := 13) (v := ?_) rfl (by kernel_rfl) (by rfl) (fun _ _ _ h => h) hHeld (fun w1 hw1 => ?_) ?_
  rotate_left 1
  · skip
    go_simp
    (try (first | with_reducible rfl | (apply And.intro <;> rfl)))
  simp only [Act.put, List.setIfInBounds_toArray, List.set_cons_zero, List.set_cons_succ]
  refine run_at (i := 14) (v := ?_) rfl (by kernel_rfl) (by rfl) (fun _ _ _ h => h) hHeld (fun w1 hw1 => ?_) ?_
  rotate_left 1
  · skip
    go_simp
    (try (first | with_reducible rfl | (apply And.intro <;> rfl)))
  simp only [Act.put, List.setIfInBounds_toArray, List.set_cons_zero, List.set_cons_succ]
  refine run_at (i := 15) (v := ?_) rfl (by kernel_rfl) (by rfl) (fun _ _ _ h => h) hHeld (fun w1 hw1 => ?_) ?_
  rotate_left 1
  · skip
    go_simp
    (try (first | with_reducible rfl | (apply And.intro <;> rfl)))
  simp only [Act.put, List.setIfInBounds_toArray, List.set_cons_zero, List.set_cons_succ]
  refine row_at (i := 16) rfl (by kernel_rfl) (by rfl) _ _ rfl _ _ rfl _ (fun w1 hw1 => hw1.range (HAT.out.sig) (by first | (simp; done) | exact HNS.out | exact HNW.out | (intro hm; have hlt := HSB.out _ hm; (try dsimp only at hlt); omega))) (row_sig) (fun _ _ _ h => h) hHeld ?_
  simp only [Act.put, List.setIfInBounds_toArray, List.set_cons_zero, List.set_cons_succ]
  refine row_at (i := 17) rfl (by kernel_rfl) (by rfl) _ _ rfl _ _ rfl _ (fun w1 hw1 => hw1.range (HAT.out.all) (by first | (simp; done) | exact HNS.out | exact HNW.out | (intro hm; have hlt := HSB.out _ hm; (try dsimp only at hlt); omega))) (row_commit.of HCL.out) (fun _ _ _ h => h) hHeld ?_
  simp only [Act.put, List.setIfInBounds_toArray, List.set_cons_zero, List.set_cons_succ]
  refine call_at (i := 18) (f := ?_) (args := ?_) rfl (by kernel_rfl) (by rfl) ?_ ?_
  rotate_left 2
  · go_simp
    (try (first | with_reducible rfl | (apply And.intro <;> rfl)))
  have h := HT.out w1
  have hrr := fun W (hW : Fr [] wa W) A' n' c' (hy : By W A' n' x.text) => refright_any W Sb gb l (HBK.out.keep hW (by simp)) HND.out x.b x.m A' n' c' x.text hy HX.out.m.1 HX.out.m.2
  have HRR := Lib.hid hrr
  clear hrr
  generalize x.text = X at *
  generalize rightB l x.b x.m X = rb at *
  refine h.mono ?_
  rintro e w2 ⟨A2, c2, rfl, hn2⟩
  have HY2 := Lib.hid hn2.by
  refine ⟨_, rfl, hHeld.and hn2.2.1 (by simp), fun hHeld => ?_⟩
  clear hn2 h
  simp only [Act.put, List.setIfInBounds_toArray, List.set_cons_zero, List.set_cons_succ]
  refine call_at (i := 19) (f := ?_) (args := ?_) rfl (by kernel_rfl) (by rfl) ?_ ?_
  rotate_left 2
  · go_simp
    (try (first | with_reducible rfl | (apply And.intro <;> rfl)))
  refine (HRR.out _ hHeld A2 _ c2 HY2.out).mono ?_
  rintro e w3 ⟨rfl, hf3⟩
  refine ⟨_, rfl, hHeld.and hf3 (by simp), fun hHeld => ?_⟩
  clear hf3
  simp only [Act.put, List.setIfInBounds_toArray, List.set_cons_zero, List.set_cons_succ]
  refine run_at (i := 20) (v := ?_) rfl (by kernel_rfl) (by rfl) (fun _ _ _ h => h) hHeld (fun w1 hw1 => ?_) ?_
  rotate_left 1
  · skip
    go_simp
    (try (first | with_reducible rfl | (apply And.intro <;> rfl)))
  simp only [Act.put, List.setIfInBounds_toArray, List.set_cons_zero, List.set_cons_succ]
  refine run_at (i := 21) (v := ?_) rfl (by kernel_rfl) (by rfl) (fun _ _ _ h => h) hHeld (fun w1 hw1 => ?_) ?_
  rotate_left 1
  · skip
    go_simp
    (try (first | with_reducible rfl | (apply And.intro <;> rfl)))
  simp only [Act.put, List.setIfInBounds_toArray, List.set_cons_zero, List.set_cons_succ]
  refine wpAnyH_done (by kernel_rfl) ?_ _
  go_wp2
  go_ret
  exact ⟨by rw [HR.out]; rfl, HF0.out.and hHeld (by simp)⟩
end Go.Proofs.YtjlmackfmmaknaaDoor

namespace Go.Proofs.YtjlmackfmmaknaaDoor
open Go.RowKit
set_option maxRecDepth 100000

theorem made_ok (c s : Int) (hc : 0 ≤ c ∧ c < 1099511627776) (hs : i64In s) (h b : List UInt8) (hb : b.length ≤ 1000000) (l : List Ent) (hl : l.length < 1048576) : (made c s h b l).Ok := by
  refine ⟨⟨by show _ ≤ c; omega, by show c < _; omega⟩, hs, sumL_len _, ⟨by show _ ≤ ((b.length : Nat) : Int); omega, by show ((b.length : Nat) : Int) < _; omega⟩, ⟨by show _ ≤ 1000 + c; omega, by show 1000 + c < _; omega⟩, ?_⟩
  show i64In (mrk _ _)
  unfold mrk i64In
  have h1 : List.idxOf (1000 + c, (made0 c s h b).text) (sgn l (1000 + c, (made0 c s h b).text)) ≤ (sgn l (1000 + c, (made0 c s h b).text)).length := List.idxOf_le_length
  have h2 : (sgn l (1000 + c, (made0 c s h b).text)).length ≤ l.length + 1 := by unfold sgn; split <;> simp
  omega
theorem made_right (c s : Int) (hc : 0 ≤ c) (h b : List UInt8) (l : List Ent) (k : Int) (hk : c < k) (hs : 1 ≤ s ∧ s ≤ 1048576) (hb : b.length ≤ 256) :
    rightC k (sgn l (1000 + c, (made0 c s h b).text)) (made c s h b l) = true := by
  unfold rightC
  have h1 : validB k (made c s h b l) = true := by
    unfold validB
    simp only [decide_eq_true_eq]
    exact ⟨hc, hk, hs.1, hs.2, by show (0 : Int) ≤ ((b.length : Nat) : Int); omega, by show ((b.length : Nat) : Int) ≤ 256; omega⟩
  have h2 : signB (made c s h b l).b (made c s h b l).c = true := by
    unfold signB
    simp only [decide_eq_true_eq]
    exact ⟨by show 1000 ≤ 1000 + c; omega, by show 1000 + c - 1000 = c; omega⟩
  rw [h1, h2, made_text]
  exact rightB_sgn l (1000 + c) (made0 c s h b).text

set_option maxHeartbeats 1000000 in
theorem cwakes_any (w : World) (hK : KW w) : Calls Tryd.prog 26 #[] w fun e w' => e = .returned (.bool true) ∧ Fr [] w w' := by
  have HK := Lib.hid hK
  have kc := conv_const
  clear hK
  go_enter Tryd.func26, Tryd.ntmps26
  go_wp2_with fail
  refine (new_any _).mono ?_
  rintro e w1 ⟨rfl, hb1, hf1⟩
  have HB1 := Lib.hid hb1
  have HF1 := Lib.hid hf1
  have hl1 : w.heap.size + 1 < w1.heap.size := hb1.lt _ (by simp)
  clear hb1 hf1
  go_wp2_with fail
  have hfa : Fr [] w1 (w1.alloc (Obj.cells #[Value.int IntKind.u8 97] 5 (1, 2))) := (Fr.refl [] w1).alloc _
  refine (make_any 0 1 (by decide) ⟨by decide, by decide⟩ (List.replicate 32 0) (by simp) (some ⟨w1.heap.size, 0, none⟩) 1 1 [97] _ (By.mark w1 _ rfl _ _ _ [97] rfl) (fun k hk => by simp [bk] at hk; subst hk; simp) (by omega)
    (HK.out.keep (HF1.out.and hfa (by simp)) (by simp)) _ _ [] (HB1.out.keep hfa (by simp)) (by decide)).mono ?_
  have hok := made_ok 0 1 (by decide) ⟨by decide, by decide⟩ (List.replicate 32 0) [97] (by decide) [] (by decide)
  have hr := made_right 0 1 (by decide) (List.replicate 32 0) [97] [] 1 (by decide) (by decide) (by decide)
  generalize made 0 1 (List.replicate 32 0) [97] [] = x at *
  generalize sgn [] (1000 + 0, (made0 0 1 (List.replicate 32 0) [97]).text) = l2 at *
  have hlen := Cm.len hok.h
  have HOK := Lib.hid hok
  have HR := Lib.hid hr
  have HLEN := Lib.hid hlen
  clear hok hr hlen
  rintro e w2 ⟨rfl, hb2, hf2⟩
  have HB2 := Lib.hid hb2
  have HF2 := Lib.hid (HF1.out.trans (hfa.mono (T := [w.heap.size + 1, w.heap.size]) (by simp) |>.trans hf2 (fun x hx _ => hx)) (fun x hx hl => by simp at hx; omega))
  have HS2 : Hid (w.heap.size + 1 < w2.heap.size) := Lib.hid (by have h1 := hfa.size; have h2 := hf2.size; exact Nat.lt_of_lt_of_le hl1 (Nat.le_trans h1 h2))
  clear hb2 hf2 hfa
  unfold Cm.val
  go_wp2_with (first
    | (refine wpList_store_box rfl 54 _ _ rfl zeroCm 54 x.cells rfl rfl (by rw [HLEN.out]; kernel_rfl) (by rw [HLEN.out]; rfl) x.one ?_
       intro w3 hb3 hf3
       have HX3 := Lib.hid hb3
       have HB3 := Lib.hid (HB2.out.keep hf3 (by simp))
       have HF3 := Lib.hid (HF2.out.and hf3 (by simp))
       have HS3 : Hid (w2.heap.size < w3.heap.size) := Lib.hid hb3.lt
       clear hb3 hf3)
    | (refine wpList_load_row rfl 54 _ rfl w2.heap.size rfl 54 x.cells.toArray _ _ HX3.out Tryd.underlying54 rfl (by rw [List.size_toArray, HLEN.out]; kernel_rfl) ?_)
    | (go_at_call 24
       have h := cright_any 1 1 x HOK.out w3 [w.heap.size + 1, w.heap.size] (w.heap.size + 1) l2 HB3.out
       rw [HR.out] at h
       unfold Cm.val at h
       refine h.mono ?_
       clear h
       rintro e w4 ⟨rfl, hf4⟩
       have HF4 := Lib.hid (HF3.out.and hf4 (by simp))
       clear hf4))
  go_ret
  exact ⟨rfl, HF4.out⟩
end Go.Proofs.YtjlmackfmmaknaaDoor

namespace Go.Proofs.YtjlmackfmmaknaaDoor
open Go.RowKit
theorem u8_ne {a b : Nat} (ha : a < 256) (hb : b < 256) (h : UInt8.ofNat a = UInt8.ofNat b) : a = b := by
  have := congrArg UInt8.toNat h
  simp only [UInt8.toNat_ofNat'] at this
  omega
theorem enc_prefix : ∀ (a b : Nat) (s t : List UInt8), enc a ++ s = enc b ++ t → a = b ∧ s = t := by
  intro a
  induction a using Nat.strongRecOn with
  | _ a ih =>
    intro b s t h
    by_cases ha : a < 128 <;> by_cases hb : b < 128
    · rw [enc_small ha, enc_small hb] at h
      simp only [List.cons_append, List.nil_append, List.cons.injEq] at h
      exact ⟨u8_ne (by omega) (by omega) h.1, h.2⟩
    · rw [enc_small ha, enc_great hb] at h
      simp only [List.cons_append, List.nil_append, List.cons.injEq] at h
      have := u8_ne (by omega) (by omega) h.1
      omega
    · rw [enc_great ha, enc_small hb] at h
      simp only [List.cons_append, List.nil_append, List.cons.injEq] at h
      have := u8_ne (by omega) (by omega) h.1
      omega
    · rw [enc_great ha, enc_great hb] at h
      simp only [List.cons_append, List.cons.injEq] at h
      have h1 := u8_ne (by omega) (by omega) h.1
      obtain ⟨h2, h3⟩ := ih (a / 128) (by omega) (b / 128) s t h.2
      exact ⟨by omega, h3⟩
end Go.Proofs.YtjlmackfmmaknaaDoor

namespace Go.Proofs.YtjlmackfmmaknaaDoor
open Go.RowKit
set_option maxRecDepth 100000

/-- the made one, and the book behind it -/
def mk1 (c s : Int) (h b : List UInt8) : Cm := made c s h b []
def bk1 (c s : Int) (h b : List UInt8) : List Ent := [(1000 + c, (mk1 c s h b).text)]
theorem mk1_eq (c s : Int) (h b : List UInt8) : mk1 c s h b = ⟨c, s, sumL (ofL c s h b), b.length, 1000 + c, 1⟩ := by
  unfold mk1 made mrk sgn
  simp
theorem bk1_eq (c s : Int) (h b : List UInt8) : sgn [] (1000 + c, (made0 c s h b).text) = bk1 c s h b := by
  unfold bk1 sgn
  simp
  rfl
theorem bk1_nodup (c s : Int) (h b : List UInt8) : (bk1 c s h b).Nodup := by simp [bk1]
theorem right_one (e : Ent) (m : Int) (t : List UInt8) (x : Int) : rightB [e] x m t = (decide ((x, t) = e) && (m == 1)) := by
  unfold rightB
  by_cases h : (x, t) = e
  · subst h
    simp
    rw [Bool.eq_iff_iff]
    simp
    exact eq_comm
  · simp [h]
theorem mk1_right (c s : Int) (hc : 0 ≤ c) (hs : s ≤ 1048576) (h b : List UInt8) (hb : b.length ≤ 256) (k : Int) : rightC k (bk1 c s h b) (mk1 c s h b) = decide (c < k ∧ 1 ≤ s) := by
  unfold rightC bk1
  rw [right_one, mk1_eq]
  simp only [validB, signB]
  rw [Bool.eq_iff_iff]
  simp
  omega
theorem text_cut {c s n c' s' n' : Int} {h h' : List UInt8} (hl : h.length = h'.length) (he : headL wRequest c s ++ h ++ encI n = headL wRequest c' s' ++ h' ++ encI n') : c.toNat = c'.toNat ∧ s.toNat = s'.toNat ∧ h = h' ∧ n.toNat = n'.toNat := by
  unfold headL encI at he
  simp only [List.append_assoc] at he
  have he := List.append_cancel_left (List.append_cancel_left he)
  obtain ⟨h1, he⟩ := enc_prefix _ _ _ _ he
  obtain ⟨h2, he⟩ := enc_prefix _ _ _ _ he
  obtain ⟨h3, he⟩ := List.append_inj he hl
  have h4 := (enc_prefix n.toNat n'.toNat [] [] (by simpa using he)).1
  exact ⟨h1, h2, h3, h4⟩
theorem turned_text (k : Int) (c s : Int) (h b : List UInt8) (x : Cm) (ht : ¬ x.text = (mk1 c s h b).text) : rightC k (bk1 c s h b) x = false := by
  unfold rightC bk1
  rw [right_one]
  simp [ht]
theorem turned_sign (k : Int) (l : List Ent) (x : Cm) (hs : signB x.b x.c = false) : rightC k l x = false := by
  unfold rightC
  rw [hs]
  simp
theorem turned_mark (k : Int) (c s : Int) (h b : List UInt8) (x : Cm) (hm : ¬ x.m = 1) : rightC k (bk1 c s h b) x = false := by
  unfold rightC bk1
  rw [right_one]
  have : (x.m == 1) = false := by simpa using hm
  simp [this]
theorem turn0 (k c s : Int) (h b : List UInt8) (hs : 0 ≤ s ∧ s < 9) (d : Int) (hd : 1 ≤ d ∧ d ≤ 9) : rightC k (bk1 c s h b) ⟨c, s + d, sumL (ofL c s h b), b.length, 1000 + c, 1⟩ = false := by
  refine turned_text k c s h b _ (fun e => ?_)
  rw [mk1_eq] at e
  have := (text_cut rfl e).2.1
  simp only at this
  omega
theorem turn1 (k c s : Int) (h b : List UInt8) (d : Int) (hd : 1 ≤ d ∧ d ≤ 9) : rightC k (bk1 c s h b) ⟨c + d, s, sumL (ofL c s h b), b.length, 1000 + c, 1⟩ = false := by
  refine turned_sign k _ _ ?_
  simp only [signB, decide_eq_false_iff_not]
  omega
theorem turn2 (k c s : Int) (h b : List UInt8) (i : Nat) (u : UInt8) (hi : (sumL (ofL c s h b))[i]? ≠ some u) (hil : i < 32) : rightC k (bk1 c s h b) ⟨c, s, (sumL (ofL c s h b)).set i u, b.length, 1000 + c, 1⟩ = false := by
  refine turned_text k c s h b _ (fun e => ?_)
  rw [mk1_eq] at e
  have e2 := (text_cut (by simp) e).2.2.1
  have hl := sumL_len (ofL c s h b)
  simp only at e2
  apply hi
  rw [← e2, List.getElem?_set_self (by omega)]
theorem turn3 (k c s : Int) (h b : List UInt8) (d : Int) (hd : 1 ≤ d ∧ d ≤ 9) : rightC k (bk1 c s h b) ⟨c, s, sumL (ofL c s h b), b.length + d, 1000 + c, 1⟩ = false := by
  refine turned_text k c s h b _ (fun e => ?_)
  rw [mk1_eq] at e
  have := (text_cut rfl e).2.2.2
  simp only at this
  omega
theorem turn4 (k c s : Int) (h b : List UInt8) (d : Int) (hd : 1 ≤ d ∧ d ≤ 9) : rightC k (bk1 c s h b) ⟨c, s, sumL (ofL c s h b), b.length, 1000 + c, 1 + d⟩ = false := turned_mark k c s h b _ (by simp only; omega)
theorem turn5 (k c s : Int) (h b : List UInt8) (d : Int) (hd : 1 ≤ d ∧ d ≤ 9) : rightC k (bk1 c s h b) ⟨c, s, sumL (ofL c s h b), b.length, 1000 + c + d, 1⟩ = false := by
  refine turned_sign k _ _ ?_
  simp only [signB, decide_eq_false_iff_not]
  omega
theorem turn6 (k c s : Int) (h b : List UInt8) : rightC k (bk1 c s h b) ⟨c, s, sumL (ofL c s h b), b.length, 0, 0⟩ = false := by
  refine turned_sign k _ _ ?_
  simp only [signB, decide_eq_false_iff_not]
  omega
theorem cells_c (c s n b m c' : Int) (h : List UInt8) : ((Cm.cells ⟨c, s, h, n, b, m⟩).toArray.setIfInBounds 0 (.int .i64 c')) = (Cm.cells ⟨c', s, h, n, b, m⟩).toArray := by
  simp [Cm.cells]
theorem cells_s (c s n b m s' : Int) (h : List UInt8) : ((Cm.cells ⟨c, s, h, n, b, m⟩).toArray.setIfInBounds 1 (.int .i64 s')) = (Cm.cells ⟨c, s', h, n, b, m⟩).toArray := by
  simp [Cm.cells]
theorem cells_h (c s n b m : Int) (h : List UInt8) (i : Nat) (u : UInt8) (hi : i < h.length) : ((Cm.cells ⟨c, s, h, n, b, m⟩).toArray.setIfInBounds (2 + i) (by8 u)) = (Cm.cells ⟨c, s, h.set i u, n, b, m⟩).toArray := by
  rw [show 2 + i = i + 1 + 1 by omega]
  simp [Cm.cells, List.set_append, hi, List.map_set]
theorem cells_n (c s n b m n' : Int) (h : List UInt8) (hh : h.length = 32) : ((Cm.cells ⟨c, s, h, n, b, m⟩).toArray.setIfInBounds 34 (.int .i64 n')) = (Cm.cells ⟨c, s, h, n', b, m⟩).toArray := by
  simp [Cm.cells, List.set_append, hh]
theorem cells_b (c s n b m b' : Int) (h : List UInt8) (hh : h.length = 32) : ((Cm.cells ⟨c, s, h, n, b, m⟩).toArray.setIfInBounds 35 (.int .i64 b')) = (Cm.cells ⟨c, s, h, n, b', m⟩).toArray := by
  simp [Cm.cells, List.set_append, hh]
theorem cells_m (c s n b m m' : Int) (h : List UInt8) (hh : h.length = 32) : ((Cm.cells ⟨c, s, h, n, b, m⟩).toArray.setIfInBounds 36 (.int .i64 m')) = (Cm.cells ⟨c, s, h, n, b, m'⟩).toArray := by
  simp [Cm.cells, List.set_append, hh]
theorem xor1 (b : UInt8) : ∃ d : UInt8, bits .xor .u8 (b.toNat : Int) 1 = (d.toNat : Int) ∧ d ≠ b := by
  refine ⟨b ^^^ 1, ?_, ?_⟩
  · have key : ∀ a : Fin 256, bits .xor .u8 (((UInt8.ofNat a.val).toNat : Nat) : Int) 1 = (((UInt8.ofNat a.val) ^^^ 1).toNat : Int) := by decide +kernel
    have := key ⟨b.toNat, b.toNat_lt⟩
    simpa using this
  · have key : ∀ a : Fin 256, (UInt8.ofNat a.val) ^^^ 1 ≠ UInt8.ofNat a.val := by decide +kernel
    have := key ⟨b.toNat, b.toNat_lt⟩
    simpa using this
end Go.Proofs.YtjlmackfmmaknaaDoor

namespace Go.Proofs.YtjlmackfmmaknaaDoor
open Go.RowKit
set_option maxRecDepth 100000
def zeroOp : Array Value := (opnCells 0 none 0 0 (List.replicate 32 0)).toArray
theorem built_op (parts : List (Nat × Value)) : Tryd.prog.built 138 parts = Instr.fill ([(0, 1), (1, 1), (2, 32)].toArray[·]?) zeroOp parts := by kernel_rfl
theorem built_opening (A : Option Addr) (n c : Nat) (h : List UInt8) (hh : h.length = 32) :
    Tryd.prog.built 138 [(1, .slice A n c), (2, .agg (h.map by8).toArray)] = some (opnCells 0 A n c h).toArray := by
  have hz : zeroOp.size = 34 := rfl
  rw [built_op, fill_step _ _ 1 1 1 _ _ rfl rfl (by rw [hz]; omega), fill_step _ _ 2 2 32 _ _ rfl (by simp [Value.cells, hh]) (by simp [splice, zeroOp, opnCells, Value.cells]), Instr.fill]
  congr 2
  simp [splice, zeroOp, opnCells, Value.cells, hh]
theorem built_opening3 (i : Int) (A : Option Addr) (n c : Nat) (h : List UInt8) (hh : h.length = 32) :
    Tryd.prog.built 138 [(0, .int .i64 i), (1, .slice A n c), (2, .agg (h.map by8).toArray)] = some (opnCells i A n c h).toArray := by
  have hz : zeroOp.size = 34 := rfl
  rw [built_op, fill_step _ _ 0 0 1 _ _ rfl rfl (by rw [hz]; omega), fill_step _ _ 1 1 1 _ _ rfl rfl (by simp [splice, zeroOp, opnCells, Value.cells]), fill_step _ _ 2 2 32 _ _ rfl (by simp [Value.cells, hh]) (by simp [splice, zeroOp, opnCells, Value.cells]), Instr.fill]
  congr 2
  simp [splice, zeroOp, opnCells, Value.cells, hh]
theorem built_opening2 (h : List UInt8) (hh : h.length = 32) :
    Tryd.prog.built 138 [(2, .agg (h.map by8).toArray)] = some (opnCells 0 none 0 0 h).toArray := by
  have hz : zeroOp.size = 34 := rfl
  rw [built_op, fill_step _ _ 2 2 32 _ _ rfl (by simp [Value.cells, hh]) (by rw [hz]; omega), Instr.fill]
  congr 2
  simp [splice, zeroOp, opnCells, Value.cells, hh]
end Go.Proofs.YtjlmackfmmaknaaDoor

namespace Go.Proofs.YtjlmackfmmaknaaDoor
open Go.RowKit
set_option maxRecDepth 100000
theorem part_row (ty : TypeId) (n off : Nat) (xs ys zs : List Value) (h : RowTy Tryd.prog ty n) (hx : xs.length = off) (hy : ys.length = n) (w : World) : (part ty (xs ++ (ys ++ zs)).toArray off).run Tryd.prog w = .ok (.agg ys.toArray) w := by
  obtain ⟨h1, h2⟩ := h
  cases hu : Tryd.prog.underlying ty with
  | none => rw [hu] at h1; cases h1
  | some d =>
    rw [hu] at h1
    cases hi : Tryd.prog.info? ty with
    | none => rw [hi] at h2; cases h2
    | some i =>
      have hs : i.size = n := by simpa [hi] using h2
      have hagg : (isAgg ty).run Tryd.prog w = .ok true w := by
        unfold isAgg
        rw [Sem.run_bind, run_underlying hu w]
        cases d <;> simp_all
      unfold part
      simp [hagg, sizeOf, typeInfo, hi, hs]
      subst hx
      subst hy
      simp
theorem hash_selfd (xs : List UInt8) (hx : xs.length = 32) (d : Nat) (w : World) :
    (Op.equalIn (d + 2) 26 (.agg (xs.map by8).toArray) (.agg (xs.map by8).toArray)).run Tryd.prog w = .ok true w := by
  have h := run_equalIn_bytes (P := Tryd.prog) w d 26 5 32 Tryd.underlying26 Tryd.underlying5 u8_size1 xs xs hx hx
  rw [show (xs == xs) = true by simp] at h
  exact h
theorem int_selfd (z : Int) (d : Nat) (w : World) : (Op.equalIn (d + 1) 3 (.int .i64 z) (.int .i64 z)).run Tryd.prog w = .ok true w := by
  have h := run_equalIn_int (P := Tryd.prog) w d 3 .i64 .i64 z z Tryd.underlying3
  rw [show (z == z) = true by simp] at h
  exact h
theorem stood (t : TypeId) (h : Tryd.prog.stoodInHeld t = false) : Tryd.prog.stoodInHeld t = false := h
set_option maxHeartbeats 1000000 in
theorem name_selfd (a b : Int) (d : Nat) (w : World) : (Op.equalIn (d + 2) 42 (.agg #[.int .i64 a, .int .i64 b]) (.agg #[.int .i64 a, .int .i64 b])).run Tryd.prog w = .ok true w := by
  have h1 := int_selfd a d w
  have h2 := int_selfd b d w
  rw [run_equalIn_struct w (d + 1) 42 _ _ (by kernel_rfl) (by kernel_rfl)]
  go_simp
theorem sig_selfd (a b : Int) (d : Nat) (w : World) : (Op.equalIn (d + 2) 52 (.agg #[.int .i64 a, .int .i64 b]) (.agg #[.int .i64 a, .int .i64 b])).run Tryd.prog w = .ok true w := by
  have h1 := int_selfd a d w
  have h2 := int_selfd b d w
  rw [run_equalIn_struct w (d + 1) 52 _ _ (by kernel_rfl) (by kernel_rfl)]
  go_simp
theorem part_one (off : Nat) (cs : Array Value) (v : Value) (hv : cs[off]? = some v) (w : World) : (part 3 cs off).run Tryd.prog w = .ok v w :=
  run_part_plain w (by kernel_rfl) hv
theorem eqFields_step {P : Program} {d : Nat} {xs : Array Value} {f : Field} {fs : List Field} {v : Value} {w : World} (hn : f.name ≠ "_") (p : (part f.type xs f.offset).run P w = .ok v w) (q : (Op.equalIn d f.type v v).run P w = .ok true w) :
    (Op.eqFields d xs xs (f :: fs)).run P w = (Op.eqFields d xs xs fs).run P w := by
  rw [Op.eqFields, if_pos hn]
  simp only [Sem.run_bind, p, Result.andThen_ok, q]
  simp
theorem commit_self (x : Cm) (hh : x.h.length = 32) (w : World) : (Op.equalIn 10000 54 (.agg x.cells.toArray) (.agg x.cells.toArray)).run Tryd.prog w = .ok true w := by
  have hl : (x.h.map by8).length = 32 := by rw [List.length_map]; exact hh
  have p0 := part_row 42 2 0 [] [.int .i64 x.c, .int .i64 x.s] (x.h.map by8 ++ [.int .i64 x.n, .int .i64 x.b, .int .i64 x.m]) row_name rfl rfl w
  have p1 := part_row 26 32 2 [.int .i64 x.c, .int .i64 x.s] (x.h.map by8) [.int .i64 x.n, .int .i64 x.b, .int .i64 x.m] row_hash rfl hl w
  have p3 := part_row 52 2 35 ([.int .i64 x.c, .int .i64 x.s] ++ x.h.map by8 ++ [.int .i64 x.n]) [.int .i64 x.b, .int .i64 x.m] [] row_sig (by simp [hh]) rfl w
  have e1 : [] ++ ([.int .i64 x.c, .int .i64 x.s] ++ (x.h.map by8 ++ [.int .i64 x.n, .int .i64 x.b, .int .i64 x.m])) = x.cells := rfl
  have e2 : [.int .i64 x.c, .int .i64 x.s] ++ (x.h.map by8 ++ [.int .i64 x.n, .int .i64 x.b, .int .i64 x.m]) = x.cells := rfl
  have e3 : ([.int .i64 x.c, .int .i64 x.s] ++ x.h.map by8 ++ [.int .i64 x.n]) ++ ([.int .i64 x.b, .int .i64 x.m] ++ []) = x.cells := by simp [Cm.cells]
  rw [e1] at p0
  rw [e2] at p1
  rw [e3] at p3
  have h4 : x.cells.toArray[34]? = some (.int .i64 x.n) := by
    rw [List.getElem?_toArray, ← e3, List.getElem?_append_left (by simp [hh]), List.getElem?_append_right (by simp [hh])]; simp [hh]
  have p2 := part_one 34 x.cells.toArray _ h4 w
  have q0 : (Op.equalIn 9999 42 (.agg #[.int .i64 x.c, .int .i64 x.s]) (.agg #[.int .i64 x.c, .int .i64 x.s])).run Tryd.prog w = .ok true w := name_selfd x.c x.s 9997 w
  have q1 : (Op.equalIn 9999 26 (.agg (x.h.map by8).toArray) (.agg (x.h.map by8).toArray)).run Tryd.prog w = .ok true w := hash_selfd x.h hh 9997 w
  have q2 : (Op.equalIn 9999 3 (.int .i64 x.n) (.int .i64 x.n)).run Tryd.prog w = .ok true w := int_selfd x.n 9998 w
  have q3 : (Op.equalIn 9999 52 (.agg #[.int .i64 x.b, .int .i64 x.m]) (.agg #[.int .i64 x.b, .int .i64 x.m])).run Tryd.prog w = .ok true w := sig_selfd x.b x.m 9997 w
  clear e1 e2 e3 h4
  generalize x.cells.toArray = C at *
  rw [run_equalIn_struct w 9999 54 _ _ (by kernel_rfl) (by kernel_rfl)]
  have hfs : (Tryd.prog.fieldsOf 54).toList.map (fun f => (f.type, f.offset, f.name == "_")) = [(42, 0, false), (26, 2, false), (3, 34, false), (52, 35, false)] := by kernel_rfl
  generalize (Tryd.prog.fieldsOf 54).toList = fs at *
  have hl4 : fs.length = 4 := by have := congrArg List.length hfs; simpa using this
  match fs, hl4, hfs with
  | [a, b, c, d], _, hfs =>
    simp only [List.map_cons, List.map_nil, List.cons.injEq, Prod.mk.injEq, beq_eq_false_iff_ne, and_true] at hfs
    obtain ⟨⟨a1, a2, a3⟩, ⟨b1, b2, b3⟩, ⟨c1, c2, c3⟩, ⟨d1, d2, d3⟩⟩ := hfs
    rw [eqFields_step a3 (by rw [a1, a2]; exact p0) (by rw [a1]; exact q0), eqFields_step b3 (by rw [b1, b2]; exact p1) (by rw [b1]; exact q1), eqFields_step c3 (by rw [c1, c2]; exact p2) (by rw [c1]; exact q2), eqFields_step d3 (by rw [d1, d2]; exact p3) (by rw [d1]; exact q3)]
    rfl
end Go.Proofs.YtjlmackfmmaknaaDoor

namespace Go.Proofs.YtjlmackfmmaknaaDoor
open Go.RowKit
set_option maxRecDepth 100000
theorem exec_eql {P : Program} {ev : Operand → Value} {o : Oper} {w : World} (ty r : TypeId) (x y : Operand) (ho : o.op = .binOp .eql ty x y r) (C D : Array Value) (hx : ev x = .agg C) (hy : ev y = .agg D) (b : Bool)
    (hg : P.eqGuardType P.depth ty = false) (hq : (Op.equalIn 10000 ty (.agg C) (.agg D)).run P w = .ok b w) : (execOp ev o).run P w = .ok (.value (.bool b)) w := by
  have hq' : (Op.equal ty (.agg C) (.agg D)).run P w = .ok b w := hq
  unfold execOp
  simp only [ho, hx, hy]
  simp [eqGuard, binOp, hg, hq', Result.andThen]
theorem eql_at {P : Program} {l : List Oper} {Q : Exit → Act → World → Prop} {md : Region.Mode} {S : World → Prop} {fuel : Nat} {listed : Array Bool} {a : Act} {w : World}
    {i : Nat} {oi : Oper} (hi : nthOp l i = some oi) (ht : takeOk md l.toArray listed i = true) (hw : Region.wanted oi (yielded l.toArray a.tmps) = true)
    (ty r : TypeId) (x y : Operand) (ho : oi.op = .binOp .eql ty x y r) (C D : Array Value) (hx : a.eval x = .agg C) (hy : a.eval y = .agg D) (b : Bool) (hg : P.eqGuardType P.depth ty = false)
    (hq : ∀ w, (Op.equalIn 10000 ty (.agg C) (.agg D)).run P w = .ok b w)
    (hQ : ∀ c a w, Q (.panic c) (a.put oi.dst (.bool b)) w → Q (.panic c) a w) (hS : S w)
    (h : wpAnyH P md l.toArray Q S fuel (listed.setIfInBounds i true) (a.put oi.dst (.bool b)) w) : wpAnyH P md l.toArray Q S (fuel + 1) listed a w :=
  run_at hi ht hw hQ hS (fun _ _ => exec_eql ty r x y ho C D hx hy b hg (hq _)) h
theorem exec_neq {P : Program} {ev : Operand → Value} {o : Oper} {w : World} (ty r : TypeId) (x y : Operand) (ho : o.op = .binOp .neq ty x y r) (C D : Array Value) (hx : ev x = .agg C) (hy : ev y = .agg D) (b : Bool)
    (hg : P.eqGuardType P.depth ty = false) (hq : (Op.equalIn 10000 ty (.agg C) (.agg D)).run P w = .ok b w) : (execOp ev o).run P w = .ok (.value (.bool (!b))) w := by
  have hq' : (Op.equal ty (.agg C) (.agg D)).run P w = .ok b w := hq
  unfold execOp
  simp only [ho, hx, hy]
  simp [eqGuard, binOp, hg, hq', Result.andThen]
theorem neq_at {P : Program} {l : List Oper} {Q : Exit → Act → World → Prop} {md : Region.Mode} {S : World → Prop} {fuel : Nat} {listed : Array Bool} {a : Act} {w : World}
    {i : Nat} {oi : Oper} (hi : nthOp l i = some oi) (ht : takeOk md l.toArray listed i = true) (hw : Region.wanted oi (yielded l.toArray a.tmps) = true)
    (ty r : TypeId) (x y : Operand) (ho : oi.op = .binOp .neq ty x y r) (C D : Array Value) (hx : a.eval x = .agg C) (hy : a.eval y = .agg D) (b : Bool) (hg : P.eqGuardType P.depth ty = false)
    (hq : ∀ w, (Op.equalIn 10000 ty (.agg C) (.agg D)).run P w = .ok b w)
    (hQ : ∀ c a w, Q (.panic c) (a.put oi.dst (.bool (!b))) w → Q (.panic c) a w) (hS : S w)
    (h : wpAnyH P md l.toArray Q S fuel (listed.setIfInBounds i true) (a.put oi.dst (.bool (!b))) w) : wpAnyH P md l.toArray Q S (fuel + 1) listed a w :=
  run_at hi ht hw hQ hS (fun _ _ => exec_neq ty r x y ho C D hx hy b hg (hq _)) h
end Go.Proofs.YtjlmackfmmaknaaDoor

namespace Go.Proofs.YtjlmackfmmaknaaDoor
open Go.RowKit
set_option maxRecDepth 100000

/-- whatever has come up, so has all that it waits for -/
def Cl (md : Region.Mode) (ops : Array Oper) (L : Array Bool) : Prop :=
  ∀ j oj, ops[j]? = some oj → L.getD j false = true → ∀ e ∈ oj.after, Region.binds md e = true → L.getD e.on false = true
/-- does k wait for i, straight or through others? -/
def awaits (md : Region.Mode) (ops : Array Oper) : Nat → Nat → Nat → Bool
  | 0, _, _ => false
  | f + 1, k, i => match ops[k]? with
    | none => false
    | some o => o.after.any fun e => Region.binds md e && (e.on == i || awaits md ops f e.on i)
theorem awaits_listed {md : Region.Mode} {ops : Array Oper} {L : Array Bool} (hc : Cl md ops L) : ∀ (f k i : Nat), awaits md ops f k i = true → L.getD k false = true → L.getD i false = true
  | 0, _, _, h, _ => by simp [awaits] at h
  | f + 1, k, i, h, hk => by
    unfold awaits at h
    cases ho : ops[k]? with
    | none => rw [ho] at h; simp at h
    | some o =>
      rw [ho] at h
      simp only [Array.any_eq_true] at h
      obtain ⟨n, hn, hb⟩ := h
      simp only [Bool.and_eq_true, Bool.or_eq_true, beq_iff_eq] at hb
      have hl := hc k o ho hk _ (Array.getElem_mem hn) hb.1
      rcases hb.2 with h2 | h2
      · rw [← h2]; exact hl
      · exact awaits_listed hc f _ _ h2 hl
theorem getD_two {L : Array Bool} {i : Nat} (h : L.getD i true = false) : L.getD i false = false := by
  rcases Nat.lt_or_ge i L.size with h' | h'
  · simpa [h'] using h
  · simp [Array.getElem?_eq_none h']
theorem pending {md : Region.Mode} {ops : Array Oper} {T i : Nat} (h : awaits md ops ops.size T i = true) (L : Array Bool) (hc : Cl md ops L) (hp : L.getD i true = false) : L.getD T false = false := by
  cases ht : L.getD T false with
  | false => rfl
  | true =>
    have h1 := awaits_listed hc _ _ _ h ht
    rw [getD_two hp] at h1
    cases h1
def wpTill (P : Program) (md : Region.Mode) (ops : Array Oper) (Q : Exit → Act → World → Prop) (T : Nat) (A B : World → Prop) : Nat → Array Bool → Act → World → Prop
  | 0, L, a, w => Region.ready md ops L = [] ∧ Q .normal a w
  | f + 1, L, a, w => (Region.ready md ops L = [] → Q .normal a w) ∧
    ∀ i ∈ Region.ready md ops L, wpOp P ops Q i (fun a' w' => (A w' ∧ ((L.setIfInBounds i true).getD T false = false → B w')) ∧ wpTill P md ops Q T A B f (L.setIfInBounds i true) a' w') a w
section
variable {P : Program} {ops : Array Oper} {Q : Exit → Act → World → Prop} {md : Region.Mode} {T : Nat} {A B : World → Prop}
theorem wpAny_of_till : ∀ (f : Nat) (L : Array Bool) (a : Act) (w : World), wpTill P md ops Q T A B f L a w → wpAny P md ops Q f L a w
  | 0, _, _, _, h => h
  | f + 1, _, _, _, h => ⟨h.1, fun i hi => wpOp_mono (fun a' w' h' => wpAny_of_till f _ a' w' h'.2) (h.2 i hi)⟩
theorem Cl.set {L : Array Bool} (hc : Cl md ops L) {i : Nat} (hi : i ∈ Region.ready md ops L) : Cl md ops (L.setIfInBounds i true) := by
  obtain ⟨_, oi, hoi, hall⟩ := mem_ready.1 hi
  intro j oj hj hl e he hb
  have up : ∀ k, L.getD k false = true → (L.setIfInBounds i true).getD k false = true := fun k hk => by
    by_cases hik : i = k
    · subst hik
      rcases Nat.lt_or_ge i L.size with h' | h'
      · simp [h']
      · simp [Array.getElem?_eq_none h'] at hk
    · rw [getD_set_ne false hik]; exact hk
  by_cases hij : i = j
  · subst hij
    have : oi = oj := Option.some.inj (hoi.symm.trans hj)
    subst this
    exact up _ (hall e he hb)
  · rw [getD_set_ne false hij] at hl
    exact up _ (hc j oj hj hl e he hb)
/-- an operation that yields the same wherever both conditions hold, and for which T waits, may be taken first -/
theorem till_take {i : Nat} {oi : Oper} {v : Value} (hi : ops[i]? = some oi) (hs : Region.noSelect ops = true) (hiT : i ≠ T) (hp : awaits md ops ops.size T i = true) (hQ : ∀ c a w, Q (.panic c) (a.put oi.dst v) w → Q (.panic c) a w) :
    ∀ (f : Nat) (L : Array Bool) (a : Act) (w : World), (∀ j oj, ops[j]? = some oj → j ≠ i → L.getD j true = false → (∀ e ∈ oj.after, Region.binds md e = true → e.on ≠ i) → oi.apart ops oj = true) →
      Cl md ops L → i ∈ Region.ready md ops L → YieldsIf P ops (fun w => A w ∧ B w) oi v a → A w → B w →
      wpTill P md ops Q T A B f (L.setIfInBounds i true) (a.put oi.dst v) w → wpTill P md ops Q T A B (f + 1) L a w := by
  have hsel := Region.noSelect_spec hs
  intro f
  induction f with
  | zero =>
    intro L a w _ _ hr hy hA hB H
    refine ⟨fun h => (by rw [h] at hr; cases hr), fun j hj => ?_⟩
    by_cases hji : j = i
    · subst hji; exact hy.wpOp hi ⟨hA, hB⟩ ⟨⟨hA, fun _ => hB⟩, H⟩
    · have h0 := ready_mono hj hji
      rw [H.1] at h0
      cases h0
  | succ f ih =>
    intro L a w hap hc hr hy hA hB H
    refine ⟨fun h => (by rw [h] at hr; cases hr), fun j hj => ?_⟩
    by_cases hji : j = i
    · subst hji; exact hy.wpOp hi ⟨hA, hB⟩ ⟨⟨hA, fun _ => hB⟩, H⟩
    · obtain ⟨hjun, oj, hoj, hall⟩ := mem_ready.1 hj
      have hiun := (mem_ready.1 hr).1
      have hno : ∀ e ∈ oj.after, Region.binds md e = true → e.on ≠ i := fun e he hb heq => by
        have h1 := hall e he hb
        rw [heq, getD_two hiun] at h1
        cases h1
      have h2 := wpOp_putIf hoj (hap j oj hoj hji hjun hno) (hsel i oi · · hi) (hsel j oj · · hoj) hQ hy (H.2 j (ready_mono hj hji))
      have hap' : ∀ k ok, ops[k]? = some ok → k ≠ i → (L.setIfInBounds j true).getD k true = false → (∀ e ∈ ok.after, Region.binds md e = true → e.on ≠ i) → oi.apart ops ok = true := fun k ok hk hki hun => by
        refine hap k ok hk hki ?_
        by_cases hjk : j = k
        · subst hjk; exact hjun
        · rwa [getD_set_ne true hjk] at hun
      have hr' := ready_mono hr (Ne.symm hji)
      have hc' := hc.set hj
      refine wpOp_mono (fun a' w' h3 => ?_) h2
      obtain ⟨hy', ⟨hA', hB'⟩, h4⟩ := h3
      rw [Array.setIfInBounds_comm _ _ (Ne.symm hji)] at h4 hB'
      have hT := pending hp _ hc' (mem_ready.1 hr').1
      have hB'' := hB' (by rw [getD_set_ne false hiT]; exact hT)
      exact ⟨⟨hA', fun _ => hB''⟩, ih (L.setIfInBounds j true) a' w' hap' hc' hr' hy' hA' hB'' h4⟩
/-- an operation that yields the same wherever the first condition holds may be taken first, whether T waits for it or not -/
theorem till_free {i : Nat} {oi : Oper} {v : Value} (hi : ops[i]? = some oi) (hs : Region.noSelect ops = true) (hiT : i ≠ T) (hQ : ∀ c a w, Q (.panic c) (a.put oi.dst v) w → Q (.panic c) a w) :
    ∀ (f : Nat) (L : Array Bool) (a : Act) (w : World), (∀ j oj, ops[j]? = some oj → j ≠ i → L.getD j true = false → (∀ e ∈ oj.after, Region.binds md e = true → e.on ≠ i) → oi.apart ops oj = true) →
      i ∈ Region.ready md ops L → YieldsIf P ops A oi v a → A w → (L.getD T false = false → B w) →
      wpTill P md ops Q T A B f (L.setIfInBounds i true) (a.put oi.dst v) w → wpTill P md ops Q T A B (f + 1) L a w := by
  have hsel := Region.noSelect_spec hs
  intro f
  induction f with
  | zero =>
    intro L a w _ hr hy hA hB H
    refine ⟨fun h => (by rw [h] at hr; cases hr), fun j hj => ?_⟩
    by_cases hji : j = i
    · subst hji; exact hy.wpOp hi hA ⟨⟨hA, fun h => hB (by rwa [getD_set_ne false hiT] at h)⟩, H⟩
    · have h0 := ready_mono hj hji
      rw [H.1] at h0
      cases h0
  | succ f ih =>
    intro L a w hap hr hy hA hB H
    refine ⟨fun h => (by rw [h] at hr; cases hr), fun j hj => ?_⟩
    by_cases hji : j = i
    · subst hji; exact hy.wpOp hi hA ⟨⟨hA, fun h => hB (by rwa [getD_set_ne false hiT] at h)⟩, H⟩
    · obtain ⟨hjun, oj, hoj, hall⟩ := mem_ready.1 hj
      have hiun := (mem_ready.1 hr).1
      have hno : ∀ e ∈ oj.after, Region.binds md e = true → e.on ≠ i := fun e he hb heq => by
        have h1 := hall e he hb
        rw [heq, getD_two hiun] at h1
        cases h1
      have h2 := wpOp_putIf hoj (hap j oj hoj hji hjun hno) (hsel i oi · · hi) (hsel j oj · · hoj) hQ hy (H.2 j (ready_mono hj hji))
      have hap' : ∀ k ok, ops[k]? = some ok → k ≠ i → (L.setIfInBounds j true).getD k true = false → (∀ e ∈ ok.after, Region.binds md e = true → e.on ≠ i) → oi.apart ops ok = true := fun k ok hk hki hun => by
        refine hap k ok hk hki ?_
        by_cases hjk : j = k
        · subst hjk; exact hjun
        · rwa [getD_set_ne true hjk] at hun
      refine wpOp_mono (fun a' w' h3 => ?_) h2
      obtain ⟨hy', ⟨hA', hB'⟩, h4⟩ := h3
      rw [Array.setIfInBounds_comm _ _ (Ne.symm hji)] at h4 hB'
      have hB'' : (L.setIfInBounds j true).getD T false = false → B w' := fun h => hB' (by rw [getD_set_ne false hiT]; exact h)
      exact ⟨⟨hA', hB''⟩, ih (L.setIfInBounds j true) a' w' hap' (ready_mono hr (Ne.symm hji)) hy' hA' hB'' h4⟩
end
/-- is what has come up closed? -/
def clB (md : Region.Mode) (ops : Array Oper) (L : Array Bool) : Bool :=
  (List.range ops.size).all fun j => !L.getD j false || match ops[j]? with
    | none => true
    | some o => o.after.all fun e => !Region.binds md e || L.getD e.on false
theorem Cl.of {md : Region.Mode} {ops : Array Oper} {L : Array Bool} (h : clB md ops L = true) : Cl md ops L := by
  intro j oj hj hl e he hb
  have h1 := List.all_eq_true.1 h j (List.mem_range.2 (Array.getElem?_eq_some_iff.1 hj).1)
  rw [hj, hl] at h1
  simp only [Bool.not_true, Bool.false_or] at h1
  have h2 := Array.all_eq_true_iff_forall_mem.1 h1 e he
  rw [hb] at h2
  simpa using h2
def tillOk (md : Region.Mode) (ops : Array Oper) (T : Nat) (L : Array Bool) (i : Nat) : Bool :=
  takeOk md ops L i && clB md ops L && awaits md ops ops.size T i && !(i == T)
section
variable {P : Program} {l : List Oper} {Q : Exit → Act → World → Prop} {md : Region.Mode} {T : Nat} {A B : World → Prop} {fuel : Nat} {L : Array Bool} {a : Act} {w : World}
theorem till_at {i : Nat} {oi : Oper} {v : Value} (hi : nthOp l i = some oi) (ht : tillOk md l.toArray T L i = true)
    (hQ : ∀ c a w, Q (.panic c) (a.put oi.dst v) w → Q (.panic c) a w) (hy : YieldsIf P l.toArray (fun w => A w ∧ B w) oi v a) (hA : A w) (hB : B w)
    (h : wpTill P md l.toArray Q T A B fuel (L.setIfInBounds i true) (a.put oi.dst v) w) : wpTill P md l.toArray Q T A B (fuel + 1) L a w := by
  unfold tillOk takeOk at ht
  simp only [Bool.and_eq_true, Bool.not_eq_true', beq_eq_false_iff_ne] at ht
  obtain ⟨⟨⟨⟨⟨h1, h2⟩, h3⟩, h4⟩, h5⟩, h6⟩ := ht
  have hi' : l.toArray[i]? = some oi := by rw [List.getElem?_toArray, nthOp_eq, hi]
  exact till_take hi' h1 h6 h5 hQ fuel L a w (Region.free_spec hi' h2) (Cl.of h4) (by simpa using h3) hy hA hB h
theorem till_skip {i : Nat} {oi : Oper} (hi : nthOp l i = some oi) (ht : tillOk md l.toArray T L i = true)
    (hQ : ∀ c a w, Q (.panic c) (a.put oi.dst undef) w → Q (.panic c) a w) (hw : Region.wanted oi (yielded l.toArray a.tmps) = false) (hA : A w) (hB : B w)
    (h : wpTill P md l.toArray Q T A B fuel (L.setIfInBounds i true) (a.put oi.dst undef) w) : wpTill P md l.toArray Q T A B (fuel + 1) L a w :=
  till_at hi ht hQ (.inr ⟨hw, rfl⟩) hA hB h
theorem till_run {i : Nat} {oi : Oper} (hi : nthOp l i = some oi) (ht : tillOk md l.toArray T L i = true) (hw : Region.wanted oi (yielded l.toArray a.tmps) = true) {v : Value}
    (hQ : ∀ c a w, Q (.panic c) (a.put oi.dst v) w → Q (.panic c) a w) (hA : A w) (hB : B w) (hy : ∀ w1, B w1 → (execOp a.eval oi).run P w1 = .ok (.value v) w1)
    (h : wpTill P md l.toArray Q T A B fuel (L.setIfInBounds i true) (a.put oi.dst v) w) : wpTill P md l.toArray Q T A B (fuel + 1) L a w :=
  till_at hi ht hQ (.inl ⟨hw, fun w1 h1 => hy w1 h1.2⟩) hA hB h
theorem till_row {i : Nat} {oi : Oper} (hi : nthOp l i = some oi) (ht : tillOk md l.toArray T L i = true) (hw : Region.wanted oi (yielded l.toArray a.tmps) = true)
    (ty : TypeId) (x : Operand) (ho : oi.op = .load ty x) (b o : Nat) (hx : a.eval x = .pointer (some ⟨b, o, none⟩)) (cs : List Value) (hc : ∀ w1, B w1 → w1.rangeAt b o cs) (hr : RowTy P ty cs.length)
    (hQ : ∀ c a w, Q (.panic c) (a.put oi.dst (.agg cs.toArray)) w → Q (.panic c) a w) (hA : A w) (hB : B w)
    (h : wpTill P md l.toArray Q T A B fuel (L.setIfInBounds i true) (a.put oi.dst (.agg cs.toArray)) w) : wpTill P md l.toArray Q T A B (fuel + 1) L a w := by
  obtain ⟨h1, h2⟩ := hr
  cases hu : P.underlying ty with
  | none => rw [hu] at h1; cases h1
  | some d =>
    rw [hu] at h1
    exact till_at hi ht hQ (yieldsIf_load_mid hw ty x ho b o hx cs d (fun w1 h1 => hc w1 h1.2) hu (by simpa using h1) h2) hA hB h
theorem till_build {i : Nat} {oi : Oper} (hi : nthOp l i = some oi) (ht : tillOk md l.toArray T L i = true) (hw : Region.wanted oi (yielded l.toArray a.tmps) = true)
    (t : TypeId) (parts : List (Nat × Operand)) (ho : oi.op = .build t parts.toArray) (vals : List (Nat × Value)) (cells : Array Value) (hb : P.built t vals = some cells) (hv : parts.map (fun p => (p.1, a.eval p.2)) = vals)
    (hQ : ∀ c a w, Q (.panic c) (a.put oi.dst (.agg cells)) w → Q (.panic c) a w) (hA : A w) (hB : B w)
    (h : wpTill P md l.toArray Q T A B fuel (L.setIfInBounds i true) (a.put oi.dst (.agg cells)) w) : wpTill P md l.toArray Q T A B (fuel + 1) L a w :=
  till_run hi ht hw hQ hA hB (fun _ _ => exec_build t parts.toArray ho cells (by
    have e : (parts.toArray.map fun (i, x) => (i, a.eval x)).toList = vals := by rw [← hv]; simp
    rw [e]; exact hb)) h
theorem till_freeAt {i : Nat} {oi : Oper} {v : Value} (hi : nthOp l i = some oi) (ht : takeOk md l.toArray L i = true) (hiT : i ≠ T) (hw : Region.wanted oi (yielded l.toArray a.tmps) = true)
    (hQ : ∀ c a w, Q (.panic c) (a.put oi.dst v) w → Q (.panic c) a w) (hA : A w) (hB : L.getD T false = false → B w) (hy : ∀ w1, A w1 → (execOp a.eval oi).run P w1 = .ok (.value v) w1)
    (h : wpTill P md l.toArray Q T A B fuel (L.setIfInBounds i true) (a.put oi.dst v) w) : wpTill P md l.toArray Q T A B (fuel + 1) L a w := by
  unfold takeOk at ht
  simp only [Bool.and_eq_true] at ht
  have hi' : l.toArray[i]? = some oi := by rw [List.getElem?_toArray, nthOp_eq, hi]
  exact till_free hi' ht.1.1 hiT hQ fuel L a w (Region.free_spec hi' ht.1.2) (by simpa using ht.2) (.inl ⟨hw, hy⟩) hA hB h
theorem till_fbuild {i : Nat} {oi : Oper} (hi : nthOp l i = some oi) (ht : takeOk md l.toArray L i = true) (hiT : i ≠ T) (hw : Region.wanted oi (yielded l.toArray a.tmps) = true)
    (t : TypeId) (parts : List (Nat × Operand)) (ho : oi.op = .build t parts.toArray) (vals : List (Nat × Value)) (cells : Array Value) (hb : P.built t vals = some cells) (hv : parts.map (fun p => (p.1, a.eval p.2)) = vals)
    (hQ : ∀ c a w, Q (.panic c) (a.put oi.dst (.agg cells)) w → Q (.panic c) a w) (hA : A w) (hB : L.getD T false = false → B w)
    (h : wpTill P md l.toArray Q T A B fuel (L.setIfInBounds i true) (a.put oi.dst (.agg cells)) w) : wpTill P md l.toArray Q T A B (fuel + 1) L a w :=
  till_freeAt hi ht hiT hw hQ hA hB (fun _ _ => exec_build t parts.toArray ho cells (by
    have e : (parts.toArray.map fun (i, x) => (i, a.eval x)).toList = vals := by rw [← hv]; simp
    rw [e]; exact hb)) h
theorem till_one {i : Nat} {o : Oper} (hi : nthOp l i = some o) (hr : Region.ready md l.toArray L = [i]) (hw : Region.wanted o (yielded l.toArray a.tmps) = true)
    (h : Oper.wp P o a w (fun a' w' => (A w' ∧ ((L.setIfInBounds i true).getD T false = false → B w')) ∧ wpTill P md l.toArray Q T A B fuel (L.setIfInBounds i true) a' w') Q) : wpTill P md l.toArray Q T A B (fuel + 1) L a w := by
  refine ⟨fun h0 => (by rw [hr] at h0; cases h0), fun j hj => ?_⟩
  rw [hr] at hj
  obtain rfl : j = i := by simpa using hj
  unfold wpOp
  rw [List.getElem?_toArray, nthOp_eq, hi]
  simp only [hw, if_true]
  exact .inl h
/-- a call, while T is to come -/
theorem till_call {i : Nat} {o : Oper} (hi : nthOp l i = some o) (hr : Region.ready md l.toArray L = [i]) (hw : Region.wanted o (yielded l.toArray a.tmps) = true)
    {f : FuncId} {args : Array Value} (he : (execOp a.eval o).run P w = .ok (.enter f args) w)
    (h : Calls P f args w fun e w' => ∃ v, e = .returned v ∧ (A w' ∧ B w') ∧ (B w' → wpTill P md l.toArray Q T A B fuel (L.setIfInBounds i true) (a.put o.dst v) w')) : wpTill P md l.toArray Q T A B (fuel + 1) L a w := by
  refine till_one hi hr hw (wp_call he (h.mono ?_))
  rintro e w' ⟨v, rfl, h1, h2⟩
  exact ⟨v, rfl, ⟨h1.1, fun _ => h1.2⟩, h2 h1.2⟩
/-- any operation once T has come up, or T itself -/
theorem till_step {i : Nat} {o : Oper} (hi : nthOp l i = some o) (hr : Region.ready md l.toArray L = [i]) (hT : (L.setIfInBounds i true).getD T false = true) (hw : Region.wanted o (yielded l.toArray a.tmps) = true)
    (h : ∀ K : Act → World → Prop, Shut (∀ a w, A w → (A w → wpTill P md l.toArray Q T A B fuel (L.setIfInBounds i true) a w) → K a w) → Oper.wp P o a w K Q) : wpTill P md l.toArray Q T A B (fuel + 1) L a w :=
  till_one hi hr hw (h _ (fun a w hA hW => ⟨⟨hA, fun h0 => (by rw [hT] at h0; cases h0)⟩, hW hA⟩))
theorem till_done (hr : Region.ready md l.toArray L = []) (h : Q .normal a w) : ∀ fuel, wpTill P md l.toArray Q T A B fuel L a w
  | 0 => ⟨hr, h⟩
  | _ + 1 => ⟨fun _ => h, by rw [hr]; simp⟩
theorem wp_region_till {id : Nat} (T : Nat) (A B : World → Prop) (hm : P.follows .mixedOrders = true) (hA : A w.drew) (hB : B w.drew)
    (h : A w.drew → B w.drew → wpTill P .any l.toArray Q T A B l.toArray.size (Array.replicate l.toArray.size false) a w.drew) : (Code.region id l.toArray true).wp P Q a w :=
  wp_region_any hm (wpAny_of_till _ _ _ _ (h hA hB))
end
end Go.Proofs.YtjlmackfmmaknaaDoor
