/- gavelref01's CommitText, ValidCommit, Matches. -/
import Derived.Test.YtlkhfhhaallhgaaRefOf
namespace Go.Proofs.Ytlkhfhhaallhgaa
open Go.RowKit
set_option maxRecDepth 100000

theorem NewB.from2 {w0 w w1 : World} {A : Option Addr} {n c : Nat} {l : List UInt8} (h : NewB w w1 A n c l) (hf : Fr [] w0 w) : NewB w0 w1 A n c l := ⟨h.1, hf.and h.2.1 (by simp), fun k hk => Nat.le_trans hf.size (h.2.2 k hk)⟩
theorem By.of_range {w : World} {g o : Nat} {l : List UInt8} (h : w.rangeAt g o (l.map by8)) : By w (some ⟨g, o, none⟩) l.length l :=
  ⟨rfl, fun _ => ⟨_, rfl, fun j u hu => by rw [Addr.add_mid]; exact h j u hu⟩⟩

set_option maxHeartbeats 4000000 in
theorem reftext_any (x : Cm) (hx : x.Ok) (w : World) :
    Calls Try.prog 21 #[x.val] w fun e w' => ∃ A c, e = .returned (.slice A x.text.length c) ∧ NewB w w' A x.text.length c x.text := by
  obtain ⟨wa, hwa⟩ : ∃ wa, wa = w.alloc (Obj.cells x.cells.toArray 39) := ⟨_, rfl⟩
  have hf0 : Fr [] w wa := by rw [hwa]; exact (Fr.refl [] w).alloc _
  have hb0 : Blk wa w.heap.size 39 x.cells.toArray := by rw [hwa]; exact Blk.new _ _ _
  have hat := Cm.at_blk hb0 hx.h
  have hyh := By.of_range hat.hash
  rw [hx.h] at hyh
  have HAT := Lib.hid hat
  have HYH := Lib.hid hyh
  have HF0 := Lib.hid hf0
  have HWA := Lib.hid hwa
  have HX := Lib.hid hx
  clear hwa hf0 hb0 hx hat hyh
  unfold Cm.val
  generalize hC : x.cells.toArray = C at *
  clear hC
  go_enter Try.func21, Try.ntmps21
  go_upto_region 1 with (fail)
  rw [← HWA.out]
  refine wp_region_held_drew (S := Fr [] wa) (by kernel_rfl) (Fr.drew (Fr.refl _ wa)) (fun hHeld => ?_)
  have HFD : Hid (Fr [] wa wa.drew) := Lib.hid (Fr.drew (Fr.refl [] wa))
  generalize wa.drew = wd at *
  refine run_at (i := 3) (v := ?_) rfl (by kernel_rfl) (by rfl) (fun _ _ _ h => h) hHeld (fun w1 hw1 => ?_) ?_
  rotate_left 1
  · skip
    go_simp
    (try (first | with_reducible rfl | (apply And.intro <;> rfl)))
  simp only [Act.put, List.setIfInBounds_toArray, List.set_cons_zero, List.set_cons_succ]
  refine run_at (i := 4) (v := ?_) rfl (by kernel_rfl) (by rfl) (fun _ _ _ h => h) hHeld (fun w1 hw1 => ?_) ?_
  rotate_left 1
  · skip
    go_simp
    (try (first | with_reducible rfl | (apply And.intro <;> rfl)))
  simp only [Act.put, List.setIfInBounds_toArray, List.set_cons_zero, List.set_cons_succ]
  refine run_at (i := 5) (v := ?_) rfl (by kernel_rfl) (by rfl) (fun _ _ _ h => h) hHeld (fun w1 hw1 => ?_) ?_
  rotate_left 1
  · skip
    have hcw0 := hw1.cell (HAT.out.c) (by first | (simp; done) | exact HNS.out | exact HNW.out | (intro hm; have hlt := HSB.out _ hm; (try dsimp only at hlt); omega))
    go_simp
    (try (first | with_reducible rfl | (apply And.intro <;> rfl)))
  simp only [Act.put, List.setIfInBounds_toArray, List.set_cons_zero, List.set_cons_succ]
  refine run_at (i := 7) (v := ?_) rfl (by kernel_rfl) (by rfl) (fun _ _ _ h => h) hHeld (fun w1 hw1 => ?_) ?_
  rotate_left 1
  · skip
    go_simp
    (try (first | with_reducible rfl | (apply And.intro <;> rfl)))
  simp only [Act.put, List.setIfInBounds_toArray, List.set_cons_zero, List.set_cons_succ]
  refine run_at (i := 8) (v := ?_) rfl (by kernel_rfl) (by rfl) (fun _ _ _ h => h) hHeld (fun w1 hw1 => ?_) ?_
  rotate_left 1
  · skip
    go_simp
    (try (first | with_reducible rfl | (apply And.intro <;> rfl)))
  simp only [Act.put, List.setIfInBounds_toArray, List.set_cons_zero, List.set_cons_succ]
  refine run_at (i := 9) (v := ?_) rfl (by kernel_rfl) (by rfl) (fun _ _ _ h => h) hHeld (fun w1 hw1 => ?_) ?_
  rotate_left 1
  · skip
    have hcw0 := hw1.cell (HAT.out.s) (by first | (simp; done) | exact HNS.out | exact HNW.out | (intro hm; have hlt := HSB.out _ hm; (try dsimp only at hlt); omega))
    go_simp
    (try (first | with_reducible rfl | (apply And.intro <;> rfl)))
  simp only [Act.put, List.setIfInBounds_toArray, List.set_cons_zero, List.set_cons_succ]
  refine run_at (i := 11) (v := ?_) rfl (by kernel_rfl) (by rfl) (fun _ _ _ h => h) hHeld (fun w1 hw1 => ?_) ?_
  rotate_left 1
  · skip
    go_simp
    (try (first | with_reducible rfl | (apply And.intro <;> rfl)))
  simp only [Act.put, List.setIfInBounds_toArray, List.set_cons_zero, List.set_cons_succ]
  refine run_at (i := 12) (v := ?_) rfl (by kernel_rfl) (by rfl) (fun _ _ _ h => h) hHeld (fun w1 hw1 => ?_) ?_
  rotate_left 1
  · skip
    go_simp
    (try (first | with_reducible rfl | (apply And.intro <;> rfl)))
  simp only [Act.put, List.setIfInBounds_toArray, List.set_cons_zero, List.set_cons_succ]
  refine run_at (i := 13) (v := ?_) rfl (by kernel_rfl) (by rfl) (fun _ _ _ h => h) hHeld (fun w1 hw1 => ?_) ?_
  rotate_left 1
  · skip
    go_simp
    (try (first | with_reducible rfl | (apply And.intro <;> rfl)))
  simp only [Act.put, List.setIfInBounds_toArray, List.set_cons_zero, List.set_cons_succ]
  refine run_at (i := 14) (v := ?_) rfl (by kernel_rfl) (by rfl) (fun _ _ _ h => h) hHeld (fun w1 hw1 => ?_) ?_
  rotate_left 1
  · skip
    have hcw0 := hw1.cell (HAT.out.n) (by first | (simp; done) | exact HNS.out | exact HNW.out | (intro hm; have hlt := HSB.out _ hm; (try dsimp only at hlt); omega))
    go_simp
    (try (first | with_reducible rfl | (apply And.intro <;> rfl)))
  simp only [Act.put, List.setIfInBounds_toArray, List.set_cons_zero, List.set_cons_succ]
  refine step_at (i := 0) rfl (by kernel_rfl) (by rfl) (fun K hK => ?_)
  refine wp_run (v := ?_) (w' := ?_) ?_ ?_
  rotate_left 2
  · go_simp
    (try (first | with_reducible rfl | (apply And.intro <;> rfl)))
  refine hK.out _ (wd.alloc (Obj.cells (wRequest.map by8).toArray 5)) (hHeld.alloc _) (fun hHeld => ?_)
  clear hK K
  simp only [Act.put, List.setIfInBounds_toArray, List.set_cons_zero, List.set_cons_succ]
  have hconv := conv_const wd (wRequest.map by8).toArray 7 7 wd.heap.size rfl
  have hyw : By (wd.alloc (Obj.cells (wRequest.map by8).toArray 5 (7, 7 + 1))) (some ⟨wd.heap.size, 0, none⟩) 7 wRequest := By.mark wd _ rfl _ _ _ wRequest rfl
  have hfw : Fr [] wd (wd.alloc (Obj.cells (wRequest.map by8).toArray 5 (7, 7 + 1))) := (Fr.refl [] wd).alloc _
  refine step_at (i := 1) rfl (by kernel_rfl) (by rfl) (fun K hK => ?_)
  refine wp_run (v := .slice (some ⟨wd.heap.size, 0, none⟩) 7 7) (w' := wd.alloc (Obj.cells (wRequest.map by8).toArray 5 (7, 7 + 1))) ?_ ?_
  · have hrun := hconv
    go_simp
    (try (first | rfl | exact ⟨rfl, rfl⟩))
  refine hK.out _ _ ((HFD.out.and hfw (by simp)).mono (by simp)) (fun hHeld => ?_)
  clear hK K hconv
  simp only [Act.put, List.setIfInBounds_toArray, List.set_cons_zero, List.set_cons_succ]
  have HYW := Lib.hid hyw
  have HW1 := Lib.hid hfw
  have HFD := Lib.hid (HFD.out.and hfw (by simp))
  have HGW : Hid (wd.heap.size < (wd.alloc (Obj.cells (wRequest.map by8).toArray 5 (7, 7 + 1))).heap.size) := Lib.hid (by show wd.heap.size < (wd.heap.push _).size; rw [Array.size_push]; omega)
  generalize wd.alloc (Obj.cells (wRequest.map by8).toArray 5 (7, 7 + 1)) = w1 at *
  clear hyw hfw
  refine call_at (i := 2) (f := ?_) (args := ?_) rfl (by kernel_rfl) (by rfl) ?_ ?_
  rotate_left 2
  · go_simp
    (try (first | with_reducible rfl | (apply And.intro <;> rfl)))
  refine (refrow_any (some ⟨wd.heap.size, 0, none⟩) 7 7 wRequest w1 HYW.out (fun k hk => by simp [bk] at hk; subst hk; exact HGW.out) (by omega)).mono ?_
  rintro e w2 ⟨A2, c2, rfl, hN⟩
  obtain ⟨n2, hn2⟩ : ∃ nn_, nn_ = (enc 7).length + 7 := ⟨_, rfl⟩
  obtain ⟨l2, hl2⟩ : ∃ ll_, ll_ = enc 7 ++ wRequest := ⟨_, rfl⟩
  rw [← hn2] at hN ⊢
  rw [← hl2] at hN
  have HB2 : Hid (n2 ≤ 2000) := Lib.hid (by rw [hn2]; have := enc_ten (m := 7) (by omega); omega)
  have HL2 := Lib.hid hl2
  refine ⟨_, rfl, hHeld.go hN.2.1 (by simp), fun hHeld => ?_⟩
  simp only [Act.put, List.setIfInBounds_toArray, List.set_cons_zero, List.set_cons_succ]
  have HY2 := Lib.hid hN.by
  have HFD := Lib.hid (HFD.out.and hN.2.1 (by simp))
  clear hN hn2 hl2
  clear HYW HW1 HGW
  refine call_at (i := 6) (f := ?_) (args := ?_) rfl (by kernel_rfl) (by rfl) ?_ ?_
  rotate_left 2
  · go_simp
    (try (first | with_reducible rfl | (apply And.intro <;> rfl)))
  refine (refint_any x.c HX.out.c.2 w2).mono ?_
  rintro e w6 ⟨A6, c6, rfl, hN⟩
  obtain ⟨n6, hn6⟩ : ∃ nn_, nn_ = (encI x.c).length := ⟨_, rfl⟩
  obtain ⟨l6, hl6⟩ : ∃ ll_, ll_ = encI x.c := ⟨_, rfl⟩
  rw [← hn6] at hN ⊢
  rw [← hl6] at hN
  have HB6 : Hid (n6 ≤ 2000) := Lib.hid (by rw [hn6]; have := encI_len x.c HX.out.c.2; omega)
  have HL6 := Lib.hid hl6
  refine ⟨_, rfl, hHeld.go hN.2.1 (by simp), fun hHeld => ?_⟩
  simp only [Act.put, List.setIfInBounds_toArray, List.set_cons_zero, List.set_cons_succ]
  have HY6 := Lib.hid hN.by
  have HFD := Lib.hid (HFD.out.and hN.2.1 (by simp))
  have HY2 := Lib.hid (Fr.byk hN.2.1 HY2.out)
  clear hN hn6 hl6
  refine call_at (i := 10) (f := ?_) (args := ?_) rfl (by kernel_rfl) (by rfl) ?_ ?_
  rotate_left 2
  · go_simp
    (try (first | with_reducible rfl | (apply And.intro <;> rfl)))
  refine (refint_any x.s HX.out.s.2 w6).mono ?_
  rintro e w10 ⟨A10, c10, rfl, hN⟩
  obtain ⟨n10, hn10⟩ : ∃ nn_, nn_ = (encI x.s).length := ⟨_, rfl⟩
  obtain ⟨l10, hl10⟩ : ∃ ll_, ll_ = encI x.s := ⟨_, rfl⟩
  rw [← hn10] at hN ⊢
  rw [← hl10] at hN
  have HB10 : Hid (n10 ≤ 2000) := Lib.hid (by rw [hn10]; have := encI_len x.s HX.out.s.2; omega)
  have HL10 := Lib.hid hl10
  refine ⟨_, rfl, hHeld.go hN.2.1 (by simp), fun hHeld => ?_⟩
  simp only [Act.put, List.setIfInBounds_toArray, List.set_cons_zero, List.set_cons_succ]
  have HY10 := Lib.hid hN.by
  have HFD := Lib.hid (HFD.out.and hN.2.1 (by simp))
  have HY2 := Lib.hid (Fr.byk hN.2.1 HY2.out)
  have HY6 := Lib.hid (Fr.byk hN.2.1 HY6.out)
  clear hN hn10 hl10
  refine call_at (i := 15) (f := ?_) (args := ?_) rfl (by kernel_rfl) (by rfl) ?_ ?_
  rotate_left 2
  · go_simp
    (try (first | with_reducible rfl | (apply And.intro <;> rfl)))
  refine (refint_any x.n HX.out.n.2 w10).mono ?_
  rintro e w15 ⟨A15, c15, rfl, hN⟩
  obtain ⟨n15, hn15⟩ : ∃ nn_, nn_ = (encI x.n).length := ⟨_, rfl⟩
  obtain ⟨l15, hl15⟩ : ∃ ll_, ll_ = encI x.n := ⟨_, rfl⟩
  rw [← hn15] at hN ⊢
  rw [← hl15] at hN
  have HB15 : Hid (n15 ≤ 2000) := Lib.hid (by rw [hn15]; have := encI_len x.n HX.out.n.2; omega)
  have HL15 := Lib.hid hl15
  refine ⟨_, rfl, hHeld.go hN.2.1 (by simp), fun hHeld => ?_⟩
  simp only [Act.put, List.setIfInBounds_toArray, List.set_cons_zero, List.set_cons_succ]
  have HY15 := Lib.hid hN.by
  have HFD := Lib.hid (HFD.out.and hN.2.1 (by simp))
  have HY2 := Lib.hid (Fr.byk hN.2.1 HY2.out)
  have HY6 := Lib.hid (Fr.byk hN.2.1 HY6.out)
  have HY10 := Lib.hid (Fr.byk hN.2.1 HY10.out)
  clear hN hn15 hl15
  refine step_at (i := 16) rfl (by kernel_rfl) (by rfl) (fun K hK => ?_)
  refine wp_run (v := ?_) (w' := ?_) ?_ ?_
  rotate_left 2
  · go_simp
    (try (first | with_reducible rfl | (apply And.intro <;> rfl)))
  refine hK.out _ (w15.alloc (Obj.cells #[.slice A2 n2 c2, .slice A6 n6 c6, .slice A10 n10 c10, .slice (some ⟨w.heap.size, 2, none⟩) 32 32, .slice A15 n15 c15] 41)) (hHeld.alloc _) (fun hHeld => ?_)
  clear hK K
  simp only [Act.put, List.setIfInBounds_toArray, List.set_cons_zero, List.set_cons_succ]
  have hfb : Fr [] w15 (w15.alloc (Obj.cells #[.slice A2 n2 c2, .slice A6 n6 c6, .slice A10 n10 c10, .slice (some ⟨w.heap.size, 2, none⟩) 32 32, .slice A15 n15 c15] 41)) := (Fr.refl [] w15).alloc _
  have hbb : Blk (w15.alloc (Obj.cells #[.slice A2 n2 c2, .slice A6 n6 c6, .slice A10 n10 c10, .slice (some ⟨w.heap.size, 2, none⟩) 32 32, .slice A15 n15 c15] 41)) w15.heap.size 41 (([⟨A2, n2, c2, l2⟩, ⟨A6, n6, c6, l6⟩, ⟨A10, n10, c10, l10⟩, ⟨some ⟨w.heap.size, 2, none⟩, 32, 32, x.h⟩, ⟨A15, n15, c15, l15⟩] : List RowV).map RowV.val).toArray := Blk.new _ _ _
  generalize w15.alloc (Obj.cells #[.slice A2 n2 c2, .slice A6 n6 c6, .slice A10 n10 c10, .slice (some ⟨w.heap.size, 2, none⟩) 32 32, .slice A15 n15 c15] 41) = wj at *
  have HFD := Lib.hid (HFD.out.and hfb (by simp))
  have hj := join_any w15.heap.size 5 [⟨A2, n2, c2, l2⟩, ⟨A6, n6, c6, l6⟩, ⟨A10, n10, c10, l10⟩, ⟨some ⟨w.heap.size, 2, none⟩, 32, 32, x.h⟩, ⟨A15, n15, c15, l15⟩] wj hbb rfl (by omega) (by
    intro r hr
    simp only [List.mem_cons, List.not_mem_nil, or_false] at hr
    rcases hr with rfl | rfl | rfl | rfl | rfl
    · exact ⟨Fr.byk hfb HY2.out, HB2.out⟩
    · exact ⟨Fr.byk hfb HY6.out, HB6.out⟩
    · exact ⟨Fr.byk hfb HY10.out, HB10.out⟩
    · exact ⟨Fr.byk HFD.out HYH.out, by show 32 ≤ 2000; omega⟩
    · exact ⟨Fr.byk hfb HY15.out, HB15.out⟩)
  have hJ : joinL [⟨A2, n2, c2, l2⟩, ⟨A6, n6, c6, l6⟩, ⟨A10, n10, c10, l10⟩, ⟨some ⟨w.heap.size, 2, none⟩, 32, 32, x.h⟩, ⟨A15, n15, c15, l15⟩] = x.text := by
    simp only [joinL, List.map_cons, List.map_nil, List.flatten_cons, List.flatten_nil, HL2.out, HL6.out, HL10.out, HL15.out, Cm.text, headL]
    simp [wRequest]
  rw [hJ] at hj
  obtain ⟨X, hX⟩ : ∃ X, X = x.text := ⟨_, rfl⟩
  rw [← hX] at hj
  have HXT := Lib.hid hX
  clear hX
  have HJ := Lib.hid hj
  clear hfb hbb hj hJ HY2 HY6 HY10 HY15 HL2 HL6 HL10 HL15
  refine call_at (i := 17) (f := ?_) (args := ?_) rfl (by kernel_rfl) (by rfl) ?_ ?_
  rotate_left 2
  · go_simp
    (try (first | with_reducible rfl | (apply And.intro <;> rfl)))
  refine HJ.out.mono ?_
  rintro e wk ⟨Aj, cj, rfl, hN⟩
  have HN := Lib.hid (hN.from2 (HF0.out.and HFD.out (by simp)))
  refine ⟨_, rfl, hHeld.go hN.2.1 (by simp), fun hHeld => ?_⟩
  clear hN
  simp only [Act.put, List.setIfInBounds_toArray, List.set_cons_zero, List.set_cons_succ]
  refine run_at (i := 18) (v := ?_) rfl (by kernel_rfl) (by rfl) (fun _ _ _ h => h) hHeld (fun w1 hw1 => ?_) ?_
  rotate_left 1
  · skip
    go_simp
    (try (first | with_reducible rfl | (apply And.intro <;> rfl)))
  simp only [Act.put, List.setIfInBounds_toArray, List.set_cons_zero, List.set_cons_succ]
  refine wpAnyH_done (by kernel_rfl) ?_ _
  go_wp2
  go_ret
  rw [← HXT.out]
  exact ⟨Aj, cj, rfl, HN.out⟩
end Go.Proofs.Ytlkhfhhaallhgaa
