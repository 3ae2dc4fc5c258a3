/- Package commit: signedBy, Right, Matches. -/
import Derived.Test.YtlkhfhhaallhgaaCm3
import Derived.Test.YtlkhfhhaallhgaaBook3
import Derived.Test.YtlkhfhhaallhgaaRead
namespace Go.Proofs.Ytlkhfhhaallhgaa
open Go.RowKit
set_option maxRecDepth 100000

def signB (b c : Int) : Bool := decide (1000 ≤ b ∧ b - 1000 = c)
set_option maxHeartbeats 1000000 in
theorem signed_any (b m c : Int) (hb : i64In b) (w : World) :
    Calls Try.prog 43 #[.agg #[.int .i64 b, .int .i64 m], .int .i64 c] w fun e w' => e = .returned (.bool (signB b c)) ∧ Fr [] w w' := by
  obtain ⟨h1, h2⟩ := hb
  obtain ⟨r, hr, hr2⟩ : ∃ r, r = signB b c ∧ signB b c = decide (1000 ≤ b ∧ b - 1000 = c) := ⟨_, rfl, rfl⟩
  rw [← hr] at hr2 ⊢
  clear hr
  by_cases k1 : 1000 ≤ b
  case neg =>
    have HR : Hid (r = false) := Lib.hid (by rw [hr2]; simp; omega)
    clear hr2
    go_enter Try.func43, Try.ntmps43
    go_wp2
    go_ret
    exact ⟨by rw [HR.out]; rfl, (Fr.refl [] w).alloc _⟩
  by_cases k2 : b - 1000 = c
  case neg =>
    have HR : Hid (r = false) := Lib.hid (by rw [hr2]; simp; omega)
    have hd : (b - 1000 == c) = false := by simpa using k2
    clear hr2
    go_enter Try.func43, Try.ntmps43
    go_wp2
    go_ret
    exact ⟨by rw [HR.out]; rfl, (Fr.refl [] w).alloc _⟩
  have HR : Hid (r = true) := Lib.hid (by rw [hr2]; simp; omega)
  have hd : (b - 1000 == c) = true := by simpa using k2
  clear hr2 k2
  go_enter Try.func43, Try.ntmps43
  go_wp2
  go_ret
  exact ⟨by rw [HR.out]; rfl, (Fr.refl [] w).alloc _⟩

def rightC (k : Int) (l : List Ent) (x : Cm) : Bool := validB k x && (signB x.b x.c && rightB l x.b x.m x.text)
set_option maxHeartbeats 1000000 in
theorem cright_any (f k : Int) (x : Cm) (hx : x.Ok) (w : World) (Sb : List Nat) (gb : Nat) (l : List Ent) (hb : Bok w Sb gb l) :
    Calls Try.prog 27 #[.agg #[.int .i64 f, .int .i64 k], .pointer (some ⟨gb, 0, none⟩), x.val] w fun e w' => e = .returned (.bool (rightC k l x)) ∧ Fr [] w w' := by
  obtain ⟨wa, hwa⟩ : ∃ wa, wa = (w.alloc (Obj.cells #[.int .i64 f, .int .i64 k] 27)).alloc (Obj.cells x.cells.toArray 39) := ⟨_, rfl⟩
  have hf0 : Fr [] w wa := by rw [hwa]; exact ((Fr.refl [] w).alloc _).alloc _
  have hb0 : Blk wa (w.heap.size + 1) 39 x.cells.toArray := by
    have := Blk.new (w.alloc (Obj.cells #[.int .i64 f, .int .i64 k] 27)) 39 x.cells.toArray
    rw [hwa]; simpa using this
  have hb1 : Blk wa w.heap.size 27 #[.int .i64 f, .int .i64 k] := by rw [hwa]; exact blk_alloc (Blk.new _ _ _)
  have HAT := Lib.hid (Cm.at_blk hb0 hx.h)
  have HCF := Lib.hid hb1.range
  have HF0 := Lib.hid hf0
  have HWA := Lib.hid hwa
  have HX := Lib.hid hx
  have HBK := Lib.hid (hb.keep hf0 (by simp))
  clear hwa hf0 hb0 hb1 hx hb
  have HV := Lib.hid (fun w => valid_any f k x HX.out.h w)
  have HT := Lib.hid (fun w => text_any x HX.out w)
  have HTL := Lib.hid (x.text_len HX.out)
  have HCL := Lib.hid (Cm.len HX.out.h)
  obtain ⟨r, hr, hr2⟩ : ∃ r, r = rightC k l x ∧ rightC k l x = (validB k x && (signB x.b x.c && rightB l x.b x.m x.text)) := ⟨_, rfl, rfl⟩
  rw [← hr] at hr2 ⊢
  clear hr
  unfold Cm.val at *
  go_enter Try.func27, Try.ntmps27
  go_upto_region 1 with (fail)
  rw [← HWA.out]
  refine wp_region_held_drew (S := Fr [] wa) (by kernel_rfl) (Fr.drew (Fr.refl _ wa)) (fun hHeld => ?_)
  refine row_at (i := 0) rfl (by kernel_rfl) (by rfl) _ _ rfl _ _ rfl _ (fun w1 hw1 => hw1.range (HCF.out) (by first | (simp; done) | exact HNS.out | exact HNW.out | (intro hm; have hlt := HSB.out _ hm; (try dsimp only at hlt); omega))) (row_conf) (fun _ _ _ h => h) hHeld ?_
  simp only [Act.put, List.setIfInBounds_toArray, List.set_cons_zero, List.set_cons_succ]
  refine row_at (i := 1) rfl (by kernel_rfl) (by rfl) _ _ rfl _ _ rfl _ (fun w1 hw1 => hw1.range (HAT.out.all) (by first | (simp; done) | exact HNS.out | exact HNW.out | (intro hm; have hlt := HSB.out _ hm; (try dsimp only at hlt); omega))) (row_commit.of HCL.out) (fun _ _ _ h => h) hHeld ?_
  simp only [Act.put, List.setIfInBounds_toArray, List.set_cons_zero, List.set_cons_succ]
  refine call_at (i := 2) (f := ?_) (args := ?_) rfl (by kernel_rfl) (by rfl) ?_ ?_
  rotate_left 2
  · go_simp
    (try (first | with_reducible rfl | (apply And.intro <;> rfl)))
  cases hv : validB k x
  case false =>
    have HR : Hid (r = false) := Lib.hid (by rw [hr2, hv]; rfl)
    have h := HV.out wa.drew
    rw [hv] at h
    clear hr2 hv
    refine h.mono ?_
    rintro e w1 ⟨rfl, hf1⟩
    refine ⟨_, rfl, hHeld.and hf1 (by simp), fun hHeld => ?_⟩
    simp only [Act.put, List.setIfInBounds_toArray, List.set_cons_zero, List.set_cons_succ]
    refine run_at (i := 3) (v := ?_) rfl (by kernel_rfl) (by rfl) (fun _ _ _ h => h) hHeld (fun w1 hw1 => ?_) ?_
    rotate_left 1
    · skip
      go_simp
      (try (first | with_reducible rfl | (apply And.intro <;> rfl)))
    simp only [Act.put, List.setIfInBounds_toArray, List.set_cons_zero, List.set_cons_succ]
    refine skip_at (i := 4) rfl (by kernel_rfl) (fun _ _ _ h => h) (by kernel_rfl) hHeld ?_
    simp only [Act.put, List.setIfInBounds_toArray, List.set_cons_zero, List.set_cons_succ]
    refine skip_at (i := 5) rfl (by kernel_rfl) (fun _ _ _ h => h) (by kernel_rfl) hHeld ?_
    simp only [Act.put, List.setIfInBounds_toArray, List.set_cons_zero, List.set_cons_succ]
    refine skip_at (i := 6) rfl (by kernel_rfl) (fun _ _ _ h => h) (by kernel_rfl) hHeld ?_
    simp only [Act.put, List.setIfInBounds_toArray, List.set_cons_zero, List.set_cons_succ]
    refine skip_at (i := 7) rfl (by kernel_rfl) (fun _ _ _ h => h) (by kernel_rfl) hHeld ?_
    simp only [Act.put, List.setIfInBounds_toArray, List.set_cons_zero, List.set_cons_succ]
    refine skip_at (i := 8) rfl (by kernel_rfl) (fun _ _ _ h => h) (by kernel_rfl) hHeld ?_
    simp only [Act.put, List.setIfInBounds_toArray, List.set_cons_zero, List.set_cons_succ]
    refine skip_at (i := 9) rfl (by kernel_rfl) (fun _ _ _ h => h) (by kernel_rfl) hHeld ?_
    simp only [Act.put, List.setIfInBounds_toArray, List.set_cons_zero, List.set_cons_succ]
    refine run_at (i := 10) (v := ?_) rfl (by kernel_rfl) (by rfl) (fun _ _ _ h => h) hHeld (fun w1 hw1 => ?_) ?_
    rotate_left 1
    · skip
      go_simp
      (try (first | with_reducible rfl | (apply And.intro <;> rfl)))
    simp only [Act.put, List.setIfInBounds_toArray, List.set_cons_zero, List.set_cons_succ]
    refine run_at (i := 11) (v := ?_) rfl (by kernel_rfl) (by rfl) (fun _ _ _ h => h) hHeld (fun w1 hw1 => ?_) ?_
    rotate_left 1
    · skip
      go_simp
      (try (first | with_reducible rfl | (apply And.intro <;> rfl)))
    simp only [Act.put, List.setIfInBounds_toArray, List.set_cons_zero, List.set_cons_succ]
    refine skip_at (i := 12) rfl (by kernel_rfl) (fun _ _ _ h => h) (by kernel_rfl) hHeld ?_
    simp only [Act.put, List.setIfInBounds_toArray, List.set_cons_zero, List.set_cons_succ]
    refine skip_at (i := 13) rfl (by kernel_rfl) (fun _ _ _ h => h) (by kernel_rfl) hHeld ?_
    simp only [Act.put, List.setIfInBounds_toArray, List.set_cons_zero, List.set_cons_succ]
    refine skip_at (i := 14) rfl (by kernel_rfl) (fun _ _ _ h => h) (by kernel_rfl) hHeld ?_
    simp only [Act.put, List.setIfInBounds_toArray, List.set_cons_zero, List.set_cons_succ]
    refine skip_at (i := 15) rfl (by kernel_rfl) (fun _ _ _ h => h) (by kernel_rfl) hHeld ?_
    simp only [Act.put, List.setIfInBounds_toArray, List.set_cons_zero, List.set_cons_succ]
    refine skip_at (i := 16) rfl (by kernel_rfl) (fun _ _ _ h => h) (by kernel_rfl) hHeld ?_
    simp only [Act.put, List.setIfInBounds_toArray, List.set_cons_zero, List.set_cons_succ]
    refine skip_at (i := 17) rfl (by kernel_rfl) (fun _ _ _ h => h) (by kernel_rfl) hHeld ?_
    simp only [Act.put, List.setIfInBounds_toArray, List.set_cons_zero, List.set_cons_succ]
    refine run_at (i := 18) (v := ?_) rfl (by kernel_rfl) (by rfl) (fun _ _ _ h => h) hHeld (fun w1 hw1 => ?_) ?_
    rotate_left 1
    · skip
      go_simp
      (try (first | with_reducible rfl | (apply And.intro <;> rfl)))
    simp only [Act.put, List.setIfInBounds_toArray, List.set_cons_zero, List.set_cons_succ]
    refine run_at (i := 19) (v := ?_) rfl (by kernel_rfl) (by rfl) (fun _ _ _ h => h) hHeld (fun w1 hw1 => ?_) ?_
    rotate_left 1
    · skip
      go_simp
      (try (first | with_reducible rfl | (apply And.intro <;> rfl)))
    simp only [Act.put, List.setIfInBounds_toArray, List.set_cons_zero, List.set_cons_succ]
    refine wpAnyH_done (by kernel_rfl) ?_ _
    go_wp2
    go_ret
    exact ⟨by rw [HR.out]; rfl, HF0.out.and hHeld (by simp)⟩
  have h := HV.out wa.drew
  rw [hv] at h
  refine h.mono ?_
  rintro e w1 ⟨rfl, hf1⟩
  refine ⟨_, rfl, hHeld.and hf1 (by simp), fun hHeld => ?_⟩
  clear hf1 h
  simp only [Act.put, List.setIfInBounds_toArray, List.set_cons_zero, List.set_cons_succ]
  refine run_at (i := 3) (v := ?_) rfl (by kernel_rfl) (by rfl) (fun _ _ _ h => h) hHeld (fun w1 hw1 => ?_) ?_
  rotate_left 1
  · skip
    go_simp
    (try (first | with_reducible rfl | (apply And.intro <;> rfl)))
  simp only [Act.put, List.setIfInBounds_toArray, List.set_cons_zero, List.set_cons_succ]
  refine run_at (i := 4) (v := ?_) rfl (by kernel_rfl) (by rfl) (fun _ _ _ h => h) hHeld (fun w1 hw1 => ?_) ?_
  rotate_left 1
  · skip
    go_simp
    (try (first | with_reducible rfl | (apply And.intro <;> rfl)))
  simp only [Act.put, List.setIfInBounds_toArray, List.set_cons_zero, List.set_cons_succ]
  refine row_at (i := 5) rfl (by kernel_rfl) (by rfl) _ _ rfl _ _ rfl _ (fun w1 hw1 => hw1.range (HAT.out.sig) (by first | (simp; done) | exact HNS.out | exact HNW.out | (intro hm; have hlt := HSB.out _ hm; (try dsimp only at hlt); omega))) (row_sig) (fun _ _ _ h => h) hHeld ?_
  simp only [Act.put, List.setIfInBounds_toArray, List.set_cons_zero, List.set_cons_succ]
  refine run_at (i := 6) (v := ?_) rfl (by kernel_rfl) (by rfl) (fun _ _ _ h => h) hHeld (fun w1 hw1 => ?_) ?_
  rotate_left 1
  · skip
    go_simp
    (try (first | with_reducible rfl | (apply And.intro <;> rfl)))
  simp only [Act.put, List.setIfInBounds_toArray, List.set_cons_zero, List.set_cons_succ]
  refine run_at (i := 7) (v := ?_) rfl (by kernel_rfl) (by rfl) (fun _ _ _ h => h) hHeld (fun w1 hw1 => ?_) ?_
  rotate_left 1
  · skip
    go_simp
    (try (first | with_reducible rfl | (apply And.intro <;> rfl)))
  simp only [Act.put, List.setIfInBounds_toArray, List.set_cons_zero, List.set_cons_succ]
  refine run_at (i := 8) (v := ?_) rfl (by kernel_rfl) (by rfl) (fun _ _ _ h => h) hHeld (fun w1 hw1 => ?_) ?_
  rotate_left 1
  · skip
    have hcw0 := hw1.cell (HAT.out.c) (by first | (simp; done) | exact HNS.out | exact HNW.out | (intro hm; have hlt := HSB.out _ hm; (try dsimp only at hlt); omega))
    go_simp
    (try (first | with_reducible rfl | (apply And.intro <;> rfl)))
  simp only [Act.put, List.setIfInBounds_toArray, List.set_cons_zero, List.set_cons_succ]
  refine call_at (i := 9) (f := ?_) (args := ?_) rfl (by kernel_rfl) (by rfl) ?_ ?_
  rotate_left 2
  · go_simp
    (try (first | with_reducible rfl | (apply And.intro <;> rfl)))
  cases hs : signB x.b x.c
  case false =>
    have HR : Hid (r = false) := Lib.hid (by rw [hr2, hv, hs]; rfl)
    have h := signed_any x.b x.m x.c HX.out.b w1
    rw [hs] at h
    clear hr2 hv hs
    refine h.mono ?_
    rintro e w2 ⟨rfl, hf2⟩
    refine ⟨_, rfl, hHeld.and hf2 (by simp), fun hHeld => ?_⟩
    simp only [Act.put, List.setIfInBounds_toArray, List.set_cons_zero, List.set_cons_succ]
    refine run_at (i := 10) (v := ?_) rfl (by kernel_rfl) (by rfl) (fun _ _ _ h => h) hHeld (fun w1 hw1 => ?_) ?_
    rotate_left 1
    · skip
      go_simp
      (try (first | with_reducible rfl | (apply And.intro <;> rfl)))
    simp only [Act.put, List.setIfInBounds_toArray, List.set_cons_zero, List.set_cons_succ]
    refine run_at (i := 11) (v := ?_) rfl (by kernel_rfl) (by rfl) (fun _ _ _ h => h) hHeld (fun w1 hw1 => ?_) ?_
    rotate_left 1
    · skip
      go_simp
      (try (first | with_reducible rfl | (apply And.intro <;> rfl)))
    simp only [Act.put, List.setIfInBounds_toArray, List.set_cons_zero, List.set_cons_succ]
    refine skip_at (i := 12) rfl (by kernel_rfl) (fun _ _ _ h => h) (by kernel_rfl) hHeld ?_
    simp only [Act.put, List.setIfInBounds_toArray, List.set_cons_zero, List.set_cons_succ]
    refine skip_at (i := 13) rfl (by kernel_rfl) (fun _ _ _ h => h) (by kernel_rfl) hHeld ?_
    simp only [Act.put, List.setIfInBounds_toArray, List.set_cons_zero, List.set_cons_succ]
    refine skip_at (i := 14) rfl (by kernel_rfl) (fun _ _ _ h => h) (by kernel_rfl) hHeld ?_
    simp only [Act.put, List.setIfInBounds_toArray, List.set_cons_zero, List.set_cons_succ]
    refine skip_at (i := 15) rfl (by kernel_rfl) (fun _ _ _ h => h) (by kernel_rfl) hHeld ?_
    simp only [Act.put, List.setIfInBounds_toArray, List.set_cons_zero, List.set_cons_succ]
    refine skip_at (i := 16) rfl (by kernel_rfl) (fun _ _ _ h => h) (by kernel_rfl) hHeld ?_
    simp only [Act.put, List.setIfInBounds_toArray, List.set_cons_zero, List.set_cons_succ]
    refine skip_at (i := 17) rfl (by kernel_rfl) (fun _ _ _ h => h) (by kernel_rfl) hHeld ?_
    simp only [Act.put, List.setIfInBounds_toArray, List.set_cons_zero, List.set_cons_succ]
    refine run_at (i := 18) (v := ?_) rfl (by kernel_rfl) (by rfl) (fun _ _ _ h => h) hHeld (fun w1 hw1 => ?_) ?_
    rotate_left 1
    · skip
      go_simp
      (try (first | with_reducible rfl | (apply And.intro <;> rfl)))
    simp only [Act.put, List.setIfInBounds_toArray, List.set_cons_zero, List.set_cons_succ]
    refine run_at (i := 19) (v := ?_) rfl (by kernel_rfl) (by rfl) (fun _ _ _ h => h) hHeld (fun w1 hw1 => ?_) ?_
    rotate_left 1
    · skip
      go_simp
      (try (first | with_reducible rfl | (apply And.intro <;> rfl)))
    simp only [Act.put, List.setIfInBounds_toArray, List.set_cons_zero, List.set_cons_succ]
    refine wpAnyH_done (by kernel_rfl) ?_ _
    go_wp2
    go_ret
    exact ⟨by rw [HR.out]; rfl, HF0.out.and hHeld (by simp)⟩
  have h := signed_any x.b x.m x.c HX.out.b w1
  rw [hs] at h
  have HR : Hid (r = rightB l x.b x.m x.text) := Lib.hid (by rw [hr2, hv, hs]; simp)
  clear hr2 hv hs
  refine h.mono ?_
  rintro e w2 ⟨rfl, hf2⟩
  refine ⟨_, rfl, hHeld.and hf2 (by simp), fun hHeld => ?_⟩
  clear hf2 h
  simp only [Act.put, List.setIfInBounds_toArray, List.set_cons_zero, List.set_cons_succ]
  refine run_at (i := 10) (v := ?_) rfl (by kernel_rfl) (by rfl) (fun _ _ _ h => h) hHeld (fun w1 hw1 => ?_) ?_
  rotate_left 1
  · skip
    go_simp
    (try (first | with_reducible rfl | (apply And.intro <;> rfl)))
  simp only [Act.put, List.setIfInBounds_toArray, List.set_cons_zero, List.set_cons_succ]
  refine run_at (i := 11) (v := ?_) rfl (by kernel_rfl) (by rfl) (fun _ _ _ h => h) hHeld (fun w1 hw1 => ?_) ?_
  rotate_left 1
  · skip
    go_simp
    (try (first | with_reducible rfl | (apply And.intro <;> rfl)))
  simp only [Act.put, List.setIfInBounds_toArray, List.set_cons_zero, List.set_cons_succ]
  refine run_at (i := 12) (v := ?_) rfl (by kernel_rfl) (by rfl) (fun _ _ _ h => h) hHeld (fun w1 hw1 => ?_) ?_
  rotate_left 1
  · skip
    go_simp
    (try (first | with_reducible rfl | (apply And.intro <;> rfl)))
  simp only [Act.put, List.setIfInBounds_toArray, List.set_cons_zero, List.set_cons_succ]
  refine run_at (i := 13) (v := ?_) rfl (by kernel_rfl) (by rfl) (fun _ _ _ h => h) hHeld (fun w1 hw1 => ?_) ?_
  rotate_left 1
  · skip
    go_simp
    (try (first | with_reducible rfl | (apply And.intro <;> rfl)))
  simp only [Act.put, List.setIfInBounds_toArray, List.set_cons_zero, List.set_cons_succ]
  refine row_at (i := 14) rfl (by kernel_rfl) (by rfl) _ _ rfl _ _ rfl _ (fun w1 hw1 => hw1.range (HAT.out.sig) (by first | (simp; done) | exact HNS.out | exact HNW.out | (intro hm; have hlt := HSB.out _ hm; (try dsimp only at hlt); omega))) (row_sig) (fun _ _ _ h => h) hHeld ?_
  simp only [Act.put, List.setIfInBounds_toArray, List.set_cons_zero, List.set_cons_succ]
  refine row_at (i := 15) rfl (by kernel_rfl) (by rfl) _ _ rfl _ _ rfl _ (fun w1 hw1 => hw1.range (HAT.out.all) (by first | (simp; done) | exact HNS.out | exact HNW.out | (intro hm; have hlt := HSB.out _ hm; (try dsimp only at hlt); omega))) (row_commit.of HCL.out) (fun _ _ _ h => h) hHeld ?_
  simp only [Act.put, List.setIfInBounds_toArray, List.set_cons_zero, List.set_cons_succ]
  refine call_at (i := 16) (f := ?_) (args := ?_) rfl (by kernel_rfl) (by rfl) ?_ ?_
  rotate_left 2
  · go_simp
    (try (first | with_reducible rfl | (apply And.intro <;> rfl)))
  have h := HT.out w2
  have hrt := fun W (hW : Fr [] wa W) A n c (t : List UInt8) (hy : By W A n t) (hn : n ≤ maxLen) => right_any W Sb gb l (HBK.out.keep hW (by simp)) x.b x.m (WalkArith.wf_i64 ⟨HX.out.b.1, by have := HX.out.b.2; omega⟩) A n c t hy hn
  generalize x.text = X at *
  have HRT := Lib.hid hrt
  clear hrt
  refine h.mono ?_
  rintro e w3 ⟨A, c, rfl, hn3⟩
  refine ⟨_, rfl, hHeld.and hn3.2.1 (by simp), fun hHeld => ?_⟩
  have HN3 := Lib.hid hn3
  clear hn3 h
  simp only [Act.put, List.setIfInBounds_toArray, List.set_cons_zero, List.set_cons_succ]
  refine call_at (i := 17) (f := ?_) (args := ?_) rfl (by kernel_rfl) (by rfl) ?_ ?_
  rotate_left 2
  · go_simp
    (try (first | with_reducible rfl | (apply And.intro <;> rfl)))
  refine (HRT.out w3 hHeld A _ c X HN3.out.by (by have := HTL.out; unfold maxLen; omega)).mono ?_
  rw [← HR.out]
  rintro e w4 ⟨rfl, hf4⟩
  refine ⟨_, rfl, hHeld.and hf4 (by simp), fun hHeld => ?_⟩
  clear hf4
  simp only [Act.put, List.setIfInBounds_toArray, List.set_cons_zero, List.set_cons_succ]
  refine run_at (i := 18) (v := ?_) rfl (by kernel_rfl) (by rfl) (fun _ _ _ h => h) hHeld (fun w1 hw1 => ?_) ?_
  rotate_left 1
  · skip
    go_simp
    (try (first | with_reducible rfl | (apply And.intro <;> rfl)))
  simp only [Act.put, List.setIfInBounds_toArray, List.set_cons_zero, List.set_cons_succ]
  refine run_at (i := 19) (v := ?_) rfl (by kernel_rfl) (by rfl) (fun _ _ _ h => h) hHeld (fun w1 hw1 => ?_) ?_
  rotate_left 1
  · skip
    go_simp
    (try (first | with_reducible rfl | (apply And.intro <;> rfl)))
  simp only [Act.put, List.setIfInBounds_toArray, List.set_cons_zero, List.set_cons_succ]
  refine wpAnyH_done (by kernel_rfl) ?_ _
  go_wp2
  go_ret
  exact ⟨rfl, HF0.out.and hHeld (by simp)⟩

/-- what opens a commitment -/
def opnCells (i : Int) (A : Option Addr) (n cap : Nat) (h : List UInt8) : List Value := .int .i64 i :: .slice A n cap :: h.map by8
theorem opn_len (i : Int) (A : Option Addr) (n cap : Nat) (h : List UInt8) (hh : h.length = 32) : (opnCells i A n cap h).length = 34 := by simp [opnCells, hh]
theorem opn_at {w : World} {g : Nat} {i : Int} {A : Option Addr} {n cap : Nat} {h : List UInt8} (hr : w.rangeAt g 0 (opnCells i A n cap h)) : w.cell? ⟨g, 1, none⟩ = some (.slice A n cap) ∧ w.rangeAt g 2 (h.map by8) := by
  refine ⟨rangeAt_cell hr 1 rfl rfl, ?_⟩
  have e : opnCells i A n cap h = [.int .i64 i, .slice A n cap] ++ (h.map by8 ++ []) := by simp [opnCells]
  rw [e] at hr
  simpa using rangeAt_sub hr
end Go.Proofs.Ytlkhfhhaallhgaa
