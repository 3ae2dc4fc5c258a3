/- The walk of ShaApart. -/
import Derived.Test.YtjlmackfmmaknaaDoorSet2
import Derived.Test.YtjlmackfmmaknaaDoorShaW
import Derived.Test.YtjlmackfmmaknaaDoorRead
import Derived.Deep.CutBlock
namespace Go.Proofs.YtjlmackfmmaknaaDoor
open Go.RowKit
set_option maxRecDepth 100000

theorem newSet_ex (w : World) : Calls Tryd.prog 17 #[] w fun e w' => ∃ S g, e = .returned (.pointer (some ⟨g, 0, none⟩)) ∧ Sok w' S g [] ∧ Fr [] w w' ∧ ∀ x ∈ S, w.heap.size ≤ x :=
  (newSet_any w).mono fun e w' ⟨he, hs, hf⟩ => ⟨_, _, he, hs, hf, by simp⟩
set_option maxHeartbeats 4000000 in
theorem shaApart_walk (w : World) (a : List UInt8) (ha : a.length = 32) (b : List UInt8) (hb : b.length = 32) (hK : KW w) :
    Calls Tryd.prog 5 #[.agg (a.map by8).toArray, .agg (b.map by8).toArray] w fun e w' => e = .returned (.bool true) ∧ Fr [] w w' := by
  obtain ⟨wa, hwa⟩ : ∃ wa, wa = (w.alloc (Obj.cells (a.map by8).toArray 26)).alloc (Obj.cells (b.map by8).toArray 26) := ⟨_, rfl⟩
  have hf0 : Fr [] w wa := by rw [hwa]; exact ((Fr.refl [] w).alloc _).alloc _
  have hb1 : Blk wa w.heap.size 26 (a.map by8).toArray := by rw [hwa]; exact blk_alloc (Blk.new _ _ _)
  have hb2 : Blk wa (w.heap.size + 1) 26 (b.map by8).toArray := by
    have := Blk.new (w.alloc (Obj.cells (a.map by8).toArray 26)) 26 (b.map by8).toArray
    rw [hwa]
    simpa using this
  have HR1 := Lib.hid hb1.range
  have HR2 := Lib.hid hb2.range
  have HSZ : Hid (w.heap.size + 1 < wa.heap.size) := Lib.hid hb2.lt
  have HF0 := Lib.hid hf0
  have HWA := Lib.hid hwa
  have HK := Lib.hid hK
  have HL1 : Hid ((a.map by8).length = 32) := Lib.hid (by rw [List.length_map]; exact ha)
  have HL2 : Hid ((b.map by8).length = 32) := Lib.hid (by rw [List.length_map]; exact hb)
  have hAddA := fun W S g l k => add_any W S g l k a ha
  have hAddB := fun W S g l k => add_any W S g l k b hb
  have hHasA := fun W S g l k => has_any W S g l k a ha
  have hHasB := fun W S g l k => has_any W S g l k b hb
  have hq := fun W => hash_eql a b ha hb W
  obtain ⟨d, hd⟩ : ∃ d, d = decide (a = b) := ⟨_, rfl⟩
  have hd2 : decide (b ∈ [a]) = d := by rw [hd, Bool.eq_iff_iff]; simp; exact eq_comm
  rw [← hd] at hq
  have hdd : (d == d) = true := by simp
  have HQ := Lib.hid hq
  have HD2 := Lib.hid hd2
  have HA1 := Lib.hid hAddA
  have HA2 := Lib.hid hAddB
  have HH1 := Lib.hid hHasA
  have HH2 := Lib.hid hHasB
  clear hwa hf0 hb1 hb2 hK ha hb hAddA hAddB hHasA hHasB hq hd2 hd
  generalize a.map by8 = CA at *
  generalize b.map by8 = CB at *
  go_enter Tryd.func5, Tryd.ntmps5
  go_upto_region 1 with (fail)
  rw [← HWA.out]
  go_wp2_with fail
  refine (newSet_ex _).mono ?_
  rintro e w1 ⟨S1, g1, rfl, hs1, hf1, hn1⟩
  have HS1 := Lib.hid hs1
  have HF1 := Lib.hid hf1
  have HN1 := Lib.hid hn1
  clear hs1 hf1 hn1
  go_wp2_with fail
  refine (newSet_ex _).mono ?_
  rintro e w2 ⟨S2, g2, rfl, hs2, hf2, hn2⟩
  have HD1 : Hid (∀ x ∈ S1, ¬ x ∈ S2) := Lib.hid (fun x hx hy => by have := HS1.out.lt x hx; have := hn2 x hy; omega)
  have HD2' : Hid (∀ x ∈ S2, ¬ x ∈ S1) := Lib.hid (fun x hx hy => HD1.out x hy hx)
  have HN2 := Lib.hid (fun x hx => Nat.le_trans HF1.out.size (hn2 x hx))
  have HS1 := Lib.hid (HS1.out.keep hf2 (by simp))
  have HS2 := Lib.hid hs2
  have HF2 := Lib.hid (HF1.out.and hf2 (by simp))
  clear hs2 hf2 hn2
  go_upto_region 4 with (fail)
  have HR1 := Lib.hid (HF2.out.range HR1.out (by simp))
  have HR2 := Lib.hid (HF2.out.range HR2.out (by simp))
  have HNN : Hid (∀ x ∈ S1 ++ S2, wa.heap.size ≤ x) := Lib.hid (fun x hx => by rcases List.mem_append.1 hx with h | h; exact HN1.out x h; exact HN2.out x h)
  have HNS : Hid (¬ w.heap.size ∈ S1 ++ S2) := Lib.hid (fun h => by have := HNN.out _ h; have := HSZ.out; omega)
  have HNW : Hid (¬ w.heap.size + 1 ∈ S1 ++ S2) := Lib.hid (fun h => by have := HNN.out _ h; have := HSZ.out; omega)
  have HFX : Hid (∀ W, Fr (S1 ++ S2) w2 W → Fr [] w W) := Lib.hid (fun W h => HF0.out.and (HF2.out.and h HNN.out) (by simp))
  have HM1 : Hid (∀ x, x ∈ S1 → x ∈ S1 ++ S2) := Lib.hid (fun x h => List.mem_append.2 (.inl h))
  have HM2 : Hid (∀ x, x ∈ S2 → x ∈ S1 ++ S2) := Lib.hid (fun x h => List.mem_append.2 (.inr h))
  have HK2 := Lib.hid (HK.out.keep (HF0.out.and HF2.out (by simp)) (by simp))
  have HKX : Hid (∀ W, Fr (S1 ++ S2) w2 W → KW W) := Lib.hid (fun W h => HK.out.keep (HFX.out W h) (by simp))
  have HS1 : Hid (Sok w2.drew S1 g1 []) := Lib.hid (HS1.out.keep (Fr.drew (Fr.refl [] w2)) (by simp))
  have HS2 : Hid (Sok w2.drew S2 g2 []) := Lib.hid (HS2.out.keep (Fr.drew (Fr.refl [] w2)) (by simp))
  generalize S1 ++ S2 = SS at *
  refine wp_region_held_drew (S := Fr SS w2) (by kernel_rfl) (Fr.drew (Fr.refl _ w2)) (fun hHeld => ?_)
  generalize w2.drew = wd at *
  refine run_at (i := 0) (v := ?_) rfl (by kernel_rfl) (by rfl) (fun _ _ _ h => h) hHeld (fun w1 hw1 => ?_) ?_
  rotate_left 1
  · skip
    go_simp
    (try (first | with_reducible rfl | (apply And.intro <;> rfl)))
  simp only [Act.put, List.setIfInBounds_toArray, List.set_cons_zero, List.set_cons_succ]
  refine row_at (i := 1) rfl (by kernel_rfl) (by rfl) _ _ rfl _ _ rfl _ (fun w1 hw1 => hw1.range (HR1.out) (by first | (simp; done) | exact HNS.out | exact HNW.out | (intro hm; have hlt := HSB.out _ hm; (try dsimp only at hlt); omega))) (row_hash.of HL1.out) (fun _ _ _ h => h) hHeld ?_
  simp only [Act.put, List.setIfInBounds_toArray, List.set_cons_zero, List.set_cons_succ]
  refine call_at (i := 2) (f := ?_) (args := ?_) rfl (by kernel_rfl) (by rfl) ?_ ?_
  rotate_left 2
  · go_simp
    (try (first | with_reducible rfl | (apply And.intro <;> rfl)))
  refine (HA1.out _ _ _ _ HS1.out (by decide)).mono ?_
  rintro e w3 ⟨rfl, hs3, hf3⟩
  have HS1 : Hid (Sok w3 S1 g1 [a]) := Lib.hid (by simpa [adds] using hs3)
  have HS2 := Lib.hid (HS2.out.keep hf3 HD2'.out)
  refine ⟨_, rfl, hHeld.trans hf3 (fun x hx _ => HM1.out x hx), fun hHeld => ?_⟩
  clear hs3 hf3
  simp only [Act.put, List.setIfInBounds_toArray, List.set_cons_zero, List.set_cons_succ]
  refine run_at (i := 3) (v := ?_) rfl (by kernel_rfl) (by rfl) (fun _ _ _ h => h) hHeld (fun w1 hw1 => ?_) ?_
  rotate_left 1
  · skip
    go_simp
    (try (first | with_reducible rfl | (apply And.intro <;> rfl)))
  simp only [Act.put, List.setIfInBounds_toArray, List.set_cons_zero, List.set_cons_succ]
  refine run_at (i := 4) (v := ?_) rfl (by kernel_rfl) (by rfl) (fun _ _ _ h => h) hHeld (fun w1 hw1 => ?_) ?_
  rotate_left 1
  · skip
    go_simp
    (try (first | with_reducible rfl | (apply And.intro <;> rfl)))
  simp only [Act.put, List.setIfInBounds_toArray, List.set_cons_zero, List.set_cons_succ]
  refine row_at (i := 5) rfl (by kernel_rfl) (by rfl) _ _ rfl _ _ rfl _ (fun w1 hw1 => hw1.range (HR1.out) (by first | (simp; done) | exact HNS.out | exact HNW.out | (intro hm; have hlt := HSB.out _ hm; (try dsimp only at hlt); omega))) (row_hash.of HL1.out) (fun _ _ _ h => h) hHeld ?_
  simp only [Act.put, List.setIfInBounds_toArray, List.set_cons_zero, List.set_cons_succ]
  refine call_at (i := 6) (f := ?_) (args := ?_) rfl (by kernel_rfl) (by rfl) ?_ ?_
  rotate_left 2
  · go_simp
    (try (first | with_reducible rfl | (apply And.intro <;> rfl)))
  refine (HA1.out _ _ _ _ HS1.out (by simp)).mono ?_
  rintro e w4 ⟨rfl, hs4, hf4⟩
  have HS1 : Hid (Sok w4 S1 g1 [a]) := Lib.hid (by simpa [adds] using hs4)
  have HS2 := Lib.hid (HS2.out.keep hf4 HD2'.out)
  refine ⟨_, rfl, hHeld.trans hf4 (fun x hx _ => HM1.out x hx), fun hHeld => ?_⟩
  clear hs4 hf4
  rw [show (!decide (a ∈ [a])) = false by simp]
  simp only [Act.put, List.setIfInBounds_toArray, List.set_cons_zero, List.set_cons_succ]
  refine run_at (i := 7) (v := ?_) rfl (by kernel_rfl) (by rfl) (fun _ _ _ h => h) hHeld (fun w1 hw1 => ?_) ?_
  rotate_left 1
  · skip
    go_simp
    (try (first | with_reducible rfl | (apply And.intro <;> rfl)))
  simp only [Act.put, List.setIfInBounds_toArray, List.set_cons_zero, List.set_cons_succ]
  refine run_at (i := 8) (v := ?_) rfl (by kernel_rfl) (by rfl) (fun _ _ _ h => h) hHeld (fun w1 hw1 => ?_) ?_
  rotate_left 1
  · skip
    go_simp
    (try (first | with_reducible rfl | (apply And.intro <;> rfl)))
  simp only [Act.put, List.setIfInBounds_toArray, List.set_cons_zero, List.set_cons_succ]
  refine run_at (i := 9) (v := ?_) rfl (by kernel_rfl) (by rfl) (fun _ _ _ h => h) hHeld (fun w1 hw1 => ?_) ?_
  rotate_left 1
  · skip
    go_simp
    (try (first | with_reducible rfl | (apply And.intro <;> rfl)))
  simp only [Act.put, List.setIfInBounds_toArray, List.set_cons_zero, List.set_cons_succ]
  refine run_at (i := 10) (v := ?_) rfl (by kernel_rfl) (by rfl) (fun _ _ _ h => h) hHeld (fun w1 hw1 => ?_) ?_
  rotate_left 1
  · skip
    go_simp
    (try (first | with_reducible rfl | (apply And.intro <;> rfl)))
  simp only [Act.put, List.setIfInBounds_toArray, List.set_cons_zero, List.set_cons_succ]
  refine row_at (i := 11) rfl (by kernel_rfl) (by rfl) _ _ rfl _ _ rfl _ (fun w1 hw1 => hw1.range (HR1.out) (by first | (simp; done) | exact HNS.out | exact HNW.out | (intro hm; have hlt := HSB.out _ hm; (try dsimp only at hlt); omega))) (row_hash.of HL1.out) (fun _ _ _ h => h) hHeld ?_
  simp only [Act.put, List.setIfInBounds_toArray, List.set_cons_zero, List.set_cons_succ]
  refine call_at (i := 12) (f := ?_) (args := ?_) rfl (by kernel_rfl) (by rfl) ?_ ?_
  rotate_left 2
  · go_simp
    (try (first | with_reducible rfl | (apply And.intro <;> rfl)))
  refine (HH1.out _ _ _ _ HS2.out).mono ?_
  rintro e w5 ⟨rfl, hf5⟩
  have HS1 := Lib.hid (HS1.out.keep hf5 (by simp))
  have HS2 := Lib.hid (HS2.out.keep hf5 (by simp))
  refine ⟨_, rfl, hHeld.trans hf5 (by simp), fun hHeld => ?_⟩
  clear hf5
  rw [show decide (a ∈ ([] : List (List UInt8))) = false by simp]
  simp only [Act.put, List.setIfInBounds_toArray, List.set_cons_zero, List.set_cons_succ]
  refine run_at (i := 13) (v := ?_) rfl (by kernel_rfl) (by rfl) (fun _ _ _ h => h) hHeld (fun w1 hw1 => ?_) ?_
  rotate_left 1
  · skip
    go_simp
    (try (first | with_reducible rfl | (apply And.intro <;> rfl)))
  simp only [Act.put, List.setIfInBounds_toArray, List.set_cons_zero, List.set_cons_succ]
  refine run_at (i := 14) (v := ?_) rfl (by kernel_rfl) (by rfl) (fun _ _ _ h => h) hHeld (fun w1 hw1 => ?_) ?_
  rotate_left 1
  · skip
    go_simp
    (try (first | with_reducible rfl | (apply And.intro <;> rfl)))
  simp only [Act.put, List.setIfInBounds_toArray, List.set_cons_zero, List.set_cons_succ]
  refine run_at (i := 15) (v := ?_) rfl (by kernel_rfl) (by rfl) (fun _ _ _ h => h) hHeld (fun w1 hw1 => ?_) ?_
  rotate_left 1
  · skip
    go_simp
    (try (first | with_reducible rfl | (apply And.intro <;> rfl)))
  simp only [Act.put, List.setIfInBounds_toArray, List.set_cons_zero, List.set_cons_succ]
  refine run_at (i := 16) (v := ?_) rfl (by kernel_rfl) (by rfl) (fun _ _ _ h => h) hHeld (fun w1 hw1 => ?_) ?_
  rotate_left 1
  · skip
    go_simp
    (try (first | with_reducible rfl | (apply And.intro <;> rfl)))
  simp only [Act.put, List.setIfInBounds_toArray, List.set_cons_zero, List.set_cons_succ]
  refine row_at (i := 17) rfl (by kernel_rfl) (by rfl) _ _ rfl _ _ rfl _ (fun w1 hw1 => hw1.range (HR2.out) (by first | (simp; done) | exact HNS.out | exact HNW.out | (intro hm; have hlt := HSB.out _ hm; (try dsimp only at hlt); omega))) (row_hash.of HL2.out) (fun _ _ _ h => h) hHeld ?_
  simp only [Act.put, List.setIfInBounds_toArray, List.set_cons_zero, List.set_cons_succ]
  refine call_at (i := 18) (f := ?_) (args := ?_) rfl (by kernel_rfl) (by rfl) ?_ ?_
  rotate_left 2
  · go_simp
    (try (first | with_reducible rfl | (apply And.intro <;> rfl)))
  refine (HA2.out _ _ _ _ HS2.out (by decide)).mono ?_
  rintro e w6 ⟨rfl, hs6, hf6⟩
  have HS2 : Hid (Sok w6 S2 g2 [b]) := Lib.hid (by simpa [adds] using hs6)
  have HS1 := Lib.hid (HS1.out.keep hf6 HD1.out)
  refine ⟨_, rfl, hHeld.trans hf6 (fun x hx _ => HM2.out x hx), fun hHeld => ?_⟩
  clear hs6 hf6
  rw [show (!decide (b ∈ ([] : List (List UInt8)))) = true by simp]
  simp only [Act.put, List.setIfInBounds_toArray, List.set_cons_zero, List.set_cons_succ]
  refine run_at (i := 19) (v := ?_) rfl (by kernel_rfl) (by rfl) (fun _ _ _ h => h) hHeld (fun w1 hw1 => ?_) ?_
  rotate_left 1
  · skip
    go_simp
    (try (first | with_reducible rfl | (apply And.intro <;> rfl)))
  simp only [Act.put, List.setIfInBounds_toArray, List.set_cons_zero, List.set_cons_succ]
  refine run_at (i := 20) (v := ?_) rfl (by kernel_rfl) (by rfl) (fun _ _ _ h => h) hHeld (fun w1 hw1 => ?_) ?_
  rotate_left 1
  · skip
    go_simp
    (try (first | with_reducible rfl | (apply And.intro <;> rfl)))
  simp only [Act.put, List.setIfInBounds_toArray, List.set_cons_zero, List.set_cons_succ]
  refine run_at (i := 21) (v := ?_) rfl (by kernel_rfl) (by rfl) (fun _ _ _ h => h) hHeld (fun w1 hw1 => ?_) ?_
  rotate_left 1
  · skip
    go_simp
    (try (first | with_reducible rfl | (apply And.intro <;> rfl)))
  simp only [Act.put, List.setIfInBounds_toArray, List.set_cons_zero, List.set_cons_succ]
  refine row_at (i := 22) rfl (by kernel_rfl) (by rfl) _ _ rfl _ _ rfl _ (fun w1 hw1 => hw1.range (HR2.out) (by first | (simp; done) | exact HNS.out | exact HNW.out | (intro hm; have hlt := HSB.out _ hm; (try dsimp only at hlt); omega))) (row_hash.of HL2.out) (fun _ _ _ h => h) hHeld ?_
  simp only [Act.put, List.setIfInBounds_toArray, List.set_cons_zero, List.set_cons_succ]
  refine row_at (i := 24) rfl (by kernel_rfl) (by rfl) _ _ rfl _ _ rfl _ (fun w1 hw1 => hw1.range (HR1.out) (by first | (simp; done) | exact HNS.out | exact HNW.out | (intro hm; have hlt := HSB.out _ hm; (try dsimp only at hlt); omega))) (row_hash.of HL1.out) (fun _ _ _ h => h) hHeld ?_
  simp only [Act.put, List.setIfInBounds_toArray, List.set_cons_zero, List.set_cons_succ]
  refine row_at (i := 25) rfl (by kernel_rfl) (by rfl) _ _ rfl _ _ rfl _ (fun w1 hw1 => hw1.range (HR2.out) (by first | (simp; done) | exact HNS.out | exact HNW.out | (intro hm; have hlt := HSB.out _ hm; (try dsimp only at hlt); omega))) (row_hash.of HL2.out) (fun _ _ _ h => h) hHeld ?_
  simp only [Act.put, List.setIfInBounds_toArray, List.set_cons_zero, List.set_cons_succ]
  refine run_at (i := 26) (v := ?_) rfl (by kernel_rfl) (by rfl) (fun _ _ _ h => h) hHeld (fun w1 hw1 => ?_) ?_
  rotate_left 1
  · have hlk := HQ.out w1
    go_simp
    (try (first | with_reducible rfl | (apply And.intro <;> rfl)))
  simp only [Act.put, List.setIfInBounds_toArray, List.set_cons_zero, List.set_cons_succ]
  refine call_at (i := 23) (f := ?_) (args := ?_) rfl (by kernel_rfl) (by rfl) ?_ ?_
  rotate_left 2
  · go_simp
    (try (first | with_reducible rfl | (apply And.intro <;> rfl)))
  refine (HH2.out _ _ _ _ HS1.out).mono ?_
  rw [HD2.out]
  rintro e w7 ⟨rfl, hf7⟩
  have HS1 := Lib.hid (HS1.out.keep hf7 (by simp))
  have HS2 := Lib.hid (HS2.out.keep hf7 (by simp))
  refine ⟨_, rfl, hHeld.trans hf7 (by simp), fun hHeld => ?_⟩
  clear hf7
  simp only [Act.put, List.setIfInBounds_toArray, List.set_cons_zero, List.set_cons_succ]
  refine run_at (i := 27) (v := ?_) rfl (by kernel_rfl) (by rfl) (fun _ _ _ h => h) hHeld (fun w1 hw1 => ?_) ?_
  rotate_left 1
  · skip
    go_simp
    (try (first | with_reducible rfl | (apply And.intro <;> rfl)))
  simp only [Act.put, List.setIfInBounds_toArray, List.set_cons_zero, List.set_cons_succ]
  refine run_at (i := 28) (v := ?_) rfl (by kernel_rfl) (by rfl) (fun _ _ _ h => h) hHeld (fun w1 hw1 => ?_) ?_
  rotate_left 1
  · skip
    go_simp
    (try (first | with_reducible rfl | (apply And.intro <;> rfl)))
  simp only [Act.put, List.setIfInBounds_toArray, List.set_cons_zero, List.set_cons_succ]
  refine run_at (i := 29) (v := ?_) rfl (by kernel_rfl) (by rfl) (fun _ _ _ h => h) hHeld (fun w1 hw1 => ?_) ?_
  rotate_left 1
  · skip
    go_simp
    (try (first | with_reducible rfl | (apply And.intro <;> rfl)))
  simp only [Act.put, List.setIfInBounds_toArray, List.set_cons_zero, List.set_cons_succ]
  refine run_at (i := 30) (v := ?_) rfl (by kernel_rfl) (by rfl) (fun _ _ _ h => h) hHeld (fun w1 hw1 => ?_) ?_
  rotate_left 1
  · skip
    go_simp
    (try (first | with_reducible rfl | (apply And.intro <;> rfl)))
  simp only [Act.put, List.setIfInBounds_toArray, List.set_cons_zero, List.set_cons_succ]
  refine call_at (i := 31) (f := ?_) (args := ?_) rfl (by kernel_rfl) (by rfl) ?_ ?_
  rotate_left 2
  · go_simp
    (try (first | with_reducible rfl | (apply And.intro <;> rfl)))
  refine (setLen_any _ _ _ _ HS1.out).mono ?_
  rintro e w8 ⟨rfl, rfl⟩
  refine ⟨_, rfl, hHeld, fun hHeld => ?_⟩
  simp only [Act.put, List.setIfInBounds_toArray, List.set_cons_zero, List.set_cons_succ]
  refine run_at (i := 32) (v := ?_) rfl (by kernel_rfl) (by rfl) (fun _ _ _ h => h) hHeld (fun w1 hw1 => ?_) ?_
  rotate_left 1
  · skip
    go_simp
    (try (first | with_reducible rfl | (apply And.intro <;> rfl)))
  simp only [Act.put, List.setIfInBounds_toArray, List.set_cons_zero, List.set_cons_succ]
  refine run_at (i := 33) (v := ?_) rfl (by kernel_rfl) (by rfl) (fun _ _ _ h => h) hHeld (fun w1 hw1 => ?_) ?_
  rotate_left 1
  · skip
    go_simp
    (try (first | with_reducible rfl | (apply And.intro <;> rfl)))
  simp only [Act.put, List.setIfInBounds_toArray, List.set_cons_zero, List.set_cons_succ]
  refine run_at (i := 34) (v := ?_) rfl (by kernel_rfl) (by rfl) (fun _ _ _ h => h) hHeld (fun w1 hw1 => ?_) ?_
  rotate_left 1
  · skip
    go_simp
    (try (first | with_reducible rfl | (apply And.intro <;> rfl)))
  simp only [Act.put, List.setIfInBounds_toArray, List.set_cons_zero, List.set_cons_succ]
  refine run_at (i := 35) (v := ?_) rfl (by kernel_rfl) (by rfl) (fun _ _ _ h => h) hHeld (fun w1 hw1 => ?_) ?_
  rotate_left 1
  · skip
    go_simp
    (try (first | with_reducible rfl | (apply And.intro <;> rfl)))
  simp only [Act.put, List.setIfInBounds_toArray, List.set_cons_zero, List.set_cons_succ]
  refine call_at (i := 36) (f := ?_) (args := ?_) rfl (by kernel_rfl) (by rfl) ?_ ?_
  rotate_left 2
  · go_simp
    (try (first | with_reducible rfl | (apply And.intro <;> rfl)))
  refine (setLen_any _ _ _ _ HS2.out).mono ?_
  rintro e w8 ⟨rfl, rfl⟩
  refine ⟨_, rfl, hHeld, fun hHeld => ?_⟩
  simp only [Act.put, List.setIfInBounds_toArray, List.set_cons_zero, List.set_cons_succ]
  refine run_at (i := 37) (v := ?_) rfl (by kernel_rfl) (by rfl) (fun _ _ _ h => h) hHeld (fun w1 hw1 => ?_) ?_
  rotate_left 1
  · skip
    go_simp
    (try (first | with_reducible rfl | (apply And.intro <;> rfl)))
  simp only [Act.put, List.setIfInBounds_toArray, List.set_cons_zero, List.set_cons_succ]
  refine run_at (i := 38) (v := ?_) rfl (by kernel_rfl) (by rfl) (fun _ _ _ h => h) hHeld (fun w1 hw1 => ?_) ?_
  rotate_left 1
  · skip
    go_simp
    (try (first | with_reducible rfl | (apply And.intro <;> rfl)))
  simp only [Act.put, List.setIfInBounds_toArray, List.set_cons_zero, List.set_cons_succ]
  refine run_at (i := 39) (v := ?_) rfl (by kernel_rfl) (by rfl) (fun _ _ _ h => h) hHeld (fun w1 hw1 => ?_) ?_
  rotate_left 1
  · skip
    go_simp
    (try (first | with_reducible rfl | (apply And.intro <;> rfl)))
  simp only [Act.put, List.setIfInBounds_toArray, List.set_cons_zero, List.set_cons_succ]
  refine call_at (i := 40) (f := ?_) (args := ?_) rfl (by kernel_rfl) (by rfl) ?_ ?_
  rotate_left 2
  · go_simp
    (try (first | with_reducible rfl | (apply And.intro <;> rfl)))
  refine (shawakes_any _ (HKX.out _ hHeld)).mono ?_
  rintro e w9 ⟨rfl, hf9⟩
  refine ⟨_, rfl, hHeld.trans hf9 (by simp), fun hHeld => ?_⟩
  simp only [Act.put, List.setIfInBounds_toArray, List.set_cons_zero, List.set_cons_succ]
  refine run_at (i := 41) (v := ?_) rfl (by kernel_rfl) (by rfl) (fun _ _ _ h => h) hHeld (fun w1 hw1 => ?_) ?_
  rotate_left 1
  · skip
    go_simp
    (try (first | with_reducible rfl | (apply And.intro <;> rfl)))
  simp only [Act.put, List.setIfInBounds_toArray, List.set_cons_zero, List.set_cons_succ]
  refine run_at (i := 42) (v := ?_) rfl (by kernel_rfl) (by rfl) (fun _ _ _ h => h) hHeld (fun w1 hw1 => ?_) ?_
  rotate_left 1
  · skip
    go_simp
    (try (first | with_reducible rfl | (apply And.intro <;> rfl)))
  simp only [Act.put, List.setIfInBounds_toArray, List.set_cons_zero, List.set_cons_succ]
  refine wpAnyH_done (by kernel_rfl) ?_ _
  go_wp2
  go_ret
  exact ⟨rfl, HFX.out _ hHeld⟩
end Go.Proofs.YtjlmackfmmaknaaDoor
