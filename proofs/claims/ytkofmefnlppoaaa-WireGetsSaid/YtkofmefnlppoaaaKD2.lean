/- Texts that the proof stands on: gavelref01's small writers: a name, a signature, a commitment, a stamp, an ack, a denial, a vote, an opening; what is signed of them. (written by gen_doc.py) | Package part: batches as values; what their writer writes. | Package wire: a batch's hash; what is signed of a promise, of a proposal. | gavelref01's writers of lists: a certificate, a promise, a batch; what is signed of a promise. (written by gen_doc.py) | gavelref01's PutBatch. (written by gen_doc.py) | Names, configurations and commitments that come in: what their reading says of cells. | Commitments that come in: what their reading says of cells. | Stamps, acks, votes, denials, signatures that come in: what their reading says of cells. | Copies of lists of structs: gavelkeep's Copy and Cut of stamps. -/
import Derived.Test.YtkofmefnlppoaaaKD1
import Derived.Test.YtkofmefnlppoaaaRefTx
import Derived.Test.YtkofmefnlppoaaaShaQ
import Derived.Test.YtkofmefnlppoaaaCm3
import Derived.Test.YtkofmefnlppoaaaActs
import Derived.Test.YtkofmefnlppoaaaOpen
set_option maxRecDepth 100000

namespace Go.Proofs.Ytkofmefnlppoaaa
open Go.RowKit
set_option maxRecDepth 100000

set_option maxHeartbeats 4000000 in
theorem refsig_any (y z : Int) (hy : i64In y) (hz : i64In z) (w : World) :
    Calls Try.prog 41 #[.agg #[.int .i64 y, .int .i64 z]] w fun e w' => ∃ A c, e = .returned (.slice A (sgL y z).length c) ∧ NewB w w' A (sgL y z).length c (sgL y z) := by
  obtain ⟨wa, hwa⟩ : ∃ wa, wa = w.alloc (Obj.cells #[.int .i64 y, .int .i64 z] 27) := ⟨_, rfl⟩
  have hf0 : Fr [] w wa := by rw [hwa]; exact (Fr.refl [] w).alloc _
  have HC0 : Hid (wa.cell? ⟨w.heap.size, 0, none⟩ = some (.int .i64 y)) := Lib.hid (by rw [hwa]; exact (Blk.new _ _ _).cell 0)
  have HC1 : Hid (wa.cell? ⟨w.heap.size, 1, none⟩ = some (.int .i64 z)) := Lib.hid (by rw [hwa]; exact (Blk.new _ _ _).cell 1)
  have HX := Lib.hid (And.intro hy hz)
  clear hy hz
  have HF0 := Lib.hid hf0
  have HWA := Lib.hid hwa
  clear hwa hf0
  go_enter Try.func41, Try.ntmps41
  go_wp2
  rw [← HWA.out]
  refine wp_region_held_drew (S := Fr [] wa) (by kernel_rfl) (Fr.drew (Fr.refl _ wa)) (fun hHeld => ?_)
  have HFD : Hid (Fr [] wa wa.drew) := Lib.hid (Fr.drew (Fr.refl [] wa))
  generalize wa.drew = wd at *
  refine run_at (i := 0) (v := ?_) rfl (by kernel_rfl) (by rfl) (fun _ _ _ h => h) hHeld (fun w1 hw1 => ?_) ?_
  rotate_left 1
  · skip
    go_simp
    (try (first | with_reducible rfl | (apply And.intro <;> rfl)))
  simp only [Act.put, List.setIfInBounds_toArray, List.set_cons_zero, List.set_cons_succ]
  refine run_at (i := 1) (v := ?_) rfl (by kernel_rfl) (by rfl) (fun _ _ _ h => h) hHeld (fun w1 hw1 => ?_) ?_
  rotate_left 1
  · skip
    have hcw0 := hw1.cell (HC0.out) (by first | (simp; done) | exact HNS.out | exact HNW.out | (intro hm; have hlt := HSB.out _ hm; (try dsimp only at hlt); omega))
    go_simp
    (try (first | with_reducible rfl | (apply And.intro <;> rfl)))
  simp only [Act.put, List.setIfInBounds_toArray, List.set_cons_zero, List.set_cons_succ]
  refine run_at (i := 3) (v := ?_) rfl (by kernel_rfl) (by rfl) (fun _ _ _ h => h) hHeld (fun w1 hw1 => ?_) ?_
  rotate_left 1
  · skip
    go_simp
    (try (first | with_reducible rfl | (apply And.intro <;> rfl)))
  simp only [Act.put, List.setIfInBounds_toArray, List.set_cons_zero, List.set_cons_succ]
  refine run_at (i := 4) (v := ?_) rfl (by kernel_rfl) (by rfl) (fun _ _ _ h => h) hHeld (fun w1 hw1 => ?_) ?_
  rotate_left 1
  · skip
    have hcw0 := hw1.cell (HC1.out) (by first | (simp; done) | exact HNS.out | exact HNW.out | (intro hm; have hlt := HSB.out _ hm; (try dsimp only at hlt); omega))
    go_simp
    (try (first | with_reducible rfl | (apply And.intro <;> rfl)))
  simp only [Act.put, List.setIfInBounds_toArray, List.set_cons_zero, List.set_cons_succ]
  refine call_at (i := 2) (f := ?_) (args := ?_) rfl (by kernel_rfl) (by rfl) ?_ ?_
  rotate_left 2
  · go_simp
    (try (first | with_reducible rfl | (apply And.intro <;> rfl)))
  refine (refint_any y HX.out.1.2 wd).mono ?_
  rintro e w2 ⟨A2, c2, rfl, hN⟩
  obtain ⟨n2, hn2⟩ : ∃ nn_, nn_ = (encI y).length := ⟨_, rfl⟩
  obtain ⟨l2, hl2⟩ : ∃ ll_, ll_ = encI y := ⟨_, rfl⟩
  rw [← hn2] at hN ⊢
  rw [← hl2] at hN
  have HB2 : Hid (n2 ≤ 20000) := Lib.hid (by rw [hn2]; have := encI_len y HX.out.1.2; omega)
  have HL2 := Lib.hid hl2
  refine ⟨_, rfl, hHeld.go hN.2.1 (by simp), fun hHeld => ?_⟩
  simp only [Act.put, List.setIfInBounds_toArray, List.set_cons_zero, List.set_cons_succ]
  have HY2 := Lib.hid hN.by
  have HFD := Lib.hid (HFD.out.and hN.2.1 (by simp))
  clear hN hn2 hl2
  refine call_at (i := 5) (f := ?_) (args := ?_) rfl (by kernel_rfl) (by rfl) ?_ ?_
  rotate_left 2
  · go_simp
    (try (first | with_reducible rfl | (apply And.intro <;> rfl)))
  refine (refint_any z HX.out.2.2 w2).mono ?_
  rintro e w5 ⟨A5, c5, rfl, hN⟩
  obtain ⟨n5, hn5⟩ : ∃ nn_, nn_ = (encI z).length := ⟨_, rfl⟩
  obtain ⟨l5, hl5⟩ : ∃ ll_, ll_ = encI z := ⟨_, rfl⟩
  rw [← hn5] at hN ⊢
  rw [← hl5] at hN
  have HB5 : Hid (n5 ≤ 20000) := Lib.hid (by rw [hn5]; have := encI_len z HX.out.2.2; omega)
  have HL5 := Lib.hid hl5
  refine ⟨_, rfl, hHeld.go hN.2.1 (by simp), fun hHeld => ?_⟩
  simp only [Act.put, List.setIfInBounds_toArray, List.set_cons_zero, List.set_cons_succ]
  have HY5 := Lib.hid hN.by
  have HFD := Lib.hid (HFD.out.and hN.2.1 (by simp))
  have HY2 := Lib.hid (Fr.byk hN.2.1 HY2.out)
  clear hN hn5 hl5
  refine step_at (i := 6) rfl (by kernel_rfl) (by rfl) (fun K hK => ?_)
  refine wp_run (v := ?_) (w' := ?_) ?_ ?_
  rotate_left 2
  · go_simp
    (try (first | with_reducible rfl | (apply And.intro <;> rfl)))
  refine hK.out _ (w5.alloc (Obj.cells #[.slice A2 n2 c2, .slice A5 n5 c5] 42)) (hHeld.alloc _) (fun hHeld => ?_)
  clear hK K
  simp only [Act.put, List.setIfInBounds_toArray, List.set_cons_zero, List.set_cons_succ]
  have hfb : Fr [] w5 (w5.alloc (Obj.cells #[.slice A2 n2 c2, .slice A5 n5 c5] 42)) := (Fr.refl [] w5).alloc _
  have hbb : Blk (w5.alloc (Obj.cells #[.slice A2 n2 c2, .slice A5 n5 c5] 42)) w5.heap.size 42 (([⟨A2, n2, c2, l2⟩, ⟨A5, n5, c5, l5⟩] : List RowV).map RowV.val).toArray := Blk.new _ _ _
  generalize w5.alloc (Obj.cells #[.slice A2 n2 c2, .slice A5 n5 c5] 42) = wj at *
  have HFD := Lib.hid (HFD.out.and hfb (by simp))
  have hj := join_big w5.heap.size 2 [⟨A2, n2, c2, l2⟩, ⟨A5, n5, c5, l5⟩] wj hbb rfl (by omega) (by
    intro r hr
    simp only [List.mem_cons, List.not_mem_nil, or_false] at hr
    rcases hr with rfl | rfl
    · exact ⟨Fr.byk hfb HY2.out, HB2.out⟩
    · exact ⟨Fr.byk hfb HY5.out, HB5.out⟩)
  have hJ : joinL [⟨A2, n2, c2, l2⟩, ⟨A5, n5, c5, l5⟩] = sgL y z := by
    simp only [joinL, List.map_cons, List.map_nil, List.flatten_cons, List.flatten_nil, HL2.out, HL5.out]
    simp [sgL]
  rw [hJ] at hj
  obtain ⟨X, hX⟩ : ∃ X, X = sgL y z := ⟨_, rfl⟩
  rw [← hX] at hj
  have HXT := Lib.hid hX
  clear hX
  have HJ := Lib.hid hj
  clear hfb hbb hj hJ HY2 HL2 HY5 HL5
  refine call_at (i := 7) (f := ?_) (args := ?_) rfl (by kernel_rfl) (by rfl) ?_ ?_
  rotate_left 2
  · go_simp
    (try (first | with_reducible rfl | (apply And.intro <;> rfl)))
  refine HJ.out.mono ?_
  rintro e wk ⟨Aj, cj, rfl, hN⟩
  have HN := Lib.hid (hN.from2 (HF0.out.and HFD.out (by simp)))
  refine ⟨_, rfl, hHeld.go hN.2.1 (by simp), fun hHeld => ?_⟩
  clear hN
  simp only [Act.put, List.setIfInBounds_toArray, List.set_cons_zero, List.set_cons_succ]
  refine run_at (i := 8) (v := ?_) rfl (by kernel_rfl) (by rfl) (fun _ _ _ h => h) hHeld (fun w1 hw1 => ?_) ?_
  rotate_left 1
  · skip
    go_simp
    (try (first | with_reducible rfl | (apply And.intro <;> rfl)))
  simp only [Act.put, List.setIfInBounds_toArray, List.set_cons_zero, List.set_cons_succ]
  refine wpAnyH_done (by kernel_rfl) ?_ _
  go_wp2
  go_ret
  rw [← HXT.out]
  exact ⟨Aj, cj, rfl, HN.out⟩
set_option maxHeartbeats 4000000 in
theorem refname_any (y z : Int) (hy : i64In y) (hz : i64In z) (w : World) :
    Calls Try.prog 71 #[.agg #[.int .i64 y, .int .i64 z]] w fun e w' => ∃ A c, e = .returned (.slice A (nmL y z).length c) ∧ NewB w w' A (nmL y z).length c (nmL y z) := by
  obtain ⟨wa, hwa⟩ : ∃ wa, wa = w.alloc (Obj.cells #[.int .i64 y, .int .i64 z] 23) := ⟨_, rfl⟩
  have hf0 : Fr [] w wa := by rw [hwa]; exact (Fr.refl [] w).alloc _
  have HC0 : Hid (wa.cell? ⟨w.heap.size, 0, none⟩ = some (.int .i64 y)) := Lib.hid (by rw [hwa]; exact (Blk.new _ _ _).cell 0)
  have HC1 : Hid (wa.cell? ⟨w.heap.size, 1, none⟩ = some (.int .i64 z)) := Lib.hid (by rw [hwa]; exact (Blk.new _ _ _).cell 1)
  have HX := Lib.hid (And.intro hy hz)
  clear hy hz
  have HF0 := Lib.hid hf0
  have HWA := Lib.hid hwa
  clear hwa hf0
  go_enter Try.func71, Try.ntmps71
  go_wp2
  rw [← HWA.out]
  refine wp_region_held_drew (S := Fr [] wa) (by kernel_rfl) (Fr.drew (Fr.refl _ wa)) (fun hHeld => ?_)
  have HFD : Hid (Fr [] wa wa.drew) := Lib.hid (Fr.drew (Fr.refl [] wa))
  generalize wa.drew = wd at *
  refine run_at (i := 0) (v := ?_) rfl (by kernel_rfl) (by rfl) (fun _ _ _ h => h) hHeld (fun w1 hw1 => ?_) ?_
  rotate_left 1
  · skip
    go_simp
    (try (first | with_reducible rfl | (apply And.intro <;> rfl)))
  simp only [Act.put, List.setIfInBounds_toArray, List.set_cons_zero, List.set_cons_succ]
  refine run_at (i := 1) (v := ?_) rfl (by kernel_rfl) (by rfl) (fun _ _ _ h => h) hHeld (fun w1 hw1 => ?_) ?_
  rotate_left 1
  · skip
    have hcw0 := hw1.cell (HC0.out) (by first | (simp; done) | exact HNS.out | exact HNW.out | (intro hm; have hlt := HSB.out _ hm; (try dsimp only at hlt); omega))
    go_simp
    (try (first | with_reducible rfl | (apply And.intro <;> rfl)))
  simp only [Act.put, List.setIfInBounds_toArray, List.set_cons_zero, List.set_cons_succ]
  refine run_at (i := 3) (v := ?_) rfl (by kernel_rfl) (by rfl) (fun _ _ _ h => h) hHeld (fun w1 hw1 => ?_) ?_
  rotate_left 1
  · skip
    go_simp
    (try (first | with_reducible rfl | (apply And.intro <;> rfl)))
  simp only [Act.put, List.setIfInBounds_toArray, List.set_cons_zero, List.set_cons_succ]
  refine run_at (i := 4) (v := ?_) rfl (by kernel_rfl) (by rfl) (fun _ _ _ h => h) hHeld (fun w1 hw1 => ?_) ?_
  rotate_left 1
  · skip
    have hcw0 := hw1.cell (HC1.out) (by first | (simp; done) | exact HNS.out | exact HNW.out | (intro hm; have hlt := HSB.out _ hm; (try dsimp only at hlt); omega))
    go_simp
    (try (first | with_reducible rfl | (apply And.intro <;> rfl)))
  simp only [Act.put, List.setIfInBounds_toArray, List.set_cons_zero, List.set_cons_succ]
  refine call_at (i := 2) (f := ?_) (args := ?_) rfl (by kernel_rfl) (by rfl) ?_ ?_
  rotate_left 2
  · go_simp
    (try (first | with_reducible rfl | (apply And.intro <;> rfl)))
  refine (refint_any y HX.out.1.2 wd).mono ?_
  rintro e w2 ⟨A2, c2, rfl, hN⟩
  obtain ⟨n2, hn2⟩ : ∃ nn_, nn_ = (encI y).length := ⟨_, rfl⟩
  obtain ⟨l2, hl2⟩ : ∃ ll_, ll_ = encI y := ⟨_, rfl⟩
  rw [← hn2] at hN ⊢
  rw [← hl2] at hN
  have HB2 : Hid (n2 ≤ 20000) := Lib.hid (by rw [hn2]; have := encI_len y HX.out.1.2; omega)
  have HL2 := Lib.hid hl2
  refine ⟨_, rfl, hHeld.go hN.2.1 (by simp), fun hHeld => ?_⟩
  simp only [Act.put, List.setIfInBounds_toArray, List.set_cons_zero, List.set_cons_succ]
  have HY2 := Lib.hid hN.by
  have HFD := Lib.hid (HFD.out.and hN.2.1 (by simp))
  clear hN hn2 hl2
  refine call_at (i := 5) (f := ?_) (args := ?_) rfl (by kernel_rfl) (by rfl) ?_ ?_
  rotate_left 2
  · go_simp
    (try (first | with_reducible rfl | (apply And.intro <;> rfl)))
  refine (refint_any z HX.out.2.2 w2).mono ?_
  rintro e w5 ⟨A5, c5, rfl, hN⟩
  obtain ⟨n5, hn5⟩ : ∃ nn_, nn_ = (encI z).length := ⟨_, rfl⟩
  obtain ⟨l5, hl5⟩ : ∃ ll_, ll_ = encI z := ⟨_, rfl⟩
  rw [← hn5] at hN ⊢
  rw [← hl5] at hN
  have HB5 : Hid (n5 ≤ 20000) := Lib.hid (by rw [hn5]; have := encI_len z HX.out.2.2; omega)
  have HL5 := Lib.hid hl5
  refine ⟨_, rfl, hHeld.go hN.2.1 (by simp), fun hHeld => ?_⟩
  simp only [Act.put, List.setIfInBounds_toArray, List.set_cons_zero, List.set_cons_succ]
  have HY5 := Lib.hid hN.by
  have HFD := Lib.hid (HFD.out.and hN.2.1 (by simp))
  have HY2 := Lib.hid (Fr.byk hN.2.1 HY2.out)
  clear hN hn5 hl5
  refine step_at (i := 6) rfl (by kernel_rfl) (by rfl) (fun K hK => ?_)
  refine wp_run (v := ?_) (w' := ?_) ?_ ?_
  rotate_left 2
  · go_simp
    (try (first | with_reducible rfl | (apply And.intro <;> rfl)))
  refine hK.out _ (w5.alloc (Obj.cells #[.slice A2 n2 c2, .slice A5 n5 c5] 42)) (hHeld.alloc _) (fun hHeld => ?_)
  clear hK K
  simp only [Act.put, List.setIfInBounds_toArray, List.set_cons_zero, List.set_cons_succ]
  have hfb : Fr [] w5 (w5.alloc (Obj.cells #[.slice A2 n2 c2, .slice A5 n5 c5] 42)) := (Fr.refl [] w5).alloc _
  have hbb : Blk (w5.alloc (Obj.cells #[.slice A2 n2 c2, .slice A5 n5 c5] 42)) w5.heap.size 42 (([⟨A2, n2, c2, l2⟩, ⟨A5, n5, c5, l5⟩] : List RowV).map RowV.val).toArray := Blk.new _ _ _
  generalize w5.alloc (Obj.cells #[.slice A2 n2 c2, .slice A5 n5 c5] 42) = wj at *
  have HFD := Lib.hid (HFD.out.and hfb (by simp))
  have hj := join_big w5.heap.size 2 [⟨A2, n2, c2, l2⟩, ⟨A5, n5, c5, l5⟩] wj hbb rfl (by omega) (by
    intro r hr
    simp only [List.mem_cons, List.not_mem_nil, or_false] at hr
    rcases hr with rfl | rfl
    · exact ⟨Fr.byk hfb HY2.out, HB2.out⟩
    · exact ⟨Fr.byk hfb HY5.out, HB5.out⟩)
  have hJ : joinL [⟨A2, n2, c2, l2⟩, ⟨A5, n5, c5, l5⟩] = nmL y z := by
    simp only [joinL, List.map_cons, List.map_nil, List.flatten_cons, List.flatten_nil, HL2.out, HL5.out]
    simp [nmL]
  rw [hJ] at hj
  obtain ⟨X, hX⟩ : ∃ X, X = nmL y z := ⟨_, rfl⟩
  rw [← hX] at hj
  have HXT := Lib.hid hX
  clear hX
  have HJ := Lib.hid hj
  clear hfb hbb hj hJ HY2 HL2 HY5 HL5
  refine call_at (i := 7) (f := ?_) (args := ?_) rfl (by kernel_rfl) (by rfl) ?_ ?_
  rotate_left 2
  · go_simp
    (try (first | with_reducible rfl | (apply And.intro <;> rfl)))
  refine HJ.out.mono ?_
  rintro e wk ⟨Aj, cj, rfl, hN⟩
  have HN := Lib.hid (hN.from2 (HF0.out.and HFD.out (by simp)))
  refine ⟨_, rfl, hHeld.go hN.2.1 (by simp), fun hHeld => ?_⟩
  clear hN
  simp only [Act.put, List.setIfInBounds_toArray, List.set_cons_zero, List.set_cons_succ]
  refine run_at (i := 8) (v := ?_) rfl (by kernel_rfl) (by rfl) (fun _ _ _ h => h) hHeld (fun w1 hw1 => ?_) ?_
  rotate_left 1
  · skip
    go_simp
    (try (first | with_reducible rfl | (apply And.intro <;> rfl)))
  simp only [Act.put, List.setIfInBounds_toArray, List.set_cons_zero, List.set_cons_succ]
  refine wpAnyH_done (by kernel_rfl) ?_ _
  go_wp2
  go_ret
  rw [← HXT.out]
  exact ⟨Aj, cj, rfl, HN.out⟩
set_option maxHeartbeats 4000000 in
theorem refputCommit_any (x : Wcm) (hx : x.Ok) (C : List Value) (hC : x.cells = C) (w : World) :
    Calls Try.prog 36 #[.agg C.toArray] w fun e w' => ∃ A c, e = .returned (.slice A (x.full).length c) ∧ NewB w w' A (x.full).length c (x.full) := by
  obtain ⟨wa, hwa⟩ : ∃ wa, wa = w.alloc (Obj.cells C.toArray 29) := ⟨_, rfl⟩
  have hf0 : Fr [] w wa := by rw [hwa]; exact (Fr.refl [] w).alloc _
  have hb0 : Blk wa w.heap.size 29 x.cells.toArray := by rw [hwa, hC]; exact Blk.new _ _ _
  have HALL : Hid (wa.rangeAt w.heap.size 0 C) := Lib.hid (by rw [← hC]; exact hb0.range)
  have HLN : Hid (C.length = 37) := Lib.hid (by rw [← hC]; exact Wcm.len hx.h)
  have hat := Wcm.at_of (o := 0) hb0.range hx.h
  have HAT := Lib.hid hat
  have HYH : Hid (By wa (some ⟨w.heap.size, 2, none⟩) 32 x.h) := Lib.hid (by have h := By.of_range hat.hash; rw [hx.h] at h; exact h)
  have HX := Lib.hid hx
  have HRC := Lib.hid hC
  clear hb0 hx hC hat
  have HF0 := Lib.hid hf0
  have HWA := Lib.hid hwa
  clear hwa hf0
  go_enter Try.func36, Try.ntmps36
  go_wp2
  rw [← HWA.out]
  refine wp_region_held_drew (S := Fr [] wa) (by kernel_rfl) (Fr.drew (Fr.refl _ wa)) (fun hHeld => ?_)
  have HFD : Hid (Fr [] wa wa.drew) := Lib.hid (Fr.drew (Fr.refl [] wa))
  generalize wa.drew = wd at *
  refine run_at (i := 0) (v := ?_) rfl (by kernel_rfl) (by rfl) (fun _ _ _ h => h) hHeld (fun w1 hw1 => ?_) ?_
  rotate_left 1
  · skip
    go_simp
    (try (first | with_reducible rfl | (apply And.intro <;> rfl)))
  simp only [Act.put, List.setIfInBounds_toArray, List.set_cons_zero, List.set_cons_succ]
  refine row_at (i := 1) rfl (by kernel_rfl) (by rfl) _ _ rfl _ _ rfl _ (fun w1 hw1 => hw1.range (HAT.out.name) (by first | (simp; done) | exact HNS.out | exact HNW.out | (intro hm; have hlt := HSB.out _ hm; (try dsimp only at hlt); omega))) (row_name) (fun _ _ _ h => h) hHeld ?_
  simp only [Act.put, List.setIfInBounds_toArray, List.set_cons_zero, List.set_cons_succ]
  refine run_at (i := 3) (v := ?_) rfl (by kernel_rfl) (by rfl) (fun _ _ _ h => h) hHeld (fun w1 hw1 => ?_) ?_
  rotate_left 1
  · skip
    go_simp
    (try (first | with_reducible rfl | (apply And.intro <;> rfl)))
  simp only [Act.put, List.setIfInBounds_toArray, List.set_cons_zero, List.set_cons_succ]
  refine run_at (i := 4) (v := ?_) rfl (by kernel_rfl) (by rfl) (fun _ _ _ h => h) hHeld (fun w1 hw1 => ?_) ?_
  rotate_left 1
  · skip
    go_simp
    (try (first | with_reducible rfl | (apply And.intro <;> rfl)))
  simp only [Act.put, List.setIfInBounds_toArray, List.set_cons_zero, List.set_cons_succ]
  refine run_at (i := 5) (v := ?_) rfl (by kernel_rfl) (by rfl) (fun _ _ _ h => h) hHeld (fun w1 hw1 => ?_) ?_
  rotate_left 1
  · skip
    go_simp
    (try (first | with_reducible rfl | (apply And.intro <;> rfl)))
  simp only [Act.put, List.setIfInBounds_toArray, List.set_cons_zero, List.set_cons_succ]
  refine run_at (i := 6) (v := ?_) rfl (by kernel_rfl) (by rfl) (fun _ _ _ h => h) hHeld (fun w1 hw1 => ?_) ?_
  rotate_left 1
  · skip
    have hcw0 := hw1.cell (HAT.out.n) (by first | (simp; done) | exact HNS.out | exact HNW.out | (intro hm; have hlt := HSB.out _ hm; (try dsimp only at hlt); omega))
    go_simp
    (try (first | with_reducible rfl | (apply And.intro <;> rfl)))
  simp only [Act.put, List.setIfInBounds_toArray, List.set_cons_zero, List.set_cons_succ]
  refine run_at (i := 8) (v := ?_) rfl (by kernel_rfl) (by rfl) (fun _ _ _ h => h) hHeld (fun w1 hw1 => ?_) ?_
  rotate_left 1
  · skip
    go_simp
    (try (first | with_reducible rfl | (apply And.intro <;> rfl)))
  simp only [Act.put, List.setIfInBounds_toArray, List.set_cons_zero, List.set_cons_succ]
  refine row_at (i := 9) rfl (by kernel_rfl) (by rfl) _ _ rfl _ _ rfl _ (fun w1 hw1 => hw1.range (HAT.out.sig) (by first | (simp; done) | exact HNS.out | exact HNW.out | (intro hm; have hlt := HSB.out _ hm; (try dsimp only at hlt); omega))) (row_sig) (fun _ _ _ h => h) hHeld ?_
  simp only [Act.put, List.setIfInBounds_toArray, List.set_cons_zero, List.set_cons_succ]
  refine call_at (i := 2) (f := ?_) (args := ?_) rfl (by kernel_rfl) (by rfl) ?_ ?_
  rotate_left 2
  · go_simp
    (try (first | with_reducible rfl | (apply And.intro <;> rfl)))
  refine (refname_any x.c x.s HX.out.c HX.out.s wd).mono ?_
  rintro e w2 ⟨A2, c2, rfl, hN⟩
  obtain ⟨n2, hn2⟩ : ∃ nn_, nn_ = (nmL x.c x.s).length := ⟨_, rfl⟩
  obtain ⟨l2, hl2⟩ : ∃ ll_, ll_ = nmL x.c x.s := ⟨_, rfl⟩
  rw [← hn2] at hN ⊢
  rw [← hl2] at hN
  have HB2 : Hid (n2 ≤ 20000) := Lib.hid (by rw [hn2]; have := encI_len x.c HX.out.c.2; have := encI_len x.s HX.out.s.2; simp only [nmL, List.length_append]; omega)
  have HL2 := Lib.hid hl2
  refine ⟨_, rfl, hHeld.go hN.2.1 (by simp), fun hHeld => ?_⟩
  simp only [Act.put, List.setIfInBounds_toArray, List.set_cons_zero, List.set_cons_succ]
  have HY2 := Lib.hid hN.by
  have HFD := Lib.hid (HFD.out.and hN.2.1 (by simp))
  clear hN hn2 hl2
  refine call_at (i := 7) (f := ?_) (args := ?_) rfl (by kernel_rfl) (by rfl) ?_ ?_
  rotate_left 2
  · go_simp
    (try (first | with_reducible rfl | (apply And.intro <;> rfl)))
  refine (refint_any x.n HX.out.n.2 w2).mono ?_
  rintro e w7 ⟨A7, c7, rfl, hN⟩
  obtain ⟨n7, hn7⟩ : ∃ nn_, nn_ = (encI x.n).length := ⟨_, rfl⟩
  obtain ⟨l7, hl7⟩ : ∃ ll_, ll_ = encI x.n := ⟨_, rfl⟩
  rw [← hn7] at hN ⊢
  rw [← hl7] at hN
  have HB7 : Hid (n7 ≤ 20000) := Lib.hid (by rw [hn7]; have := encI_len x.n HX.out.n.2; omega)
  have HL7 := Lib.hid hl7
  refine ⟨_, rfl, hHeld.go hN.2.1 (by simp), fun hHeld => ?_⟩
  simp only [Act.put, List.setIfInBounds_toArray, List.set_cons_zero, List.set_cons_succ]
  have HY7 := Lib.hid hN.by
  have HFD := Lib.hid (HFD.out.and hN.2.1 (by simp))
  have HY2 := Lib.hid (Fr.byk hN.2.1 HY2.out)
  clear hN hn7 hl7
  refine call_at (i := 10) (f := ?_) (args := ?_) rfl (by kernel_rfl) (by rfl) ?_ ?_
  rotate_left 2
  · go_simp
    (try (first | with_reducible rfl | (apply And.intro <;> rfl)))
  refine (refsig_any x.b x.m HX.out.b HX.out.m w7).mono ?_
  rintro e w10 ⟨A10, c10, rfl, hN⟩
  obtain ⟨n10, hn10⟩ : ∃ nn_, nn_ = (sgL x.b x.m).length := ⟨_, rfl⟩
  obtain ⟨l10, hl10⟩ : ∃ ll_, ll_ = sgL x.b x.m := ⟨_, rfl⟩
  rw [← hn10] at hN ⊢
  rw [← hl10] at hN
  have HB10 : Hid (n10 ≤ 20000) := Lib.hid (by rw [hn10]; have := encI_len x.b HX.out.b.2; have := encI_len x.m HX.out.m.2; simp only [sgL, List.length_append]; omega)
  have HL10 := Lib.hid hl10
  refine ⟨_, rfl, hHeld.go hN.2.1 (by simp), fun hHeld => ?_⟩
  simp only [Act.put, List.setIfInBounds_toArray, List.set_cons_zero, List.set_cons_succ]
  have HY10 := Lib.hid hN.by
  have HFD := Lib.hid (HFD.out.and hN.2.1 (by simp))
  have HY2 := Lib.hid (Fr.byk hN.2.1 HY2.out)
  have HY7 := Lib.hid (Fr.byk hN.2.1 HY7.out)
  clear hN hn10 hl10
  refine step_at (i := 11) rfl (by kernel_rfl) (by rfl) (fun K hK => ?_)
  refine wp_run (v := ?_) (w' := ?_) ?_ ?_
  rotate_left 2
  · go_simp
    (try (first | with_reducible rfl | (apply And.intro <;> rfl)))
  refine hK.out _ (w10.alloc (Obj.cells #[.slice A2 n2 c2, .slice (some ⟨w.heap.size, 2, none⟩) 32 32, .slice A7 n7 c7, .slice A10 n10 c10] 42)) (hHeld.alloc _) (fun hHeld => ?_)
  clear hK K
  simp only [Act.put, List.setIfInBounds_toArray, List.set_cons_zero, List.set_cons_succ]
  have hfb : Fr [] w10 (w10.alloc (Obj.cells #[.slice A2 n2 c2, .slice (some ⟨w.heap.size, 2, none⟩) 32 32, .slice A7 n7 c7, .slice A10 n10 c10] 42)) := (Fr.refl [] w10).alloc _
  have hbb : Blk (w10.alloc (Obj.cells #[.slice A2 n2 c2, .slice (some ⟨w.heap.size, 2, none⟩) 32 32, .slice A7 n7 c7, .slice A10 n10 c10] 42)) w10.heap.size 42 (([⟨A2, n2, c2, l2⟩, ⟨some ⟨w.heap.size, 2, none⟩, 32, 32, x.h⟩, ⟨A7, n7, c7, l7⟩, ⟨A10, n10, c10, l10⟩] : List RowV).map RowV.val).toArray := Blk.new _ _ _
  generalize w10.alloc (Obj.cells #[.slice A2 n2 c2, .slice (some ⟨w.heap.size, 2, none⟩) 32 32, .slice A7 n7 c7, .slice A10 n10 c10] 42) = wj at *
  have HFD := Lib.hid (HFD.out.and hfb (by simp))
  have hj := join_big w10.heap.size 4 [⟨A2, n2, c2, l2⟩, ⟨some ⟨w.heap.size, 2, none⟩, 32, 32, x.h⟩, ⟨A7, n7, c7, l7⟩, ⟨A10, n10, c10, l10⟩] wj hbb rfl (by omega) (by
    intro r hr
    simp only [List.mem_cons, List.not_mem_nil, or_false] at hr
    rcases hr with rfl | rfl | rfl | rfl
    · exact ⟨Fr.byk hfb HY2.out, HB2.out⟩
    · exact ⟨Fr.byk HFD.out HYH.out, by show 32 ≤ 20000; omega⟩
    · exact ⟨Fr.byk hfb HY7.out, HB7.out⟩
    · exact ⟨Fr.byk hfb HY10.out, HB10.out⟩)
  have hJ : joinL [⟨A2, n2, c2, l2⟩, ⟨some ⟨w.heap.size, 2, none⟩, 32, 32, x.h⟩, ⟨A7, n7, c7, l7⟩, ⟨A10, n10, c10, l10⟩] = x.full := by
    simp only [joinL, List.map_cons, List.map_nil, List.flatten_cons, List.flatten_nil, HL2.out, HL7.out, HL10.out]
    simp [Wcm.full]
  rw [hJ] at hj
  obtain ⟨X, hX⟩ : ∃ X, X = x.full := ⟨_, rfl⟩
  rw [← hX] at hj
  have HXT := Lib.hid hX
  clear hX
  have HJ := Lib.hid hj
  clear hfb hbb hj hJ HY2 HL2 HY7 HL7 HY10 HL10
  refine call_at (i := 12) (f := ?_) (args := ?_) rfl (by kernel_rfl) (by rfl) ?_ ?_
  rotate_left 2
  · go_simp
    (try (first | with_reducible rfl | (apply And.intro <;> rfl)))
  refine HJ.out.mono ?_
  rintro e wk ⟨Aj, cj, rfl, hN⟩
  have HN := Lib.hid (hN.from2 (HF0.out.and HFD.out (by simp)))
  refine ⟨_, rfl, hHeld.go hN.2.1 (by simp), fun hHeld => ?_⟩
  clear hN
  simp only [Act.put, List.setIfInBounds_toArray, List.set_cons_zero, List.set_cons_succ]
  refine run_at (i := 13) (v := ?_) rfl (by kernel_rfl) (by rfl) (fun _ _ _ h => h) hHeld (fun w1 hw1 => ?_) ?_
  rotate_left 1
  · skip
    go_simp
    (try (first | with_reducible rfl | (apply And.intro <;> rfl)))
  simp only [Act.put, List.setIfInBounds_toArray, List.set_cons_zero, List.set_cons_succ]
  refine wpAnyH_done (by kernel_rfl) ?_ _
  go_wp2
  go_ret
  rw [← HXT.out]
  exact ⟨Aj, cj, rfl, HN.out⟩
set_option maxHeartbeats 4000000 in
theorem refbare_any (x : Wst) (hx : x.Ok) (C : List Value) (hC : x.cells = C) (w : World) :
    Calls Try.prog 72 #[.agg C.toArray] w fun e w' => ∃ A c, e = .returned (.slice A (x.bare).length c) ∧ NewB w w' A (x.bare).length c (x.bare) := by
  obtain ⟨wa, hwa⟩ : ∃ wa, wa = w.alloc (Obj.cells C.toArray 71) := ⟨_, rfl⟩
  have hf0 : Fr [] w wa := by rw [hwa]; exact (Fr.refl [] w).alloc _
  have hb0 : Blk wa w.heap.size 71 x.cells.toArray := by rw [hwa, hC]; exact Blk.new _ _ _
  have HALL : Hid (wa.rangeAt w.heap.size 0 C) := Lib.hid (by rw [← hC]; exact hb0.range)
  have HLN : Hid (C.length = 38) := Lib.hid (by rw [← hC]; exact Wst.len hx.h)
  have hat := Wst.at_of (o := 0) hb0.range hx.h
  have HAT := Lib.hid hat
  have HYH : Hid (By wa (some ⟨w.heap.size, 3, none⟩) 32 x.h) := Lib.hid (by have h := By.of_range hat.hash; rw [hx.h] at h; exact h)
  have HX := Lib.hid hx
  have HRC := Lib.hid hC
  clear hb0 hx hC hat
  have HF0 := Lib.hid hf0
  have HWA := Lib.hid hwa
  clear hwa hf0
  go_enter Try.func72, Try.ntmps72
  go_wp2
  rw [← HWA.out]
  refine wp_region_held_drew (S := Fr [] wa) (by kernel_rfl) (Fr.drew (Fr.refl _ wa)) (fun hHeld => ?_)
  have HFD : Hid (Fr [] wa wa.drew) := Lib.hid (Fr.drew (Fr.refl [] wa))
  generalize wa.drew = wd at *
  refine run_at (i := 0) (v := ?_) rfl (by kernel_rfl) (by rfl) (fun _ _ _ h => h) hHeld (fun w1 hw1 => ?_) ?_
  rotate_left 1
  · skip
    go_simp
    (try (first | with_reducible rfl | (apply And.intro <;> rfl)))
  simp only [Act.put, List.setIfInBounds_toArray, List.set_cons_zero, List.set_cons_succ]
  refine run_at (i := 1) (v := ?_) rfl (by kernel_rfl) (by rfl) (fun _ _ _ h => h) hHeld (fun w1 hw1 => ?_) ?_
  rotate_left 1
  · skip
    have hcw0 := hw1.cell (HAT.out.r) (by first | (simp; done) | exact HNS.out | exact HNW.out | (intro hm; have hlt := HSB.out _ hm; (try dsimp only at hlt); omega))
    go_simp
    (try (first | with_reducible rfl | (apply And.intro <;> rfl)))
  simp only [Act.put, List.setIfInBounds_toArray, List.set_cons_zero, List.set_cons_succ]
  refine run_at (i := 3) (v := ?_) rfl (by kernel_rfl) (by rfl) (fun _ _ _ h => h) hHeld (fun w1 hw1 => ?_) ?_
  rotate_left 1
  · skip
    go_simp
    (try (first | with_reducible rfl | (apply And.intro <;> rfl)))
  simp only [Act.put, List.setIfInBounds_toArray, List.set_cons_zero, List.set_cons_succ]
  refine row_at (i := 4) rfl (by kernel_rfl) (by rfl) _ _ rfl _ _ rfl _ (fun w1 hw1 => hw1.range (HAT.out.name) (by first | (simp; done) | exact HNS.out | exact HNW.out | (intro hm; have hlt := HSB.out _ hm; (try dsimp only at hlt); omega))) (row_name) (fun _ _ _ h => h) hHeld ?_
  simp only [Act.put, List.setIfInBounds_toArray, List.set_cons_zero, List.set_cons_succ]
  refine run_at (i := 6) (v := ?_) rfl (by kernel_rfl) (by rfl) (fun _ _ _ h => h) hHeld (fun w1 hw1 => ?_) ?_
  rotate_left 1
  · skip
    go_simp
    (try (first | with_reducible rfl | (apply And.intro <;> rfl)))
  simp only [Act.put, List.setIfInBounds_toArray, List.set_cons_zero, List.set_cons_succ]
  refine run_at (i := 7) (v := ?_) rfl (by kernel_rfl) (by rfl) (fun _ _ _ h => h) hHeld (fun w1 hw1 => ?_) ?_
  rotate_left 1
  · skip
    go_simp
    (try (first | with_reducible rfl | (apply And.intro <;> rfl)))
  simp only [Act.put, List.setIfInBounds_toArray, List.set_cons_zero, List.set_cons_succ]
  refine run_at (i := 8) (v := ?_) rfl (by kernel_rfl) (by rfl) (fun _ _ _ h => h) hHeld (fun w1 hw1 => ?_) ?_
  rotate_left 1
  · skip
    go_simp
    (try (first | with_reducible rfl | (apply And.intro <;> rfl)))
  simp only [Act.put, List.setIfInBounds_toArray, List.set_cons_zero, List.set_cons_succ]
  refine run_at (i := 9) (v := ?_) rfl (by kernel_rfl) (by rfl) (fun _ _ _ h => h) hHeld (fun w1 hw1 => ?_) ?_
  rotate_left 1
  · skip
    have hcw0 := hw1.cell (HAT.out.t) (by first | (simp; done) | exact HNS.out | exact HNW.out | (intro hm; have hlt := HSB.out _ hm; (try dsimp only at hlt); omega))
    go_simp
    (try (first | with_reducible rfl | (apply And.intro <;> rfl)))
  simp only [Act.put, List.setIfInBounds_toArray, List.set_cons_zero, List.set_cons_succ]
  refine call_at (i := 2) (f := ?_) (args := ?_) rfl (by kernel_rfl) (by rfl) ?_ ?_
  rotate_left 2
  · go_simp
    (try (first | with_reducible rfl | (apply And.intro <;> rfl)))
  refine (refint_any x.r HX.out.r.2 wd).mono ?_
  rintro e w2 ⟨A2, c2, rfl, hN⟩
  obtain ⟨n2, hn2⟩ : ∃ nn_, nn_ = (encI x.r).length := ⟨_, rfl⟩
  obtain ⟨l2, hl2⟩ : ∃ ll_, ll_ = encI x.r := ⟨_, rfl⟩
  rw [← hn2] at hN ⊢
  rw [← hl2] at hN
  have HB2 : Hid (n2 ≤ 20000) := Lib.hid (by rw [hn2]; have := encI_len x.r HX.out.r.2; omega)
  have HL2 := Lib.hid hl2
  refine ⟨_, rfl, hHeld.go hN.2.1 (by simp), fun hHeld => ?_⟩
  simp only [Act.put, List.setIfInBounds_toArray, List.set_cons_zero, List.set_cons_succ]
  have HY2 := Lib.hid hN.by
  have HFD := Lib.hid (HFD.out.and hN.2.1 (by simp))
  clear hN hn2 hl2
  refine call_at (i := 5) (f := ?_) (args := ?_) rfl (by kernel_rfl) (by rfl) ?_ ?_
  rotate_left 2
  · go_simp
    (try (first | with_reducible rfl | (apply And.intro <;> rfl)))
  refine (refname_any x.c x.s HX.out.c HX.out.s w2).mono ?_
  rintro e w5 ⟨A5, c5, rfl, hN⟩
  obtain ⟨n5, hn5⟩ : ∃ nn_, nn_ = (nmL x.c x.s).length := ⟨_, rfl⟩
  obtain ⟨l5, hl5⟩ : ∃ ll_, ll_ = nmL x.c x.s := ⟨_, rfl⟩
  rw [← hn5] at hN ⊢
  rw [← hl5] at hN
  have HB5 : Hid (n5 ≤ 20000) := Lib.hid (by rw [hn5]; have := encI_len x.c HX.out.c.2; have := encI_len x.s HX.out.s.2; simp only [nmL, List.length_append]; omega)
  have HL5 := Lib.hid hl5
  refine ⟨_, rfl, hHeld.go hN.2.1 (by simp), fun hHeld => ?_⟩
  simp only [Act.put, List.setIfInBounds_toArray, List.set_cons_zero, List.set_cons_succ]
  have HY5 := Lib.hid hN.by
  have HFD := Lib.hid (HFD.out.and hN.2.1 (by simp))
  have HY2 := Lib.hid (Fr.byk hN.2.1 HY2.out)
  clear hN hn5 hl5
  refine call_at (i := 10) (f := ?_) (args := ?_) rfl (by kernel_rfl) (by rfl) ?_ ?_
  rotate_left 2
  · go_simp
    (try (first | with_reducible rfl | (apply And.intro <;> rfl)))
  refine (refnum_any x.t HX.out.t w5).mono ?_
  rintro e w10 ⟨A10, c10, rfl, hN⟩
  obtain ⟨n10, hn10⟩ : ∃ nn_, nn_ = (enc x.t).length := ⟨_, rfl⟩
  obtain ⟨l10, hl10⟩ : ∃ ll_, ll_ = enc x.t := ⟨_, rfl⟩
  rw [← hn10] at hN ⊢
  rw [← hl10] at hN
  have HB10 : Hid (n10 ≤ 20000) := Lib.hid (by rw [hn10]; have := enc_ten HX.out.t; omega)
  have HL10 := Lib.hid hl10
  refine ⟨_, rfl, hHeld.go hN.2.1 (by simp), fun hHeld => ?_⟩
  simp only [Act.put, List.setIfInBounds_toArray, List.set_cons_zero, List.set_cons_succ]
  have HY10 := Lib.hid hN.by
  have HFD := Lib.hid (HFD.out.and hN.2.1 (by simp))
  have HY2 := Lib.hid (Fr.byk hN.2.1 HY2.out)
  have HY5 := Lib.hid (Fr.byk hN.2.1 HY5.out)
  clear hN hn10 hl10
  refine step_at (i := 11) rfl (by kernel_rfl) (by rfl) (fun K hK => ?_)
  refine wp_run (v := ?_) (w' := ?_) ?_ ?_
  rotate_left 2
  · go_simp
    (try (first | with_reducible rfl | (apply And.intro <;> rfl)))
  refine hK.out _ (w10.alloc (Obj.cells #[.slice A2 n2 c2, .slice A5 n5 c5, .slice (some ⟨w.heap.size, 3, none⟩) 32 32, .slice A10 n10 c10] 42)) (hHeld.alloc _) (fun hHeld => ?_)
  clear hK K
  simp only [Act.put, List.setIfInBounds_toArray, List.set_cons_zero, List.set_cons_succ]
  have hfb : Fr [] w10 (w10.alloc (Obj.cells #[.slice A2 n2 c2, .slice A5 n5 c5, .slice (some ⟨w.heap.size, 3, none⟩) 32 32, .slice A10 n10 c10] 42)) := (Fr.refl [] w10).alloc _
  have hbb : Blk (w10.alloc (Obj.cells #[.slice A2 n2 c2, .slice A5 n5 c5, .slice (some ⟨w.heap.size, 3, none⟩) 32 32, .slice A10 n10 c10] 42)) w10.heap.size 42 (([⟨A2, n2, c2, l2⟩, ⟨A5, n5, c5, l5⟩, ⟨some ⟨w.heap.size, 3, none⟩, 32, 32, x.h⟩, ⟨A10, n10, c10, l10⟩] : List RowV).map RowV.val).toArray := Blk.new _ _ _
  generalize w10.alloc (Obj.cells #[.slice A2 n2 c2, .slice A5 n5 c5, .slice (some ⟨w.heap.size, 3, none⟩) 32 32, .slice A10 n10 c10] 42) = wj at *
  have HFD := Lib.hid (HFD.out.and hfb (by simp))
  have hj := join_big w10.heap.size 4 [⟨A2, n2, c2, l2⟩, ⟨A5, n5, c5, l5⟩, ⟨some ⟨w.heap.size, 3, none⟩, 32, 32, x.h⟩, ⟨A10, n10, c10, l10⟩] wj hbb rfl (by omega) (by
    intro r hr
    simp only [List.mem_cons, List.not_mem_nil, or_false] at hr
    rcases hr with rfl | rfl | rfl | rfl
    · exact ⟨Fr.byk hfb HY2.out, HB2.out⟩
    · exact ⟨Fr.byk hfb HY5.out, HB5.out⟩
    · exact ⟨Fr.byk HFD.out HYH.out, by show 32 ≤ 20000; omega⟩
    · exact ⟨Fr.byk hfb HY10.out, HB10.out⟩)
  have hJ : joinL [⟨A2, n2, c2, l2⟩, ⟨A5, n5, c5, l5⟩, ⟨some ⟨w.heap.size, 3, none⟩, 32, 32, x.h⟩, ⟨A10, n10, c10, l10⟩] = x.bare := by
    simp only [joinL, List.map_cons, List.map_nil, List.flatten_cons, List.flatten_nil, HL2.out, HL5.out, HL10.out]
    simp [Wst.bare]
  rw [hJ] at hj
  obtain ⟨X, hX⟩ : ∃ X, X = x.bare := ⟨_, rfl⟩
  rw [← hX] at hj
  have HXT := Lib.hid hX
  clear hX
  have HJ := Lib.hid hj
  clear hfb hbb hj hJ HY2 HL2 HY5 HL5 HY10 HL10
  refine call_at (i := 12) (f := ?_) (args := ?_) rfl (by kernel_rfl) (by rfl) ?_ ?_
  rotate_left 2
  · go_simp
    (try (first | with_reducible rfl | (apply And.intro <;> rfl)))
  refine HJ.out.mono ?_
  rintro e wk ⟨Aj, cj, rfl, hN⟩
  have HN := Lib.hid (hN.from2 (HF0.out.and HFD.out (by simp)))
  refine ⟨_, rfl, hHeld.go hN.2.1 (by simp), fun hHeld => ?_⟩
  clear hN
  simp only [Act.put, List.setIfInBounds_toArray, List.set_cons_zero, List.set_cons_succ]
  refine run_at (i := 13) (v := ?_) rfl (by kernel_rfl) (by rfl) (fun _ _ _ h => h) hHeld (fun w1 hw1 => ?_) ?_
  rotate_left 1
  · skip
    go_simp
    (try (first | with_reducible rfl | (apply And.intro <;> rfl)))
  simp only [Act.put, List.setIfInBounds_toArray, List.set_cons_zero, List.set_cons_succ]
  refine wpAnyH_done (by kernel_rfl) ?_ _
  go_wp2
  go_ret
  rw [← HXT.out]
  exact ⟨Aj, cj, rfl, HN.out⟩
set_option maxHeartbeats 4000000 in
theorem refputDeny_any (x : Wdn) (hx : x.Ok) (C : List Value) (hC : x.cells = C) (w : World) :
    Calls Try.prog 44 #[.agg C.toArray] w fun e w' => ∃ A c, e = .returned (.slice A (x.full).length c) ∧ NewB w w' A (x.full).length c (x.full) := by
  obtain ⟨wa, hwa⟩ : ∃ wa, wa = w.alloc (Obj.cells C.toArray 83) := ⟨_, rfl⟩
  have hf0 : Fr [] w wa := by rw [hwa]; exact (Fr.refl [] w).alloc _
  have hb0 : Blk wa w.heap.size 83 x.cells.toArray := by rw [hwa, hC]; exact Blk.new _ _ _
  have HALL : Hid (wa.rangeAt w.heap.size 0 C) := Lib.hid (by rw [← hC]; exact hb0.range)
  have HLN : Hid (C.length = 4) := Lib.hid (by rw [← hC]; exact rfl)
  have hat := Wdn.at_of (o := 0) hb0.range
  have HAT := Lib.hid hat
  have HX := Lib.hid hx
  have HRC := Lib.hid hC
  clear hb0 hx hC hat
  have HF0 := Lib.hid hf0
  have HWA := Lib.hid hwa
  clear hwa hf0
  go_enter Try.func44, Try.ntmps44
  go_wp2
  rw [← HWA.out]
  refine wp_region_held_drew (S := Fr [] wa) (by kernel_rfl) (Fr.drew (Fr.refl _ wa)) (fun hHeld => ?_)
  have HFD : Hid (Fr [] wa wa.drew) := Lib.hid (Fr.drew (Fr.refl [] wa))
  generalize wa.drew = wd at *
  refine run_at (i := 0) (v := ?_) rfl (by kernel_rfl) (by rfl) (fun _ _ _ h => h) hHeld (fun w1 hw1 => ?_) ?_
  rotate_left 1
  · skip
    go_simp
    (try (first | with_reducible rfl | (apply And.intro <;> rfl)))
  simp only [Act.put, List.setIfInBounds_toArray, List.set_cons_zero, List.set_cons_succ]
  refine run_at (i := 1) (v := ?_) rfl (by kernel_rfl) (by rfl) (fun _ _ _ h => h) hHeld (fun w1 hw1 => ?_) ?_
  rotate_left 1
  · skip
    have hcw0 := hw1.cell (HAT.out.r) (by first | (simp; done) | exact HNS.out | exact HNW.out | (intro hm; have hlt := HSB.out _ hm; (try dsimp only at hlt); omega))
    go_simp
    (try (first | with_reducible rfl | (apply And.intro <;> rfl)))
  simp only [Act.put, List.setIfInBounds_toArray, List.set_cons_zero, List.set_cons_succ]
  refine run_at (i := 3) (v := ?_) rfl (by kernel_rfl) (by rfl) (fun _ _ _ h => h) hHeld (fun w1 hw1 => ?_) ?_
  rotate_left 1
  · skip
    go_simp
    (try (first | with_reducible rfl | (apply And.intro <;> rfl)))
  simp only [Act.put, List.setIfInBounds_toArray, List.set_cons_zero, List.set_cons_succ]
  refine run_at (i := 4) (v := ?_) rfl (by kernel_rfl) (by rfl) (fun _ _ _ h => h) hHeld (fun w1 hw1 => ?_) ?_
  rotate_left 1
  · skip
    have hcw0 := hw1.cell (HAT.out.i) (by first | (simp; done) | exact HNS.out | exact HNW.out | (intro hm; have hlt := HSB.out _ hm; (try dsimp only at hlt); omega))
    go_simp
    (try (first | with_reducible rfl | (apply And.intro <;> rfl)))
  simp only [Act.put, List.setIfInBounds_toArray, List.set_cons_zero, List.set_cons_succ]
  refine run_at (i := 6) (v := ?_) rfl (by kernel_rfl) (by rfl) (fun _ _ _ h => h) hHeld (fun w1 hw1 => ?_) ?_
  rotate_left 1
  · skip
    go_simp
    (try (first | with_reducible rfl | (apply And.intro <;> rfl)))
  simp only [Act.put, List.setIfInBounds_toArray, List.set_cons_zero, List.set_cons_succ]
  refine row_at (i := 7) rfl (by kernel_rfl) (by rfl) _ _ rfl _ _ rfl _ (fun w1 hw1 => hw1.range (HAT.out.sig) (by first | (simp; done) | exact HNS.out | exact HNW.out | (intro hm; have hlt := HSB.out _ hm; (try dsimp only at hlt); omega))) (row_sig) (fun _ _ _ h => h) hHeld ?_
  simp only [Act.put, List.setIfInBounds_toArray, List.set_cons_zero, List.set_cons_succ]
  refine call_at (i := 2) (f := ?_) (args := ?_) rfl (by kernel_rfl) (by rfl) ?_ ?_
  rotate_left 2
  · go_simp
    (try (first | with_reducible rfl | (apply And.intro <;> rfl)))
  refine (refint_any x.r HX.out.r.2 wd).mono ?_
  rintro e w2 ⟨A2, c2, rfl, hN⟩
  obtain ⟨n2, hn2⟩ : ∃ nn_, nn_ = (encI x.r).length := ⟨_, rfl⟩
  obtain ⟨l2, hl2⟩ : ∃ ll_, ll_ = encI x.r := ⟨_, rfl⟩
  rw [← hn2] at hN ⊢
  rw [← hl2] at hN
  have HB2 : Hid (n2 ≤ 20000) := Lib.hid (by rw [hn2]; have := encI_len x.r HX.out.r.2; omega)
  have HL2 := Lib.hid hl2
  refine ⟨_, rfl, hHeld.go hN.2.1 (by simp), fun hHeld => ?_⟩
  simp only [Act.put, List.setIfInBounds_toArray, List.set_cons_zero, List.set_cons_succ]
  have HY2 := Lib.hid hN.by
  have HFD := Lib.hid (HFD.out.and hN.2.1 (by simp))
  clear hN hn2 hl2
  refine call_at (i := 5) (f := ?_) (args := ?_) rfl (by kernel_rfl) (by rfl) ?_ ?_
  rotate_left 2
  · go_simp
    (try (first | with_reducible rfl | (apply And.intro <;> rfl)))
  refine (refint_any x.i HX.out.i.2 w2).mono ?_
  rintro e w5 ⟨A5, c5, rfl, hN⟩
  obtain ⟨n5, hn5⟩ : ∃ nn_, nn_ = (encI x.i).length := ⟨_, rfl⟩
  obtain ⟨l5, hl5⟩ : ∃ ll_, ll_ = encI x.i := ⟨_, rfl⟩
  rw [← hn5] at hN ⊢
  rw [← hl5] at hN
  have HB5 : Hid (n5 ≤ 20000) := Lib.hid (by rw [hn5]; have := encI_len x.i HX.out.i.2; omega)
  have HL5 := Lib.hid hl5
  refine ⟨_, rfl, hHeld.go hN.2.1 (by simp), fun hHeld => ?_⟩
  simp only [Act.put, List.setIfInBounds_toArray, List.set_cons_zero, List.set_cons_succ]
  have HY5 := Lib.hid hN.by
  have HFD := Lib.hid (HFD.out.and hN.2.1 (by simp))
  have HY2 := Lib.hid (Fr.byk hN.2.1 HY2.out)
  clear hN hn5 hl5
  refine call_at (i := 8) (f := ?_) (args := ?_) rfl (by kernel_rfl) (by rfl) ?_ ?_
  rotate_left 2
  · go_simp
    (try (first | with_reducible rfl | (apply And.intro <;> rfl)))
  refine (refsig_any x.b x.m HX.out.b HX.out.m w5).mono ?_
  rintro e w8 ⟨A8, c8, rfl, hN⟩
  obtain ⟨n8, hn8⟩ : ∃ nn_, nn_ = (sgL x.b x.m).length := ⟨_, rfl⟩
  obtain ⟨l8, hl8⟩ : ∃ ll_, ll_ = sgL x.b x.m := ⟨_, rfl⟩
  rw [← hn8] at hN ⊢
  rw [← hl8] at hN
  have HB8 : Hid (n8 ≤ 20000) := Lib.hid (by rw [hn8]; have := encI_len x.b HX.out.b.2; have := encI_len x.m HX.out.m.2; simp only [sgL, List.length_append]; omega)
  have HL8 := Lib.hid hl8
  refine ⟨_, rfl, hHeld.go hN.2.1 (by simp), fun hHeld => ?_⟩
  simp only [Act.put, List.setIfInBounds_toArray, List.set_cons_zero, List.set_cons_succ]
  have HY8 := Lib.hid hN.by
  have HFD := Lib.hid (HFD.out.and hN.2.1 (by simp))
  have HY2 := Lib.hid (Fr.byk hN.2.1 HY2.out)
  have HY5 := Lib.hid (Fr.byk hN.2.1 HY5.out)
  clear hN hn8 hl8
  refine step_at (i := 9) rfl (by kernel_rfl) (by rfl) (fun K hK => ?_)
  refine wp_run (v := ?_) (w' := ?_) ?_ ?_
  rotate_left 2
  · go_simp
    (try (first | with_reducible rfl | (apply And.intro <;> rfl)))
  refine hK.out _ (w8.alloc (Obj.cells #[.slice A2 n2 c2, .slice A5 n5 c5, .slice A8 n8 c8] 42)) (hHeld.alloc _) (fun hHeld => ?_)
  clear hK K
  simp only [Act.put, List.setIfInBounds_toArray, List.set_cons_zero, List.set_cons_succ]
  have hfb : Fr [] w8 (w8.alloc (Obj.cells #[.slice A2 n2 c2, .slice A5 n5 c5, .slice A8 n8 c8] 42)) := (Fr.refl [] w8).alloc _
  have hbb : Blk (w8.alloc (Obj.cells #[.slice A2 n2 c2, .slice A5 n5 c5, .slice A8 n8 c8] 42)) w8.heap.size 42 (([⟨A2, n2, c2, l2⟩, ⟨A5, n5, c5, l5⟩, ⟨A8, n8, c8, l8⟩] : List RowV).map RowV.val).toArray := Blk.new _ _ _
  generalize w8.alloc (Obj.cells #[.slice A2 n2 c2, .slice A5 n5 c5, .slice A8 n8 c8] 42) = wj at *
  have HFD := Lib.hid (HFD.out.and hfb (by simp))
  have hj := join_big w8.heap.size 3 [⟨A2, n2, c2, l2⟩, ⟨A5, n5, c5, l5⟩, ⟨A8, n8, c8, l8⟩] wj hbb rfl (by omega) (by
    intro r hr
    simp only [List.mem_cons, List.not_mem_nil, or_false] at hr
    rcases hr with rfl | rfl | rfl
    · exact ⟨Fr.byk hfb HY2.out, HB2.out⟩
    · exact ⟨Fr.byk hfb HY5.out, HB5.out⟩
    · exact ⟨Fr.byk hfb HY8.out, HB8.out⟩)
  have hJ : joinL [⟨A2, n2, c2, l2⟩, ⟨A5, n5, c5, l5⟩, ⟨A8, n8, c8, l8⟩] = x.full := by
    simp only [joinL, List.map_cons, List.map_nil, List.flatten_cons, List.flatten_nil, HL2.out, HL5.out, HL8.out]
    simp [Wdn.full, Wdn.bare]
  rw [hJ] at hj
  obtain ⟨X, hX⟩ : ∃ X, X = x.full := ⟨_, rfl⟩
  rw [← hX] at hj
  have HXT := Lib.hid hX
  clear hX
  have HJ := Lib.hid hj
  clear hfb hbb hj hJ HY2 HL2 HY5 HL5 HY8 HL8
  refine call_at (i := 10) (f := ?_) (args := ?_) rfl (by kernel_rfl) (by rfl) ?_ ?_
  rotate_left 2
  · go_simp
    (try (first | with_reducible rfl | (apply And.intro <;> rfl)))
  refine HJ.out.mono ?_
  rintro e wk ⟨Aj, cj, rfl, hN⟩
  have HN := Lib.hid (hN.from2 (HF0.out.and HFD.out (by simp)))
  refine ⟨_, rfl, hHeld.go hN.2.1 (by simp), fun hHeld => ?_⟩
  clear hN
  simp only [Act.put, List.setIfInBounds_toArray, List.set_cons_zero, List.set_cons_succ]
  refine run_at (i := 11) (v := ?_) rfl (by kernel_rfl) (by rfl) (fun _ _ _ h => h) hHeld (fun w1 hw1 => ?_) ?_
  rotate_left 1
  · skip
    go_simp
    (try (first | with_reducible rfl | (apply And.intro <;> rfl)))
  simp only [Act.put, List.setIfInBounds_toArray, List.set_cons_zero, List.set_cons_succ]
  refine wpAnyH_done (by kernel_rfl) ?_ _
  go_wp2
  go_ret
  rw [← HXT.out]
  exact ⟨Aj, cj, rfl, HN.out⟩
set_option maxHeartbeats 4000000 in
theorem refputStamp_any (x : Wst) (hx : x.Ok) (C : List Value) (hC : x.cells = C) (w : World) :
    Calls Try.prog 38 #[.agg C.toArray] w fun e w' => ∃ A c, e = .returned (.slice A (x.full).length c) ∧ NewB w w' A (x.full).length c (x.full) := by
  obtain ⟨wa, hwa⟩ : ∃ wa, wa = w.alloc (Obj.cells C.toArray 71) := ⟨_, rfl⟩
  have hf0 : Fr [] w wa := by rw [hwa]; exact (Fr.refl [] w).alloc _
  have hb0 : Blk wa w.heap.size 71 x.cells.toArray := by rw [hwa, hC]; exact Blk.new _ _ _
  have HALL : Hid (wa.rangeAt w.heap.size 0 C) := Lib.hid (by rw [← hC]; exact hb0.range)
  have HLN : Hid (C.length = 38) := Lib.hid (by rw [← hC]; exact Wst.len hx.h)
  have hat := Wst.at_of (o := 0) hb0.range hx.h
  have HAT := Lib.hid hat
  have HX := Lib.hid hx
  have HRC := Lib.hid hC
  clear hb0 hx hC hat
  have HF0 := Lib.hid hf0
  have HWA := Lib.hid hwa
  clear hwa hf0
  go_enter Try.func38, Try.ntmps38
  go_wp2
  rw [← HWA.out]
  refine wp_region_held_drew (S := Fr [] wa) (by kernel_rfl) (Fr.drew (Fr.refl _ wa)) (fun hHeld => ?_)
  have HFD : Hid (Fr [] wa wa.drew) := Lib.hid (Fr.drew (Fr.refl [] wa))
  generalize wa.drew = wd at *
  refine row_at (i := 0) rfl (by kernel_rfl) (by rfl) _ _ rfl _ _ rfl _ (fun w1 hw1 => hw1.range (HALL.out) (by first | (simp; done) | exact HNS.out | exact HNW.out | (intro hm; have hlt := HSB.out _ hm; (try dsimp only at hlt); omega))) (row_stamp.of HLN.out) (fun _ _ _ h => h) hHeld ?_
  simp only [Act.put, List.setIfInBounds_toArray, List.set_cons_zero, List.set_cons_succ]
  refine run_at (i := 2) (v := ?_) rfl (by kernel_rfl) (by rfl) (fun _ _ _ h => h) hHeld (fun w1 hw1 => ?_) ?_
  rotate_left 1
  · skip
    go_simp
    (try (first | with_reducible rfl | (apply And.intro <;> rfl)))
  simp only [Act.put, List.setIfInBounds_toArray, List.set_cons_zero, List.set_cons_succ]
  refine row_at (i := 3) rfl (by kernel_rfl) (by rfl) _ _ rfl _ _ rfl _ (fun w1 hw1 => hw1.range (HAT.out.sig) (by first | (simp; done) | exact HNS.out | exact HNW.out | (intro hm; have hlt := HSB.out _ hm; (try dsimp only at hlt); omega))) (row_sig) (fun _ _ _ h => h) hHeld ?_
  simp only [Act.put, List.setIfInBounds_toArray, List.set_cons_zero, List.set_cons_succ]
  refine call_at (i := 1) (f := ?_) (args := ?_) rfl (by kernel_rfl) (by rfl) ?_ ?_
  rotate_left 2
  · go_simp
    (try (first | with_reducible rfl | (apply And.intro <;> rfl)))
  refine (refbare_any x HX.out C HRC.out wd).mono ?_
  rintro e w1 ⟨A1, c1, rfl, hN⟩
  obtain ⟨n1, hn1⟩ : ∃ nn_, nn_ = (x.bare).length := ⟨_, rfl⟩
  obtain ⟨l1, hl1⟩ : ∃ ll_, ll_ = x.bare := ⟨_, rfl⟩
  rw [← hn1] at hN ⊢
  rw [← hl1] at hN
  have HB1 : Hid (n1 ≤ 20000) := Lib.hid (by rw [hn1]; have := Wst.bare_len HX.out; omega)
  have HL1 := Lib.hid hl1
  refine ⟨_, rfl, hHeld.go hN.2.1 (by simp), fun hHeld => ?_⟩
  simp only [Act.put, List.setIfInBounds_toArray, List.set_cons_zero, List.set_cons_succ]
  have HY1 := Lib.hid hN.by
  have HFD := Lib.hid (HFD.out.and hN.2.1 (by simp))
  clear hN hn1 hl1
  refine call_at (i := 4) (f := ?_) (args := ?_) rfl (by kernel_rfl) (by rfl) ?_ ?_
  rotate_left 2
  · go_simp
    (try (first | with_reducible rfl | (apply And.intro <;> rfl)))
  refine (refsig_any x.b x.m HX.out.b HX.out.m w1).mono ?_
  rintro e w4 ⟨A4, c4, rfl, hN⟩
  obtain ⟨n4, hn4⟩ : ∃ nn_, nn_ = (sgL x.b x.m).length := ⟨_, rfl⟩
  obtain ⟨l4, hl4⟩ : ∃ ll_, ll_ = sgL x.b x.m := ⟨_, rfl⟩
  rw [← hn4] at hN ⊢
  rw [← hl4] at hN
  have HB4 : Hid (n4 ≤ 20000) := Lib.hid (by rw [hn4]; have := encI_len x.b HX.out.b.2; have := encI_len x.m HX.out.m.2; simp only [sgL, List.length_append]; omega)
  have HL4 := Lib.hid hl4
  refine ⟨_, rfl, hHeld.go hN.2.1 (by simp), fun hHeld => ?_⟩
  simp only [Act.put, List.setIfInBounds_toArray, List.set_cons_zero, List.set_cons_succ]
  have HY4 := Lib.hid hN.by
  have HFD := Lib.hid (HFD.out.and hN.2.1 (by simp))
  have HY1 := Lib.hid (Fr.byk hN.2.1 HY1.out)
  clear hN hn4 hl4
  refine step_at (i := 5) rfl (by kernel_rfl) (by rfl) (fun K hK => ?_)
  refine wp_run (v := ?_) (w' := ?_) ?_ ?_
  rotate_left 2
  · go_simp
    (try (first | with_reducible rfl | (apply And.intro <;> rfl)))
  refine hK.out _ (w4.alloc (Obj.cells #[.slice A1 n1 c1, .slice A4 n4 c4] 42)) (hHeld.alloc _) (fun hHeld => ?_)
  clear hK K
  simp only [Act.put, List.setIfInBounds_toArray, List.set_cons_zero, List.set_cons_succ]
  have hfb : Fr [] w4 (w4.alloc (Obj.cells #[.slice A1 n1 c1, .slice A4 n4 c4] 42)) := (Fr.refl [] w4).alloc _
  have hbb : Blk (w4.alloc (Obj.cells #[.slice A1 n1 c1, .slice A4 n4 c4] 42)) w4.heap.size 42 (([⟨A1, n1, c1, l1⟩, ⟨A4, n4, c4, l4⟩] : List RowV).map RowV.val).toArray := Blk.new _ _ _
  generalize w4.alloc (Obj.cells #[.slice A1 n1 c1, .slice A4 n4 c4] 42) = wj at *
  have HFD := Lib.hid (HFD.out.and hfb (by simp))
  have hj := join_big w4.heap.size 2 [⟨A1, n1, c1, l1⟩, ⟨A4, n4, c4, l4⟩] wj hbb rfl (by omega) (by
    intro r hr
    simp only [List.mem_cons, List.not_mem_nil, or_false] at hr
    rcases hr with rfl | rfl
    · exact ⟨Fr.byk hfb HY1.out, HB1.out⟩
    · exact ⟨Fr.byk hfb HY4.out, HB4.out⟩)
  have hJ : joinL [⟨A1, n1, c1, l1⟩, ⟨A4, n4, c4, l4⟩] = x.full := by
    simp only [joinL, List.map_cons, List.map_nil, List.flatten_cons, List.flatten_nil, HL1.out, HL4.out]
    simp [Wst.full]
  rw [hJ] at hj
  obtain ⟨X, hX⟩ : ∃ X, X = x.full := ⟨_, rfl⟩
  rw [← hX] at hj
  have HXT := Lib.hid hX
  clear hX
  have HJ := Lib.hid hj
  clear hfb hbb hj hJ HY1 HL1 HY4 HL4
  refine call_at (i := 6) (f := ?_) (args := ?_) rfl (by kernel_rfl) (by rfl) ?_ ?_
  rotate_left 2
  · go_simp
    (try (first | with_reducible rfl | (apply And.intro <;> rfl)))
  refine HJ.out.mono ?_
  rintro e wk ⟨Aj, cj, rfl, hN⟩
  have HN := Lib.hid (hN.from2 (HF0.out.and HFD.out (by simp)))
  refine ⟨_, rfl, hHeld.go hN.2.1 (by simp), fun hHeld => ?_⟩
  clear hN
  simp only [Act.put, List.setIfInBounds_toArray, List.set_cons_zero, List.set_cons_succ]
  refine run_at (i := 7) (v := ?_) rfl (by kernel_rfl) (by rfl) (fun _ _ _ h => h) hHeld (fun w1 hw1 => ?_) ?_
  rotate_left 1
  · skip
    go_simp
    (try (first | with_reducible rfl | (apply And.intro <;> rfl)))
  simp only [Act.put, List.setIfInBounds_toArray, List.set_cons_zero, List.set_cons_succ]
  refine wpAnyH_done (by kernel_rfl) ?_ _
  go_wp2
  go_ret
  rw [← HXT.out]
  exact ⟨Aj, cj, rfl, HN.out⟩
end Go.Proofs.Ytkofmefnlppoaaa

namespace Go.Proofs.Ytkofmefnlppoaaa
open Go.RowKit
set_option maxRecDepth 100000
/-- a batch: its epoch, its time, where its promises, openings, tombstones lie -/
structure Wba where
  e : Int
  t : Nat
  A : Option Addr
  n : Nat
  d : Nat
  l : List Wpr
  A2 : Option Addr
  n2 : Nat
  d2 : Nat
  l2 : List Wop
  A3 : Option Addr
  n3 : Nat
  d3 : Nat
  l3 : List Wtb
def Wba.cells (x : Wba) : List Value := [.int .i64 x.e, .int .u64 (x.t : Int), .slice x.A x.n x.d, .slice x.A2 x.n2 x.d2, .slice x.A3 x.n3 x.d3]
def Wba.val (x : Wba) : Value := .agg x.cells.toArray
structure Wba.Ok (w : World) (S : List Nat) (x : Wba) : Prop where
  e : i64In x.e
  t : x.t < 18446744073709551616
  l : Lst 6 Wpr.cells (fun w v => v.Ok w S) w x.A x.n x.l
  n : x.n ≤ 4
  ap : 0 < x.n → ∀ a, x.A = some a → ¬ a.block ∈ S
  l2 : Lst 34 Wop.cells (fun w v => v.Ok w S) w x.A2 x.n2 x.l2
  n2 : x.n2 ≤ 5
  ap2 : 0 < x.n2 → ∀ a, x.A2 = some a → ¬ a.block ∈ S
  l3 : Lst 2 Wtb.cells (fun w v => v.Ok w S) w x.A3 x.n3 x.l3
  n3 : x.n3 ≤ 5
  ap3 : 0 < x.n3 → ∀ a, x.A3 = some a → ¬ a.block ∈ S
theorem Wba.one (x : Wba) : ∀ v ∈ x.cells, v.oneCell' = true := by
  intro v hv
  simp only [Wba.cells, List.mem_cons, List.not_mem_nil, or_false] at hv
  rcases hv with rfl | rfl | rfl | rfl | rfl <;> rfl
theorem Wba.len (x : Wba) : x.cells.length = 5 := rfl
theorem Wba.Ok.keep {w W : World} {S S' : List Nat} {x : Wba} (h : x.Ok w S) (hf : Fr S w W) (hs : ∀ k ∈ S', k < w.heap.size → k ∈ S) : x.Ok W S' :=
  ⟨h.e, h.t, h.l.keep' hf h.ap (fun _ _ h => h.keep hf hs), h.n, fun hn a ha hin => h.ap hn a ha (hs _ hin (h.l.lt hn (by decide) (fun _ _ => rfl) a ha)),
    h.l2.keep' hf h.ap2 (fun _ _ h => h.keep hf hs), h.n2, fun hn a ha hin => h.ap2 hn a ha (hs _ hin (h.l2.lt hn (by decide) (fun v hv => Wop.len (h.l2.2.1 v hv).2.h) a ha)),
    h.l3.keep' hf h.ap3 (fun _ _ h => h.keep hf hs), h.n3, fun hn a ha hin => h.ap3 hn a ha (hs _ hin (h.l3.lt hn (by decide) (fun _ _ => rfl) a ha))⟩
def Wba.full (x : Wba) : List UInt8 := encI x.e ++ enc x.t ++ listL Wpr.full x.l ++ listL Wop.full x.l2 ++ listL Wtb.full x.l3
theorem Wba.l_len {w : World} {S : List Nat} {x : Wba} (hx : x.Ok w S) : (listL Wpr.full x.l).length ≤ 9300 := by
  have b1 := encI_len (x.l.length : Int) (by have := hx.n; have := hx.l.1; omega)
  have b2 : (x.l.flatMap Wpr.full).length ≤ 4 * 2300 := flat_len (fun v hv => Wpr.full_len (hx.l.2.1 v hv).2) (by have := hx.n; have := hx.l.1; omega)
  simp only [listL, List.length_append]
  omega
theorem Wba.l2_len {w : World} {S : List Nat} {x : Wba} (hx : x.Ok w S) : (listL Wop.full x.l2).length ≤ 1700 := by
  have b1 := encI_len (x.l2.length : Int) (by have := hx.n2; have := hx.l2.1; omega)
  have b2 : (x.l2.flatMap Wop.full).length ≤ 5 * 320 := flat_len (fun v hv => Wop.full_len (hx.l2.2.1 v hv).2) (by have := hx.n2; have := hx.l2.1; omega)
  simp only [listL, List.length_append]
  omega
theorem Wba.l3_len {w : World} {S : List Nat} {x : Wba} (hx : x.Ok w S) : (listL Wtb.full x.l3).length ≤ 2700 := by
  have b1 := encI_len (x.l3.length : Int) (by have := hx.n3; have := hx.l3.1; omega)
  have b2 : (x.l3.flatMap Wtb.full).length ≤ 5 * 520 := flat_len (fun v hv => Wtb.full_len (hx.l3.2.1 v hv).2) (by have := hx.n3; have := hx.l3.1; omega)
  simp only [listL, List.length_append]
  omega
theorem Wba.full_len {w : World} {S : List Nat} {x : Wba} (hx : x.Ok w S) : x.full.length ≤ 14000 := by
  have b0 := encI_len x.e hx.e.2
  have b1 := enc_ten hx.t
  have b2 := Wba.l_len hx
  have b3 := Wba.l2_len hx
  have b4 := Wba.l3_len hx
  simp only [Wba.full, List.length_append]
  omega
set_option maxHeartbeats 1000000 in
theorem putBatch_any (x : Wba) (w : World) (S : List Nat) (g : Nat) (l : List UInt8) (hw : Wr w S g l) (hl : l.length + 60000 ≤ 1073741000) (hx : x.Ok w S) :
    Calls Try.prog 132 #[.pointer (some ⟨g, 0, none⟩), x.val] w fun e w' => e = .returned (.pointer (some ⟨g, 0, none⟩)) ∧ Gr w S g (l ++ x.full) w' := by
  obtain ⟨wa, hwa⟩ : ∃ wa, wa = w.alloc (Obj.cells x.cells.toArray 41) := ⟨_, rfl⟩
  have hf0 : Fr [] w wa := by rw [hwa]; exact (Fr.refl [] w).alloc _
  have hb0 : Blk wa w.heap.size 41 x.cells.toArray := by rw [hwa]; exact Blk.new _ _ _
  have HNS : Hid (¬ w.heap.size ∈ S) := Lib.hid (fun h => by have := hw.lt _ h; omega)
  have HG0 := Lib.hid (Gr.begin hw hf0)
  have HC0 : Hid (wa.cell? ⟨w.heap.size, 0 + 0, none⟩ = some (.int .i64 x.e)) := Lib.hid (hb0.range (cs := x.cells) 0 _ rfl)
  have HC1 : Hid (wa.cell? ⟨w.heap.size, 0 + 1, none⟩ = some (.int .u64 (x.t : Int))) := Lib.hid (hb0.range (cs := x.cells) 1 _ rfl)
  have HC2 : Hid (wa.cell? ⟨w.heap.size, 0 + 2, none⟩ = some (.slice x.A x.n x.d)) := Lib.hid (hb0.range (cs := x.cells) 2 _ rfl)
  have HC3 : Hid (wa.cell? ⟨w.heap.size, 0 + 3, none⟩ = some (.slice x.A2 x.n2 x.d2)) := Lib.hid (hb0.range (cs := x.cells) 3 _ rfl)
  have HC4 : Hid (wa.cell? ⟨w.heap.size, 0 + 4, none⟩ = some (.slice x.A3 x.n3 x.d3)) := Lib.hid (hb0.range (cs := x.cells) 4 _ rfl)
  have HXA : Hid (x.Ok wa S) := Lib.hid (hx.keep (hf0.mono (T := S) (by simp)) (fun k hk _ => hk))
  have HF0 := Lib.hid hf0
  have HWA := Lib.hid hwa
  have HL := Lib.hid hl
  have HX := Lib.hid hx
  clear hwa hf0 hb0 hl hw hx
  unfold Wba.val
  generalize hC : x.cells = C at *
  have HRC := Lib.hid hC
  clear hC
  go_enter Try.func132, Try.ntmps132
  go_wp2
  rw [← HWA.out]
  refine wp_region_held_drew (S := Fr S wa) (by kernel_rfl) (Fr.drew (Fr.refl _ wa)) (fun hHeld => ?_)
  refine run_at (i := 0) (v := ?_) rfl (by kernel_rfl) (by rfl) (fun _ _ _ h => h) hHeld (fun w1 hw1 => ?_) ?_
  rotate_left 1
  · skip
    go_simp
    (try (first | with_reducible rfl | (apply And.intro <;> rfl)))
  simp only [Act.put, List.setIfInBounds_toArray, List.set_cons_zero, List.set_cons_succ]
  refine run_at (i := 1) (v := ?_) rfl (by kernel_rfl) (by rfl) (fun _ _ _ h => h) hHeld (fun w1 hw1 => ?_) ?_
  rotate_left 1
  · skip
    go_simp
    (try (first | with_reducible rfl | (apply And.intro <;> rfl)))
  simp only [Act.put, List.setIfInBounds_toArray, List.set_cons_zero, List.set_cons_succ]
  refine run_at (i := 2) (v := ?_) rfl (by kernel_rfl) (by rfl) (fun _ _ _ h => h) hHeld (fun w1 hw1 => ?_) ?_
  rotate_left 1
  · skip
    have hcw0 := hw1.cell (HC0.out) (by first | (simp; done) | exact HNS.out | exact HNW.out | (intro hm; have hlt := HSB.out _ hm; (try dsimp only at hlt); omega))
    go_simp
    (try (first | with_reducible rfl | (apply And.intro <;> rfl)))
  simp only [Act.put, List.setIfInBounds_toArray, List.set_cons_zero, List.set_cons_succ]
  refine run_at (i := 4) (v := ?_) rfl (by kernel_rfl) (by rfl) (fun _ _ _ h => h) hHeld (fun w1 hw1 => ?_) ?_
  rotate_left 1
  · skip
    go_simp
    (try (first | with_reducible rfl | (apply And.intro <;> rfl)))
  simp only [Act.put, List.setIfInBounds_toArray, List.set_cons_zero, List.set_cons_succ]
  refine run_at (i := 5) (v := ?_) rfl (by kernel_rfl) (by rfl) (fun _ _ _ h => h) hHeld (fun w1 hw1 => ?_) ?_
  rotate_left 1
  · skip
    have hcw0 := hw1.cell (HC1.out) (by first | (simp; done) | exact HNS.out | exact HNW.out | (intro hm; have hlt := HSB.out _ hm; (try dsimp only at hlt); omega))
    go_simp
    (try (first | with_reducible rfl | (apply And.intro <;> rfl)))
  simp only [Act.put, List.setIfInBounds_toArray, List.set_cons_zero, List.set_cons_succ]
  refine call_at (i := 3) (f := ?_) (args := ?_) rfl (by kernel_rfl) (by rfl) ?_ ?_
  rotate_left 2
  · go_simp
    (try (first | with_reducible rfl | (apply And.intro <;> rfl)))
  refine (HG0.out.call fun S1 k1 => int_any x.e HX.out.e.1 HX.out.e.2 _ S1 g _ k1 (by have h0 := HL.out; (try simp only [List.length_append, sgL, nmL] at *); omega)).mono ?_
  rintro e w1 ⟨rfl, hg1⟩
  have HG1 := Lib.hid hg1
  refine ⟨_, rfl, hg1.fr, fun hHeld => ?_⟩
  clear hg1 HG0
  simp only [Act.put, List.setIfInBounds_toArray, List.set_cons_zero, List.set_cons_succ]
  refine call_at (i := 6) (f := ?_) (args := ?_) rfl (by kernel_rfl) (by rfl) ?_ ?_
  rotate_left 2
  · go_simp
    (try (first | with_reducible rfl | (apply And.intro <;> rfl)))
  refine (HG1.out.call fun S1 k1 => num_any x.t HX.out.t _ S1 g _ k1 (by have h0 := HL.out; have b0 := encI_len x.e HX.out.e.2; (try simp only [List.length_append, sgL, nmL] at *); omega)).mono ?_
  rintro e w2 ⟨rfl, hg2⟩
  have HG2 := Lib.hid hg2
  refine ⟨_, rfl, hg2.fr, fun hHeld => ?_⟩
  clear hg2 HG1
  simp only [Act.put, List.setIfInBounds_toArray, List.set_cons_zero, List.set_cons_succ]
  refine wpAnyH_done (by kernel_rfl) ?_ _
  have hc2 : w2.cell? ⟨w.heap.size, 2, none⟩ = some (.slice x.A x.n x.d) := HG2.out.fr.cell HC2.out HNS.out
  go_wp2_with fail
  refine (HG2.out.calls fun S1 k1 f1 s1 => putPromises_any Wpr.cells (fun w S v => v.Ok w S) Wpr.full 6200 Wpr.one rfl (fun _ _ v h => Nat.le_trans (Wpr.full_len h) (by decide)) (fun v W S g l h hw hl => putPromise_any v W S g l hw hl h) _ S1 g _ k1 x.A x.n x.d x.l (HXA.out.keep f1 s1).l (by have := HX.out.n; omega) (HXA.out.keep f1 s1).ap (fun _ _ hf hs _ _ h => h.keep hf hs) (by have h0 := HL.out; have b0 := encI_len x.e HX.out.e.2; have b1 := enc_ten HX.out.t; have b2 := Wba.l_len HX.out; have b3 := Wba.l2_len HX.out; have := HX.out.n; simp only [List.length_append]; omega)).mono ?_
  rintro e w3 ⟨rfl, hg3⟩
  have HG3 := Lib.hid hg3
  clear hg3 HG2 hc2
  have hc3 : w3.cell? ⟨w.heap.size, 3, none⟩ = some (.slice x.A2 x.n2 x.d2) := HG3.out.fr.cell HC3.out HNS.out
  go_wp2_with fail
  refine (HG3.out.calls fun S1 k1 f1 s1 => putOpenings_any Wop.cells (fun w S v => v.Ok w S) Wop.full 500 Wop.one rfl (fun _ _ v h => Nat.le_trans (Wop.full_len h) (by decide)) (fun v W S g l h hw hl => putOpening_any v W S g l hw hl h) _ S1 g _ k1 x.A2 x.n2 x.d2 x.l2 (HXA.out.keep f1 s1).l2 (by have := HX.out.n2; omega) (HXA.out.keep f1 s1).ap2 (fun _ _ hf hs _ _ h => h.keep hf hs) (by have h0 := HL.out; have b0 := encI_len x.e HX.out.e.2; have b1 := enc_ten HX.out.t; have b2 := Wba.l_len HX.out; have b3 := Wba.l2_len HX.out; have := HX.out.n2; simp only [List.length_append]; omega)).mono ?_
  rintro e w4 ⟨rfl, hg4⟩
  have HG4 := Lib.hid hg4
  clear hg4 HG3 hc3
  have hc4 : w4.cell? ⟨w.heap.size, 4, none⟩ = some (.slice x.A3 x.n3 x.d3) := HG4.out.fr.cell HC4.out HNS.out
  go_wp2_with fail
  refine (HG4.out.calls fun S1 k1 f1 s1 => putTombs_any Wtb.cells (fun w S v => v.Ok w S) Wtb.full 1500 Wtb.one rfl (fun _ _ v h => Nat.le_trans (Wtb.full_len h) (by decide)) (fun v W S g l h hw hl => putTomb_any v W S g l hw hl h) _ S1 g _ k1 x.A3 x.n3 x.d3 x.l3 (HXA.out.keep f1 s1).l3 (by have := HX.out.n3; omega) (HXA.out.keep f1 s1).ap3 (fun _ _ hf hs _ _ h => h.keep hf hs) (by have h0 := HL.out; have b0 := encI_len x.e HX.out.e.2; have b1 := enc_ten HX.out.t; have b2 := Wba.l_len HX.out; have b3 := Wba.l2_len HX.out; have := HX.out.n3; simp only [List.length_append]; omega)).mono ?_
  rintro e w5 ⟨rfl, hg5⟩
  have HG5 := Lib.hid hg5
  clear hg5 HG4 hc4
  go_wp2
  go_ret
  exact ⟨rfl, (HG5.out.from_ HF0.out).eq (by simp [Wba.full, List.append_assoc])⟩
theorem putBatch_any' (x : Wba) (C : List Value) (hC : x.cells = C) (w : World) (S : List Nat) (g : Nat) (l : List UInt8) (hw : Wr w S g l) (hl : l.length + 60000 ≤ 1073741000) (hx : x.Ok w S) :
    Calls Try.prog 132 #[.pointer (some ⟨g, 0, none⟩), .agg C.toArray] w fun e w' => e = .returned (.pointer (some ⟨g, 0, none⟩)) ∧ Gr w S g (l ++ x.full) w' := by
  subst hC
  exact putBatch_any x w S g l hw hl hx
end Go.Proofs.Ytkofmefnlppoaaa

namespace Go.Proofs.Ytkofmefnlppoaaa
open Go.RowKit
set_option maxRecDepth 100000
theorem NewWr.calls {P : Program} {f : FuncId} {args : Array Value} {w0 w : World} {g : Nat} {l l' : List UInt8} {v : Value} (h : NewWr w0 w g l)
    (hc : ∀ S, Wr w S g l → Fr [] w0 w → (∀ k ∈ S, w0.heap.size ≤ k) → Calls P f args w fun e w' => e = .returned v ∧ Gr w S g l' w') : Calls P f args w fun e w' => e = .returned v ∧ NewWr w0 w' g l' := by
  obtain ⟨S, k1, k2, k3⟩ := h
  refine (hc S k1 k2 k3).mono ?_
  rintro e w' ⟨rfl, hg⟩
  exact ⟨rfl, NewWr.add k2 k3 hg⟩
def wWpr : List UInt8 := [112, 114, 111, 109, 105, 115, 101]
def Wpr.text (x : Wpr) : List UInt8 := enc wWpr.length ++ wWpr ++ x.bare
theorem Wpr.text_len {w : World} {S : List Nat} {x : Wpr} (hx : x.Ok w S) : x.text.length ≤ 2300 := by
  have b0 := Wpr.bare_len hx
  have b1 := enc_ten (m := wWpr.length) (by decide)
  have b2 : wWpr.length = 7 := rfl
  simp only [Wpr.text, List.length_append]
  omega
/-- one more than z, below 0: 0 -/
def oneM (z : Int) : Nat := if z < 0 then 0 else z.toNat + 1
theorem oneMore_any (z : Int) (hz : i64In z) (w : World) :
    Calls Try.prog 144 #[.int .i64 z] w fun e w' => e = .returned (.int .u64 (oneM z : Int)) ∧ w' = w := by
  obtain ⟨h1, h2⟩ := hz
  unfold oneM
  by_cases h : z < 0
  · rw [if_pos h]
    go_enter Try.func144, Try.ntmps144
    go_wp2
    go_ret
    exact ⟨rfl, rfl⟩
  · rw [if_neg h]
    have e1 : IntKind.u64.wrap z = z := IntWalk.u64_in _ (by omega)
    have e2 : IntKind.u64.wrap (z + 1) = z + 1 := IntWalk.u64_in _ (by omega)
    go_enter Try.func144, Try.ntmps144
    go_wp2
    go_ret
    exact ⟨by show Ending.returned (Value.int IntKind.u64 (z + 1)) = _; congr 2; omega, rfl⟩
/-- a proposal -/
structure Wpo where
  e : Int
  r : Int
  v : Int
  p : Int
  k : Wba
  b : Int
  m : Int
def Wpo.cells (x : Wpo) : List Value := [.int .i64 x.e, .int .i64 x.r, .int .i64 x.v, .int .i64 x.p] ++ (x.k.cells ++ [.int .i64 x.b, .int .i64 x.m])
def Wpo.val (x : Wpo) : Value := .agg x.cells.toArray
structure Wpo.Ok (w : World) (x : Wpo) : Prop where
  e : i64In x.e
  r : i64In x.r
  v : i64In x.v
  p : i64In x.p
  k : x.k.Ok w []
  b : i64In x.b
  m : i64In x.m
theorem Wpo.len (x : Wpo) : x.cells.length = 11 := rfl
def wWpo : List UInt8 := [112, 114, 111, 112, 111, 115, 97, 108]
def Wpo.head (x : Wpo) : List UInt8 := encI x.e ++ encI x.r ++ enc (oneM x.v) ++ encI x.p
theorem Wpo.head_len {x : Wpo} (he : i64In x.e) (hr : i64In x.r) (hv : i64In x.v) (hp : i64In x.p) : x.head.length ≤ 40 := by
  have b0 := encI_len x.e he.2
  have b1 := encI_len x.r hr.2
  have b2 := encI_len x.p hp.2
  have b3 : oneM x.v < 18446744073709551616 := by have := hv.2; unfold oneM; split <;> omega
  have b4 := enc_ten b3
  simp only [Wpo.head, List.length_append]
  omega
def Wpo.text (x : Wpo) : List UInt8 := enc wWpo.length ++ wWpo ++ x.head ++ sumL x.k.full
theorem row_prop : RowTy Try.prog 75 11 := ⟨by kernel_rfl, by kernel_rfl⟩
set_option maxHeartbeats 1000000 in
theorem proposalHead_any (x : Wpo) (C : List Value) (hC : x.cells = C) (w : World) (S : List Nat) (g : Nat) (l : List UInt8) (hw : Wr w S g l) (hl : l.length + 100 ≤ 1073741000) (he : i64In x.e) (hr : i64In x.r) (hv : i64In x.v) (hp : i64In x.p) :
    Calls Try.prog 133 #[.pointer (some ⟨g, 0, none⟩), .agg C.toArray] w fun e w' => e = .returned (.pointer (some ⟨g, 0, none⟩)) ∧ Gr w S g (l ++ x.head) w' := by
  obtain ⟨wa, hwa⟩ : ∃ wa, wa = w.alloc (Obj.cells C.toArray 75) := ⟨_, rfl⟩
  have hf0 : Fr [] w wa := by rw [hwa]; exact (Fr.refl [] w).alloc _
  have hb0 : Blk wa w.heap.size 75 x.cells.toArray := by rw [hwa, hC]; exact Blk.new _ _ _
  have HNS : Hid (¬ w.heap.size ∈ S) := Lib.hid (fun h => by have := hw.lt _ h; omega)
  have HG0 := Lib.hid (Gr.begin hw hf0)
  have HC0 : Hid (wa.cell? ⟨w.heap.size, 0 + 0, none⟩ = some (.int .i64 x.e)) := Lib.hid (hb0.range (cs := x.cells) 0 _ rfl)
  have HC1 : Hid (wa.cell? ⟨w.heap.size, 0 + 1, none⟩ = some (.int .i64 x.r)) := Lib.hid (hb0.range (cs := x.cells) 1 _ rfl)
  have HC2 : Hid (wa.cell? ⟨w.heap.size, 0 + 2, none⟩ = some (.int .i64 x.v)) := Lib.hid (hb0.range (cs := x.cells) 2 _ rfl)
  have HC3 : Hid (wa.cell? ⟨w.heap.size, 0 + 3, none⟩ = some (.int .i64 x.p)) := Lib.hid (hb0.range (cs := x.cells) 3 _ rfl)
  have HM : Hid (oneM x.v < 18446744073709551616) := Lib.hid (by have := hv.2; unfold oneM; split <;> omega)
  have HF0 := Lib.hid hf0
  have HWA := Lib.hid hwa
  have HL := Lib.hid hl
  have HE := Lib.hid he
  have HR := Lib.hid hr
  have HV := Lib.hid hv
  have HP := Lib.hid hp
  clear hwa hf0 hb0 hl hw he hr hv hp hC
  go_enter Try.func133, Try.ntmps133
  go_wp2
  rw [← HWA.out]
  refine wp_region_held_drew (S := Fr S wa) (by kernel_rfl) (Fr.drew (Fr.refl _ wa)) (fun hHeld => ?_)
  refine run_at (i := 0) (v := ?_) rfl (by kernel_rfl) (by rfl) (fun _ _ _ h => h) hHeld (fun w1 hw1 => ?_) ?_
  rotate_left 1
  · skip
    go_simp
    (try (first | with_reducible rfl | (apply And.intro <;> rfl)))
  simp only [Act.put, List.setIfInBounds_toArray, List.set_cons_zero, List.set_cons_succ]
  refine run_at (i := 1) (v := ?_) rfl (by kernel_rfl) (by rfl) (fun _ _ _ h => h) hHeld (fun w1 hw1 => ?_) ?_
  rotate_left 1
  · skip
    go_simp
    (try (first | with_reducible rfl | (apply And.intro <;> rfl)))
  simp only [Act.put, List.setIfInBounds_toArray, List.set_cons_zero, List.set_cons_succ]
  refine run_at (i := 2) (v := ?_) rfl (by kernel_rfl) (by rfl) (fun _ _ _ h => h) hHeld (fun w1 hw1 => ?_) ?_
  rotate_left 1
  · skip
    have hcw0 := hw1.cell (HC0.out) (by first | (simp; done) | exact HNS.out | exact HNW.out | (intro hm; have hlt := HSB.out _ hm; (try dsimp only at hlt); omega))
    go_simp
    (try (first | with_reducible rfl | (apply And.intro <;> rfl)))
  simp only [Act.put, List.setIfInBounds_toArray, List.set_cons_zero, List.set_cons_succ]
  refine run_at (i := 4) (v := ?_) rfl (by kernel_rfl) (by rfl) (fun _ _ _ h => h) hHeld (fun w1 hw1 => ?_) ?_
  rotate_left 1
  · skip
    go_simp
    (try (first | with_reducible rfl | (apply And.intro <;> rfl)))
  simp only [Act.put, List.setIfInBounds_toArray, List.set_cons_zero, List.set_cons_succ]
  refine run_at (i := 5) (v := ?_) rfl (by kernel_rfl) (by rfl) (fun _ _ _ h => h) hHeld (fun w1 hw1 => ?_) ?_
  rotate_left 1
  · skip
    have hcw0 := hw1.cell (HC1.out) (by first | (simp; done) | exact HNS.out | exact HNW.out | (intro hm; have hlt := HSB.out _ hm; (try dsimp only at hlt); omega))
    go_simp
    (try (first | with_reducible rfl | (apply And.intro <;> rfl)))
  simp only [Act.put, List.setIfInBounds_toArray, List.set_cons_zero, List.set_cons_succ]
  refine run_at (i := 7) (v := ?_) rfl (by kernel_rfl) (by rfl) (fun _ _ _ h => h) hHeld (fun w1 hw1 => ?_) ?_
  rotate_left 1
  · skip
    go_simp
    (try (first | with_reducible rfl | (apply And.intro <;> rfl)))
  simp only [Act.put, List.setIfInBounds_toArray, List.set_cons_zero, List.set_cons_succ]
  refine run_at (i := 8) (v := ?_) rfl (by kernel_rfl) (by rfl) (fun _ _ _ h => h) hHeld (fun w1 hw1 => ?_) ?_
  rotate_left 1
  · skip
    have hcw0 := hw1.cell (HC2.out) (by first | (simp; done) | exact HNS.out | exact HNW.out | (intro hm; have hlt := HSB.out _ hm; (try dsimp only at hlt); omega))
    go_simp
    (try (first | with_reducible rfl | (apply And.intro <;> rfl)))
  simp only [Act.put, List.setIfInBounds_toArray, List.set_cons_zero, List.set_cons_succ]
  refine run_at (i := 11) (v := ?_) rfl (by kernel_rfl) (by rfl) (fun _ _ _ h => h) hHeld (fun w1 hw1 => ?_) ?_
  rotate_left 1
  · skip
    go_simp
    (try (first | with_reducible rfl | (apply And.intro <;> rfl)))
  simp only [Act.put, List.setIfInBounds_toArray, List.set_cons_zero, List.set_cons_succ]
  refine run_at (i := 12) (v := ?_) rfl (by kernel_rfl) (by rfl) (fun _ _ _ h => h) hHeld (fun w1 hw1 => ?_) ?_
  rotate_left 1
  · skip
    have hcw0 := hw1.cell (HC3.out) (by first | (simp; done) | exact HNS.out | exact HNW.out | (intro hm; have hlt := HSB.out _ hm; (try dsimp only at hlt); omega))
    go_simp
    (try (first | with_reducible rfl | (apply And.intro <;> rfl)))
  simp only [Act.put, List.setIfInBounds_toArray, List.set_cons_zero, List.set_cons_succ]
  refine call_at (i := 3) (f := ?_) (args := ?_) rfl (by kernel_rfl) (by rfl) ?_ ?_
  rotate_left 2
  · go_simp
    (try (first | with_reducible rfl | (apply And.intro <;> rfl)))
  refine (HG0.out.call fun S1 k1 => int_any x.e HE.out.1 HE.out.2 _ S1 g _ k1 (by have h0 := HL.out; (try simp only [List.length_append] at *); omega)).mono ?_
  rintro e w1 ⟨rfl, hg1⟩
  have HG1 := Lib.hid hg1
  refine ⟨_, rfl, hg1.fr, fun hHeld => ?_⟩
  clear hg1 HG0
  simp only [Act.put, List.setIfInBounds_toArray, List.set_cons_zero, List.set_cons_succ]
  refine call_at (i := 6) (f := ?_) (args := ?_) rfl (by kernel_rfl) (by rfl) ?_ ?_
  rotate_left 2
  · go_simp
    (try (first | with_reducible rfl | (apply And.intro <;> rfl)))
  refine (HG1.out.call fun S1 k1 => int_any x.r HR.out.1 HR.out.2 _ S1 g _ k1 (by have h0 := HL.out; have b0 := encI_len x.e HE.out.2; (try simp only [List.length_append] at *); omega)).mono ?_
  rintro e w2 ⟨rfl, hg2⟩
  have HG2 := Lib.hid hg2
  refine ⟨_, rfl, hg2.fr, fun hHeld => ?_⟩
  clear hg2 HG1
  simp only [Act.put, List.setIfInBounds_toArray, List.set_cons_zero, List.set_cons_succ]
  refine call_at (i := 9) (f := ?_) (args := ?_) rfl (by kernel_rfl) (by rfl) ?_ ?_
  rotate_left 2
  · go_simp
    (try (first | with_reducible rfl | (apply And.intro <;> rfl)))
  refine (oneMore_any x.v HV.out w2).mono ?_
  rintro e w4 ⟨rfl, hw4⟩
  rw [hw4]
  clear hw4 w4
  refine ⟨_, rfl, HG2.out.fr, fun hHeld => ?_⟩
  simp only [Act.put, List.setIfInBounds_toArray, List.set_cons_zero, List.set_cons_succ]
  refine call_at (i := 10) (f := ?_) (args := ?_) rfl (by kernel_rfl) (by rfl) ?_ ?_
  rotate_left 2
  · go_simp
    (try (first | with_reducible rfl | (apply And.intro <;> rfl)))
  refine (HG2.out.call fun S1 k1 => num_any (oneM x.v) HM.out _ S1 g _ k1 (by have h0 := HL.out; have b0 := encI_len x.e HE.out.2; have b1 := encI_len x.r HR.out.2; (try simp only [List.length_append] at *); omega)).mono ?_
  rintro e w5 ⟨rfl, hg5⟩
  have HG5 := Lib.hid hg5
  refine ⟨_, rfl, hg5.fr, fun hHeld => ?_⟩
  clear hg5 HG2
  simp only [Act.put, List.setIfInBounds_toArray, List.set_cons_zero, List.set_cons_succ]
  refine call_at (i := 13) (f := ?_) (args := ?_) rfl (by kernel_rfl) (by rfl) ?_ ?_
  rotate_left 2
  · go_simp
    (try (first | with_reducible rfl | (apply And.intro <;> rfl)))
  refine (HG5.out.call fun S1 k1 => int_any x.p HP.out.1 HP.out.2 _ S1 g _ k1 (by have h0 := HL.out; have b0 := encI_len x.e HE.out.2; have b1 := encI_len x.r HR.out.2; have b2 := enc_ten HM.out; (try simp only [List.length_append] at *); omega)).mono ?_
  rintro e w6 ⟨rfl, hg6⟩
  have HG6 := Lib.hid hg6
  refine ⟨_, rfl, hg6.fr, fun hHeld => ?_⟩
  clear hg6 HG5
  simp only [Act.put, List.setIfInBounds_toArray, List.set_cons_zero, List.set_cons_succ]
  refine run_at (i := 14) (v := ?_) rfl (by kernel_rfl) (by rfl) (fun _ _ _ h => h) hHeld (fun w1 hw1 => ?_) ?_
  rotate_left 1
  · skip
    go_simp
    (try (first | with_reducible rfl | (apply And.intro <;> rfl)))
  simp only [Act.put, List.setIfInBounds_toArray, List.set_cons_zero, List.set_cons_succ]
  refine wpAnyH_done (by kernel_rfl) ?_ _
  go_wp2
  go_ret
  exact ⟨rfl, (HG6.out.from_ HF0.out).eq (by simp [Wpo.head, List.append_assoc])⟩
end Go.Proofs.Ytkofmefnlppoaaa

namespace Go.Proofs.Ytkofmefnlppoaaa
open Go.RowKit
set_option maxRecDepth 100000
theorem reflen_any {α : Type} (l : List α) (n : Nat) (hn : l.length = n) (hb : n ≤ 1000) (w : World) :
    Calls Try.prog 37 #[.int .i64 (n : Int)] w fun e w' => ∃ A c, e = .returned (.slice A (encI (l.length : Int)).length c) ∧ NewB w w' A (encI (l.length : Int)).length c (encI (l.length : Int)) := by
  rw [hn]
  exact refint_any (n : Int) (by omega) w
theorem NewB.nxt {w w1 w2 : World} {A : Option Addr} {n c : Nat} {l : List UInt8} (h : NewB w w1 A n c l) (hf : Fr [] w1 w2) : NewB w w2 A n c l := ⟨own_keep h.1 hf (by simp), h.2.1.and hf (by simp), h.2.2⟩
theorem flat_snoc {α : Type} {l : List α} {k : Nat} {v : α} (h : l[k]? = some v) (full : α → List UInt8) : (l.take (k + 1)).flatMap full = (l.take k).flatMap full ++ full v := by
  rw [List.take_add_one, h]
  simp

set_option maxHeartbeats 4000000 in
theorem refputCert_any (x : Wce) (w : World) (hx : x.Ok w []) (C : List Value) (hC : x.cells = C) :
    Calls Try.prog 7 #[.agg C.toArray] w fun e w' => ∃ A c, e = .returned (.slice A (x.full).length c) ∧ NewB w w' A (x.full).length c (x.full) := by
  obtain ⟨wa, hwa⟩ : ∃ wa, wa = w.alloc (Obj.cells C.toArray 32) := ⟨_, rfl⟩
  have hf0 : Fr [] w wa := by rw [hwa]; exact (Fr.refl [] w).alloc _
  have hb0 : Blk wa w.heap.size 32 x.cells.toArray := by rw [hwa, hC]; exact Blk.new _ _ _
  have HALL : Hid (wa.rangeAt w.heap.size 0 C) := Lib.hid (by rw [← hC]; exact hb0.range)
  have HCL : Hid (wa.cell? ⟨w.heap.size, 37, none⟩ = some (.slice x.A x.n x.d)) := Lib.hid (by have h := hb0.range 37 (.slice x.A x.n x.d) (by rw [Wce.cells, List.getElem?_append_right (by rw [Wcm.len hx.k.h]; exact Nat.le_refl _), Wcm.len hx.k.h]; rfl); simpa using h)
  have HKR0 : wa.rangeAt w.heap.size 0 x.k.cells := rangeAt_sub (xs := []) (ys := x.k.cells) (zs := [.slice x.A x.n x.d]) hb0.range
  have HKL0 : x.k.cells.length = 37 := Wcm.len hx.k.h
  generalize hK : x.k.cells = K at *
  have HKR := Lib.hid HKR0
  have HKL := Lib.hid HKL0
  have HRK := Lib.hid hK
  clear hK HKR0 HKL0
  have HX := Lib.hid hx
  have HRC := Lib.hid hC
  clear hb0 hx hC
  have HF0 := Lib.hid hf0
  have HWA := Lib.hid hwa
  clear hwa hf0
  go_enter Try.func7, Try.ntmps7
  go_wp2
  rw [← HWA.out]
  refine wp_region_held_drew (S := Fr [] wa) (by kernel_rfl) (Fr.drew (Fr.refl _ wa)) (fun hHeld => ?_)
  have HFD : Hid (Fr [] wa wa.drew) := Lib.hid (Fr.drew (Fr.refl [] wa))
  generalize wa.drew = wd at *
  refine run_at (i := 0) (v := ?_) rfl (by kernel_rfl) (by rfl) (fun _ _ _ h => h) hHeld (fun w1 hw1 => ?_) ?_
  rotate_left 1
  · skip
    go_simp
    (try (first | with_reducible rfl | (apply And.intro <;> rfl)))
  simp only [Act.put, List.setIfInBounds_toArray, List.set_cons_zero, List.set_cons_succ]
  refine row_at (i := 1) rfl (by kernel_rfl) (by rfl) _ _ rfl _ _ rfl _ (fun w1 hw1 => hw1.range (HKR.out) (by first | (simp; done) | exact HNS.out | exact HNW.out | (intro hm; have hlt := HSB.out _ hm; (try dsimp only at hlt); omega))) (row_commit.of HKL.out) (fun _ _ _ h => h) hHeld ?_
  simp only [Act.put, List.setIfInBounds_toArray, List.set_cons_zero, List.set_cons_succ]
  refine run_at (i := 3) (v := ?_) rfl (by kernel_rfl) (by rfl) (fun _ _ _ h => h) hHeld (fun w1 hw1 => ?_) ?_
  rotate_left 1
  · skip
    go_simp
    (try (first | with_reducible rfl | (apply And.intro <;> rfl)))
  simp only [Act.put, List.setIfInBounds_toArray, List.set_cons_zero, List.set_cons_succ]
  refine run_at (i := 4) (v := ?_) rfl (by kernel_rfl) (by rfl) (fun _ _ _ h => h) hHeld (fun w1 hw1 => ?_) ?_
  rotate_left 1
  · skip
    have hcw0 := hw1.cell (HCL.out) (by first | (simp; done) | exact HNS.out | exact HNW.out | (intro hm; have hlt := HSB.out _ hm; (try dsimp only at hlt); omega))
    go_simp
    (try (first | with_reducible rfl | (apply And.intro <;> rfl)))
  simp only [Act.put, List.setIfInBounds_toArray, List.set_cons_zero, List.set_cons_succ]
  refine run_at (i := 5) (v := ?_) rfl (by kernel_rfl) (by rfl) (fun _ _ _ h => h) hHeld (fun w1 hw1 => ?_) ?_
  rotate_left 1
  · skip
    go_simp
    (try (first | with_reducible rfl | (apply And.intro <;> rfl)))
  simp only [Act.put, List.setIfInBounds_toArray, List.set_cons_zero, List.set_cons_succ]
  refine call_at (i := 2) (f := ?_) (args := ?_) rfl (by kernel_rfl) (by rfl) ?_ ?_
  rotate_left 2
  · go_simp
    (try (first | with_reducible rfl | (apply And.intro <;> rfl)))
  refine (refputCommit_any x.k HX.out.k K HRK.out wd).mono ?_
  rintro e w2 ⟨A2, c2, rfl, hN⟩
  obtain ⟨n2, hn2⟩ : ∃ nn_, nn_ = (x.k.full).length := ⟨_, rfl⟩
  obtain ⟨l2, hl2⟩ : ∃ ll_, ll_ = x.k.full := ⟨_, rfl⟩
  rw [← hn2] at hN ⊢
  rw [← hl2] at hN
  have HB2 : Hid (n2 ≤ 20000) := Lib.hid (by rw [hn2]; have := Wcm.full_len HX.out.k; omega)
  have HL2 := Lib.hid hl2
  refine ⟨_, rfl, hHeld.go hN.2.1 (by simp), fun hHeld => ?_⟩
  simp only [Act.put, List.setIfInBounds_toArray, List.set_cons_zero, List.set_cons_succ]
  have HY2 := Lib.hid hN.by
  have HFD := Lib.hid (HFD.out.and hN.2.1 (by simp))
  clear hN hn2 hl2
  refine call_at (i := 6) (f := ?_) (args := ?_) rfl (by kernel_rfl) (by rfl) ?_ ?_
  rotate_left 2
  · go_simp
    (try (first | with_reducible rfl | (apply And.intro <;> rfl)))
  refine (reflen_any x.l _ HX.out.l.1 (show x.n ≤ 1000 by have := HX.out.n; omega) w2).mono ?_
  rintro e w6 ⟨A6, c6, rfl, hN⟩
  obtain ⟨n6, hn6⟩ : ∃ nn_, nn_ = (encI (x.l.length : Int)).length := ⟨_, rfl⟩
  obtain ⟨l6, hl6⟩ : ∃ ll_, ll_ = encI (x.l.length : Int) := ⟨_, rfl⟩
  rw [← hn6] at hN ⊢
  rw [← hl6] at hN
  have HB6 : Hid (n6 ≤ 20000) := Lib.hid (by rw [hn6]; have := encI_len (x.l.length : Int) (by have := (show x.n ≤ 1000 by have := HX.out.n; omega); have := HX.out.l.1; omega); omega)
  have HL6 := Lib.hid hl6
  refine ⟨_, rfl, hHeld.go hN.2.1 (by simp), fun hHeld => ?_⟩
  simp only [Act.put, List.setIfInBounds_toArray, List.set_cons_zero, List.set_cons_succ]
  have HY6 := Lib.hid hN.by
  have HFD := Lib.hid (HFD.out.and hN.2.1 (by simp))
  have HY2 := Lib.hid (Fr.byk hN.2.1 HY2.out)
  clear hN hn6 hl6
  refine step_at (i := 7) rfl (by kernel_rfl) (by rfl) (fun K hK => ?_)
  refine wp_run (v := ?_) (w' := ?_) ?_ ?_
  rotate_left 2
  · go_simp
    (try (first | with_reducible rfl | (apply And.intro <;> rfl)))
  refine hK.out _ (w6.alloc (Obj.cells #[.slice A2 n2 c2, .slice A6 n6 c6] 42)) (hHeld.alloc _) (fun hHeld => ?_)
  clear hK K
  simp only [Act.put, List.setIfInBounds_toArray, List.set_cons_zero, List.set_cons_succ]
  have hfb : Fr [] w6 (w6.alloc (Obj.cells #[.slice A2 n2 c2, .slice A6 n6 c6] 42)) := (Fr.refl [] w6).alloc _
  have hbb : Blk (w6.alloc (Obj.cells #[.slice A2 n2 c2, .slice A6 n6 c6] 42)) w6.heap.size 42 (([⟨A2, n2, c2, l2⟩, ⟨A6, n6, c6, l6⟩] : List RowV).map RowV.val).toArray := Blk.new _ _ _
  generalize w6.alloc (Obj.cells #[.slice A2 n2 c2, .slice A6 n6 c6] 42) = wj at *
  have HFD := Lib.hid (HFD.out.and hfb (by simp))
  have hj := join_big w6.heap.size 2 [⟨A2, n2, c2, l2⟩, ⟨A6, n6, c6, l6⟩] wj hbb rfl (by omega) (by
    intro r hr
    simp only [List.mem_cons, List.not_mem_nil, or_false] at hr
    rcases hr with rfl | rfl
    · exact ⟨Fr.byk hfb HY2.out, HB2.out⟩
    · exact ⟨Fr.byk hfb HY6.out, HB6.out⟩)
  have hJ : joinL [⟨A2, n2, c2, l2⟩, ⟨A6, n6, c6, l6⟩] = x.k.full ++ encI (x.l.length : Int) := by
    simp only [joinL, List.map_cons, List.map_nil, List.flatten_cons, List.flatten_nil, HL2.out, HL6.out]
    simp []
  rw [hJ] at hj
  obtain ⟨X, hX⟩ : ∃ X, X = x.k.full ++ encI (x.l.length : Int) := ⟨_, rfl⟩
  rw [← hX] at hj
  have HXT := Lib.hid hX
  clear hX
  have HJ := Lib.hid hj
  clear hfb hbb hj hJ HY2 HL2 HY6 HL6
  refine call_at (i := 8) (f := ?_) (args := ?_) rfl (by kernel_rfl) (by rfl) ?_ ?_
  rotate_left 2
  · go_simp
    (try (first | with_reducible rfl | (apply And.intro <;> rfl)))
  refine HJ.out.mono ?_
  rintro e wk ⟨Aj, cj, rfl, hN⟩
  have HN := Lib.hid (hN.from2 (HFD.out))
  refine ⟨_, rfl, hHeld.go hN.2.1 (by simp), fun hHeld => ?_⟩
  clear hN
  simp only [Act.put, List.setIfInBounds_toArray, List.set_cons_zero, List.set_cons_succ]
  refine run_at (i := 9) (v := ?_) rfl (by kernel_rfl) (by rfl) (fun _ _ _ h => h) hHeld (fun w1 hw1 => ?_) ?_
  rotate_left 1
  · skip
    go_simp
    (try (first | with_reducible rfl | (apply And.intro <;> rfl)))
  simp only [Act.put, List.setIfInBounds_toArray, List.set_cons_zero, List.set_cons_succ]
  refine wpAnyH_done (by kernel_rfl) ?_ _
  have HFK := Lib.hid hHeld
  have HNK : Hid (NewB wa wk Aj X.length cj X) := Lib.hid HN.out
  clear hHeld
  have HXB : Hid (X.length ≤ 1000) := Lib.hid (by rw [HXT.out]; have b1 := Wcm.full_len HX.out.k; have b2 := encI_len (x.l.length : Int) (by have := HX.out.l.1; have := HX.out.n; omega); simp only [List.length_append]; omega)
  have hc := HFK.out.cell HCL.out (by simp)
  go_wp2
  clear hc
  go_loopw [3, 17] (fun s i wr => ∃ (k : Nat) (A4 : Option Addr) (c4 : Nat) (L : List UInt8), k ≤ x.n ∧ i = .int .i64 k ∧ s = .slice A4 L.length c4 ∧ Hid (L = X ++ (x.l.take k).flatMap Wst.full) ∧ Hid (L.length ≤ 1000 + 100 * k) ∧ Hid (NewB wa wr A4 L.length c4 L)) (fun _ i _ => x.n - (intOf i).toNat)
  case atStart => exact ⟨0, Aj, cj, X, by omega, rfl, rfl, Lib.hid (by simp), Lib.hid (by have := HXB.out; omega), HNK⟩
  case round =>
    obtain ⟨k, A4, c4, L, hk, rfl, rfl, HE, HB, HN⟩ := hrel
    have hc := HN.out.2.1.cell HCL.out (by simp)
    have hnn := HX.out.n
    by_cases hlt : k < x.n
    · obtain ⟨ad, v, hA, hv, hcl, hok, hcells⟩ := HX.out.l.at (i := k) hlt
      rw [hA] at hc
      have HCELLS : Hid (∀ j u, (Wst.cells v)[j]? = some u → wr.cell? ((ad.add (k * 38)).add j) = some u) := Lib.hid (fun j u hj => HN.out.2.1.cell (HF0.out.cell (hcells j u hj) (by simp)) (by simp))
      have HCLN := Lib.hid hcl
      have HOK := Lib.hid hok
      have HV := Lib.hid hv
      have hk0 : (0 : Int) ≤ k := by omega
      clear hcells hcl hok hv hA
      generalize hC : Wst.cells v = CV at *
      have HCV := Lib.hid hC
      clear hC
      have HFW : Hid (Fr [] w wr) := Lib.hid (HF0.out.and HN.out.2.1 (by simp))
      go_wp2_with (first | (refine wpList_cells rfl 71 _ rfl _ rfl CV HCELLS.out (row_stamp.of HCLN.out) ?_))
      refine (refputStamp_any v HOK.out CV HCV.out wr).mono ?_
      rintro e w2 ⟨A5, c5, rfl, hN5⟩
      have hfl : (Wst.full v).length ≤ 100 := Wst.full_len HOK.out
      obtain ⟨F, hF⟩ : ∃ F, F = Wst.full v := ⟨_, rfl⟩
      rw [show v.full = F from hF.symm] at hN5 ⊢
      rw [← hF] at hfl
      have HFF := Lib.hid hF
      have HFL := Lib.hid hfl
      have HY := Lib.hid hN5.by
      have HNB := Lib.hid (HN.out.nxt hN5.2.1)
      clear hN5 HN hF hfl
      go_wp2_with (at_builtin; refine Stop.mk ?_)
      refine Stop.go ?_
      refine wpList_append_bytes _ rfl _ _ _ rfl 5 Try.underlying42 info_u8 (.slice A4 L.length c4) L.length L rfl HNB.out.1 A5 F.length c5 F rfl HY.out (by have := HB.out; have := HFL.out; omega) ?_
      intro A6 c6 w6 ho6 hg6 hat6
      have hN6 := NewB.grow HNB.out.2.1 HNB.out.2.2 ho6 hg6 hat6
      have hl6 : (L ++ F).length = L.length + F.length := List.length_append
      have hE6 : L ++ F = X ++ (x.l.take (k + 1)).flatMap Wst.full := by rw [flat_snoc HV.out, HE.out, HFF.out, List.append_assoc]
      have hB6 : (L ++ F).length ≤ 1000 + 100 * (k + 1) := by have := HB.out; have := HFL.out; rw [hl6]; omega
      rw [← hl6] at hN6 ⊢
      generalize L ++ F = L6 at *
      have HN6 := Lib.hid hN6
      have HE6 := Lib.hid hE6
      have HB6 := Lib.hid hB6
      clear ho6 hg6 hat6 hN6 hl6 hE6 hB6 hc
      go_wp2
      go_roundw
      case rel => exact ⟨k + 1, A6, c6, L6, by omega, by go_num, rfl, HE6, HB6, HN6⟩
      case measure => simp [intOf]; omega
    · have hkn : k = x.n := by omega
      have HE2 : Hid (L = X ++ x.l.flatMap Wst.full) := Lib.hid (by have h := HE.out; rwa [hkn, List.take_of_length_le (by rw [HX.out.l.1]; exact Nat.le_refl _)] at h)
      have hd : decide (k < x.n) = false := by simp; omega
      have HB2 : Hid (L.length ≤ 1000 + 100 * x.n) := Lib.hid (by have := HB.out; rw [hkn] at this; exact this)
      clear hkn hlt HE HB
      go_wp2
      go_ret
      have hfin : x.full = L := by rw [HE2.out, HXT.out]; simp [Wce.full, listL, List.append_assoc]
      rw [hfin]
      exact ⟨A4, c4, rfl, HN.out.from2 HF0.out⟩
set_option maxHeartbeats 4000000 in
theorem refbarePromise_any (x : Wpr) (w : World) (hx : x.Ok w []) (C : List Value) (hC : x.cells = C) :
    Calls Try.prog 40 #[.agg C.toArray] w fun e w' => ∃ A c, e = .returned (.slice A (x.bare).length c) ∧ NewB w w' A (x.bare).length c (x.bare) := by
  obtain ⟨wa, hwa⟩ : ∃ wa, wa = w.alloc (Obj.cells C.toArray 36) := ⟨_, rfl⟩
  have hf0 : Fr [] w wa := by rw [hwa]; exact (Fr.refl [] w).alloc _
  have hb0 : Blk wa w.heap.size 36 x.cells.toArray := by rw [hwa, hC]; exact Blk.new _ _ _
  have HALL : Hid (wa.rangeAt w.heap.size 0 C) := Lib.hid (by rw [← hC]; exact hb0.range)
  have HC0 : Hid (wa.cell? ⟨w.heap.size, 0, none⟩ = some (.int .i64 x.r)) := Lib.hid (by have h := hb0.range (cs := x.cells) 0 _ rfl; simpa using h)
  have HC1 : Hid (wa.cell? ⟨w.heap.size, 1, none⟩ = some (.int .i64 x.e)) := Lib.hid (by have h := hb0.range (cs := x.cells) 1 _ rfl; simpa using h)
  have HC2 : Hid (wa.cell? ⟨w.heap.size, 2, none⟩ = some (.int .u64 (x.t : Int))) := Lib.hid (by have h := hb0.range (cs := x.cells) 2 _ rfl; simpa using h)
  have HC3 : Hid (wa.cell? ⟨w.heap.size, 3, none⟩ = some (.slice x.A x.n x.d)) := Lib.hid (by have h := hb0.range (cs := x.cells) 3 _ rfl; simpa using h)
  have HX := Lib.hid hx
  have HRC := Lib.hid hC
  clear hb0 hx hC
  have HF0 := Lib.hid hf0
  have HWA := Lib.hid hwa
  clear hwa hf0
  go_enter Try.func40, Try.ntmps40
  go_wp2
  rw [← HWA.out]
  refine wp_region_held_drew (S := Fr [] wa) (by kernel_rfl) (Fr.drew (Fr.refl _ wa)) (fun hHeld => ?_)
  have HFD : Hid (Fr [] wa wa.drew) := Lib.hid (Fr.drew (Fr.refl [] wa))
  generalize wa.drew = wd at *
  refine run_at (i := 0) (v := ?_) rfl (by kernel_rfl) (by rfl) (fun _ _ _ h => h) hHeld (fun w1 hw1 => ?_) ?_
  rotate_left 1
  · skip
    go_simp
    (try (first | with_reducible rfl | (apply And.intro <;> rfl)))
  simp only [Act.put, List.setIfInBounds_toArray, List.set_cons_zero, List.set_cons_succ]
  refine run_at (i := 1) (v := ?_) rfl (by kernel_rfl) (by rfl) (fun _ _ _ h => h) hHeld (fun w1 hw1 => ?_) ?_
  rotate_left 1
  · skip
    have hcw0 := hw1.cell (HC0.out) (by first | (simp; done) | exact HNS.out | exact HNW.out | (intro hm; have hlt := HSB.out _ hm; (try dsimp only at hlt); omega))
    go_simp
    (try (first | with_reducible rfl | (apply And.intro <;> rfl)))
  simp only [Act.put, List.setIfInBounds_toArray, List.set_cons_zero, List.set_cons_succ]
  refine run_at (i := 3) (v := ?_) rfl (by kernel_rfl) (by rfl) (fun _ _ _ h => h) hHeld (fun w1 hw1 => ?_) ?_
  rotate_left 1
  · skip
    go_simp
    (try (first | with_reducible rfl | (apply And.intro <;> rfl)))
  simp only [Act.put, List.setIfInBounds_toArray, List.set_cons_zero, List.set_cons_succ]
  refine run_at (i := 4) (v := ?_) rfl (by kernel_rfl) (by rfl) (fun _ _ _ h => h) hHeld (fun w1 hw1 => ?_) ?_
  rotate_left 1
  · skip
    have hcw0 := hw1.cell (HC1.out) (by first | (simp; done) | exact HNS.out | exact HNW.out | (intro hm; have hlt := HSB.out _ hm; (try dsimp only at hlt); omega))
    go_simp
    (try (first | with_reducible rfl | (apply And.intro <;> rfl)))
  simp only [Act.put, List.setIfInBounds_toArray, List.set_cons_zero, List.set_cons_succ]
  refine run_at (i := 6) (v := ?_) rfl (by kernel_rfl) (by rfl) (fun _ _ _ h => h) hHeld (fun w1 hw1 => ?_) ?_
  rotate_left 1
  · skip
    go_simp
    (try (first | with_reducible rfl | (apply And.intro <;> rfl)))
  simp only [Act.put, List.setIfInBounds_toArray, List.set_cons_zero, List.set_cons_succ]
  refine run_at (i := 7) (v := ?_) rfl (by kernel_rfl) (by rfl) (fun _ _ _ h => h) hHeld (fun w1 hw1 => ?_) ?_
  rotate_left 1
  · skip
    have hcw0 := hw1.cell (HC2.out) (by first | (simp; done) | exact HNS.out | exact HNW.out | (intro hm; have hlt := HSB.out _ hm; (try dsimp only at hlt); omega))
    go_simp
    (try (first | with_reducible rfl | (apply And.intro <;> rfl)))
  simp only [Act.put, List.setIfInBounds_toArray, List.set_cons_zero, List.set_cons_succ]
  refine run_at (i := 9) (v := ?_) rfl (by kernel_rfl) (by rfl) (fun _ _ _ h => h) hHeld (fun w1 hw1 => ?_) ?_
  rotate_left 1
  · skip
    go_simp
    (try (first | with_reducible rfl | (apply And.intro <;> rfl)))
  simp only [Act.put, List.setIfInBounds_toArray, List.set_cons_zero, List.set_cons_succ]
  refine run_at (i := 10) (v := ?_) rfl (by kernel_rfl) (by rfl) (fun _ _ _ h => h) hHeld (fun w1 hw1 => ?_) ?_
  rotate_left 1
  · skip
    have hcw0 := hw1.cell (HC3.out) (by first | (simp; done) | exact HNS.out | exact HNW.out | (intro hm; have hlt := HSB.out _ hm; (try dsimp only at hlt); omega))
    go_simp
    (try (first | with_reducible rfl | (apply And.intro <;> rfl)))
  simp only [Act.put, List.setIfInBounds_toArray, List.set_cons_zero, List.set_cons_succ]
  refine run_at (i := 11) (v := ?_) rfl (by kernel_rfl) (by rfl) (fun _ _ _ h => h) hHeld (fun w1 hw1 => ?_) ?_
  rotate_left 1
  · skip
    go_simp
    (try (first | with_reducible rfl | (apply And.intro <;> rfl)))
  simp only [Act.put, List.setIfInBounds_toArray, List.set_cons_zero, List.set_cons_succ]
  refine call_at (i := 2) (f := ?_) (args := ?_) rfl (by kernel_rfl) (by rfl) ?_ ?_
  rotate_left 2
  · go_simp
    (try (first | with_reducible rfl | (apply And.intro <;> rfl)))
  refine (refint_any x.r HX.out.r.2 wd).mono ?_
  rintro e w2 ⟨A2, c2, rfl, hN⟩
  obtain ⟨n2, hn2⟩ : ∃ nn_, nn_ = (encI x.r).length := ⟨_, rfl⟩
  obtain ⟨l2, hl2⟩ : ∃ ll_, ll_ = encI x.r := ⟨_, rfl⟩
  rw [← hn2] at hN ⊢
  rw [← hl2] at hN
  have HB2 : Hid (n2 ≤ 20000) := Lib.hid (by rw [hn2]; have := encI_len x.r HX.out.r.2; omega)
  have HL2 := Lib.hid hl2
  refine ⟨_, rfl, hHeld.go hN.2.1 (by simp), fun hHeld => ?_⟩
  simp only [Act.put, List.setIfInBounds_toArray, List.set_cons_zero, List.set_cons_succ]
  have HY2 := Lib.hid hN.by
  have HFD := Lib.hid (HFD.out.and hN.2.1 (by simp))
  clear hN hn2 hl2
  refine call_at (i := 5) (f := ?_) (args := ?_) rfl (by kernel_rfl) (by rfl) ?_ ?_
  rotate_left 2
  · go_simp
    (try (first | with_reducible rfl | (apply And.intro <;> rfl)))
  refine (refint_any x.e HX.out.e.2 w2).mono ?_
  rintro e w5 ⟨A5, c5, rfl, hN⟩
  obtain ⟨n5, hn5⟩ : ∃ nn_, nn_ = (encI x.e).length := ⟨_, rfl⟩
  obtain ⟨l5, hl5⟩ : ∃ ll_, ll_ = encI x.e := ⟨_, rfl⟩
  rw [← hn5] at hN ⊢
  rw [← hl5] at hN
  have HB5 : Hid (n5 ≤ 20000) := Lib.hid (by rw [hn5]; have := encI_len x.e HX.out.e.2; omega)
  have HL5 := Lib.hid hl5
  refine ⟨_, rfl, hHeld.go hN.2.1 (by simp), fun hHeld => ?_⟩
  simp only [Act.put, List.setIfInBounds_toArray, List.set_cons_zero, List.set_cons_succ]
  have HY5 := Lib.hid hN.by
  have HFD := Lib.hid (HFD.out.and hN.2.1 (by simp))
  have HY2 := Lib.hid (Fr.byk hN.2.1 HY2.out)
  clear hN hn5 hl5
  refine call_at (i := 8) (f := ?_) (args := ?_) rfl (by kernel_rfl) (by rfl) ?_ ?_
  rotate_left 2
  · go_simp
    (try (first | with_reducible rfl | (apply And.intro <;> rfl)))
  refine (refnum_any x.t HX.out.t w5).mono ?_
  rintro e w8 ⟨A8, c8, rfl, hN⟩
  obtain ⟨n8, hn8⟩ : ∃ nn_, nn_ = (enc x.t).length := ⟨_, rfl⟩
  obtain ⟨l8, hl8⟩ : ∃ ll_, ll_ = enc x.t := ⟨_, rfl⟩
  rw [← hn8] at hN ⊢
  rw [← hl8] at hN
  have HB8 : Hid (n8 ≤ 20000) := Lib.hid (by rw [hn8]; have := enc_ten HX.out.t; omega)
  have HL8 := Lib.hid hl8
  refine ⟨_, rfl, hHeld.go hN.2.1 (by simp), fun hHeld => ?_⟩
  simp only [Act.put, List.setIfInBounds_toArray, List.set_cons_zero, List.set_cons_succ]
  have HY8 := Lib.hid hN.by
  have HFD := Lib.hid (HFD.out.and hN.2.1 (by simp))
  have HY2 := Lib.hid (Fr.byk hN.2.1 HY2.out)
  have HY5 := Lib.hid (Fr.byk hN.2.1 HY5.out)
  clear hN hn8 hl8
  refine call_at (i := 12) (f := ?_) (args := ?_) rfl (by kernel_rfl) (by rfl) ?_ ?_
  rotate_left 2
  · go_simp
    (try (first | with_reducible rfl | (apply And.intro <;> rfl)))
  refine (reflen_any x.l _ HX.out.l.1 (show x.n ≤ 1000 by have := HX.out.n; omega) w8).mono ?_
  rintro e w12 ⟨A12, c12, rfl, hN⟩
  obtain ⟨n12, hn12⟩ : ∃ nn_, nn_ = (encI (x.l.length : Int)).length := ⟨_, rfl⟩
  obtain ⟨l12, hl12⟩ : ∃ ll_, ll_ = encI (x.l.length : Int) := ⟨_, rfl⟩
  rw [← hn12] at hN ⊢
  rw [← hl12] at hN
  have HB12 : Hid (n12 ≤ 20000) := Lib.hid (by rw [hn12]; have := encI_len (x.l.length : Int) (by have := (show x.n ≤ 1000 by have := HX.out.n; omega); have := HX.out.l.1; omega); omega)
  have HL12 := Lib.hid hl12
  refine ⟨_, rfl, hHeld.go hN.2.1 (by simp), fun hHeld => ?_⟩
  simp only [Act.put, List.setIfInBounds_toArray, List.set_cons_zero, List.set_cons_succ]
  have HY12 := Lib.hid hN.by
  have HFD := Lib.hid (HFD.out.and hN.2.1 (by simp))
  have HY2 := Lib.hid (Fr.byk hN.2.1 HY2.out)
  have HY5 := Lib.hid (Fr.byk hN.2.1 HY5.out)
  have HY8 := Lib.hid (Fr.byk hN.2.1 HY8.out)
  clear hN hn12 hl12
  refine step_at (i := 13) rfl (by kernel_rfl) (by rfl) (fun K hK => ?_)
  refine wp_run (v := ?_) (w' := ?_) ?_ ?_
  rotate_left 2
  · go_simp
    (try (first | with_reducible rfl | (apply And.intro <;> rfl)))
  refine hK.out _ (w12.alloc (Obj.cells #[.slice A2 n2 c2, .slice A5 n5 c5, .slice A8 n8 c8, .slice A12 n12 c12] 42)) (hHeld.alloc _) (fun hHeld => ?_)
  clear hK K
  simp only [Act.put, List.setIfInBounds_toArray, List.set_cons_zero, List.set_cons_succ]
  have hfb : Fr [] w12 (w12.alloc (Obj.cells #[.slice A2 n2 c2, .slice A5 n5 c5, .slice A8 n8 c8, .slice A12 n12 c12] 42)) := (Fr.refl [] w12).alloc _
  have hbb : Blk (w12.alloc (Obj.cells #[.slice A2 n2 c2, .slice A5 n5 c5, .slice A8 n8 c8, .slice A12 n12 c12] 42)) w12.heap.size 42 (([⟨A2, n2, c2, l2⟩, ⟨A5, n5, c5, l5⟩, ⟨A8, n8, c8, l8⟩, ⟨A12, n12, c12, l12⟩] : List RowV).map RowV.val).toArray := Blk.new _ _ _
  generalize w12.alloc (Obj.cells #[.slice A2 n2 c2, .slice A5 n5 c5, .slice A8 n8 c8, .slice A12 n12 c12] 42) = wj at *
  have HFD := Lib.hid (HFD.out.and hfb (by simp))
  have hj := join_big w12.heap.size 4 [⟨A2, n2, c2, l2⟩, ⟨A5, n5, c5, l5⟩, ⟨A8, n8, c8, l8⟩, ⟨A12, n12, c12, l12⟩] wj hbb rfl (by omega) (by
    intro r hr
    simp only [List.mem_cons, List.not_mem_nil, or_false] at hr
    rcases hr with rfl | rfl | rfl | rfl
    · exact ⟨Fr.byk hfb HY2.out, HB2.out⟩
    · exact ⟨Fr.byk hfb HY5.out, HB5.out⟩
    · exact ⟨Fr.byk hfb HY8.out, HB8.out⟩
    · exact ⟨Fr.byk hfb HY12.out, HB12.out⟩)
  have hJ : joinL [⟨A2, n2, c2, l2⟩, ⟨A5, n5, c5, l5⟩, ⟨A8, n8, c8, l8⟩, ⟨A12, n12, c12, l12⟩] = encI x.r ++ encI x.e ++ enc x.t ++ encI (x.l.length : Int) := by
    simp only [joinL, List.map_cons, List.map_nil, List.flatten_cons, List.flatten_nil, HL2.out, HL5.out, HL8.out, HL12.out]
    simp []
  rw [hJ] at hj
  obtain ⟨X, hX⟩ : ∃ X, X = encI x.r ++ encI x.e ++ enc x.t ++ encI (x.l.length : Int) := ⟨_, rfl⟩
  rw [← hX] at hj
  have HXT := Lib.hid hX
  clear hX
  have HJ := Lib.hid hj
  clear hfb hbb hj hJ HY2 HL2 HY5 HL5 HY8 HL8 HY12 HL12
  refine call_at (i := 14) (f := ?_) (args := ?_) rfl (by kernel_rfl) (by rfl) ?_ ?_
  rotate_left 2
  · go_simp
    (try (first | with_reducible rfl | (apply And.intro <;> rfl)))
  refine HJ.out.mono ?_
  rintro e wk ⟨Aj, cj, rfl, hN⟩
  have HN := Lib.hid (hN.from2 (HFD.out))
  refine ⟨_, rfl, hHeld.go hN.2.1 (by simp), fun hHeld => ?_⟩
  clear hN
  simp only [Act.put, List.setIfInBounds_toArray, List.set_cons_zero, List.set_cons_succ]
  refine run_at (i := 15) (v := ?_) rfl (by kernel_rfl) (by rfl) (fun _ _ _ h => h) hHeld (fun w1 hw1 => ?_) ?_
  rotate_left 1
  · skip
    go_simp
    (try (first | with_reducible rfl | (apply And.intro <;> rfl)))
  simp only [Act.put, List.setIfInBounds_toArray, List.set_cons_zero, List.set_cons_succ]
  refine wpAnyH_done (by kernel_rfl) ?_ _
  have HFK := Lib.hid hHeld
  have HNK : Hid (NewB wa wk Aj X.length cj X) := Lib.hid HN.out
  clear hHeld
  have HXB : Hid (X.length ≤ 1000) := Lib.hid (by rw [HXT.out]; have b0 := encI_len x.r HX.out.r.2; have b1 := encI_len x.e HX.out.e.2; have b3 := enc_ten HX.out.t; have b2 := encI_len (x.l.length : Int) (by have := HX.out.l.1; have := HX.out.n; omega); simp only [List.length_append]; omega)
  have hc := HFK.out.cell HC3.out (by simp)
  go_wp2
  clear hc
  go_loopw [3, 23] (fun s i wr => ∃ (k : Nat) (A4 : Option Addr) (c4 : Nat) (L : List UInt8), k ≤ x.n ∧ i = .int .i64 k ∧ s = .slice A4 L.length c4 ∧ Hid (L = X ++ (x.l.take k).flatMap Wce.full) ∧ Hid (L.length ≤ 1000 + 700 * k) ∧ Hid (NewB wa wr A4 L.length c4 L)) (fun _ i _ => x.n - (intOf i).toNat)
  case atStart => exact ⟨0, Aj, cj, X, by omega, rfl, rfl, Lib.hid (by simp), Lib.hid (by have := HXB.out; omega), HNK⟩
  case round =>
    obtain ⟨k, A4, c4, L, hk, rfl, rfl, HE, HB, HN⟩ := hrel
    have hc := HN.out.2.1.cell HC3.out (by simp)
    have hnn := HX.out.n
    by_cases hlt : k < x.n
    · obtain ⟨ad, v, hA, hv, hcl, hok, hcells⟩ := HX.out.l.at (i := k) hlt
      rw [hA] at hc
      have HCELLS : Hid (∀ j u, (Wce.cells v)[j]? = some u → wr.cell? ((ad.add (k * 38)).add j) = some u) := Lib.hid (fun j u hj => HN.out.2.1.cell (HF0.out.cell (hcells j u hj) (by simp)) (by simp))
      have HCLN := Lib.hid hcl
      have HOK := Lib.hid hok
      have HV := Lib.hid hv
      have hk0 : (0 : Int) ≤ k := by omega
      clear hcells hcl hok hv hA
      generalize hC : Wce.cells v = CV at *
      have HCV := Lib.hid hC
      clear hC
      have HFW : Hid (Fr [] w wr) := Lib.hid (HF0.out.and HN.out.2.1 (by simp))
      go_wp2_with (first | (refine wpList_cells rfl 32 _ rfl _ rfl CV HCELLS.out (row_crt.of HCLN.out) ?_))
      refine (refputCert_any v wr (HOK.out.keep HFW.out (by simp)) CV HCV.out).mono ?_
      rintro e w2 ⟨A5, c5, rfl, hN5⟩
      have hfl : (Wce.full v).length ≤ 700 := Wce.full_len HOK.out
      obtain ⟨F, hF⟩ : ∃ F, F = Wce.full v := ⟨_, rfl⟩
      rw [show v.full = F from hF.symm] at hN5 ⊢
      rw [← hF] at hfl
      have HFF := Lib.hid hF
      have HFL := Lib.hid hfl
      have HY := Lib.hid hN5.by
      have HNB := Lib.hid (HN.out.nxt hN5.2.1)
      clear hN5 HN hF hfl
      go_wp2_with (at_builtin; refine Stop.mk ?_)
      refine Stop.go ?_
      refine wpList_append_bytes _ rfl _ _ _ rfl 5 Try.underlying42 info_u8 (.slice A4 L.length c4) L.length L rfl HNB.out.1 A5 F.length c5 F rfl HY.out (by have := HB.out; have := HFL.out; omega) ?_
      intro A6 c6 w6 ho6 hg6 hat6
      have hN6 := NewB.grow HNB.out.2.1 HNB.out.2.2 ho6 hg6 hat6
      have hl6 : (L ++ F).length = L.length + F.length := List.length_append
      have hE6 : L ++ F = X ++ (x.l.take (k + 1)).flatMap Wce.full := by rw [flat_snoc HV.out, HE.out, HFF.out, List.append_assoc]
      have hB6 : (L ++ F).length ≤ 1000 + 700 * (k + 1) := by have := HB.out; have := HFL.out; rw [hl6]; omega
      rw [← hl6] at hN6 ⊢
      generalize L ++ F = L6 at *
      have HN6 := Lib.hid hN6
      have HE6 := Lib.hid hE6
      have HB6 := Lib.hid hB6
      clear ho6 hg6 hat6 hN6 hl6 hE6 hB6 hc
      go_wp2
      go_roundw
      case rel => exact ⟨k + 1, A6, c6, L6, by omega, by go_num, rfl, HE6, HB6, HN6⟩
      case measure => simp [intOf]; omega
    · have hkn : k = x.n := by omega
      have HE2 : Hid (L = X ++ x.l.flatMap Wce.full) := Lib.hid (by have h := HE.out; rwa [hkn, List.take_of_length_le (by rw [HX.out.l.1]; exact Nat.le_refl _)] at h)
      have hd : decide (k < x.n) = false := by simp; omega
      have HB2 : Hid (L.length ≤ 1000 + 700 * x.n) := Lib.hid (by have := HB.out; rw [hkn] at this; exact this)
      clear hkn hlt HE HB
      go_wp2
      go_ret
      have hfin : x.bare = L := by rw [HE2.out, HXT.out]; simp [Wpr.bare, listL, List.append_assoc]
      rw [hfin]
      exact ⟨A4, c4, rfl, HN.out.from2 HF0.out⟩
set_option maxHeartbeats 4000000 in
theorem refputPromise_any (x : Wpr) (w : World) (hx : x.Ok w []) (C : List Value) (hC : x.cells = C) :
    Calls Try.prog 9 #[.agg C.toArray] w fun e w' => ∃ A c, e = .returned (.slice A (x.full).length c) ∧ NewB w w' A (x.full).length c (x.full) := by
  obtain ⟨wa, hwa⟩ : ∃ wa, wa = w.alloc (Obj.cells C.toArray 36) := ⟨_, rfl⟩
  have hf0 : Fr [] w wa := by rw [hwa]; exact (Fr.refl [] w).alloc _
  have hb0 : Blk wa w.heap.size 36 x.cells.toArray := by rw [hwa, hC]; exact Blk.new _ _ _
  have HALL : Hid (wa.rangeAt w.heap.size 0 C) := Lib.hid (by rw [← hC]; exact hb0.range)
  have HLN : Hid (C.length = 6) := Lib.hid (by rw [← hC]; exact Wpr.len x)
  have HSG : Hid (wa.rangeAt w.heap.size 4 [.int .i64 x.b, .int .i64 x.m]) := Lib.hid (rangeAt_sub (xs := [.int .i64 x.r, .int .i64 x.e, .int .u64 (x.t : Int), .slice x.A x.n x.d]) (ys := [.int .i64 x.b, .int .i64 x.m]) (zs := []) hb0.range)
  have HX := Lib.hid hx
  have HRC := Lib.hid hC
  clear hb0 hx hC
  have HF0 := Lib.hid hf0
  have HWA := Lib.hid hwa
  clear hwa hf0
  go_enter Try.func9, Try.ntmps9
  go_wp2
  rw [← HWA.out]
  refine wp_region_held_drew (S := Fr [] wa) (by kernel_rfl) (Fr.drew (Fr.refl _ wa)) (fun hHeld => ?_)
  have HFD : Hid (Fr [] wa wa.drew) := Lib.hid (Fr.drew (Fr.refl [] wa))
  generalize wa.drew = wd at *
  refine row_at (i := 0) rfl (by kernel_rfl) (by rfl) _ _ rfl _ _ rfl _ (fun w1 hw1 => hw1.range (HALL.out) (by first | (simp; done) | exact HNS.out | exact HNW.out | (intro hm; have hlt := HSB.out _ hm; (try dsimp only at hlt); omega))) (row_prm.of HLN.out) (fun _ _ _ h => h) hHeld ?_
  simp only [Act.put, List.setIfInBounds_toArray, List.set_cons_zero, List.set_cons_succ]
  refine run_at (i := 2) (v := ?_) rfl (by kernel_rfl) (by rfl) (fun _ _ _ h => h) hHeld (fun w1 hw1 => ?_) ?_
  rotate_left 1
  · skip
    go_simp
    (try (first | with_reducible rfl | (apply And.intro <;> rfl)))
  simp only [Act.put, List.setIfInBounds_toArray, List.set_cons_zero, List.set_cons_succ]
  refine row_at (i := 3) rfl (by kernel_rfl) (by rfl) _ _ rfl _ _ rfl _ (fun w1 hw1 => hw1.range (HSG.out) (by first | (simp; done) | exact HNS.out | exact HNW.out | (intro hm; have hlt := HSB.out _ hm; (try dsimp only at hlt); omega))) (row_sig) (fun _ _ _ h => h) hHeld ?_
  simp only [Act.put, List.setIfInBounds_toArray, List.set_cons_zero, List.set_cons_succ]
  refine call_at (i := 1) (f := ?_) (args := ?_) rfl (by kernel_rfl) (by rfl) ?_ ?_
  rotate_left 2
  · go_simp
    (try (first | with_reducible rfl | (apply And.intro <;> rfl)))
  refine (refbarePromise_any x wd (HX.out.keep (HF0.out.and HFD.out (by simp)) (by simp)) C HRC.out).mono ?_
  rintro e w1 ⟨A1, c1, rfl, hN⟩
  obtain ⟨n1, hn1⟩ : ∃ nn_, nn_ = (x.bare).length := ⟨_, rfl⟩
  obtain ⟨l1, hl1⟩ : ∃ ll_, ll_ = x.bare := ⟨_, rfl⟩
  rw [← hn1] at hN ⊢
  rw [← hl1] at hN
  have HB1 : Hid (n1 ≤ 20000) := Lib.hid (by rw [hn1]; have := Wpr.bare_len HX.out; omega)
  have HL1 := Lib.hid hl1
  refine ⟨_, rfl, hHeld.go hN.2.1 (by simp), fun hHeld => ?_⟩
  simp only [Act.put, List.setIfInBounds_toArray, List.set_cons_zero, List.set_cons_succ]
  have HY1 := Lib.hid hN.by
  have HFD := Lib.hid (HFD.out.and hN.2.1 (by simp))
  clear hN hn1 hl1
  refine call_at (i := 4) (f := ?_) (args := ?_) rfl (by kernel_rfl) (by rfl) ?_ ?_
  rotate_left 2
  · go_simp
    (try (first | with_reducible rfl | (apply And.intro <;> rfl)))
  refine (refsig_any x.b x.m HX.out.b HX.out.m w1).mono ?_
  rintro e w4 ⟨A4, c4, rfl, hN⟩
  obtain ⟨n4, hn4⟩ : ∃ nn_, nn_ = (sgL x.b x.m).length := ⟨_, rfl⟩
  obtain ⟨l4, hl4⟩ : ∃ ll_, ll_ = sgL x.b x.m := ⟨_, rfl⟩
  rw [← hn4] at hN ⊢
  rw [← hl4] at hN
  have HB4 : Hid (n4 ≤ 20000) := Lib.hid (by rw [hn4]; have := encI_len x.b HX.out.b.2; have := encI_len x.m HX.out.m.2; simp only [sgL, List.length_append]; omega)
  have HL4 := Lib.hid hl4
  refine ⟨_, rfl, hHeld.go hN.2.1 (by simp), fun hHeld => ?_⟩
  simp only [Act.put, List.setIfInBounds_toArray, List.set_cons_zero, List.set_cons_succ]
  have HY4 := Lib.hid hN.by
  have HFD := Lib.hid (HFD.out.and hN.2.1 (by simp))
  have HY1 := Lib.hid (Fr.byk hN.2.1 HY1.out)
  clear hN hn4 hl4
  refine step_at (i := 5) rfl (by kernel_rfl) (by rfl) (fun K hK => ?_)
  refine wp_run (v := ?_) (w' := ?_) ?_ ?_
  rotate_left 2
  · go_simp
    (try (first | with_reducible rfl | (apply And.intro <;> rfl)))
  refine hK.out _ (w4.alloc (Obj.cells #[.slice A1 n1 c1, .slice A4 n4 c4] 42)) (hHeld.alloc _) (fun hHeld => ?_)
  clear hK K
  simp only [Act.put, List.setIfInBounds_toArray, List.set_cons_zero, List.set_cons_succ]
  have hfb : Fr [] w4 (w4.alloc (Obj.cells #[.slice A1 n1 c1, .slice A4 n4 c4] 42)) := (Fr.refl [] w4).alloc _
  have hbb : Blk (w4.alloc (Obj.cells #[.slice A1 n1 c1, .slice A4 n4 c4] 42)) w4.heap.size 42 (([⟨A1, n1, c1, l1⟩, ⟨A4, n4, c4, l4⟩] : List RowV).map RowV.val).toArray := Blk.new _ _ _
  generalize w4.alloc (Obj.cells #[.slice A1 n1 c1, .slice A4 n4 c4] 42) = wj at *
  have HFD := Lib.hid (HFD.out.and hfb (by simp))
  have hj := join_big w4.heap.size 2 [⟨A1, n1, c1, l1⟩, ⟨A4, n4, c4, l4⟩] wj hbb rfl (by omega) (by
    intro r hr
    simp only [List.mem_cons, List.not_mem_nil, or_false] at hr
    rcases hr with rfl | rfl
    · exact ⟨Fr.byk hfb HY1.out, HB1.out⟩
    · exact ⟨Fr.byk hfb HY4.out, HB4.out⟩)
  have hJ : joinL [⟨A1, n1, c1, l1⟩, ⟨A4, n4, c4, l4⟩] = x.full := by
    simp only [joinL, List.map_cons, List.map_nil, List.flatten_cons, List.flatten_nil, HL1.out, HL4.out]
    simp [Wpr.full]
  rw [hJ] at hj
  obtain ⟨X, hX⟩ : ∃ X, X = x.full := ⟨_, rfl⟩
  rw [← hX] at hj
  have HXT := Lib.hid hX
  clear hX
  have HJ := Lib.hid hj
  clear hfb hbb hj hJ HY1 HL1 HY4 HL4
  refine call_at (i := 6) (f := ?_) (args := ?_) rfl (by kernel_rfl) (by rfl) ?_ ?_
  rotate_left 2
  · go_simp
    (try (first | with_reducible rfl | (apply And.intro <;> rfl)))
  refine HJ.out.mono ?_
  rintro e wk ⟨Aj, cj, rfl, hN⟩
  have HN := Lib.hid (hN.from2 (HF0.out.and HFD.out (by simp)))
  refine ⟨_, rfl, hHeld.go hN.2.1 (by simp), fun hHeld => ?_⟩
  clear hN
  simp only [Act.put, List.setIfInBounds_toArray, List.set_cons_zero, List.set_cons_succ]
  refine run_at (i := 7) (v := ?_) rfl (by kernel_rfl) (by rfl) (fun _ _ _ h => h) hHeld (fun w1 hw1 => ?_) ?_
  rotate_left 1
  · skip
    go_simp
    (try (first | with_reducible rfl | (apply And.intro <;> rfl)))
  simp only [Act.put, List.setIfInBounds_toArray, List.set_cons_zero, List.set_cons_succ]
  refine wpAnyH_done (by kernel_rfl) ?_ _
  go_wp2
  go_ret
  rw [← HXT.out]
  exact ⟨Aj, cj, rfl, HN.out⟩
set_option maxHeartbeats 4000000 in
theorem refputOpening_any (x : Wop) (w : World) (hx : x.Ok w []) (C : List Value) (hC : x.cells = C) :
    Calls Try.prog 43 #[.agg C.toArray] w fun e w' => ∃ A c, e = .returned (.slice A (x.full).length c) ∧ NewB w w' A (x.full).length c (x.full) := by
  obtain ⟨wa, hwa⟩ : ∃ wa, wa = w.alloc (Obj.cells C.toArray 81) := ⟨_, rfl⟩
  have hf0 : Fr [] w wa := by rw [hwa]; exact (Fr.refl [] w).alloc _
  have hb0 : Blk wa w.heap.size 81 x.cells.toArray := by rw [hwa, hC]; exact Blk.new _ _ _
  have HALL : Hid (wa.rangeAt w.heap.size 0 C) := Lib.hid (by rw [← hC]; exact hb0.range)
  have HC0 : Hid (wa.cell? ⟨w.heap.size, 0, none⟩ = some (.int .i64 x.i)) := Lib.hid (by have h := hb0.range (cs := x.cells) 0 _ rfl; simpa using h)
  have HC1 : Hid (wa.cell? ⟨w.heap.size, 1, none⟩ = some (.slice x.A x.n x.d)) := Lib.hid (by have h := hb0.range (cs := x.cells) 1 _ rfl; simpa using h)
  have HYH : Hid (By wa (some ⟨w.heap.size, 2, none⟩) 32 x.h) := Lib.hid (by have h := By.of_range (rangeAt_sub (xs := [.int .i64 x.i, .slice x.A x.n x.d]) (ys := x.h.map by8) (zs := []) hb0.range); rw [hx.h] at h; exact h)
  have HX := Lib.hid hx
  have HRC := Lib.hid hC
  clear hb0 hx hC
  have HF0 := Lib.hid hf0
  have HWA := Lib.hid hwa
  clear hwa hf0
  go_enter Try.func43, Try.ntmps43
  go_wp2
  rw [← HWA.out]
  refine wp_region_held_drew (S := Fr [] wa) (by kernel_rfl) (Fr.drew (Fr.refl _ wa)) (fun hHeld => ?_)
  have HFD : Hid (Fr [] wa wa.drew) := Lib.hid (Fr.drew (Fr.refl [] wa))
  generalize wa.drew = wd at *
  refine run_at (i := 0) (v := ?_) rfl (by kernel_rfl) (by rfl) (fun _ _ _ h => h) hHeld (fun w1 hw1 => ?_) ?_
  rotate_left 1
  · skip
    go_simp
    (try (first | with_reducible rfl | (apply And.intro <;> rfl)))
  simp only [Act.put, List.setIfInBounds_toArray, List.set_cons_zero, List.set_cons_succ]
  refine run_at (i := 1) (v := ?_) rfl (by kernel_rfl) (by rfl) (fun _ _ _ h => h) hHeld (fun w1 hw1 => ?_) ?_
  rotate_left 1
  · skip
    have hcw0 := hw1.cell (HC0.out) (by first | (simp; done) | exact HNS.out | exact HNW.out | (intro hm; have hlt := HSB.out _ hm; (try dsimp only at hlt); omega))
    go_simp
    (try (first | with_reducible rfl | (apply And.intro <;> rfl)))
  simp only [Act.put, List.setIfInBounds_toArray, List.set_cons_zero, List.set_cons_succ]
  refine run_at (i := 3) (v := ?_) rfl (by kernel_rfl) (by rfl) (fun _ _ _ h => h) hHeld (fun w1 hw1 => ?_) ?_
  rotate_left 1
  · skip
    go_simp
    (try (first | with_reducible rfl | (apply And.intro <;> rfl)))
  simp only [Act.put, List.setIfInBounds_toArray, List.set_cons_zero, List.set_cons_succ]
  refine run_at (i := 4) (v := ?_) rfl (by kernel_rfl) (by rfl) (fun _ _ _ h => h) hHeld (fun w1 hw1 => ?_) ?_
  rotate_left 1
  · skip
    have hcw0 := hw1.cell (HC1.out) (by first | (simp; done) | exact HNS.out | exact HNW.out | (intro hm; have hlt := HSB.out _ hm; (try dsimp only at hlt); omega))
    go_simp
    (try (first | with_reducible rfl | (apply And.intro <;> rfl)))
  simp only [Act.put, List.setIfInBounds_toArray, List.set_cons_zero, List.set_cons_succ]
  refine run_at (i := 6) (v := ?_) rfl (by kernel_rfl) (by rfl) (fun _ _ _ h => h) hHeld (fun w1 hw1 => ?_) ?_
  rotate_left 1
  · skip
    go_simp
    (try (first | with_reducible rfl | (apply And.intro <;> rfl)))
  simp only [Act.put, List.setIfInBounds_toArray, List.set_cons_zero, List.set_cons_succ]
  refine run_at (i := 7) (v := ?_) rfl (by kernel_rfl) (by rfl) (fun _ _ _ h => h) hHeld (fun w1 hw1 => ?_) ?_
  rotate_left 1
  · skip
    go_simp
    (try (first | with_reducible rfl | (apply And.intro <;> rfl)))
  simp only [Act.put, List.setIfInBounds_toArray, List.set_cons_zero, List.set_cons_succ]
  refine call_at (i := 2) (f := ?_) (args := ?_) rfl (by kernel_rfl) (by rfl) ?_ ?_
  rotate_left 2
  · go_simp
    (try (first | with_reducible rfl | (apply And.intro <;> rfl)))
  refine (refint_any x.i HX.out.i.2 wd).mono ?_
  rintro e w2 ⟨A2, c2, rfl, hN⟩
  obtain ⟨n2, hn2⟩ : ∃ nn_, nn_ = (encI x.i).length := ⟨_, rfl⟩
  obtain ⟨l2, hl2⟩ : ∃ ll_, ll_ = encI x.i := ⟨_, rfl⟩
  rw [← hn2] at hN ⊢
  rw [← hl2] at hN
  have HB2 : Hid (n2 ≤ 20000) := Lib.hid (by rw [hn2]; have := encI_len x.i HX.out.i.2; omega)
  have HL2 := Lib.hid hl2
  refine ⟨_, rfl, hHeld.go hN.2.1 (by simp), fun hHeld => ?_⟩
  simp only [Act.put, List.setIfInBounds_toArray, List.set_cons_zero, List.set_cons_succ]
  have HY2 := Lib.hid hN.by
  have HFD := Lib.hid (HFD.out.and hN.2.1 (by simp))
  clear hN hn2 hl2
  refine call_at (i := 5) (f := ?_) (args := ?_) rfl (by kernel_rfl) (by rfl) ?_ ?_
  rotate_left 2
  · go_simp
    (try (first | with_reducible rfl | (apply And.intro <;> rfl)))
  refine (refrow_any x.A x.n x.d x.p w2 (HX.out.p.keep (HF0.out.and HFD.out (by simp)) (by simp)) (fun k hk => Nat.lt_of_lt_of_le (HX.out.lt k hk) (HF0.out.and HFD.out (by simp)).size) (by have := HX.out.n; omega)).mono ?_
  rintro e w5 ⟨A5, c5, rfl, hN⟩
  obtain ⟨n5, hn5⟩ : ∃ nn_, nn_ = (enc x.n).length + x.n := ⟨_, rfl⟩
  obtain ⟨l5, hl5⟩ : ∃ ll_, ll_ = enc x.n ++ x.p := ⟨_, rfl⟩
  rw [← hn5] at hN ⊢
  rw [← hl5] at hN
  have HB5 : Hid (n5 ≤ 20000) := Lib.hid (by rw [hn5]; have := enc_ten (m := x.n) (by have := HX.out.n; omega); have := HX.out.n; omega)
  have HL5 := Lib.hid hl5
  refine ⟨_, rfl, hHeld.go hN.2.1 (by simp), fun hHeld => ?_⟩
  simp only [Act.put, List.setIfInBounds_toArray, List.set_cons_zero, List.set_cons_succ]
  have HY5 := Lib.hid hN.by
  have HFD := Lib.hid (HFD.out.and hN.2.1 (by simp))
  have HY2 := Lib.hid (Fr.byk hN.2.1 HY2.out)
  clear hN hn5 hl5
  refine step_at (i := 8) rfl (by kernel_rfl) (by rfl) (fun K hK => ?_)
  refine wp_run (v := ?_) (w' := ?_) ?_ ?_
  rotate_left 2
  · go_simp
    (try (first | with_reducible rfl | (apply And.intro <;> rfl)))
  refine hK.out _ (w5.alloc (Obj.cells #[.slice A2 n2 c2, .slice A5 n5 c5, .slice (some ⟨w.heap.size, 2, none⟩) 32 32] 42)) (hHeld.alloc _) (fun hHeld => ?_)
  clear hK K
  simp only [Act.put, List.setIfInBounds_toArray, List.set_cons_zero, List.set_cons_succ]
  have hfb : Fr [] w5 (w5.alloc (Obj.cells #[.slice A2 n2 c2, .slice A5 n5 c5, .slice (some ⟨w.heap.size, 2, none⟩) 32 32] 42)) := (Fr.refl [] w5).alloc _
  have hbb : Blk (w5.alloc (Obj.cells #[.slice A2 n2 c2, .slice A5 n5 c5, .slice (some ⟨w.heap.size, 2, none⟩) 32 32] 42)) w5.heap.size 42 (([⟨A2, n2, c2, l2⟩, ⟨A5, n5, c5, l5⟩, ⟨some ⟨w.heap.size, 2, none⟩, 32, 32, x.h⟩] : List RowV).map RowV.val).toArray := Blk.new _ _ _
  generalize w5.alloc (Obj.cells #[.slice A2 n2 c2, .slice A5 n5 c5, .slice (some ⟨w.heap.size, 2, none⟩) 32 32] 42) = wj at *
  have HFD := Lib.hid (HFD.out.and hfb (by simp))
  have hj := join_big w5.heap.size 3 [⟨A2, n2, c2, l2⟩, ⟨A5, n5, c5, l5⟩, ⟨some ⟨w.heap.size, 2, none⟩, 32, 32, x.h⟩] wj hbb rfl (by omega) (by
    intro r hr
    simp only [List.mem_cons, List.not_mem_nil, or_false] at hr
    rcases hr with rfl | rfl | rfl
    · exact ⟨Fr.byk hfb HY2.out, HB2.out⟩
    · exact ⟨Fr.byk hfb HY5.out, HB5.out⟩
    · exact ⟨Fr.byk HFD.out HYH.out, by show 32 ≤ 20000; omega⟩)
  have hJ : joinL [⟨A2, n2, c2, l2⟩, ⟨A5, n5, c5, l5⟩, ⟨some ⟨w.heap.size, 2, none⟩, 32, 32, x.h⟩] = x.full := by
    simp only [joinL, List.map_cons, List.map_nil, List.flatten_cons, List.flatten_nil, HL2.out, HL5.out]
    simp [Wop.full]
  rw [hJ] at hj
  obtain ⟨X, hX⟩ : ∃ X, X = x.full := ⟨_, rfl⟩
  rw [← hX] at hj
  have HXT := Lib.hid hX
  clear hX
  have HJ := Lib.hid hj
  clear hfb hbb hj hJ HY2 HL2 HY5 HL5
  refine call_at (i := 9) (f := ?_) (args := ?_) rfl (by kernel_rfl) (by rfl) ?_ ?_
  rotate_left 2
  · go_simp
    (try (first | with_reducible rfl | (apply And.intro <;> rfl)))
  refine HJ.out.mono ?_
  rintro e wk ⟨Aj, cj, rfl, hN⟩
  have HN := Lib.hid (hN.from2 (HF0.out.and HFD.out (by simp)))
  refine ⟨_, rfl, hHeld.go hN.2.1 (by simp), fun hHeld => ?_⟩
  clear hN
  simp only [Act.put, List.setIfInBounds_toArray, List.set_cons_zero, List.set_cons_succ]
  refine run_at (i := 10) (v := ?_) rfl (by kernel_rfl) (by rfl) (fun _ _ _ h => h) hHeld (fun w1 hw1 => ?_) ?_
  rotate_left 1
  · skip
    go_simp
    (try (first | with_reducible rfl | (apply And.intro <;> rfl)))
  simp only [Act.put, List.setIfInBounds_toArray, List.set_cons_zero, List.set_cons_succ]
  refine wpAnyH_done (by kernel_rfl) ?_ _
  go_wp2
  go_ret
  rw [← HXT.out]
  exact ⟨Aj, cj, rfl, HN.out⟩
end Go.Proofs.Ytkofmefnlppoaaa

namespace Go.Proofs.Ytkofmefnlppoaaa
open Go.RowKit
set_option maxRecDepth 100000

set_option maxHeartbeats 4000000 in
theorem refputBatch_any (x : Wba) (w : World) (hx : x.Ok w []) (C : List Value) (hC : x.cells = C) :
    Calls Try.prog 11 #[.agg C.toArray] w fun e w' => ∃ A c, e = .returned (.slice A (x.full).length c) ∧ NewB w w' A (x.full).length c (x.full) := by
  obtain ⟨wa, hwa⟩ : ∃ wa, wa = w.alloc (Obj.cells C.toArray 41) := ⟨_, rfl⟩
  have hf0 : Fr [] w wa := by rw [hwa]; exact (Fr.refl [] w).alloc _
  have hb0 : Blk wa w.heap.size 41 x.cells.toArray := by rw [hwa, hC]; exact Blk.new _ _ _
  have HALL : Hid (wa.rangeAt w.heap.size 0 C) := Lib.hid (by rw [← hC]; exact hb0.range)
  have HC0 : Hid (wa.cell? ⟨w.heap.size, 0, none⟩ = some (.int .i64 x.e)) := Lib.hid (by have h := hb0.range (cs := x.cells) 0 _ rfl; simpa using h)
  have HC1 : Hid (wa.cell? ⟨w.heap.size, 1, none⟩ = some (.int .u64 (x.t : Int))) := Lib.hid (by have h := hb0.range (cs := x.cells) 1 _ rfl; simpa using h)
  have HC2 : Hid (wa.cell? ⟨w.heap.size, 2, none⟩ = some (.slice x.A x.n x.d)) := Lib.hid (by have h := hb0.range (cs := x.cells) 2 _ rfl; simpa using h)
  have HC3 : Hid (wa.cell? ⟨w.heap.size, 3, none⟩ = some (.slice x.A2 x.n2 x.d2)) := Lib.hid (by have h := hb0.range (cs := x.cells) 3 _ rfl; simpa using h)
  have HC4 : Hid (wa.cell? ⟨w.heap.size, 4, none⟩ = some (.slice x.A3 x.n3 x.d3)) := Lib.hid (by have h := hb0.range (cs := x.cells) 4 _ rfl; simpa using h)
  have HX := Lib.hid hx
  have HRC := Lib.hid hC
  clear hb0 hx hC
  have HF0 := Lib.hid hf0
  have HWA := Lib.hid hwa
  clear hwa hf0
  go_enter Try.func11, Try.ntmps11
  go_wp2
  rw [← HWA.out]
  refine wp_region_held_drew (S := Fr [] wa) (by kernel_rfl) (Fr.drew (Fr.refl _ wa)) (fun hHeld => ?_)
  have HFD : Hid (Fr [] wa wa.drew) := Lib.hid (Fr.drew (Fr.refl [] wa))
  generalize wa.drew = wd at *
  refine run_at (i := 0) (v := ?_) rfl (by kernel_rfl) (by rfl) (fun _ _ _ h => h) hHeld (fun w1 hw1 => ?_) ?_
  rotate_left 1
  · skip
    go_simp
    (try (first | with_reducible rfl | (apply And.intro <;> rfl)))
  simp only [Act.put, List.setIfInBounds_toArray, List.set_cons_zero, List.set_cons_succ]
  refine run_at (i := 1) (v := ?_) rfl (by kernel_rfl) (by rfl) (fun _ _ _ h => h) hHeld (fun w1 hw1 => ?_) ?_
  rotate_left 1
  · skip
    have hcw0 := hw1.cell (HC0.out) (by first | (simp; done) | exact HNS.out | exact HNW.out | (intro hm; have hlt := HSB.out _ hm; (try dsimp only at hlt); omega))
    go_simp
    (try (first | with_reducible rfl | (apply And.intro <;> rfl)))
  simp only [Act.put, List.setIfInBounds_toArray, List.set_cons_zero, List.set_cons_succ]
  refine run_at (i := 3) (v := ?_) rfl (by kernel_rfl) (by rfl) (fun _ _ _ h => h) hHeld (fun w1 hw1 => ?_) ?_
  rotate_left 1
  · skip
    go_simp
    (try (first | with_reducible rfl | (apply And.intro <;> rfl)))
  simp only [Act.put, List.setIfInBounds_toArray, List.set_cons_zero, List.set_cons_succ]
  refine run_at (i := 4) (v := ?_) rfl (by kernel_rfl) (by rfl) (fun _ _ _ h => h) hHeld (fun w1 hw1 => ?_) ?_
  rotate_left 1
  · skip
    have hcw0 := hw1.cell (HC1.out) (by first | (simp; done) | exact HNS.out | exact HNW.out | (intro hm; have hlt := HSB.out _ hm; (try dsimp only at hlt); omega))
    go_simp
    (try (first | with_reducible rfl | (apply And.intro <;> rfl)))
  simp only [Act.put, List.setIfInBounds_toArray, List.set_cons_zero, List.set_cons_succ]
  refine run_at (i := 6) (v := ?_) rfl (by kernel_rfl) (by rfl) (fun _ _ _ h => h) hHeld (fun w1 hw1 => ?_) ?_
  rotate_left 1
  · skip
    go_simp
    (try (first | with_reducible rfl | (apply And.intro <;> rfl)))
  simp only [Act.put, List.setIfInBounds_toArray, List.set_cons_zero, List.set_cons_succ]
  refine run_at (i := 7) (v := ?_) rfl (by kernel_rfl) (by rfl) (fun _ _ _ h => h) hHeld (fun w1 hw1 => ?_) ?_
  rotate_left 1
  · skip
    have hcw0 := hw1.cell (HC2.out) (by first | (simp; done) | exact HNS.out | exact HNW.out | (intro hm; have hlt := HSB.out _ hm; (try dsimp only at hlt); omega))
    go_simp
    (try (first | with_reducible rfl | (apply And.intro <;> rfl)))
  simp only [Act.put, List.setIfInBounds_toArray, List.set_cons_zero, List.set_cons_succ]
  refine run_at (i := 8) (v := ?_) rfl (by kernel_rfl) (by rfl) (fun _ _ _ h => h) hHeld (fun w1 hw1 => ?_) ?_
  rotate_left 1
  · skip
    go_simp
    (try (first | with_reducible rfl | (apply And.intro <;> rfl)))
  simp only [Act.put, List.setIfInBounds_toArray, List.set_cons_zero, List.set_cons_succ]
  refine call_at (i := 2) (f := ?_) (args := ?_) rfl (by kernel_rfl) (by rfl) ?_ ?_
  rotate_left 2
  · go_simp
    (try (first | with_reducible rfl | (apply And.intro <;> rfl)))
  refine (refint_any x.e HX.out.e.2 wd).mono ?_
  rintro e w2 ⟨A2, c2, rfl, hN⟩
  obtain ⟨n2, hn2⟩ : ∃ nn_, nn_ = (encI x.e).length := ⟨_, rfl⟩
  obtain ⟨l2, hl2⟩ : ∃ ll_, ll_ = encI x.e := ⟨_, rfl⟩
  rw [← hn2] at hN ⊢
  rw [← hl2] at hN
  have HB2 : Hid (n2 ≤ 20000) := Lib.hid (by rw [hn2]; have := encI_len x.e HX.out.e.2; omega)
  have HL2 := Lib.hid hl2
  refine ⟨_, rfl, hHeld.go hN.2.1 (by simp), fun hHeld => ?_⟩
  simp only [Act.put, List.setIfInBounds_toArray, List.set_cons_zero, List.set_cons_succ]
  have HY2 := Lib.hid hN.by
  have HFD := Lib.hid (HFD.out.and hN.2.1 (by simp))
  clear hN hn2 hl2
  refine call_at (i := 5) (f := ?_) (args := ?_) rfl (by kernel_rfl) (by rfl) ?_ ?_
  rotate_left 2
  · go_simp
    (try (first | with_reducible rfl | (apply And.intro <;> rfl)))
  refine (refnum_any x.t HX.out.t w2).mono ?_
  rintro e w5 ⟨A5, c5, rfl, hN⟩
  obtain ⟨n5, hn5⟩ : ∃ nn_, nn_ = (enc x.t).length := ⟨_, rfl⟩
  obtain ⟨l5, hl5⟩ : ∃ ll_, ll_ = enc x.t := ⟨_, rfl⟩
  rw [← hn5] at hN ⊢
  rw [← hl5] at hN
  have HB5 : Hid (n5 ≤ 20000) := Lib.hid (by rw [hn5]; have := enc_ten HX.out.t; omega)
  have HL5 := Lib.hid hl5
  refine ⟨_, rfl, hHeld.go hN.2.1 (by simp), fun hHeld => ?_⟩
  simp only [Act.put, List.setIfInBounds_toArray, List.set_cons_zero, List.set_cons_succ]
  have HY5 := Lib.hid hN.by
  have HFD := Lib.hid (HFD.out.and hN.2.1 (by simp))
  have HY2 := Lib.hid (Fr.byk hN.2.1 HY2.out)
  clear hN hn5 hl5
  refine call_at (i := 9) (f := ?_) (args := ?_) rfl (by kernel_rfl) (by rfl) ?_ ?_
  rotate_left 2
  · go_simp
    (try (first | with_reducible rfl | (apply And.intro <;> rfl)))
  refine (reflen_any x.l _ HX.out.l.1 (show x.n ≤ 1000 by have := HX.out.n; omega) w5).mono ?_
  rintro e w9 ⟨A9, c9, rfl, hN⟩
  obtain ⟨n9, hn9⟩ : ∃ nn_, nn_ = (encI (x.l.length : Int)).length := ⟨_, rfl⟩
  obtain ⟨l9, hl9⟩ : ∃ ll_, ll_ = encI (x.l.length : Int) := ⟨_, rfl⟩
  rw [← hn9] at hN ⊢
  rw [← hl9] at hN
  have HB9 : Hid (n9 ≤ 20000) := Lib.hid (by rw [hn9]; have := encI_len (x.l.length : Int) (by have := (show x.n ≤ 1000 by have := HX.out.n; omega); have := HX.out.l.1; omega); omega)
  have HL9 := Lib.hid hl9
  refine ⟨_, rfl, hHeld.go hN.2.1 (by simp), fun hHeld => ?_⟩
  simp only [Act.put, List.setIfInBounds_toArray, List.set_cons_zero, List.set_cons_succ]
  have HY9 := Lib.hid hN.by
  have HFD := Lib.hid (HFD.out.and hN.2.1 (by simp))
  have HY2 := Lib.hid (Fr.byk hN.2.1 HY2.out)
  have HY5 := Lib.hid (Fr.byk hN.2.1 HY5.out)
  clear hN hn9 hl9
  refine step_at (i := 10) rfl (by kernel_rfl) (by rfl) (fun K hK => ?_)
  refine wp_run (v := ?_) (w' := ?_) ?_ ?_
  rotate_left 2
  · go_simp
    (try (first | with_reducible rfl | (apply And.intro <;> rfl)))
  refine hK.out _ (w9.alloc (Obj.cells #[.slice A2 n2 c2, .slice A5 n5 c5, .slice A9 n9 c9] 42)) (hHeld.alloc _) (fun hHeld => ?_)
  clear hK K
  simp only [Act.put, List.setIfInBounds_toArray, List.set_cons_zero, List.set_cons_succ]
  have hfb : Fr [] w9 (w9.alloc (Obj.cells #[.slice A2 n2 c2, .slice A5 n5 c5, .slice A9 n9 c9] 42)) := (Fr.refl [] w9).alloc _
  have hbb : Blk (w9.alloc (Obj.cells #[.slice A2 n2 c2, .slice A5 n5 c5, .slice A9 n9 c9] 42)) w9.heap.size 42 (([⟨A2, n2, c2, l2⟩, ⟨A5, n5, c5, l5⟩, ⟨A9, n9, c9, l9⟩] : List RowV).map RowV.val).toArray := Blk.new _ _ _
  generalize w9.alloc (Obj.cells #[.slice A2 n2 c2, .slice A5 n5 c5, .slice A9 n9 c9] 42) = wj at *
  have HFD := Lib.hid (HFD.out.and hfb (by simp))
  have hj := join_big w9.heap.size 3 [⟨A2, n2, c2, l2⟩, ⟨A5, n5, c5, l5⟩, ⟨A9, n9, c9, l9⟩] wj hbb rfl (by omega) (by
    intro r hr
    simp only [List.mem_cons, List.not_mem_nil, or_false] at hr
    rcases hr with rfl | rfl | rfl
    · exact ⟨Fr.byk hfb HY2.out, HB2.out⟩
    · exact ⟨Fr.byk hfb HY5.out, HB5.out⟩
    · exact ⟨Fr.byk hfb HY9.out, HB9.out⟩)
  have hJ : joinL [⟨A2, n2, c2, l2⟩, ⟨A5, n5, c5, l5⟩, ⟨A9, n9, c9, l9⟩] = encI x.e ++ enc x.t ++ encI (x.l.length : Int) := by
    simp only [joinL, List.map_cons, List.map_nil, List.flatten_cons, List.flatten_nil, HL2.out, HL5.out, HL9.out]
    simp []
  rw [hJ] at hj
  obtain ⟨X, hX⟩ : ∃ X, X = encI x.e ++ enc x.t ++ encI (x.l.length : Int) := ⟨_, rfl⟩
  rw [← hX] at hj
  have HXT := Lib.hid hX
  clear hX
  have HJ := Lib.hid hj
  clear hfb hbb hj hJ HY2 HL2 HY5 HL5 HY9 HL9
  refine call_at (i := 11) (f := ?_) (args := ?_) rfl (by kernel_rfl) (by rfl) ?_ ?_
  rotate_left 2
  · go_simp
    (try (first | with_reducible rfl | (apply And.intro <;> rfl)))
  refine HJ.out.mono ?_
  rintro e wk ⟨Aj, cj, rfl, hN⟩
  have HN := Lib.hid (hN.from2 (HFD.out))
  refine ⟨_, rfl, hHeld.go hN.2.1 (by simp), fun hHeld => ?_⟩
  clear hN
  simp only [Act.put, List.setIfInBounds_toArray, List.set_cons_zero, List.set_cons_succ]
  refine run_at (i := 12) (v := ?_) rfl (by kernel_rfl) (by rfl) (fun _ _ _ h => h) hHeld (fun w1 hw1 => ?_) ?_
  rotate_left 1
  · skip
    go_simp
    (try (first | with_reducible rfl | (apply And.intro <;> rfl)))
  simp only [Act.put, List.setIfInBounds_toArray, List.set_cons_zero, List.set_cons_succ]
  refine wpAnyH_done (by kernel_rfl) ?_ _
  have HFK := Lib.hid hHeld
  have HNK : Hid (NewB wa wk Aj X.length cj X) := Lib.hid HN.out
  clear hHeld
  have HXB : Hid (X.length ≤ 1000) := Lib.hid (by rw [HXT.out]; have b0 := encI_len x.e HX.out.e.2; have b3 := enc_ten HX.out.t; have b2 := encI_len (x.l.length : Int) (by have := HX.out.l.1; have := HX.out.n; omega); simp only [List.length_append]; omega)
  have hc := HFK.out.cell HC2.out (by simp)
  go_wp2
  clear hc
  go_loopw [3, 23] (fun s i wr => ∃ (k : Nat) (A4 : Option Addr) (c4 : Nat) (L : List UInt8), k ≤ x.n ∧ i = .int .i64 k ∧ s = .slice A4 L.length c4 ∧ Hid (L = X ++ (x.l.take k).flatMap Wpr.full) ∧ Hid (L.length ≤ 1000 + 2300 * k) ∧ Hid (NewB wa wr A4 L.length c4 L)) (fun _ i _ => x.n - (intOf i).toNat)
  case atStart => exact ⟨0, Aj, cj, X, by omega, rfl, rfl, Lib.hid (by simp), Lib.hid (by have := HXB.out; omega), HNK⟩
  case round =>
    obtain ⟨k, A4, c4, L, hk, rfl, rfl, HE, HB, HN⟩ := hrel
    have hc := HN.out.2.1.cell HC2.out (by simp)
    have hnn := HX.out.n
    by_cases hlt : k < x.n
    · obtain ⟨ad, v, hA, hv, hcl, hok, hcells⟩ := HX.out.l.at (i := k) hlt
      rw [hA] at hc
      have HCELLS : Hid (∀ j u, (Wpr.cells v)[j]? = some u → wr.cell? ((ad.add (k * 6)).add j) = some u) := Lib.hid (fun j u hj => HN.out.2.1.cell (HF0.out.cell (hcells j u hj) (by simp)) (by simp))
      have HCLN := Lib.hid hcl
      have HOK := Lib.hid hok
      have HV := Lib.hid hv
      have hk0 : (0 : Int) ≤ k := by omega
      clear hcells hcl hok hv hA
      generalize hC : Wpr.cells v = CV at *
      have HCV := Lib.hid hC
      clear hC
      have HFW : Hid (Fr [] w wr) := Lib.hid (HF0.out.and HN.out.2.1 (by simp))
      go_wp2_with (first | (refine wpList_cells rfl 36 _ rfl _ rfl CV HCELLS.out (row_prm.of HCLN.out) ?_))
      refine (refputPromise_any v wr (HOK.out.keep HFW.out (by simp)) CV HCV.out).mono ?_
      rintro e w2 ⟨A5, c5, rfl, hN5⟩
      have hfl : (Wpr.full v).length ≤ 2300 := Wpr.full_len HOK.out
      obtain ⟨F, hF⟩ : ∃ F, F = Wpr.full v := ⟨_, rfl⟩
      rw [show v.full = F from hF.symm] at hN5 ⊢
      rw [← hF] at hfl
      have HFF := Lib.hid hF
      have HFL := Lib.hid hfl
      have HY := Lib.hid hN5.by
      have HNB := Lib.hid (HN.out.nxt hN5.2.1)
      clear hN5 HN hF hfl
      go_wp2_with (at_builtin; refine Stop.mk ?_)
      refine Stop.go ?_
      refine wpList_append_bytes _ rfl _ _ _ rfl 5 Try.underlying42 info_u8 (.slice A4 L.length c4) L.length L rfl HNB.out.1 A5 F.length c5 F rfl HY.out (by have := HB.out; have := HFL.out; omega) ?_
      intro A6 c6 w6 ho6 hg6 hat6
      have hN6 := NewB.grow HNB.out.2.1 HNB.out.2.2 ho6 hg6 hat6
      have hl6 : (L ++ F).length = L.length + F.length := List.length_append
      have hE6 : L ++ F = X ++ (x.l.take (k + 1)).flatMap Wpr.full := by rw [flat_snoc HV.out, HE.out, HFF.out, List.append_assoc]
      have hB6 : (L ++ F).length ≤ 1000 + 2300 * (k + 1) := by have := HB.out; have := HFL.out; rw [hl6]; omega
      rw [← hl6] at hN6 ⊢
      generalize L ++ F = L6 at *
      have HN6 := Lib.hid hN6
      have HE6 := Lib.hid hE6
      have HB6 := Lib.hid hB6
      clear ho6 hg6 hat6 hN6 hl6 hE6 hB6 hc
      go_wp2
      go_roundw
      case rel => exact ⟨k + 1, A6, c6, L6, by omega, by go_num, rfl, HE6, HB6, HN6⟩
      case measure => simp [intOf]; omega
    · have hkn : k = x.n := by omega
      have HE2 : Hid (L = X ++ x.l.flatMap Wpr.full) := Lib.hid (by have h := HE.out; rwa [hkn, List.take_of_length_le (by rw [HX.out.l.1]; exact Nat.le_refl _)] at h)
      have hd : decide (k < x.n) = false := by simp; omega
      have HB2 : Hid (L.length ≤ 1000 + 2300 * x.n) := Lib.hid (by have := HB.out; rw [hkn] at this; exact this)
      clear hkn hlt HE HB
      have hc := HN.out.2.1.cell HC3.out (by simp)
      go_wp2_with fail
      refine (reflen_any x.l2 _ HX.out.l2.1 (show _ ≤ 1000 by have := HX.out.n2; omega) wr).mono ?_
      rintro e w40 ⟨A40, c40, rfl, hN5⟩
      have hfl : (encI (x.l2.length : Int)).length ≤ 20 := by have := encI_len (x.l2.length : Int) (by have := HX.out.l2.1; have := HX.out.n2; omega); omega
      obtain ⟨F, hF⟩ : ∃ F, F = encI (x.l2.length : Int) := ⟨_, rfl⟩
      rw [← hF] at hN5 hfl ⊢
      have HFF := Lib.hid hF
      have HFL := Lib.hid hfl
      have HY := Lib.hid hN5.by
      have HNB := Lib.hid (HN.out.nxt hN5.2.1)
      clear hN5 HN hF hfl hc
      go_wp2_with (at_builtin; refine Stop.mk ?_)
      refine Stop.go ?_
      refine wpList_append_bytes _ rfl _ _ _ rfl 5 Try.underlying42 info_u8 (.slice A4 L.length c4) L.length L rfl HNB.out.1 A40 F.length c40 F rfl HY.out (by have := HB2.out; have := HFL.out; omega) ?_
      intro A41 c41 w41 ho6 hg6 hat6
      have hN6 := NewB.grow HNB.out.2.1 HNB.out.2.2 ho6 hg6 hat6
      have hl6 : (L ++ F).length = L.length + F.length := List.length_append
      have hE6 : L ++ F = X ++ x.l.flatMap Wpr.full ++ encI (x.l2.length : Int) := by rw [HE2.out, HFF.out]
      have hB6 : (L ++ F).length ≤ 11000 := by have := HB2.out; have := HFL.out; rw [hl6]; omega
      rw [← hl6] at hN6 ⊢
      generalize L ++ F = X2 at *
      have HN41 := Lib.hid hN6
      have HXT41 := Lib.hid hE6
      have HXB := Lib.hid hB6
      have hc := hN6.2.1.cell HC3.out (by simp)
      clear ho6 hg6 hat6 hN6 hl6 hE6 hB6 HNB HB2 HE2
      go_wp2
      clear hc
      go_loopw [3, 44] (fun s i wr => ∃ (k : Nat) (A4 : Option Addr) (c4 : Nat) (L : List UInt8), k ≤ x.n2 ∧ i = .int .i64 k ∧ s = .slice A4 L.length c4 ∧ Hid (L = X2 ++ (x.l2.take k).flatMap Wop.full) ∧ Hid (L.length ≤ 11000 + 320 * k) ∧ Hid (NewB wa wr A4 L.length c4 L)) (fun _ i _ => x.n2 - (intOf i).toNat)
      case atStart => exact ⟨0, A41, c41, X2, by omega, rfl, rfl, Lib.hid (by simp), Lib.hid (by have := HXB.out; omega), HN41⟩
      case round =>
        obtain ⟨k, A4, c4, L, hk, rfl, rfl, HE, HB, HN⟩ := hrel
        have hc := HN.out.2.1.cell HC3.out (by simp)
        have hnn := HX.out.n2
        by_cases hlt : k < x.n2
        · obtain ⟨ad, v, hA, hv, hcl, hok, hcells⟩ := HX.out.l2.at (i := k) hlt
          rw [hA] at hc
          have HCELLS : Hid (∀ j u, (Wop.cells v)[j]? = some u → wr.cell? ((ad.add (k * 34)).add j) = some u) := Lib.hid (fun j u hj => HN.out.2.1.cell (HF0.out.cell (hcells j u hj) (by simp)) (by simp))
          have HCLN := Lib.hid hcl
          have HOK := Lib.hid hok
          have HV := Lib.hid hv
          have hk0 : (0 : Int) ≤ k := by omega
          clear hcells hcl hok hv hA
          generalize hC : Wop.cells v = CV at *
          have HCV := Lib.hid hC
          clear hC
          have HFW : Hid (Fr [] w wr) := Lib.hid (HF0.out.and HN.out.2.1 (by simp))
          go_wp2_with (first | (refine wpList_cells rfl 81 _ rfl _ rfl CV HCELLS.out (row_opening.of HCLN.out) ?_))
          refine (refputOpening_any v wr (HOK.out.keep HFW.out (by simp)) CV HCV.out).mono ?_
          rintro e w2 ⟨A5, c5, rfl, hN5⟩
          have hfl : (Wop.full v).length ≤ 320 := Wop.full_len HOK.out
          obtain ⟨F, hF⟩ : ∃ F, F = Wop.full v := ⟨_, rfl⟩
          rw [show v.full = F from hF.symm] at hN5 ⊢
          rw [← hF] at hfl
          have HFF := Lib.hid hF
          have HFL := Lib.hid hfl
          have HY := Lib.hid hN5.by
          have HNB := Lib.hid (HN.out.nxt hN5.2.1)
          clear hN5 HN hF hfl
          go_wp2_with (at_builtin; refine Stop.mk ?_)
          refine Stop.go ?_
          refine wpList_append_bytes _ rfl _ _ _ rfl 5 Try.underlying42 info_u8 (.slice A4 L.length c4) L.length L rfl HNB.out.1 A5 F.length c5 F rfl HY.out (by have := HB.out; have := HFL.out; omega) ?_
          intro A6 c6 w6 ho6 hg6 hat6
          have hN6 := NewB.grow HNB.out.2.1 HNB.out.2.2 ho6 hg6 hat6
          have hl6 : (L ++ F).length = L.length + F.length := List.length_append
          have hE6 : L ++ F = X2 ++ (x.l2.take (k + 1)).flatMap Wop.full := by rw [flat_snoc HV.out, HE.out, HFF.out, List.append_assoc]
          have hB6 : (L ++ F).length ≤ 11000 + 320 * (k + 1) := by have := HB.out; have := HFL.out; rw [hl6]; omega
          rw [← hl6] at hN6 ⊢
          generalize L ++ F = L6 at *
          have HN6 := Lib.hid hN6
          have HE6 := Lib.hid hE6
          have HB6 := Lib.hid hB6
          clear ho6 hg6 hat6 hN6 hl6 hE6 hB6 hc
          go_wp2
          go_roundw
          case rel => exact ⟨k + 1, A6, c6, L6, by omega, by go_num, rfl, HE6, HB6, HN6⟩
          case measure => simp [intOf]; omega
        · have hkn : k = x.n2 := by omega
          have HE2 : Hid (L = X2 ++ x.l2.flatMap Wop.full) := Lib.hid (by have h := HE.out; rwa [hkn, List.take_of_length_le (by rw [HX.out.l2.1]; exact Nat.le_refl _)] at h)
          have hd : decide (k < x.n2) = false := by simp; omega
          have HB2 : Hid (L.length ≤ 11000 + 320 * x.n2) := Lib.hid (by have := HB.out; rw [hkn] at this; exact this)
          clear hkn hlt HE HB
          have hc := HN.out.2.1.cell HC4.out (by simp)
          go_wp2_with fail
          refine (reflen_any x.l3 _ HX.out.l3.1 (show _ ≤ 1000 by have := HX.out.n3; omega) wr).mono ?_
          rintro e w50 ⟨A50, c50, rfl, hN5⟩
          have hfl : (encI (x.l3.length : Int)).length ≤ 20 := by have := encI_len (x.l3.length : Int) (by have := HX.out.l3.1; have := HX.out.n3; omega); omega
          obtain ⟨F, hF⟩ : ∃ F, F = encI (x.l3.length : Int) := ⟨_, rfl⟩
          rw [← hF] at hN5 hfl ⊢
          have HFF := Lib.hid hF
          have HFL := Lib.hid hfl
          have HY := Lib.hid hN5.by
          have HNB := Lib.hid (HN.out.nxt hN5.2.1)
          clear hN5 HN hF hfl hc
          go_wp2_with (at_builtin; refine Stop.mk ?_)
          refine Stop.go ?_
          refine wpList_append_bytes _ rfl _ _ _ rfl 5 Try.underlying42 info_u8 (.slice A4 L.length c4) L.length L rfl HNB.out.1 A50 F.length c50 F rfl HY.out (by have := HB2.out; have := HFL.out; omega) ?_
          intro A51 c51 w51 ho6 hg6 hat6
          have hN6 := NewB.grow HNB.out.2.1 HNB.out.2.2 ho6 hg6 hat6
          have hl6 : (L ++ F).length = L.length + F.length := List.length_append
          have hE6 : L ++ F = X2 ++ x.l2.flatMap Wop.full ++ encI (x.l3.length : Int) := by rw [HE2.out, HFF.out]
          have hB6 : (L ++ F).length ≤ 14000 := by have := HB2.out; have := HFL.out; rw [hl6]; omega
          rw [← hl6] at hN6 ⊢
          generalize L ++ F = X3 at *
          have HN51 := Lib.hid hN6
          have HXT51 := Lib.hid hE6
          have HXB := Lib.hid hB6
          have hc := hN6.2.1.cell HC4.out (by simp)
          clear ho6 hg6 hat6 hN6 hl6 hE6 hB6 HNB HB2 HE2
          go_wp2
          clear hc
          go_loopw [3, 65] (fun s i wr => ∃ (k : Nat) (A4 : Option Addr) (c4 : Nat) (L : List UInt8), k ≤ x.n3 ∧ i = .int .i64 k ∧ s = .slice A4 L.length c4 ∧ Hid (L = X3 ++ (x.l3.take k).flatMap Wtb.full) ∧ Hid (L.length ≤ 14000 + 520 * k) ∧ Hid (NewB wa wr A4 L.length c4 L)) (fun _ i _ => x.n3 - (intOf i).toNat)
          case atStart => exact ⟨0, A51, c51, X3, by omega, rfl, rfl, Lib.hid (by simp), Lib.hid (by have := HXB.out; omega), HN51⟩
          case round =>
            obtain ⟨k, A4, c4, L, hk, rfl, rfl, HE, HB, HN⟩ := hrel
            have hnn := HX.out.n3
            by_cases hlt : k < x.n3
            · obtain ⟨ad, v, hA, hv, hcl, hok, hcells⟩ := HX.out.l3.at (i := k) hlt
              have HC4K : Hid (wa.cell? ⟨w.heap.size, 4, none⟩ = some (.slice (some ad) x.n3 x.d3)) := Lib.hid (by rw [← hA]; exact HC4.out)
              have HE0 : Hid (wa.cell? (ad.add (k * 2)) = some (.int .i64 v.i)) := Lib.hid (HF0.out.cell (p := (ad.add (k * 2)).add 0) (hcells 0 _ rfl) (by simp))
              have HE1 : Hid (wa.cell? ⟨(ad.add (k * 2)).block, (ad.add (k * 2)).off + 1, none⟩ = some (.slice v.A v.n v.d)) := Lib.hid (HF0.out.cell (p := (ad.add (k * 2)).add 1) (hcells 1 _ rfl) (by simp))
              have HOK := Lib.hid hok
              have HV := Lib.hid hv
              have hk0 : (0 : Int) ≤ k := by omega
              clear hcells hcl hok hv hA
              go_wp2
              refine wp_region_held_drew (S := Fr [] wa) (by kernel_rfl) (HN.out.2.1.drew) (fun hHeld => ?_)
              have HND : Hid (NewB wa wr.drew A4 L.length c4 L) := Lib.hid (HN.out.nxt (Fr.drew (Fr.refl [] wr)))
              clear HN
              generalize wr.drew = wd at *
              refine run_at (i := 0) (v := ?_) rfl (by kernel_rfl) (by rfl) (fun _ _ _ h => h) hHeld (fun w1 hw1 => ?_) ?_
              rotate_left 1
              · skip
                go_simp
                (try (first | with_reducible rfl | (apply And.intro <;> rfl)))
              simp only [Act.put, List.setIfInBounds_toArray, List.set_cons_zero, List.set_cons_succ]
              refine run_at (i := 1) (v := ?_) rfl (by kernel_rfl) (by rfl) (fun _ _ _ h => h) hHeld (fun w1 hw1 => ?_) ?_
              rotate_left 1
              · skip
                go_simp
                (try (first | with_reducible rfl | (apply And.intro <;> rfl)))
              simp only [Act.put, List.setIfInBounds_toArray, List.set_cons_zero, List.set_cons_succ]
              refine run_at (i := 2) (v := ?_) rfl (by kernel_rfl) (by rfl) (fun _ _ _ h => h) hHeld (fun w1 hw1 => ?_) ?_
              rotate_left 1
              · skip
                have hcw0 := hw1.cell (HC4K.out) (by first | (simp; done) | exact HNS.out | exact HNW.out | (intro hm; have hlt := HSB.out _ hm; (try dsimp only at hlt); omega))
                go_simp
                (try (first | with_reducible rfl | (apply And.intro <;> rfl)))
              simp only [Act.put, List.setIfInBounds_toArray, List.set_cons_zero, List.set_cons_succ]
              refine run_at (i := 3) (v := ?_) rfl (by kernel_rfl) (by rfl) (fun _ _ _ h => h) hHeld (fun w1 hw1 => ?_) ?_
              rotate_left 1
              · skip
                go_simp
                (try (first | with_reducible rfl | (apply And.intro <;> rfl)))
              simp only [Act.put, List.setIfInBounds_toArray, List.set_cons_zero, List.set_cons_succ]
              refine run_at (i := 4) (v := ?_) rfl (by kernel_rfl) (by rfl) (fun _ _ _ h => h) hHeld (fun w1 hw1 => ?_) ?_
              rotate_left 1
              · skip
                go_simp
                (try (first | with_reducible rfl | (apply And.intro <;> rfl)))
              simp only [Act.put, List.setIfInBounds_toArray, List.set_cons_zero, List.set_cons_succ]
              refine run_at (i := 5) (v := ?_) rfl (by kernel_rfl) (by rfl) (fun _ _ _ h => h) hHeld (fun w1 hw1 => ?_) ?_
              rotate_left 1
              · skip
                go_simp
                (try (first | with_reducible rfl | (apply And.intro <;> rfl)))
              simp only [Act.put, List.setIfInBounds_toArray, List.set_cons_zero, List.set_cons_succ]
              refine run_at (i := 6) (v := ?_) rfl (by kernel_rfl) (by rfl) (fun _ _ _ h => h) hHeld (fun w1 hw1 => ?_) ?_
              rotate_left 1
              · skip
                have hcw0 := hw1.cell (HE0.out) (by first | (simp; done) | exact HNS.out | exact HNW.out | (intro hm; have hlt := HSB.out _ hm; (try dsimp only at hlt); omega))
                go_simp
                (try (first | with_reducible rfl | (apply And.intro <;> rfl)))
              simp only [Act.put, List.setIfInBounds_toArray, List.set_cons_zero, List.set_cons_succ]
              refine run_at (i := 8) (v := ?_) rfl (by kernel_rfl) (by rfl) (fun _ _ _ h => h) hHeld (fun w1 hw1 => ?_) ?_
              rotate_left 1
              · skip
                go_simp
                (try (first | with_reducible rfl | (apply And.intro <;> rfl)))
              simp only [Act.put, List.setIfInBounds_toArray, List.set_cons_zero, List.set_cons_succ]
              refine run_at (i := 9) (v := ?_) rfl (by kernel_rfl) (by rfl) (fun _ _ _ h => h) hHeld (fun w1 hw1 => ?_) ?_
              rotate_left 1
              · skip
                have hcw0 := hw1.cell (HC4K.out) (by first | (simp; done) | exact HNS.out | exact HNW.out | (intro hm; have hlt := HSB.out _ hm; (try dsimp only at hlt); omega))
                go_simp
                (try (first | with_reducible rfl | (apply And.intro <;> rfl)))
              simp only [Act.put, List.setIfInBounds_toArray, List.set_cons_zero, List.set_cons_succ]
              refine run_at (i := 10) (v := ?_) rfl (by kernel_rfl) (by rfl) (fun _ _ _ h => h) hHeld (fun w1 hw1 => ?_) ?_
              rotate_left 1
              · skip
                go_simp
                (try (first | with_reducible rfl | (apply And.intro <;> rfl)))
              simp only [Act.put, List.setIfInBounds_toArray, List.set_cons_zero, List.set_cons_succ]
              refine run_at (i := 11) (v := ?_) rfl (by kernel_rfl) (by rfl) (fun _ _ _ h => h) hHeld (fun w1 hw1 => ?_) ?_
              rotate_left 1
              · skip
                go_simp
                (try (first | with_reducible rfl | (apply And.intro <;> rfl)))
              simp only [Act.put, List.setIfInBounds_toArray, List.set_cons_zero, List.set_cons_succ]
              refine run_at (i := 12) (v := ?_) rfl (by kernel_rfl) (by rfl) (fun _ _ _ h => h) hHeld (fun w1 hw1 => ?_) ?_
              rotate_left 1
              · skip
                go_simp
                (try (first | with_reducible rfl | (apply And.intro <;> rfl)))
              simp only [Act.put, List.setIfInBounds_toArray, List.set_cons_zero, List.set_cons_succ]
              refine run_at (i := 13) (v := ?_) rfl (by kernel_rfl) (by rfl) (fun _ _ _ h => h) hHeld (fun w1 hw1 => ?_) ?_
              rotate_left 1
              · skip
                have hcw0 := hw1.cell (HE1.out) (by first | (simp; done) | exact HNS.out | exact HNW.out | (intro hm; have hlt := HSB.out _ hm; (try dsimp only at hlt); omega))
                go_simp
                (try (first | with_reducible rfl | (apply And.intro <;> rfl)))
              simp only [Act.put, List.setIfInBounds_toArray, List.set_cons_zero, List.set_cons_succ]
              refine run_at (i := 14) (v := ?_) rfl (by kernel_rfl) (by rfl) (fun _ _ _ h => h) hHeld (fun w1 hw1 => ?_) ?_
              rotate_left 1
              · skip
                go_simp
                (try (first | with_reducible rfl | (apply And.intro <;> rfl)))
              simp only [Act.put, List.setIfInBounds_toArray, List.set_cons_zero, List.set_cons_succ]
              refine call_at (i := 7) (f := ?_) (args := ?_) rfl (by kernel_rfl) (by rfl) ?_ ?_
              rotate_left 2
              · go_simp
                (try (first | with_reducible rfl | (apply And.intro <;> rfl)))
              refine (refint_any v.i HOK.out.i.2 wd).mono ?_
              rintro e w7 ⟨A7, c7, rfl, hN⟩
              obtain ⟨n7, hn7⟩ : ∃ nn_, nn_ = (encI v.i).length := ⟨_, rfl⟩
              obtain ⟨l7, hl7⟩ : ∃ ll_, ll_ = encI v.i := ⟨_, rfl⟩
              rw [← hn7] at hN ⊢
              rw [← hl7] at hN
              have HB7 : Hid (n7 ≤ 20000) := Lib.hid (by rw [hn7]; have := encI_len v.i HOK.out.i.2; omega)
              have HL7 := Lib.hid hl7
              refine ⟨_, rfl, hHeld.go hN.2.1 (by simp), fun hHeld => ?_⟩
              simp only [Act.put, List.setIfInBounds_toArray, List.set_cons_zero, List.set_cons_succ]
              have HY7 := Lib.hid hN.by
              have HND := Lib.hid (HND.out.nxt hN.2.1)
              clear hN hn7 hl7
              refine call_at (i := 15) (f := ?_) (args := ?_) rfl (by kernel_rfl) (by rfl) ?_ ?_
              rotate_left 2
              · go_simp
                (try (first | with_reducible rfl | (apply And.intro <;> rfl)))
              refine (reflen_any v.l _ HOK.out.l.1 (show _ ≤ 1000 by have := HOK.out.n; omega) w7).mono ?_
              rintro e w15 ⟨A15, c15, rfl, hN⟩
              obtain ⟨n15, hn15⟩ : ∃ nn_, nn_ = (encI (v.l.length : Int)).length := ⟨_, rfl⟩
              obtain ⟨l15, hl15⟩ : ∃ ll_, ll_ = encI (v.l.length : Int) := ⟨_, rfl⟩
              rw [← hn15] at hN ⊢
              rw [← hl15] at hN
              have HB15 : Hid (n15 ≤ 20000) := Lib.hid (by rw [hn15]; have := encI_len (v.l.length : Int) (by have := HOK.out.n; have := HOK.out.l.1; omega); omega)
              have HL15 := Lib.hid hl15
              refine ⟨_, rfl, hHeld.go hN.2.1 (by simp), fun hHeld => ?_⟩
              simp only [Act.put, List.setIfInBounds_toArray, List.set_cons_zero, List.set_cons_succ]
              have HY15 := Lib.hid hN.by
              have HND := Lib.hid (HND.out.nxt hN.2.1)
              have HY7 := Lib.hid (Fr.byk hN.2.1 HY7.out)
              clear hN hn15 hl15
              refine step_at (i := 16) rfl (by kernel_rfl) (by rfl) (fun K hK => ?_)
              refine wp_run (v := ?_) (w' := ?_) ?_ ?_
              rotate_left 2
              · go_simp
                (try (first | with_reducible rfl | (apply And.intro <;> rfl)))
              refine hK.out _ (w15.alloc (Obj.cells #[.slice A4 L.length c4, .slice A7 n7 c7, .slice A15 n15 c15] 42)) (hHeld.alloc _) (fun hHeld => ?_)
              clear hK K
              simp only [Act.put, List.setIfInBounds_toArray, List.set_cons_zero, List.set_cons_succ]
              have hfb : Fr [] w15 (w15.alloc (Obj.cells #[.slice A4 L.length c4, .slice A7 n7 c7, .slice A15 n15 c15] 42)) := (Fr.refl [] w15).alloc _
              have hbb : Blk (w15.alloc (Obj.cells #[.slice A4 L.length c4, .slice A7 n7 c7, .slice A15 n15 c15] 42)) w15.heap.size 42 (([⟨A4, L.length, c4, L⟩, ⟨A7, n7, c7, l7⟩, ⟨A15, n15, c15, l15⟩] : List RowV).map RowV.val).toArray := Blk.new _ _ _
              generalize w15.alloc (Obj.cells #[.slice A4 L.length c4, .slice A7 n7 c7, .slice A15 n15 c15] 42) = wj at *
              have hj := join_big w15.heap.size 3 [⟨A4, L.length, c4, L⟩, ⟨A7, n7, c7, l7⟩, ⟨A15, n15, c15, l15⟩] wj hbb rfl (by omega) (by
                intro r hr
                simp only [List.mem_cons, List.not_mem_nil, or_false] at hr
                rcases hr with rfl | rfl | rfl
                · exact ⟨Fr.byk hfb HND.out.by, by show L.length ≤ 20000; have := HB.out; omega⟩
                · exact ⟨Fr.byk hfb HY7.out, HB7.out⟩
                · exact ⟨Fr.byk hfb HY15.out, HB15.out⟩)
              obtain ⟨Y, hY⟩ : ∃ Y, Y = joinL [⟨A4, L.length, c4, L⟩, ⟨A7, n7, c7, l7⟩, ⟨A15, n15, c15, l15⟩] := ⟨_, rfl⟩
              rw [← hY] at hj
              have hYT : Y = L ++ encI v.i ++ encI (v.l.length : Int) := by
                rw [hY]
                simp only [joinL, List.map_cons, List.map_nil, List.flatten_cons, List.flatten_nil, HL7.out, HL15.out]
                simp
              have hYB : Y.length ≤ 17000 := by
                rw [hYT]
                have b0 := encI_len v.i HOK.out.i.2
                have b1 := encI_len (v.l.length : Int) (by have := HOK.out.n; have := HOK.out.l.1; omega)
                have b2 := HB.out
                simp only [List.length_append]
                omega
              have HYT := Lib.hid hYT
              have HXB := Lib.hid hYB
              have HJ := Lib.hid hj
              clear hfb hbb hj hY hYT hYB HND HY7 HY15 HL7 HL15 HB7 HB15
              refine call_at (i := 17) (f := ?_) (args := ?_) rfl (by kernel_rfl) (by rfl) ?_ ?_
              rotate_left 2
              · go_simp
                (try (first | with_reducible rfl | (apply And.intro <;> rfl)))
              refine HJ.out.mono ?_
              rintro e wk ⟨Aj, cj, rfl, hN⟩
              have HNK : Hid (NewB wa wk Aj Y.length cj Y) := Lib.hid (hN.from2 hHeld)
              refine ⟨_, rfl, hHeld.go hN.2.1 (by simp), fun hHeld => ?_⟩
              clear hN
              simp only [Act.put, List.setIfInBounds_toArray, List.set_cons_zero, List.set_cons_succ]
              refine run_at (i := 18) (v := ?_) rfl (by kernel_rfl) (by rfl) (fun _ _ _ h => h) hHeld (fun w1 hw1 => ?_) ?_
              rotate_left 1
              · skip
                go_simp
                (try (first | with_reducible rfl | (apply And.intro <;> rfl)))
              simp only [Act.put, List.setIfInBounds_toArray, List.set_cons_zero, List.set_cons_succ]
              refine wpAnyH_done (by kernel_rfl) ?_ _
              clear HJ
              have hc := hHeld.cell HC4K.out (by simp)
              have hc1 := hHeld.cell HE1.out (by simp)
              clear hHeld
              go_wp2
              clear hc hc1
              go_loopw [3, 93] (fun s i wr => ∃ (k2 : Nat) (A8 : Option Addr) (c8 : Nat) (L8 : List UInt8), k2 ≤ v.n ∧ i = .int .i64 k2 ∧ s = .slice A8 L8.length c8 ∧ Hid (L8 = Y ++ (v.l.take k2).flatMap Wdn.full) ∧ Hid (L8.length ≤ 17000 + 100 * k2) ∧ Hid (NewB wa wr A8 L8.length c8 L8)) (fun _ i _ => v.n - (intOf i).toNat)
              case atStart => exact ⟨0, Aj, cj, Y, by omega, rfl, rfl, Lib.hid (by simp), Lib.hid (by have := HXB.out; omega), HNK⟩
              case round =>
                obtain ⟨k2, A8, c8, L8, hk2, rfl, rfl, HE8, HB8, HN8⟩ := hrel
                have hc1 := HN8.out.2.1.cell HE1.out (by simp)
                have hnn2 := HOK.out.n
                have hc := HN8.out.2.1.cell HC4K.out (by simp)
                by_cases hlt2 : k2 < v.n
                · obtain ⟨ad2, v2, hA2, hv, hcl, hok, hcells⟩ := HOK.out.l.at (i := k2) hlt2
                  rw [hA2] at hc1
                  have HCELLS : Hid (∀ j u, (Wdn.cells v2)[j]? = some u → wr.cell? ((ad2.add (k2 * 4)).add j) = some u) := Lib.hid (fun j u hj => HN8.out.2.1.cell (HF0.out.cell (hcells j u hj) (by simp)) (by simp))
                  have HCLN := Lib.hid hcl
                  have HOK2 := Lib.hid hok
                  have HV2 := Lib.hid hv
                  have hk20 : (0 : Int) ≤ k2 := by omega
                  clear hcells hcl hok hv hA2
                  generalize hC : Wdn.cells v2 = CV at *
                  have HCV := Lib.hid hC
                  clear hC
                  have HFW : Hid (Fr [] w wr) := Lib.hid (HF0.out.and HN8.out.2.1 (by simp))
                  go_wp2_with (first | (refine wpList_cells rfl 83 _ rfl _ rfl CV HCELLS.out (row_deny.of HCLN.out) ?_))
                  refine (refputDeny_any v2 HOK2.out CV HCV.out wr).mono ?_
                  rintro e w2 ⟨A5, c5, rfl, hN5⟩
                  have hfl : (Wdn.full v2).length ≤ 100 := Wdn.full_len HOK2.out
                  obtain ⟨F, hF⟩ : ∃ F, F = Wdn.full v2 := ⟨_, rfl⟩
                  rw [show v2.full = F from hF.symm] at hN5 ⊢
                  rw [← hF] at hfl
                  have HFF := Lib.hid hF
                  have HFL := Lib.hid hfl
                  have HY := Lib.hid hN5.by
                  have HNB := Lib.hid (HN8.out.nxt hN5.2.1)
                  clear hN5 HN8 hF hfl
                  go_wp2_with (at_builtin; refine Stop.mk ?_)
                  refine Stop.go ?_
                  refine wpList_append_bytes _ rfl _ _ _ rfl 5 Try.underlying42 info_u8 (.slice A8 L8.length c8) L8.length L8 rfl HNB.out.1 A5 F.length c5 F rfl HY.out (by have := HB8.out; have := HFL.out; omega) ?_
                  intro A6 c6 w6 ho6 hg6 hat6
                  have hN6 := NewB.grow HNB.out.2.1 HNB.out.2.2 ho6 hg6 hat6
                  have hl6 : (L8 ++ F).length = L8.length + F.length := List.length_append
                  have hE6 : L8 ++ F = Y ++ (v.l.take (k2 + 1)).flatMap Wdn.full := by rw [flat_snoc HV2.out, HE8.out, HFF.out, List.append_assoc]
                  have hB6 : (L8 ++ F).length ≤ 17000 + 100 * (k2 + 1) := by have := HB8.out; have := HFL.out; rw [hl6]; omega
                  rw [← hl6] at hN6 ⊢
                  generalize L8 ++ F = L6 at *
                  have HN6 := Lib.hid hN6
                  have HE6 := Lib.hid hE6
                  have HB6 := Lib.hid hB6
                  clear ho6 hg6 hat6 hN6 hl6 hE6 hB6 hc1 hc
                  go_wp2
                  go_roundw
                  case rel => exact ⟨k2 + 1, A6, c6, L6, by omega, by go_num, rfl, HE6, HB6, HN6⟩
                  case measure => simp [intOf]; omega
                · have hkn : k2 = v.n := by omega
                  have HE2 : Hid (L8 = Y ++ v.l.flatMap Wdn.full) := Lib.hid (by have h := HE8.out; rwa [hkn, List.take_of_length_le (by rw [HOK.out.l.1]; exact Nat.le_refl _)] at h)
                  have hd : decide (k2 < v.n) = false := by simp; omega
                  have HB2 : Hid (L8.length ≤ 17000 + 100 * v.n) := Lib.hid (by have := HB8.out; rw [hkn] at this; exact this)
                  clear hkn hlt2 HE8 HB8
                  have hfull : L8 = L ++ v.full := by rw [HE2.out, HYT.out]; simp [Wtb.full, listL, List.append_assoc]
                  have hE9 : L8 = X3 ++ (x.l3.take (k + 1)).flatMap Wtb.full := by rw [hfull, flat_snoc HV.out, HE.out, List.append_assoc]
                  have hB9 : L8.length ≤ 14000 + 520 * (k + 1) := by have h1 := congrArg List.length hfull; have h2 := Wtb.full_len HOK.out; have h3 := HB.out; rw [List.length_append] at h1; omega
                  have HE9 := Lib.hid hE9
                  have HB9 := Lib.hid hB9
                  clear hfull hE9 hB9 hc1 hc
                  go_wp2
                  go_roundw
                  case rel => exact ⟨k + 1, A8, c8, L8, by omega, by go_num, rfl, HE9, HB9, HN8⟩
                  case measure => simp [intOf]; omega
            · have hkn : k = x.n3 := by omega
              have HE2 : Hid (L = X3 ++ x.l3.flatMap Wtb.full) := Lib.hid (by have h := HE.out; rwa [hkn, List.take_of_length_le (by rw [HX.out.l3.1]; exact Nat.le_refl _)] at h)
              have hd : decide (k < x.n3) = false := by simp; omega
              clear hkn hlt HE HB
              go_wp2
              go_ret
              have hfin : x.full = L := by rw [HE2.out, HXT51.out, HXT41.out, HXT.out]; simp [Wba.full, listL, List.append_assoc]
              rw [hfin]
              exact ⟨A4, c4, rfl, HN.out.from2 HF0.out⟩
end Go.Proofs.Ytkofmefnlppoaaa

namespace Go.Proofs.Ytkofmefnlppoaaa
open Go.ChangeShapes Go.WideShapes Go.ChangeAt Go.RowKit
set_option maxRecDepth 100000

theorem i64In_of {z : Int} (h : (Lit.int .i64 z).wf = true) : i64In z := i64_of h
theorem name_open {H : Type} {enc : TypeId × Value → H} {W : World} {r : Reach} {base b0 : Nat} {v : Value} {d : DataW H} {p : List MemPlace} {sp : Nat → Bool} {held : Bool} (hv : Value.okWide Try.prog W r base 23 v) (h : DataW.Trod enc Try.prog W b0 sp held 23 v d p) (hb : b0 = 0) :
    ∃ c s : Int, i64In c ∧ i64In s ∧ v = .agg #[.int .i64 c, .int .i64 s] := by
  subst hb
  unfold Value.okWide at hv
  rw [Try.underlying23] at hv
  obtain ⟨cs, rfl, -⟩ := hv
  obtain ⟨fuel, hf⟩ := h
  obtain ⟨xs, m, _, _, hlen, hxl, hat⟩ := DataW.trod_struct Try.underlying23 (show DataW.trod enc Try.prog W 0 sp held fuel 23 cs.toList = some (d, p) from hf)
  rw [show Try.prog.cellsOf 23 = 2 by kernel_rfl] at hlen
  have c1 : Try.prog.cellsOf 3 = 1 := by kernel_rfl
  have hx : ∀ i (hi : i < 2), xs[i]? = some (xs[i]'(by rw [hxl]; exact hi)) := fun i hi => List.getElem?_eq_getElem _
  have f0 : DataW.trod enc Try.prog W 0 sp held m 3 ((cs.toList.drop 0).take (Try.prog.cellsOf 3)) = _ := (hat 0 _ rfl).trans (hx 0 (by omega))
  have f1 : DataW.trod enc Try.prog W 0 sp held m 3 ((cs.toList.drop 1).take (Try.prog.cellsOf 3)) = _ := (hat 1 _ rfl).trans (hx 1 (by omega))
  rw [c1] at f0 f1
  obtain ⟨c, e0, _, w0⟩ := DataW.trod_int Try.underlying3 f0
  obtain ⟨s, e1, _, w1⟩ := DataW.trod_int Try.underlying3 f1
  have hcs : cs.toList = [.int .i64 c, .int .i64 s] := by
    match hL : cs.toList, hlen with
    | [x, y], _ =>
      rw [hL] at e0 e1
      simp at e0 e1
      rw [e0, e1]
  refine ⟨c, s, i64In_of w0, i64In_of w1, ?_⟩
  rw [← Array.toArray_toList (xs := cs), hcs]
theorem conf_open {H : Type} {enc : TypeId × Value → H} {W : World} {r : Reach} {base b0 : Nat} {v : Value} {d : DataW H} {p : List MemPlace} {sp : Nat → Bool} {held : Bool} (hv : Value.okWide Try.prog W r base 122 v) (h : DataW.Trod enc Try.prog W b0 sp held 122 v d p) (hb : b0 = 0) :
    ∃ c s : Int, i64In c ∧ i64In s ∧ v = .agg #[.int .i64 c, .int .i64 s] := by
  subst hb
  unfold Value.okWide at hv
  rw [Try.underlying122] at hv
  obtain ⟨cs, rfl, -⟩ := hv
  obtain ⟨fuel, hf⟩ := h
  obtain ⟨xs, m, _, _, hlen, hxl, hat⟩ := DataW.trod_struct Try.underlying122 (show DataW.trod enc Try.prog W 0 sp held fuel 122 cs.toList = some (d, p) from hf)
  rw [show Try.prog.cellsOf 122 = 2 by kernel_rfl] at hlen
  have c1 : Try.prog.cellsOf 3 = 1 := by kernel_rfl
  have hx : ∀ i (hi : i < 2), xs[i]? = some (xs[i]'(by rw [hxl]; exact hi)) := fun i hi => List.getElem?_eq_getElem _
  have f0 : DataW.trod enc Try.prog W 0 sp held m 3 ((cs.toList.drop 0).take (Try.prog.cellsOf 3)) = _ := (hat 0 _ rfl).trans (hx 0 (by omega))
  have f1 : DataW.trod enc Try.prog W 0 sp held m 3 ((cs.toList.drop 1).take (Try.prog.cellsOf 3)) = _ := (hat 1 _ rfl).trans (hx 1 (by omega))
  rw [c1] at f0 f1
  obtain ⟨c, e0, _, w0⟩ := DataW.trod_int Try.underlying3 f0
  obtain ⟨s, e1, _, w1⟩ := DataW.trod_int Try.underlying3 f1
  have hcs : cs.toList = [.int .i64 c, .int .i64 s] := by
    match hL : cs.toList, hlen with
    | [x, y], _ =>
      rw [hL] at e0 e1
      simp at e0 e1
      rw [e0, e1]
  refine ⟨c, s, i64In_of w0, i64In_of w1, ?_⟩
  rw [← Array.toArray_toList (xs := cs), hcs]
end Go.Proofs.Ytkofmefnlppoaaa

namespace Go.Proofs.Ytkofmefnlppoaaa
open Go.ChangeShapes Go.WideShapes Go.ChangeAt Go.RowKit
set_option maxRecDepth 100000
theorem pair_of_trod {H : Type} {enc : TypeId × Value → H} {W : World} {sp : Nat → Bool} {held : Bool} {ty : TypeId} {x y : Field} (hu : Try.prog.underlying ty = some (.struct #[x, y])) (hx : x.type = 3 ∧ x.offset = 0) (hy : y.type = 3 ∧ y.offset = 1) (hc2 : Try.prog.cellsOf ty = 2)
    {fuel : Nat} {cs : List Value} {r : DataW H × List MemPlace} (h : DataW.trod enc Try.prog W 0 sp held fuel ty cs = some r) : ∃ c s : Int, i64In c ∧ i64In s ∧ cs = [.int .i64 c, .int .i64 s] := by
  obtain ⟨xs, m, _, _, hlen, hxl, hat⟩ := DataW.trod_struct hu h
  rw [hc2] at hlen
  have c1 : Try.prog.cellsOf 3 = 1 := by kernel_rfl
  have hx2 : ∀ i (hi : i < 2), xs[i]? = some (xs[i]'(by rw [hxl]; exact hi)) := fun i hi => List.getElem?_eq_getElem _
  have f0 : DataW.trod enc Try.prog W 0 sp held m x.type ((cs.drop x.offset).take (Try.prog.cellsOf x.type)) = _ := (hat 0 _ rfl).trans (hx2 0 (by omega))
  have f1 : DataW.trod enc Try.prog W 0 sp held m y.type ((cs.drop y.offset).take (Try.prog.cellsOf y.type)) = _ := (hat 1 _ rfl).trans (hx2 1 (by omega))
  rw [hx.1, hx.2, c1] at f0
  rw [hy.1, hy.2, c1] at f1
  obtain ⟨c, e0, _, w0⟩ := DataW.trod_int Try.underlying3 f0
  obtain ⟨s, e1, _, w1⟩ := DataW.trod_int Try.underlying3 f1
  refine ⟨c, s, i64In_of w0, i64In_of w1, ?_⟩
  match hL : cs, hlen with
  | [x, y], _ =>
    simp at e0 e1
    rw [e0, e1]
theorem commit_open {H : Type} {enc : TypeId × Value → H} {W : World} {r : Reach} {base b0 : Nat} {v : Value} {d : DataW H} {p : List MemPlace} {sp : Nat → Bool} {held : Bool} (hv : Value.okWide Try.prog W r base 29 v) (h : DataW.Trod enc Try.prog W b0 sp held 29 v d p) (hb : b0 = 0) :
    ∃ x : Cm, x.Ok ∧ v = x.val := by
  subst hb
  unfold Value.okWide at hv
  rw [Try.underlying29] at hv
  obtain ⟨cs, rfl, -⟩ := hv
  obtain ⟨fuel, hf⟩ := h
  obtain ⟨xs, m, _, _, hlen, hxl, hat⟩ := DataW.trod_struct Try.underlying29 (show DataW.trod enc Try.prog W 0 sp held fuel 29 cs.toList = some (d, p) from hf)
  rw [show Try.prog.cellsOf 29 = 37 by kernel_rfl] at hlen
  have c1 : Try.prog.cellsOf 3 = 1 := by kernel_rfl
  have c2 : Try.prog.cellsOf 23 = 2 := by kernel_rfl
  have c3 : Try.prog.cellsOf 25 = 32 := by kernel_rfl
  have c4 : Try.prog.cellsOf 27 = 2 := by kernel_rfl
  have hx : ∀ i (hi : i < 4), xs[i]? = some (xs[i]'(by rw [hxl]; exact hi)) := fun i hi => List.getElem?_eq_getElem _
  have f0 : DataW.trod enc Try.prog W 0 sp held m 23 ((cs.toList.drop 0).take (Try.prog.cellsOf 23)) = _ := (hat 0 _ rfl).trans (hx 0 (by omega))
  have f1 : DataW.trod enc Try.prog W 0 sp held m 25 ((cs.toList.drop 2).take (Try.prog.cellsOf 25)) = _ := (hat 1 _ rfl).trans (hx 1 (by omega))
  have f2 : DataW.trod enc Try.prog W 0 sp held m 3 ((cs.toList.drop 34).take (Try.prog.cellsOf 3)) = _ := (hat 2 _ rfl).trans (hx 2 (by omega))
  have f3 : DataW.trod enc Try.prog W 0 sp held m 27 ((cs.toList.drop 35).take (Try.prog.cellsOf 27)) = _ := (hat 3 _ rfl).trans (hx 3 (by omega))
  rw [c2] at f0
  rw [c3] at f1
  rw [c1] at f2
  rw [c4] at f3
  obtain ⟨c, s, hc, hs, e0⟩ := pair_of_trod Try.underlying23 ⟨rfl, rfl⟩ ⟨rfl, rfl⟩ c2 f0
  obtain ⟨hh, hl, e1⟩ := hash_of_trod f1
  obtain ⟨n, e2, _, w2⟩ := DataW.trod_int Try.underlying3 f2
  obtain ⟨b, m', hb, hm, e3⟩ := pair_of_trod Try.underlying27 ⟨rfl, rfl⟩ ⟨rfl, rfl⟩ c4 f3
  refine ⟨⟨c, s, hh, n, b, m'⟩, ⟨hc, hs, hl, i64In_of w2, hb, hm⟩, ?_⟩
  have key : cs.toList = Cm.cells ⟨c, s, hh, n, b, m'⟩ := by
    have d0 : cs.toList = cs.toList.take 2 ++ ((cs.toList.drop 2).take 32 ++ ((cs.toList.drop 34).take 1 ++ (cs.toList.drop 35).take 2)) := by
      have t3 : (cs.toList.drop 35).take 2 = cs.toList.drop 35 := List.take_of_length_le (by rw [List.length_drop, hlen]; omega)
      have s1 : (cs.toList.drop 34).take 1 ++ cs.toList.drop 35 = cs.toList.drop 34 := by
        have := List.take_append_drop 1 (cs.toList.drop 34)
        rwa [List.drop_drop] at this
      have s2 : (cs.toList.drop 2).take 32 ++ cs.toList.drop 34 = cs.toList.drop 2 := by
        have := List.take_append_drop 32 (cs.toList.drop 2)
        rwa [List.drop_drop] at this
      rw [t3, s1, s2, List.take_append_drop]
    rw [d0, e1, e2, e3, show cs.toList.take 2 = (cs.toList.drop 0).take 2 by rw [List.drop_zero], e0]
    rfl
  show Value.agg cs = Value.agg _
  rw [← key, Array.toArray_toList]
end Go.Proofs.Ytkofmefnlppoaaa

namespace Go.Proofs.Ytkofmefnlppoaaa
open Go.ChangeShapes Go.WideShapes Go.ChangeAt Go.RowKit
set_option maxRecDepth 100000
theorem cut_at {α : Type} (l : List α) (o n k : Nat) (hk : o + n = k) : l.drop o = (l.drop o).take n ++ l.drop k := by
  subst hk
  rw [← List.drop_drop, List.take_append_drop]
theorem stamp_open {H : Type} {enc : TypeId × Value → H} {W : World} {r : Reach} {base b0 : Nat} {v : Value} {d : DataW H} {p : List MemPlace} {sp : Nat → Bool} {held : Bool} (hv : Value.okWide Try.prog W r base 71 v) (h : DataW.Trod enc Try.prog W b0 sp held 71 v d p) (hb : b0 = 0) :
    ∃ x : Wst, x.Ok ∧ v = x.val := by
  subst hb
  unfold Value.okWide at hv
  rw [Try.underlying71] at hv
  obtain ⟨cs, rfl, -⟩ := hv
  obtain ⟨fuel, hf⟩ := h
  obtain ⟨xs, m, _, _, hlen, hxl, hat⟩ := DataW.trod_struct Try.underlying71 (show DataW.trod enc Try.prog W 0 sp held fuel 71 cs.toList = some (d, p) from hf)
  rw [show Try.prog.cellsOf 71 = 38 by kernel_rfl] at hlen
  have hx : ∀ i (hi : i < 5), xs[i]? = some (xs[i]'(by rw [hxl]; exact hi)) := fun i hi => List.getElem?_eq_getElem _
  have f0 : DataW.trod enc Try.prog W 0 sp held m 3 ((cs.toList.drop 0).take (Try.prog.cellsOf 3)) = _ := (hat 0 _ rfl).trans (hx 0 (by omega))
  rw [show Try.prog.cellsOf 3 = 1 by kernel_rfl] at f0
  obtain ⟨r, e0, _, w0⟩ := DataW.trod_int Try.underlying3 f0
  have f1 : DataW.trod enc Try.prog W 0 sp held m 23 ((cs.toList.drop 1).take (Try.prog.cellsOf 23)) = _ := (hat 1 _ rfl).trans (hx 1 (by omega))
  rw [show Try.prog.cellsOf 23 = 2 by kernel_rfl] at f1
  obtain ⟨c, s, w1, w1', e1⟩ := pair_of_trod Try.underlying23 ⟨rfl, rfl⟩ ⟨rfl, rfl⟩ (by kernel_rfl) f1
  have f2 : DataW.trod enc Try.prog W 0 sp held m 25 ((cs.toList.drop 3).take (Try.prog.cellsOf 25)) = _ := (hat 2 _ rfl).trans (hx 2 (by omega))
  rw [show Try.prog.cellsOf 25 = 32 by kernel_rfl] at f2
  obtain ⟨hh, w2, e2⟩ := hash_of_trod f2
  have f3 : DataW.trod enc Try.prog W 0 sp held m 33 ((cs.toList.drop 35).take (Try.prog.cellsOf 33)) = _ := (hat 3 _ rfl).trans (hx 3 (by omega))
  rw [show Try.prog.cellsOf 33 = 1 by kernel_rfl] at f3
  obtain ⟨u3, e3, _, w3⟩ := DataW.trod_int Try.underlying33 f3
  obtain ⟨t, rfl, b3⟩ := u64_of w3
  have f4 : DataW.trod enc Try.prog W 0 sp held m 27 ((cs.toList.drop 36).take (Try.prog.cellsOf 27)) = _ := (hat 4 _ rfl).trans (hx 4 (by omega))
  rw [show Try.prog.cellsOf 27 = 2 by kernel_rfl] at f4
  obtain ⟨b, mm, w4, w4', e4⟩ := pair_of_trod Try.underlying27 ⟨rfl, rfl⟩ ⟨rfl, rfl⟩ (by kernel_rfl) f4
  refine ⟨⟨r, c, s, hh, t, b, mm⟩, ⟨i64In_of w0, w1, w1', w2, b3, w4, w4'⟩, ?_⟩
  have key : cs.toList = Wst.cells ⟨r, c, s, hh, t, b, mm⟩ := by
    have z : cs.toList.drop 38 = [] := List.drop_eq_nil_of_le (by omega)
    have s0 : cs.toList = cs.toList.drop 0 := rfl
    rw [s0, cut_at cs.toList 0 1 1 rfl, e0, cut_at cs.toList 1 2 3 rfl, e1, cut_at cs.toList 3 32 35 rfl, e2, cut_at cs.toList 35 1 36 rfl, e3, cut_at cs.toList 36 2 38 rfl, e4, z]
    simp [Wst.cells]
  show Value.agg cs = Value.agg _
  rw [← key, Array.toArray_toList]
theorem ack_open {H : Type} {enc : TypeId × Value → H} {W : World} {r : Reach} {base b0 : Nat} {v : Value} {d : DataW H} {p : List MemPlace} {sp : Nat → Bool} {held : Bool} (hv : Value.okWide Try.prog W r base 73 v) (h : DataW.Trod enc Try.prog W b0 sp held 73 v d p) (hb : b0 = 0) :
    ∃ x : Wst, x.Ok ∧ v = x.val := by
  subst hb
  unfold Value.okWide at hv
  rw [Try.underlying73] at hv
  obtain ⟨cs, rfl, -⟩ := hv
  obtain ⟨fuel, hf⟩ := h
  obtain ⟨xs, m, _, _, hlen, hxl, hat⟩ := DataW.trod_struct Try.underlying73 (show DataW.trod enc Try.prog W 0 sp held fuel 73 cs.toList = some (d, p) from hf)
  rw [show Try.prog.cellsOf 73 = 38 by kernel_rfl] at hlen
  have hx : ∀ i (hi : i < 5), xs[i]? = some (xs[i]'(by rw [hxl]; exact hi)) := fun i hi => List.getElem?_eq_getElem _
  have f0 : DataW.trod enc Try.prog W 0 sp held m 3 ((cs.toList.drop 0).take (Try.prog.cellsOf 3)) = _ := (hat 0 _ rfl).trans (hx 0 (by omega))
  rw [show Try.prog.cellsOf 3 = 1 by kernel_rfl] at f0
  obtain ⟨r, e0, _, w0⟩ := DataW.trod_int Try.underlying3 f0
  have f1 : DataW.trod enc Try.prog W 0 sp held m 23 ((cs.toList.drop 1).take (Try.prog.cellsOf 23)) = _ := (hat 1 _ rfl).trans (hx 1 (by omega))
  rw [show Try.prog.cellsOf 23 = 2 by kernel_rfl] at f1
  obtain ⟨c, s, w1, w1', e1⟩ := pair_of_trod Try.underlying23 ⟨rfl, rfl⟩ ⟨rfl, rfl⟩ (by kernel_rfl) f1
  have f2 : DataW.trod enc Try.prog W 0 sp held m 25 ((cs.toList.drop 3).take (Try.prog.cellsOf 25)) = _ := (hat 2 _ rfl).trans (hx 2 (by omega))
  rw [show Try.prog.cellsOf 25 = 32 by kernel_rfl] at f2
  obtain ⟨hh, w2, e2⟩ := hash_of_trod f2
  have f3 : DataW.trod enc Try.prog W 0 sp held m 33 ((cs.toList.drop 35).take (Try.prog.cellsOf 33)) = _ := (hat 3 _ rfl).trans (hx 3 (by omega))
  rw [show Try.prog.cellsOf 33 = 1 by kernel_rfl] at f3
  obtain ⟨u3, e3, _, w3⟩ := DataW.trod_int Try.underlying33 f3
  obtain ⟨t, rfl, b3⟩ := u64_of w3
  have f4 : DataW.trod enc Try.prog W 0 sp held m 27 ((cs.toList.drop 36).take (Try.prog.cellsOf 27)) = _ := (hat 4 _ rfl).trans (hx 4 (by omega))
  rw [show Try.prog.cellsOf 27 = 2 by kernel_rfl] at f4
  obtain ⟨b, mm, w4, w4', e4⟩ := pair_of_trod Try.underlying27 ⟨rfl, rfl⟩ ⟨rfl, rfl⟩ (by kernel_rfl) f4
  refine ⟨⟨r, c, s, hh, t, b, mm⟩, ⟨i64In_of w0, w1, w1', w2, b3, w4, w4'⟩, ?_⟩
  have key : cs.toList = Wst.cells ⟨r, c, s, hh, t, b, mm⟩ := by
    have z : cs.toList.drop 38 = [] := List.drop_eq_nil_of_le (by omega)
    have s0 : cs.toList = cs.toList.drop 0 := rfl
    rw [s0, cut_at cs.toList 0 1 1 rfl, e0, cut_at cs.toList 1 2 3 rfl, e1, cut_at cs.toList 3 32 35 rfl, e2, cut_at cs.toList 35 1 36 rfl, e3, cut_at cs.toList 36 2 38 rfl, e4, z]
    simp [Wst.cells]
  show Value.agg cs = Value.agg _
  rw [← key, Array.toArray_toList]
theorem vote_open {H : Type} {enc : TypeId × Value → H} {W : World} {r : Reach} {base b0 : Nat} {v : Value} {d : DataW H} {p : List MemPlace} {sp : Nat → Bool} {held : Bool} (hv : Value.okWide Try.prog W r base 77 v) (h : DataW.Trod enc Try.prog W b0 sp held 77 v d p) (hb : b0 = 0) :
    ∃ x : Wvt, x.Ok ∧ v = x.val := by
  subst hb
  unfold Value.okWide at hv
  rw [Try.underlying77] at hv
  obtain ⟨cs, rfl, -⟩ := hv
  obtain ⟨fuel, hf⟩ := h
  obtain ⟨xs, m, _, _, hlen, hxl, hat⟩ := DataW.trod_struct Try.underlying77 (show DataW.trod enc Try.prog W 0 sp held fuel 77 cs.toList = some (d, p) from hf)
  rw [show Try.prog.cellsOf 77 = 38 by kernel_rfl] at hlen
  have hx : ∀ i (hi : i < 6), xs[i]? = some (xs[i]'(by rw [hxl]; exact hi)) := fun i hi => List.getElem?_eq_getElem _
  have f0 : DataW.trod enc Try.prog W 0 sp held m 3 ((cs.toList.drop 0).take (Try.prog.cellsOf 3)) = _ := (hat 0 _ rfl).trans (hx 0 (by omega))
  rw [show Try.prog.cellsOf 3 = 1 by kernel_rfl] at f0
  obtain ⟨k, e0, _, w0⟩ := DataW.trod_int Try.underlying3 f0
  have f1 : DataW.trod enc Try.prog W 0 sp held m 3 ((cs.toList.drop 1).take (Try.prog.cellsOf 3)) = _ := (hat 1 _ rfl).trans (hx 1 (by omega))
  rw [show Try.prog.cellsOf 3 = 1 by kernel_rfl] at f1
  obtain ⟨e, e1, _, w1⟩ := DataW.trod_int Try.underlying3 f1
  have f2 : DataW.trod enc Try.prog W 0 sp held m 3 ((cs.toList.drop 2).take (Try.prog.cellsOf 3)) = _ := (hat 2 _ rfl).trans (hx 2 (by omega))
  rw [show Try.prog.cellsOf 3 = 1 by kernel_rfl] at f2
  obtain ⟨rr, e2, _, w2⟩ := DataW.trod_int Try.underlying3 f2
  have f3 : DataW.trod enc Try.prog W 0 sp held m 3 ((cs.toList.drop 3).take (Try.prog.cellsOf 3)) = _ := (hat 3 _ rfl).trans (hx 3 (by omega))
  rw [show Try.prog.cellsOf 3 = 1 by kernel_rfl] at f3
  obtain ⟨pp, e3, _, w3⟩ := DataW.trod_int Try.underlying3 f3
  have f4 : DataW.trod enc Try.prog W 0 sp held m 25 ((cs.toList.drop 4).take (Try.prog.cellsOf 25)) = _ := (hat 4 _ rfl).trans (hx 4 (by omega))
  rw [show Try.prog.cellsOf 25 = 32 by kernel_rfl] at f4
  obtain ⟨hh, w4, e4⟩ := hash_of_trod f4
  have f5 : DataW.trod enc Try.prog W 0 sp held m 27 ((cs.toList.drop 36).take (Try.prog.cellsOf 27)) = _ := (hat 5 _ rfl).trans (hx 5 (by omega))
  rw [show Try.prog.cellsOf 27 = 2 by kernel_rfl] at f5
  obtain ⟨b, mm, w5, w5', e5⟩ := pair_of_trod Try.underlying27 ⟨rfl, rfl⟩ ⟨rfl, rfl⟩ (by kernel_rfl) f5
  refine ⟨⟨k, e, rr, pp, hh, b, mm⟩, ⟨i64In_of w0, i64In_of w1, i64In_of w2, i64In_of w3, w4, w5, w5'⟩, ?_⟩
  have key : cs.toList = Wvt.cells ⟨k, e, rr, pp, hh, b, mm⟩ := by
    have z : cs.toList.drop 38 = [] := List.drop_eq_nil_of_le (by omega)
    have s0 : cs.toList = cs.toList.drop 0 := rfl
    rw [s0, cut_at cs.toList 0 1 1 rfl, e0, cut_at cs.toList 1 1 2 rfl, e1, cut_at cs.toList 2 1 3 rfl, e2, cut_at cs.toList 3 1 4 rfl, e3, cut_at cs.toList 4 32 36 rfl, e4, cut_at cs.toList 36 2 38 rfl, e5, z]
    simp [Wvt.cells]
  show Value.agg cs = Value.agg _
  rw [← key, Array.toArray_toList]
theorem deny_open {H : Type} {enc : TypeId × Value → H} {W : World} {r : Reach} {base b0 : Nat} {v : Value} {d : DataW H} {p : List MemPlace} {sp : Nat → Bool} {held : Bool} (hv : Value.okWide Try.prog W r base 83 v) (h : DataW.Trod enc Try.prog W b0 sp held 83 v d p) (hb : b0 = 0) :
    ∃ x : Wdn, x.Ok ∧ v = x.val := by
  subst hb
  unfold Value.okWide at hv
  rw [Try.underlying83] at hv
  obtain ⟨cs, rfl, -⟩ := hv
  obtain ⟨fuel, hf⟩ := h
  obtain ⟨xs, m, _, _, hlen, hxl, hat⟩ := DataW.trod_struct Try.underlying83 (show DataW.trod enc Try.prog W 0 sp held fuel 83 cs.toList = some (d, p) from hf)
  rw [show Try.prog.cellsOf 83 = 4 by kernel_rfl] at hlen
  have hx : ∀ i (hi : i < 3), xs[i]? = some (xs[i]'(by rw [hxl]; exact hi)) := fun i hi => List.getElem?_eq_getElem _
  have f0 : DataW.trod enc Try.prog W 0 sp held m 3 ((cs.toList.drop 0).take (Try.prog.cellsOf 3)) = _ := (hat 0 _ rfl).trans (hx 0 (by omega))
  rw [show Try.prog.cellsOf 3 = 1 by kernel_rfl] at f0
  obtain ⟨r, e0, _, w0⟩ := DataW.trod_int Try.underlying3 f0
  have f1 : DataW.trod enc Try.prog W 0 sp held m 3 ((cs.toList.drop 1).take (Try.prog.cellsOf 3)) = _ := (hat 1 _ rfl).trans (hx 1 (by omega))
  rw [show Try.prog.cellsOf 3 = 1 by kernel_rfl] at f1
  obtain ⟨i, e1, _, w1⟩ := DataW.trod_int Try.underlying3 f1
  have f2 : DataW.trod enc Try.prog W 0 sp held m 27 ((cs.toList.drop 2).take (Try.prog.cellsOf 27)) = _ := (hat 2 _ rfl).trans (hx 2 (by omega))
  rw [show Try.prog.cellsOf 27 = 2 by kernel_rfl] at f2
  obtain ⟨b, mm, w2, w2', e2⟩ := pair_of_trod Try.underlying27 ⟨rfl, rfl⟩ ⟨rfl, rfl⟩ (by kernel_rfl) f2
  refine ⟨⟨r, i, b, mm⟩, ⟨i64In_of w0, i64In_of w1, w2, w2'⟩, ?_⟩
  have key : cs.toList = Wdn.cells ⟨r, i, b, mm⟩ := by
    have z : cs.toList.drop 4 = [] := List.drop_eq_nil_of_le (by omega)
    have s0 : cs.toList = cs.toList.drop 0 := rfl
    rw [s0, cut_at cs.toList 0 1 1 rfl, e0, cut_at cs.toList 1 1 2 rfl, e1, cut_at cs.toList 2 2 4 rfl, e2, z]
    simp [Wdn.cells]
  show Value.agg cs = Value.agg _
  rw [← key, Array.toArray_toList]
end Go.Proofs.Ytkofmefnlppoaaa

namespace Go.Proofs.Ytkofmefnlppoaaa
open Go.RowKit
set_option maxRecDepth 100000

/-- a list in new memory that the call owns -/
def NewL {α : Type} (e : TypeId) (k : Nat) (cells : α → List Value) (w w' : World) (A : Option Addr) (n c : Nat) (l : List α) : Prop :=
  w'.ownsRow 0 e k (.slice A n c) n (l.flatMap cells) ∧ Fr [] w w' ∧ ∀ x ∈ bk A, w.heap.size ≤ x
theorem cells_one {α : Type} {cells : α → List Value} (hone : ∀ v, ∀ u ∈ cells v, u.oneCell' = true) (l : List α) : ∀ u ∈ l.flatMap cells, u.oneCell' = true := by
  intro u hu
  obtain ⟨v, _, hv⟩ := List.mem_flatMap.1 hu
  exact hone v u hv
theorem cells_flat_len {α : Type} {cells : α → List Value} {k : Nat} : ∀ {l : List α}, (∀ v ∈ l, (cells v).length = k) → (l.flatMap cells).length = l.length * k
  | [], _ => by simp
  | v :: l, h => by
    rw [List.flatMap_cons, List.length_append, h v (by simp), cells_flat_len (fun u hu => h u (by simp [hu])), List.length_cons, Nat.succ_mul]
    omega
theorem flat_back {α : Type} {cells : α → List Value} {k : Nat} (hk0 : 0 < k) : ∀ {l : List α}, (∀ v ∈ l, (cells v).length = k) → ∀ {j : Nat} {u : Value}, (l.flatMap cells)[j]? = some u → ∃ v, l[j / k]? = some v ∧ (cells v)[j % k]? = some u
  | [], _, j, u, hj => by simp at hj
  | v :: l, h, j, u, hj => by
    have hv := h v (by simp)
    rw [List.flatMap_cons] at hj
    by_cases hlt : j < k
    · rw [List.getElem?_append_left (by omega)] at hj
      exact ⟨v, by rw [Nat.div_eq_of_lt hlt]; rfl, by rw [Nat.mod_eq_of_lt hlt]; exact hj⟩
    · rw [List.getElem?_append_right (by omega), hv] at hj
      obtain ⟨v', h1, h2⟩ := flat_back hk0 (fun u hu => h u (by simp [hu])) hj
      refine ⟨v', ?_, by rw [Nat.mod_eq_sub_mod (show j ≥ k by omega)]; exact h2⟩
      rw [Nat.div_eq_sub_div hk0 (show k ≤ j by omega), List.getElem?_cons_succ]
      exact h1
theorem Lst.flat {α : Type} {k : Nat} {cells : α → List Value} {ok : World → α → Prop} {w : World} {ad : Addr} {n : Nat} {l : List α} (h : Lst k cells ok w (some ad) n l) (hk : 0 < k) : ∀ j u, (l.flatMap cells)[j]? = some u → w.cell? (ad.add j) = some u := by
  intro j u hj
  obtain ⟨v, h1, h2⟩ := flat_back hk (fun v hv => (h.2.1 v hv).1) hj
  have hn : 0 < n := by
    have h3 := (List.getElem?_eq_some_iff.1 h1).1
    rw [h.1] at h3
    exact Nat.lt_of_le_of_lt (Nat.zero_le _) h3
  obtain ⟨ad', e, hc⟩ := h.2.2 hn
  injection e with e
  subst e
  have := hc _ _ h1 _ _ h2
  rwa [Nat.div_add_mod' j k] at this
section
variable {P : Program} (w : World)
theorem run_append_lst {α : Type} {cells : α → List Value} {ok : World → α → Prop} (hone : ∀ v, ∀ u ∈ cells v, u.oneCell' = true) (t ty e : TypeId) (k bytes : Nat) (ht : P.underlying t = some (.slice e)) (he : ElTy P e k bytes) (hk : 0 < k) (hby : bytes ≤ 1000)
    (A : Option Addr) (m c : Nat) (l : List α) (hr : Lst k cells ok w A m l) (hm : m ≤ 1000000) :
    ∃ A' c' w', (Builtin.append_ #[t, t] ty #[.slice none 0 0, .slice A m c]).run P w = .ok (.slice A' m c') w' ∧ NewL e k cells w w' A' m c' l := by
  obtain ⟨i, z, hi, hz, hzs, hsz, hbs⟩ := he
  have hnil : w.ownsRow 0 e k (.slice none 0 0) 0 [] := ⟨by simp, .inl ⟨rfl, rfl⟩⟩
  suffices h : ∃ v' w', (Builtin.append_ #[t, t] ty #[.slice none 0 0, .slice A m c]).run P w = .ok v' w' ∧ w'.ownsRow 0 e k v' m (l.flatMap cells) ∧ w.grownBy w' none ∧ (v'.ownBlock = none ∨ v'.ownBlock = some w.heap.size) by
    obtain ⟨v', w', h1, h2, h3, h4⟩ := h
    obtain ⟨A', c', rfl⟩ := own_form h2
    refine ⟨A', c', w', h1, h2, (Fr.refl [] w).grown h3 (by simp), fun x hx => ?_⟩
    rw [← bk_own A' m c'] at hx
    rcases h4 with h4 | h4 <;> rw [h4] at hx <;> simp at hx <;> omega
  rcases A with _ | ad
  · have hm0 : m = 0 := by
      rcases Nat.eq_zero_or_pos m with h0 | h0
      · exact h0
      · obtain ⟨ad, h, _⟩ := hr.2.2 h0
        cases h
    subst hm0
    have hn : l = [] := List.eq_nil_of_length_eq_zero hr.1
    subst hn
    exact ⟨_, w, run_append_nothing w 0 t ty e i k ht hi _ 0 [] hnil c, by simpa using hnil, World.grownBy.refl w _, .inl rfl⟩
  · obtain ⟨v', w', hrun, h2, h3, _, h5⟩ := run_append_own_at (P := P) w 0 t ty e i z k bytes ht hi hz hsz hbs hzs hk _ 0 [] hnil ad m c (l.flatMap cells)
      (by rw [cells_flat_len (fun v hv => (hr.2.1 v hv).1), hr.1]) (hr.flat hk) (cells_one hone l) (by simp only [maxLen]; omega)
      (Nat.le_trans (Nat.mul_le_mul (show 0 + m ≤ 1000000 by omega) hby) (by decide)) (Nat.zero_le _)
    exact ⟨v', w', hrun, by simpa using h2, h3, by simpa [Value.ownBlock] using h5⟩
theorem wpList_append_lst {α : Type} {cells : α → List Value} {ok : World → α → Prop} {ops : Array Oper} {rest : List Oper} {o : Oper} {a : Act} {Q : Exit → Act → World → Prop} (hgd : o.guard = none) (s x : Operand) (t : TypeId)
    (ho : o.op = .call { callee := .builtin .append, args := #[s, x], argTypes := #[t, t] }) (e : TypeId) (k bytes : Nat) (ht : P.underlying t = some (.slice e)) (he : ElTy P e k bytes) (hk : 0 < k) (hby : bytes ≤ 1000)
    (hone : ∀ v, ∀ u ∈ cells v, u.oneCell' = true) (hs : a.eval s = .slice none 0 0) (A : Option Addr) (m c : Nat) (l : List α) (hx : a.eval x = .slice A m c) (hr : Lst k cells ok w A m l) (hm : m ≤ 1000000)
    (h : ∀ A' c' w', NewL e k cells w w' A' m c' l → wpList P ops Q rest (a.put o.dst (.slice A' m c')) w') : wpList P ops Q (o :: rest) a w := by
  refine wpList_plain hgd fun K hK => ?_
  obtain ⟨A', c', w', hrun, h2⟩ := run_append_lst (P := P) w hone t o.type e k bytes ht he hk hby A m c l hr hm
  unfold Oper.wp execOp
  simp only [ho, resolve, invoke, builtin, Sem.run_bind, Sem.run_pure, Result.andThen_ok, List.map_toArray, List.map_cons, List.map_nil, hs, hx, hrun]
  exact hK _ _ (h A' c' w' h2)
end
theorem el_stamp : ElTy Try.prog 71 38 80 := ElTy.of (by kernel_rfl)
theorem copyStamps_any (A : Option Addr) (n c : Nat) (l : List Wst) (w : World) (hr : Lst 38 Wst.cells (fun _ v => v.Ok) w A n l) (hn : n ≤ 1000000) :
    Calls Try.prog 73 #[.slice A n c] w fun e w' => ∃ A' c', e = .returned (.slice A' n c') ∧ NewL 71 38 Wst.cells w w' A' n c' l := by
  have HR := Lib.hid hr
  have HN := Lib.hid hn
  clear hr hn
  go_enter Try.func73, Try.ntmps73
  go_wp2_with (at_builtin; refine Stop.mk ?_)
  refine Stop.go ?_
  refine wpList_append_lst _ rfl (.const (.slice none 0 0)) (.tmp 3) _ rfl 71 38 80 Try.underlying30 el_stamp (by decide) (by decide) Wst.one rfl A n c l rfl HR.out HN.out ?_
  intro A1 c1 w1 ho1
  have HO := Lib.hid ho1
  clear ho1
  go_wp2
  go_ret
  exact ⟨A1, c1, rfl, HO.out⟩
theorem cutStamps_any (A : Option Addr) (n c m : Nat) (l : List Wst) (w : World) (hr : Lst 38 Wst.cells (fun _ v => v.Ok) w A n l) (hn : n ≤ maxLen) (hc : n ≤ c) (hm : m ≤ 1000000) :
    Calls Try.prog 39 #[.slice A n c, .int .i64 m] w fun e w' => ∃ A' c', e = .returned (.slice A' (l.take m).length c') ∧ NewL 71 38 Wst.cells w w' A' (l.take m).length c' (l.take m) := by
  unfold maxLen at hn
  have HR := Lib.hid hr
  have HL : Hid ((l.take m).length = min m n) := by rw [List.length_take, hr.1]; rfl
  clear hr
  by_cases hnm : n ≤ m
  · have hmin : Hid (min m n = n) := Nat.min_eq_right hnm
    go_enter Try.func39, Try.ntmps39
    go_wp2_with fail
    rw [show (min (n : Int) (m : Int)).toNat = n by omega]
    refine (copyStamps_any A n c (l.take m) w (by have h := HR.out.1; rw [List.take_of_length_le (by omega)]; exact HR.out) (by omega)).mono ?_
    rintro e w1 ⟨A1, c1, rfl, hN⟩
    have HN := Lib.hid hN
    clear hN
    go_wp2
    go_ret
    rw [HL.out, hmin.out]
    exact ⟨A1, c1, rfl, HN.out⟩
  · have hmin : Hid (min m n = m) := Nat.min_eq_left (by omega)
    have hmc : m ≤ c := by omega
    go_enter Try.func39, Try.ntmps39
    go_wp2_with fail
    rw [show (min (n : Int) (m : Int)).toNat = m by omega]
    refine (copyStamps_any A m c (l.take m) w (HR.out.take (by omega)) (by omega)).mono ?_
    rintro e w1 ⟨A1, c1, rfl, hN⟩
    have HN := Lib.hid hN
    clear hN
    go_wp2
    go_ret
    rw [HL.out, hmin.out]
    exact ⟨A1, c1, rfl, HN.out⟩
end Go.Proofs.Ytkofmefnlppoaaa
