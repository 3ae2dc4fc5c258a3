/- Texts that the proof stands on: gavelref01's small writers: a name, a signature, a commitment, a stamp, an ack, a denial, a vote, an opening; what is signed of them. (written by gen_doc.py) | gavelref01's writers of lists: a certificate, a promise, a batch; what is signed of a promise. (written by gen_doc.py) | gavelref01's PutBatch. (written by gen_doc.py) | The walk of WireConfs. | gavelref01's BatchHash, ProposalText, ValidConf. (written by gen_doc.py) | Package part: slices.Clone of stamps, votes, denials; CopyCert, CopyOpening, copyTomb. (written by gen_mcp.py) | Package part: copyList, CopyPromise, CopyBatch, CopyProposal, CopyDecided. (written by gen_mcp.py) | Package part: CopyBatch, CopyProposal, CopyDecided. (written by gen_mcp.py) | msgs.Only, of every kind. (written by gen_mon.py) -/
import Derived.Test.YtdenpfcgghangaaGreatKQ5
import Derived.Test.YtdenpfcgghangaaGreatRefTx
import Derived.Test.YtdenpfcgghangaaGreatHelp
import Derived.Test.YtdenpfcgghangaaGreatReg2
import Derived.Deep.CutBlock
import Derived.Lib.LazyBuf
set_option linter.unusedSimpArgs false
set_option linter.unusedVariables false
set_option maxRecDepth 100000

namespace Go.Proofs.YtdenpfcgghangaaGreat
open Go.RowKit
set_option maxRecDepth 100000
set_option maxHeartbeats 4000000 in
theorem refsig_any (y z : Int) (hy : i64In y) (hz : i64In z) (w : World) :
  Calls Tryz.prog 25 #[.agg #[.int .i64 y, .int .i64 z]] w fun e w' => ∃ A c, e = .returned (.slice A (sgL y z).length c) ∧ NewB w w' A (sgL y z).length c (sgL y z) := by
 obtain ⟨wa, hwa⟩ : ∃ wa, wa = w.alloc (Obj.cells #[.int .i64 y, .int .i64 z] 27) := ⟨_, rfl⟩
 have hf0 : Fr [] w wa := by rw [hwa]; exact (Fr.refl [] w).alloc _
 have HC0 : Hid (wa.cell? ⟨w.heap.size, 0, none⟩ = some (.int .i64 y)) := Lib.hid (by rw [hwa]; exact (Blk.new _ _ _).cell 0)
 have HC1 : Hid (wa.cell? ⟨w.heap.size, 1, none⟩ = some (.int .i64 z)) := Lib.hid (by rw [hwa]; exact (Blk.new _ _ _).cell 1)
 have HX := Lib.hid (And.intro hy hz)
 clear hy hz
 have HF0 := Lib.hid hf0
 have HWA := Lib.hid hwa
 clear hwa hf0
 go_enter Tryz.func25, Tryz.ntmps25
 go_wp2
 rw [← HWA.out]
 refine wp_region_held_drew (S := Fr [] wa) (by kernel_rfl) (Fr.drew (Fr.refl _ wa)) (fun hHeld => ?_)
 have HFD : Hid (Fr [] wa wa.drew) := Lib.hid (Fr.drew (Fr.refl [] wa))
 generalize wa.drew = wd at *
 refine run_at (i := 0) (v := ?_) rfl (by kernel_rfl) (by rfl) (fun _ _ _ h => h) hHeld (fun w1 hw1 => ?_) ?_
 rotate_left 1
 · skip
   go_simp
   try first | with_reducible rfl | apply And.intro <;> rfl
 simp only [xPa, xPb, xPc, xPd, xPe]
 refine run_at (i := 1) (v := ?_) rfl (by kernel_rfl) (by rfl) (fun _ _ _ h => h) hHeld (fun w1 hw1 => ?_) ?_
 rotate_left 1
 · skip
   have hcw0 := hw1.cell (HC0.out) (by simp)
   go_simp
   try first | with_reducible rfl | apply And.intro <;> rfl
 simp only [xPa, xPb, xPc, xPd, xPe]
 refine run_at (i := 3) (v := ?_) rfl (by kernel_rfl) (by rfl) (fun _ _ _ h => h) hHeld (fun w1 hw1 => ?_) ?_
 rotate_left 1
 · skip
   go_simp
   try first | with_reducible rfl | apply And.intro <;> rfl
 simp only [xPa, xPb, xPc, xPd, xPe]
 refine run_at (i := 4) (v := ?_) rfl (by kernel_rfl) (by rfl) (fun _ _ _ h => h) hHeld (fun w1 hw1 => ?_) ?_
 rotate_left 1
 · skip
   have hcw0 := hw1.cell (HC1.out) (by simp)
   go_simp
   try first | with_reducible rfl | apply And.intro <;> rfl
 simp only [xPa, xPb, xPc, xPd, xPe]
 refine call_at (i := 2) (f := ?_) (args := ?_) rfl (by kernel_rfl) (by rfl) ?_ ?_
 rotate_left 2
 · go_simp
   try first | with_reducible rfl | apply And.intro <;> rfl
 refine (refint_any y HX.out.1.2 wd).mono ?_
 rintro e w2 ⟨A2, c2, rfl, hN⟩
 obtain ⟨n2, hn2⟩ : ∃ nn_, nn_ = (encI y).length := ⟨_, rfl⟩
 obtain ⟨l2, hl2⟩ : ∃ ll_, ll_ = encI y := ⟨_, rfl⟩
 rw [← hn2] at hN ⊢
 rw [← hl2] at hN
 have HB2 : Hid (n2 ≤ 20000) := Lib.hid (by rw [hn2]; have := encI_len y HX.out.1.2; omega)
 have HL2 := Lib.hid hl2
 refine ⟨_, rfl, hHeld.go hN.2.1 (by simp), fun hHeld => ?_⟩
 simp only [xPa, xPb, xPc, xPd, xPe]
 have HY2 := Lib.hid hN.by
 have HFD := Lib.hid (HFD.out.and hN.2.1 (by simp))
 clear hN hn2 hl2
 refine call_at (i := 5) (f := ?_) (args := ?_) rfl (by kernel_rfl) (by rfl) ?_ ?_
 rotate_left 2
 · go_simp
   try first | with_reducible rfl | apply And.intro <;> rfl
 refine (refint_any z HX.out.2.2 w2).mono ?_
 rintro e w5 ⟨A5, c5, rfl, hN⟩
 obtain ⟨n5, hn5⟩ : ∃ nn_, nn_ = (encI z).length := ⟨_, rfl⟩
 obtain ⟨l5, hl5⟩ : ∃ ll_, ll_ = encI z := ⟨_, rfl⟩
 rw [← hn5] at hN ⊢
 rw [← hl5] at hN
 have HB5 : Hid (n5 ≤ 20000) := Lib.hid (by rw [hn5]; have := encI_len z HX.out.2.2; omega)
 have HL5 := Lib.hid hl5
 refine ⟨_, rfl, hHeld.go hN.2.1 (by simp), fun hHeld => ?_⟩
 simp only [xPa, xPb, xPc, xPd, xPe]
 have HY5 := Lib.hid hN.by
 have HFD := Lib.hid (HFD.out.and hN.2.1 (by simp))
 have HY2 := Lib.hid (Fr.byk hN.2.1 HY2.out)
 clear hN hn5 hl5
 refine step_at (i := 6) rfl (by kernel_rfl) (by rfl) (fun K hK => ?_)
 refine wp_run (v := ?_) (w' := ?_) ?_ ?_
 rotate_left 2
 · go_simp
   try first | with_reducible rfl | apply And.intro <;> rfl
 refine hK.out _ (w5.alloc (Obj.cells #[.slice A2 n2 c2, .slice A5 n5 c5] 52)) (hHeld.alloc _) (fun hHeld => ?_)
 clear hK K
 simp only [xPa, xPb, xPc, xPd, xPe]
 have hfb : Fr [] w5 (w5.alloc (Obj.cells #[.slice A2 n2 c2, .slice A5 n5 c5] 52)) := (Fr.refl [] w5).alloc _
 have hbb : Blk (w5.alloc (Obj.cells #[.slice A2 n2 c2, .slice A5 n5 c5] 52)) w5.heap.size 52 (([⟨A2, n2, c2, l2⟩, ⟨A5, n5, c5, l5⟩] : List RowV).map RowV.val).toArray := Blk.new _ _ _
 generalize w5.alloc (Obj.cells #[.slice A2 n2 c2, .slice A5 n5 c5] 52) = wj at *
 have HFD := Lib.hid (HFD.out.and hfb (by simp))
 have hj := join_big w5.heap.size 2 [⟨A2, n2, c2, l2⟩, ⟨A5, n5, c5, l5⟩] wj hbb rfl (by omega) (by
  intro r hr
  simp only [List.mem_cons, List.not_mem_nil, or_false] at hr
  rcases hr with rfl | rfl
  · exact ⟨Fr.byk hfb HY2.out, HB2.out⟩
  · exact ⟨Fr.byk hfb HY5.out, HB5.out⟩)
 have hJ : joinL [⟨A2, n2, c2, l2⟩, ⟨A5, n5, c5, l5⟩] = sgL y z := by
  simp only [joinL, List.map_cons, List.map_nil, List.flatten_cons, List.flatten_nil, HL2.out, HL5.out]
  simp [sgL]
 rw [hJ] at hj
 obtain ⟨X, hX⟩ : ∃ X, X = sgL y z := ⟨_, rfl⟩
 rw [← hX] at hj
 have HXT := Lib.hid hX
 clear hX
 have HJ := Lib.hid hj
 clear hfb hbb hj hJ HY2 HL2 HY5 HL5
 refine call_at (i := 7) (f := ?_) (args := ?_) rfl (by kernel_rfl) (by rfl) ?_ ?_
 rotate_left 2
 · go_simp
   try first | with_reducible rfl | apply And.intro <;> rfl
 refine HJ.out.mono ?_
 rintro e wk ⟨Aj, cj, rfl, hN⟩
 have HN := Lib.hid (hN.from2 (HF0.out.and HFD.out (by simp)))
 refine ⟨_, rfl, hHeld.go hN.2.1 (by simp), fun hHeld => ?_⟩
 clear hN
 simp only [xPa, xPb, xPc, xPd, xPe]
 refine run_at (i := 8) (v := ?_) rfl (by kernel_rfl) (by rfl) (fun _ _ _ h => h) hHeld (fun w1 hw1 => ?_) ?_
 rotate_left 1
 · skip
   go_simp
   try first | with_reducible rfl | apply And.intro <;> rfl
 simp only [xPa, xPb, xPc, xPd, xPe]
 refine wpAnyH_done (by kernel_rfl) ?_ _
 go_wp2
 go_ret
 rw [← HXT.out]
 exact ⟨Aj, cj, rfl, HN.out⟩
set_option maxHeartbeats 4000000 in
theorem refname_any (y z : Int) (hy : i64In y) (hz : i64In z) (w : World) :
  Calls Tryz.prog 30 #[.agg #[.int .i64 y, .int .i64 z]] w fun e w' => ∃ A c, e = .returned (.slice A (nmL y z).length c) ∧ NewB w w' A (nmL y z).length c (nmL y z) := by
 obtain ⟨wa, hwa⟩ : ∃ wa, wa = w.alloc (Obj.cells #[.int .i64 y, .int .i64 z] 23) := ⟨_, rfl⟩
 have hf0 : Fr [] w wa := by rw [hwa]; exact (Fr.refl [] w).alloc _
 have HC0 : Hid (wa.cell? ⟨w.heap.size, 0, none⟩ = some (.int .i64 y)) := Lib.hid (by rw [hwa]; exact (Blk.new _ _ _).cell 0)
 have HC1 : Hid (wa.cell? ⟨w.heap.size, 1, none⟩ = some (.int .i64 z)) := Lib.hid (by rw [hwa]; exact (Blk.new _ _ _).cell 1)
 have HX := Lib.hid (And.intro hy hz)
 clear hy hz
 have HF0 := Lib.hid hf0
 have HWA := Lib.hid hwa
 clear hwa hf0
 go_enter Tryz.func30, Tryz.ntmps30
 go_wp2
 rw [← HWA.out]
 refine wp_region_held_drew (S := Fr [] wa) (by kernel_rfl) (Fr.drew (Fr.refl _ wa)) (fun hHeld => ?_)
 have HFD : Hid (Fr [] wa wa.drew) := Lib.hid (Fr.drew (Fr.refl [] wa))
 generalize wa.drew = wd at *
 refine run_at (i := 0) (v := ?_) rfl (by kernel_rfl) (by rfl) (fun _ _ _ h => h) hHeld (fun w1 hw1 => ?_) ?_
 rotate_left 1
 · skip
   go_simp
   try first | with_reducible rfl | apply And.intro <;> rfl
 simp only [xPa, xPb, xPc, xPd, xPe]
 refine run_at (i := 1) (v := ?_) rfl (by kernel_rfl) (by rfl) (fun _ _ _ h => h) hHeld (fun w1 hw1 => ?_) ?_
 rotate_left 1
 · skip
   have hcw0 := hw1.cell (HC0.out) (by simp)
   go_simp
   try first | with_reducible rfl | apply And.intro <;> rfl
 simp only [xPa, xPb, xPc, xPd, xPe]
 refine run_at (i := 3) (v := ?_) rfl (by kernel_rfl) (by rfl) (fun _ _ _ h => h) hHeld (fun w1 hw1 => ?_) ?_
 rotate_left 1
 · skip
   go_simp
   try first | with_reducible rfl | apply And.intro <;> rfl
 simp only [xPa, xPb, xPc, xPd, xPe]
 refine run_at (i := 4) (v := ?_) rfl (by kernel_rfl) (by rfl) (fun _ _ _ h => h) hHeld (fun w1 hw1 => ?_) ?_
 rotate_left 1
 · skip
   have hcw0 := hw1.cell (HC1.out) (by simp)
   go_simp
   try first | with_reducible rfl | apply And.intro <;> rfl
 simp only [xPa, xPb, xPc, xPd, xPe]
 refine call_at (i := 2) (f := ?_) (args := ?_) rfl (by kernel_rfl) (by rfl) ?_ ?_
 rotate_left 2
 · go_simp
   try first | with_reducible rfl | apply And.intro <;> rfl
 refine (refint_any y HX.out.1.2 wd).mono ?_
 rintro e w2 ⟨A2, c2, rfl, hN⟩
 obtain ⟨n2, hn2⟩ : ∃ nn_, nn_ = (encI y).length := ⟨_, rfl⟩
 obtain ⟨l2, hl2⟩ : ∃ ll_, ll_ = encI y := ⟨_, rfl⟩
 rw [← hn2] at hN ⊢
 rw [← hl2] at hN
 have HB2 : Hid (n2 ≤ 20000) := Lib.hid (by rw [hn2]; have := encI_len y HX.out.1.2; omega)
 have HL2 := Lib.hid hl2
 refine ⟨_, rfl, hHeld.go hN.2.1 (by simp), fun hHeld => ?_⟩
 simp only [xPa, xPb, xPc, xPd, xPe]
 have HY2 := Lib.hid hN.by
 have HFD := Lib.hid (HFD.out.and hN.2.1 (by simp))
 clear hN hn2 hl2
 refine call_at (i := 5) (f := ?_) (args := ?_) rfl (by kernel_rfl) (by rfl) ?_ ?_
 rotate_left 2
 · go_simp
   try first | with_reducible rfl | apply And.intro <;> rfl
 refine (refint_any z HX.out.2.2 w2).mono ?_
 rintro e w5 ⟨A5, c5, rfl, hN⟩
 obtain ⟨n5, hn5⟩ : ∃ nn_, nn_ = (encI z).length := ⟨_, rfl⟩
 obtain ⟨l5, hl5⟩ : ∃ ll_, ll_ = encI z := ⟨_, rfl⟩
 rw [← hn5] at hN ⊢
 rw [← hl5] at hN
 have HB5 : Hid (n5 ≤ 20000) := Lib.hid (by rw [hn5]; have := encI_len z HX.out.2.2; omega)
 have HL5 := Lib.hid hl5
 refine ⟨_, rfl, hHeld.go hN.2.1 (by simp), fun hHeld => ?_⟩
 simp only [xPa, xPb, xPc, xPd, xPe]
 have HY5 := Lib.hid hN.by
 have HFD := Lib.hid (HFD.out.and hN.2.1 (by simp))
 have HY2 := Lib.hid (Fr.byk hN.2.1 HY2.out)
 clear hN hn5 hl5
 refine step_at (i := 6) rfl (by kernel_rfl) (by rfl) (fun K hK => ?_)
 refine wp_run (v := ?_) (w' := ?_) ?_ ?_
 rotate_left 2
 · go_simp
   try first | with_reducible rfl | apply And.intro <;> rfl
 refine hK.out _ (w5.alloc (Obj.cells #[.slice A2 n2 c2, .slice A5 n5 c5] 52)) (hHeld.alloc _) (fun hHeld => ?_)
 clear hK K
 simp only [xPa, xPb, xPc, xPd, xPe]
 have hfb : Fr [] w5 (w5.alloc (Obj.cells #[.slice A2 n2 c2, .slice A5 n5 c5] 52)) := (Fr.refl [] w5).alloc _
 have hbb : Blk (w5.alloc (Obj.cells #[.slice A2 n2 c2, .slice A5 n5 c5] 52)) w5.heap.size 52 (([⟨A2, n2, c2, l2⟩, ⟨A5, n5, c5, l5⟩] : List RowV).map RowV.val).toArray := Blk.new _ _ _
 generalize w5.alloc (Obj.cells #[.slice A2 n2 c2, .slice A5 n5 c5] 52) = wj at *
 have HFD := Lib.hid (HFD.out.and hfb (by simp))
 have hj := join_big w5.heap.size 2 [⟨A2, n2, c2, l2⟩, ⟨A5, n5, c5, l5⟩] wj hbb rfl (by omega) (by
  intro r hr
  simp only [List.mem_cons, List.not_mem_nil, or_false] at hr
  rcases hr with rfl | rfl
  · exact ⟨Fr.byk hfb HY2.out, HB2.out⟩
  · exact ⟨Fr.byk hfb HY5.out, HB5.out⟩)
 have hJ : joinL [⟨A2, n2, c2, l2⟩, ⟨A5, n5, c5, l5⟩] = nmL y z := by
  simp only [joinL, List.map_cons, List.map_nil, List.flatten_cons, List.flatten_nil, HL2.out, HL5.out]
  simp [nmL]
 rw [hJ] at hj
 obtain ⟨X, hX⟩ : ∃ X, X = nmL y z := ⟨_, rfl⟩
 rw [← hX] at hj
 have HXT := Lib.hid hX
 clear hX
 have HJ := Lib.hid hj
 clear hfb hbb hj hJ HY2 HL2 HY5 HL5
 refine call_at (i := 7) (f := ?_) (args := ?_) rfl (by kernel_rfl) (by rfl) ?_ ?_
 rotate_left 2
 · go_simp
   try first | with_reducible rfl | apply And.intro <;> rfl
 refine HJ.out.mono ?_
 rintro e wk ⟨Aj, cj, rfl, hN⟩
 have HN := Lib.hid (hN.from2 (HF0.out.and HFD.out (by simp)))
 refine ⟨_, rfl, hHeld.go hN.2.1 (by simp), fun hHeld => ?_⟩
 clear hN
 simp only [xPa, xPb, xPc, xPd, xPe]
 refine run_at (i := 8) (v := ?_) rfl (by kernel_rfl) (by rfl) (fun _ _ _ h => h) hHeld (fun w1 hw1 => ?_) ?_
 rotate_left 1
 · skip
   go_simp
   try first | with_reducible rfl | apply And.intro <;> rfl
 simp only [xPa, xPb, xPc, xPd, xPe]
 refine wpAnyH_done (by kernel_rfl) ?_ _
 go_wp2
 go_ret
 rw [← HXT.out]
 exact ⟨Aj, cj, rfl, HN.out⟩
set_option maxHeartbeats 4000000 in
theorem refputCommit_any (x : Wcm) (hx : x.Ok) (C : List Value) (hC : x.cells = C) (w : World) :
  Calls Tryz.prog 21 #[.agg C.toArray] w fun e w' => ∃ A c, e = .returned (.slice A (x.full).length c) ∧ NewB w w' A (x.full).length c (x.full) := by
 obtain ⟨wa, hwa⟩ : ∃ wa, wa = w.alloc (Obj.cells C.toArray 29) := ⟨_, rfl⟩
 have hf0 : Fr [] w wa := by rw [hwa]; exact (Fr.refl [] w).alloc _
 have hb0 : Blk wa w.heap.size 29 x.cells.toArray := by rw [hwa, hC]; exact Blk.new _ _ _
 have HALL : Hid (wa.rangeAt w.heap.size 0 C) := Lib.hid (by rw [← hC]; exact hb0.range)
 have HLN : Hid (C.length = 37) := Lib.hid (by rw [← hC]; exact Wcm.len hx.h)
 have hat := Wcm.at_of (o := 0) hb0.range hx.h
 have HAT := Lib.hid hat
 have HYH : Hid (By wa (some ⟨w.heap.size, 2, none⟩) 32 x.h) := Lib.hid (by have h := By.of_range hat.hash; rw [hx.h] at h; exact h)
 have HX := Lib.hid hx
 have HRC := Lib.hid hC
 clear hb0 hx hC hat
 have HF0 := Lib.hid hf0
 have HWA := Lib.hid hwa
 clear hwa hf0
 go_enter Tryz.func21, Tryz.ntmps21
 go_wp2
 rw [← HWA.out]
 refine wp_region_held_drew (S := Fr [] wa) (by kernel_rfl) (Fr.drew (Fr.refl _ wa)) (fun hHeld => ?_)
 have HFD : Hid (Fr [] wa wa.drew) := Lib.hid (Fr.drew (Fr.refl [] wa))
 generalize wa.drew = wd at *
 refine run_at (i := 0) (v := ?_) rfl (by kernel_rfl) (by rfl) (fun _ _ _ h => h) hHeld (fun w1 hw1 => ?_) ?_
 rotate_left 1
 · skip
   go_simp
   try first | with_reducible rfl | apply And.intro <;> rfl
 simp only [xPa, xPb, xPc, xPd, xPe]
 refine row_at (i := 1) rfl (by kernel_rfl) (by rfl) _ _ rfl _ _ rfl _ (fun w1 hw1 => hw1.range (HAT.out.name) (by simp)) (row_name) (fun _ _ _ h => h) hHeld ?_
 simp only [xPa, xPb, xPc, xPd, xPe]
 refine run_at (i := 3) (v := ?_) rfl (by kernel_rfl) (by rfl) (fun _ _ _ h => h) hHeld (fun w1 hw1 => ?_) ?_
 rotate_left 1
 · skip
   go_simp
   try first | with_reducible rfl | apply And.intro <;> rfl
 simp only [xPa, xPb, xPc, xPd, xPe]
 refine run_at (i := 4) (v := ?_) rfl (by kernel_rfl) (by rfl) (fun _ _ _ h => h) hHeld (fun w1 hw1 => ?_) ?_
 rotate_left 1
 · skip
   go_simp
   try first | with_reducible rfl | apply And.intro <;> rfl
 simp only [xPa, xPb, xPc, xPd, xPe]
 refine run_at (i := 5) (v := ?_) rfl (by kernel_rfl) (by rfl) (fun _ _ _ h => h) hHeld (fun w1 hw1 => ?_) ?_
 rotate_left 1
 · skip
   go_simp
   try first | with_reducible rfl | apply And.intro <;> rfl
 simp only [xPa, xPb, xPc, xPd, xPe]
 refine run_at (i := 6) (v := ?_) rfl (by kernel_rfl) (by rfl) (fun _ _ _ h => h) hHeld (fun w1 hw1 => ?_) ?_
 rotate_left 1
 · skip
   have hcw0 := hw1.cell (HAT.out.n) (by simp)
   go_simp
   try first | with_reducible rfl | apply And.intro <;> rfl
 simp only [xPa, xPb, xPc, xPd, xPe]
 refine run_at (i := 8) (v := ?_) rfl (by kernel_rfl) (by rfl) (fun _ _ _ h => h) hHeld (fun w1 hw1 => ?_) ?_
 rotate_left 1
 · skip
   go_simp
   try first | with_reducible rfl | apply And.intro <;> rfl
 simp only [xPa, xPb, xPc, xPd, xPe]
 refine row_at (i := 9) rfl (by kernel_rfl) (by rfl) _ _ rfl _ _ rfl _ (fun w1 hw1 => hw1.range (HAT.out.sig) (by simp)) (row_sig) (fun _ _ _ h => h) hHeld ?_
 simp only [xPa, xPb, xPc, xPd, xPe]
 refine call_at (i := 2) (f := ?_) (args := ?_) rfl (by kernel_rfl) (by rfl) ?_ ?_
 rotate_left 2
 · go_simp
   try first | with_reducible rfl | apply And.intro <;> rfl
 refine (refname_any x.c x.s HX.out.c HX.out.s wd).mono ?_
 rintro e w2 ⟨A2, c2, rfl, hN⟩
 obtain ⟨n2, hn2⟩ : ∃ nn_, nn_ = (nmL x.c x.s).length := ⟨_, rfl⟩
 obtain ⟨l2, hl2⟩ : ∃ ll_, ll_ = nmL x.c x.s := ⟨_, rfl⟩
 rw [← hn2] at hN ⊢
 rw [← hl2] at hN
 have HB2 : Hid (n2 ≤ 20000) := Lib.hid (by rw [hn2]; have := encI_len x.c HX.out.c.2; have := encI_len x.s HX.out.s.2; simp only [nmL, List.length_append]; omega)
 have HL2 := Lib.hid hl2
 refine ⟨_, rfl, hHeld.go hN.2.1 (by simp), fun hHeld => ?_⟩
 simp only [xPa, xPb, xPc, xPd, xPe]
 have HY2 := Lib.hid hN.by
 have HFD := Lib.hid (HFD.out.and hN.2.1 (by simp))
 clear hN hn2 hl2
 refine call_at (i := 7) (f := ?_) (args := ?_) rfl (by kernel_rfl) (by rfl) ?_ ?_
 rotate_left 2
 · go_simp
   try first | with_reducible rfl | apply And.intro <;> rfl
 refine (refint_any x.n HX.out.n.2 w2).mono ?_
 rintro e w7 ⟨A7, c7, rfl, hN⟩
 obtain ⟨n7, hn7⟩ : ∃ nn_, nn_ = (encI x.n).length := ⟨_, rfl⟩
 obtain ⟨l7, hl7⟩ : ∃ ll_, ll_ = encI x.n := ⟨_, rfl⟩
 rw [← hn7] at hN ⊢
 rw [← hl7] at hN
 have HB7 : Hid (n7 ≤ 20000) := Lib.hid (by rw [hn7]; have := encI_len x.n HX.out.n.2; omega)
 have HL7 := Lib.hid hl7
 refine ⟨_, rfl, hHeld.go hN.2.1 (by simp), fun hHeld => ?_⟩
 simp only [xPa, xPb, xPc, xPd, xPe]
 have HY7 := Lib.hid hN.by
 have HFD := Lib.hid (HFD.out.and hN.2.1 (by simp))
 have HY2 := Lib.hid (Fr.byk hN.2.1 HY2.out)
 clear hN hn7 hl7
 refine call_at (i := 10) (f := ?_) (args := ?_) rfl (by kernel_rfl) (by rfl) ?_ ?_
 rotate_left 2
 · go_simp
   try first | with_reducible rfl | apply And.intro <;> rfl
 refine (refsig_any x.b x.m HX.out.b HX.out.m w7).mono ?_
 rintro e w10 ⟨A10, c10, rfl, hN⟩
 obtain ⟨n10, hn10⟩ : ∃ nn_, nn_ = (sgL x.b x.m).length := ⟨_, rfl⟩
 obtain ⟨l10, hl10⟩ : ∃ ll_, ll_ = sgL x.b x.m := ⟨_, rfl⟩
 rw [← hn10] at hN ⊢
 rw [← hl10] at hN
 have HB10 : Hid (n10 ≤ 20000) := Lib.hid (by rw [hn10]; have := encI_len x.b HX.out.b.2; have := encI_len x.m HX.out.m.2; simp only [sgL, List.length_append]; omega)
 have HL10 := Lib.hid hl10
 refine ⟨_, rfl, hHeld.go hN.2.1 (by simp), fun hHeld => ?_⟩
 simp only [xPa, xPb, xPc, xPd, xPe]
 have HY10 := Lib.hid hN.by
 have HFD := Lib.hid (HFD.out.and hN.2.1 (by simp))
 have HY2 := Lib.hid (Fr.byk hN.2.1 HY2.out)
 have HY7 := Lib.hid (Fr.byk hN.2.1 HY7.out)
 clear hN hn10 hl10
 refine step_at (i := 11) rfl (by kernel_rfl) (by rfl) (fun K hK => ?_)
 refine wp_run (v := ?_) (w' := ?_) ?_ ?_
 rotate_left 2
 · go_simp
   try first | with_reducible rfl | apply And.intro <;> rfl
 refine hK.out _ (w10.alloc (Obj.cells #[.slice A2 n2 c2, .slice (some ⟨w.heap.size, 2, none⟩) 32 32, .slice A7 n7 c7, .slice A10 n10 c10] 52)) (hHeld.alloc _) (fun hHeld => ?_)
 clear hK K
 simp only [xPa, xPb, xPc, xPd, xPe]
 have hfb : Fr [] w10 (w10.alloc (Obj.cells #[.slice A2 n2 c2, .slice (some ⟨w.heap.size, 2, none⟩) 32 32, .slice A7 n7 c7, .slice A10 n10 c10] 52)) := (Fr.refl [] w10).alloc _
 have hbb : Blk (w10.alloc (Obj.cells #[.slice A2 n2 c2, .slice (some ⟨w.heap.size, 2, none⟩) 32 32, .slice A7 n7 c7, .slice A10 n10 c10] 52)) w10.heap.size 52 (([⟨A2, n2, c2, l2⟩, ⟨some ⟨w.heap.size, 2, none⟩, 32, 32, x.h⟩, ⟨A7, n7, c7, l7⟩, ⟨A10, n10, c10, l10⟩] : List RowV).map RowV.val).toArray := Blk.new _ _ _
 generalize w10.alloc (Obj.cells #[.slice A2 n2 c2, .slice (some ⟨w.heap.size, 2, none⟩) 32 32, .slice A7 n7 c7, .slice A10 n10 c10] 52) = wj at *
 have HFD := Lib.hid (HFD.out.and hfb (by simp))
 have hj := join_big w10.heap.size 4 [⟨A2, n2, c2, l2⟩, ⟨some ⟨w.heap.size, 2, none⟩, 32, 32, x.h⟩, ⟨A7, n7, c7, l7⟩, ⟨A10, n10, c10, l10⟩] wj hbb rfl (by omega) (by
  intro r hr
  simp only [List.mem_cons, List.not_mem_nil, or_false] at hr
  rcases hr with rfl | rfl | rfl | rfl
  · exact ⟨Fr.byk hfb HY2.out, HB2.out⟩
  · exact ⟨Fr.byk HFD.out HYH.out, by show 32 ≤ 20000; omega⟩
  · exact ⟨Fr.byk hfb HY7.out, HB7.out⟩
  · exact ⟨Fr.byk hfb HY10.out, HB10.out⟩)
 have hJ : joinL [⟨A2, n2, c2, l2⟩, ⟨some ⟨w.heap.size, 2, none⟩, 32, 32, x.h⟩, ⟨A7, n7, c7, l7⟩, ⟨A10, n10, c10, l10⟩] = x.full := by
  simp only [joinL, List.map_cons, List.map_nil, List.flatten_cons, List.flatten_nil, HL2.out, HL7.out, HL10.out]
  simp [Wcm.full]
 rw [hJ] at hj
 obtain ⟨X, hX⟩ : ∃ X, X = x.full := ⟨_, rfl⟩
 rw [← hX] at hj
 have HXT := Lib.hid hX
 clear hX
 have HJ := Lib.hid hj
 clear hfb hbb hj hJ HY2 HL2 HY7 HL7 HY10 HL10
 refine call_at (i := 12) (f := ?_) (args := ?_) rfl (by kernel_rfl) (by rfl) ?_ ?_
 rotate_left 2
 · go_simp
   try first | with_reducible rfl | apply And.intro <;> rfl
 refine HJ.out.mono ?_
 rintro e wk ⟨Aj, cj, rfl, hN⟩
 have HN := Lib.hid (hN.from2 (HF0.out.and HFD.out (by simp)))
 refine ⟨_, rfl, hHeld.go hN.2.1 (by simp), fun hHeld => ?_⟩
 clear hN
 simp only [xPa, xPb, xPc, xPd, xPe]
 refine run_at (i := 13) (v := ?_) rfl (by kernel_rfl) (by rfl) (fun _ _ _ h => h) hHeld (fun w1 hw1 => ?_) ?_
 rotate_left 1
 · skip
   go_simp
   try first | with_reducible rfl | apply And.intro <;> rfl
 simp only [xPa, xPb, xPc, xPd, xPe]
 refine wpAnyH_done (by kernel_rfl) ?_ _
 go_wp2
 go_ret
 rw [← HXT.out]
 exact ⟨Aj, cj, rfl, HN.out⟩
set_option maxHeartbeats 4000000 in
theorem refbare_any (x : Wst) (hx : x.Ok) (C : List Value) (hC : x.cells = C) (w : World) :
  Calls Tryz.prog 72 #[.agg C.toArray] w fun e w' => ∃ A c, e = .returned (.slice A (x.bare).length c) ∧ NewB w w' A (x.bare).length c (x.bare) := by
 obtain ⟨wa, hwa⟩ : ∃ wa, wa = w.alloc (Obj.cells C.toArray 32) := ⟨_, rfl⟩
 have hf0 : Fr [] w wa := by rw [hwa]; exact (Fr.refl [] w).alloc _
 have hb0 : Blk wa w.heap.size 32 x.cells.toArray := by rw [hwa, hC]; exact Blk.new _ _ _
 have HALL : Hid (wa.rangeAt w.heap.size 0 C) := Lib.hid (by rw [← hC]; exact hb0.range)
 have HLN : Hid (C.length = 38) := Lib.hid (by rw [← hC]; exact Wst.len hx.h)
 have hat := Wst.at_of (o := 0) hb0.range hx.h
 have HAT := Lib.hid hat
 have HYH : Hid (By wa (some ⟨w.heap.size, 3, none⟩) 32 x.h) := Lib.hid (by have h := By.of_range hat.hash; rw [hx.h] at h; exact h)
 have HX := Lib.hid hx
 have HRC := Lib.hid hC
 clear hb0 hx hC hat
 have HF0 := Lib.hid hf0
 have HWA := Lib.hid hwa
 clear hwa hf0
 go_enter Tryz.func72, Tryz.ntmps72
 go_wp2
 rw [← HWA.out]
 refine wp_region_held_drew (S := Fr [] wa) (by kernel_rfl) (Fr.drew (Fr.refl _ wa)) (fun hHeld => ?_)
 have HFD : Hid (Fr [] wa wa.drew) := Lib.hid (Fr.drew (Fr.refl [] wa))
 generalize wa.drew = wd at *
 refine run_at (i := 0) (v := ?_) rfl (by kernel_rfl) (by rfl) (fun _ _ _ h => h) hHeld (fun w1 hw1 => ?_) ?_
 rotate_left 1
 · skip
   go_simp
   try first | with_reducible rfl | apply And.intro <;> rfl
 simp only [xPa, xPb, xPc, xPd, xPe]
 refine run_at (i := 1) (v := ?_) rfl (by kernel_rfl) (by rfl) (fun _ _ _ h => h) hHeld (fun w1 hw1 => ?_) ?_
 rotate_left 1
 · skip
   have hcw0 := hw1.cell (HAT.out.r) (by simp)
   go_simp
   try first | with_reducible rfl | apply And.intro <;> rfl
 simp only [xPa, xPb, xPc, xPd, xPe]
 refine run_at (i := 3) (v := ?_) rfl (by kernel_rfl) (by rfl) (fun _ _ _ h => h) hHeld (fun w1 hw1 => ?_) ?_
 rotate_left 1
 · skip
   go_simp
   try first | with_reducible rfl | apply And.intro <;> rfl
 simp only [xPa, xPb, xPc, xPd, xPe]
 refine row_at (i := 4) rfl (by kernel_rfl) (by rfl) _ _ rfl _ _ rfl _ (fun w1 hw1 => hw1.range (HAT.out.name) (by simp)) (row_name) (fun _ _ _ h => h) hHeld ?_
 simp only [xPa, xPb, xPc, xPd, xPe]
 refine run_at (i := 6) (v := ?_) rfl (by kernel_rfl) (by rfl) (fun _ _ _ h => h) hHeld (fun w1 hw1 => ?_) ?_
 rotate_left 1
 · skip
   go_simp
   try first | with_reducible rfl | apply And.intro <;> rfl
 simp only [xPa, xPb, xPc, xPd, xPe]
 refine run_at (i := 7) (v := ?_) rfl (by kernel_rfl) (by rfl) (fun _ _ _ h => h) hHeld (fun w1 hw1 => ?_) ?_
 rotate_left 1
 · skip
   go_simp
   try first | with_reducible rfl | apply And.intro <;> rfl
 simp only [xPa, xPb, xPc, xPd, xPe]
 refine run_at (i := 8) (v := ?_) rfl (by kernel_rfl) (by rfl) (fun _ _ _ h => h) hHeld (fun w1 hw1 => ?_) ?_
 rotate_left 1
 · skip
   go_simp
   try first | with_reducible rfl | apply And.intro <;> rfl
 simp only [xPa, xPb, xPc, xPd, xPe]
 refine run_at (i := 9) (v := ?_) rfl (by kernel_rfl) (by rfl) (fun _ _ _ h => h) hHeld (fun w1 hw1 => ?_) ?_
 rotate_left 1
 · skip
   have hcw0 := hw1.cell (HAT.out.t) (by simp)
   go_simp
   try first | with_reducible rfl | apply And.intro <;> rfl
 simp only [xPa, xPb, xPc, xPd, xPe]
 refine call_at (i := 2) (f := ?_) (args := ?_) rfl (by kernel_rfl) (by rfl) ?_ ?_
 rotate_left 2
 · go_simp
   try first | with_reducible rfl | apply And.intro <;> rfl
 refine (refint_any x.r HX.out.r.2 wd).mono ?_
 rintro e w2 ⟨A2, c2, rfl, hN⟩
 obtain ⟨n2, hn2⟩ : ∃ nn_, nn_ = (encI x.r).length := ⟨_, rfl⟩
 obtain ⟨l2, hl2⟩ : ∃ ll_, ll_ = encI x.r := ⟨_, rfl⟩
 rw [← hn2] at hN ⊢
 rw [← hl2] at hN
 have HB2 : Hid (n2 ≤ 20000) := Lib.hid (by rw [hn2]; have := encI_len x.r HX.out.r.2; omega)
 have HL2 := Lib.hid hl2
 refine ⟨_, rfl, hHeld.go hN.2.1 (by simp), fun hHeld => ?_⟩
 simp only [xPa, xPb, xPc, xPd, xPe]
 have HY2 := Lib.hid hN.by
 have HFD := Lib.hid (HFD.out.and hN.2.1 (by simp))
 clear hN hn2 hl2
 refine call_at (i := 5) (f := ?_) (args := ?_) rfl (by kernel_rfl) (by rfl) ?_ ?_
 rotate_left 2
 · go_simp
   try first | with_reducible rfl | apply And.intro <;> rfl
 refine (refname_any x.c x.s HX.out.c HX.out.s w2).mono ?_
 rintro e w5 ⟨A5, c5, rfl, hN⟩
 obtain ⟨n5, hn5⟩ : ∃ nn_, nn_ = (nmL x.c x.s).length := ⟨_, rfl⟩
 obtain ⟨l5, hl5⟩ : ∃ ll_, ll_ = nmL x.c x.s := ⟨_, rfl⟩
 rw [← hn5] at hN ⊢
 rw [← hl5] at hN
 have HB5 : Hid (n5 ≤ 20000) := Lib.hid (by rw [hn5]; have := encI_len x.c HX.out.c.2; have := encI_len x.s HX.out.s.2; simp only [nmL, List.length_append]; omega)
 have HL5 := Lib.hid hl5
 refine ⟨_, rfl, hHeld.go hN.2.1 (by simp), fun hHeld => ?_⟩
 simp only [xPa, xPb, xPc, xPd, xPe]
 have HY5 := Lib.hid hN.by
 have HFD := Lib.hid (HFD.out.and hN.2.1 (by simp))
 have HY2 := Lib.hid (Fr.byk hN.2.1 HY2.out)
 clear hN hn5 hl5
 refine call_at (i := 10) (f := ?_) (args := ?_) rfl (by kernel_rfl) (by rfl) ?_ ?_
 rotate_left 2
 · go_simp
   try first | with_reducible rfl | apply And.intro <;> rfl
 refine (refnum_any x.t HX.out.t w5).mono ?_
 rintro e w10 ⟨A10, c10, rfl, hN⟩
 obtain ⟨n10, hn10⟩ : ∃ nn_, nn_ = (enc x.t).length := ⟨_, rfl⟩
 obtain ⟨l10, hl10⟩ : ∃ ll_, ll_ = enc x.t := ⟨_, rfl⟩
 rw [← hn10] at hN ⊢
 rw [← hl10] at hN
 have HB10 : Hid (n10 ≤ 20000) := Lib.hid (by rw [hn10]; have := enc_ten HX.out.t; omega)
 have HL10 := Lib.hid hl10
 refine ⟨_, rfl, hHeld.go hN.2.1 (by simp), fun hHeld => ?_⟩
 simp only [xPa, xPb, xPc, xPd, xPe]
 have HY10 := Lib.hid hN.by
 have HFD := Lib.hid (HFD.out.and hN.2.1 (by simp))
 have HY2 := Lib.hid (Fr.byk hN.2.1 HY2.out)
 have HY5 := Lib.hid (Fr.byk hN.2.1 HY5.out)
 clear hN hn10 hl10
 refine step_at (i := 11) rfl (by kernel_rfl) (by rfl) (fun K hK => ?_)
 refine wp_run (v := ?_) (w' := ?_) ?_ ?_
 rotate_left 2
 · go_simp
   try first | with_reducible rfl | apply And.intro <;> rfl
 refine hK.out _ (w10.alloc (Obj.cells #[.slice A2 n2 c2, .slice A5 n5 c5, .slice (some ⟨w.heap.size, 3, none⟩) 32 32, .slice A10 n10 c10] 52)) (hHeld.alloc _) (fun hHeld => ?_)
 clear hK K
 simp only [xPa, xPb, xPc, xPd, xPe]
 have hfb : Fr [] w10 (w10.alloc (Obj.cells #[.slice A2 n2 c2, .slice A5 n5 c5, .slice (some ⟨w.heap.size, 3, none⟩) 32 32, .slice A10 n10 c10] 52)) := (Fr.refl [] w10).alloc _
 have hbb : Blk (w10.alloc (Obj.cells #[.slice A2 n2 c2, .slice A5 n5 c5, .slice (some ⟨w.heap.size, 3, none⟩) 32 32, .slice A10 n10 c10] 52)) w10.heap.size 52 (([⟨A2, n2, c2, l2⟩, ⟨A5, n5, c5, l5⟩, ⟨some ⟨w.heap.size, 3, none⟩, 32, 32, x.h⟩, ⟨A10, n10, c10, l10⟩] : List RowV).map RowV.val).toArray := Blk.new _ _ _
 generalize w10.alloc (Obj.cells #[.slice A2 n2 c2, .slice A5 n5 c5, .slice (some ⟨w.heap.size, 3, none⟩) 32 32, .slice A10 n10 c10] 52) = wj at *
 have HFD := Lib.hid (HFD.out.and hfb (by simp))
 have hj := join_big w10.heap.size 4 [⟨A2, n2, c2, l2⟩, ⟨A5, n5, c5, l5⟩, ⟨some ⟨w.heap.size, 3, none⟩, 32, 32, x.h⟩, ⟨A10, n10, c10, l10⟩] wj hbb rfl (by omega) (by
  intro r hr
  simp only [List.mem_cons, List.not_mem_nil, or_false] at hr
  rcases hr with rfl | rfl | rfl | rfl
  · exact ⟨Fr.byk hfb HY2.out, HB2.out⟩
  · exact ⟨Fr.byk hfb HY5.out, HB5.out⟩
  · exact ⟨Fr.byk HFD.out HYH.out, by show 32 ≤ 20000; omega⟩
  · exact ⟨Fr.byk hfb HY10.out, HB10.out⟩)
 have hJ : joinL [⟨A2, n2, c2, l2⟩, ⟨A5, n5, c5, l5⟩, ⟨some ⟨w.heap.size, 3, none⟩, 32, 32, x.h⟩, ⟨A10, n10, c10, l10⟩] = x.bare := by
  simp only [joinL, List.map_cons, List.map_nil, List.flatten_cons, List.flatten_nil, HL2.out, HL5.out, HL10.out]
  simp [Wst.bare]
 rw [hJ] at hj
 obtain ⟨X, hX⟩ : ∃ X, X = x.bare := ⟨_, rfl⟩
 rw [← hX] at hj
 have HXT := Lib.hid hX
 clear hX
 have HJ := Lib.hid hj
 clear hfb hbb hj hJ HY2 HL2 HY5 HL5 HY10 HL10
 refine call_at (i := 12) (f := ?_) (args := ?_) rfl (by kernel_rfl) (by rfl) ?_ ?_
 rotate_left 2
 · go_simp
   try first | with_reducible rfl | apply And.intro <;> rfl
 refine HJ.out.mono ?_
 rintro e wk ⟨Aj, cj, rfl, hN⟩
 have HN := Lib.hid (hN.from2 (HF0.out.and HFD.out (by simp)))
 refine ⟨_, rfl, hHeld.go hN.2.1 (by simp), fun hHeld => ?_⟩
 clear hN
 simp only [xPa, xPb, xPc, xPd, xPe]
 refine run_at (i := 13) (v := ?_) rfl (by kernel_rfl) (by rfl) (fun _ _ _ h => h) hHeld (fun w1 hw1 => ?_) ?_
 rotate_left 1
 · skip
   go_simp
   try first | with_reducible rfl | apply And.intro <;> rfl
 simp only [xPa, xPb, xPc, xPd, xPe]
 refine wpAnyH_done (by kernel_rfl) ?_ _
 go_wp2
 go_ret
 rw [← HXT.out]
 exact ⟨Aj, cj, rfl, HN.out⟩
set_option maxHeartbeats 4000000 in
theorem refbareAck_any (x : Wst) (hx : x.Ok) (C : List Value) (hC : x.cells = C) (w : World) :
  Calls Tryz.prog 24 #[.agg C.toArray] w fun e w' => ∃ A c, e = .returned (.slice A (x.bare).length c) ∧ NewB w w' A (x.bare).length c (x.bare) := by
 obtain ⟨wa, hwa⟩ : ∃ wa, wa = w.alloc (Obj.cells C.toArray 37) := ⟨_, rfl⟩
 have hf0 : Fr [] w wa := by rw [hwa]; exact (Fr.refl [] w).alloc _
 have hb0 : Blk wa w.heap.size 37 x.cells.toArray := by rw [hwa, hC]; exact Blk.new _ _ _
 have HALL : Hid (wa.rangeAt w.heap.size 0 C) := Lib.hid (by rw [← hC]; exact hb0.range)
 have HLN : Hid (C.length = 38) := Lib.hid (by rw [← hC]; exact Wst.len hx.h)
 have hat := Wst.at_of (o := 0) hb0.range hx.h
 have HAT := Lib.hid hat
 have HYH : Hid (By wa (some ⟨w.heap.size, 3, none⟩) 32 x.h) := Lib.hid (by have h := By.of_range hat.hash; rw [hx.h] at h; exact h)
 have HX := Lib.hid hx
 have HRC := Lib.hid hC
 clear hb0 hx hC hat
 have HF0 := Lib.hid hf0
 have HWA := Lib.hid hwa
 clear hwa hf0
 go_enter Tryz.func24, Tryz.ntmps24
 go_wp2
 rw [← HWA.out]
 refine wp_region_held_drew (S := Fr [] wa) (by kernel_rfl) (Fr.drew (Fr.refl _ wa)) (fun hHeld => ?_)
 have HFD : Hid (Fr [] wa wa.drew) := Lib.hid (Fr.drew (Fr.refl [] wa))
 generalize wa.drew = wd at *
 refine run_at (i := 0) (v := ?_) rfl (by kernel_rfl) (by rfl) (fun _ _ _ h => h) hHeld (fun w1 hw1 => ?_) ?_
 rotate_left 1
 · skip
   go_simp
   try first | with_reducible rfl | apply And.intro <;> rfl
 simp only [xPa, xPb, xPc, xPd, xPe]
 refine run_at (i := 1) (v := ?_) rfl (by kernel_rfl) (by rfl) (fun _ _ _ h => h) hHeld (fun w1 hw1 => ?_) ?_
 rotate_left 1
 · skip
   have hcw0 := hw1.cell (HAT.out.r) (by simp)
   go_simp
   try first | with_reducible rfl | apply And.intro <;> rfl
 simp only [xPa, xPb, xPc, xPd, xPe]
 refine run_at (i := 3) (v := ?_) rfl (by kernel_rfl) (by rfl) (fun _ _ _ h => h) hHeld (fun w1 hw1 => ?_) ?_
 rotate_left 1
 · skip
   go_simp
   try first | with_reducible rfl | apply And.intro <;> rfl
 simp only [xPa, xPb, xPc, xPd, xPe]
 refine row_at (i := 4) rfl (by kernel_rfl) (by rfl) _ _ rfl _ _ rfl _ (fun w1 hw1 => hw1.range (HAT.out.name) (by simp)) (row_name) (fun _ _ _ h => h) hHeld ?_
 simp only [xPa, xPb, xPc, xPd, xPe]
 refine run_at (i := 6) (v := ?_) rfl (by kernel_rfl) (by rfl) (fun _ _ _ h => h) hHeld (fun w1 hw1 => ?_) ?_
 rotate_left 1
 · skip
   go_simp
   try first | with_reducible rfl | apply And.intro <;> rfl
 simp only [xPa, xPb, xPc, xPd, xPe]
 refine run_at (i := 7) (v := ?_) rfl (by kernel_rfl) (by rfl) (fun _ _ _ h => h) hHeld (fun w1 hw1 => ?_) ?_
 rotate_left 1
 · skip
   go_simp
   try first | with_reducible rfl | apply And.intro <;> rfl
 simp only [xPa, xPb, xPc, xPd, xPe]
 refine run_at (i := 8) (v := ?_) rfl (by kernel_rfl) (by rfl) (fun _ _ _ h => h) hHeld (fun w1 hw1 => ?_) ?_
 rotate_left 1
 · skip
   go_simp
   try first | with_reducible rfl | apply And.intro <;> rfl
 simp only [xPa, xPb, xPc, xPd, xPe]
 refine run_at (i := 9) (v := ?_) rfl (by kernel_rfl) (by rfl) (fun _ _ _ h => h) hHeld (fun w1 hw1 => ?_) ?_
 rotate_left 1
 · skip
   have hcw0 := hw1.cell (HAT.out.t) (by simp)
   go_simp
   try first | with_reducible rfl | apply And.intro <;> rfl
 simp only [xPa, xPb, xPc, xPd, xPe]
 refine call_at (i := 2) (f := ?_) (args := ?_) rfl (by kernel_rfl) (by rfl) ?_ ?_
 rotate_left 2
 · go_simp
   try first | with_reducible rfl | apply And.intro <;> rfl
 refine (refint_any x.r HX.out.r.2 wd).mono ?_
 rintro e w2 ⟨A2, c2, rfl, hN⟩
 obtain ⟨n2, hn2⟩ : ∃ nn_, nn_ = (encI x.r).length := ⟨_, rfl⟩
 obtain ⟨l2, hl2⟩ : ∃ ll_, ll_ = encI x.r := ⟨_, rfl⟩
 rw [← hn2] at hN ⊢
 rw [← hl2] at hN
 have HB2 : Hid (n2 ≤ 20000) := Lib.hid (by rw [hn2]; have := encI_len x.r HX.out.r.2; omega)
 have HL2 := Lib.hid hl2
 refine ⟨_, rfl, hHeld.go hN.2.1 (by simp), fun hHeld => ?_⟩
 simp only [xPa, xPb, xPc, xPd, xPe]
 have HY2 := Lib.hid hN.by
 have HFD := Lib.hid (HFD.out.and hN.2.1 (by simp))
 clear hN hn2 hl2
 refine call_at (i := 5) (f := ?_) (args := ?_) rfl (by kernel_rfl) (by rfl) ?_ ?_
 rotate_left 2
 · go_simp
   try first | with_reducible rfl | apply And.intro <;> rfl
 refine (refname_any x.c x.s HX.out.c HX.out.s w2).mono ?_
 rintro e w5 ⟨A5, c5, rfl, hN⟩
 obtain ⟨n5, hn5⟩ : ∃ nn_, nn_ = (nmL x.c x.s).length := ⟨_, rfl⟩
 obtain ⟨l5, hl5⟩ : ∃ ll_, ll_ = nmL x.c x.s := ⟨_, rfl⟩
 rw [← hn5] at hN ⊢
 rw [← hl5] at hN
 have HB5 : Hid (n5 ≤ 20000) := Lib.hid (by rw [hn5]; have := encI_len x.c HX.out.c.2; have := encI_len x.s HX.out.s.2; simp only [nmL, List.length_append]; omega)
 have HL5 := Lib.hid hl5
 refine ⟨_, rfl, hHeld.go hN.2.1 (by simp), fun hHeld => ?_⟩
 simp only [xPa, xPb, xPc, xPd, xPe]
 have HY5 := Lib.hid hN.by
 have HFD := Lib.hid (HFD.out.and hN.2.1 (by simp))
 have HY2 := Lib.hid (Fr.byk hN.2.1 HY2.out)
 clear hN hn5 hl5
 refine call_at (i := 10) (f := ?_) (args := ?_) rfl (by kernel_rfl) (by rfl) ?_ ?_
 rotate_left 2
 · go_simp
   try first | with_reducible rfl | apply And.intro <;> rfl
 refine (refnum_any x.t HX.out.t w5).mono ?_
 rintro e w10 ⟨A10, c10, rfl, hN⟩
 obtain ⟨n10, hn10⟩ : ∃ nn_, nn_ = (enc x.t).length := ⟨_, rfl⟩
 obtain ⟨l10, hl10⟩ : ∃ ll_, ll_ = enc x.t := ⟨_, rfl⟩
 rw [← hn10] at hN ⊢
 rw [← hl10] at hN
 have HB10 : Hid (n10 ≤ 20000) := Lib.hid (by rw [hn10]; have := enc_ten HX.out.t; omega)
 have HL10 := Lib.hid hl10
 refine ⟨_, rfl, hHeld.go hN.2.1 (by simp), fun hHeld => ?_⟩
 simp only [xPa, xPb, xPc, xPd, xPe]
 have HY10 := Lib.hid hN.by
 have HFD := Lib.hid (HFD.out.and hN.2.1 (by simp))
 have HY2 := Lib.hid (Fr.byk hN.2.1 HY2.out)
 have HY5 := Lib.hid (Fr.byk hN.2.1 HY5.out)
 clear hN hn10 hl10
 refine step_at (i := 11) rfl (by kernel_rfl) (by rfl) (fun K hK => ?_)
 refine wp_run (v := ?_) (w' := ?_) ?_ ?_
 rotate_left 2
 · go_simp
   try first | with_reducible rfl | apply And.intro <;> rfl
 refine hK.out _ (w10.alloc (Obj.cells #[.slice A2 n2 c2, .slice A5 n5 c5, .slice (some ⟨w.heap.size, 3, none⟩) 32 32, .slice A10 n10 c10] 52)) (hHeld.alloc _) (fun hHeld => ?_)
 clear hK K
 simp only [xPa, xPb, xPc, xPd, xPe]
 have hfb : Fr [] w10 (w10.alloc (Obj.cells #[.slice A2 n2 c2, .slice A5 n5 c5, .slice (some ⟨w.heap.size, 3, none⟩) 32 32, .slice A10 n10 c10] 52)) := (Fr.refl [] w10).alloc _
 have hbb : Blk (w10.alloc (Obj.cells #[.slice A2 n2 c2, .slice A5 n5 c5, .slice (some ⟨w.heap.size, 3, none⟩) 32 32, .slice A10 n10 c10] 52)) w10.heap.size 52 (([⟨A2, n2, c2, l2⟩, ⟨A5, n5, c5, l5⟩, ⟨some ⟨w.heap.size, 3, none⟩, 32, 32, x.h⟩, ⟨A10, n10, c10, l10⟩] : List RowV).map RowV.val).toArray := Blk.new _ _ _
 generalize w10.alloc (Obj.cells #[.slice A2 n2 c2, .slice A5 n5 c5, .slice (some ⟨w.heap.size, 3, none⟩) 32 32, .slice A10 n10 c10] 52) = wj at *
 have HFD := Lib.hid (HFD.out.and hfb (by simp))
 have hj := join_big w10.heap.size 4 [⟨A2, n2, c2, l2⟩, ⟨A5, n5, c5, l5⟩, ⟨some ⟨w.heap.size, 3, none⟩, 32, 32, x.h⟩, ⟨A10, n10, c10, l10⟩] wj hbb rfl (by omega) (by
  intro r hr
  simp only [List.mem_cons, List.not_mem_nil, or_false] at hr
  rcases hr with rfl | rfl | rfl | rfl
  · exact ⟨Fr.byk hfb HY2.out, HB2.out⟩
  · exact ⟨Fr.byk hfb HY5.out, HB5.out⟩
  · exact ⟨Fr.byk HFD.out HYH.out, by show 32 ≤ 20000; omega⟩
  · exact ⟨Fr.byk hfb HY10.out, HB10.out⟩)
 have hJ : joinL [⟨A2, n2, c2, l2⟩, ⟨A5, n5, c5, l5⟩, ⟨some ⟨w.heap.size, 3, none⟩, 32, 32, x.h⟩, ⟨A10, n10, c10, l10⟩] = x.bare := by
  simp only [joinL, List.map_cons, List.map_nil, List.flatten_cons, List.flatten_nil, HL2.out, HL5.out, HL10.out]
  simp [Wst.bare]
 rw [hJ] at hj
 obtain ⟨X, hX⟩ : ∃ X, X = x.bare := ⟨_, rfl⟩
 rw [← hX] at hj
 have HXT := Lib.hid hX
 clear hX
 have HJ := Lib.hid hj
 clear hfb hbb hj hJ HY2 HL2 HY5 HL5 HY10 HL10
 refine call_at (i := 12) (f := ?_) (args := ?_) rfl (by kernel_rfl) (by rfl) ?_ ?_
 rotate_left 2
 · go_simp
   try first | with_reducible rfl | apply And.intro <;> rfl
 refine HJ.out.mono ?_
 rintro e wk ⟨Aj, cj, rfl, hN⟩
 have HN := Lib.hid (hN.from2 (HF0.out.and HFD.out (by simp)))
 refine ⟨_, rfl, hHeld.go hN.2.1 (by simp), fun hHeld => ?_⟩
 clear hN
 simp only [xPa, xPb, xPc, xPd, xPe]
 refine run_at (i := 13) (v := ?_) rfl (by kernel_rfl) (by rfl) (fun _ _ _ h => h) hHeld (fun w1 hw1 => ?_) ?_
 rotate_left 1
 · skip
   go_simp
   try first | with_reducible rfl | apply And.intro <;> rfl
 simp only [xPa, xPb, xPc, xPd, xPe]
 refine wpAnyH_done (by kernel_rfl) ?_ _
 go_wp2
 go_ret
 rw [← HXT.out]
 exact ⟨Aj, cj, rfl, HN.out⟩
set_option maxHeartbeats 4000000 in
theorem refbareVote_any (x : Wvt) (hx : x.Ok) (C : List Value) (hC : x.cells = C) (w : World) :
  Calls Tryz.prog 29 #[.agg C.toArray] w fun e w' => ∃ A c, e = .returned (.slice A (x.bare).length c) ∧ NewB w w' A (x.bare).length c (x.bare) := by
 obtain ⟨wa, hwa⟩ : ∃ wa, wa = w.alloc (Obj.cells C.toArray 49) := ⟨_, rfl⟩
 have hf0 : Fr [] w wa := by rw [hwa]; exact (Fr.refl [] w).alloc _
 have hb0 : Blk wa w.heap.size 49 x.cells.toArray := by rw [hwa, hC]; exact Blk.new _ _ _
 have HALL : Hid (wa.rangeAt w.heap.size 0 C) := Lib.hid (by rw [← hC]; exact hb0.range)
 have HLN : Hid (C.length = 38) := Lib.hid (by rw [← hC]; exact Wvt.len hx.h)
 have hat := Wvt.at_of (o := 0) hb0.range hx.h
 have HAT := Lib.hid hat
 have HYH : Hid (By wa (some ⟨w.heap.size, 4, none⟩) 32 x.h) := Lib.hid (by have h := By.of_range hat.hash; rw [hx.h] at h; exact h)
 have HX := Lib.hid hx
 have HRC := Lib.hid hC
 clear hb0 hx hC hat
 have HF0 := Lib.hid hf0
 have HWA := Lib.hid hwa
 clear hwa hf0
 go_enter Tryz.func29, Tryz.ntmps29
 go_wp2
 rw [← HWA.out]
 refine wp_region_held_drew (S := Fr [] wa) (by kernel_rfl) (Fr.drew (Fr.refl _ wa)) (fun hHeld => ?_)
 have HFD : Hid (Fr [] wa wa.drew) := Lib.hid (Fr.drew (Fr.refl [] wa))
 generalize wa.drew = wd at *
 refine run_at (i := 0) (v := ?_) rfl (by kernel_rfl) (by rfl) (fun _ _ _ h => h) hHeld (fun w1 hw1 => ?_) ?_
 rotate_left 1
 · skip
   go_simp
   try first | with_reducible rfl | apply And.intro <;> rfl
 simp only [xPa, xPb, xPc, xPd, xPe]
 refine run_at (i := 1) (v := ?_) rfl (by kernel_rfl) (by rfl) (fun _ _ _ h => h) hHeld (fun w1 hw1 => ?_) ?_
 rotate_left 1
 · skip
   have hcw0 := hw1.cell (HAT.out.k) (by simp)
   go_simp
   try first | with_reducible rfl | apply And.intro <;> rfl
 simp only [xPa, xPb, xPc, xPd, xPe]
 refine run_at (i := 3) (v := ?_) rfl (by kernel_rfl) (by rfl) (fun _ _ _ h => h) hHeld (fun w1 hw1 => ?_) ?_
 rotate_left 1
 · skip
   go_simp
   try first | with_reducible rfl | apply And.intro <;> rfl
 simp only [xPa, xPb, xPc, xPd, xPe]
 refine run_at (i := 4) (v := ?_) rfl (by kernel_rfl) (by rfl) (fun _ _ _ h => h) hHeld (fun w1 hw1 => ?_) ?_
 rotate_left 1
 · skip
   have hcw0 := hw1.cell (HAT.out.e) (by simp)
   go_simp
   try first | with_reducible rfl | apply And.intro <;> rfl
 simp only [xPa, xPb, xPc, xPd, xPe]
 refine run_at (i := 6) (v := ?_) rfl (by kernel_rfl) (by rfl) (fun _ _ _ h => h) hHeld (fun w1 hw1 => ?_) ?_
 rotate_left 1
 · skip
   go_simp
   try first | with_reducible rfl | apply And.intro <;> rfl
 simp only [xPa, xPb, xPc, xPd, xPe]
 refine run_at (i := 7) (v := ?_) rfl (by kernel_rfl) (by rfl) (fun _ _ _ h => h) hHeld (fun w1 hw1 => ?_) ?_
 rotate_left 1
 · skip
   have hcw0 := hw1.cell (HAT.out.r) (by simp)
   go_simp
   try first | with_reducible rfl | apply And.intro <;> rfl
 simp only [xPa, xPb, xPc, xPd, xPe]
 refine run_at (i := 9) (v := ?_) rfl (by kernel_rfl) (by rfl) (fun _ _ _ h => h) hHeld (fun w1 hw1 => ?_) ?_
 rotate_left 1
 · skip
   go_simp
   try first | with_reducible rfl | apply And.intro <;> rfl
 simp only [xPa, xPb, xPc, xPd, xPe]
 refine run_at (i := 10) (v := ?_) rfl (by kernel_rfl) (by rfl) (fun _ _ _ h => h) hHeld (fun w1 hw1 => ?_) ?_
 rotate_left 1
 · skip
   have hcw0 := hw1.cell (HAT.out.p) (by simp)
   go_simp
   try first | with_reducible rfl | apply And.intro <;> rfl
 simp only [xPa, xPb, xPc, xPd, xPe]
 refine run_at (i := 12) (v := ?_) rfl (by kernel_rfl) (by rfl) (fun _ _ _ h => h) hHeld (fun w1 hw1 => ?_) ?_
 rotate_left 1
 · skip
   go_simp
   try first | with_reducible rfl | apply And.intro <;> rfl
 simp only [xPa, xPb, xPc, xPd, xPe]
 refine run_at (i := 13) (v := ?_) rfl (by kernel_rfl) (by rfl) (fun _ _ _ h => h) hHeld (fun w1 hw1 => ?_) ?_
 rotate_left 1
 · skip
   go_simp
   try first | with_reducible rfl | apply And.intro <;> rfl
 simp only [xPa, xPb, xPc, xPd, xPe]
 refine call_at (i := 2) (f := ?_) (args := ?_) rfl (by kernel_rfl) (by rfl) ?_ ?_
 rotate_left 2
 · go_simp
   try first | with_reducible rfl | apply And.intro <;> rfl
 refine (refint_any x.k HX.out.k.2 wd).mono ?_
 rintro e w2 ⟨A2, c2, rfl, hN⟩
 obtain ⟨n2, hn2⟩ : ∃ nn_, nn_ = (encI x.k).length := ⟨_, rfl⟩
 obtain ⟨l2, hl2⟩ : ∃ ll_, ll_ = encI x.k := ⟨_, rfl⟩
 rw [← hn2] at hN ⊢
 rw [← hl2] at hN
 have HB2 : Hid (n2 ≤ 20000) := Lib.hid (by rw [hn2]; have := encI_len x.k HX.out.k.2; omega)
 have HL2 := Lib.hid hl2
 refine ⟨_, rfl, hHeld.go hN.2.1 (by simp), fun hHeld => ?_⟩
 simp only [xPa, xPb, xPc, xPd, xPe]
 have HY2 := Lib.hid hN.by
 have HFD := Lib.hid (HFD.out.and hN.2.1 (by simp))
 clear hN hn2 hl2
 refine call_at (i := 5) (f := ?_) (args := ?_) rfl (by kernel_rfl) (by rfl) ?_ ?_
 rotate_left 2
 · go_simp
   try first | with_reducible rfl | apply And.intro <;> rfl
 refine (refint_any x.e HX.out.e.2 w2).mono ?_
 rintro e w5 ⟨A5, c5, rfl, hN⟩
 obtain ⟨n5, hn5⟩ : ∃ nn_, nn_ = (encI x.e).length := ⟨_, rfl⟩
 obtain ⟨l5, hl5⟩ : ∃ ll_, ll_ = encI x.e := ⟨_, rfl⟩
 rw [← hn5] at hN ⊢
 rw [← hl5] at hN
 have HB5 : Hid (n5 ≤ 20000) := Lib.hid (by rw [hn5]; have := encI_len x.e HX.out.e.2; omega)
 have HL5 := Lib.hid hl5
 refine ⟨_, rfl, hHeld.go hN.2.1 (by simp), fun hHeld => ?_⟩
 simp only [xPa, xPb, xPc, xPd, xPe]
 have HY5 := Lib.hid hN.by
 have HFD := Lib.hid (HFD.out.and hN.2.1 (by simp))
 have HY2 := Lib.hid (Fr.byk hN.2.1 HY2.out)
 clear hN hn5 hl5
 refine call_at (i := 8) (f := ?_) (args := ?_) rfl (by kernel_rfl) (by rfl) ?_ ?_
 rotate_left 2
 · go_simp
   try first | with_reducible rfl | apply And.intro <;> rfl
 refine (refint_any x.r HX.out.r.2 w5).mono ?_
 rintro e w8 ⟨A8, c8, rfl, hN⟩
 obtain ⟨n8, hn8⟩ : ∃ nn_, nn_ = (encI x.r).length := ⟨_, rfl⟩
 obtain ⟨l8, hl8⟩ : ∃ ll_, ll_ = encI x.r := ⟨_, rfl⟩
 rw [← hn8] at hN ⊢
 rw [← hl8] at hN
 have HB8 : Hid (n8 ≤ 20000) := Lib.hid (by rw [hn8]; have := encI_len x.r HX.out.r.2; omega)
 have HL8 := Lib.hid hl8
 refine ⟨_, rfl, hHeld.go hN.2.1 (by simp), fun hHeld => ?_⟩
 simp only [xPa, xPb, xPc, xPd, xPe]
 have HY8 := Lib.hid hN.by
 have HFD := Lib.hid (HFD.out.and hN.2.1 (by simp))
 have HY2 := Lib.hid (Fr.byk hN.2.1 HY2.out)
 have HY5 := Lib.hid (Fr.byk hN.2.1 HY5.out)
 clear hN hn8 hl8
 refine call_at (i := 11) (f := ?_) (args := ?_) rfl (by kernel_rfl) (by rfl) ?_ ?_
 rotate_left 2
 · go_simp
   try first | with_reducible rfl | apply And.intro <;> rfl
 refine (refint_any x.p HX.out.p.2 w8).mono ?_
 rintro e w11 ⟨A11, c11, rfl, hN⟩
 obtain ⟨n11, hn11⟩ : ∃ nn_, nn_ = (encI x.p).length := ⟨_, rfl⟩
 obtain ⟨l11, hl11⟩ : ∃ ll_, ll_ = encI x.p := ⟨_, rfl⟩
 rw [← hn11] at hN ⊢
 rw [← hl11] at hN
 have HB11 : Hid (n11 ≤ 20000) := Lib.hid (by rw [hn11]; have := encI_len x.p HX.out.p.2; omega)
 have HL11 := Lib.hid hl11
 refine ⟨_, rfl, hHeld.go hN.2.1 (by simp), fun hHeld => ?_⟩
 simp only [xPa, xPb, xPc, xPd, xPe]
 have HY11 := Lib.hid hN.by
 have HFD := Lib.hid (HFD.out.and hN.2.1 (by simp))
 have HY2 := Lib.hid (Fr.byk hN.2.1 HY2.out)
 have HY5 := Lib.hid (Fr.byk hN.2.1 HY5.out)
 have HY8 := Lib.hid (Fr.byk hN.2.1 HY8.out)
 clear hN hn11 hl11
 refine step_at (i := 14) rfl (by kernel_rfl) (by rfl) (fun K hK => ?_)
 refine wp_run (v := ?_) (w' := ?_) ?_ ?_
 rotate_left 2
 · go_simp
   try first | with_reducible rfl | apply And.intro <;> rfl
 refine hK.out _ (w11.alloc (Obj.cells #[.slice A2 n2 c2, .slice A5 n5 c5, .slice A8 n8 c8, .slice A11 n11 c11, .slice (some ⟨w.heap.size, 4, none⟩) 32 32] 52)) (hHeld.alloc _) (fun hHeld => ?_)
 clear hK K
 simp only [xPa, xPb, xPc, xPd, xPe]
 have hfb : Fr [] w11 (w11.alloc (Obj.cells #[.slice A2 n2 c2, .slice A5 n5 c5, .slice A8 n8 c8, .slice A11 n11 c11, .slice (some ⟨w.heap.size, 4, none⟩) 32 32] 52)) := (Fr.refl [] w11).alloc _
 have hbb : Blk (w11.alloc (Obj.cells #[.slice A2 n2 c2, .slice A5 n5 c5, .slice A8 n8 c8, .slice A11 n11 c11, .slice (some ⟨w.heap.size, 4, none⟩) 32 32] 52)) w11.heap.size 52 (([⟨A2, n2, c2, l2⟩, ⟨A5, n5, c5, l5⟩, ⟨A8, n8, c8, l8⟩, ⟨A11, n11, c11, l11⟩, ⟨some ⟨w.heap.size, 4, none⟩, 32, 32, x.h⟩] : List RowV).map RowV.val).toArray := Blk.new _ _ _
 generalize w11.alloc (Obj.cells #[.slice A2 n2 c2, .slice A5 n5 c5, .slice A8 n8 c8, .slice A11 n11 c11, .slice (some ⟨w.heap.size, 4, none⟩) 32 32] 52) = wj at *
 have HFD := Lib.hid (HFD.out.and hfb (by simp))
 have hj := join_big w11.heap.size 5 [⟨A2, n2, c2, l2⟩, ⟨A5, n5, c5, l5⟩, ⟨A8, n8, c8, l8⟩, ⟨A11, n11, c11, l11⟩, ⟨some ⟨w.heap.size, 4, none⟩, 32, 32, x.h⟩] wj hbb rfl (by omega) (by
  intro r hr
  simp only [List.mem_cons, List.not_mem_nil, or_false] at hr
  rcases hr with rfl | rfl | rfl | rfl | rfl
  · exact ⟨Fr.byk hfb HY2.out, HB2.out⟩
  · exact ⟨Fr.byk hfb HY5.out, HB5.out⟩
  · exact ⟨Fr.byk hfb HY8.out, HB8.out⟩
  · exact ⟨Fr.byk hfb HY11.out, HB11.out⟩
  · exact ⟨Fr.byk HFD.out HYH.out, by show 32 ≤ 20000; omega⟩)
 have hJ : joinL [⟨A2, n2, c2, l2⟩, ⟨A5, n5, c5, l5⟩, ⟨A8, n8, c8, l8⟩, ⟨A11, n11, c11, l11⟩, ⟨some ⟨w.heap.size, 4, none⟩, 32, 32, x.h⟩] = x.bare := by
  simp only [joinL, List.map_cons, List.map_nil, List.flatten_cons, List.flatten_nil, HL2.out, HL5.out, HL8.out, HL11.out]
  simp [Wvt.bare]
 rw [hJ] at hj
 obtain ⟨X, hX⟩ : ∃ X, X = x.bare := ⟨_, rfl⟩
 rw [← hX] at hj
 have HXT := Lib.hid hX
 clear hX
 have HJ := Lib.hid hj
 clear hfb hbb hj hJ HY2 HL2 HY5 HL5 HY8 HL8 HY11 HL11
 refine call_at (i := 15) (f := ?_) (args := ?_) rfl (by kernel_rfl) (by rfl) ?_ ?_
 rotate_left 2
 · go_simp
   try first | with_reducible rfl | apply And.intro <;> rfl
 refine HJ.out.mono ?_
 rintro e wk ⟨Aj, cj, rfl, hN⟩
 have HN := Lib.hid (hN.from2 (HF0.out.and HFD.out (by simp)))
 refine ⟨_, rfl, hHeld.go hN.2.1 (by simp), fun hHeld => ?_⟩
 clear hN
 simp only [xPa, xPb, xPc, xPd, xPe]
 refine run_at (i := 16) (v := ?_) rfl (by kernel_rfl) (by rfl) (fun _ _ _ h => h) hHeld (fun w1 hw1 => ?_) ?_
 rotate_left 1
 · skip
   go_simp
   try first | with_reducible rfl | apply And.intro <;> rfl
 simp only [xPa, xPb, xPc, xPd, xPe]
 refine wpAnyH_done (by kernel_rfl) ?_ _
 go_wp2
 go_ret
 rw [← HXT.out]
 exact ⟨Aj, cj, rfl, HN.out⟩
set_option maxHeartbeats 4000000 in
theorem refputDeny_any (x : Wdn) (hx : x.Ok) (C : List Value) (hC : x.cells = C) (w : World) :
  Calls Tryz.prog 32 #[.agg C.toArray] w fun e w' => ∃ A c, e = .returned (.slice A (x.full).length c) ∧ NewB w w' A (x.full).length c (x.full) := by
 obtain ⟨wa, hwa⟩ : ∃ wa, wa = w.alloc (Obj.cells C.toArray 56) := ⟨_, rfl⟩
 have hf0 : Fr [] w wa := by rw [hwa]; exact (Fr.refl [] w).alloc _
 have hb0 : Blk wa w.heap.size 56 x.cells.toArray := by rw [hwa, hC]; exact Blk.new _ _ _
 have HALL : Hid (wa.rangeAt w.heap.size 0 C) := Lib.hid (by rw [← hC]; exact hb0.range)
 have HLN : Hid (C.length = 4) := Lib.hid (by rw [← hC]; exact rfl)
 have hat := Wdn.at_of (o := 0) hb0.range
 have HAT := Lib.hid hat
 have HX := Lib.hid hx
 have HRC := Lib.hid hC
 clear hb0 hx hC hat
 have HF0 := Lib.hid hf0
 have HWA := Lib.hid hwa
 clear hwa hf0
 go_enter Tryz.func32, Tryz.ntmps32
 go_wp2
 rw [← HWA.out]
 refine wp_region_held_drew (S := Fr [] wa) (by kernel_rfl) (Fr.drew (Fr.refl _ wa)) (fun hHeld => ?_)
 have HFD : Hid (Fr [] wa wa.drew) := Lib.hid (Fr.drew (Fr.refl [] wa))
 generalize wa.drew = wd at *
 refine run_at (i := 0) (v := ?_) rfl (by kernel_rfl) (by rfl) (fun _ _ _ h => h) hHeld (fun w1 hw1 => ?_) ?_
 rotate_left 1
 · skip
   go_simp
   try first | with_reducible rfl | apply And.intro <;> rfl
 simp only [xPa, xPb, xPc, xPd, xPe]
 refine run_at (i := 1) (v := ?_) rfl (by kernel_rfl) (by rfl) (fun _ _ _ h => h) hHeld (fun w1 hw1 => ?_) ?_
 rotate_left 1
 · skip
   have hcw0 := hw1.cell (HAT.out.r) (by simp)
   go_simp
   try first | with_reducible rfl | apply And.intro <;> rfl
 simp only [xPa, xPb, xPc, xPd, xPe]
 refine run_at (i := 3) (v := ?_) rfl (by kernel_rfl) (by rfl) (fun _ _ _ h => h) hHeld (fun w1 hw1 => ?_) ?_
 rotate_left 1
 · skip
   go_simp
   try first | with_reducible rfl | apply And.intro <;> rfl
 simp only [xPa, xPb, xPc, xPd, xPe]
 refine run_at (i := 4) (v := ?_) rfl (by kernel_rfl) (by rfl) (fun _ _ _ h => h) hHeld (fun w1 hw1 => ?_) ?_
 rotate_left 1
 · skip
   have hcw0 := hw1.cell (HAT.out.i) (by simp)
   go_simp
   try first | with_reducible rfl | apply And.intro <;> rfl
 simp only [xPa, xPb, xPc, xPd, xPe]
 refine run_at (i := 6) (v := ?_) rfl (by kernel_rfl) (by rfl) (fun _ _ _ h => h) hHeld (fun w1 hw1 => ?_) ?_
 rotate_left 1
 · skip
   go_simp
   try first | with_reducible rfl | apply And.intro <;> rfl
 simp only [xPa, xPb, xPc, xPd, xPe]
 refine row_at (i := 7) rfl (by kernel_rfl) (by rfl) _ _ rfl _ _ rfl _ (fun w1 hw1 => hw1.range (HAT.out.sig) (by simp)) (row_sig) (fun _ _ _ h => h) hHeld ?_
 simp only [xPa, xPb, xPc, xPd, xPe]
 refine call_at (i := 2) (f := ?_) (args := ?_) rfl (by kernel_rfl) (by rfl) ?_ ?_
 rotate_left 2
 · go_simp
   try first | with_reducible rfl | apply And.intro <;> rfl
 refine (refint_any x.r HX.out.r.2 wd).mono ?_
 rintro e w2 ⟨A2, c2, rfl, hN⟩
 obtain ⟨n2, hn2⟩ : ∃ nn_, nn_ = (encI x.r).length := ⟨_, rfl⟩
 obtain ⟨l2, hl2⟩ : ∃ ll_, ll_ = encI x.r := ⟨_, rfl⟩
 rw [← hn2] at hN ⊢
 rw [← hl2] at hN
 have HB2 : Hid (n2 ≤ 20000) := Lib.hid (by rw [hn2]; have := encI_len x.r HX.out.r.2; omega)
 have HL2 := Lib.hid hl2
 refine ⟨_, rfl, hHeld.go hN.2.1 (by simp), fun hHeld => ?_⟩
 simp only [xPa, xPb, xPc, xPd, xPe]
 have HY2 := Lib.hid hN.by
 have HFD := Lib.hid (HFD.out.and hN.2.1 (by simp))
 clear hN hn2 hl2
 refine call_at (i := 5) (f := ?_) (args := ?_) rfl (by kernel_rfl) (by rfl) ?_ ?_
 rotate_left 2
 · go_simp
   try first | with_reducible rfl | apply And.intro <;> rfl
 refine (refint_any x.i HX.out.i.2 w2).mono ?_
 rintro e w5 ⟨A5, c5, rfl, hN⟩
 obtain ⟨n5, hn5⟩ : ∃ nn_, nn_ = (encI x.i).length := ⟨_, rfl⟩
 obtain ⟨l5, hl5⟩ : ∃ ll_, ll_ = encI x.i := ⟨_, rfl⟩
 rw [← hn5] at hN ⊢
 rw [← hl5] at hN
 have HB5 : Hid (n5 ≤ 20000) := Lib.hid (by rw [hn5]; have := encI_len x.i HX.out.i.2; omega)
 have HL5 := Lib.hid hl5
 refine ⟨_, rfl, hHeld.go hN.2.1 (by simp), fun hHeld => ?_⟩
 simp only [xPa, xPb, xPc, xPd, xPe]
 have HY5 := Lib.hid hN.by
 have HFD := Lib.hid (HFD.out.and hN.2.1 (by simp))
 have HY2 := Lib.hid (Fr.byk hN.2.1 HY2.out)
 clear hN hn5 hl5
 refine call_at (i := 8) (f := ?_) (args := ?_) rfl (by kernel_rfl) (by rfl) ?_ ?_
 rotate_left 2
 · go_simp
   try first | with_reducible rfl | apply And.intro <;> rfl
 refine (refsig_any x.b x.m HX.out.b HX.out.m w5).mono ?_
 rintro e w8 ⟨A8, c8, rfl, hN⟩
 obtain ⟨n8, hn8⟩ : ∃ nn_, nn_ = (sgL x.b x.m).length := ⟨_, rfl⟩
 obtain ⟨l8, hl8⟩ : ∃ ll_, ll_ = sgL x.b x.m := ⟨_, rfl⟩
 rw [← hn8] at hN ⊢
 rw [← hl8] at hN
 have HB8 : Hid (n8 ≤ 20000) := Lib.hid (by rw [hn8]; have := encI_len x.b HX.out.b.2; have := encI_len x.m HX.out.m.2; simp only [sgL, List.length_append]; omega)
 have HL8 := Lib.hid hl8
 refine ⟨_, rfl, hHeld.go hN.2.1 (by simp), fun hHeld => ?_⟩
 simp only [xPa, xPb, xPc, xPd, xPe]
 have HY8 := Lib.hid hN.by
 have HFD := Lib.hid (HFD.out.and hN.2.1 (by simp))
 have HY2 := Lib.hid (Fr.byk hN.2.1 HY2.out)
 have HY5 := Lib.hid (Fr.byk hN.2.1 HY5.out)
 clear hN hn8 hl8
 refine step_at (i := 9) rfl (by kernel_rfl) (by rfl) (fun K hK => ?_)
 refine wp_run (v := ?_) (w' := ?_) ?_ ?_
 rotate_left 2
 · go_simp
   try first | with_reducible rfl | apply And.intro <;> rfl
 refine hK.out _ (w8.alloc (Obj.cells #[.slice A2 n2 c2, .slice A5 n5 c5, .slice A8 n8 c8] 52)) (hHeld.alloc _) (fun hHeld => ?_)
 clear hK K
 simp only [xPa, xPb, xPc, xPd, xPe]
 have hfb : Fr [] w8 (w8.alloc (Obj.cells #[.slice A2 n2 c2, .slice A5 n5 c5, .slice A8 n8 c8] 52)) := (Fr.refl [] w8).alloc _
 have hbb : Blk (w8.alloc (Obj.cells #[.slice A2 n2 c2, .slice A5 n5 c5, .slice A8 n8 c8] 52)) w8.heap.size 52 (([⟨A2, n2, c2, l2⟩, ⟨A5, n5, c5, l5⟩, ⟨A8, n8, c8, l8⟩] : List RowV).map RowV.val).toArray := Blk.new _ _ _
 generalize w8.alloc (Obj.cells #[.slice A2 n2 c2, .slice A5 n5 c5, .slice A8 n8 c8] 52) = wj at *
 have HFD := Lib.hid (HFD.out.and hfb (by simp))
 have hj := join_big w8.heap.size 3 [⟨A2, n2, c2, l2⟩, ⟨A5, n5, c5, l5⟩, ⟨A8, n8, c8, l8⟩] wj hbb rfl (by omega) (by
  intro r hr
  simp only [List.mem_cons, List.not_mem_nil, or_false] at hr
  rcases hr with rfl | rfl | rfl
  · exact ⟨Fr.byk hfb HY2.out, HB2.out⟩
  · exact ⟨Fr.byk hfb HY5.out, HB5.out⟩
  · exact ⟨Fr.byk hfb HY8.out, HB8.out⟩)
 have hJ : joinL [⟨A2, n2, c2, l2⟩, ⟨A5, n5, c5, l5⟩, ⟨A8, n8, c8, l8⟩] = x.full := by
  simp only [joinL, List.map_cons, List.map_nil, List.flatten_cons, List.flatten_nil, HL2.out, HL5.out, HL8.out]
  simp [Wdn.full, Wdn.bare]
 rw [hJ] at hj
 obtain ⟨X, hX⟩ : ∃ X, X = x.full := ⟨_, rfl⟩
 rw [← hX] at hj
 have HXT := Lib.hid hX
 clear hX
 have HJ := Lib.hid hj
 clear hfb hbb hj hJ HY2 HL2 HY5 HL5 HY8 HL8
 refine call_at (i := 10) (f := ?_) (args := ?_) rfl (by kernel_rfl) (by rfl) ?_ ?_
 rotate_left 2
 · go_simp
   try first | with_reducible rfl | apply And.intro <;> rfl
 refine HJ.out.mono ?_
 rintro e wk ⟨Aj, cj, rfl, hN⟩
 have HN := Lib.hid (hN.from2 (HF0.out.and HFD.out (by simp)))
 refine ⟨_, rfl, hHeld.go hN.2.1 (by simp), fun hHeld => ?_⟩
 clear hN
 simp only [xPa, xPb, xPc, xPd, xPe]
 refine run_at (i := 11) (v := ?_) rfl (by kernel_rfl) (by rfl) (fun _ _ _ h => h) hHeld (fun w1 hw1 => ?_) ?_
 rotate_left 1
 · skip
   go_simp
   try first | with_reducible rfl | apply And.intro <;> rfl
 simp only [xPa, xPb, xPc, xPd, xPe]
 refine wpAnyH_done (by kernel_rfl) ?_ _
 go_wp2
 go_ret
 rw [← HXT.out]
 exact ⟨Aj, cj, rfl, HN.out⟩
set_option maxHeartbeats 4000000 in
theorem refputStamp_any (x : Wst) (hx : x.Ok) (C : List Value) (hC : x.cells = C) (w : World) :
  Calls Tryz.prog 22 #[.agg C.toArray] w fun e w' => ∃ A c, e = .returned (.slice A (x.full).length c) ∧ NewB w w' A (x.full).length c (x.full) := by
 obtain ⟨wa, hwa⟩ : ∃ wa, wa = w.alloc (Obj.cells C.toArray 32) := ⟨_, rfl⟩
 have hf0 : Fr [] w wa := by rw [hwa]; exact (Fr.refl [] w).alloc _
 have hb0 : Blk wa w.heap.size 32 x.cells.toArray := by rw [hwa, hC]; exact Blk.new _ _ _
 have HALL : Hid (wa.rangeAt w.heap.size 0 C) := Lib.hid (by rw [← hC]; exact hb0.range)
 have HLN : Hid (C.length = 38) := Lib.hid (by rw [← hC]; exact Wst.len hx.h)
 have hat := Wst.at_of (o := 0) hb0.range hx.h
 have HAT := Lib.hid hat
 have HX := Lib.hid hx
 have HRC := Lib.hid hC
 clear hb0 hx hC hat
 have HF0 := Lib.hid hf0
 have HWA := Lib.hid hwa
 clear hwa hf0
 go_enter Tryz.func22, Tryz.ntmps22
 go_wp2
 rw [← HWA.out]
 refine wp_region_held_drew (S := Fr [] wa) (by kernel_rfl) (Fr.drew (Fr.refl _ wa)) (fun hHeld => ?_)
 have HFD : Hid (Fr [] wa wa.drew) := Lib.hid (Fr.drew (Fr.refl [] wa))
 generalize wa.drew = wd at *
 refine row_at (i := 0) rfl (by kernel_rfl) (by rfl) _ _ rfl _ _ rfl _ (fun w1 hw1 => hw1.range (HALL.out) (by simp)) (row_stamp.of HLN.out) (fun _ _ _ h => h) hHeld ?_
 simp only [xPa, xPb, xPc, xPd, xPe]
 refine run_at (i := 2) (v := ?_) rfl (by kernel_rfl) (by rfl) (fun _ _ _ h => h) hHeld (fun w1 hw1 => ?_) ?_
 rotate_left 1
 · skip
   go_simp
   try first | with_reducible rfl | apply And.intro <;> rfl
 simp only [xPa, xPb, xPc, xPd, xPe]
 refine row_at (i := 3) rfl (by kernel_rfl) (by rfl) _ _ rfl _ _ rfl _ (fun w1 hw1 => hw1.range (HAT.out.sig) (by simp)) (row_sig) (fun _ _ _ h => h) hHeld ?_
 simp only [xPa, xPb, xPc, xPd, xPe]
 refine call_at (i := 1) (f := ?_) (args := ?_) rfl (by kernel_rfl) (by rfl) ?_ ?_
 rotate_left 2
 · go_simp
   try first | with_reducible rfl | apply And.intro <;> rfl
 refine (refbare_any x HX.out C HRC.out wd).mono ?_
 rintro e w1 ⟨A1, c1, rfl, hN⟩
 obtain ⟨n1, hn1⟩ : ∃ nn_, nn_ = (x.bare).length := ⟨_, rfl⟩
 obtain ⟨l1, hl1⟩ : ∃ ll_, ll_ = x.bare := ⟨_, rfl⟩
 rw [← hn1] at hN ⊢
 rw [← hl1] at hN
 have HB1 : Hid (n1 ≤ 20000) := Lib.hid (by rw [hn1]; have := Wst.bare_len HX.out; omega)
 have HL1 := Lib.hid hl1
 refine ⟨_, rfl, hHeld.go hN.2.1 (by simp), fun hHeld => ?_⟩
 simp only [xPa, xPb, xPc, xPd, xPe]
 have HY1 := Lib.hid hN.by
 have HFD := Lib.hid (HFD.out.and hN.2.1 (by simp))
 clear hN hn1 hl1
 refine call_at (i := 4) (f := ?_) (args := ?_) rfl (by kernel_rfl) (by rfl) ?_ ?_
 rotate_left 2
 · go_simp
   try first | with_reducible rfl | apply And.intro <;> rfl
 refine (refsig_any x.b x.m HX.out.b HX.out.m w1).mono ?_
 rintro e w4 ⟨A4, c4, rfl, hN⟩
 obtain ⟨n4, hn4⟩ : ∃ nn_, nn_ = (sgL x.b x.m).length := ⟨_, rfl⟩
 obtain ⟨l4, hl4⟩ : ∃ ll_, ll_ = sgL x.b x.m := ⟨_, rfl⟩
 rw [← hn4] at hN ⊢
 rw [← hl4] at hN
 have HB4 : Hid (n4 ≤ 20000) := Lib.hid (by rw [hn4]; have := encI_len x.b HX.out.b.2; have := encI_len x.m HX.out.m.2; simp only [sgL, List.length_append]; omega)
 have HL4 := Lib.hid hl4
 refine ⟨_, rfl, hHeld.go hN.2.1 (by simp), fun hHeld => ?_⟩
 simp only [xPa, xPb, xPc, xPd, xPe]
 have HY4 := Lib.hid hN.by
 have HFD := Lib.hid (HFD.out.and hN.2.1 (by simp))
 have HY1 := Lib.hid (Fr.byk hN.2.1 HY1.out)
 clear hN hn4 hl4
 refine step_at (i := 5) rfl (by kernel_rfl) (by rfl) (fun K hK => ?_)
 refine wp_run (v := ?_) (w' := ?_) ?_ ?_
 rotate_left 2
 · go_simp
   try first | with_reducible rfl | apply And.intro <;> rfl
 refine hK.out _ (w4.alloc (Obj.cells #[.slice A1 n1 c1, .slice A4 n4 c4] 52)) (hHeld.alloc _) (fun hHeld => ?_)
 clear hK K
 simp only [xPa, xPb, xPc, xPd, xPe]
 have hfb : Fr [] w4 (w4.alloc (Obj.cells #[.slice A1 n1 c1, .slice A4 n4 c4] 52)) := (Fr.refl [] w4).alloc _
 have hbb : Blk (w4.alloc (Obj.cells #[.slice A1 n1 c1, .slice A4 n4 c4] 52)) w4.heap.size 52 (([⟨A1, n1, c1, l1⟩, ⟨A4, n4, c4, l4⟩] : List RowV).map RowV.val).toArray := Blk.new _ _ _
 generalize w4.alloc (Obj.cells #[.slice A1 n1 c1, .slice A4 n4 c4] 52) = wj at *
 have HFD := Lib.hid (HFD.out.and hfb (by simp))
 have hj := join_big w4.heap.size 2 [⟨A1, n1, c1, l1⟩, ⟨A4, n4, c4, l4⟩] wj hbb rfl (by omega) (by
  intro r hr
  simp only [List.mem_cons, List.not_mem_nil, or_false] at hr
  rcases hr with rfl | rfl
  · exact ⟨Fr.byk hfb HY1.out, HB1.out⟩
  · exact ⟨Fr.byk hfb HY4.out, HB4.out⟩)
 have hJ : joinL [⟨A1, n1, c1, l1⟩, ⟨A4, n4, c4, l4⟩] = x.full := by
  simp only [joinL, List.map_cons, List.map_nil, List.flatten_cons, List.flatten_nil, HL1.out, HL4.out]
  simp [Wst.full]
 rw [hJ] at hj
 obtain ⟨X, hX⟩ : ∃ X, X = x.full := ⟨_, rfl⟩
 rw [← hX] at hj
 have HXT := Lib.hid hX
 clear hX
 have HJ := Lib.hid hj
 clear hfb hbb hj hJ HY1 HL1 HY4 HL4
 refine call_at (i := 6) (f := ?_) (args := ?_) rfl (by kernel_rfl) (by rfl) ?_ ?_
 rotate_left 2
 · go_simp
   try first | with_reducible rfl | apply And.intro <;> rfl
 refine HJ.out.mono ?_
 rintro e wk ⟨Aj, cj, rfl, hN⟩
 have HN := Lib.hid (hN.from2 (HF0.out.and HFD.out (by simp)))
 refine ⟨_, rfl, hHeld.go hN.2.1 (by simp), fun hHeld => ?_⟩
 clear hN
 simp only [xPa, xPb, xPc, xPd, xPe]
 refine run_at (i := 7) (v := ?_) rfl (by kernel_rfl) (by rfl) (fun _ _ _ h => h) hHeld (fun w1 hw1 => ?_) ?_
 rotate_left 1
 · skip
   go_simp
   try first | with_reducible rfl | apply And.intro <;> rfl
 simp only [xPa, xPb, xPc, xPd, xPe]
 refine wpAnyH_done (by kernel_rfl) ?_ _
 go_wp2
 go_ret
 rw [← HXT.out]
 exact ⟨Aj, cj, rfl, HN.out⟩
end Go.Proofs.YtdenpfcgghangaaGreat

namespace Go.Proofs.YtdenpfcgghangaaGreat
open Go.RowKit
set_option maxRecDepth 100000
theorem reflen_any {α : Type} (l : List α) (n : Nat) (hn : l.length = n) (hb : n ≤ 1000) (w : World) :
  Calls Tryz.prog 20 #[.int .i64 (n : Int)] w fun e w' => ∃ A c, e = .returned (.slice A (encI (l.length : Int)).length c) ∧ NewB w w' A (encI (l.length : Int)).length c (encI (l.length : Int)) := by
 rw [hn]
 exact refint_any (n : Int) (by omega) w
theorem NewB.nxt {w w1 w2 : World} {A : Option Addr} {n c : Nat} {l : List UInt8} (h : NewB w w1 A n c l) (hf : Fr [] w1 w2) : NewB w w2 A n c l := ⟨own_keep h.1 hf (by simp), h.2.1.and hf (by simp), h.2.2⟩
theorem flat_snoc {α : Type} {l : List α} {k : Nat} {v : α} (h : l[k]? = some v) (full : α → List UInt8) : (l.take (k + 1)).flatMap full = (l.take k).flatMap full ++ full v := by
 rw [List.take_add_one, h]
 simp
set_option maxHeartbeats 4000000 in
theorem refputCert_any (x : Wce) (w : World) (hx : x.Ok w []) (C : List Value) (hC : x.cells = C) :
  Calls Tryz.prog 23 #[.agg C.toArray] w fun e w' => ∃ A c, e = .returned (.slice A (x.full).length c) ∧ NewB w w' A (x.full).length c (x.full) := by
 obtain ⟨wa, hwa⟩ : ∃ wa, wa = w.alloc (Obj.cells C.toArray 35) := ⟨_, rfl⟩
 have hf0 : Fr [] w wa := by rw [hwa]; exact (Fr.refl [] w).alloc _
 have hb0 : Blk wa w.heap.size 35 x.cells.toArray := by rw [hwa, hC]; exact Blk.new _ _ _
 have HALL : Hid (wa.rangeAt w.heap.size 0 C) := Lib.hid (by rw [← hC]; exact hb0.range)
 have HCL : Hid (wa.cell? ⟨w.heap.size, 37, none⟩ = some (.slice x.A x.n x.d)) := Lib.hid (by have h := hb0.range 37 (.slice x.A x.n x.d) (by rw [Wce.cells, List.getElem?_append_right (by rw [Wcm.len hx.k.h]; exact Nat.le_refl _), Wcm.len hx.k.h]; rfl); simpa using h)
 have HKR0 : wa.rangeAt w.heap.size 0 x.k.cells := rangeAt_sub (xs := []) (ys := x.k.cells) (zs := [.slice x.A x.n x.d]) hb0.range
 have HKL0 : x.k.cells.length = 37 := Wcm.len hx.k.h
 generalize hK : x.k.cells = K at *
 have HKR := Lib.hid HKR0
 have HKL := Lib.hid HKL0
 have HRK := Lib.hid hK
 clear hK HKR0 HKL0
 have HX := Lib.hid hx
 have HRC := Lib.hid hC
 clear hb0 hx hC
 have HF0 := Lib.hid hf0
 have HWA := Lib.hid hwa
 clear hwa hf0
 go_enter Tryz.func23, Tryz.ntmps23
 go_wp2
 rw [← HWA.out]
 refine wp_region_held_drew (S := Fr [] wa) (by kernel_rfl) (Fr.drew (Fr.refl _ wa)) (fun hHeld => ?_)
 have HFD : Hid (Fr [] wa wa.drew) := Lib.hid (Fr.drew (Fr.refl [] wa))
 generalize wa.drew = wd at *
 refine run_at (i := 0) (v := ?_) rfl (by kernel_rfl) (by rfl) (fun _ _ _ h => h) hHeld (fun w1 hw1 => ?_) ?_
 rotate_left 1
 · skip
   go_simp
   try first | with_reducible rfl | apply And.intro <;> rfl
 simp only [xPa, xPb, xPc, xPd, xPe]
 refine row_at (i := 1) rfl (by kernel_rfl) (by rfl) _ _ rfl _ _ rfl _ (fun w1 hw1 => hw1.range (HKR.out) (by simp)) (row_commit.of HKL.out) (fun _ _ _ h => h) hHeld ?_
 simp only [xPa, xPb, xPc, xPd, xPe]
 refine run_at (i := 3) (v := ?_) rfl (by kernel_rfl) (by rfl) (fun _ _ _ h => h) hHeld (fun w1 hw1 => ?_) ?_
 rotate_left 1
 · skip
   go_simp
   try first | with_reducible rfl | apply And.intro <;> rfl
 simp only [xPa, xPb, xPc, xPd, xPe]
 refine run_at (i := 4) (v := ?_) rfl (by kernel_rfl) (by rfl) (fun _ _ _ h => h) hHeld (fun w1 hw1 => ?_) ?_
 rotate_left 1
 · skip
   have hcw0 := hw1.cell (HCL.out) (by simp)
   go_simp
   try first | with_reducible rfl | apply And.intro <;> rfl
 simp only [xPa, xPb, xPc, xPd, xPe]
 refine run_at (i := 5) (v := ?_) rfl (by kernel_rfl) (by rfl) (fun _ _ _ h => h) hHeld (fun w1 hw1 => ?_) ?_
 rotate_left 1
 · skip
   go_simp
   try first | with_reducible rfl | apply And.intro <;> rfl
 simp only [xPa, xPb, xPc, xPd, xPe]
 refine call_at (i := 2) (f := ?_) (args := ?_) rfl (by kernel_rfl) (by rfl) ?_ ?_
 rotate_left 2
 · go_simp
   try first | with_reducible rfl | apply And.intro <;> rfl
 refine (refputCommit_any x.k HX.out.k K HRK.out wd).mono ?_
 rintro e w2 ⟨A2, c2, rfl, hN⟩
 obtain ⟨n2, hn2⟩ : ∃ nn_, nn_ = (x.k.full).length := ⟨_, rfl⟩
 obtain ⟨l2, hl2⟩ : ∃ ll_, ll_ = x.k.full := ⟨_, rfl⟩
 rw [← hn2] at hN ⊢
 rw [← hl2] at hN
 have HB2 : Hid (n2 ≤ 20000) := Lib.hid (by rw [hn2]; have := Wcm.full_len HX.out.k; omega)
 have HL2 := Lib.hid hl2
 refine ⟨_, rfl, hHeld.go hN.2.1 (by simp), fun hHeld => ?_⟩
 simp only [xPa, xPb, xPc, xPd, xPe]
 have HY2 := Lib.hid hN.by
 have HFD := Lib.hid (HFD.out.and hN.2.1 (by simp))
 clear hN hn2 hl2
 refine call_at (i := 6) (f := ?_) (args := ?_) rfl (by kernel_rfl) (by rfl) ?_ ?_
 rotate_left 2
 · go_simp
   try first | with_reducible rfl | apply And.intro <;> rfl
 refine (reflen_any x.l _ HX.out.l.1 (show x.n ≤ 1000 by have := HX.out.n; omega) w2).mono ?_
 rintro e w6 ⟨A6, c6, rfl, hN⟩
 obtain ⟨n6, hn6⟩ : ∃ nn_, nn_ = (encI (x.l.length : Int)).length := ⟨_, rfl⟩
 obtain ⟨l6, hl6⟩ : ∃ ll_, ll_ = encI (x.l.length : Int) := ⟨_, rfl⟩
 rw [← hn6] at hN ⊢
 rw [← hl6] at hN
 have HB6 : Hid (n6 ≤ 20000) := Lib.hid (by rw [hn6]; have := encI_len (x.l.length : Int) (by have := (show x.n ≤ 1000 by have := HX.out.n; omega); have := HX.out.l.1; omega); omega)
 have HL6 := Lib.hid hl6
 refine ⟨_, rfl, hHeld.go hN.2.1 (by simp), fun hHeld => ?_⟩
 simp only [xPa, xPb, xPc, xPd, xPe]
 have HY6 := Lib.hid hN.by
 have HFD := Lib.hid (HFD.out.and hN.2.1 (by simp))
 have HY2 := Lib.hid (Fr.byk hN.2.1 HY2.out)
 clear hN hn6 hl6
 refine step_at (i := 7) rfl (by kernel_rfl) (by rfl) (fun K hK => ?_)
 refine wp_run (v := ?_) (w' := ?_) ?_ ?_
 rotate_left 2
 · go_simp
   try first | with_reducible rfl | apply And.intro <;> rfl
 refine hK.out _ (w6.alloc (Obj.cells #[.slice A2 n2 c2, .slice A6 n6 c6] 52)) (hHeld.alloc _) (fun hHeld => ?_)
 clear hK K
 simp only [xPa, xPb, xPc, xPd, xPe]
 have hfb : Fr [] w6 (w6.alloc (Obj.cells #[.slice A2 n2 c2, .slice A6 n6 c6] 52)) := (Fr.refl [] w6).alloc _
 have hbb : Blk (w6.alloc (Obj.cells #[.slice A2 n2 c2, .slice A6 n6 c6] 52)) w6.heap.size 52 (([⟨A2, n2, c2, l2⟩, ⟨A6, n6, c6, l6⟩] : List RowV).map RowV.val).toArray := Blk.new _ _ _
 generalize w6.alloc (Obj.cells #[.slice A2 n2 c2, .slice A6 n6 c6] 52) = wj at *
 have HFD := Lib.hid (HFD.out.and hfb (by simp))
 have hj := join_big w6.heap.size 2 [⟨A2, n2, c2, l2⟩, ⟨A6, n6, c6, l6⟩] wj hbb rfl (by omega) (by
  intro r hr
  simp only [List.mem_cons, List.not_mem_nil, or_false] at hr
  rcases hr with rfl | rfl
  · exact ⟨Fr.byk hfb HY2.out, HB2.out⟩
  · exact ⟨Fr.byk hfb HY6.out, HB6.out⟩)
 have hJ : joinL [⟨A2, n2, c2, l2⟩, ⟨A6, n6, c6, l6⟩] = x.k.full ++ encI (x.l.length : Int) := by
  simp only [joinL, List.map_cons, List.map_nil, List.flatten_cons, List.flatten_nil, HL2.out, HL6.out]
  simp []
 rw [hJ] at hj
 obtain ⟨X, hX⟩ : ∃ X, X = x.k.full ++ encI (x.l.length : Int) := ⟨_, rfl⟩
 rw [← hX] at hj
 have HXT := Lib.hid hX
 clear hX
 have HJ := Lib.hid hj
 clear hfb hbb hj hJ HY2 HL2 HY6 HL6
 refine call_at (i := 8) (f := ?_) (args := ?_) rfl (by kernel_rfl) (by rfl) ?_ ?_
 rotate_left 2
 · go_simp
   try first | with_reducible rfl | apply And.intro <;> rfl
 refine HJ.out.mono ?_
 rintro e wk ⟨Aj, cj, rfl, hN⟩
 have HN := Lib.hid (hN.from2 (HFD.out))
 refine ⟨_, rfl, hHeld.go hN.2.1 (by simp), fun hHeld => ?_⟩
 clear hN
 simp only [xPa, xPb, xPc, xPd, xPe]
 refine run_at (i := 9) (v := ?_) rfl (by kernel_rfl) (by rfl) (fun _ _ _ h => h) hHeld (fun w1 hw1 => ?_) ?_
 rotate_left 1
 · skip
   go_simp
   try first | with_reducible rfl | apply And.intro <;> rfl
 simp only [xPa, xPb, xPc, xPd, xPe]
 refine wpAnyH_done (by kernel_rfl) ?_ _
 have HFK := Lib.hid hHeld
 have HNK : Hid (NewB wa wk Aj X.length cj X) := Lib.hid HN.out
 clear hHeld
 have HXB : Hid (X.length ≤ 1000) := Lib.hid (by rw [HXT.out]; have b1 := Wcm.full_len HX.out.k; have b2 := encI_len (x.l.length : Int) (by have := HX.out.l.1; have := HX.out.n; omega); simp only [List.length_append]; omega)
 have hc := HFK.out.cell HCL.out (by simp)
 go_wp2
 clear hc
 go_loopw [3, 17] (fun s i wr => ∃ (k : Nat) (A4 : Option Addr) (c4 : Nat) (L : List UInt8), k ≤ x.n ∧ i = .int .i64 k ∧ s = .slice A4 L.length c4 ∧ Hid (L = X ++ (x.l.take k).flatMap Wst.full) ∧ Hid (L.length ≤ 1000 + 100 * k) ∧ Hid (NewB wa wr A4 L.length c4 L)) (fun _ i _ => x.n - (intOf i).toNat)
 case atStart => exact ⟨0, Aj, cj, X, by omega, rfl, rfl, Lib.hid (by simp), Lib.hid (by have := HXB.out; omega), HNK⟩
 case round =>
  obtain ⟨k, A4, c4, L, hk, rfl, rfl, HE, HB, HN⟩ := hrel
  have hc := HN.out.2.1.cell HCL.out (by simp)
  have hnn := HX.out.n
  by_cases hlt : k < x.n
  · obtain ⟨ad, v, hA, hv, hcl, hok, hcells⟩ := HX.out.l.at (i := k) hlt
    rw [hA] at hc
    have HCELLS : Hid (∀ j u, (Wst.cells v)[j]? = some u → wr.cell? ((ad.add (k * 38)).add j) = some u) := Lib.hid (fun j u hj => HN.out.2.1.cell (HF0.out.cell (hcells j u hj) (by simp)) (by simp))
    have HCLN := Lib.hid hcl
    have HOK := Lib.hid hok
    have HV := Lib.hid hv
    have hk0 : (0 : Int) ≤ k := by omega
    clear hcells hcl hok hv hA
    generalize hC : Wst.cells v = CV at *
    have HCV := Lib.hid hC
    clear hC
    have HFW : Hid (Fr [] w wr) := Lib.hid (HF0.out.and HN.out.2.1 (by simp))
    go_wp2_with (first | (refine wpList_cells rfl 32 _ rfl _ rfl CV HCELLS.out (row_stamp.of HCLN.out) ?_))
    refine (refputStamp_any v HOK.out CV HCV.out wr).mono ?_
    rintro e w2 ⟨A5, c5, rfl, hN5⟩
    have hfl : (Wst.full v).length ≤ 100 := Wst.full_len HOK.out
    obtain ⟨F, hF⟩ : ∃ F, F = Wst.full v := ⟨_, rfl⟩
    rw [show v.full = F from hF.symm] at hN5 ⊢
    rw [← hF] at hfl
    have HFF := Lib.hid hF
    have HFL := Lib.hid hfl
    have HY := Lib.hid hN5.by
    have HNB := Lib.hid (HN.out.nxt hN5.2.1)
    clear hN5 HN hF hfl
    go_wp2_with (at_builtin; refine Stop.mk ?_)
    refine Stop.go ?_
    refine wpList_append_bytes _ rfl _ _ _ rfl 5 Tryz.underlying52 info_u8 (.slice A4 L.length c4) L.length L rfl HNB.out.1 A5 F.length c5 F rfl HY.out (by have := HB.out; have := HFL.out; omega) ?_
    intro A6 c6 w6 ho6 hg6 hat6
    have hN6 := NewB.grow HNB.out.2.1 HNB.out.2.2 ho6 hg6 hat6
    have hl6 : (L ++ F).length = L.length + F.length := List.length_append
    have hE6 : L ++ F = X ++ (x.l.take (k + 1)).flatMap Wst.full := by rw [flat_snoc HV.out, HE.out, HFF.out, List.append_assoc]
    have hB6 : (L ++ F).length ≤ 1000 + 100 * (k + 1) := by have := HB.out; have := HFL.out; rw [hl6]; omega
    rw [← hl6] at hN6 ⊢
    generalize L ++ F = L6 at *
    have HN6 := Lib.hid hN6
    have HE6 := Lib.hid hE6
    have HB6 := Lib.hid hB6
    clear ho6 hg6 hat6 hN6 hl6 hE6 hB6 hc
    go_wp2
    go_roundw
    case rel => exact ⟨k + 1, A6, c6, L6, by omega, by go_num, rfl, HE6, HB6, HN6⟩
    case measure => simp [intOf]; omega
  · have hkn : k = x.n := by omega
    have HE2 : Hid (L = X ++ x.l.flatMap Wst.full) := Lib.hid (by have h := HE.out; rwa [hkn, List.take_of_length_le (by rw [HX.out.l.1]; exact Nat.le_refl _)] at h)
    have hd : decide (k < x.n) = false := by simp; omega
    have HB2 : Hid (L.length ≤ 1000 + 100 * x.n) := Lib.hid (by have := HB.out; rw [hkn] at this; exact this)
    clear hkn hlt HE HB
    go_wp2
    go_ret
    have hfin : x.full = L := by rw [HE2.out, HXT.out]; simp [Wce.full, listL, List.append_assoc]
    rw [hfin]
    exact ⟨A4, c4, rfl, HN.out.from2 HF0.out⟩
set_option maxHeartbeats 4000000 in
theorem refbarePromise_any (x : Wpr) (w : World) (hx : x.Ok w []) (C : List Value) (hC : x.cells = C) :
  Calls Tryz.prog 73 #[.agg C.toArray] w fun e w' => ∃ A c, e = .returned (.slice A (x.bare).length c) ∧ NewB w w' A (x.bare).length c (x.bare) := by
 obtain ⟨wa, hwa⟩ : ∃ wa, wa = w.alloc (Obj.cells C.toArray 40) := ⟨_, rfl⟩
 have hf0 : Fr [] w wa := by rw [hwa]; exact (Fr.refl [] w).alloc _
 have hb0 : Blk wa w.heap.size 40 x.cells.toArray := by rw [hwa, hC]; exact Blk.new _ _ _
 have HALL : Hid (wa.rangeAt w.heap.size 0 C) := Lib.hid (by rw [← hC]; exact hb0.range)
 have HC0 : Hid (wa.cell? ⟨w.heap.size, 0, none⟩ = some (.int .i64 x.r)) := Lib.hid (by have h := hb0.range (cs := x.cells) 0 _ rfl; simpa using h)
 have HC1 : Hid (wa.cell? ⟨w.heap.size, 1, none⟩ = some (.int .i64 x.e)) := Lib.hid (by have h := hb0.range (cs := x.cells) 1 _ rfl; simpa using h)
 have HC2 : Hid (wa.cell? ⟨w.heap.size, 2, none⟩ = some (.int .u64 (x.t : Int))) := Lib.hid (by have h := hb0.range (cs := x.cells) 2 _ rfl; simpa using h)
 have HC3 : Hid (wa.cell? ⟨w.heap.size, 3, none⟩ = some (.slice x.A x.n x.d)) := Lib.hid (by have h := hb0.range (cs := x.cells) 3 _ rfl; simpa using h)
 have HX := Lib.hid hx
 have HRC := Lib.hid hC
 clear hb0 hx hC
 have HF0 := Lib.hid hf0
 have HWA := Lib.hid hwa
 clear hwa hf0
 go_enter Tryz.func73, Tryz.ntmps73
 go_wp2
 rw [← HWA.out]
 refine wp_region_held_drew (S := Fr [] wa) (by kernel_rfl) (Fr.drew (Fr.refl _ wa)) (fun hHeld => ?_)
 have HFD : Hid (Fr [] wa wa.drew) := Lib.hid (Fr.drew (Fr.refl [] wa))
 generalize wa.drew = wd at *
 refine run_at (i := 0) (v := ?_) rfl (by kernel_rfl) (by rfl) (fun _ _ _ h => h) hHeld (fun w1 hw1 => ?_) ?_
 rotate_left 1
 · skip
   go_simp
   try first | with_reducible rfl | apply And.intro <;> rfl
 simp only [xPa, xPb, xPc, xPd, xPe]
 refine run_at (i := 1) (v := ?_) rfl (by kernel_rfl) (by rfl) (fun _ _ _ h => h) hHeld (fun w1 hw1 => ?_) ?_
 rotate_left 1
 · skip
   have hcw0 := hw1.cell (HC0.out) (by simp)
   go_simp
   try first | with_reducible rfl | apply And.intro <;> rfl
 simp only [xPa, xPb, xPc, xPd, xPe]
 refine run_at (i := 3) (v := ?_) rfl (by kernel_rfl) (by rfl) (fun _ _ _ h => h) hHeld (fun w1 hw1 => ?_) ?_
 rotate_left 1
 · skip
   go_simp
   try first | with_reducible rfl | apply And.intro <;> rfl
 simp only [xPa, xPb, xPc, xPd, xPe]
 refine run_at (i := 4) (v := ?_) rfl (by kernel_rfl) (by rfl) (fun _ _ _ h => h) hHeld (fun w1 hw1 => ?_) ?_
 rotate_left 1
 · skip
   have hcw0 := hw1.cell (HC1.out) (by simp)
   go_simp
   try first | with_reducible rfl | apply And.intro <;> rfl
 simp only [xPa, xPb, xPc, xPd, xPe]
 refine run_at (i := 6) (v := ?_) rfl (by kernel_rfl) (by rfl) (fun _ _ _ h => h) hHeld (fun w1 hw1 => ?_) ?_
 rotate_left 1
 · skip
   go_simp
   try first | with_reducible rfl | apply And.intro <;> rfl
 simp only [xPa, xPb, xPc, xPd, xPe]
 refine run_at (i := 7) (v := ?_) rfl (by kernel_rfl) (by rfl) (fun _ _ _ h => h) hHeld (fun w1 hw1 => ?_) ?_
 rotate_left 1
 · skip
   have hcw0 := hw1.cell (HC2.out) (by simp)
   go_simp
   try first | with_reducible rfl | apply And.intro <;> rfl
 simp only [xPa, xPb, xPc, xPd, xPe]
 refine run_at (i := 9) (v := ?_) rfl (by kernel_rfl) (by rfl) (fun _ _ _ h => h) hHeld (fun w1 hw1 => ?_) ?_
 rotate_left 1
 · skip
   go_simp
   try first | with_reducible rfl | apply And.intro <;> rfl
 simp only [xPa, xPb, xPc, xPd, xPe]
 refine run_at (i := 10) (v := ?_) rfl (by kernel_rfl) (by rfl) (fun _ _ _ h => h) hHeld (fun w1 hw1 => ?_) ?_
 rotate_left 1
 · skip
   have hcw0 := hw1.cell (HC3.out) (by simp)
   go_simp
   try first | with_reducible rfl | apply And.intro <;> rfl
 simp only [xPa, xPb, xPc, xPd, xPe]
 refine run_at (i := 11) (v := ?_) rfl (by kernel_rfl) (by rfl) (fun _ _ _ h => h) hHeld (fun w1 hw1 => ?_) ?_
 rotate_left 1
 · skip
   go_simp
   try first | with_reducible rfl | apply And.intro <;> rfl
 simp only [xPa, xPb, xPc, xPd, xPe]
 refine call_at (i := 2) (f := ?_) (args := ?_) rfl (by kernel_rfl) (by rfl) ?_ ?_
 rotate_left 2
 · go_simp
   try first | with_reducible rfl | apply And.intro <;> rfl
 refine (refint_any x.r HX.out.r.2 wd).mono ?_
 rintro e w2 ⟨A2, c2, rfl, hN⟩
 obtain ⟨n2, hn2⟩ : ∃ nn_, nn_ = (encI x.r).length := ⟨_, rfl⟩
 obtain ⟨l2, hl2⟩ : ∃ ll_, ll_ = encI x.r := ⟨_, rfl⟩
 rw [← hn2] at hN ⊢
 rw [← hl2] at hN
 have HB2 : Hid (n2 ≤ 20000) := Lib.hid (by rw [hn2]; have := encI_len x.r HX.out.r.2; omega)
 have HL2 := Lib.hid hl2
 refine ⟨_, rfl, hHeld.go hN.2.1 (by simp), fun hHeld => ?_⟩
 simp only [xPa, xPb, xPc, xPd, xPe]
 have HY2 := Lib.hid hN.by
 have HFD := Lib.hid (HFD.out.and hN.2.1 (by simp))
 clear hN hn2 hl2
 refine call_at (i := 5) (f := ?_) (args := ?_) rfl (by kernel_rfl) (by rfl) ?_ ?_
 rotate_left 2
 · go_simp
   try first | with_reducible rfl | apply And.intro <;> rfl
 refine (refint_any x.e HX.out.e.2 w2).mono ?_
 rintro e w5 ⟨A5, c5, rfl, hN⟩
 obtain ⟨n5, hn5⟩ : ∃ nn_, nn_ = (encI x.e).length := ⟨_, rfl⟩
 obtain ⟨l5, hl5⟩ : ∃ ll_, ll_ = encI x.e := ⟨_, rfl⟩
 rw [← hn5] at hN ⊢
 rw [← hl5] at hN
 have HB5 : Hid (n5 ≤ 20000) := Lib.hid (by rw [hn5]; have := encI_len x.e HX.out.e.2; omega)
 have HL5 := Lib.hid hl5
 refine ⟨_, rfl, hHeld.go hN.2.1 (by simp), fun hHeld => ?_⟩
 simp only [xPa, xPb, xPc, xPd, xPe]
 have HY5 := Lib.hid hN.by
 have HFD := Lib.hid (HFD.out.and hN.2.1 (by simp))
 have HY2 := Lib.hid (Fr.byk hN.2.1 HY2.out)
 clear hN hn5 hl5
 refine call_at (i := 8) (f := ?_) (args := ?_) rfl (by kernel_rfl) (by rfl) ?_ ?_
 rotate_left 2
 · go_simp
   try first | with_reducible rfl | apply And.intro <;> rfl
 refine (refnum_any x.t HX.out.t w5).mono ?_
 rintro e w8 ⟨A8, c8, rfl, hN⟩
 obtain ⟨n8, hn8⟩ : ∃ nn_, nn_ = (enc x.t).length := ⟨_, rfl⟩
 obtain ⟨l8, hl8⟩ : ∃ ll_, ll_ = enc x.t := ⟨_, rfl⟩
 rw [← hn8] at hN ⊢
 rw [← hl8] at hN
 have HB8 : Hid (n8 ≤ 20000) := Lib.hid (by rw [hn8]; have := enc_ten HX.out.t; omega)
 have HL8 := Lib.hid hl8
 refine ⟨_, rfl, hHeld.go hN.2.1 (by simp), fun hHeld => ?_⟩
 simp only [xPa, xPb, xPc, xPd, xPe]
 have HY8 := Lib.hid hN.by
 have HFD := Lib.hid (HFD.out.and hN.2.1 (by simp))
 have HY2 := Lib.hid (Fr.byk hN.2.1 HY2.out)
 have HY5 := Lib.hid (Fr.byk hN.2.1 HY5.out)
 clear hN hn8 hl8
 refine call_at (i := 12) (f := ?_) (args := ?_) rfl (by kernel_rfl) (by rfl) ?_ ?_
 rotate_left 2
 · go_simp
   try first | with_reducible rfl | apply And.intro <;> rfl
 refine (reflen_any x.l _ HX.out.l.1 (show x.n ≤ 1000 by have := HX.out.n; omega) w8).mono ?_
 rintro e w12 ⟨A12, c12, rfl, hN⟩
 obtain ⟨n12, hn12⟩ : ∃ nn_, nn_ = (encI (x.l.length : Int)).length := ⟨_, rfl⟩
 obtain ⟨l12, hl12⟩ : ∃ ll_, ll_ = encI (x.l.length : Int) := ⟨_, rfl⟩
 rw [← hn12] at hN ⊢
 rw [← hl12] at hN
 have HB12 : Hid (n12 ≤ 20000) := Lib.hid (by rw [hn12]; have := encI_len (x.l.length : Int) (by have := (show x.n ≤ 1000 by have := HX.out.n; omega); have := HX.out.l.1; omega); omega)
 have HL12 := Lib.hid hl12
 refine ⟨_, rfl, hHeld.go hN.2.1 (by simp), fun hHeld => ?_⟩
 simp only [xPa, xPb, xPc, xPd, xPe]
 have HY12 := Lib.hid hN.by
 have HFD := Lib.hid (HFD.out.and hN.2.1 (by simp))
 have HY2 := Lib.hid (Fr.byk hN.2.1 HY2.out)
 have HY5 := Lib.hid (Fr.byk hN.2.1 HY5.out)
 have HY8 := Lib.hid (Fr.byk hN.2.1 HY8.out)
 clear hN hn12 hl12
 refine step_at (i := 13) rfl (by kernel_rfl) (by rfl) (fun K hK => ?_)
 refine wp_run (v := ?_) (w' := ?_) ?_ ?_
 rotate_left 2
 · go_simp
   try first | with_reducible rfl | apply And.intro <;> rfl
 refine hK.out _ (w12.alloc (Obj.cells #[.slice A2 n2 c2, .slice A5 n5 c5, .slice A8 n8 c8, .slice A12 n12 c12] 52)) (hHeld.alloc _) (fun hHeld => ?_)
 clear hK K
 simp only [xPa, xPb, xPc, xPd, xPe]
 have hfb : Fr [] w12 (w12.alloc (Obj.cells #[.slice A2 n2 c2, .slice A5 n5 c5, .slice A8 n8 c8, .slice A12 n12 c12] 52)) := (Fr.refl [] w12).alloc _
 have hbb : Blk (w12.alloc (Obj.cells #[.slice A2 n2 c2, .slice A5 n5 c5, .slice A8 n8 c8, .slice A12 n12 c12] 52)) w12.heap.size 52 (([⟨A2, n2, c2, l2⟩, ⟨A5, n5, c5, l5⟩, ⟨A8, n8, c8, l8⟩, ⟨A12, n12, c12, l12⟩] : List RowV).map RowV.val).toArray := Blk.new _ _ _
 generalize w12.alloc (Obj.cells #[.slice A2 n2 c2, .slice A5 n5 c5, .slice A8 n8 c8, .slice A12 n12 c12] 52) = wj at *
 have HFD := Lib.hid (HFD.out.and hfb (by simp))
 have hj := join_big w12.heap.size 4 [⟨A2, n2, c2, l2⟩, ⟨A5, n5, c5, l5⟩, ⟨A8, n8, c8, l8⟩, ⟨A12, n12, c12, l12⟩] wj hbb rfl (by omega) (by
  intro r hr
  simp only [List.mem_cons, List.not_mem_nil, or_false] at hr
  rcases hr with rfl | rfl | rfl | rfl
  · exact ⟨Fr.byk hfb HY2.out, HB2.out⟩
  · exact ⟨Fr.byk hfb HY5.out, HB5.out⟩
  · exact ⟨Fr.byk hfb HY8.out, HB8.out⟩
  · exact ⟨Fr.byk hfb HY12.out, HB12.out⟩)
 have hJ : joinL [⟨A2, n2, c2, l2⟩, ⟨A5, n5, c5, l5⟩, ⟨A8, n8, c8, l8⟩, ⟨A12, n12, c12, l12⟩] = encI x.r ++ encI x.e ++ enc x.t ++ encI (x.l.length : Int) := by
  simp only [joinL, List.map_cons, List.map_nil, List.flatten_cons, List.flatten_nil, HL2.out, HL5.out, HL8.out, HL12.out]
  simp []
 rw [hJ] at hj
 obtain ⟨X, hX⟩ : ∃ X, X = encI x.r ++ encI x.e ++ enc x.t ++ encI (x.l.length : Int) := ⟨_, rfl⟩
 rw [← hX] at hj
 have HXT := Lib.hid hX
 clear hX
 have HJ := Lib.hid hj
 clear hfb hbb hj hJ HY2 HL2 HY5 HL5 HY8 HL8 HY12 HL12
 refine call_at (i := 14) (f := ?_) (args := ?_) rfl (by kernel_rfl) (by rfl) ?_ ?_
 rotate_left 2
 · go_simp
   try first | with_reducible rfl | apply And.intro <;> rfl
 refine HJ.out.mono ?_
 rintro e wk ⟨Aj, cj, rfl, hN⟩
 have HN := Lib.hid (hN.from2 (HFD.out))
 refine ⟨_, rfl, hHeld.go hN.2.1 (by simp), fun hHeld => ?_⟩
 clear hN
 simp only [xPa, xPb, xPc, xPd, xPe]
 refine run_at (i := 15) (v := ?_) rfl (by kernel_rfl) (by rfl) (fun _ _ _ h => h) hHeld (fun w1 hw1 => ?_) ?_
 rotate_left 1
 · skip
   go_simp
   try first | with_reducible rfl | apply And.intro <;> rfl
 simp only [xPa, xPb, xPc, xPd, xPe]
 refine wpAnyH_done (by kernel_rfl) ?_ _
 have HFK := Lib.hid hHeld
 have HNK : Hid (NewB wa wk Aj X.length cj X) := Lib.hid HN.out
 clear hHeld
 have HXB : Hid (X.length ≤ 1000) := Lib.hid (by rw [HXT.out]; have b0 := encI_len x.r HX.out.r.2; have b1 := encI_len x.e HX.out.e.2; have b3 := enc_ten HX.out.t; have b2 := encI_len (x.l.length : Int) (by have := HX.out.l.1; have := HX.out.n; omega); simp only [List.length_append]; omega)
 have hc := HFK.out.cell HC3.out (by simp)
 go_wp2
 clear hc
 go_loopw [3, 23] (fun s i wr => ∃ (k : Nat) (A4 : Option Addr) (c4 : Nat) (L : List UInt8), k ≤ x.n ∧ i = .int .i64 k ∧ s = .slice A4 L.length c4 ∧ Hid (L = X ++ (x.l.take k).flatMap Wce.full) ∧ Hid (L.length ≤ 1000 + 700 * k) ∧ Hid (NewB wa wr A4 L.length c4 L)) (fun _ i _ => x.n - (intOf i).toNat)
 case atStart => exact ⟨0, Aj, cj, X, by omega, rfl, rfl, Lib.hid (by simp), Lib.hid (by have := HXB.out; omega), HNK⟩
 case round =>
  obtain ⟨k, A4, c4, L, hk, rfl, rfl, HE, HB, HN⟩ := hrel
  have hc := HN.out.2.1.cell HC3.out (by simp)
  have hnn := HX.out.n
  by_cases hlt : k < x.n
  · obtain ⟨ad, v, hA, hv, hcl, hok, hcells⟩ := HX.out.l.at (i := k) hlt
    rw [hA] at hc
    have HCELLS : Hid (∀ j u, (Wce.cells v)[j]? = some u → wr.cell? ((ad.add (k * 38)).add j) = some u) := Lib.hid (fun j u hj => HN.out.2.1.cell (HF0.out.cell (hcells j u hj) (by simp)) (by simp))
    have HCLN := Lib.hid hcl
    have HOK := Lib.hid hok
    have HV := Lib.hid hv
    have hk0 : (0 : Int) ≤ k := by omega
    clear hcells hcl hok hv hA
    generalize hC : Wce.cells v = CV at *
    have HCV := Lib.hid hC
    clear hC
    have HFW : Hid (Fr [] w wr) := Lib.hid (HF0.out.and HN.out.2.1 (by simp))
    go_wp2_with (first | (refine wpList_cells rfl 35 _ rfl _ rfl CV HCELLS.out (row_crt.of HCLN.out) ?_))
    refine (refputCert_any v wr (HOK.out.keep HFW.out (by simp)) CV HCV.out).mono ?_
    rintro e w2 ⟨A5, c5, rfl, hN5⟩
    have hfl : (Wce.full v).length ≤ 700 := Wce.full_len HOK.out
    obtain ⟨F, hF⟩ : ∃ F, F = Wce.full v := ⟨_, rfl⟩
    rw [show v.full = F from hF.symm] at hN5 ⊢
    rw [← hF] at hfl
    have HFF := Lib.hid hF
    have HFL := Lib.hid hfl
    have HY := Lib.hid hN5.by
    have HNB := Lib.hid (HN.out.nxt hN5.2.1)
    clear hN5 HN hF hfl
    go_wp2_with (at_builtin; refine Stop.mk ?_)
    refine Stop.go ?_
    refine wpList_append_bytes _ rfl _ _ _ rfl 5 Tryz.underlying52 info_u8 (.slice A4 L.length c4) L.length L rfl HNB.out.1 A5 F.length c5 F rfl HY.out (by have := HB.out; have := HFL.out; omega) ?_
    intro A6 c6 w6 ho6 hg6 hat6
    have hN6 := NewB.grow HNB.out.2.1 HNB.out.2.2 ho6 hg6 hat6
    have hl6 : (L ++ F).length = L.length + F.length := List.length_append
    have hE6 : L ++ F = X ++ (x.l.take (k + 1)).flatMap Wce.full := by rw [flat_snoc HV.out, HE.out, HFF.out, List.append_assoc]
    have hB6 : (L ++ F).length ≤ 1000 + 700 * (k + 1) := by have := HB.out; have := HFL.out; rw [hl6]; omega
    rw [← hl6] at hN6 ⊢
    generalize L ++ F = L6 at *
    have HN6 := Lib.hid hN6
    have HE6 := Lib.hid hE6
    have HB6 := Lib.hid hB6
    clear ho6 hg6 hat6 hN6 hl6 hE6 hB6 hc
    go_wp2
    go_roundw
    case rel => exact ⟨k + 1, A6, c6, L6, by omega, by go_num, rfl, HE6, HB6, HN6⟩
    case measure => simp [intOf]; omega
  · have hkn : k = x.n := by omega
    have HE2 : Hid (L = X ++ x.l.flatMap Wce.full) := Lib.hid (by have h := HE.out; rwa [hkn, List.take_of_length_le (by rw [HX.out.l.1]; exact Nat.le_refl _)] at h)
    have hd : decide (k < x.n) = false := by simp; omega
    have HB2 : Hid (L.length ≤ 1000 + 700 * x.n) := Lib.hid (by have := HB.out; rw [hkn] at this; exact this)
    clear hkn hlt HE HB
    go_wp2
    go_ret
    have hfin : x.bare = L := by rw [HE2.out, HXT.out]; simp [Wpr.bare, listL, List.append_assoc]
    rw [hfin]
    exact ⟨A4, c4, rfl, HN.out.from2 HF0.out⟩
set_option maxHeartbeats 4000000 in
theorem refputPromise_any (x : Wpr) (w : World) (hx : x.Ok w []) (C : List Value) (hC : x.cells = C) :
  Calls Tryz.prog 27 #[.agg C.toArray] w fun e w' => ∃ A c, e = .returned (.slice A (x.full).length c) ∧ NewB w w' A (x.full).length c (x.full) := by
 obtain ⟨wa, hwa⟩ : ∃ wa, wa = w.alloc (Obj.cells C.toArray 40) := ⟨_, rfl⟩
 have hf0 : Fr [] w wa := by rw [hwa]; exact (Fr.refl [] w).alloc _
 have hb0 : Blk wa w.heap.size 40 x.cells.toArray := by rw [hwa, hC]; exact Blk.new _ _ _
 have HALL : Hid (wa.rangeAt w.heap.size 0 C) := Lib.hid (by rw [← hC]; exact hb0.range)
 have HLN : Hid (C.length = 6) := Lib.hid (by rw [← hC]; exact Wpr.len x)
 have HSG : Hid (wa.rangeAt w.heap.size 4 [.int .i64 x.b, .int .i64 x.m]) := Lib.hid (rangeAt_sub (xs := [.int .i64 x.r, .int .i64 x.e, .int .u64 (x.t : Int), .slice x.A x.n x.d]) (ys := [.int .i64 x.b, .int .i64 x.m]) (zs := []) hb0.range)
 have HX := Lib.hid hx
 have HRC := Lib.hid hC
 clear hb0 hx hC
 have HF0 := Lib.hid hf0
 have HWA := Lib.hid hwa
 clear hwa hf0
 go_enter Tryz.func27, Tryz.ntmps27
 go_wp2
 rw [← HWA.out]
 refine wp_region_held_drew (S := Fr [] wa) (by kernel_rfl) (Fr.drew (Fr.refl _ wa)) (fun hHeld => ?_)
 have HFD : Hid (Fr [] wa wa.drew) := Lib.hid (Fr.drew (Fr.refl [] wa))
 generalize wa.drew = wd at *
 refine row_at (i := 0) rfl (by kernel_rfl) (by rfl) _ _ rfl _ _ rfl _ (fun w1 hw1 => hw1.range (HALL.out) (by simp)) (row_prm.of HLN.out) (fun _ _ _ h => h) hHeld ?_
 simp only [xPa, xPb, xPc, xPd, xPe]
 refine run_at (i := 2) (v := ?_) rfl (by kernel_rfl) (by rfl) (fun _ _ _ h => h) hHeld (fun w1 hw1 => ?_) ?_
 rotate_left 1
 · skip
   go_simp
   try first | with_reducible rfl | apply And.intro <;> rfl
 simp only [xPa, xPb, xPc, xPd, xPe]
 refine row_at (i := 3) rfl (by kernel_rfl) (by rfl) _ _ rfl _ _ rfl _ (fun w1 hw1 => hw1.range (HSG.out) (by simp)) (row_sig) (fun _ _ _ h => h) hHeld ?_
 simp only [xPa, xPb, xPc, xPd, xPe]
 refine call_at (i := 1) (f := ?_) (args := ?_) rfl (by kernel_rfl) (by rfl) ?_ ?_
 rotate_left 2
 · go_simp
   try first | with_reducible rfl | apply And.intro <;> rfl
 refine (refbarePromise_any x wd (HX.out.keep (HF0.out.and HFD.out (by simp)) (by simp)) C HRC.out).mono ?_
 rintro e w1 ⟨A1, c1, rfl, hN⟩
 obtain ⟨n1, hn1⟩ : ∃ nn_, nn_ = (x.bare).length := ⟨_, rfl⟩
 obtain ⟨l1, hl1⟩ : ∃ ll_, ll_ = x.bare := ⟨_, rfl⟩
 rw [← hn1] at hN ⊢
 rw [← hl1] at hN
 have HB1 : Hid (n1 ≤ 20000) := Lib.hid (by rw [hn1]; have := Wpr.bare_len HX.out; omega)
 have HL1 := Lib.hid hl1
 refine ⟨_, rfl, hHeld.go hN.2.1 (by simp), fun hHeld => ?_⟩
 simp only [xPa, xPb, xPc, xPd, xPe]
 have HY1 := Lib.hid hN.by
 have HFD := Lib.hid (HFD.out.and hN.2.1 (by simp))
 clear hN hn1 hl1
 refine call_at (i := 4) (f := ?_) (args := ?_) rfl (by kernel_rfl) (by rfl) ?_ ?_
 rotate_left 2
 · go_simp
   try first | with_reducible rfl | apply And.intro <;> rfl
 refine (refsig_any x.b x.m HX.out.b HX.out.m w1).mono ?_
 rintro e w4 ⟨A4, c4, rfl, hN⟩
 obtain ⟨n4, hn4⟩ : ∃ nn_, nn_ = (sgL x.b x.m).length := ⟨_, rfl⟩
 obtain ⟨l4, hl4⟩ : ∃ ll_, ll_ = sgL x.b x.m := ⟨_, rfl⟩
 rw [← hn4] at hN ⊢
 rw [← hl4] at hN
 have HB4 : Hid (n4 ≤ 20000) := Lib.hid (by rw [hn4]; have := encI_len x.b HX.out.b.2; have := encI_len x.m HX.out.m.2; simp only [sgL, List.length_append]; omega)
 have HL4 := Lib.hid hl4
 refine ⟨_, rfl, hHeld.go hN.2.1 (by simp), fun hHeld => ?_⟩
 simp only [xPa, xPb, xPc, xPd, xPe]
 have HY4 := Lib.hid hN.by
 have HFD := Lib.hid (HFD.out.and hN.2.1 (by simp))
 have HY1 := Lib.hid (Fr.byk hN.2.1 HY1.out)
 clear hN hn4 hl4
 refine step_at (i := 5) rfl (by kernel_rfl) (by rfl) (fun K hK => ?_)
 refine wp_run (v := ?_) (w' := ?_) ?_ ?_
 rotate_left 2
 · go_simp
   try first | with_reducible rfl | apply And.intro <;> rfl
 refine hK.out _ (w4.alloc (Obj.cells #[.slice A1 n1 c1, .slice A4 n4 c4] 52)) (hHeld.alloc _) (fun hHeld => ?_)
 clear hK K
 simp only [xPa, xPb, xPc, xPd, xPe]
 have hfb : Fr [] w4 (w4.alloc (Obj.cells #[.slice A1 n1 c1, .slice A4 n4 c4] 52)) := (Fr.refl [] w4).alloc _
 have hbb : Blk (w4.alloc (Obj.cells #[.slice A1 n1 c1, .slice A4 n4 c4] 52)) w4.heap.size 52 (([⟨A1, n1, c1, l1⟩, ⟨A4, n4, c4, l4⟩] : List RowV).map RowV.val).toArray := Blk.new _ _ _
 generalize w4.alloc (Obj.cells #[.slice A1 n1 c1, .slice A4 n4 c4] 52) = wj at *
 have HFD := Lib.hid (HFD.out.and hfb (by simp))
 have hj := join_big w4.heap.size 2 [⟨A1, n1, c1, l1⟩, ⟨A4, n4, c4, l4⟩] wj hbb rfl (by omega) (by
  intro r hr
  simp only [List.mem_cons, List.not_mem_nil, or_false] at hr
  rcases hr with rfl | rfl
  · exact ⟨Fr.byk hfb HY1.out, HB1.out⟩
  · exact ⟨Fr.byk hfb HY4.out, HB4.out⟩)
 have hJ : joinL [⟨A1, n1, c1, l1⟩, ⟨A4, n4, c4, l4⟩] = x.full := by
  simp only [joinL, List.map_cons, List.map_nil, List.flatten_cons, List.flatten_nil, HL1.out, HL4.out]
  simp [Wpr.full]
 rw [hJ] at hj
 obtain ⟨X, hX⟩ : ∃ X, X = x.full := ⟨_, rfl⟩
 rw [← hX] at hj
 have HXT := Lib.hid hX
 clear hX
 have HJ := Lib.hid hj
 clear hfb hbb hj hJ HY1 HL1 HY4 HL4
 refine call_at (i := 6) (f := ?_) (args := ?_) rfl (by kernel_rfl) (by rfl) ?_ ?_
 rotate_left 2
 · go_simp
   try first | with_reducible rfl | apply And.intro <;> rfl
 refine HJ.out.mono ?_
 rintro e wk ⟨Aj, cj, rfl, hN⟩
 have HN := Lib.hid (hN.from2 (HF0.out.and HFD.out (by simp)))
 refine ⟨_, rfl, hHeld.go hN.2.1 (by simp), fun hHeld => ?_⟩
 clear hN
 simp only [xPa, xPb, xPc, xPd, xPe]
 refine run_at (i := 7) (v := ?_) rfl (by kernel_rfl) (by rfl) (fun _ _ _ h => h) hHeld (fun w1 hw1 => ?_) ?_
 rotate_left 1
 · skip
   go_simp
   try first | with_reducible rfl | apply And.intro <;> rfl
 simp only [xPa, xPb, xPc, xPd, xPe]
 refine wpAnyH_done (by kernel_rfl) ?_ _
 go_wp2
 go_ret
 rw [← HXT.out]
 exact ⟨Aj, cj, rfl, HN.out⟩
set_option maxHeartbeats 4000000 in
theorem refputOpening_any (x : Wop) (w : World) (hx : x.Ok w []) (C : List Value) (hC : x.cells = C) :
  Calls Tryz.prog 31 #[.agg C.toArray] w fun e w' => ∃ A c, e = .returned (.slice A (x.full).length c) ∧ NewB w w' A (x.full).length c (x.full) := by
 obtain ⟨wa, hwa⟩ : ∃ wa, wa = w.alloc (Obj.cells C.toArray 54) := ⟨_, rfl⟩
 have hf0 : Fr [] w wa := by rw [hwa]; exact (Fr.refl [] w).alloc _
 have hb0 : Blk wa w.heap.size 54 x.cells.toArray := by rw [hwa, hC]; exact Blk.new _ _ _
 have HALL : Hid (wa.rangeAt w.heap.size 0 C) := Lib.hid (by rw [← hC]; exact hb0.range)
 have HC0 : Hid (wa.cell? ⟨w.heap.size, 0, none⟩ = some (.int .i64 x.i)) := Lib.hid (by have h := hb0.range (cs := x.cells) 0 _ rfl; simpa using h)
 have HC1 : Hid (wa.cell? ⟨w.heap.size, 1, none⟩ = some (.slice x.A x.n x.d)) := Lib.hid (by have h := hb0.range (cs := x.cells) 1 _ rfl; simpa using h)
 have HYH : Hid (By wa (some ⟨w.heap.size, 2, none⟩) 32 x.h) := Lib.hid (by have h := By.of_range (rangeAt_sub (xs := [.int .i64 x.i, .slice x.A x.n x.d]) (ys := x.h.map by8) (zs := []) hb0.range); rw [hx.h] at h; exact h)
 have HX := Lib.hid hx
 have HRC := Lib.hid hC
 clear hb0 hx hC
 have HF0 := Lib.hid hf0
 have HWA := Lib.hid hwa
 clear hwa hf0
 go_enter Tryz.func31, Tryz.ntmps31
 go_wp2
 rw [← HWA.out]
 refine wp_region_held_drew (S := Fr [] wa) (by kernel_rfl) (Fr.drew (Fr.refl _ wa)) (fun hHeld => ?_)
 have HFD : Hid (Fr [] wa wa.drew) := Lib.hid (Fr.drew (Fr.refl [] wa))
 generalize wa.drew = wd at *
 refine run_at (i := 0) (v := ?_) rfl (by kernel_rfl) (by rfl) (fun _ _ _ h => h) hHeld (fun w1 hw1 => ?_) ?_
 rotate_left 1
 · skip
   go_simp
   try first | with_reducible rfl | apply And.intro <;> rfl
 simp only [xPa, xPb, xPc, xPd, xPe]
 refine run_at (i := 1) (v := ?_) rfl (by kernel_rfl) (by rfl) (fun _ _ _ h => h) hHeld (fun w1 hw1 => ?_) ?_
 rotate_left 1
 · skip
   have hcw0 := hw1.cell (HC0.out) (by simp)
   go_simp
   try first | with_reducible rfl | apply And.intro <;> rfl
 simp only [xPa, xPb, xPc, xPd, xPe]
 refine run_at (i := 3) (v := ?_) rfl (by kernel_rfl) (by rfl) (fun _ _ _ h => h) hHeld (fun w1 hw1 => ?_) ?_
 rotate_left 1
 · skip
   go_simp
   try first | with_reducible rfl | apply And.intro <;> rfl
 simp only [xPa, xPb, xPc, xPd, xPe]
 refine run_at (i := 4) (v := ?_) rfl (by kernel_rfl) (by rfl) (fun _ _ _ h => h) hHeld (fun w1 hw1 => ?_) ?_
 rotate_left 1
 · skip
   have hcw0 := hw1.cell (HC1.out) (by simp)
   go_simp
   try first | with_reducible rfl | apply And.intro <;> rfl
 simp only [xPa, xPb, xPc, xPd, xPe]
 refine run_at (i := 6) (v := ?_) rfl (by kernel_rfl) (by rfl) (fun _ _ _ h => h) hHeld (fun w1 hw1 => ?_) ?_
 rotate_left 1
 · skip
   go_simp
   try first | with_reducible rfl | apply And.intro <;> rfl
 simp only [xPa, xPb, xPc, xPd, xPe]
 refine run_at (i := 7) (v := ?_) rfl (by kernel_rfl) (by rfl) (fun _ _ _ h => h) hHeld (fun w1 hw1 => ?_) ?_
 rotate_left 1
 · skip
   go_simp
   try first | with_reducible rfl | apply And.intro <;> rfl
 simp only [xPa, xPb, xPc, xPd, xPe]
 refine call_at (i := 2) (f := ?_) (args := ?_) rfl (by kernel_rfl) (by rfl) ?_ ?_
 rotate_left 2
 · go_simp
   try first | with_reducible rfl | apply And.intro <;> rfl
 refine (refint_any x.i HX.out.i.2 wd).mono ?_
 rintro e w2 ⟨A2, c2, rfl, hN⟩
 obtain ⟨n2, hn2⟩ : ∃ nn_, nn_ = (encI x.i).length := ⟨_, rfl⟩
 obtain ⟨l2, hl2⟩ : ∃ ll_, ll_ = encI x.i := ⟨_, rfl⟩
 rw [← hn2] at hN ⊢
 rw [← hl2] at hN
 have HB2 : Hid (n2 ≤ 20000) := Lib.hid (by rw [hn2]; have := encI_len x.i HX.out.i.2; omega)
 have HL2 := Lib.hid hl2
 refine ⟨_, rfl, hHeld.go hN.2.1 (by simp), fun hHeld => ?_⟩
 simp only [xPa, xPb, xPc, xPd, xPe]
 have HY2 := Lib.hid hN.by
 have HFD := Lib.hid (HFD.out.and hN.2.1 (by simp))
 clear hN hn2 hl2
 refine call_at (i := 5) (f := ?_) (args := ?_) rfl (by kernel_rfl) (by rfl) ?_ ?_
 rotate_left 2
 · go_simp
   try first | with_reducible rfl | apply And.intro <;> rfl
 refine (refrow_any x.A x.n x.d x.p w2 (HX.out.p.keep (HF0.out.and HFD.out (by simp)) (by simp)) (fun k hk => Nat.lt_of_lt_of_le (HX.out.lt k hk) (HF0.out.and HFD.out (by simp)).size) (by have := HX.out.n; omega)).mono ?_
 rintro e w5 ⟨A5, c5, rfl, hN⟩
 obtain ⟨n5, hn5⟩ : ∃ nn_, nn_ = (enc x.n).length + x.n := ⟨_, rfl⟩
 obtain ⟨l5, hl5⟩ : ∃ ll_, ll_ = enc x.n ++ x.p := ⟨_, rfl⟩
 rw [← hn5] at hN ⊢
 rw [← hl5] at hN
 have HB5 : Hid (n5 ≤ 20000) := Lib.hid (by rw [hn5]; have := enc_ten (m := x.n) (by have := HX.out.n; omega); have := HX.out.n; omega)
 have HL5 := Lib.hid hl5
 refine ⟨_, rfl, hHeld.go hN.2.1 (by simp), fun hHeld => ?_⟩
 simp only [xPa, xPb, xPc, xPd, xPe]
 have HY5 := Lib.hid hN.by
 have HFD := Lib.hid (HFD.out.and hN.2.1 (by simp))
 have HY2 := Lib.hid (Fr.byk hN.2.1 HY2.out)
 clear hN hn5 hl5
 refine step_at (i := 8) rfl (by kernel_rfl) (by rfl) (fun K hK => ?_)
 refine wp_run (v := ?_) (w' := ?_) ?_ ?_
 rotate_left 2
 · go_simp
   try first | with_reducible rfl | apply And.intro <;> rfl
 refine hK.out _ (w5.alloc (Obj.cells #[.slice A2 n2 c2, .slice A5 n5 c5, .slice (some ⟨w.heap.size, 2, none⟩) 32 32] 52)) (hHeld.alloc _) (fun hHeld => ?_)
 clear hK K
 simp only [xPa, xPb, xPc, xPd, xPe]
 have hfb : Fr [] w5 (w5.alloc (Obj.cells #[.slice A2 n2 c2, .slice A5 n5 c5, .slice (some ⟨w.heap.size, 2, none⟩) 32 32] 52)) := (Fr.refl [] w5).alloc _
 have hbb : Blk (w5.alloc (Obj.cells #[.slice A2 n2 c2, .slice A5 n5 c5, .slice (some ⟨w.heap.size, 2, none⟩) 32 32] 52)) w5.heap.size 52 (([⟨A2, n2, c2, l2⟩, ⟨A5, n5, c5, l5⟩, ⟨some ⟨w.heap.size, 2, none⟩, 32, 32, x.h⟩] : List RowV).map RowV.val).toArray := Blk.new _ _ _
 generalize w5.alloc (Obj.cells #[.slice A2 n2 c2, .slice A5 n5 c5, .slice (some ⟨w.heap.size, 2, none⟩) 32 32] 52) = wj at *
 have HFD := Lib.hid (HFD.out.and hfb (by simp))
 have hj := join_big w5.heap.size 3 [⟨A2, n2, c2, l2⟩, ⟨A5, n5, c5, l5⟩, ⟨some ⟨w.heap.size, 2, none⟩, 32, 32, x.h⟩] wj hbb rfl (by omega) (by
  intro r hr
  simp only [List.mem_cons, List.not_mem_nil, or_false] at hr
  rcases hr with rfl | rfl | rfl
  · exact ⟨Fr.byk hfb HY2.out, HB2.out⟩
  · exact ⟨Fr.byk hfb HY5.out, HB5.out⟩
  · exact ⟨Fr.byk HFD.out HYH.out, by show 32 ≤ 20000; omega⟩)
 have hJ : joinL [⟨A2, n2, c2, l2⟩, ⟨A5, n5, c5, l5⟩, ⟨some ⟨w.heap.size, 2, none⟩, 32, 32, x.h⟩] = x.full := by
  simp only [joinL, List.map_cons, List.map_nil, List.flatten_cons, List.flatten_nil, HL2.out, HL5.out]
  simp [Wop.full]
 rw [hJ] at hj
 obtain ⟨X, hX⟩ : ∃ X, X = x.full := ⟨_, rfl⟩
 rw [← hX] at hj
 have HXT := Lib.hid hX
 clear hX
 have HJ := Lib.hid hj
 clear hfb hbb hj hJ HY2 HL2 HY5 HL5
 refine call_at (i := 9) (f := ?_) (args := ?_) rfl (by kernel_rfl) (by rfl) ?_ ?_
 rotate_left 2
 · go_simp
   try first | with_reducible rfl | apply And.intro <;> rfl
 refine HJ.out.mono ?_
 rintro e wk ⟨Aj, cj, rfl, hN⟩
 have HN := Lib.hid (hN.from2 (HF0.out.and HFD.out (by simp)))
 refine ⟨_, rfl, hHeld.go hN.2.1 (by simp), fun hHeld => ?_⟩
 clear hN
 simp only [xPa, xPb, xPc, xPd, xPe]
 refine run_at (i := 10) (v := ?_) rfl (by kernel_rfl) (by rfl) (fun _ _ _ h => h) hHeld (fun w1 hw1 => ?_) ?_
 rotate_left 1
 · skip
   go_simp
   try first | with_reducible rfl | apply And.intro <;> rfl
 simp only [xPa, xPb, xPc, xPd, xPe]
 refine wpAnyH_done (by kernel_rfl) ?_ _
 go_wp2
 go_ret
 rw [← HXT.out]
 exact ⟨Aj, cj, rfl, HN.out⟩
end Go.Proofs.YtdenpfcgghangaaGreat

namespace Go.Proofs.YtdenpfcgghangaaGreat
open Go.RowKit
set_option maxRecDepth 100000
set_option maxHeartbeats 4000000 in
theorem refputBatch_any (x : Wba) (w : World) (hx : x.Ok w []) (C : List Value) (hC : x.cells = C) :
  Calls Tryz.prog 28 #[.agg C.toArray] w fun e w' => ∃ A c, e = .returned (.slice A (x.full).length c) ∧ NewB w w' A (x.full).length c (x.full) := by
 obtain ⟨wa, hwa⟩ : ∃ wa, wa = w.alloc (Obj.cells C.toArray 45) := ⟨_, rfl⟩
 have hf0 : Fr [] w wa := by rw [hwa]; exact (Fr.refl [] w).alloc _
 have hb0 : Blk wa w.heap.size 45 x.cells.toArray := by rw [hwa, hC]; exact Blk.new _ _ _
 have HALL : Hid (wa.rangeAt w.heap.size 0 C) := Lib.hid (by rw [← hC]; exact hb0.range)
 have HC0 : Hid (wa.cell? ⟨w.heap.size, 0, none⟩ = some (.int .i64 x.e)) := Lib.hid (by have h := hb0.range (cs := x.cells) 0 _ rfl; simpa using h)
 have HC1 : Hid (wa.cell? ⟨w.heap.size, 1, none⟩ = some (.int .u64 (x.t : Int))) := Lib.hid (by have h := hb0.range (cs := x.cells) 1 _ rfl; simpa using h)
 have HC2 : Hid (wa.cell? ⟨w.heap.size, 2, none⟩ = some (.slice x.A x.n x.d)) := Lib.hid (by have h := hb0.range (cs := x.cells) 2 _ rfl; simpa using h)
 have HC3 : Hid (wa.cell? ⟨w.heap.size, 3, none⟩ = some (.slice x.A2 x.n2 x.d2)) := Lib.hid (by have h := hb0.range (cs := x.cells) 3 _ rfl; simpa using h)
 have HC4 : Hid (wa.cell? ⟨w.heap.size, 4, none⟩ = some (.slice x.A3 x.n3 x.d3)) := Lib.hid (by have h := hb0.range (cs := x.cells) 4 _ rfl; simpa using h)
 have HX := Lib.hid hx
 have HRC := Lib.hid hC
 clear hb0 hx hC
 have HF0 := Lib.hid hf0
 have HWA := Lib.hid hwa
 clear hwa hf0
 go_enter Tryz.func28, Tryz.ntmps28
 go_wp2
 rw [← HWA.out]
 refine wp_region_held_drew (S := Fr [] wa) (by kernel_rfl) (Fr.drew (Fr.refl _ wa)) (fun hHeld => ?_)
 have HFD : Hid (Fr [] wa wa.drew) := Lib.hid (Fr.drew (Fr.refl [] wa))
 generalize wa.drew = wd at *
 refine run_at (i := 0) (v := ?_) rfl (by kernel_rfl) (by rfl) (fun _ _ _ h => h) hHeld (fun w1 hw1 => ?_) ?_
 rotate_left 1
 · skip
   go_simp
   try first | with_reducible rfl | apply And.intro <;> rfl
 simp only [xPa, xPb, xPc, xPd, xPe]
 refine run_at (i := 1) (v := ?_) rfl (by kernel_rfl) (by rfl) (fun _ _ _ h => h) hHeld (fun w1 hw1 => ?_) ?_
 rotate_left 1
 · skip
   have hcw0 := hw1.cell (HC0.out) (by simp)
   go_simp
   try first | with_reducible rfl | apply And.intro <;> rfl
 simp only [xPa, xPb, xPc, xPd, xPe]
 refine run_at (i := 3) (v := ?_) rfl (by kernel_rfl) (by rfl) (fun _ _ _ h => h) hHeld (fun w1 hw1 => ?_) ?_
 rotate_left 1
 · skip
   go_simp
   try first | with_reducible rfl | apply And.intro <;> rfl
 simp only [xPa, xPb, xPc, xPd, xPe]
 refine run_at (i := 4) (v := ?_) rfl (by kernel_rfl) (by rfl) (fun _ _ _ h => h) hHeld (fun w1 hw1 => ?_) ?_
 rotate_left 1
 · skip
   have hcw0 := hw1.cell (HC1.out) (by simp)
   go_simp
   try first | with_reducible rfl | apply And.intro <;> rfl
 simp only [xPa, xPb, xPc, xPd, xPe]
 refine run_at (i := 6) (v := ?_) rfl (by kernel_rfl) (by rfl) (fun _ _ _ h => h) hHeld (fun w1 hw1 => ?_) ?_
 rotate_left 1
 · skip
   go_simp
   try first | with_reducible rfl | apply And.intro <;> rfl
 simp only [xPa, xPb, xPc, xPd, xPe]
 refine run_at (i := 7) (v := ?_) rfl (by kernel_rfl) (by rfl) (fun _ _ _ h => h) hHeld (fun w1 hw1 => ?_) ?_
 rotate_left 1
 · skip
   have hcw0 := hw1.cell (HC2.out) (by simp)
   go_simp
   try first | with_reducible rfl | apply And.intro <;> rfl
 simp only [xPa, xPb, xPc, xPd, xPe]
 refine run_at (i := 8) (v := ?_) rfl (by kernel_rfl) (by rfl) (fun _ _ _ h => h) hHeld (fun w1 hw1 => ?_) ?_
 rotate_left 1
 · skip
   go_simp
   try first | with_reducible rfl | apply And.intro <;> rfl
 simp only [xPa, xPb, xPc, xPd, xPe]
 refine call_at (i := 2) (f := ?_) (args := ?_) rfl (by kernel_rfl) (by rfl) ?_ ?_
 rotate_left 2
 · go_simp
   try first | with_reducible rfl | apply And.intro <;> rfl
 refine (refint_any x.e HX.out.e.2 wd).mono ?_
 rintro e w2 ⟨A2, c2, rfl, hN⟩
 obtain ⟨n2, hn2⟩ : ∃ nn_, nn_ = (encI x.e).length := ⟨_, rfl⟩
 obtain ⟨l2, hl2⟩ : ∃ ll_, ll_ = encI x.e := ⟨_, rfl⟩
 rw [← hn2] at hN ⊢
 rw [← hl2] at hN
 have HB2 : Hid (n2 ≤ 20000) := Lib.hid (by rw [hn2]; have := encI_len x.e HX.out.e.2; omega)
 have HL2 := Lib.hid hl2
 refine ⟨_, rfl, hHeld.go hN.2.1 (by simp), fun hHeld => ?_⟩
 simp only [xPa, xPb, xPc, xPd, xPe]
 have HY2 := Lib.hid hN.by
 have HFD := Lib.hid (HFD.out.and hN.2.1 (by simp))
 clear hN hn2 hl2
 refine call_at (i := 5) (f := ?_) (args := ?_) rfl (by kernel_rfl) (by rfl) ?_ ?_
 rotate_left 2
 · go_simp
   try first | with_reducible rfl | apply And.intro <;> rfl
 refine (refnum_any x.t HX.out.t w2).mono ?_
 rintro e w5 ⟨A5, c5, rfl, hN⟩
 obtain ⟨n5, hn5⟩ : ∃ nn_, nn_ = (enc x.t).length := ⟨_, rfl⟩
 obtain ⟨l5, hl5⟩ : ∃ ll_, ll_ = enc x.t := ⟨_, rfl⟩
 rw [← hn5] at hN ⊢
 rw [← hl5] at hN
 have HB5 : Hid (n5 ≤ 20000) := Lib.hid (by rw [hn5]; have := enc_ten HX.out.t; omega)
 have HL5 := Lib.hid hl5
 refine ⟨_, rfl, hHeld.go hN.2.1 (by simp), fun hHeld => ?_⟩
 simp only [xPa, xPb, xPc, xPd, xPe]
 have HY5 := Lib.hid hN.by
 have HFD := Lib.hid (HFD.out.and hN.2.1 (by simp))
 have HY2 := Lib.hid (Fr.byk hN.2.1 HY2.out)
 clear hN hn5 hl5
 refine call_at (i := 9) (f := ?_) (args := ?_) rfl (by kernel_rfl) (by rfl) ?_ ?_
 rotate_left 2
 · go_simp
   try first | with_reducible rfl | apply And.intro <;> rfl
 refine (reflen_any x.l _ HX.out.l.1 (show x.n ≤ 1000 by have := HX.out.n; omega) w5).mono ?_
 rintro e w9 ⟨A9, c9, rfl, hN⟩
 obtain ⟨n9, hn9⟩ : ∃ nn_, nn_ = (encI (x.l.length : Int)).length := ⟨_, rfl⟩
 obtain ⟨l9, hl9⟩ : ∃ ll_, ll_ = encI (x.l.length : Int) := ⟨_, rfl⟩
 rw [← hn9] at hN ⊢
 rw [← hl9] at hN
 have HB9 : Hid (n9 ≤ 20000) := Lib.hid (by rw [hn9]; have := encI_len (x.l.length : Int) (by have := (show x.n ≤ 1000 by have := HX.out.n; omega); have := HX.out.l.1; omega); omega)
 have HL9 := Lib.hid hl9
 refine ⟨_, rfl, hHeld.go hN.2.1 (by simp), fun hHeld => ?_⟩
 simp only [xPa, xPb, xPc, xPd, xPe]
 have HY9 := Lib.hid hN.by
 have HFD := Lib.hid (HFD.out.and hN.2.1 (by simp))
 have HY2 := Lib.hid (Fr.byk hN.2.1 HY2.out)
 have HY5 := Lib.hid (Fr.byk hN.2.1 HY5.out)
 clear hN hn9 hl9
 refine step_at (i := 10) rfl (by kernel_rfl) (by rfl) (fun K hK => ?_)
 refine wp_run (v := ?_) (w' := ?_) ?_ ?_
 rotate_left 2
 · go_simp
   try first | with_reducible rfl | apply And.intro <;> rfl
 refine hK.out _ (w9.alloc (Obj.cells #[.slice A2 n2 c2, .slice A5 n5 c5, .slice A9 n9 c9] 52)) (hHeld.alloc _) (fun hHeld => ?_)
 clear hK K
 simp only [xPa, xPb, xPc, xPd, xPe]
 have hfb : Fr [] w9 (w9.alloc (Obj.cells #[.slice A2 n2 c2, .slice A5 n5 c5, .slice A9 n9 c9] 52)) := (Fr.refl [] w9).alloc _
 have hbb : Blk (w9.alloc (Obj.cells #[.slice A2 n2 c2, .slice A5 n5 c5, .slice A9 n9 c9] 52)) w9.heap.size 52 (([⟨A2, n2, c2, l2⟩, ⟨A5, n5, c5, l5⟩, ⟨A9, n9, c9, l9⟩] : List RowV).map RowV.val).toArray := Blk.new _ _ _
 generalize w9.alloc (Obj.cells #[.slice A2 n2 c2, .slice A5 n5 c5, .slice A9 n9 c9] 52) = wj at *
 have HFD := Lib.hid (HFD.out.and hfb (by simp))
 have hj := join_big w9.heap.size 3 [⟨A2, n2, c2, l2⟩, ⟨A5, n5, c5, l5⟩, ⟨A9, n9, c9, l9⟩] wj hbb rfl (by omega) (by
  intro r hr
  simp only [List.mem_cons, List.not_mem_nil, or_false] at hr
  rcases hr with rfl | rfl | rfl
  · exact ⟨Fr.byk hfb HY2.out, HB2.out⟩
  · exact ⟨Fr.byk hfb HY5.out, HB5.out⟩
  · exact ⟨Fr.byk hfb HY9.out, HB9.out⟩)
 have hJ : joinL [⟨A2, n2, c2, l2⟩, ⟨A5, n5, c5, l5⟩, ⟨A9, n9, c9, l9⟩] = encI x.e ++ enc x.t ++ encI (x.l.length : Int) := by
  simp only [joinL, List.map_cons, List.map_nil, List.flatten_cons, List.flatten_nil, HL2.out, HL5.out, HL9.out]
  simp []
 rw [hJ] at hj
 obtain ⟨X, hX⟩ : ∃ X, X = encI x.e ++ enc x.t ++ encI (x.l.length : Int) := ⟨_, rfl⟩
 rw [← hX] at hj
 have HXT := Lib.hid hX
 clear hX
 have HJ := Lib.hid hj
 clear hfb hbb hj hJ HY2 HL2 HY5 HL5 HY9 HL9
 refine call_at (i := 11) (f := ?_) (args := ?_) rfl (by kernel_rfl) (by rfl) ?_ ?_
 rotate_left 2
 · go_simp
   try first | with_reducible rfl | apply And.intro <;> rfl
 refine HJ.out.mono ?_
 rintro e wk ⟨Aj, cj, rfl, hN⟩
 have HN := Lib.hid (hN.from2 (HFD.out))
 refine ⟨_, rfl, hHeld.go hN.2.1 (by simp), fun hHeld => ?_⟩
 clear hN
 simp only [xPa, xPb, xPc, xPd, xPe]
 refine run_at (i := 12) (v := ?_) rfl (by kernel_rfl) (by rfl) (fun _ _ _ h => h) hHeld (fun w1 hw1 => ?_) ?_
 rotate_left 1
 · skip
   go_simp
   try first | with_reducible rfl | apply And.intro <;> rfl
 simp only [xPa, xPb, xPc, xPd, xPe]
 refine wpAnyH_done (by kernel_rfl) ?_ _
 have HFK := Lib.hid hHeld
 have HNK : Hid (NewB wa wk Aj X.length cj X) := Lib.hid HN.out
 clear hHeld
 have HXB : Hid (X.length ≤ 1000) := Lib.hid (by rw [HXT.out]; have b0 := encI_len x.e HX.out.e.2; have b3 := enc_ten HX.out.t; have b2 := encI_len (x.l.length : Int) (by have := HX.out.l.1; have := HX.out.n; omega); simp only [List.length_append]; omega)
 have hc := HFK.out.cell HC2.out (by simp)
 go_wp2
 clear hc
 go_loopw [3, 23] (fun s i wr => ∃ (k : Nat) (A4 : Option Addr) (c4 : Nat) (L : List UInt8), k ≤ x.n ∧ i = .int .i64 k ∧ s = .slice A4 L.length c4 ∧ Hid (L = X ++ (x.l.take k).flatMap Wpr.full) ∧ Hid (L.length ≤ 1000 + 2300 * k) ∧ Hid (NewB wa wr A4 L.length c4 L)) (fun _ i _ => x.n - (intOf i).toNat)
 case atStart => exact ⟨0, Aj, cj, X, by omega, rfl, rfl, Lib.hid (by simp), Lib.hid (by have := HXB.out; omega), HNK⟩
 case round =>
  obtain ⟨k, A4, c4, L, hk, rfl, rfl, HE, HB, HN⟩ := hrel
  have hc := HN.out.2.1.cell HC2.out (by simp)
  have hnn := HX.out.n
  by_cases hlt : k < x.n
  · obtain ⟨ad, v, hA, hv, hcl, hok, hcells⟩ := HX.out.l.at (i := k) hlt
    rw [hA] at hc
    have HCELLS : Hid (∀ j u, (Wpr.cells v)[j]? = some u → wr.cell? ((ad.add (k * 6)).add j) = some u) := Lib.hid (fun j u hj => HN.out.2.1.cell (HF0.out.cell (hcells j u hj) (by simp)) (by simp))
    have HCLN := Lib.hid hcl
    have HOK := Lib.hid hok
    have HV := Lib.hid hv
    have hk0 : (0 : Int) ≤ k := by omega
    clear hcells hcl hok hv hA
    generalize hC : Wpr.cells v = CV at *
    have HCV := Lib.hid hC
    clear hC
    have HFW : Hid (Fr [] w wr) := Lib.hid (HF0.out.and HN.out.2.1 (by simp))
    go_wp2_with (first | (refine wpList_cells rfl 40 _ rfl _ rfl CV HCELLS.out (row_prm.of HCLN.out) ?_))
    refine (refputPromise_any v wr (HOK.out.keep HFW.out (by simp)) CV HCV.out).mono ?_
    rintro e w2 ⟨A5, c5, rfl, hN5⟩
    have hfl : (Wpr.full v).length ≤ 2300 := Wpr.full_len HOK.out
    obtain ⟨F, hF⟩ : ∃ F, F = Wpr.full v := ⟨_, rfl⟩
    rw [show v.full = F from hF.symm] at hN5 ⊢
    rw [← hF] at hfl
    have HFF := Lib.hid hF
    have HFL := Lib.hid hfl
    have HY := Lib.hid hN5.by
    have HNB := Lib.hid (HN.out.nxt hN5.2.1)
    clear hN5 HN hF hfl
    go_wp2_with (at_builtin; refine Stop.mk ?_)
    refine Stop.go ?_
    refine wpList_append_bytes _ rfl _ _ _ rfl 5 Tryz.underlying52 info_u8 (.slice A4 L.length c4) L.length L rfl HNB.out.1 A5 F.length c5 F rfl HY.out (by have := HB.out; have := HFL.out; omega) ?_
    intro A6 c6 w6 ho6 hg6 hat6
    have hN6 := NewB.grow HNB.out.2.1 HNB.out.2.2 ho6 hg6 hat6
    have hl6 : (L ++ F).length = L.length + F.length := List.length_append
    have hE6 : L ++ F = X ++ (x.l.take (k + 1)).flatMap Wpr.full := by rw [flat_snoc HV.out, HE.out, HFF.out, List.append_assoc]
    have hB6 : (L ++ F).length ≤ 1000 + 2300 * (k + 1) := by have := HB.out; have := HFL.out; rw [hl6]; omega
    rw [← hl6] at hN6 ⊢
    generalize L ++ F = L6 at *
    have HN6 := Lib.hid hN6
    have HE6 := Lib.hid hE6
    have HB6 := Lib.hid hB6
    clear ho6 hg6 hat6 hN6 hl6 hE6 hB6 hc
    go_wp2
    go_roundw
    case rel => exact ⟨k + 1, A6, c6, L6, by omega, by go_num, rfl, HE6, HB6, HN6⟩
    case measure => simp [intOf]; omega
  · have hkn : k = x.n := by omega
    have HE2 : Hid (L = X ++ x.l.flatMap Wpr.full) := Lib.hid (by have h := HE.out; rwa [hkn, List.take_of_length_le (by rw [HX.out.l.1]; exact Nat.le_refl _)] at h)
    have hd : decide (k < x.n) = false := by simp; omega
    have HB2 : Hid (L.length ≤ 1000 + 2300 * x.n) := Lib.hid (by have := HB.out; rw [hkn] at this; exact this)
    clear hkn hlt HE HB
    have hc := HN.out.2.1.cell HC3.out (by simp)
    go_wp2_with fail
    refine (reflen_any x.l2 _ HX.out.l2.1 (show _ ≤ 1000 by have := HX.out.n2; omega) wr).mono ?_
    rintro e w40 ⟨A40, c40, rfl, hN5⟩
    have hfl : (encI (x.l2.length : Int)).length ≤ 20 := by have := encI_len (x.l2.length : Int) (by have := HX.out.l2.1; have := HX.out.n2; omega); omega
    obtain ⟨F, hF⟩ : ∃ F, F = encI (x.l2.length : Int) := ⟨_, rfl⟩
    rw [← hF] at hN5 hfl ⊢
    have HFF := Lib.hid hF
    have HFL := Lib.hid hfl
    have HY := Lib.hid hN5.by
    have HNB := Lib.hid (HN.out.nxt hN5.2.1)
    clear hN5 HN hF hfl hc
    go_wp2_with (at_builtin; refine Stop.mk ?_)
    refine Stop.go ?_
    refine wpList_append_bytes _ rfl _ _ _ rfl 5 Tryz.underlying52 info_u8 (.slice A4 L.length c4) L.length L rfl HNB.out.1 A40 F.length c40 F rfl HY.out (by have := HB2.out; have := HFL.out; omega) ?_
    intro A41 c41 w41 ho6 hg6 hat6
    have hN6 := NewB.grow HNB.out.2.1 HNB.out.2.2 ho6 hg6 hat6
    have hl6 : (L ++ F).length = L.length + F.length := List.length_append
    have hE6 : L ++ F = X ++ x.l.flatMap Wpr.full ++ encI (x.l2.length : Int) := by rw [HE2.out, HFF.out]
    have hB6 : (L ++ F).length ≤ 11000 := by have := HB2.out; have := HFL.out; rw [hl6]; omega
    rw [← hl6] at hN6 ⊢
    generalize L ++ F = X2 at *
    have HN41 := Lib.hid hN6
    have HXT41 := Lib.hid hE6
    have HXB := Lib.hid hB6
    have hc := hN6.2.1.cell HC3.out (by simp)
    clear ho6 hg6 hat6 hN6 hl6 hE6 hB6 HNB HB2 HE2
    go_wp2
    clear hc
    go_loopw [3, 44] (fun s i wr => ∃ (k : Nat) (A4 : Option Addr) (c4 : Nat) (L : List UInt8), k ≤ x.n2 ∧ i = .int .i64 k ∧ s = .slice A4 L.length c4 ∧ Hid (L = X2 ++ (x.l2.take k).flatMap Wop.full) ∧ Hid (L.length ≤ 11000 + 320 * k) ∧ Hid (NewB wa wr A4 L.length c4 L)) (fun _ i _ => x.n2 - (intOf i).toNat)
    case atStart => exact ⟨0, A41, c41, X2, by omega, rfl, rfl, Lib.hid (by simp), Lib.hid (by have := HXB.out; omega), HN41⟩
    case round =>
     obtain ⟨k, A4, c4, L, hk, rfl, rfl, HE, HB, HN⟩ := hrel
     have hc := HN.out.2.1.cell HC3.out (by simp)
     have hnn := HX.out.n2
     by_cases hlt : k < x.n2
     · obtain ⟨ad, v, hA, hv, hcl, hok, hcells⟩ := HX.out.l2.at (i := k) hlt
       rw [hA] at hc
       have HCELLS : Hid (∀ j u, (Wop.cells v)[j]? = some u → wr.cell? ((ad.add (k * 34)).add j) = some u) := Lib.hid (fun j u hj => HN.out.2.1.cell (HF0.out.cell (hcells j u hj) (by simp)) (by simp))
       have HCLN := Lib.hid hcl
       have HOK := Lib.hid hok
       have HV := Lib.hid hv
       have hk0 : (0 : Int) ≤ k := by omega
       clear hcells hcl hok hv hA
       generalize hC : Wop.cells v = CV at *
       have HCV := Lib.hid hC
       clear hC
       have HFW : Hid (Fr [] w wr) := Lib.hid (HF0.out.and HN.out.2.1 (by simp))
       go_wp2_with (first | (refine wpList_cells rfl 54 _ rfl _ rfl CV HCELLS.out (row_opening.of HCLN.out) ?_))
       refine (refputOpening_any v wr (HOK.out.keep HFW.out (by simp)) CV HCV.out).mono ?_
       rintro e w2 ⟨A5, c5, rfl, hN5⟩
       have hfl : (Wop.full v).length ≤ 320 := Wop.full_len HOK.out
       obtain ⟨F, hF⟩ : ∃ F, F = Wop.full v := ⟨_, rfl⟩
       rw [show v.full = F from hF.symm] at hN5 ⊢
       rw [← hF] at hfl
       have HFF := Lib.hid hF
       have HFL := Lib.hid hfl
       have HY := Lib.hid hN5.by
       have HNB := Lib.hid (HN.out.nxt hN5.2.1)
       clear hN5 HN hF hfl
       go_wp2_with (at_builtin; refine Stop.mk ?_)
       refine Stop.go ?_
       refine wpList_append_bytes _ rfl _ _ _ rfl 5 Tryz.underlying52 info_u8 (.slice A4 L.length c4) L.length L rfl HNB.out.1 A5 F.length c5 F rfl HY.out (by have := HB.out; have := HFL.out; omega) ?_
       intro A6 c6 w6 ho6 hg6 hat6
       have hN6 := NewB.grow HNB.out.2.1 HNB.out.2.2 ho6 hg6 hat6
       have hl6 : (L ++ F).length = L.length + F.length := List.length_append
       have hE6 : L ++ F = X2 ++ (x.l2.take (k + 1)).flatMap Wop.full := by rw [flat_snoc HV.out, HE.out, HFF.out, List.append_assoc]
       have hB6 : (L ++ F).length ≤ 11000 + 320 * (k + 1) := by have := HB.out; have := HFL.out; rw [hl6]; omega
       rw [← hl6] at hN6 ⊢
       generalize L ++ F = L6 at *
       have HN6 := Lib.hid hN6
       have HE6 := Lib.hid hE6
       have HB6 := Lib.hid hB6
       clear ho6 hg6 hat6 hN6 hl6 hE6 hB6 hc
       go_wp2
       go_roundw
       case rel => exact ⟨k + 1, A6, c6, L6, by omega, by go_num, rfl, HE6, HB6, HN6⟩
       case measure => simp [intOf]; omega
     · have hkn : k = x.n2 := by omega
       have HE2 : Hid (L = X2 ++ x.l2.flatMap Wop.full) := Lib.hid (by have h := HE.out; rwa [hkn, List.take_of_length_le (by rw [HX.out.l2.1]; exact Nat.le_refl _)] at h)
       have hd : decide (k < x.n2) = false := by simp; omega
       have HB2 : Hid (L.length ≤ 11000 + 320 * x.n2) := Lib.hid (by have := HB.out; rw [hkn] at this; exact this)
       clear hkn hlt HE HB
       have hc := HN.out.2.1.cell HC4.out (by simp)
       go_wp2_with fail
       refine (reflen_any x.l3 _ HX.out.l3.1 (show _ ≤ 1000 by have := HX.out.n3; omega) wr).mono ?_
       rintro e w50 ⟨A50, c50, rfl, hN5⟩
       have hfl : (encI (x.l3.length : Int)).length ≤ 20 := by have := encI_len (x.l3.length : Int) (by have := HX.out.l3.1; have := HX.out.n3; omega); omega
       obtain ⟨F, hF⟩ : ∃ F, F = encI (x.l3.length : Int) := ⟨_, rfl⟩
       rw [← hF] at hN5 hfl ⊢
       have HFF := Lib.hid hF
       have HFL := Lib.hid hfl
       have HY := Lib.hid hN5.by
       have HNB := Lib.hid (HN.out.nxt hN5.2.1)
       clear hN5 HN hF hfl hc
       go_wp2_with (at_builtin; refine Stop.mk ?_)
       refine Stop.go ?_
       refine wpList_append_bytes _ rfl _ _ _ rfl 5 Tryz.underlying52 info_u8 (.slice A4 L.length c4) L.length L rfl HNB.out.1 A50 F.length c50 F rfl HY.out (by have := HB2.out; have := HFL.out; omega) ?_
       intro A51 c51 w51 ho6 hg6 hat6
       have hN6 := NewB.grow HNB.out.2.1 HNB.out.2.2 ho6 hg6 hat6
       have hl6 : (L ++ F).length = L.length + F.length := List.length_append
       have hE6 : L ++ F = X2 ++ x.l2.flatMap Wop.full ++ encI (x.l3.length : Int) := by rw [HE2.out, HFF.out]
       have hB6 : (L ++ F).length ≤ 14000 := by have := HB2.out; have := HFL.out; rw [hl6]; omega
       rw [← hl6] at hN6 ⊢
       generalize L ++ F = X3 at *
       have HN51 := Lib.hid hN6
       have HXT51 := Lib.hid hE6
       have HXB := Lib.hid hB6
       have hc := hN6.2.1.cell HC4.out (by simp)
       clear ho6 hg6 hat6 hN6 hl6 hE6 hB6 HNB HB2 HE2
       go_wp2
       clear hc
       go_loopw [3, 65] (fun s i wr => ∃ (k : Nat) (A4 : Option Addr) (c4 : Nat) (L : List UInt8), k ≤ x.n3 ∧ i = .int .i64 k ∧ s = .slice A4 L.length c4 ∧ Hid (L = X3 ++ (x.l3.take k).flatMap Wtb.full) ∧ Hid (L.length ≤ 14000 + 520 * k) ∧ Hid (NewB wa wr A4 L.length c4 L)) (fun _ i _ => x.n3 - (intOf i).toNat)
       case atStart => exact ⟨0, A51, c51, X3, by omega, rfl, rfl, Lib.hid (by simp), Lib.hid (by have := HXB.out; omega), HN51⟩
       case round =>
        obtain ⟨k, A4, c4, L, hk, rfl, rfl, HE, HB, HN⟩ := hrel
        have hnn := HX.out.n3
        by_cases hlt : k < x.n3
        · obtain ⟨ad, v, hA, hv, hcl, hok, hcells⟩ := HX.out.l3.at (i := k) hlt
          have HC4K : Hid (wa.cell? ⟨w.heap.size, 4, none⟩ = some (.slice (some ad) x.n3 x.d3)) := Lib.hid (by rw [← hA]; exact HC4.out)
          have HE0 : Hid (wa.cell? (ad.add (k * 2)) = some (.int .i64 v.i)) := Lib.hid (HF0.out.cell (p := (ad.add (k * 2)).add 0) (hcells 0 _ rfl) (by simp))
          have HE1 : Hid (wa.cell? ⟨(ad.add (k * 2)).block, (ad.add (k * 2)).off + 1, none⟩ = some (.slice v.A v.n v.d)) := Lib.hid (HF0.out.cell (p := (ad.add (k * 2)).add 1) (hcells 1 _ rfl) (by simp))
          have HOK := Lib.hid hok
          have HV := Lib.hid hv
          have hk0 : (0 : Int) ≤ k := by omega
          clear hcells hcl hok hv hA
          go_wp2
          refine wp_region_held_drew (S := Fr [] wa) (by kernel_rfl) (HN.out.2.1.drew) (fun hHeld => ?_)
          have HND : Hid (NewB wa wr.drew A4 L.length c4 L) := Lib.hid (HN.out.nxt (Fr.drew (Fr.refl [] wr)))
          clear HN
          generalize wr.drew = wd at *
          refine run_at (i := 0) (v := ?_) rfl (by kernel_rfl) (by rfl) (fun _ _ _ h => h) hHeld (fun w1 hw1 => ?_) ?_
          rotate_left 1
          · skip
            go_simp
            try first | with_reducible rfl | apply And.intro <;> rfl
          simp only [xPa, xPb, xPc, xPd, xPe]
          refine run_at (i := 1) (v := ?_) rfl (by kernel_rfl) (by rfl) (fun _ _ _ h => h) hHeld (fun w1 hw1 => ?_) ?_
          rotate_left 1
          · skip
            go_simp
            try first | with_reducible rfl | apply And.intro <;> rfl
          simp only [xPa, xPb, xPc, xPd, xPe]
          refine run_at (i := 2) (v := ?_) rfl (by kernel_rfl) (by rfl) (fun _ _ _ h => h) hHeld (fun w1 hw1 => ?_) ?_
          rotate_left 1
          · skip
            have hcw0 := hw1.cell (HC4K.out) (by simp)
            go_simp
            try first | with_reducible rfl | apply And.intro <;> rfl
          simp only [xPa, xPb, xPc, xPd, xPe]
          refine run_at (i := 3) (v := ?_) rfl (by kernel_rfl) (by rfl) (fun _ _ _ h => h) hHeld (fun w1 hw1 => ?_) ?_
          rotate_left 1
          · skip
            go_simp
            try first | with_reducible rfl | apply And.intro <;> rfl
          simp only [xPa, xPb, xPc, xPd, xPe]
          refine run_at (i := 4) (v := ?_) rfl (by kernel_rfl) (by rfl) (fun _ _ _ h => h) hHeld (fun w1 hw1 => ?_) ?_
          rotate_left 1
          · skip
            go_simp
            try first | with_reducible rfl | apply And.intro <;> rfl
          simp only [xPa, xPb, xPc, xPd, xPe]
          refine run_at (i := 5) (v := ?_) rfl (by kernel_rfl) (by rfl) (fun _ _ _ h => h) hHeld (fun w1 hw1 => ?_) ?_
          rotate_left 1
          · skip
            go_simp
            try first | with_reducible rfl | apply And.intro <;> rfl
          simp only [xPa, xPb, xPc, xPd, xPe]
          refine run_at (i := 6) (v := ?_) rfl (by kernel_rfl) (by rfl) (fun _ _ _ h => h) hHeld (fun w1 hw1 => ?_) ?_
          rotate_left 1
          · skip
            have hcw0 := hw1.cell (HE0.out) (by simp)
            go_simp
            try first | with_reducible rfl | apply And.intro <;> rfl
          simp only [xPa, xPb, xPc, xPd, xPe]
          refine run_at (i := 8) (v := ?_) rfl (by kernel_rfl) (by rfl) (fun _ _ _ h => h) hHeld (fun w1 hw1 => ?_) ?_
          rotate_left 1
          · skip
            go_simp
            try first | with_reducible rfl | apply And.intro <;> rfl
          simp only [xPa, xPb, xPc, xPd, xPe]
          refine run_at (i := 9) (v := ?_) rfl (by kernel_rfl) (by rfl) (fun _ _ _ h => h) hHeld (fun w1 hw1 => ?_) ?_
          rotate_left 1
          · skip
            have hcw0 := hw1.cell (HC4K.out) (by simp)
            go_simp
            try first | with_reducible rfl | apply And.intro <;> rfl
          simp only [xPa, xPb, xPc, xPd, xPe]
          refine run_at (i := 10) (v := ?_) rfl (by kernel_rfl) (by rfl) (fun _ _ _ h => h) hHeld (fun w1 hw1 => ?_) ?_
          rotate_left 1
          · skip
            go_simp
            try first | with_reducible rfl | apply And.intro <;> rfl
          simp only [xPa, xPb, xPc, xPd, xPe]
          refine run_at (i := 11) (v := ?_) rfl (by kernel_rfl) (by rfl) (fun _ _ _ h => h) hHeld (fun w1 hw1 => ?_) ?_
          rotate_left 1
          · skip
            go_simp
            try first | with_reducible rfl | apply And.intro <;> rfl
          simp only [xPa, xPb, xPc, xPd, xPe]
          refine run_at (i := 12) (v := ?_) rfl (by kernel_rfl) (by rfl) (fun _ _ _ h => h) hHeld (fun w1 hw1 => ?_) ?_
          rotate_left 1
          · skip
            go_simp
            try first | with_reducible rfl | apply And.intro <;> rfl
          simp only [xPa, xPb, xPc, xPd, xPe]
          refine run_at (i := 13) (v := ?_) rfl (by kernel_rfl) (by rfl) (fun _ _ _ h => h) hHeld (fun w1 hw1 => ?_) ?_
          rotate_left 1
          · skip
            have hcw0 := hw1.cell (HE1.out) (by simp)
            go_simp
            try first | with_reducible rfl | apply And.intro <;> rfl
          simp only [xPa, xPb, xPc, xPd, xPe]
          refine run_at (i := 14) (v := ?_) rfl (by kernel_rfl) (by rfl) (fun _ _ _ h => h) hHeld (fun w1 hw1 => ?_) ?_
          rotate_left 1
          · skip
            go_simp
            try first | with_reducible rfl | apply And.intro <;> rfl
          simp only [xPa, xPb, xPc, xPd, xPe]
          refine call_at (i := 7) (f := ?_) (args := ?_) rfl (by kernel_rfl) (by rfl) ?_ ?_
          rotate_left 2
          · go_simp
            try first | with_reducible rfl | apply And.intro <;> rfl
          refine (refint_any v.i HOK.out.i.2 wd).mono ?_
          rintro e w7 ⟨A7, c7, rfl, hN⟩
          obtain ⟨n7, hn7⟩ : ∃ nn_, nn_ = (encI v.i).length := ⟨_, rfl⟩
          obtain ⟨l7, hl7⟩ : ∃ ll_, ll_ = encI v.i := ⟨_, rfl⟩
          rw [← hn7] at hN ⊢
          rw [← hl7] at hN
          have HB7 : Hid (n7 ≤ 20000) := Lib.hid (by rw [hn7]; have := encI_len v.i HOK.out.i.2; omega)
          have HL7 := Lib.hid hl7
          refine ⟨_, rfl, hHeld.go hN.2.1 (by simp), fun hHeld => ?_⟩
          simp only [xPa, xPb, xPc, xPd, xPe]
          have HY7 := Lib.hid hN.by
          have HND := Lib.hid (HND.out.nxt hN.2.1)
          clear hN hn7 hl7
          refine call_at (i := 15) (f := ?_) (args := ?_) rfl (by kernel_rfl) (by rfl) ?_ ?_
          rotate_left 2
          · go_simp
            try first | with_reducible rfl | apply And.intro <;> rfl
          refine (reflen_any v.l _ HOK.out.l.1 (show _ ≤ 1000 by have := HOK.out.n; omega) w7).mono ?_
          rintro e w15 ⟨A15, c15, rfl, hN⟩
          obtain ⟨n15, hn15⟩ : ∃ nn_, nn_ = (encI (v.l.length : Int)).length := ⟨_, rfl⟩
          obtain ⟨l15, hl15⟩ : ∃ ll_, ll_ = encI (v.l.length : Int) := ⟨_, rfl⟩
          rw [← hn15] at hN ⊢
          rw [← hl15] at hN
          have HB15 : Hid (n15 ≤ 20000) := Lib.hid (by rw [hn15]; have := encI_len (v.l.length : Int) (by have := HOK.out.n; have := HOK.out.l.1; omega); omega)
          have HL15 := Lib.hid hl15
          refine ⟨_, rfl, hHeld.go hN.2.1 (by simp), fun hHeld => ?_⟩
          simp only [xPa, xPb, xPc, xPd, xPe]
          have HY15 := Lib.hid hN.by
          have HND := Lib.hid (HND.out.nxt hN.2.1)
          have HY7 := Lib.hid (Fr.byk hN.2.1 HY7.out)
          clear hN hn15 hl15
          refine step_at (i := 16) rfl (by kernel_rfl) (by rfl) (fun K hK => ?_)
          refine wp_run (v := ?_) (w' := ?_) ?_ ?_
          rotate_left 2
          · go_simp
            try first | with_reducible rfl | apply And.intro <;> rfl
          refine hK.out _ (w15.alloc (Obj.cells #[.slice A4 L.length c4, .slice A7 n7 c7, .slice A15 n15 c15] 52)) (hHeld.alloc _) (fun hHeld => ?_)
          clear hK K
          simp only [xPa, xPb, xPc, xPd, xPe]
          have hfb : Fr [] w15 (w15.alloc (Obj.cells #[.slice A4 L.length c4, .slice A7 n7 c7, .slice A15 n15 c15] 52)) := (Fr.refl [] w15).alloc _
          have hbb : Blk (w15.alloc (Obj.cells #[.slice A4 L.length c4, .slice A7 n7 c7, .slice A15 n15 c15] 52)) w15.heap.size 52 (([⟨A4, L.length, c4, L⟩, ⟨A7, n7, c7, l7⟩, ⟨A15, n15, c15, l15⟩] : List RowV).map RowV.val).toArray := Blk.new _ _ _
          generalize w15.alloc (Obj.cells #[.slice A4 L.length c4, .slice A7 n7 c7, .slice A15 n15 c15] 52) = wj at *
          have hj := join_big w15.heap.size 3 [⟨A4, L.length, c4, L⟩, ⟨A7, n7, c7, l7⟩, ⟨A15, n15, c15, l15⟩] wj hbb rfl (by omega) (by
           intro r hr
           simp only [List.mem_cons, List.not_mem_nil, or_false] at hr
           rcases hr with rfl | rfl | rfl
           · exact ⟨Fr.byk hfb HND.out.by, by show L.length ≤ 20000; have := HB.out; omega⟩
           · exact ⟨Fr.byk hfb HY7.out, HB7.out⟩
           · exact ⟨Fr.byk hfb HY15.out, HB15.out⟩)
          obtain ⟨Y, hY⟩ : ∃ Y, Y = joinL [⟨A4, L.length, c4, L⟩, ⟨A7, n7, c7, l7⟩, ⟨A15, n15, c15, l15⟩] := ⟨_, rfl⟩
          rw [← hY] at hj
          have hYT : Y = L ++ encI v.i ++ encI (v.l.length : Int) := by
           rw [hY]
           simp only [joinL, List.map_cons, List.map_nil, List.flatten_cons, List.flatten_nil, HL7.out, HL15.out]
           simp
          have hYB : Y.length ≤ 17000 := by
           rw [hYT]
           have b0 := encI_len v.i HOK.out.i.2
           have b1 := encI_len (v.l.length : Int) (by have := HOK.out.n; have := HOK.out.l.1; omega)
           have b2 := HB.out
           simp only [List.length_append]
           omega
          have HYT := Lib.hid hYT
          have HXB := Lib.hid hYB
          have HJ := Lib.hid hj
          clear hfb hbb hj hY hYT hYB HND HY7 HY15 HL7 HL15 HB7 HB15
          refine call_at (i := 17) (f := ?_) (args := ?_) rfl (by kernel_rfl) (by rfl) ?_ ?_
          rotate_left 2
          · go_simp
            try first | with_reducible rfl | apply And.intro <;> rfl
          refine HJ.out.mono ?_
          rintro e wk ⟨Aj, cj, rfl, hN⟩
          have HNK : Hid (NewB wa wk Aj Y.length cj Y) := Lib.hid (hN.from2 hHeld)
          refine ⟨_, rfl, hHeld.go hN.2.1 (by simp), fun hHeld => ?_⟩
          clear hN
          simp only [xPa, xPb, xPc, xPd, xPe]
          refine run_at (i := 18) (v := ?_) rfl (by kernel_rfl) (by rfl) (fun _ _ _ h => h) hHeld (fun w1 hw1 => ?_) ?_
          rotate_left 1
          · skip
            go_simp
            try first | with_reducible rfl | apply And.intro <;> rfl
          simp only [xPa, xPb, xPc, xPd, xPe]
          refine wpAnyH_done (by kernel_rfl) ?_ _
          clear HJ
          have hc := hHeld.cell HC4K.out (by simp)
          have hc1 := hHeld.cell HE1.out (by simp)
          clear hHeld
          go_wp2
          clear hc hc1
          go_loopw [3, 93] (fun s i wr => ∃ (k2 : Nat) (A8 : Option Addr) (c8 : Nat) (L8 : List UInt8), k2 ≤ v.n ∧ i = .int .i64 k2 ∧ s = .slice A8 L8.length c8 ∧ Hid (L8 = Y ++ (v.l.take k2).flatMap Wdn.full) ∧ Hid (L8.length ≤ 17000 + 100 * k2) ∧ Hid (NewB wa wr A8 L8.length c8 L8)) (fun _ i _ => v.n - (intOf i).toNat)
          case atStart => exact ⟨0, Aj, cj, Y, by omega, rfl, rfl, Lib.hid (by simp), Lib.hid (by have := HXB.out; omega), HNK⟩
          case round =>
           obtain ⟨k2, A8, c8, L8, hk2, rfl, rfl, HE8, HB8, HN8⟩ := hrel
           have hc1 := HN8.out.2.1.cell HE1.out (by simp)
           have hnn2 := HOK.out.n
           have hc := HN8.out.2.1.cell HC4K.out (by simp)
           by_cases hlt2 : k2 < v.n
           · obtain ⟨ad2, v2, hA2, hv, hcl, hok, hcells⟩ := HOK.out.l.at (i := k2) hlt2
             rw [hA2] at hc1
             have HCELLS : Hid (∀ j u, (Wdn.cells v2)[j]? = some u → wr.cell? ((ad2.add (k2 * 4)).add j) = some u) := Lib.hid (fun j u hj => HN8.out.2.1.cell (HF0.out.cell (hcells j u hj) (by simp)) (by simp))
             have HCLN := Lib.hid hcl
             have HOK2 := Lib.hid hok
             have HV2 := Lib.hid hv
             have hk20 : (0 : Int) ≤ k2 := by omega
             clear hcells hcl hok hv hA2
             generalize hC : Wdn.cells v2 = CV at *
             have HCV := Lib.hid hC
             clear hC
             have HFW : Hid (Fr [] w wr) := Lib.hid (HF0.out.and HN8.out.2.1 (by simp))
             go_wp2_with (first | (refine wpList_cells rfl 56 _ rfl _ rfl CV HCELLS.out (row_deny.of HCLN.out) ?_))
             refine (refputDeny_any v2 HOK2.out CV HCV.out wr).mono ?_
             rintro e w2 ⟨A5, c5, rfl, hN5⟩
             have hfl : (Wdn.full v2).length ≤ 100 := Wdn.full_len HOK2.out
             obtain ⟨F, hF⟩ : ∃ F, F = Wdn.full v2 := ⟨_, rfl⟩
             rw [show v2.full = F from hF.symm] at hN5 ⊢
             rw [← hF] at hfl
             have HFF := Lib.hid hF
             have HFL := Lib.hid hfl
             have HY := Lib.hid hN5.by
             have HNB := Lib.hid (HN8.out.nxt hN5.2.1)
             clear hN5 HN8 hF hfl
             go_wp2_with (at_builtin; refine Stop.mk ?_)
             refine Stop.go ?_
             refine wpList_append_bytes _ rfl _ _ _ rfl 5 Tryz.underlying52 info_u8 (.slice A8 L8.length c8) L8.length L8 rfl HNB.out.1 A5 F.length c5 F rfl HY.out (by have := HB8.out; have := HFL.out; omega) ?_
             intro A6 c6 w6 ho6 hg6 hat6
             have hN6 := NewB.grow HNB.out.2.1 HNB.out.2.2 ho6 hg6 hat6
             have hl6 : (L8 ++ F).length = L8.length + F.length := List.length_append
             have hE6 : L8 ++ F = Y ++ (v.l.take (k2 + 1)).flatMap Wdn.full := by rw [flat_snoc HV2.out, HE8.out, HFF.out, List.append_assoc]
             have hB6 : (L8 ++ F).length ≤ 17000 + 100 * (k2 + 1) := by have := HB8.out; have := HFL.out; rw [hl6]; omega
             rw [← hl6] at hN6 ⊢
             generalize L8 ++ F = L6 at *
             have HN6 := Lib.hid hN6
             have HE6 := Lib.hid hE6
             have HB6 := Lib.hid hB6
             clear ho6 hg6 hat6 hN6 hl6 hE6 hB6 hc1 hc
             go_wp2
             go_roundw
             case rel => exact ⟨k2 + 1, A6, c6, L6, by omega, by go_num, rfl, HE6, HB6, HN6⟩
             case measure => simp [intOf]; omega
           · have hkn : k2 = v.n := by omega
             have HE2 : Hid (L8 = Y ++ v.l.flatMap Wdn.full) := Lib.hid (by have h := HE8.out; rwa [hkn, List.take_of_length_le (by rw [HOK.out.l.1]; exact Nat.le_refl _)] at h)
             have hd : decide (k2 < v.n) = false := by simp; omega
             have HB2 : Hid (L8.length ≤ 17000 + 100 * v.n) := Lib.hid (by have := HB8.out; rw [hkn] at this; exact this)
             clear hkn hlt2 HE8 HB8
             have hfull : L8 = L ++ v.full := by rw [HE2.out, HYT.out]; simp [Wtb.full, listL, List.append_assoc]
             have hE9 : L8 = X3 ++ (x.l3.take (k + 1)).flatMap Wtb.full := by rw [hfull, flat_snoc HV.out, HE.out, List.append_assoc]
             have hB9 : L8.length ≤ 14000 + 520 * (k + 1) := by have h1 := congrArg List.length hfull; have h2 := Wtb.full_len HOK.out; have h3 := HB.out; rw [List.length_append] at h1; omega
             have HE9 := Lib.hid hE9
             have HB9 := Lib.hid hB9
             clear hfull hE9 hB9 hc1 hc
             go_wp2
             go_roundw
             case rel => exact ⟨k + 1, A8, c8, L8, by omega, by go_num, rfl, HE9, HB9, HN8⟩
             case measure => simp [intOf]; omega
        · have hkn : k = x.n3 := by omega
          have HE2 : Hid (L = X3 ++ x.l3.flatMap Wtb.full) := Lib.hid (by have h := HE.out; rwa [hkn, List.take_of_length_le (by rw [HX.out.l3.1]; exact Nat.le_refl _)] at h)
          have hd : decide (k < x.n3) = false := by simp; omega
          clear hkn hlt HE HB
          go_wp2
          go_ret
          have hfin : x.full = L := by rw [HE2.out, HXT51.out, HXT41.out, HXT.out]; simp [Wba.full, listL, List.append_assoc]
          rw [hfin]
          exact ⟨A4, c4, rfl, HN.out.from2 HF0.out⟩
end Go.Proofs.YtdenpfcgghangaaGreat

namespace Go.Proofs.YtdenpfcgghangaaGreat
open Go.RowKit
set_option maxRecDepth 100000
def confB (f k : Int) : Bool := decide (1 ≤ f ∧ f ≤ 21 ∧ 1 ≤ k ∧ k ≤ 100)
end Go.Proofs.YtdenpfcgghangaaGreat

namespace Go.Proofs.YtdenpfcgghangaaGreat
open Go.RowKit
set_option maxRecDepth 100000
theorem encI_one (v : Int) : encI (v + 1) = enc (oneM v) := by
 unfold encI oneM
 split
 · rw [show (v + 1).toNat = 0 by omega]
 · rw [show (v + 1).toNat = v.toNat + 1 by omega]
end Go.Proofs.YtdenpfcgghangaaGreat

namespace Go.Proofs.YtdenpfcgghangaaGreat
open Go.RowKit
set_option maxRecDepth 100000
section
variable {P : Program} (w : World)
end
def Copies {α β : Type} (f : FuncId) (cells : α → List Value) (ok : World → List Nat → α → Prop) (con : α → β) : Prop :=
 ∀ (v : α) (w : World), ok w [] v → Calls Tryz.prog f #[.agg (cells v).toArray] w fun e w' => ∃ y : α, e = .returned (.agg (cells y).toArray) ∧ con y = con v ∧ (∀ S0 : List Nat, (∀ q ∈ S0, q < w.heap.size) → ok w' S0 y) ∧ Fr [] w w'
def copyTomb_anyZ : Array Value := ((⟨0, none, 0, 0, []⟩ : Wtb)).cells.toArray
def copyCert_anyZ : Array Value := ((⟨⟨0, 0, mh0, 0, 0, 0⟩, none, 0, 0, []⟩ : Wce)).cells.toArray
def copyOpening_anyZ : Array Value := ((⟨0, none, 0, 0, [], mh0⟩ : Wop)).cells.toArray
end Go.Proofs.YtdenpfcgghangaaGreat

namespace Go.Proofs.YtdenpfcgghangaaGreat
open Go.RowKit
set_option maxRecDepth 100000
def copyPromise_anyZ : Array Value := ((⟨0, 0, 0, none, 0, 0, [], 0, 0⟩ : Wpr)).cells.toArray
end Go.Proofs.YtdenpfcgghangaaGreat

namespace Go.Proofs.YtdenpfcgghangaaGreat
open Go.RowKit
set_option maxRecDepth 100000
def copyBatch_anyZ : Array Value := ((⟨0, 0, none, 0, 0, [], none, 0, 0, [], none, 0, 0, []⟩ : Wba)).cells.toArray
def copyProposal_anyZ : Array Value := ((⟨0, 0, 0, 0, ⟨0, 0, none, 0, 0, [], none, 0, 0, [], none, 0, 0, []⟩, 0, 0⟩ : Wpo)).cells.toArray
def copyDecided_anyZ : Array Value := ((⟨0, 0, ⟨0, 0, none, 0, 0, [], none, 0, 0, [], none, 0, 0, []⟩, none, 0, 0, []⟩ : Wdc)).cells.toArray
end Go.Proofs.YtdenpfcgghangaaGreat

namespace Go.Proofs.YtdenpfcgghangaaGreat
open Go.RowKit
set_option maxRecDepth 100000
def onlyC (c : Cmg) : Cmg :=
 let z : Cmg := (mz c.q c.f c.t).con
 if c.q = 1 then {z with cm := c.cm} else if c.q = 2 then {z with st := c.st} else if c.q = 3 then {z with ce := c.ce} else if c.q = 4 then {z with ak := c.ak} else if c.q = 5 then {z with e := c.e, r := c.r, tm := c.tm}
 else if c.q = 6 then {z with pr := c.pr} else if c.q = 7 then {z with po := c.po} else if c.q = 8 then {z with vt := c.vt} else if c.q = 9 then {z with i := c.i, en := c.en} else if c.q = 10 then {z with op := c.op} else if c.q = 11 then {z with i := c.i}
 else if c.q = 12 then {z with dn := c.dn} else if c.q = 13 then {z with i := c.i, rp := c.rp} else if c.q = 14 then {z with de := c.de} else (mz 0 0 0).con
def OnlyPost (x : Wmg) (w : World) (e : Ending) (w' : World) : Prop := ∃ y : Wmg, e = .returned (.agg y.cells.toArray) ∧ y.con = onlyC x.con ∧ y.Ok w' [] ∧ Fr [] w w'
end Go.Proofs.YtdenpfcgghangaaGreat
