/- The writers and the text of an ack: they are a stamp's (written by gen_ack.py out of XPut). -/
import Derived.Test.YtdgbcdmooklciaaPut
namespace Go.Proofs.Ytdgbcdmooklciaa
open Go.RowKit
set_option maxRecDepth 100000
def wAck : List UInt8 := [97, 99, 107]
def Wst.ack (x : Wst) : List UInt8 := enc wAck.length ++ wAck ++ x.bare
theorem Wst.ack_len {x : Wst} (hx : x.Ok) : x.ack.length ≤ 100 := by
  have b0 := Wst.bare_len hx
  have b1 := enc_ten (m := wAck.length) (by decide)
  have b2 : wAck.length = 3 := rfl
  simp only [Wst.ack, List.length_append]
  omega
set_option maxHeartbeats 1000000 in
theorem ackFields_any (x : Wst) (hx : x.Ok) (w : World) (S : List Nat) (g : Nat) (l : List UInt8) (hw : Wr w S g l) (hl : l.length + 100 ≤ 1073741000) :
    Calls Try.prog 90 #[.pointer (some ⟨g, 0, none⟩), x.val] w fun e w' => e = .returned (.pointer (some ⟨g, 0, none⟩)) ∧ Gr w S g (l ++ x.bare) w' := by
  obtain ⟨wa, hwa⟩ : ∃ wa, wa = w.alloc (Obj.cells x.cells.toArray 99) := ⟨_, rfl⟩
  have hf0 : Fr [] w wa := by rw [hwa]; exact (Fr.refl [] w).alloc _
  have hb0 : Blk wa w.heap.size 99 x.cells.toArray := by rw [hwa]; exact Blk.new _ _ _
  have HNS : Hid (¬ w.heap.size ∈ S) := Lib.hid (fun h => by have := hw.lt _ h; omega)
  have HG0 := Lib.hid (Gr.begin hw hf0)
  have HALL := Lib.hid hb0.range
  have HAT := Lib.hid (Wst.at_of (o := 0) hb0.range hx.h)
  have HLN : Hid (x.cells.length = 38) := Lib.hid (Wst.len hx.h)
  have HF0 := Lib.hid hf0
  have HWA := Lib.hid hwa
  have HL := Lib.hid hl
  have HX := Lib.hid hx
  clear hwa hf0 hb0 hl hw hx
  unfold Wst.val
  generalize hC : x.cells = C at *
  have HRC := Lib.hid hC
  clear hC
  go_enter Try.func90, Try.ntmps90
  go_wp2
  rw [← HWA.out]
  refine wp_region_held_drew (S := Fr S wa) (by kernel_rfl) (Fr.drew (Fr.refl _ wa)) (fun hHeld => ?_)
  refine run_at (i := 0) (v := ?_) rfl (by kernel_rfl) (by rfl) (fun _ _ _ h => h) hHeld (fun w1 hw1 => ?_) ?_
  rotate_left 1
  · skip
    go_simp
    (try (first | with_reducible rfl | (apply And.intro <;> rfl)))
  simp only [Act.put, List.setIfInBounds_toArray, List.set_cons_zero, List.set_cons_succ]
  refine run_at (i := 1) (v := ?_) rfl (by kernel_rfl) (by rfl) (fun _ _ _ h => h) hHeld (fun w1 hw1 => ?_) ?_
  rotate_left 1
  · skip
    go_simp
    (try (first | with_reducible rfl | (apply And.intro <;> rfl)))
  simp only [Act.put, List.setIfInBounds_toArray, List.set_cons_zero, List.set_cons_succ]
  refine run_at (i := 2) (v := ?_) rfl (by kernel_rfl) (by rfl) (fun _ _ _ h => h) hHeld (fun w1 hw1 => ?_) ?_
  rotate_left 1
  · skip
    have hcw0 := hw1.cell (HAT.out.r) (by first | (simp; done) | exact HNS.out | exact HNW.out | (intro hm; have hlt := HSB.out _ hm; (try dsimp only at hlt); omega))
    go_simp
    (try (first | with_reducible rfl | (apply And.intro <;> rfl)))
  simp only [Act.put, List.setIfInBounds_toArray, List.set_cons_zero, List.set_cons_succ]
  refine run_at (i := 4) (v := ?_) rfl (by kernel_rfl) (by rfl) (fun _ _ _ h => h) hHeld (fun w1 hw1 => ?_) ?_
  rotate_left 1
  · skip
    go_simp
    (try (first | with_reducible rfl | (apply And.intro <;> rfl)))
  simp only [Act.put, List.setIfInBounds_toArray, List.set_cons_zero, List.set_cons_succ]
  refine row_at (i := 5) rfl (by kernel_rfl) (by rfl) _ _ rfl _ _ rfl _ (fun w1 hw1 => hw1.range (HAT.out.name) (by first | (simp; done) | exact HNS.out | exact HNW.out | (intro hm; have hlt := HSB.out _ hm; (try dsimp only at hlt); omega))) (row_name) (fun _ _ _ h => h) hHeld ?_
  simp only [Act.put, List.setIfInBounds_toArray, List.set_cons_zero, List.set_cons_succ]
  refine run_at (i := 7) (v := ?_) rfl (by kernel_rfl) (by rfl) (fun _ _ _ h => h) hHeld (fun w1 hw1 => ?_) ?_
  rotate_left 1
  · skip
    go_simp
    (try (first | with_reducible rfl | (apply And.intro <;> rfl)))
  simp only [Act.put, List.setIfInBounds_toArray, List.set_cons_zero, List.set_cons_succ]
  refine row_at (i := 8) rfl (by kernel_rfl) (by rfl) _ _ rfl _ _ rfl _ (fun w1 hw1 => hw1.range (HAT.out.hash) (by first | (simp; done) | exact HNS.out | exact HNW.out | (intro hm; have hlt := HSB.out _ hm; (try dsimp only at hlt); omega))) (row_hash.of (by rw [List.length_map]; exact HX.out.h)) (fun _ _ _ h => h) hHeld ?_
  simp only [Act.put, List.setIfInBounds_toArray, List.set_cons_zero, List.set_cons_succ]
  refine run_at (i := 10) (v := ?_) rfl (by kernel_rfl) (by rfl) (fun _ _ _ h => h) hHeld (fun w1 hw1 => ?_) ?_
  rotate_left 1
  · skip
    go_simp
    (try (first | with_reducible rfl | (apply And.intro <;> rfl)))
  simp only [Act.put, List.setIfInBounds_toArray, List.set_cons_zero, List.set_cons_succ]
  refine run_at (i := 11) (v := ?_) rfl (by kernel_rfl) (by rfl) (fun _ _ _ h => h) hHeld (fun w1 hw1 => ?_) ?_
  rotate_left 1
  · skip
    have hcw0 := hw1.cell (HAT.out.t) (by first | (simp; done) | exact HNS.out | exact HNW.out | (intro hm; have hlt := HSB.out _ hm; (try dsimp only at hlt); omega))
    go_simp
    (try (first | with_reducible rfl | (apply And.intro <;> rfl)))
  simp only [Act.put, List.setIfInBounds_toArray, List.set_cons_zero, List.set_cons_succ]
  refine call_at (i := 3) (f := ?_) (args := ?_) rfl (by kernel_rfl) (by rfl) ?_ ?_
  rotate_left 2
  · go_simp
    (try (first | with_reducible rfl | (apply And.intro <;> rfl)))
  refine (HG0.out.call fun S1 k1 => int_any x.r HX.out.r.1 HX.out.r.2 _ S1 g _ k1 (by have h0 := HL.out; (try simp only [List.length_append, sgL, nmL] at *); omega)).mono ?_
  rintro e w1 ⟨rfl, hg1⟩
  have HG1 := Lib.hid hg1
  refine ⟨_, rfl, hg1.fr, fun hHeld => ?_⟩
  clear hg1 HG0
  simp only [Act.put, List.setIfInBounds_toArray, List.set_cons_zero, List.set_cons_succ]
  refine call_at (i := 6) (f := ?_) (args := ?_) rfl (by kernel_rfl) (by rfl) ?_ ?_
  rotate_left 2
  · go_simp
    (try (first | with_reducible rfl | (apply And.intro <;> rfl)))
  refine (HG1.out.call fun S1 k1 => putName_any x.c x.s HX.out.c HX.out.s _ S1 g _ k1 (by have h0 := HL.out; have b0 := encI_len x.r HX.out.r.2; (try simp only [List.length_append, sgL, nmL] at *); omega)).mono ?_
  rintro e w2 ⟨rfl, hg2⟩
  have HG2 := Lib.hid hg2
  refine ⟨_, rfl, hg2.fr, fun hHeld => ?_⟩
  clear hg2 HG1
  simp only [Act.put, List.setIfInBounds_toArray, List.set_cons_zero, List.set_cons_succ]
  refine call_at (i := 9) (f := ?_) (args := ?_) rfl (by kernel_rfl) (by rfl) ?_ ?_
  rotate_left 2
  · go_simp
    (try (first | with_reducible rfl | (apply And.intro <;> rfl)))
  refine (HG2.out.call fun S1 k1 => hash_any x.h HX.out.h _ S1 g _ k1 (by have h0 := HL.out; have b0 := encI_len x.r HX.out.r.2; have b1 := encI_len x.c HX.out.c.2; have b2 := encI_len x.s HX.out.s.2; (try simp only [List.length_append, sgL, nmL] at *); omega)).mono ?_
  rintro e w3 ⟨rfl, hg3⟩
  have HG3 := Lib.hid hg3
  refine ⟨_, rfl, hg3.fr, fun hHeld => ?_⟩
  clear hg3 HG2
  simp only [Act.put, List.setIfInBounds_toArray, List.set_cons_zero, List.set_cons_succ]
  refine call_at (i := 12) (f := ?_) (args := ?_) rfl (by kernel_rfl) (by rfl) ?_ ?_
  rotate_left 2
  · go_simp
    (try (first | with_reducible rfl | (apply And.intro <;> rfl)))
  refine (HG3.out.call fun S1 k1 => num_any x.t HX.out.t _ S1 g _ k1 (by have h0 := HL.out; have b0 := encI_len x.r HX.out.r.2; have b1 := encI_len x.c HX.out.c.2; have b2 := encI_len x.s HX.out.s.2; have b3 := HX.out.h; (try simp only [List.length_append, sgL, nmL] at *); omega)).mono ?_
  rintro e w4 ⟨rfl, hg4⟩
  have HG4 := Lib.hid hg4
  refine ⟨_, rfl, hg4.fr, fun hHeld => ?_⟩
  clear hg4 HG3
  simp only [Act.put, List.setIfInBounds_toArray, List.set_cons_zero, List.set_cons_succ]
  refine run_at (i := 13) (v := ?_) rfl (by kernel_rfl) (by rfl) (fun _ _ _ h => h) hHeld (fun w1 hw1 => ?_) ?_
  rotate_left 1
  · skip
    go_simp
    (try (first | with_reducible rfl | (apply And.intro <;> rfl)))
  simp only [Act.put, List.setIfInBounds_toArray, List.set_cons_zero, List.set_cons_succ]
  refine wpAnyH_done (by kernel_rfl) ?_ _
  go_wp2
  go_ret
  exact ⟨rfl, (HG4.out.from_ HF0.out).eq (by simp [Wst.bare, List.append_assoc])⟩
theorem ackFields_any' (x : Wst) (hx : x.Ok) (C : List Value) (hC : x.cells = C) (w : World) (S : List Nat) (g : Nat) (l : List UInt8) (hw : Wr w S g l) (hl : l.length + 100 ≤ 1073741000) :
    Calls Try.prog 90 #[.pointer (some ⟨g, 0, none⟩), .agg C.toArray] w fun e w' => e = .returned (.pointer (some ⟨g, 0, none⟩)) ∧ Gr w S g (l ++ x.bare) w' := by
  subst hC
  exact ackFields_any x hx w S g l hw hl
set_option maxHeartbeats 1000000 in
theorem ackText_any (x : Wst) (hx : x.Ok) (w : World) :
    Calls Try.prog 50 #[x.val] w fun e w' => ∃ A c, e = .returned (.slice A x.ack.length c) ∧ NewB w w' A x.ack.length c x.ack := by
  obtain ⟨wa, hwa⟩ : ∃ wa, wa = w.alloc (Obj.cells x.cells.toArray 99) := ⟨_, rfl⟩
  have hf0 : Fr [] w wa := by rw [hwa]; exact (Fr.refl [] w).alloc _
  have hb0 : Blk wa w.heap.size 99 x.cells.toArray := by rw [hwa]; exact Blk.new _ _ _
  have HALL := Lib.hid hb0.range
  have HLN : Hid (x.cells.length = 38) := Lib.hid (Wst.len hx.h)
  have HTL := Lib.hid (Wst.ack_len hx)
  have HF0 := Lib.hid hf0
  have HWA := Lib.hid hwa
  have HX := Lib.hid hx
  clear hwa hf0 hb0 hx
  unfold Wst.val
  generalize hC : x.cells = C at *
  have HRC := Lib.hid hC
  clear hC
  go_enter Try.func50, Try.ntmps50
  go_wp2
  rw [← HWA.out]
  refine wp_region_held_drew (S := Fr [] wa) (by kernel_rfl) (Fr.drew (Fr.refl _ wa)) (fun hHeld => ?_)
  refine row_at (i := 1) rfl (by kernel_rfl) (by rfl) _ _ rfl _ _ rfl _ (fun w1 hw1 => hw1.range (HALL.out) (by first | (simp; done) | exact HNS.out | exact HNW.out | (intro hm; have hlt := HSB.out _ hm; (try dsimp only at hlt); omega))) (row_ack.of HLN.out) (fun _ _ _ h => h) hHeld ?_
  simp only [Act.put, List.setIfInBounds_toArray, List.set_cons_zero, List.set_cons_succ]
  refine call_at (i := 0) (f := ?_) (args := ?_) rfl (by kernel_rfl) (by rfl) ?_ ?_
  rotate_left 2
  · go_simp
    (try (first | with_reducible rfl | (apply And.intro <;> rfl)))
  refine (wbegin_any wAck (by decide) _).mono ?_
  rintro e w1 ⟨g, rfl, hw1⟩
  have HW := Lib.hid (hw1.from_ (Fr.drew (Fr.refl [] wa)))
  refine ⟨_, rfl, HW.out.fr, fun hHeld => ?_⟩
  clear hw1
  simp only [Act.put, List.setIfInBounds_toArray, List.set_cons_zero, List.set_cons_succ]
  refine call_at (i := 2) (f := ?_) (args := ?_) rfl (by kernel_rfl) (by rfl) ?_ ?_
  rotate_left 2
  · go_simp
    (try (first | with_reducible rfl | (apply And.intro <;> rfl)))
  refine (HW.out.call fun S1 k1 => ackFields_any' x HX.out C HRC.out _ S1 g _ k1 (by have b1 := enc_ten (m := wAck.length) (by decide); have b2 : wAck.length = 3 := rfl; simp only [List.length_append]; omega)).mono ?_
  rintro e w2 ⟨rfl, hw2⟩
  have HW2 : Hid (NewWr wa w2 g x.ack) := Lib.hid hw2
  refine ⟨_, rfl, hw2.fr, fun hHeld => ?_⟩
  clear hw2 HW
  simp only [Act.put, List.setIfInBounds_toArray, List.set_cons_zero, List.set_cons_succ]
  refine call_at (i := 3) (f := ?_) (args := ?_) rfl (by kernel_rfl) (by rfl) ?_ ?_
  rotate_left 2
  · go_simp
    (try (first | with_reducible rfl | (apply And.intro <;> rfl)))
  refine (bytes_head wa w2 g _ HW2.out (by have := HTL.out; omega)).mono ?_
  rintro e w3 ⟨A3, c3, rfl, hn3⟩
  have HN3 := Lib.hid hn3
  refine ⟨_, rfl, hn3.2.1, fun hHeld => ?_⟩
  clear hn3 HW2
  simp only [Act.put, List.setIfInBounds_toArray, List.set_cons_zero, List.set_cons_succ]
  refine run_at (i := 4) (v := ?_) rfl (by kernel_rfl) (by rfl) (fun _ _ _ h => h) hHeld (fun w1 hw1 => ?_) ?_
  rotate_left 1
  · skip
    go_simp
    (try (first | with_reducible rfl | (apply And.intro <;> rfl)))
  simp only [Act.put, List.setIfInBounds_toArray, List.set_cons_zero, List.set_cons_succ]
  refine wpAnyH_done (by kernel_rfl) ?_ _
  go_wp2
  go_ret
  exact ⟨A3, c3, rfl, HN3.out.1, HF0.out.and HN3.out.2.1 (by simp), fun k hk => Nat.le_trans HF0.out.size (HN3.out.2.2 k hk)⟩
end Go.Proofs.Ytdgbcdmooklciaa
