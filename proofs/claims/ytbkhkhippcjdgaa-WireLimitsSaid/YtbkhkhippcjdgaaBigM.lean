/- WireLimits: the writers of long lists; what a reader makes of more than may be. (written by gen_big.py) -/
import Derived.Test.YtbkhkhippcjdgaaKC4
namespace Go.Proofs.Ytbkhkhippcjdgaa
open Go.RowKit
set_option maxRecDepth 100000
structure Wtb.Bg (w : World) (S : List Nat) (x : Wtb) : Prop where
  i : i64In x.i
  l : Lst 4 Wdn.cells (fun _ v => v.Ok) w x.A x.n x.l
  n : x.n ≤ 110
  ap : 0 < x.n → ∀ a, x.A = some a → ¬ a.block ∈ S
theorem Wtb.Bg.keep {w W : World} {S S' : List Nat} {x : Wtb} (h : x.Bg w S) (hf : Fr S w W) (hs : ∀ k ∈ S', k < w.heap.size → k ∈ S) : x.Bg W S' :=
  ⟨h.i, h.l.keep' hf h.ap (fun _ _ h => h), h.n, fun hn a ha hin => h.ap hn a ha (hs _ hin (h.l.lt hn (by decide) (fun v hv => Wdn.len v) a ha))⟩
theorem Wtb.Bg.full_len {w : World} {S : List Nat} {x : Wtb} (hx : x.Bg w S) : x.full.length ≤ 11100 := by
  have b0 := encI_len x.i hx.i.2
  have b1 := encI_len (x.l.length : Int) (by have := hx.n; have := hx.l.1; omega)
  have b2 : (x.l.flatMap Wdn.full).length ≤ 110 * 100 := flat_len (fun v hv => Wdn.full_len (hx.l.2.1 v hv).2) (by have := hx.n; have := hx.l.1; omega)
  simp only [Wtb.full, listL, List.length_append]
  omega
set_option maxHeartbeats 1000000 in
theorem putTombB_any (x : Wtb) (w : World) (S : List Nat) (g : Nat) (l : List UInt8) (hw : Wr w S g l) (hl : l.length + 22500 ≤ 1073741000) (hx : x.Bg w S) :
    Calls Try.prog 83 #[.pointer (some ⟨g, 0, none⟩), x.val] w fun e w' => e = .returned (.pointer (some ⟨g, 0, none⟩)) ∧ Gr w S g (l ++ x.full) w' := by
  obtain ⟨wa, hwa⟩ : ∃ wa, wa = w.alloc (Obj.cells x.cells.toArray 81) := ⟨_, rfl⟩
  have hf0 : Fr [] w wa := by rw [hwa]; exact (Fr.refl [] w).alloc _
  have hb0 : Blk wa w.heap.size 81 x.cells.toArray := by rw [hwa]; exact Blk.new _ _ _
  have HNS : Hid (¬ w.heap.size ∈ S) := Lib.hid (fun h => by have := hw.lt _ h; omega)
  have HG0 := Lib.hid (Gr.begin hw hf0)
  have HC0 : Hid (wa.cell? ⟨w.heap.size, 0 + 0, none⟩ = some (.int .i64 x.i)) := Lib.hid (hb0.range (cs := x.cells) 0 _ rfl)
  have HC1 : Hid (wa.cell? ⟨w.heap.size, 0 + 1, none⟩ = some (.slice x.A x.n x.d)) := Lib.hid (hb0.range (cs := x.cells) 1 _ rfl)
  have HF0 := Lib.hid hf0
  have HWA := Lib.hid hwa
  have HL := Lib.hid hl
  have HX := Lib.hid hx
  clear hwa hf0 hb0 hl hw hx
  unfold Wtb.val
  generalize hC : x.cells = C at *
  have HRC := Lib.hid hC
  clear hC
  go_enter Try.func83, Try.ntmps83
  go_wp2
  rw [← HWA.out]
  refine wp_region_held_drew (S := Fr S wa) (by kernel_rfl) (Fr.drew (Fr.refl _ wa)) (fun hHeld => ?_)
  refine run_at (i := 0) (v := ?_) rfl (by kernel_rfl) (by rfl) (fun _ _ _ h => h) hHeld (fun w1 hw1 => ?_) ?_
  rotate_left 1
  · skip
    go_simp
    (try (first | with_reducible rfl | (apply And.intro <;> rfl)))
  simp only [Act.put, List.setIfInBounds_toArray, List.set_cons_zero, List.set_cons_succ]
  refine run_at (i := 1) (v := ?_) rfl (by kernel_rfl) (by rfl) (fun _ _ _ h => h) hHeld (fun w1 hw1 => ?_) ?_
  rotate_left 1
  · skip
    go_simp
    (try (first | with_reducible rfl | (apply And.intro <;> rfl)))
  simp only [Act.put, List.setIfInBounds_toArray, List.set_cons_zero, List.set_cons_succ]
  refine run_at (i := 2) (v := ?_) rfl (by kernel_rfl) (by rfl) (fun _ _ _ h => h) hHeld (fun w1 hw1 => ?_) ?_
  rotate_left 1
  · skip
    have hcw0 := hw1.cell (HC0.out) (by first | (simp; done) | exact HNS.out | exact HNW.out | (intro hm; have hlt := HSB.out _ hm; (try dsimp only at hlt); omega))
    go_simp
    (try (first | with_reducible rfl | (apply And.intro <;> rfl)))
  simp only [Act.put, List.setIfInBounds_toArray, List.set_cons_zero, List.set_cons_succ]
  refine run_at (i := 4) (v := ?_) rfl (by kernel_rfl) (by rfl) (fun _ _ _ h => h) hHeld (fun w1 hw1 => ?_) ?_
  rotate_left 1
  · skip
    go_simp
    (try (first | with_reducible rfl | (apply And.intro <;> rfl)))
  simp only [Act.put, List.setIfInBounds_toArray, List.set_cons_zero, List.set_cons_succ]
  refine run_at (i := 5) (v := ?_) rfl (by kernel_rfl) (by rfl) (fun _ _ _ h => h) hHeld (fun w1 hw1 => ?_) ?_
  rotate_left 1
  · skip
    have hcw0 := hw1.cell (HC1.out) (by first | (simp; done) | exact HNS.out | exact HNW.out | (intro hm; have hlt := HSB.out _ hm; (try dsimp only at hlt); omega))
    go_simp
    (try (first | with_reducible rfl | (apply And.intro <;> rfl)))
  simp only [Act.put, List.setIfInBounds_toArray, List.set_cons_zero, List.set_cons_succ]
  refine call_at (i := 3) (f := ?_) (args := ?_) rfl (by kernel_rfl) (by rfl) ?_ ?_
  rotate_left 2
  · go_simp
    (try (first | with_reducible rfl | (apply And.intro <;> rfl)))
  refine (HG0.out.call fun S1 k1 => int_any x.i HX.out.i.1 HX.out.i.2 _ S1 g _ k1 (by have h0 := HL.out; (try simp only [List.length_append, sgL, nmL] at *); omega)).mono ?_
  rintro e w1 ⟨rfl, hg1⟩
  have HG1 := Lib.hid hg1
  refine ⟨_, rfl, hg1.fr, fun hHeld => ?_⟩
  clear hg1 HG0
  simp only [Act.put, List.setIfInBounds_toArray, List.set_cons_zero, List.set_cons_succ]
  refine call_at (i := 6) (f := ?_) (args := ?_) rfl (by kernel_rfl) (by rfl) ?_ ?_
  rotate_left 2
  · go_simp
    (try (first | with_reducible rfl | (apply And.intro <;> rfl)))
  refine (HG1.out.calls fun S1 k1 f1 s1 => putDenies_any Wdn.cells (fun _ _ v => v.Ok) Wdn.full 200 Wdn.one rfl (fun _ _ v h => Nat.le_trans (Wdn.full_len h) (by decide)) (fun v W S g l h hw hl => putDeny_any v h W S g l hw hl) _ S1 g _ k1 x.A x.n x.d x.l (HX.out.keep ((HF0.out.mono (T := S) (by simp)).trans f1 (fun k hk _ => hk)) (fun k hk hl => s1 k hk (Nat.lt_of_lt_of_le hl HF0.out.size))).l (by have := HX.out.n; omega) (HX.out.keep ((HF0.out.mono (T := S) (by simp)).trans f1 (fun k hk _ => hk)) (fun k hk hl => s1 k hk (Nat.lt_of_lt_of_le hl HF0.out.size))).ap (fun _ _ _ _ _ _ h => h) (by have h0 := HL.out; have b0 := encI_len x.i HX.out.i.2; have := HX.out.n; simp only [List.length_append]; omega)).mono ?_
  rintro e w2 ⟨rfl, hg2⟩
  have HG2 := Lib.hid hg2
  refine ⟨_, rfl, hg2.fr, fun hHeld => ?_⟩
  clear hg2 HG1
  simp only [Act.put, List.setIfInBounds_toArray, List.set_cons_zero, List.set_cons_succ]
  refine run_at (i := 7) (v := ?_) rfl (by kernel_rfl) (by rfl) (fun _ _ _ h => h) hHeld (fun w1 hw1 => ?_) ?_
  rotate_left 1
  · skip
    go_simp
    (try (first | with_reducible rfl | (apply And.intro <;> rfl)))
  simp only [Act.put, List.setIfInBounds_toArray, List.set_cons_zero, List.set_cons_succ]
  refine wpAnyH_done (by kernel_rfl) ?_ _
  go_wp2
  go_ret
  exact ⟨rfl, (HG2.out.from_ HF0.out).eq (by simp [Wtb.full, List.append_assoc])⟩
structure Wba.Bg (w : World) (S : List Nat) (x : Wba) : Prop where
  e : i64In x.e
  t : x.t < 18446744073709551616
  l : Lst 6 Wpr.cells (fun w v => v.Ok w S) w x.A x.n x.l
  n : x.n ≤ 4
  ap : 0 < x.n → ∀ a, x.A = some a → ¬ a.block ∈ S
  l2 : Lst 34 Wop.cells (fun w v => v.Ok w S) w x.A2 x.n2 x.l2
  n2 : x.n2 ≤ 110
  ap2 : 0 < x.n2 → ∀ a, x.A2 = some a → ¬ a.block ∈ S
  l3 : Lst 2 Wtb.cells (fun w v => v.Bg w S) w x.A3 x.n3 x.l3
  n3 : x.n3 ≤ 110
  ap3 : 0 < x.n3 → ∀ a, x.A3 = some a → ¬ a.block ∈ S
theorem Wba.Bg.keep {w W : World} {S S' : List Nat} {x : Wba} (h : x.Bg w S) (hf : Fr S w W) (hs : ∀ k ∈ S', k < w.heap.size → k ∈ S) : x.Bg W S' :=
  ⟨h.e, h.t, h.l.keep' hf h.ap (fun _ _ h => h.keep hf hs), h.n, fun hn a ha hin => h.ap hn a ha (hs _ hin (h.l.lt hn (by decide) (fun _ _ => rfl) a ha)),
    h.l2.keep' hf h.ap2 (fun _ _ h => h.keep hf hs), h.n2, fun hn a ha hin => h.ap2 hn a ha (hs _ hin (h.l2.lt hn (by decide) (fun v hv => Wop.len (h.l2.2.1 v hv).2.h) a ha)),
    h.l3.keep' hf h.ap3 (fun _ _ h => h.keep hf hs), h.n3, fun hn a ha hin => h.ap3 hn a ha (hs _ hin (h.l3.lt hn (by decide) (fun _ _ => rfl) a ha))⟩
theorem Wba.Bg.l_len {w : World} {S : List Nat} {x : Wba} (hx : x.Bg w S) : (listL Wpr.full x.l).length ≤ 9300 := by
  have b1 := encI_len (x.l.length : Int) (by have := hx.n; have := hx.l.1; omega)
  have b2 : (x.l.flatMap Wpr.full).length ≤ 4 * 2300 := flat_len (fun v hv => Wpr.full_len (hx.l.2.1 v hv).2) (by have := hx.n; have := hx.l.1; omega)
  simp only [listL, List.length_append]
  omega
theorem Wba.Bg.l2_len {w : World} {S : List Nat} {x : Wba} (hx : x.Bg w S) : (listL Wop.full x.l2).length ≤ 35300 := by
  have b1 := encI_len (x.l2.length : Int) (by have := hx.n2; have := hx.l2.1; omega)
  have b2 : (x.l2.flatMap Wop.full).length ≤ 110 * 320 := flat_len (fun v hv => Wop.full_len (hx.l2.2.1 v hv).2) (by have := hx.n2; have := hx.l2.1; omega)
  simp only [listL, List.length_append]
  omega
theorem Wba.Bg.l3_len {w : World} {S : List Nat} {x : Wba} (hx : x.Bg w S) : (listL Wtb.full x.l3).length ≤ 1221100 := by
  have b1 := encI_len (x.l3.length : Int) (by have := hx.n3; have := hx.l3.1; omega)
  have b2 : (x.l3.flatMap Wtb.full).length ≤ 110 * 11100 := flat_len (fun v hv => (hx.l3.2.1 v hv).2.full_len) (by have := hx.n3; have := hx.l3.1; omega)
  simp only [listL, List.length_append]
  omega
theorem Wba.Bg.full_len {w : World} {S : List Nat} {x : Wba} (hx : x.Bg w S) : x.full.length ≤ 1300000 := by
  have b0 := encI_len x.e hx.e.2
  have b1 := enc_ten hx.t
  have b2 := hx.l_len
  have b3 := hx.l2_len
  have b4 := hx.l3_len
  simp only [Wba.full, List.length_append]
  omega
set_option maxHeartbeats 1000000 in
theorem putBatchB_any (x : Wba) (w : World) (S : List Nat) (g : Nat) (l : List UInt8) (hw : Wr w S g l) (hl : l.length + 4000000 ≤ 1073741000) (hx : x.Bg w S) :
    Calls Try.prog 46 #[.pointer (some ⟨g, 0, none⟩), x.val] w fun e w' => e = .returned (.pointer (some ⟨g, 0, none⟩)) ∧ Gr w S g (l ++ x.full) w' := by
  obtain ⟨wa, hwa⟩ : ∃ wa, wa = w.alloc (Obj.cells x.cells.toArray 41) := ⟨_, rfl⟩
  have hf0 : Fr [] w wa := by rw [hwa]; exact (Fr.refl [] w).alloc _
  have hb0 : Blk wa w.heap.size 41 x.cells.toArray := by rw [hwa]; exact Blk.new _ _ _
  have HNS : Hid (¬ w.heap.size ∈ S) := Lib.hid (fun h => by have := hw.lt _ h; omega)
  have HG0 := Lib.hid (Gr.begin hw hf0)
  have HC0 : Hid (wa.cell? ⟨w.heap.size, 0 + 0, none⟩ = some (.int .i64 x.e)) := Lib.hid (hb0.range (cs := x.cells) 0 _ rfl)
  have HC1 : Hid (wa.cell? ⟨w.heap.size, 0 + 1, none⟩ = some (.int .u64 (x.t : Int))) := Lib.hid (hb0.range (cs := x.cells) 1 _ rfl)
  have HC2 : Hid (wa.cell? ⟨w.heap.size, 0 + 2, none⟩ = some (.slice x.A x.n x.d)) := Lib.hid (hb0.range (cs := x.cells) 2 _ rfl)
  have HC3 : Hid (wa.cell? ⟨w.heap.size, 0 + 3, none⟩ = some (.slice x.A2 x.n2 x.d2)) := Lib.hid (hb0.range (cs := x.cells) 3 _ rfl)
  have HC4 : Hid (wa.cell? ⟨w.heap.size, 0 + 4, none⟩ = some (.slice x.A3 x.n3 x.d3)) := Lib.hid (hb0.range (cs := x.cells) 4 _ rfl)
  have HXA : Hid (x.Bg wa S) := Lib.hid (hx.keep (hf0.mono (T := S) (by simp)) (fun k hk _ => hk))
  have HF0 := Lib.hid hf0
  have HWA := Lib.hid hwa
  have HL := Lib.hid hl
  have HX := Lib.hid hx
  clear hwa hf0 hb0 hl hw hx
  unfold Wba.val
  generalize hC : x.cells = C at *
  have HRC := Lib.hid hC
  clear hC
  go_enter Try.func46, Try.ntmps46
  go_wp2
  rw [← HWA.out]
  refine wp_region_held_drew (S := Fr S wa) (by kernel_rfl) (Fr.drew (Fr.refl _ wa)) (fun hHeld => ?_)
  refine run_at (i := 0) (v := ?_) rfl (by kernel_rfl) (by rfl) (fun _ _ _ h => h) hHeld (fun w1 hw1 => ?_) ?_
  rotate_left 1
  · skip
    go_simp
    (try (first | with_reducible rfl | (apply And.intro <;> rfl)))
  simp only [Act.put, List.setIfInBounds_toArray, List.set_cons_zero, List.set_cons_succ]
  refine run_at (i := 1) (v := ?_) rfl (by kernel_rfl) (by rfl) (fun _ _ _ h => h) hHeld (fun w1 hw1 => ?_) ?_
  rotate_left 1
  · skip
    go_simp
    (try (first | with_reducible rfl | (apply And.intro <;> rfl)))
  simp only [Act.put, List.setIfInBounds_toArray, List.set_cons_zero, List.set_cons_succ]
  refine run_at (i := 2) (v := ?_) rfl (by kernel_rfl) (by rfl) (fun _ _ _ h => h) hHeld (fun w1 hw1 => ?_) ?_
  rotate_left 1
  · skip
    have hcw0 := hw1.cell (HC0.out) (by first | (simp; done) | exact HNS.out | exact HNW.out | (intro hm; have hlt := HSB.out _ hm; (try dsimp only at hlt); omega))
    go_simp
    (try (first | with_reducible rfl | (apply And.intro <;> rfl)))
  simp only [Act.put, List.setIfInBounds_toArray, List.set_cons_zero, List.set_cons_succ]
  refine run_at (i := 4) (v := ?_) rfl (by kernel_rfl) (by rfl) (fun _ _ _ h => h) hHeld (fun w1 hw1 => ?_) ?_
  rotate_left 1
  · skip
    go_simp
    (try (first | with_reducible rfl | (apply And.intro <;> rfl)))
  simp only [Act.put, List.setIfInBounds_toArray, List.set_cons_zero, List.set_cons_succ]
  refine run_at (i := 5) (v := ?_) rfl (by kernel_rfl) (by rfl) (fun _ _ _ h => h) hHeld (fun w1 hw1 => ?_) ?_
  rotate_left 1
  · skip
    have hcw0 := hw1.cell (HC1.out) (by first | (simp; done) | exact HNS.out | exact HNW.out | (intro hm; have hlt := HSB.out _ hm; (try dsimp only at hlt); omega))
    go_simp
    (try (first | with_reducible rfl | (apply And.intro <;> rfl)))
  simp only [Act.put, List.setIfInBounds_toArray, List.set_cons_zero, List.set_cons_succ]
  refine call_at (i := 3) (f := ?_) (args := ?_) rfl (by kernel_rfl) (by rfl) ?_ ?_
  rotate_left 2
  · go_simp
    (try (first | with_reducible rfl | (apply And.intro <;> rfl)))
  refine (HG0.out.call fun S1 k1 => int_any x.e HX.out.e.1 HX.out.e.2 _ S1 g _ k1 (by have h0 := HL.out; (try simp only [List.length_append, sgL, nmL] at *); omega)).mono ?_
  rintro e w1 ⟨rfl, hg1⟩
  have HG1 := Lib.hid hg1
  refine ⟨_, rfl, hg1.fr, fun hHeld => ?_⟩
  clear hg1 HG0
  simp only [Act.put, List.setIfInBounds_toArray, List.set_cons_zero, List.set_cons_succ]
  refine call_at (i := 6) (f := ?_) (args := ?_) rfl (by kernel_rfl) (by rfl) ?_ ?_
  rotate_left 2
  · go_simp
    (try (first | with_reducible rfl | (apply And.intro <;> rfl)))
  refine (HG1.out.call fun S1 k1 => num_any x.t HX.out.t _ S1 g _ k1 (by have h0 := HL.out; have b0 := encI_len x.e HX.out.e.2; (try simp only [List.length_append, sgL, nmL] at *); omega)).mono ?_
  rintro e w2 ⟨rfl, hg2⟩
  have HG2 := Lib.hid hg2
  refine ⟨_, rfl, hg2.fr, fun hHeld => ?_⟩
  clear hg2 HG1
  simp only [Act.put, List.setIfInBounds_toArray, List.set_cons_zero, List.set_cons_succ]
  refine wpAnyH_done (by kernel_rfl) ?_ _
  have hc2 : w2.cell? ⟨w.heap.size, 2, none⟩ = some (.slice x.A x.n x.d) := HG2.out.fr.cell HC2.out HNS.out
  go_wp2_with fail
  refine (HG2.out.calls fun S1 k1 f1 s1 => putPromises_any Wpr.cells (fun w S v => v.Ok w S) Wpr.full 6200 Wpr.one rfl (fun _ _ v h => Nat.le_trans (Wpr.full_len h) (by decide)) (fun v W S g l h hw hl => putPromise_any v W S g l hw hl h) _ S1 g _ k1 x.A x.n x.d x.l (HXA.out.keep f1 s1).l (by have := HX.out.n; omega) (HXA.out.keep f1 s1).ap (fun _ _ hf hs _ _ h => h.keep hf hs) (by have h0 := HL.out; have b0 := encI_len x.e HX.out.e.2; have b1 := enc_ten HX.out.t; have b2 := HX.out.l_len; have b3 := HX.out.l2_len; have := HX.out.n; simp only [List.length_append]; omega)).mono ?_
  rintro e w3 ⟨rfl, hg3⟩
  have HG3 := Lib.hid hg3
  clear hg3 HG2 hc2
  have hc3 : w3.cell? ⟨w.heap.size, 3, none⟩ = some (.slice x.A2 x.n2 x.d2) := HG3.out.fr.cell HC3.out HNS.out
  go_wp2_with fail
  refine (HG3.out.calls fun S1 k1 f1 s1 => putOpenings_any Wop.cells (fun w S v => v.Ok w S) Wop.full 500 Wop.one rfl (fun _ _ v h => Nat.le_trans (Wop.full_len h) (by decide)) (fun v W S g l h hw hl => putOpening_any v W S g l hw hl h) _ S1 g _ k1 x.A2 x.n2 x.d2 x.l2 (HXA.out.keep f1 s1).l2 (by have := HX.out.n2; omega) (HXA.out.keep f1 s1).ap2 (fun _ _ hf hs _ _ h => h.keep hf hs) (by have h0 := HL.out; have b0 := encI_len x.e HX.out.e.2; have b1 := enc_ten HX.out.t; have b2 := HX.out.l_len; have b3 := HX.out.l2_len; have := HX.out.n2; simp only [List.length_append]; omega)).mono ?_
  rintro e w4 ⟨rfl, hg4⟩
  have HG4 := Lib.hid hg4
  clear hg4 HG3 hc3
  have hc4 : w4.cell? ⟨w.heap.size, 4, none⟩ = some (.slice x.A3 x.n3 x.d3) := HG4.out.fr.cell HC4.out HNS.out
  go_wp2_with fail
  refine (HG4.out.calls fun S1 k1 f1 s1 => putTombs_any Wtb.cells (fun w S v => v.Bg w S) Wtb.full 22500 Wtb.one rfl (fun _ _ v h => Nat.le_trans h.full_len (by decide)) (fun v W S g l h hw hl => putTombB_any v W S g l hw hl h) _ S1 g _ k1 x.A3 x.n3 x.d3 x.l3 (HXA.out.keep f1 s1).l3 (by have := HX.out.n3; omega) (HXA.out.keep f1 s1).ap3 (fun _ _ hf hs _ _ h => h.keep hf hs) (by have h0 := HL.out; have b0 := encI_len x.e HX.out.e.2; have b1 := enc_ten HX.out.t; have b2 := HX.out.l_len; have b3 := HX.out.l2_len; have := HX.out.n3; simp only [List.length_append]; omega)).mono ?_
  rintro e w5 ⟨rfl, hg5⟩
  have HG5 := Lib.hid hg5
  clear hg5 HG4 hc4
  go_wp2
  go_ret
  exact ⟨rfl, (HG5.out.from_ HF0.out).eq (by simp [Wba.full, List.append_assoc])⟩
set_option maxHeartbeats 1000000 in
theorem bPutBatch_any (x : Wba) (C : List Value) (hC : x.cells = C) (hl : C.length = 5) (w : World) (S : List Nat) (g : Nat) (l : List UInt8) (hw : Wr w S g l) (hll : l.length + 4000000 ≤ 1073741000) (hx : x.Bg w S) :
    Calls Try.prog 16 #[.pointer (some ⟨g, 0, none⟩), .agg C.toArray] w fun e w' => e = .returned (.tuple #[]) ∧ Gr w S g (l ++ x.full) w' := by
  obtain ⟨wa, hwa⟩ : ∃ wa, wa = w.alloc (Obj.cells C.toArray 41) := ⟨_, rfl⟩
  have hf0 : Fr [] w wa := by rw [hwa]; exact (Fr.refl [] w).alloc _
  have hb0 : Blk wa w.heap.size 41 C.toArray := by rw [hwa]; exact Blk.new _ _ _
  have HR := Lib.hid hb0.range
  have HL := Lib.hid hl
  have HWR := Lib.hid (hw.keep hf0 (by simp))
  have HX := Lib.hid (hx.keep (hf0.mono (T := S) (by simp)) (fun k hk _ => hk))
  have HPB := Lib.hid (putBatchB_any x wa S g l HWR.out hll HX.out)
  rw [show x.val = .agg C.toArray by rw [← hC]; rfl] at HPB
  have HF0 := Lib.hid hf0
  have HWA := Lib.hid hwa
  clear hwa hf0 hb0 hC hl hw hx hll
  go_enter Try.func16, Try.ntmps16
  go_upto_region 1 with (fail)
  rw [← HWA.out]
  go_wp2_with (refine wpList_row rfl 41 _ rfl _ _ rfl _ HR.out (row_bat.of HL.out) ?_)
  refine HPB.out.mono ?_
  rintro e w1 ⟨rfl, hg⟩
  have HG := Lib.hid hg
  clear hg
  go_wp2
  go_end0
  exact ⟨rfl, HG.out.from_ HF0.out⟩
/-! ### too much -/
theorem pI_bad : (pI ([], true)).2 = ([], true) := rfl
theorem pC_bad : pC ([], true) = (0, ([], true)) := rfl
theorem pN_bad : (pN ([], true)).2 = ([], true) := rfl
theorem pH_bad : (pH ([], true)).2 = ([], true) := rfl
theorem pL_bad {α : Type} (p : Ps → α × Ps) : (pL p ([], true)).2 = ([], true) := rfl
theorem pC_over {n : Nat} (h : 100 < n) (h2 : n < 18446744073709551616) (R : List UInt8) (b : Bool) : pC (encI (n : Int) ++ R, b) = (0, ([], true)) := by
  have hc : ¬ ((n : Int) ≤ 100) := by omega
  unfold pC encI inN inL inB
  simp only [Int.toNat_natCast, dec_enc h2 R, if_neg hc]
theorem pL_over {α β : Type} (p : Ps → β × Ps) (full : α → List UInt8) (l : List α) (h : 100 < l.length) (h2 : l.length < 18446744073709551616) (R : List UInt8) (b : Bool) : (pL p (listL full l ++ R, b)).2 = ([], true) := by
  unfold pL listL
  rw [List.append_assoc, pC_over h h2]
  rfl
theorem pL_one {α β : Type} (p : Ps → β × Ps) (full : α → List UInt8) (v : α) (R : List UInt8) (b : Bool) (h : (p (full v ++ R, b)).2 = ([], true)) : (pL p (listL full [v] ++ R, b)).2 = ([], true) := by
  unfold pL listL
  rw [List.append_assoc, show (([v] : List α).length : Int) = ((1 : Nat) : Int) from rfl, pC_enc (by omega)]
  simp only [List.flatMap_singleton]
  exact h
theorem pR_over {p : List UInt8} (h : 256 < p.length) (h2 : p.length < 18446744073709551616) (R : List UInt8) (b : Bool) : (pR (enc p.length ++ (p ++ R), b)).2 = ([], true) := by
  obtain ⟨e1, e2, e3⟩ := rw_over (m := 256) (dec_enc h2 (p ++ R)) (by omega)
  unfold pR
  simp only [e2, e3]
theorem pOp_over {x : Wop} (hi : Ui x.i) (hn : x.n = x.p.length) (h : 256 < x.p.length) (h2 : x.p.length < 18446744073709551616) (R : List UInt8) (b : Bool) : (pOp (x.full ++ R, b)).2 = ([], true) := by
  unfold pOp Wop.full
  rw [hn]
  simp only [List.append_assoc, pI_enc hi, pR_over h h2, pH_bad]
theorem pTb_over {x : Wtb} (hi : Ui x.i) (h : 100 < x.l.length) (h2 : x.l.length < 18446744073709551616) (R : List UInt8) (b : Bool) : (pTb (x.full ++ R, b)).2 = ([], true) := by
  unfold pTb Wtb.full
  simp only [List.append_assoc, pI_enc hi, pL_over _ _ _ h h2]
theorem pBa_op {x : Wba} (he : Ui x.e) (ht : x.t < 18446744073709551616) (hl : x.l = []) (R : List UInt8) (h : ∀ R b, (pL pOp (listL Wop.full x.l2 ++ R, b)).2 = ([], true)) : (pBa (x.full ++ R, false)).2 = ([], true) := by
  have h0 := pL_enc (p := pPr) (full := Wpr.full) (con := Wpr.con) (l := []) (b := false) (by simp) (by simp)
  unfold pBa Wba.full
  rw [hl]
  simp only [List.append_assoc, pI_enc he, pN_enc ht, h0, h, pL_bad]
theorem pBa_tb {x : Wba} (he : Ui x.e) (ht : x.t < 18446744073709551616) (hl : x.l = []) (hl2 : x.l2 = []) (R : List UInt8) (h : ∀ R b, (pL pTb (listL Wtb.full x.l3 ++ R, b)).2 = ([], true)) : (pBa (x.full ++ R, false)).2 = ([], true) := by
  have h0 := pL_enc (p := pPr) (full := Wpr.full) (con := Wpr.con) (l := []) (b := false) (by simp) (by simp)
  have h1 := pL_enc (p := pOp) (full := Wop.full) (con := Wop.con) (l := []) (b := false) (by simp) (by simp)
  unfold pBa Wba.full
  rw [hl, hl2]
  simp only [List.append_assoc, pI_enc he, pN_enc ht, h0, h1, h]
end Go.Proofs.Ytbkhkhippcjdgaa
