/- Texts that the proof stands on: Package part: batches as values; what their writer writes. | Package wire: a batch's hash; what is signed of a promise, of a proposal. | Copies of lists of structs: gavelkeep's Copy and Cut of stamps. | The statements' own Cert and Promise: small enough to be played. | Commitments, stamps, denials, certificates, promises that come in: what their reading says of cells. | The writers and the text of an ack: they are a stamp's (written by gen_ack.py out of XPut). | Equality of structs, field by field: names, signatures, stamps, votes, denials. | The walk of WireConfs. | The walk of WireApart: its small stamps and votes; the text of an ack. | WireUnsigned: what is signed does not hang on the signature. (written by gen_wuns.py) | Promises, certificates, commitments, signatures that come in as arguments. | The example of the document (wakes) over package sha. | The laid table: what the condition of a row gives the walks; the door's own heap meets it. -/
import Derived.Test.YtdgbcdmooklciaaDoorPutB
import Derived.Test.YtdgbcdmooklciaaDoorShaQ
import Derived.Test.YtdgbcdmooklciaaDoorLst2
import Derived.Test.YtdgbcdmooklciaaDoorWd
import Derived.Test.YtdgbcdmooklciaaDoorWo
import Derived.Test.YtdgbcdmooklciaaDoorPut
import Derived.Test.YtdgbcdmooklciaaDoorRead
import Derived.Laws.StructEq
import Derived.Test.YtdgbcdmooklciaaDoorHelp
import Derived.Test.YtdgbcdmooklciaaDoorReg2
import Derived.Deep.CutBlock
import Derived.IntWalk
import Derived.Test.YtdgbcdmooklciaaDoorAll
import Derived.Test.YtdgbcdmooklciaaDoorTie
import Derived.ProofKit
import Derived.LaidMore
import Derived.OpenShut
import Derived.Stop.Joined
import Derived.Test.YtdgbcdmooklciaaDoorCards
set_option maxRecDepth 100000

namespace Go.Proofs.YtdgbcdmooklciaaDoor
open Go.RowKit
set_option maxRecDepth 100000
/-- a batch: its epoch, its time, where its promises, openings, tombstones lie -/
structure Wba where
  e : Int
  t : Nat
  A : Option Addr
  n : Nat
  d : Nat
  l : List Wpr
  A2 : Option Addr
  n2 : Nat
  d2 : Nat
  l2 : List Wop
  A3 : Option Addr
  n3 : Nat
  d3 : Nat
  l3 : List Wtb
def Wba.cells (x : Wba) : List Value := [.int .i64 x.e, .int .u64 (x.t : Int), .slice x.A x.n x.d, .slice x.A2 x.n2 x.d2, .slice x.A3 x.n3 x.d3]
def Wba.val (x : Wba) : Value := .agg x.cells.toArray
structure Wba.Ok (w : World) (S : List Nat) (x : Wba) : Prop where
  e : i64In x.e
  t : x.t < 18446744073709551616
  l : Lst 6 Wpr.cells (fun w v => v.Ok w S) w x.A x.n x.l
  n : x.n ≤ 4
  ap : 0 < x.n → ∀ a, x.A = some a → ¬ a.block ∈ S
  l2 : Lst 34 Wop.cells (fun w v => v.Ok w S) w x.A2 x.n2 x.l2
  n2 : x.n2 ≤ 4
  ap2 : 0 < x.n2 → ∀ a, x.A2 = some a → ¬ a.block ∈ S
  l3 : Lst 2 Wtb.cells (fun w v => v.Ok w S) w x.A3 x.n3 x.l3
  n3 : x.n3 ≤ 4
  ap3 : 0 < x.n3 → ∀ a, x.A3 = some a → ¬ a.block ∈ S
theorem Wba.one (x : Wba) : ∀ v ∈ x.cells, v.oneCell' = true := by
  intro v hv
  simp only [Wba.cells, List.mem_cons, List.not_mem_nil, or_false] at hv
  rcases hv with rfl | rfl | rfl | rfl | rfl <;> rfl
theorem Wba.len (x : Wba) : x.cells.length = 5 := rfl
theorem Wba.Ok.keep {w W : World} {S S' : List Nat} {x : Wba} (h : x.Ok w S) (hf : Fr S w W) (hs : ∀ k ∈ S', k < w.heap.size → k ∈ S) : x.Ok W S' :=
  ⟨h.e, h.t, h.l.keep' hf h.ap (fun _ _ h => h.keep hf hs), h.n, fun hn a ha hin => h.ap hn a ha (hs _ hin (h.l.lt hn (by decide) (fun _ _ => rfl) a ha)),
    h.l2.keep' hf h.ap2 (fun _ _ h => h.keep hf hs), h.n2, fun hn a ha hin => h.ap2 hn a ha (hs _ hin (h.l2.lt hn (by decide) (fun v hv => Wop.len (h.l2.2.1 v hv).2.h) a ha)),
    h.l3.keep' hf h.ap3 (fun _ _ h => h.keep hf hs), h.n3, fun hn a ha hin => h.ap3 hn a ha (hs _ hin (h.l3.lt hn (by decide) (fun _ _ => rfl) a ha))⟩
def Wba.full (x : Wba) : List UInt8 := encI x.e ++ enc x.t ++ listL Wpr.full x.l ++ listL Wop.full x.l2 ++ listL Wtb.full x.l3
theorem Wba.l_len {w : World} {S : List Nat} {x : Wba} (hx : x.Ok w S) : (listL Wpr.full x.l).length ≤ 9300 := by
  have b1 := encI_len (x.l.length : Int) (by have := hx.n; have := hx.l.1; omega)
  have b2 : (x.l.flatMap Wpr.full).length ≤ 4 * 2300 := flat_len (fun v hv => Wpr.full_len (hx.l.2.1 v hv).2) (by have := hx.n; have := hx.l.1; omega)
  simp only [listL, List.length_append]
  omega
theorem Wba.l2_len {w : World} {S : List Nat} {x : Wba} (hx : x.Ok w S) : (listL Wop.full x.l2).length ≤ 1300 := by
  have b1 := encI_len (x.l2.length : Int) (by have := hx.n2; have := hx.l2.1; omega)
  have b2 : (x.l2.flatMap Wop.full).length ≤ 4 * 320 := flat_len (fun v hv => Wop.full_len (hx.l2.2.1 v hv).2) (by have := hx.n2; have := hx.l2.1; omega)
  simp only [listL, List.length_append]
  omega
theorem Wba.l3_len {w : World} {S : List Nat} {x : Wba} (hx : x.Ok w S) : (listL Wtb.full x.l3).length ≤ 2200 := by
  have b1 := encI_len (x.l3.length : Int) (by have := hx.n3; have := hx.l3.1; omega)
  have b2 : (x.l3.flatMap Wtb.full).length ≤ 4 * 520 := flat_len (fun v hv => Wtb.full_len (hx.l3.2.1 v hv).2) (by have := hx.n3; have := hx.l3.1; omega)
  simp only [listL, List.length_append]
  omega
theorem Wba.full_len {w : World} {S : List Nat} {x : Wba} (hx : x.Ok w S) : x.full.length ≤ 13000 := by
  have b0 := encI_len x.e hx.e.2
  have b1 := enc_ten hx.t
  have b2 := Wba.l_len hx
  have b3 := Wba.l2_len hx
  have b4 := Wba.l3_len hx
  simp only [Wba.full, List.length_append]
  omega
set_option maxHeartbeats 1000000 in
theorem putBatch_any (x : Wba) (w : World) (S : List Nat) (g : Nat) (l : List UInt8) (hw : Wr w S g l) (hl : l.length + 60000 ≤ 1073741000) (hx : x.Ok w S) :
    Calls Tryd.prog 62 #[.pointer (some ⟨g, 0, none⟩), x.val] w fun e w' => e = .returned (.pointer (some ⟨g, 0, none⟩)) ∧ Gr w S g (l ++ x.full) w' := by
  obtain ⟨wa, hwa⟩ : ∃ wa, wa = w.alloc (Obj.cells x.cells.toArray 39) := ⟨_, rfl⟩
  have hf0 : Fr [] w wa := by rw [hwa]; exact (Fr.refl [] w).alloc _
  have hb0 : Blk wa w.heap.size 39 x.cells.toArray := by rw [hwa]; exact Blk.new _ _ _
  have HNS : Hid (¬ w.heap.size ∈ S) := Lib.hid (fun h => by have := hw.lt _ h; omega)
  have HG0 := Lib.hid (Gr.begin hw hf0)
  have HC0 : Hid (wa.cell? ⟨w.heap.size, 0 + 0, none⟩ = some (.int .i64 x.e)) := Lib.hid (hb0.range (cs := x.cells) 0 _ rfl)
  have HC1 : Hid (wa.cell? ⟨w.heap.size, 0 + 1, none⟩ = some (.int .u64 (x.t : Int))) := Lib.hid (hb0.range (cs := x.cells) 1 _ rfl)
  have HC2 : Hid (wa.cell? ⟨w.heap.size, 0 + 2, none⟩ = some (.slice x.A x.n x.d)) := Lib.hid (hb0.range (cs := x.cells) 2 _ rfl)
  have HC3 : Hid (wa.cell? ⟨w.heap.size, 0 + 3, none⟩ = some (.slice x.A2 x.n2 x.d2)) := Lib.hid (hb0.range (cs := x.cells) 3 _ rfl)
  have HC4 : Hid (wa.cell? ⟨w.heap.size, 0 + 4, none⟩ = some (.slice x.A3 x.n3 x.d3)) := Lib.hid (hb0.range (cs := x.cells) 4 _ rfl)
  have HXA : Hid (x.Ok wa S) := Lib.hid (hx.keep (hf0.mono (T := S) (by simp)) (fun k hk _ => hk))
  have HF0 := Lib.hid hf0
  have HWA := Lib.hid hwa
  have HL := Lib.hid hl
  have HX := Lib.hid hx
  clear hwa hf0 hb0 hl hw hx
  unfold Wba.val
  generalize hC : x.cells = C at *
  have HRC := Lib.hid hC
  clear hC
  go_enter Tryd.func62, Tryd.ntmps62
  go_wp2
  rw [← HWA.out]
  refine wp_region_held_drew (S := Fr S wa) (by kernel_rfl) (Fr.drew (Fr.refl _ wa)) (fun hHeld => ?_)
  refine run_at (i := 0) (v := ?_) rfl (by kernel_rfl) (by rfl) (fun _ _ _ h => h) hHeld (fun w1 hw1 => ?_) ?_
  rotate_left 1
  · skip
    go_simp
    (try (first | with_reducible rfl | (apply And.intro <;> rfl)))
  simp only [Act.put, List.setIfInBounds_toArray, List.set_cons_zero, List.set_cons_succ]
  refine run_at (i := 1) (v := ?_) rfl (by kernel_rfl) (by rfl) (fun _ _ _ h => h) hHeld (fun w1 hw1 => ?_) ?_
  rotate_left 1
  · skip
    go_simp
    (try (first | with_reducible rfl | (apply And.intro <;> rfl)))
  simp only [Act.put, List.setIfInBounds_toArray, List.set_cons_zero, List.set_cons_succ]
  refine run_at (i := 2) (v := ?_) rfl (by kernel_rfl) (by rfl) (fun _ _ _ h => h) hHeld (fun w1 hw1 => ?_) ?_
  rotate_left 1
  · skip
    have hcw0 := hw1.cell (HC0.out) (by first | (simp; done) | exact HNS.out | exact HNW.out | (intro hm; have hlt := HSB.out _ hm; (try dsimp only at hlt); omega))
    go_simp
    (try (first | with_reducible rfl | (apply And.intro <;> rfl)))
  simp only [Act.put, List.setIfInBounds_toArray, List.set_cons_zero, List.set_cons_succ]
  refine run_at (i := 4) (v := ?_) rfl (by kernel_rfl) (by rfl) (fun _ _ _ h => h) hHeld (fun w1 hw1 => ?_) ?_
  rotate_left 1
  · skip
    go_simp
    (try (first | with_reducible rfl | (apply And.intro <;> rfl)))
  simp only [Act.put, List.setIfInBounds_toArray, List.set_cons_zero, List.set_cons_succ]
  refine run_at (i := 5) (v := ?_) rfl (by kernel_rfl) (by rfl) (fun _ _ _ h => h) hHeld (fun w1 hw1 => ?_) ?_
  rotate_left 1
  · skip
    have hcw0 := hw1.cell (HC1.out) (by first | (simp; done) | exact HNS.out | exact HNW.out | (intro hm; have hlt := HSB.out _ hm; (try dsimp only at hlt); omega))
    go_simp
    (try (first | with_reducible rfl | (apply And.intro <;> rfl)))
  simp only [Act.put, List.setIfInBounds_toArray, List.set_cons_zero, List.set_cons_succ]
  refine call_at (i := 3) (f := ?_) (args := ?_) rfl (by kernel_rfl) (by rfl) ?_ ?_
  rotate_left 2
  · go_simp
    (try (first | with_reducible rfl | (apply And.intro <;> rfl)))
  refine (HG0.out.call fun S1 k1 => int_any x.e HX.out.e.1 HX.out.e.2 _ S1 g _ k1 (by have h0 := HL.out; (try simp only [List.length_append, sgL, nmL] at *); omega)).mono ?_
  rintro e w1 ⟨rfl, hg1⟩
  have HG1 := Lib.hid hg1
  refine ⟨_, rfl, hg1.fr, fun hHeld => ?_⟩
  clear hg1 HG0
  simp only [Act.put, List.setIfInBounds_toArray, List.set_cons_zero, List.set_cons_succ]
  refine call_at (i := 6) (f := ?_) (args := ?_) rfl (by kernel_rfl) (by rfl) ?_ ?_
  rotate_left 2
  · go_simp
    (try (first | with_reducible rfl | (apply And.intro <;> rfl)))
  refine (HG1.out.call fun S1 k1 => num_any x.t HX.out.t _ S1 g _ k1 (by have h0 := HL.out; have b0 := encI_len x.e HX.out.e.2; (try simp only [List.length_append, sgL, nmL] at *); omega)).mono ?_
  rintro e w2 ⟨rfl, hg2⟩
  have HG2 := Lib.hid hg2
  refine ⟨_, rfl, hg2.fr, fun hHeld => ?_⟩
  clear hg2 HG1
  simp only [Act.put, List.setIfInBounds_toArray, List.set_cons_zero, List.set_cons_succ]
  refine wpAnyH_done (by kernel_rfl) ?_ _
  have hc2 : w2.cell? ⟨w.heap.size, 2, none⟩ = some (.slice x.A x.n x.d) := HG2.out.fr.cell HC2.out HNS.out
  go_wp2_with fail
  refine (HG2.out.calls fun S1 k1 f1 s1 => putPromises_any Wpr.cells (fun w S v => v.Ok w S) Wpr.full 6200 Wpr.one rfl (fun _ _ v h => Nat.le_trans (Wpr.full_len h) (by decide)) (fun v W S g l h hw hl => putPromise_any v W S g l hw hl h) _ S1 g _ k1 x.A x.n x.d x.l (HXA.out.keep f1 s1).l (by have := HX.out.n; omega) (HXA.out.keep f1 s1).ap (fun _ _ hf hs _ _ h => h.keep hf hs) (by have h0 := HL.out; have b0 := encI_len x.e HX.out.e.2; have b1 := enc_ten HX.out.t; have b2 := Wba.l_len HX.out; have b3 := Wba.l2_len HX.out; have := HX.out.n; simp only [List.length_append]; omega)).mono ?_
  rintro e w3 ⟨rfl, hg3⟩
  have HG3 := Lib.hid hg3
  clear hg3 HG2 hc2
  have hc3 : w3.cell? ⟨w.heap.size, 3, none⟩ = some (.slice x.A2 x.n2 x.d2) := HG3.out.fr.cell HC3.out HNS.out
  go_wp2_with fail
  refine (HG3.out.calls fun S1 k1 f1 s1 => putOpenings_any Wop.cells (fun w S v => v.Ok w S) Wop.full 500 Wop.one rfl (fun _ _ v h => Nat.le_trans (Wop.full_len h) (by decide)) (fun v W S g l h hw hl => putOpening_any v W S g l hw hl h) _ S1 g _ k1 x.A2 x.n2 x.d2 x.l2 (HXA.out.keep f1 s1).l2 (by have := HX.out.n2; omega) (HXA.out.keep f1 s1).ap2 (fun _ _ hf hs _ _ h => h.keep hf hs) (by have h0 := HL.out; have b0 := encI_len x.e HX.out.e.2; have b1 := enc_ten HX.out.t; have b2 := Wba.l_len HX.out; have b3 := Wba.l2_len HX.out; have := HX.out.n2; simp only [List.length_append]; omega)).mono ?_
  rintro e w4 ⟨rfl, hg4⟩
  have HG4 := Lib.hid hg4
  clear hg4 HG3 hc3
  have hc4 : w4.cell? ⟨w.heap.size, 4, none⟩ = some (.slice x.A3 x.n3 x.d3) := HG4.out.fr.cell HC4.out HNS.out
  go_wp2_with fail
  refine (HG4.out.calls fun S1 k1 f1 s1 => putTombs_any Wtb.cells (fun w S v => v.Ok w S) Wtb.full 1500 Wtb.one rfl (fun _ _ v h => Nat.le_trans (Wtb.full_len h) (by decide)) (fun v W S g l h hw hl => putTomb_any v W S g l hw hl h) _ S1 g _ k1 x.A3 x.n3 x.d3 x.l3 (HXA.out.keep f1 s1).l3 (by have := HX.out.n3; omega) (HXA.out.keep f1 s1).ap3 (fun _ _ hf hs _ _ h => h.keep hf hs) (by have h0 := HL.out; have b0 := encI_len x.e HX.out.e.2; have b1 := enc_ten HX.out.t; have b2 := Wba.l_len HX.out; have b3 := Wba.l2_len HX.out; have := HX.out.n3; simp only [List.length_append]; omega)).mono ?_
  rintro e w5 ⟨rfl, hg5⟩
  have HG5 := Lib.hid hg5
  clear hg5 HG4 hc4
  go_wp2
  go_ret
  exact ⟨rfl, (HG5.out.from_ HF0.out).eq (by simp [Wba.full, List.append_assoc])⟩
theorem putBatch_any' (x : Wba) (C : List Value) (hC : x.cells = C) (w : World) (S : List Nat) (g : Nat) (l : List UInt8) (hw : Wr w S g l) (hl : l.length + 60000 ≤ 1073741000) (hx : x.Ok w S) :
    Calls Tryd.prog 62 #[.pointer (some ⟨g, 0, none⟩), .agg C.toArray] w fun e w' => e = .returned (.pointer (some ⟨g, 0, none⟩)) ∧ Gr w S g (l ++ x.full) w' := by
  subst hC
  exact putBatch_any x w S g l hw hl hx
end Go.Proofs.YtdgbcdmooklciaaDoor

namespace Go.Proofs.YtdgbcdmooklciaaDoor
open Go.RowKit
set_option maxRecDepth 100000
theorem NewWr.calls {P : Program} {f : FuncId} {args : Array Value} {w0 w : World} {g : Nat} {l l' : List UInt8} {v : Value} (h : NewWr w0 w g l)
    (hc : ∀ S, Wr w S g l → Fr [] w0 w → (∀ k ∈ S, w0.heap.size ≤ k) → Calls P f args w fun e w' => e = .returned v ∧ Gr w S g l' w') : Calls P f args w fun e w' => e = .returned v ∧ NewWr w0 w' g l' := by
  obtain ⟨S, k1, k2, k3⟩ := h
  refine (hc S k1 k2 k3).mono ?_
  rintro e w' ⟨rfl, hg⟩
  exact ⟨rfl, NewWr.add k2 k3 hg⟩
def wWpr : List UInt8 := [112, 114, 111, 109, 105, 115, 101]
def Wpr.text (x : Wpr) : List UInt8 := enc wWpr.length ++ wWpr ++ x.bare
theorem Wpr.text_len {w : World} {S : List Nat} {x : Wpr} (hx : x.Ok w S) : x.text.length ≤ 2300 := by
  have b0 := Wpr.bare_len hx
  have b1 := enc_ten (m := wWpr.length) (by decide)
  have b2 : wWpr.length = 7 := rfl
  simp only [Wpr.text, List.length_append]
  omega
set_option maxHeartbeats 1000000 in
theorem promiseText_any (x : Wpr) (w : World) (hx : x.Ok w []) :
    Calls Tryd.prog 40 #[x.val] w fun e w' => ∃ A c, e = .returned (.slice A x.text.length c) ∧ NewB w w' A x.text.length c x.text := by
  obtain ⟨wa, hwa⟩ : ∃ wa, wa = w.alloc (Obj.cells x.cells.toArray 62) := ⟨_, rfl⟩
  have hf0 : Fr [] w wa := by rw [hwa]; exact (Fr.refl [] w).alloc _
  have hb0 : Blk wa w.heap.size 62 x.cells.toArray := by rw [hwa]; exact Blk.new _ _ _
  have HALL := Lib.hid hb0.range
  have HLN : Hid (x.cells.length = 6) := Lib.hid (Wpr.len x)
  have HTL := Lib.hid (Wpr.text_len hx)
  have HF0 := Lib.hid hf0
  have HWA := Lib.hid hwa
  have HX := Lib.hid (hx.keep (S' := []) hf0 (by simp))
  clear hwa hf0 hb0 hx
  unfold Wpr.val
  generalize hC : x.cells = C at *
  have HRC := Lib.hid hC
  clear hC
  go_enter Tryd.func40, Tryd.ntmps40
  go_wp2
  rw [← HWA.out]
  refine wp_region_held_drew (S := Fr [] wa) (by kernel_rfl) (Fr.drew (Fr.refl _ wa)) (fun hHeld => ?_)
  refine row_at (i := 1) rfl (by kernel_rfl) (by rfl) _ _ rfl _ _ rfl _ (fun w1 hw1 => hw1.range (HALL.out) (by first | (simp; done) | exact HNS.out | exact HNW.out | (intro hm; have hlt := HSB.out _ hm; (try dsimp only at hlt); omega))) (row_prm.of HLN.out) (fun _ _ _ h => h) hHeld ?_
  simp only [Act.put, List.setIfInBounds_toArray, List.set_cons_zero, List.set_cons_succ]
  refine call_at (i := 0) (f := ?_) (args := ?_) rfl (by kernel_rfl) (by rfl) ?_ ?_
  rotate_left 2
  · go_simp
    (try (first | with_reducible rfl | (apply And.intro <;> rfl)))
  refine (wbegin_any wWpr (by decide) _).mono ?_
  rintro e w1 ⟨g, rfl, hw1⟩
  have HW := Lib.hid (hw1.from_ (Fr.drew (Fr.refl [] wa)))
  refine ⟨_, rfl, HW.out.fr, fun hHeld => ?_⟩
  clear hw1
  simp only [Act.put, List.setIfInBounds_toArray, List.set_cons_zero, List.set_cons_succ]
  refine call_at (i := 2) (f := ?_) (args := ?_) rfl (by kernel_rfl) (by rfl) ?_ ?_
  rotate_left 2
  · go_simp
    (try (first | with_reducible rfl | (apply And.intro <;> rfl)))
  refine (HW.out.calls fun S1 k1 f1 s1 => promiseFields_any' x C HRC.out _ S1 g _ k1 (by have b1 := enc_ten (m := wWpr.length) (by decide); have b2 : wWpr.length = 7 := rfl; simp only [List.length_append]; omega) (HX.out.keep f1 (fun k hk hl => absurd (s1 k hk) (by omega)))).mono ?_
  rintro e w2 ⟨rfl, hw2⟩
  have HW2 : Hid (NewWr wa w2 g x.text) := Lib.hid hw2
  refine ⟨_, rfl, hw2.fr, fun hHeld => ?_⟩
  clear hw2 HW
  simp only [Act.put, List.setIfInBounds_toArray, List.set_cons_zero, List.set_cons_succ]
  refine call_at (i := 3) (f := ?_) (args := ?_) rfl (by kernel_rfl) (by rfl) ?_ ?_
  rotate_left 2
  · go_simp
    (try (first | with_reducible rfl | (apply And.intro <;> rfl)))
  refine (bytes_head wa w2 g _ HW2.out (by have := HTL.out; omega)).mono ?_
  rintro e w3 ⟨A3, c3, rfl, hn3⟩
  have HN3 := Lib.hid hn3
  refine ⟨_, rfl, hn3.2.1, fun hHeld => ?_⟩
  clear hn3 HW2
  simp only [Act.put, List.setIfInBounds_toArray, List.set_cons_zero, List.set_cons_succ]
  refine run_at (i := 4) (v := ?_) rfl (by kernel_rfl) (by rfl) (fun _ _ _ h => h) hHeld (fun w1 hw1 => ?_) ?_
  rotate_left 1
  · skip
    go_simp
    (try (first | with_reducible rfl | (apply And.intro <;> rfl)))
  simp only [Act.put, List.setIfInBounds_toArray, List.set_cons_zero, List.set_cons_succ]
  refine wpAnyH_done (by kernel_rfl) ?_ _
  go_wp2
  go_ret
  exact ⟨A3, c3, rfl, HN3.out.1, HF0.out.and HN3.out.2.1 (by simp), fun k hk => Nat.le_trans HF0.out.size (HN3.out.2.2 k hk)⟩
set_option maxHeartbeats 2000000 in
theorem batchHash_any (x : Wba) (w : World) (hx : x.Ok w []) (hK : KW w) (C : List Value) (hC : x.cells = C) :
    Calls Tryd.prog 18 #[.agg C.toArray] w fun e w' => e = .returned (.agg ((sumL x.full).map by8).toArray) ∧ Fr [] w w' := by
  have hCl : C.length = 5 := by rw [← hC]; exact Wba.len x
  obtain ⟨wa, hwa⟩ : ∃ wa, wa = (w.alloc (Obj.cells C.toArray 39)).alloc (Obj.cells zeroH 26) := ⟨_, rfl⟩
  have hf0 : Fr [] w wa := by rw [hwa]; exact ((Fr.refl [] w).alloc _).alloc _
  have hb1 : Blk wa w.heap.size 39 C.toArray := by rw [hwa]; exact blk_alloc (Blk.new _ _ _)
  have hb3 : Blk wa (w.heap.size + 1) 26 zeroH := by
    have := Blk.new (w.alloc (Obj.cells C.toArray 39)) 26 zeroH
    rw [hwa]
    simpa using this
  have HR1 := Lib.hid hb1.range
  have HB3 := Lib.hid hb3
  have HX := Lib.hid (hx.keep (S' := []) hf0 (by simp))
  have HXL := Lib.hid (Wba.full_len hx)
  have HF0 := Lib.hid hf0
  have HWA := Lib.hid hwa
  have HK := Lib.hid hK
  have HRC := Lib.hid hC
  have HCL := Lib.hid hCl
  clear hb1 hb3 hf0 hwa hK hx hC hCl
  go_enter Tryd.func18, Tryd.ntmps18
  go_wp2
  change Code.wp _ _ _ _ ((w.alloc (Obj.cells C.toArray 39)).alloc (Obj.cells zeroH 26))
  rw [← HWA.out]
  refine wp_region_held_drew (S := Fr [w.heap.size + 1] wa) (by kernel_rfl) (Fr.drew (Fr.refl _ wa)) (fun hHeld => ?_)
  refine row_at (i := 1) rfl (by kernel_rfl) (by rfl) _ _ rfl _ _ rfl _ (fun w1 hw1 => hw1.range (HR1.out) (by first | (simp; done) | exact HNS.out | exact HNW.out | (intro hm; have hlt := HSB.out _ hm; (try dsimp only at hlt); omega))) (row_bat.of HCL.out) (fun _ _ _ h => h) hHeld ?_
  simp only [Act.put, List.setIfInBounds_toArray, List.set_cons_zero, List.set_cons_succ]
  refine call_at (i := 0) (f := ?_) (args := ?_) rfl (by kernel_rfl) (by rfl) ?_ ?_
  rotate_left 2
  · go_simp
    (try (first | with_reducible rfl | (apply And.intro <;> rfl)))
  refine (newWriter_any _).mono ?_
  rintro e w1 ⟨rfl, hw1, hf1⟩
  have HW := Lib.hid (show NewWr wa w1 wa.drew.heap.size [] from ⟨_, hw1, (Fr.drew (Fr.refl [] wa)).and hf1 (by simp), fun k hk => by rw [List.mem_singleton.1 hk]; exact Nat.le_refl _⟩)
  refine ⟨_, rfl, hHeld.go hf1 (by simp), fun hHeld => ?_⟩
  clear hw1 hf1
  generalize wa.drew.heap.size = g at *
  simp only [Act.put, List.setIfInBounds_toArray, List.set_cons_zero, List.set_cons_succ]
  refine call_at (i := 2) (f := ?_) (args := ?_) rfl (by kernel_rfl) (by rfl) ?_ ?_
  rotate_left 2
  · go_simp
    (try (first | with_reducible rfl | (apply And.intro <;> rfl)))
  refine (HW.out.calls fun S1 k1 f1 s1 => putBatch_any' x C HRC.out _ S1 g _ k1 (by decide) (HX.out.keep f1 (fun k hk hl => absurd (s1 k hk) (by omega)))).mono ?_
  rintro e w2 ⟨rfl, hw2⟩
  rw [List.nil_append] at hw2
  have HW3 := Lib.hid hw2
  refine ⟨_, rfl, hw2.fr.mono (by simp), fun hHeld => ?_⟩
  clear hw2 HW
  simp only [Act.put, List.setIfInBounds_toArray, List.set_cons_zero, List.set_cons_succ]
  generalize hXF : x.full = X at *
  have HXF := Lib.hid hXF
  clear hXF
  have HLEN : Hid (X.length ≤ 1073741824) := Lib.hid (by have := HXL.out; omega)
  refine call_at (i := 3) (f := ?_) (args := ?_) rfl (by kernel_rfl) (by rfl) ?_ ?_
  rotate_left 2
  · go_simp
    (try (first | with_reducible rfl | (apply And.intro <;> rfl)))
  refine (bytes_head wa w2 g _ HW3.out HLEN.out).mono ?_
  rintro e w4 ⟨A4, c4, rfl, hn4⟩
  have HN4 := Lib.hid hn4
  refine ⟨_, rfl, hn4.2.1.mono (by simp), fun hHeld => ?_⟩
  clear hn4 HW3
  simp only [Act.put, List.setIfInBounds_toArray, List.set_cons_zero, List.set_cons_succ]
  have hsum := sum_any A4 _ c4 _ w4 HN4.out.by HN4.out.cap HLEN.out (HK.out.keep (HF0.out.and HN4.out.2.1 (by simp)) (by simp))
  have hsl : ((sumL X).map by8).toArray.size = 32 := by simp [sumL_len]
  have hone := by8_all (sumL X)
  have hH : ((sumL x.full).map by8).toArray = ((sumL X).map by8).toArray := by rw [HXF.out]
  generalize ((sumL X).map by8).toArray = H at *
  have HSUM := Lib.hid hsum
  have HSL := Lib.hid hsl
  have HONE := Lib.hid hone
  have HH2 := Lib.hid hH
  clear hsum hsl hone hH
  refine call_at (i := 4) (f := ?_) (args := ?_) rfl (by kernel_rfl) (by rfl) ?_ ?_
  rotate_left 2
  · go_simp
    (try (first | with_reducible rfl | (apply And.intro <;> rfl)))
  refine HSUM.out.mono ?_
  rintro e w5 ⟨rfl, hf5⟩
  refine ⟨_, rfl, hHeld.go hf5 (by simp), fun hHeld => ?_⟩
  simp only [Act.put, List.setIfInBounds_toArray, List.set_cons_zero, List.set_cons_succ]
  have HB5 := Lib.hid (HB3.out.keep (HN4.out.2.1.and hf5 (by simp)) (by simp))
  have HF5 := Lib.hid (HF0.out.and (HN4.out.2.1.and hf5 (by simp)) (by simp))
  clear hf5 HN4 HSUM
  refine step_at (i := 5) rfl (by kernel_rfl) (by rfl) (fun K hK => ?_)
  refine wp_store_blk 26 _ _ rfl (w.heap.size + 1) H rfl rfl 26 zeroH HB5.out (by rw [hash_sizeS, HSL.out]) (by rw [HSL.out, zeroH_size]) HONE.out ?_
  intro w6 hb6 hf6
  refine hK.out _ _ (hHeld.trans hf6 (fun x hx _ => hx)) (fun hHeld => ?_)
  clear hK K
  simp only [Act.put, List.setIfInBounds_toArray, List.set_cons_zero, List.set_cons_succ]
  have HB6 := Lib.hid hb6
  have HF6 := Lib.hid (HF5.out.go hf6 (by simp))
  clear hb6 hf6
  refine wpAnyH_done (by kernel_rfl) ?_ _
  go_wp2
  exact bodyPost_ret (v := .agg H) (results_cell_row Tryd.results18 _ _ (w.heap.size + 1) 26 H _ _ rfl HB6.out Tryd.underlying26 rfl (by rw [hash_sizeS, HSL.out])) rfl ⟨by rw [HH2.out], HF6.out⟩
/-- one more than z, below 0: 0 -/
def oneM (z : Int) : Nat := if z < 0 then 0 else z.toNat + 1
theorem oneMore_any (z : Int) (hz : i64In z) (w : World) :
    Calls Tryd.prog 110 #[.int .i64 z] w fun e w' => e = .returned (.int .u64 (oneM z : Int)) ∧ w' = w := by
  obtain ⟨h1, h2⟩ := hz
  unfold oneM
  by_cases h : z < 0
  · rw [if_pos h]
    go_enter Tryd.func110, Tryd.ntmps110
    go_wp2
    go_ret
    exact ⟨rfl, rfl⟩
  · rw [if_neg h]
    have e1 : IntKind.u64.wrap z = z := IntWalk.u64_in _ (by omega)
    have e2 : IntKind.u64.wrap (z + 1) = z + 1 := IntWalk.u64_in _ (by omega)
    go_enter Tryd.func110, Tryd.ntmps110
    go_wp2
    go_ret
    exact ⟨by show Ending.returned (Value.int IntKind.u64 (z + 1)) = _; congr 2; omega, rfl⟩
/-- a proposal -/
structure Wpo where
  e : Int
  r : Int
  v : Int
  p : Int
  k : Wba
  b : Int
  m : Int
def Wpo.cells (x : Wpo) : List Value := [.int .i64 x.e, .int .i64 x.r, .int .i64 x.v, .int .i64 x.p] ++ (x.k.cells ++ [.int .i64 x.b, .int .i64 x.m])
def Wpo.val (x : Wpo) : Value := .agg x.cells.toArray
structure Wpo.Ok (w : World) (x : Wpo) : Prop where
  e : i64In x.e
  r : i64In x.r
  v : i64In x.v
  p : i64In x.p
  k : x.k.Ok w []
  b : i64In x.b
  m : i64In x.m
theorem Wpo.len (x : Wpo) : x.cells.length = 11 := rfl
def wWpo : List UInt8 := [112, 114, 111, 112, 111, 115, 97, 108]
def Wpo.head (x : Wpo) : List UInt8 := encI x.e ++ encI x.r ++ enc (oneM x.v) ++ encI x.p
theorem Wpo.head_len {x : Wpo} (he : i64In x.e) (hr : i64In x.r) (hv : i64In x.v) (hp : i64In x.p) : x.head.length ≤ 40 := by
  have b0 := encI_len x.e he.2
  have b1 := encI_len x.r hr.2
  have b2 := encI_len x.p hp.2
  have b3 : oneM x.v < 18446744073709551616 := by have := hv.2; unfold oneM; split <;> omega
  have b4 := enc_ten b3
  simp only [Wpo.head, List.length_append]
  omega
def Wpo.text (x : Wpo) : List UInt8 := enc wWpo.length ++ wWpo ++ x.head ++ sumL x.k.full
theorem row_prop : RowTy Tryd.prog 85 11 := ⟨by kernel_rfl, by kernel_rfl⟩
set_option maxHeartbeats 1000000 in
theorem proposalHead_any (x : Wpo) (C : List Value) (hC : x.cells = C) (w : World) (S : List Nat) (g : Nat) (l : List UInt8) (hw : Wr w S g l) (hl : l.length + 100 ≤ 1073741000) (he : i64In x.e) (hr : i64In x.r) (hv : i64In x.v) (hp : i64In x.p) :
    Calls Tryd.prog 85 #[.pointer (some ⟨g, 0, none⟩), .agg C.toArray] w fun e w' => e = .returned (.pointer (some ⟨g, 0, none⟩)) ∧ Gr w S g (l ++ x.head) w' := by
  obtain ⟨wa, hwa⟩ : ∃ wa, wa = w.alloc (Obj.cells C.toArray 85) := ⟨_, rfl⟩
  have hf0 : Fr [] w wa := by rw [hwa]; exact (Fr.refl [] w).alloc _
  have hb0 : Blk wa w.heap.size 85 x.cells.toArray := by rw [hwa, hC]; exact Blk.new _ _ _
  have HNS : Hid (¬ w.heap.size ∈ S) := Lib.hid (fun h => by have := hw.lt _ h; omega)
  have HG0 := Lib.hid (Gr.begin hw hf0)
  have HC0 : Hid (wa.cell? ⟨w.heap.size, 0 + 0, none⟩ = some (.int .i64 x.e)) := Lib.hid (hb0.range (cs := x.cells) 0 _ rfl)
  have HC1 : Hid (wa.cell? ⟨w.heap.size, 0 + 1, none⟩ = some (.int .i64 x.r)) := Lib.hid (hb0.range (cs := x.cells) 1 _ rfl)
  have HC2 : Hid (wa.cell? ⟨w.heap.size, 0 + 2, none⟩ = some (.int .i64 x.v)) := Lib.hid (hb0.range (cs := x.cells) 2 _ rfl)
  have HC3 : Hid (wa.cell? ⟨w.heap.size, 0 + 3, none⟩ = some (.int .i64 x.p)) := Lib.hid (hb0.range (cs := x.cells) 3 _ rfl)
  have HM : Hid (oneM x.v < 18446744073709551616) := Lib.hid (by have := hv.2; unfold oneM; split <;> omega)
  have HF0 := Lib.hid hf0
  have HWA := Lib.hid hwa
  have HL := Lib.hid hl
  have HE := Lib.hid he
  have HR := Lib.hid hr
  have HV := Lib.hid hv
  have HP := Lib.hid hp
  clear hwa hf0 hb0 hl hw he hr hv hp hC
  go_enter Tryd.func85, Tryd.ntmps85
  go_wp2
  rw [← HWA.out]
  refine wp_region_held_drew (S := Fr S wa) (by kernel_rfl) (Fr.drew (Fr.refl _ wa)) (fun hHeld => ?_)
  refine run_at (i := 0) (v := ?_) rfl (by kernel_rfl) (by rfl) (fun _ _ _ h => h) hHeld (fun w1 hw1 => ?_) ?_
  rotate_left 1
  · skip
    go_simp
    (try (first | with_reducible rfl | (apply And.intro <;> rfl)))
  simp only [Act.put, List.setIfInBounds_toArray, List.set_cons_zero, List.set_cons_succ]
  refine run_at (i := 1) (v := ?_) rfl (by kernel_rfl) (by rfl) (fun _ _ _ h => h) hHeld (fun w1 hw1 => ?_) ?_
  rotate_left 1
  · skip
    go_simp
    (try (first | with_reducible rfl | (apply And.intro <;> rfl)))
  simp only [Act.put, List.setIfInBounds_toArray, List.set_cons_zero, List.set_cons_succ]
  refine run_at (i := 2) (v := ?_) rfl (by kernel_rfl) (by rfl) (fun _ _ _ h => h) hHeld (fun w1 hw1 => ?_) ?_
  rotate_left 1
  · skip
    have hcw0 := hw1.cell (HC0.out) (by first | (simp; done) | exact HNS.out | exact HNW.out | (intro hm; have hlt := HSB.out _ hm; (try dsimp only at hlt); omega))
    go_simp
    (try (first | with_reducible rfl | (apply And.intro <;> rfl)))
  simp only [Act.put, List.setIfInBounds_toArray, List.set_cons_zero, List.set_cons_succ]
  refine run_at (i := 4) (v := ?_) rfl (by kernel_rfl) (by rfl) (fun _ _ _ h => h) hHeld (fun w1 hw1 => ?_) ?_
  rotate_left 1
  · skip
    go_simp
    (try (first | with_reducible rfl | (apply And.intro <;> rfl)))
  simp only [Act.put, List.setIfInBounds_toArray, List.set_cons_zero, List.set_cons_succ]
  refine run_at (i := 5) (v := ?_) rfl (by kernel_rfl) (by rfl) (fun _ _ _ h => h) hHeld (fun w1 hw1 => ?_) ?_
  rotate_left 1
  · skip
    have hcw0 := hw1.cell (HC1.out) (by first | (simp; done) | exact HNS.out | exact HNW.out | (intro hm; have hlt := HSB.out _ hm; (try dsimp only at hlt); omega))
    go_simp
    (try (first | with_reducible rfl | (apply And.intro <;> rfl)))
  simp only [Act.put, List.setIfInBounds_toArray, List.set_cons_zero, List.set_cons_succ]
  refine run_at (i := 7) (v := ?_) rfl (by kernel_rfl) (by rfl) (fun _ _ _ h => h) hHeld (fun w1 hw1 => ?_) ?_
  rotate_left 1
  · skip
    go_simp
    (try (first | with_reducible rfl | (apply And.intro <;> rfl)))
  simp only [Act.put, List.setIfInBounds_toArray, List.set_cons_zero, List.set_cons_succ]
  refine run_at (i := 8) (v := ?_) rfl (by kernel_rfl) (by rfl) (fun _ _ _ h => h) hHeld (fun w1 hw1 => ?_) ?_
  rotate_left 1
  · skip
    have hcw0 := hw1.cell (HC2.out) (by first | (simp; done) | exact HNS.out | exact HNW.out | (intro hm; have hlt := HSB.out _ hm; (try dsimp only at hlt); omega))
    go_simp
    (try (first | with_reducible rfl | (apply And.intro <;> rfl)))
  simp only [Act.put, List.setIfInBounds_toArray, List.set_cons_zero, List.set_cons_succ]
  refine run_at (i := 11) (v := ?_) rfl (by kernel_rfl) (by rfl) (fun _ _ _ h => h) hHeld (fun w1 hw1 => ?_) ?_
  rotate_left 1
  · skip
    go_simp
    (try (first | with_reducible rfl | (apply And.intro <;> rfl)))
  simp only [Act.put, List.setIfInBounds_toArray, List.set_cons_zero, List.set_cons_succ]
  refine run_at (i := 12) (v := ?_) rfl (by kernel_rfl) (by rfl) (fun _ _ _ h => h) hHeld (fun w1 hw1 => ?_) ?_
  rotate_left 1
  · skip
    have hcw0 := hw1.cell (HC3.out) (by first | (simp; done) | exact HNS.out | exact HNW.out | (intro hm; have hlt := HSB.out _ hm; (try dsimp only at hlt); omega))
    go_simp
    (try (first | with_reducible rfl | (apply And.intro <;> rfl)))
  simp only [Act.put, List.setIfInBounds_toArray, List.set_cons_zero, List.set_cons_succ]
  refine call_at (i := 3) (f := ?_) (args := ?_) rfl (by kernel_rfl) (by rfl) ?_ ?_
  rotate_left 2
  · go_simp
    (try (first | with_reducible rfl | (apply And.intro <;> rfl)))
  refine (HG0.out.call fun S1 k1 => int_any x.e HE.out.1 HE.out.2 _ S1 g _ k1 (by have h0 := HL.out; (try simp only [List.length_append] at *); omega)).mono ?_
  rintro e w1 ⟨rfl, hg1⟩
  have HG1 := Lib.hid hg1
  refine ⟨_, rfl, hg1.fr, fun hHeld => ?_⟩
  clear hg1 HG0
  simp only [Act.put, List.setIfInBounds_toArray, List.set_cons_zero, List.set_cons_succ]
  refine call_at (i := 6) (f := ?_) (args := ?_) rfl (by kernel_rfl) (by rfl) ?_ ?_
  rotate_left 2
  · go_simp
    (try (first | with_reducible rfl | (apply And.intro <;> rfl)))
  refine (HG1.out.call fun S1 k1 => int_any x.r HR.out.1 HR.out.2 _ S1 g _ k1 (by have h0 := HL.out; have b0 := encI_len x.e HE.out.2; (try simp only [List.length_append] at *); omega)).mono ?_
  rintro e w2 ⟨rfl, hg2⟩
  have HG2 := Lib.hid hg2
  refine ⟨_, rfl, hg2.fr, fun hHeld => ?_⟩
  clear hg2 HG1
  simp only [Act.put, List.setIfInBounds_toArray, List.set_cons_zero, List.set_cons_succ]
  refine call_at (i := 9) (f := ?_) (args := ?_) rfl (by kernel_rfl) (by rfl) ?_ ?_
  rotate_left 2
  · go_simp
    (try (first | with_reducible rfl | (apply And.intro <;> rfl)))
  refine (oneMore_any x.v HV.out w2).mono ?_
  rintro e w4 ⟨rfl, hw4⟩
  rw [hw4]
  clear hw4 w4
  refine ⟨_, rfl, HG2.out.fr, fun hHeld => ?_⟩
  simp only [Act.put, List.setIfInBounds_toArray, List.set_cons_zero, List.set_cons_succ]
  refine call_at (i := 10) (f := ?_) (args := ?_) rfl (by kernel_rfl) (by rfl) ?_ ?_
  rotate_left 2
  · go_simp
    (try (first | with_reducible rfl | (apply And.intro <;> rfl)))
  refine (HG2.out.call fun S1 k1 => num_any (oneM x.v) HM.out _ S1 g _ k1 (by have h0 := HL.out; have b0 := encI_len x.e HE.out.2; have b1 := encI_len x.r HR.out.2; (try simp only [List.length_append] at *); omega)).mono ?_
  rintro e w5 ⟨rfl, hg5⟩
  have HG5 := Lib.hid hg5
  refine ⟨_, rfl, hg5.fr, fun hHeld => ?_⟩
  clear hg5 HG2
  simp only [Act.put, List.setIfInBounds_toArray, List.set_cons_zero, List.set_cons_succ]
  refine call_at (i := 13) (f := ?_) (args := ?_) rfl (by kernel_rfl) (by rfl) ?_ ?_
  rotate_left 2
  · go_simp
    (try (first | with_reducible rfl | (apply And.intro <;> rfl)))
  refine (HG5.out.call fun S1 k1 => int_any x.p HP.out.1 HP.out.2 _ S1 g _ k1 (by have h0 := HL.out; have b0 := encI_len x.e HE.out.2; have b1 := encI_len x.r HR.out.2; have b2 := enc_ten HM.out; (try simp only [List.length_append] at *); omega)).mono ?_
  rintro e w6 ⟨rfl, hg6⟩
  have HG6 := Lib.hid hg6
  refine ⟨_, rfl, hg6.fr, fun hHeld => ?_⟩
  clear hg6 HG5
  simp only [Act.put, List.setIfInBounds_toArray, List.set_cons_zero, List.set_cons_succ]
  refine run_at (i := 14) (v := ?_) rfl (by kernel_rfl) (by rfl) (fun _ _ _ h => h) hHeld (fun w1 hw1 => ?_) ?_
  rotate_left 1
  · skip
    go_simp
    (try (first | with_reducible rfl | (apply And.intro <;> rfl)))
  simp only [Act.put, List.setIfInBounds_toArray, List.set_cons_zero, List.set_cons_succ]
  refine wpAnyH_done (by kernel_rfl) ?_ _
  go_wp2
  go_ret
  exact ⟨rfl, (HG6.out.from_ HF0.out).eq (by simp [Wpo.head, List.append_assoc])⟩
set_option maxHeartbeats 2000000 in
theorem proposalText_any (x : Wpo) (w : World) (hx : x.Ok w) (hK : KW w) :
    Calls Tryd.prog 44 #[x.val] w fun e w' => ∃ A c, e = .returned (.slice A x.text.length c) ∧ NewB w w' A x.text.length c x.text := by
  obtain ⟨wa, hwa⟩ : ∃ wa, wa = w.alloc (Obj.cells x.cells.toArray 85) := ⟨_, rfl⟩
  have hf0 : Fr [] w wa := by rw [hwa]; exact (Fr.refl [] w).alloc _
  have hb0 : Blk wa w.heap.size 85 x.cells.toArray := by rw [hwa]; exact Blk.new _ _ _
  have HALL := Lib.hid hb0.range
  have HLN : Hid (x.cells.length = 11) := Lib.hid (Wpo.len x)
  have HBT : Hid (wa.rangeAt w.heap.size (0 + 4) x.k.cells) := Lib.hid (rangeAt_sub (xs := [.int .i64 x.e, .int .i64 x.r, .int .i64 x.v, .int .i64 x.p]) (ys := x.k.cells) (zs := [.int .i64 x.b, .int .i64 x.m]) hb0.range)
  have HKL : Hid (x.k.cells.length = 5) := Lib.hid (Wba.len x.k)
  have hke := hx.k.keep (S' := []) hf0 (by simp)
  have HKE := Lib.hid hke
  have HF0 := Lib.hid hf0
  have HWA := Lib.hid hwa
  have HX := Lib.hid hx
  have HK := Lib.hid (hK.keep hf0 (by simp))
  clear hwa hf0 hb0 hx hke hK
  unfold Wpo.val
  generalize hC : x.cells = C at *
  have HRC := Lib.hid hC
  clear hC
  generalize hD : x.k.cells = D at *
  have HRD := Lib.hid hD
  clear hD
  go_enter Tryd.func44, Tryd.ntmps44
  go_wp2
  rw [← HWA.out]
  refine wp_region_held_drew (S := Fr [] wa) (by kernel_rfl) (Fr.drew (Fr.refl _ wa)) (fun hHeld => ?_)
  refine run_at (i := 3) (v := ?_) rfl (by kernel_rfl) (by rfl) (fun _ _ _ h => h) hHeld (fun w1 hw1 => ?_) ?_
  rotate_left 1
  · skip
    go_simp
    (try (first | with_reducible rfl | (apply And.intro <;> rfl)))
  simp only [Act.put, List.setIfInBounds_toArray, List.set_cons_zero, List.set_cons_succ]
  refine row_at (i := 4) rfl (by kernel_rfl) (by rfl) _ _ rfl _ _ rfl _ (fun w1 hw1 => hw1.range (HBT.out) (by first | (simp; done) | exact HNS.out | exact HNW.out | (intro hm; have hlt := HSB.out _ hm; (try dsimp only at hlt); omega))) (row_bat.of HKL.out) (fun _ _ _ h => h) hHeld ?_
  simp only [Act.put, List.setIfInBounds_toArray, List.set_cons_zero, List.set_cons_succ]
  refine row_at (i := 1) rfl (by kernel_rfl) (by rfl) _ _ rfl _ _ rfl _ (fun w1 hw1 => hw1.range (HALL.out) (by first | (simp; done) | exact HNS.out | exact HNW.out | (intro hm; have hlt := HSB.out _ hm; (try dsimp only at hlt); omega))) (row_prop.of HLN.out) (fun _ _ _ h => h) hHeld ?_
  simp only [Act.put, List.setIfInBounds_toArray, List.set_cons_zero, List.set_cons_succ]
  refine call_at (i := 0) (f := ?_) (args := ?_) rfl (by kernel_rfl) (by rfl) ?_ ?_
  rotate_left 2
  · go_simp
    (try (first | with_reducible rfl | (apply And.intro <;> rfl)))
  refine (wbegin_any wWpo (by decide) _).mono ?_
  rintro e w1 ⟨g, rfl, hw1⟩
  have HW1 := Lib.hid (hw1.from_ (Fr.drew (Fr.refl [] wa)))
  refine ⟨_, rfl, HW1.out.fr, fun hHeld => ?_⟩
  clear hw1
  simp only [Act.put, List.setIfInBounds_toArray, List.set_cons_zero, List.set_cons_succ]
  refine call_at (i := 2) (f := ?_) (args := ?_) rfl (by kernel_rfl) (by rfl) ?_ ?_
  rotate_left 2
  · go_simp
    (try (first | with_reducible rfl | (apply And.intro <;> rfl)))
  refine (HW1.out.call fun S1 k1 => proposalHead_any x C HRC.out _ S1 g _ k1 (by have b1 := enc_ten (m := wWpo.length) (by decide); have b2 : wWpo.length = 8 := rfl; simp only [List.length_append]; omega) HX.out.e HX.out.r HX.out.v HX.out.p).mono ?_
  rintro e w2 ⟨rfl, hw2⟩
  have HW7 := Lib.hid hw2
  refine ⟨_, rfl, hw2.fr, fun hHeld => ?_⟩
  clear hw2 HW1
  simp only [Act.put, List.setIfInBounds_toArray, List.set_cons_zero, List.set_cons_succ]
  have hbh := batchHash_any x.k w2 (HKE.out.keep (S' := []) HW7.out.fr (by simp)) (HK.out.keep HW7.out.fr (by simp)) D HRD.out
  have hsl : ((sumL x.k.full)).length = 32 := sumL_len _
  have htx : x.text = enc wWpo.length ++ wWpo ++ x.head ++ sumL x.k.full := rfl
  have htl : x.text.length ≤ 1000 := by
    have b5 := Wpo.head_len HX.out.e HX.out.r HX.out.v HX.out.p
    have b1 := enc_ten (m := wWpo.length) (by decide)
    have b2 : wWpo.length = 8 := rfl
    rw [htx]
    simp only [List.length_append]
    omega
  generalize sumL x.k.full = Y at *
  have HBH := Lib.hid hbh
  have HSL := Lib.hid hsl
  have HTX := Lib.hid htx
  have HTL := Lib.hid htl
  clear hbh hsl htx htl
  refine call_at (i := 5) (f := ?_) (args := ?_) rfl (by kernel_rfl) (by rfl) ?_ ?_
  rotate_left 2
  · go_simp
    (try (first | with_reducible rfl | (apply And.intro <;> rfl)))
  refine HBH.out.mono ?_
  rintro e w8 ⟨rfl, hf8⟩
  have HW8 := Lib.hid (HW7.out.keep hf8)
  refine ⟨_, rfl, HW8.out.fr, fun hHeld => ?_⟩
  clear hf8 HW7 HBH
  simp only [Act.put, List.setIfInBounds_toArray, List.set_cons_zero, List.set_cons_succ]
  refine call_at (i := 6) (f := ?_) (args := ?_) rfl (by kernel_rfl) (by rfl) ?_ ?_
  rotate_left 2
  · go_simp
    (try (first | with_reducible rfl | (apply And.intro <;> rfl)))
  refine (hash_head wa w8 g _ HW8.out Y HSL.out (by have := HTL.out; rw [HTX.out] at this; simp only [List.length_append] at *; omega)).mono ?_
  rintro e w9 ⟨rfl, hw9⟩
  have HW9 : Hid (NewWr wa w9 g x.text) := Lib.hid (by rw [HTX.out]; exact hw9)
  refine ⟨_, rfl, hw9.fr, fun hHeld => ?_⟩
  clear hw9 HW8
  simp only [Act.put, List.setIfInBounds_toArray, List.set_cons_zero, List.set_cons_succ]
  refine call_at (i := 7) (f := ?_) (args := ?_) rfl (by kernel_rfl) (by rfl) ?_ ?_
  rotate_left 2
  · go_simp
    (try (first | with_reducible rfl | (apply And.intro <;> rfl)))
  refine (bytes_head wa w9 g _ HW9.out (by have := HTL.out; omega)).mono ?_
  rintro e w10 ⟨A3, c3, rfl, hn3⟩
  have HN3 := Lib.hid hn3
  refine ⟨_, rfl, hn3.2.1, fun hHeld => ?_⟩
  clear hn3 HW9
  simp only [Act.put, List.setIfInBounds_toArray, List.set_cons_zero, List.set_cons_succ]
  refine run_at (i := 8) (v := ?_) rfl (by kernel_rfl) (by rfl) (fun _ _ _ h => h) hHeld (fun w1 hw1 => ?_) ?_
  rotate_left 1
  · skip
    go_simp
    (try (first | with_reducible rfl | (apply And.intro <;> rfl)))
  simp only [Act.put, List.setIfInBounds_toArray, List.set_cons_zero, List.set_cons_succ]
  refine wpAnyH_done (by kernel_rfl) ?_ _
  go_wp2
  go_ret
  exact ⟨A3, c3, rfl, HN3.out.1, HF0.out.and HN3.out.2.1 (by simp), fun k hk => Nat.le_trans HF0.out.size (HN3.out.2.2 k hk)⟩
end Go.Proofs.YtdgbcdmooklciaaDoor

namespace Go.Proofs.YtdgbcdmooklciaaDoor
open Go.RowKit
set_option maxRecDepth 100000

/-- a list in new memory that the call owns -/
def NewL {α : Type} (e : TypeId) (k : Nat) (cells : α → List Value) (w w' : World) (A : Option Addr) (n c : Nat) (l : List α) : Prop :=
  w'.ownsRow 0 e k (.slice A n c) n (l.flatMap cells) ∧ Fr [] w w' ∧ ∀ x ∈ bk A, w.heap.size ≤ x
theorem cells_one {α : Type} {cells : α → List Value} (hone : ∀ v, ∀ u ∈ cells v, u.oneCell' = true) (l : List α) : ∀ u ∈ l.flatMap cells, u.oneCell' = true := by
  intro u hu
  obtain ⟨v, _, hv⟩ := List.mem_flatMap.1 hu
  exact hone v u hv
theorem cells_flat_len {α : Type} {cells : α → List Value} {k : Nat} : ∀ {l : List α}, (∀ v ∈ l, (cells v).length = k) → (l.flatMap cells).length = l.length * k
  | [], _ => by simp
  | v :: l, h => by
    rw [List.flatMap_cons, List.length_append, h v (by simp), cells_flat_len (fun u hu => h u (by simp [hu])), List.length_cons, Nat.succ_mul]
    omega
theorem flat_back {α : Type} {cells : α → List Value} {k : Nat} (hk0 : 0 < k) : ∀ {l : List α}, (∀ v ∈ l, (cells v).length = k) → ∀ {j : Nat} {u : Value}, (l.flatMap cells)[j]? = some u → ∃ v, l[j / k]? = some v ∧ (cells v)[j % k]? = some u
  | [], _, j, u, hj => by simp at hj
  | v :: l, h, j, u, hj => by
    have hv := h v (by simp)
    rw [List.flatMap_cons] at hj
    by_cases hlt : j < k
    · rw [List.getElem?_append_left (by omega)] at hj
      exact ⟨v, by rw [Nat.div_eq_of_lt hlt]; rfl, by rw [Nat.mod_eq_of_lt hlt]; exact hj⟩
    · rw [List.getElem?_append_right (by omega), hv] at hj
      obtain ⟨v', h1, h2⟩ := flat_back hk0 (fun u hu => h u (by simp [hu])) hj
      refine ⟨v', ?_, by rw [Nat.mod_eq_sub_mod (show j ≥ k by omega)]; exact h2⟩
      rw [Nat.div_eq_sub_div hk0 (show k ≤ j by omega), List.getElem?_cons_succ]
      exact h1
theorem Lst.flat {α : Type} {k : Nat} {cells : α → List Value} {ok : World → α → Prop} {w : World} {ad : Addr} {n : Nat} {l : List α} (h : Lst k cells ok w (some ad) n l) (hk : 0 < k) : ∀ j u, (l.flatMap cells)[j]? = some u → w.cell? (ad.add j) = some u := by
  intro j u hj
  obtain ⟨v, h1, h2⟩ := flat_back hk (fun v hv => (h.2.1 v hv).1) hj
  have hn : 0 < n := by
    have h3 := (List.getElem?_eq_some_iff.1 h1).1
    rw [h.1] at h3
    exact Nat.lt_of_le_of_lt (Nat.zero_le _) h3
  obtain ⟨ad', e, hc⟩ := h.2.2 hn
  injection e with e
  subst e
  have := hc _ _ h1 _ _ h2
  rwa [Nat.div_add_mod' j k] at this
section
variable {P : Program} (w : World)
theorem run_append_lst {α : Type} {cells : α → List Value} {ok : World → α → Prop} (hone : ∀ v, ∀ u ∈ cells v, u.oneCell' = true) (t ty e : TypeId) (k bytes : Nat) (ht : P.underlying t = some (.slice e)) (he : ElTy P e k bytes) (hk : 0 < k) (hby : bytes ≤ 1000)
    (A : Option Addr) (m c : Nat) (l : List α) (hr : Lst k cells ok w A m l) (hm : m ≤ 1000000) :
    ∃ A' c' w', (Builtin.append_ #[t, t] ty #[.slice none 0 0, .slice A m c]).run P w = .ok (.slice A' m c') w' ∧ NewL e k cells w w' A' m c' l := by
  obtain ⟨i, z, hi, hz, hzs, hsz, hbs⟩ := he
  have hnil : w.ownsRow 0 e k (.slice none 0 0) 0 [] := ⟨by simp, .inl ⟨rfl, rfl⟩⟩
  suffices h : ∃ v' w', (Builtin.append_ #[t, t] ty #[.slice none 0 0, .slice A m c]).run P w = .ok v' w' ∧ w'.ownsRow 0 e k v' m (l.flatMap cells) ∧ w.grownBy w' none ∧ (v'.ownBlock = none ∨ v'.ownBlock = some w.heap.size) by
    obtain ⟨v', w', h1, h2, h3, h4⟩ := h
    obtain ⟨A', c', rfl⟩ := own_form h2
    refine ⟨A', c', w', h1, h2, (Fr.refl [] w).grown h3 (by simp), fun x hx => ?_⟩
    rw [← bk_own A' m c'] at hx
    rcases h4 with h4 | h4 <;> rw [h4] at hx <;> simp at hx <;> omega
  rcases A with _ | ad
  · have hm0 : m = 0 := by
      rcases Nat.eq_zero_or_pos m with h0 | h0
      · exact h0
      · obtain ⟨ad, h, _⟩ := hr.2.2 h0
        cases h
    subst hm0
    have hn : l = [] := List.eq_nil_of_length_eq_zero hr.1
    subst hn
    exact ⟨_, w, run_append_nothing w 0 t ty e i k ht hi _ 0 [] hnil c, by simpa using hnil, World.grownBy.refl w _, .inl rfl⟩
  · obtain ⟨v', w', hrun, h2, h3, _, h5⟩ := run_append_own_at (P := P) w 0 t ty e i z k bytes ht hi hz hsz hbs hzs hk _ 0 [] hnil ad m c (l.flatMap cells)
      (by rw [cells_flat_len (fun v hv => (hr.2.1 v hv).1), hr.1]) (hr.flat hk) (cells_one hone l) (by simp only [maxLen]; omega)
      (Nat.le_trans (Nat.mul_le_mul (show 0 + m ≤ 1000000 by omega) hby) (by decide)) (Nat.zero_le _)
    exact ⟨v', w', hrun, by simpa using h2, h3, by simpa [Value.ownBlock] using h5⟩
theorem wpList_append_lst {α : Type} {cells : α → List Value} {ok : World → α → Prop} {ops : Array Oper} {rest : List Oper} {o : Oper} {a : Act} {Q : Exit → Act → World → Prop} (hgd : o.guard = none) (s x : Operand) (t : TypeId)
    (ho : o.op = .call { callee := .builtin .append, args := #[s, x], argTypes := #[t, t] }) (e : TypeId) (k bytes : Nat) (ht : P.underlying t = some (.slice e)) (he : ElTy P e k bytes) (hk : 0 < k) (hby : bytes ≤ 1000)
    (hone : ∀ v, ∀ u ∈ cells v, u.oneCell' = true) (hs : a.eval s = .slice none 0 0) (A : Option Addr) (m c : Nat) (l : List α) (hx : a.eval x = .slice A m c) (hr : Lst k cells ok w A m l) (hm : m ≤ 1000000)
    (h : ∀ A' c' w', NewL e k cells w w' A' m c' l → wpList P ops Q rest (a.put o.dst (.slice A' m c')) w') : wpList P ops Q (o :: rest) a w := by
  refine wpList_plain hgd fun K hK => ?_
  obtain ⟨A', c', w', hrun, h2⟩ := run_append_lst (P := P) w hone t o.type e k bytes ht he hk hby A m c l hr hm
  unfold Oper.wp execOp
  simp only [ho, resolve, invoke, builtin, Sem.run_bind, Sem.run_pure, Result.andThen_ok, List.map_toArray, List.map_cons, List.map_nil, hs, hx, hrun]
  exact hK _ _ (h A' c' w' h2)
end
theorem el_stamp : ElTy Tryd.prog 79 38 80 := ElTy.of (by kernel_rfl)
theorem copyStamps_any (A : Option Addr) (n c : Nat) (l : List Wst) (w : World) (hr : Lst 38 Wst.cells (fun _ v => v.Ok) w A n l) (hn : n ≤ 1000000) :
    Calls Tryd.prog 102 #[.slice A n c] w fun e w' => ∃ A' c', e = .returned (.slice A' n c') ∧ NewL 79 38 Wst.cells w w' A' n c' l := by
  have HR := Lib.hid hr
  have HN := Lib.hid hn
  clear hr hn
  go_enter Tryd.func102, Tryd.ntmps102
  go_wp2_with (at_builtin; refine Stop.mk ?_)
  refine Stop.go ?_
  refine wpList_append_lst _ rfl (.const (.slice none 0 0)) (.tmp 3) _ rfl 79 38 80 Tryd.underlying57 el_stamp (by decide) (by decide) Wst.one rfl A n c l rfl HR.out HN.out ?_
  intro A1 c1 w1 ho1
  have HO := Lib.hid ho1
  clear ho1
  go_wp2
  go_ret
  exact ⟨A1, c1, rfl, HO.out⟩
theorem cutStamps_any (A : Option Addr) (n c m : Nat) (l : List Wst) (w : World) (hr : Lst 38 Wst.cells (fun _ v => v.Ok) w A n l) (hn : n ≤ maxLen) (hc : n ≤ c) (hm : m ≤ 1000000) :
    Calls Tryd.prog 69 #[.slice A n c, .int .i64 m] w fun e w' => ∃ A' c', e = .returned (.slice A' (l.take m).length c') ∧ NewL 79 38 Wst.cells w w' A' (l.take m).length c' (l.take m) := by
  unfold maxLen at hn
  have HR := Lib.hid hr
  have HL : Hid ((l.take m).length = min m n) := by rw [List.length_take, hr.1]; rfl
  clear hr
  by_cases hnm : n ≤ m
  · have hmin : Hid (min m n = n) := Nat.min_eq_right hnm
    go_enter Tryd.func69, Tryd.ntmps69
    go_wp2_with fail
    rw [show (min (n : Int) (m : Int)).toNat = n by omega]
    refine (copyStamps_any A n c (l.take m) w (by have h := HR.out.1; rw [List.take_of_length_le (by omega)]; exact HR.out) (by omega)).mono ?_
    rintro e w1 ⟨A1, c1, rfl, hN⟩
    have HN := Lib.hid hN
    clear hN
    go_wp2
    go_ret
    rw [HL.out, hmin.out]
    exact ⟨A1, c1, rfl, HN.out⟩
  · have hmin : Hid (min m n = m) := Nat.min_eq_left (by omega)
    have hmc : m ≤ c := by omega
    go_enter Tryd.func69, Tryd.ntmps69
    go_wp2_with fail
    rw [show (min (n : Int) (m : Int)).toNat = m by omega]
    refine (copyStamps_any A m c (l.take m) w (HR.out.take (by omega)) (by omega)).mono ?_
    rintro e w1 ⟨A1, c1, rfl, hN⟩
    have HN := Lib.hid hN
    clear hN
    go_wp2
    go_ret
    rw [HL.out, hmin.out]
    exact ⟨A1, c1, rfl, HN.out⟩
end Go.Proofs.YtdgbcdmooklciaaDoor

namespace Go.Proofs.YtdgbcdmooklciaaDoor
open Go.RowKit
set_option maxRecDepth 100000

def zeroCe : Array Value := (Wce.cells ⟨⟨0, 0, List.replicate 32 0, 0, 0, 0⟩, none, 0, 0, []⟩).toArray
theorem set_last (K : List Value) (hK : K.length = 37) (u v : Value) : (K ++ [u]).toArray.setIfInBounds 37 v = (K ++ [v]).toArray := by
  rw [List.setIfInBounds_toArray, List.set_append_right _ _ (by omega), hK]
  rfl
set_option maxHeartbeats 1000000 in
theorem certCut_any (k : Wcm) (hk : k.Ok) (A : Option Addr) (n d : Nat) (l : List Wst) (w : World) (hl : Lst 38 Wst.cells (fun _ v => v.Ok) w A n l) (hn : n ≤ maxLen) (hd : n ≤ d) :
    Calls Tryd.prog 23 #[.agg (k.cells ++ [Value.slice A n d]).toArray] w fun e w' => ∃ A' d', e = .returned (.agg (k.cells ++ [Value.slice A' (l.take 5).length d']).toArray) ∧ NewL 79 38 Wst.cells w w' A' (l.take 5).length d' (l.take 5) := by
  obtain ⟨wa, hwa⟩ : ∃ wa, wa = (w.alloc (Obj.cells (k.cells ++ [Value.slice A n d]).toArray 59)).alloc (Obj.cells zeroCe 59) := ⟨_, rfl⟩
  have hf0 : Fr [] w wa := by rw [hwa]; exact ((Fr.refl [] w).alloc _).alloc _
  have hb0 : Blk wa w.heap.size 59 (k.cells ++ [Value.slice A n d]).toArray := by rw [hwa]; exact blk_alloc (Blk.new _ _ _)
  have hb1 : Blk wa (w.heap.size + 1) 59 zeroCe := by
    have := Blk.new (w.alloc (Obj.cells (k.cells ++ [Value.slice A n d]).toArray 59)) 59 zeroCe
    rw [hwa]
    simpa using this
  have hK : k.cells.length = 37 := Wcm.len hk.h
  have hone := Wcm.one k
  have hc : wa.cell? ⟨w.heap.size, 37, none⟩ = some (.slice A n d) := by
    have := hb0.range 37 (.slice A n d) (by rw [List.getElem?_append_right (by omega), hK]; rfl)
    simpa using this
  have HB0 := Lib.hid hb0
  have HB1 := Lib.hid hb1
  have HC := Lib.hid hc
  have HF0 := Lib.hid hf0
  have HWA := Lib.hid hwa
  have HX := Lib.hid hl
  have HK := Lib.hid hK
  have HONE := Lib.hid hone
  have HSZ : Hid (w.heap.size + 2 ≤ wa.heap.size) := Lib.hid (by have := hb1.lt; omega)
  clear hwa hf0 hb0 hb1 hc hl hK hone hk
  generalize k.cells = K at *
  go_enter Tryd.func23, Tryd.ntmps23
  go_upto_region 1 with (fail)
  change Code.wp _ _ _ _ ((w.alloc (Obj.cells (K ++ [Value.slice A n d]).toArray 59)).alloc (Obj.cells zeroCe 59))
  rw [← HWA.out]
  have hc := HC.out
  go_wp2_with fail
  refine (cutStamps_any A n d 5 l wa (HX.out.keep' HF0.out (by simp) (fun _ _ h => h)) hn hd (by decide)).mono ?_
  rintro e w1 ⟨A1, d1, rfl, hN⟩
  have hb2 := HB0.out.keep hN.2.1 (by simp)
  have hc2 := hN.2.1.cell hc (by simp)
  have HB1' := Lib.hid (HB1.out.keep hN.2.1 (by simp))
  have HN := Lib.hid hN
  have HS1 := Lib.hid (show w.heap.size + 2 ≤ w1.heap.size from Nat.le_trans HSZ.out hN.2.1.size)
  have HSET := Lib.hid (set_last K HK.out (Value.slice A n d) (Value.slice A1 (l.take 5).length d1))
  have HW2 := Lib.hid (hb2.set 37 (Value.slice A1 (l.take 5).length d1))
  have hz := hb2.frozen 37
  clear hc hN HB0 HB1
  generalize hm : (l.take 5).length = m at *
  have HM := Lib.hid hm
  clear hm
  have HSZ2 : Hid ((Tryd.prog.info? 59).map (·.size) = some (K ++ [Value.slice A1 m d1]).toArray.size) := Lib.hid (by rw [show (K ++ [Value.slice A1 m d1]).toArray.size = 38 by simp [HK.out]]; kernel_rfl)
  have HZC : Hid (zeroCe.size = (K ++ [Value.slice A1 m d1]).toArray.size) := Lib.hid (by rw [show (K ++ [Value.slice A1 m d1]).toArray.size = 38 by simp [HK.out]]; rfl)
  have HALL : Hid ((K ++ [Value.slice A1 m d1]).toArray.all (·.oneCell') = true) := Lib.hid (all_oneCell_toArray (by intro u hu; rcases List.mem_append.1 hu with h | h; exact HONE.out u h; rw [List.mem_singleton.1 h]; rfl))
  have hf2 : Fr [w.heap.size] w1 (w1.setCell ⟨w.heap.size, 37, none⟩ (Value.slice A1 m d1)) := (Fr.refl _ w1).setCell ⟨w.heap.size, 37, none⟩ (fun _ => by simp) (Value.slice A1 m d1)
  have HB1S := Lib.hid (HB1'.out.keep hf2 (by simp))
  have HF2 := Lib.hid hf2
  clear hf2
  go_wp2_with (first
    | (refine wpList_load_row rfl 59 _ rfl w.heap.size rfl 59 (K ++ [Value.slice A1 m d1]).toArray _ _ (by have := HW2.out; rw [HSET.out] at this; exact this) Tryd.underlying59 rfl HSZ2.out ?_)
    | (refine wpList_store_blk rfl 59 _ _ rfl (w.heap.size + 1) (K ++ [Value.slice A1 m d1]).toArray rfl rfl 59 zeroCe HB1S.out HSZ2.out HZC.out HALL.out ?_
       intro w3 hb3 hf3
       have HB3 := Lib.hid hb3
       have HF3 := Lib.hid hf3
       clear hb3 hf3))
  have HFa : Fr [w.heap.size, w.heap.size + 1] w1 w3 := (HF2.out.mono (by intro k hk _; simp at hk; simp [hk])).trans HF3.out (by intro k hk _; simp at hk; simp [hk])
  refine bodyPost_ret (v := .agg (K ++ [Value.slice A1 m d1]).toArray) (results_cell_row Tryd.results23 _ _ (w.heap.size + 1) 59 (K ++ [Value.slice A1 m d1]).toArray _ _ rfl HB3.out Tryd.underlying59 rfl HSZ2.out) rfl ⟨A1, d1, by rw [HM.out], ?_⟩
  rw [HM.out]
  refine ⟨own_keep HN.out.1 HFa (fun k hk hin => ?_), (HF0.out.and HN.out.2.1 (by simp)).and HFa (fun k hk => by simp at hk; omega), fun k hk => Nat.le_trans HF0.out.size (HN.out.2.2 k hk)⟩
  have h1 := HN.out.2.2 k ((bk_mem A1 m d1 k).1 hk)
  have h2 := HSZ.out
  simp at hin
  omega

theorem wpList_append_one2 {P : Program} {ops : Array Oper} {rest : List Oper} {o : Oper} {a : Act} {w : World} {Q : Exit → Act → World → Prop} (hg : o.guard = none) (s x : Operand) (t e : TypeId)
    (ho : o.op = .call { callee := .builtin .append, args := #[s, x], argTypes := #[t, t] }) (ht : P.underlying t = some (.slice e)) (k bytes : Nat) (he : ElTy P e k bytes) (hk : 0 < k)
    (base : Nat) (v : Value) (n : Nat) (xs cs : List Value) (hs : a.eval s = v) (hown : w.ownsRow base e k v n xs) (hbase : base ≤ w.heap.size) (hcl : cs.length = k) (h1 : ∀ u ∈ cs, u.oneCell' = true)
    (g : Nat) (t' : TypeId) (hx : a.eval x = .slice (some ⟨g, 0, none⟩) 1 1) (hb : Blk w g t' cs.toArray) (hn : n < 1000000) (hby : bytes ≤ 1000)
    (h : ∀ A c w', w'.ownsRow base e k (.slice A (n + 1) c) (n + 1) (xs ++ cs) → Fr v.ownBlock.toList w w' → ((Value.slice A (n + 1) c).ownBlock = v.ownBlock ∨ (Value.slice A (n + 1) c).ownBlock = some w.heap.size) → wpList P ops Q rest (a.put o.dst (.slice A (n + 1) c)) w') : wpList P ops Q (o :: rest) a w := by
  obtain ⟨i, z, hi, hz, hzs, hsz, hbs⟩ := he
  refine wpList_append_lies w hg s x t ho base e i z k bytes ht hi hz hsz hbs hzs hk v n xs hs hown ⟨g, 0, none⟩ 1 1 cs hx (by omega) (fun j u hu => ?_) h1 (by omega) (by simp only [maxLen]; omega)
    (Nat.le_trans (Nat.mul_le_mul (show n + 1 ≤ 1000000 by omega) hby) (by decide)) hbase _ rfl (fun g' cap w' h2 h3 h4 _ => ?_)
  · have hadd : (⟨g, 0, none⟩ : Addr).add j = ⟨g, j, none⟩ := by unfold Addr.add; split <;> simp_all
    rw [hadd, hb.cell j]
    simpa using hu
  · exact h _ _ w' h2 ((Fr.refl _ w).grown h3 (fun y hy _ => by simp [hy])) (h4.imp (fun e => e.symm) (fun e => by rw [e]; rfl))
theorem el_cert : ElTy Tryd.prog 59 38 96 := ElTy.of (by kernel_rfl)
/-- ys are xs, each with five stamps at most -/
def Small (ys xs : List Wce) : Prop := ys.map (fun y => (y.k, y.l)) = xs.map (fun x => (x.k, x.l.take 5))
def zeroPr : Array Value := (Wpr.cells ⟨0, 0, 0, none, 0, 0, [], 0, 0⟩).toArray
/-- a certificate that comes in: it lies in w, with any number of stamps -/
structure Wce.In (w : World) (x : Wce) : Prop where
  k : x.k.Ok
  l : Lst 38 Wst.cells (fun _ v => v.Ok) w x.A x.n x.l
  n : x.n ≤ maxLen
  d : x.n ≤ x.d
theorem Wce.In.keep {w w' : World} {x : Wce} (h : x.In w) (hf : Fr [] w w') : x.In w' := ⟨h.k, h.l.keep' hf (by simp) (fun _ _ h => h), h.n, h.d⟩
set_option maxHeartbeats 2000000 in
theorem promiseCut_any (x : Wpr) (w : World) (h1 : i64In x.r) (h2 : i64In x.e) (h3 : x.t < 18446744073709551616) (h4 : i64In x.b) (h5 : i64In x.m) (hl : Lst 38 Wce.cells (fun w v => v.In w) w x.A x.n x.l) (hn : x.n ≤ maxLen) :
    Calls Tryd.prog 24 #[.agg x.cells.toArray] w fun e w' => ∃ A' d' ys, e = .returned (.agg (Wpr.cells ⟨x.r, x.e, x.t, A', (x.l.take 3).length, d', ys, x.b, x.m⟩).toArray) ∧
      (∀ S0 : List Nat, (∀ k ∈ S0, k < w.heap.size) → (⟨x.r, x.e, x.t, A', (x.l.take 3).length, d', ys, x.b, x.m⟩ : Wpr).Ok w' S0) ∧ Small ys (x.l.take 3) ∧ Fr [] w w' := by
  obtain ⟨wa, hwa⟩ : ∃ wa, wa = (w.alloc (Obj.cells x.cells.toArray 62)).alloc (Obj.cells zeroPr 62) := ⟨_, rfl⟩
  have hf0 : Fr [] w wa := by rw [hwa]; exact ((Fr.refl [] w).alloc _).alloc _
  have hb0 : Blk wa w.heap.size 62 x.cells.toArray := by rw [hwa]; exact blk_alloc (Blk.new _ _ _)
  have hb1 : Blk wa (w.heap.size + 1) 62 zeroPr := by
    have := Blk.new (w.alloc (Obj.cells x.cells.toArray 62)) 62 zeroPr
    rw [hwa]
    simpa using this
  have hc : wa.cell? ⟨w.heap.size, 3, none⟩ = some (.slice x.A x.n x.d) := by
    have := hb0.range (cs := x.cells) 3 (.slice x.A x.n x.d) rfl
    simpa using this
  have HB0 := Lib.hid hb0
  have HB1 := Lib.hid hb1
  have HC := Lib.hid hc
  have HF0 := Lib.hid hf0
  have HWA := Lib.hid hwa
  have HX := Lib.hid hl
  have H1 := Lib.hid h1
  have H2 := Lib.hid h2
  have H3 := Lib.hid h3
  have H4 := Lib.hid h4
  have H5 := Lib.hid h5
  have HSZ : Hid (w.heap.size + 2 ≤ wa.heap.size) := Lib.hid (by have := hb1.lt; omega)
  have hxn := hl.1
  clear hwa hf0 hb0 hb1 hc hl h1 h2 h3 h4 h5
  obtain ⟨n, hn'⟩ : ∃ n, n = x.n := ⟨_, rfl⟩
  rw [← hn'] at hn hxn
  unfold maxLen at hn
  go_enter Tryd.func24, Tryd.ntmps24
  go_upto_region 1 with (fail)
  change Code.wp _ _ _ _ ((w.alloc (Obj.cells x.cells.toArray 62)).alloc (Obj.cells zeroPr 62))
  rw [← HWA.out]
  go_wp2_with fail
  go_loopw [3, 4] (fun s i wr => ∃ (k : Nat) (A4 : Option Addr) (c4 : Nat) (ys : List Wce), k ≤ n ∧ k ≤ 3 ∧ i = .int .i64 k ∧ s = .slice A4 k c4 ∧ Hid (Small ys (x.l.take k)) ∧ Hid (wr.ownsRow wa.heap.size 59 38 (.slice A4 k c4) k (ys.flatMap Wce.cells)) ∧
      Hid (∀ y ∈ ys, y.Ok wr [] ∧ ∀ a, y.A = some a → a.block < wr.heap.size ∧ wa.heap.size ≤ a.block ∧ ∀ g, (Value.slice A4 k c4).ownBlock = some g → a.block ≠ g) ∧ Hid (Fr [] wa wr)) (fun _ i _ => 3 - (intOf i).toNat)
  case atStart => exact ⟨0, none, 0, [], by omega, by omega, rfl, rfl, Lib.hid (by simp [Small]), Lib.hid ⟨by simp, .inl ⟨rfl, rfl⟩⟩, Lib.hid (by simp), Lib.hid (Fr.refl _ _)⟩
  case round =>
    obtain ⟨k, A4, c4, ys, hk, hk3, rfl, rfl, HSM, HO, HYS, HF⟩ := hrel
    have hc := HF.out.cell HC.out (by simp)
    by_cases hlt : k < n
    · by_cases hlt3 : k < 3
      · obtain ⟨ad, v, hA, hv, hcl, hok, hcells⟩ := HX.out.at (i := k) (by omega)
        rw [← hn', hA] at hc
        have hcells' : ∀ j u, v.cells[j]? = some u → wr.cell? ((ad.add (k * 38)).add j) = some u := fun j u hj => HF.out.cell (HF0.out.cell (hcells j u hj) (by simp)) (by simp)
        have HCELLS := Lib.hid hcells'
        have HCL := Lib.hid hcl
        have HIN := Lib.hid ((hok.keep HF0.out).keep HF.out)
        have HV := Lib.hid hv
        have hk0 : (0 : Int) ≤ k := by omega
        have HONE := Lib.hid (Wce.one v)
        clear hcells hcells' hcl hok hv
        have hcv : v.cells = v.k.cells ++ [Value.slice v.A v.n v.d] := rfl
        have HCV := Lib.hid hcv
        clear hcv
        generalize v.cells = C at *
        go_wp2_with (first | (refine wpList_cells rfl 59 _ rfl _ rfl C HCELLS.out (row_crt.of HCL.out) ?_))
        rw [HCV.out]
        refine (certCut_any v.k HIN.out.k v.A v.n v.d v.l wr HIN.out.l HIN.out.n HIN.out.d).mono ?_
        rintro e w1 ⟨A1, d1, rfl, hN⟩
        generalize hm : (v.l.take 5).length = m at *
        have HM := Lib.hid hm
        have hm5 : m ≤ 5 := by rw [← hm, List.length_take]; omega
        have HM5 := Lib.hid hm5
        have HN := Lib.hid hN
        have hD : (v.k.cells ++ [Value.slice A1 m d1]).length = 38 := by simp [Wcm.len HIN.out.k.h]
        have hD1 : ∀ u ∈ v.k.cells ++ [Value.slice A1 m d1], u.oneCell' = true := by
          intro u hu
          rcases List.mem_append.1 hu with h | h
          · exact Wcm.one v.k u h
          · rw [List.mem_singleton.1 h]; rfl
        have hDY : (⟨v.k, A1, m, d1, v.l.take 5⟩ : Wce).cells = v.k.cells ++ [Value.slice A1 m d1] := rfl
        generalize v.k.cells ++ [Value.slice A1 m d1] = D at *
        have HD := Lib.hid hD
        have HD1 := Lib.hid hD1
        have HDY := Lib.hid hDY
        have HO1 := Lib.hid (own_keep HO.out HN.out.2.1 (by simp))
        have HF1 := Lib.hid (HF.out.and HN.out.2.1 (by simp))
        have HLT := Lib.hid (own_lt HO.out)
        clear hN hm hm5 hD hD1 hDY HO hc
        go_wp2_with (first | (refine wpList_build_one rfl 60 59 _ rfl Tryd.underlying60 D 96 (by rw [HD.out]; exact el_cert) rfl (by rw [HD.out]; decide) (by rw [HD.out]; decide) ?_) | (at_builtin; refine Stop.mk ?_))
        refine Stop.go ?_
        refine wpList_append_one2 rfl _ _ 60 59 rfl Tryd.underlying60 38 96 el_cert (by decide) wa.heap.size (.slice A4 k c4) k _ D rfl (HO1.out.alloc _) (by have := HF1.out.size; simp; omega) HD.out HD1.out w1.heap.size 59 rfl (Blk.new _ _ _) (by omega) (by decide) ?_
        intro A9 c9 w9 ho9 hf9 hb9
        have HO9 := Lib.hid ho9
        have HF9 := Lib.hid hf9
        have HB9 := Lib.hid hb9
        clear ho9 hf9 hb9
        go_wp2
        go_roundw
        case rel =>
          refine ⟨k + 1, A9, c9, ys ++ [⟨v.k, A1, m, d1, v.l.take 5⟩], by omega, by omega, by go_num, rfl, ?_, ?_, ?_, ?_⟩
          · have e1 : x.l.take (k + 1) = x.l.take k ++ [v] := by rw [List.take_add_one, HV.out]; rfl
            have h := HSM.out
            refine Lib.hid ?_
            rw [e1]
            unfold Small at *
            rw [List.map_append, List.map_append, h]
            rfl
          · refine Lib.hid ?_
            rw [List.flatMap_append, List.flatMap_singleton, HDY.out]
            exact HO9.out
          · refine Lib.hid (fun y hy => ?_)
            have hfS : Fr (Value.slice A4 k c4).ownBlock.toList wr w9 := ((HN.out.2.1.alloc _).mono (T := (Value.slice A4 k c4).ownBlock.toList) (by simp)).trans HF9.out (fun y hy _ => hy)
            have hsz : (w1.alloc (Obj.cells D.toArray 59)).heap.size = w1.heap.size + 1 := by simp
            have hs1 := HN.out.2.1.size
            have hs9 := HF9.out.size
            rcases List.mem_append.1 hy with hy | hy
            · obtain ⟨hok, hbl⟩ := HYS.out y hy
              have hok2 : y.Ok wr (Value.slice A4 k c4).ownBlock.toList := ⟨hok.k, hok.l, hok.n, fun hn a ha hin => (hbl a ha).2.2 a.block (by simpa using hin) rfl⟩
              refine ⟨hok2.keep hfS (by simp), fun a ha => ⟨by have := (hbl a ha).1; omega, (hbl a ha).2.1, fun g hg => ?_⟩⟩
              rcases HB9.out with h | h
              · exact (hbl a ha).2.2 g (by rw [← h]; exact hg)
              · rw [h] at hg
                injection hg with hg
                have := (hbl a ha).1
                omega
            · rw [List.mem_singleton.1 hy]
              have hge : ∀ a, A1 = some a → wr.heap.size ≤ a.block := fun a ha => HN.out.2.2 a.block (by rw [ha]; simp [bk])
              have hlt : ∀ a, A1 = some a → a.block < w1.heap.size := fun a ha => own_lt HN.out.1 a.block (by rw [bk_mem, ha]; simp [bk])
              have hl1 : Lst 38 Wst.cells (fun _ v => v.Ok) w1 A1 m (v.l.take 5) := Lst.of_own HN.out.1 HM.out (fun u hu => HIN.out.l.2.1 u (List.mem_of_mem_take hu))
              refine ⟨⟨HIN.out.k, hl1.keep' (S := (Value.slice A4 k c4).ownBlock.toList) ((((Fr.refl [] w1).alloc _).mono (by simp)).trans HF9.out (fun y hy _ => hy)) (fun _ a ha hin => ?_) (fun _ _ h => h), HM5.out, by simp⟩, fun a ha => ⟨by have := hlt a ha; omega, by have := hge a ha; have := HF.out.size; omega, fun g hg => ?_⟩⟩
              · have := HLT.out a.block (by simpa using hin)
                have := hge a ha
                omega
              · rcases HB9.out with h | h
                · have := HLT.out g (by rw [← h]; exact hg)
                  have := hge a ha
                  omega
                · rw [h] at hg
                  injection hg with hg
                  have := hlt a ha
                  omega
          · exact Lib.hid ((HF1.out.alloc _).and HF9.out (fun y hy => (HO1.out.lt y (by simpa using hy)).1))
        case measure => simp [intOf]; omega
      · -- three are there
        have hbx := HB0.out.keep HF.out (by simp)
        have hz := hbx.frozen 3
        have HKL : Hid ((x.l.take 3).length = k) := Lib.hid (by rw [List.length_take]; omega)
        have HTK : Hid (x.l.take k = x.l.take 3) := Lib.hid (by rcases Nat.lt_or_ge k 3 with h | h; · rw [List.take_of_length_le (by omega), List.take_of_length_le (by omega)]
                                                                · rw [show k = 3 by omega])
        have hset : x.cells.toArray.setIfInBounds 3 (Value.slice A4 k c4) = (Wpr.cells ⟨x.r, x.e, x.t, A4, k, c4, ys, x.b, x.m⟩).toArray := rfl
        have HW2 := Lib.hid (hset ▸ hbx.set 3 (Value.slice A4 k c4))
        have hf2 : Fr [w.heap.size] wr (wr.setCell ⟨w.heap.size, 3, none⟩ (Value.slice A4 k c4)) := (Fr.refl _ wr).setCell ⟨w.heap.size, 3, none⟩ (fun _ => by simp) (Value.slice A4 k c4)
        have HB1S := Lib.hid ((HB1.out.keep HF.out (by simp)).keep hf2 (by simp))
        have HF2 := Lib.hid hf2
        have HCS : Hid ((Wpr.cells ⟨x.r, x.e, x.t, A4, k, c4, ys, x.b, x.m⟩).toArray = (Wpr.cells ⟨x.r, x.e, x.t, A4, k, c4, ys, x.b, x.m⟩).toArray) := Lib.hid rfl
        have HZS : Hid ((Tryd.prog.info? 62).map (·.size) = some (Wpr.cells ⟨x.r, x.e, x.t, A4, k, c4, ys, x.b, x.m⟩).toArray.size) := Lib.hid (by kernel_rfl)
        have HAL : Hid ((Wpr.cells ⟨x.r, x.e, x.t, A4, k, c4, ys, x.b, x.m⟩).toArray.all (·.oneCell') = true) := Lib.hid (all_oneCell_toArray (Wpr.one _))
        have HZP : Hid (zeroPr.size = (Wpr.cells ⟨x.r, x.e, x.t, A4, k, c4, ys, x.b, x.m⟩).toArray.size) := Lib.hid rfl
        generalize hcc : (Wpr.cells ⟨x.r, x.e, x.t, A4, k, c4, ys, x.b, x.m⟩).toArray = CC at *
        have HCC := Lib.hid hcc
        have hc := hc
        rw [← hn'] at hc
        clear hcc hset hf2 hbx
        go_wp2_with (first
          | (refine wpList_load_row rfl 62 _ rfl w.heap.size rfl 62 CC _ _ HW2.out Tryd.underlying62 rfl HZS.out ?_)
          | (refine wpList_store_blk rfl 62 _ _ rfl (w.heap.size + 1) CC rfl rfl 62 zeroPr HB1S.out HZS.out HZP.out HAL.out ?_
             intro w3 hb3 hf3
             have HB3 := Lib.hid hb3
             have HF3 := Lib.hid hf3
             clear hb3 hf3))
        have hkm : min 3 x.n = k := by omega
        rw [hkm]
        have hyl : ys.length = k := by
          have := congrArg List.length HSM.out
          simp at this
          omega
        have HFa : Fr [w.heap.size, w.heap.size + 1] wr w3 := (HF2.out.mono (by intro k hk _; simp at hk; simp [hk])).trans HF3.out (by intro k hk _; simp at hk; simp [hk])
        have hsz := HSZ.out
        refine bodyPost_ret (v := .agg CC) (results_cell_row Tryd.results24 _ _ (w.heap.size + 1) 62 CC _ _ rfl HB3.out Tryd.underlying62 rfl HZS.out) rfl ⟨A4, c4, ys, by rw [HCC.out], fun S0 hS0 => ⟨H1.out, H2.out, H3.out, ?_, by show k ≤ 3; omega, fun _ a ha hin => ?_, H4.out, H5.out⟩, HTK.out ▸ HSM.out, (HF0.out.and HF.out (by simp)).and HFa (fun k hk => by simp at hk; omega)⟩
        · have hlw : Lst 38 Wce.cells (fun w v => v.Ok w S0) wr A4 k ys := Lst.of_own HO.out hyl (fun y hy => ⟨Wce.len (HYS.out y hy).1.k.h, (HYS.out y hy).1.k, (HYS.out y hy).1.l, (HYS.out y hy).1.n, fun hn a ha hin => by
            have h1 := ((HYS.out y hy).2 a ha).2.1
            have h2 := hS0 _ hin
            omega⟩)
          refine hlw.keep' HFa (fun _ a ha hin => ?_) (fun y hy hok => ?_)
          · have := (HO.out.lt a.block (by rw [bk_mem, ha]; simp [bk])).1
            simp at hin
            omega
          · have hok2 : y.Ok wr (w.heap.size :: (w.heap.size + 1) :: S0) := ⟨hok.k, hok.l, hok.n, fun hn a ha hin => by
              have h1 := ((HYS.out y hy).2 a ha).2.1
              simp only [List.mem_cons] at hin
              rcases hin with h | h | h
              · omega
              · omega
              · have h2 := hS0 _ h
                omega⟩
            exact hok2.keep (HFa.mono (by intro k hk _; simp at hk; rcases hk with rfl | rfl <;> simp)) (fun k hk _ => by simp [hk])
        · have ha : A4 = some a := ha
          have h1 := (HO.out.lt a.block (by rw [bk_mem, ha]; simp [bk])).1
          have h2 := hS0 _ hin
          omega
    · -- no more are there
      have hbx := HB0.out.keep HF.out (by simp)
      have hz := hbx.frozen 3
      have HKL : Hid ((x.l.take 3).length = k) := Lib.hid (by rw [List.length_take]; omega)
      have HTK : Hid (x.l.take k = x.l.take 3) := Lib.hid (by rcases Nat.lt_or_ge k 3 with h | h; · rw [List.take_of_length_le (by omega), List.take_of_length_le (by omega)]
                                                              · rw [show k = 3 by omega])
      have hset : x.cells.toArray.setIfInBounds 3 (Value.slice A4 k c4) = (Wpr.cells ⟨x.r, x.e, x.t, A4, k, c4, ys, x.b, x.m⟩).toArray := rfl
      have HW2 := Lib.hid (hset ▸ hbx.set 3 (Value.slice A4 k c4))
      have hf2 : Fr [w.heap.size] wr (wr.setCell ⟨w.heap.size, 3, none⟩ (Value.slice A4 k c4)) := (Fr.refl _ wr).setCell ⟨w.heap.size, 3, none⟩ (fun _ => by simp) (Value.slice A4 k c4)
      have HB1S := Lib.hid ((HB1.out.keep HF.out (by simp)).keep hf2 (by simp))
      have HF2 := Lib.hid hf2
      have HCS : Hid ((Wpr.cells ⟨x.r, x.e, x.t, A4, k, c4, ys, x.b, x.m⟩).toArray = (Wpr.cells ⟨x.r, x.e, x.t, A4, k, c4, ys, x.b, x.m⟩).toArray) := Lib.hid rfl
      have HZS : Hid ((Tryd.prog.info? 62).map (·.size) = some (Wpr.cells ⟨x.r, x.e, x.t, A4, k, c4, ys, x.b, x.m⟩).toArray.size) := Lib.hid (by kernel_rfl)
      have HAL : Hid ((Wpr.cells ⟨x.r, x.e, x.t, A4, k, c4, ys, x.b, x.m⟩).toArray.all (·.oneCell') = true) := Lib.hid (all_oneCell_toArray (Wpr.one _))
      have HZP : Hid (zeroPr.size = (Wpr.cells ⟨x.r, x.e, x.t, A4, k, c4, ys, x.b, x.m⟩).toArray.size) := Lib.hid rfl
      generalize hcc : (Wpr.cells ⟨x.r, x.e, x.t, A4, k, c4, ys, x.b, x.m⟩).toArray = CC at *
      have HCC := Lib.hid hcc
      have hc := hc
      rw [← hn'] at hc
      clear hcc hset hf2 hbx
      go_wp2_with (first
        | (refine wpList_load_row rfl 62 _ rfl w.heap.size rfl 62 CC _ _ HW2.out Tryd.underlying62 rfl HZS.out ?_)
        | (refine wpList_store_blk rfl 62 _ _ rfl (w.heap.size + 1) CC rfl rfl 62 zeroPr HB1S.out HZS.out HZP.out HAL.out ?_
           intro w3 hb3 hf3
           have HB3 := Lib.hid hb3
           have HF3 := Lib.hid hf3
           clear hb3 hf3))
      have hkm : min 3 x.n = k := by omega
      rw [hkm]
      have hyl : ys.length = k := by
        have := congrArg List.length HSM.out
        simp at this
        omega
      have HFa : Fr [w.heap.size, w.heap.size + 1] wr w3 := (HF2.out.mono (by intro k hk _; simp at hk; simp [hk])).trans HF3.out (by intro k hk _; simp at hk; simp [hk])
      have hsz := HSZ.out
      refine bodyPost_ret (v := .agg CC) (results_cell_row Tryd.results24 _ _ (w.heap.size + 1) 62 CC _ _ rfl HB3.out Tryd.underlying62 rfl HZS.out) rfl ⟨A4, c4, ys, by rw [HCC.out], fun S0 hS0 => ⟨H1.out, H2.out, H3.out, ?_, by show k ≤ 3; omega, fun _ a ha hin => ?_, H4.out, H5.out⟩, HTK.out ▸ HSM.out, (HF0.out.and HF.out (by simp)).and HFa (fun k hk => by simp at hk; omega)⟩
      · have hlw : Lst 38 Wce.cells (fun w v => v.Ok w S0) wr A4 k ys := Lst.of_own HO.out hyl (fun y hy => ⟨Wce.len (HYS.out y hy).1.k.h, (HYS.out y hy).1.k, (HYS.out y hy).1.l, (HYS.out y hy).1.n, fun hn a ha hin => by
          have h1 := ((HYS.out y hy).2 a ha).2.1
          have h2 := hS0 _ hin
          omega⟩)
        refine hlw.keep' HFa (fun _ a ha hin => ?_) (fun y hy hok => ?_)
        · have := (HO.out.lt a.block (by rw [bk_mem, ha]; simp [bk])).1
          simp at hin
          omega
        · have hok2 : y.Ok wr (w.heap.size :: (w.heap.size + 1) :: S0) := ⟨hok.k, hok.l, hok.n, fun hn a ha hin => by
            have h1 := ((HYS.out y hy).2 a ha).2.1
            simp only [List.mem_cons] at hin
            rcases hin with h | h | h
            · omega
            · omega
            · have h2 := hS0 _ h
              omega⟩
          exact hok2.keep (HFa.mono (by intro k hk _; simp at hk; rcases hk with rfl | rfl <;> simp)) (fun k hk _ => by simp [hk])
      · have ha : A4 = some a := ha
        have h1 := (HO.out.lt a.block (by rw [bk_mem, ha]; simp [bk])).1
        have h2 := hS0 _ hin
        omega
end Go.Proofs.YtdgbcdmooklciaaDoor

namespace Go.Proofs.YtdgbcdmooklciaaDoor
open Go.ChangeShapes Go.WideShapes Go.ChangeAt Go.RowKit
set_option maxRecDepth 100000
theorem lst_of_cells {α : Type} [Inhabited α] {H : Type} {enc : TypeId × Value → H} {w : World} {spare : Nat → Bool} {held : Bool} {k : Nat} {cells : α → List Value} {ok : World → α → Prop} {t e : TypeId} (ht : Tryd.prog.underlying t = some (.slice e)) (hc : Tryd.prog.cellsOf e = k)
    (hel : ∀ fuel cs (x : DataW H × List MemPlace), DataW.trod enc Tryd.prog w 0 spare held fuel e cs = some x → ∃ v : α, ok w v ∧ cs = cells v) {fuel : Nat} {cs : List Value} {x : DataW H × List MemPlace} (h : DataW.trod enc Tryd.prog w 0 spare held fuel t cs = some x) :
    ∃ A n d, ∃ l : List α, cs = [.slice A n d] ∧ Lst k cells ok w A n l ∧ n ≤ d ∧ d ≤ maxLen := by
  rcases Go.Deep.open_slice ht h with ⟨rfl, _⟩ | ⟨a, len', cap', m, n, D, Pl, rfl, _⟩
  · obtain ⟨l, h1, h2, h3⟩ := lst_of_trod ht hc hel h
    exact ⟨_, _, _, l, rfl, h1, h2, h3⟩
  · obtain ⟨l, h1, h2, h3⟩ := lst_of_trod ht hc hel h
    exact ⟨_, _, _, l, rfl, h1, h2, h3⟩
theorem stamp_of_trod {H : Type} {enc : TypeId × Value → H} {W : World} {sp : Nat → Bool} {held : Bool} {fuel : Nat} {cs : List Value} {x0 : DataW H × List MemPlace} (h : DataW.trod enc Tryd.prog W 0 sp held fuel 79 cs = some x0) :
    ∃ x : Wst, x.Ok ∧ cs = x.cells := by
  obtain ⟨xs, m, _, _, hlen, hxl, hat⟩ := DataW.trod_struct Tryd.underlying79 h
  rw [show Tryd.prog.cellsOf 79 = 38 by kernel_rfl] at hlen
  have hx : ∀ i (hi : i < 5), xs[i]? = some (xs[i]'(by rw [hxl]; exact hi)) := fun i hi => List.getElem?_eq_getElem _
  have f0 : DataW.trod enc Tryd.prog W 0 sp held m 3 ((cs.drop 0).take (Tryd.prog.cellsOf 3)) = _ := (hat 0 _ rfl).trans (hx 0 (by omega))
  rw [show Tryd.prog.cellsOf 3 = 1 by kernel_rfl] at f0
  obtain ⟨r, e0, _, w0⟩ := DataW.trod_int Tryd.underlying3 f0
  have f1 : DataW.trod enc Tryd.prog W 0 sp held m 52 ((cs.drop 1).take (Tryd.prog.cellsOf 52)) = _ := (hat 1 _ rfl).trans (hx 1 (by omega))
  rw [show Tryd.prog.cellsOf 52 = 2 by kernel_rfl] at f1
  obtain ⟨c, s, w1, w1', e1⟩ := pair_of_trod Tryd.underlying52 ⟨rfl, rfl⟩ ⟨rfl, rfl⟩ (by kernel_rfl) f1
  have f2 : DataW.trod enc Tryd.prog W 0 sp held m 26 ((cs.drop 3).take (Tryd.prog.cellsOf 26)) = _ := (hat 2 _ rfl).trans (hx 2 (by omega))
  rw [show Tryd.prog.cellsOf 26 = 32 by kernel_rfl] at f2
  obtain ⟨hh, w2, e2⟩ := hash_of_trod f2
  have f3 : DataW.trod enc Tryd.prog W 0 sp held m 34 ((cs.drop 35).take (Tryd.prog.cellsOf 34)) = _ := (hat 3 _ rfl).trans (hx 3 (by omega))
  rw [show Tryd.prog.cellsOf 34 = 1 by kernel_rfl] at f3
  obtain ⟨u3, e3, _, w3⟩ := DataW.trod_int Tryd.underlying34 f3
  obtain ⟨t, rfl, b3⟩ := u64_of w3
  have f4 : DataW.trod enc Tryd.prog W 0 sp held m 54 ((cs.drop 36).take (Tryd.prog.cellsOf 54)) = _ := (hat 4 _ rfl).trans (hx 4 (by omega))
  rw [show Tryd.prog.cellsOf 54 = 2 by kernel_rfl] at f4
  obtain ⟨b, mm, w4, w4', e4⟩ := pair_of_trod Tryd.underlying54 ⟨rfl, rfl⟩ ⟨rfl, rfl⟩ (by kernel_rfl) f4
  refine ⟨⟨r, c, s, hh, t, b, mm⟩, ⟨i64In_of w0, w1, w1', w2, b3, w4, w4'⟩, ?_⟩
  have z : cs.drop 38 = [] := List.drop_eq_nil_of_le (by omega)
  have s0 : cs = cs.drop 0 := rfl
  rw [s0, cut_at cs 0 1 1 rfl, e0, cut_at cs 1 2 3 rfl, e1, cut_at cs 3 32 35 rfl, e2, cut_at cs 35 1 36 rfl, e3, cut_at cs 36 2 38 rfl, e4, z]
  simp [Wst.cells]
theorem deny_of_trod {H : Type} {enc : TypeId × Value → H} {W : World} {sp : Nat → Bool} {held : Bool} {fuel : Nat} {cs : List Value} {x0 : DataW H × List MemPlace} (h : DataW.trod enc Tryd.prog W 0 sp held fuel 83 cs = some x0) :
    ∃ x : Wdn, x.Ok ∧ cs = x.cells := by
  obtain ⟨xs, m, _, _, hlen, hxl, hat⟩ := DataW.trod_struct Tryd.underlying83 h
  rw [show Tryd.prog.cellsOf 83 = 4 by kernel_rfl] at hlen
  have hx : ∀ i (hi : i < 3), xs[i]? = some (xs[i]'(by rw [hxl]; exact hi)) := fun i hi => List.getElem?_eq_getElem _
  have f0 : DataW.trod enc Tryd.prog W 0 sp held m 3 ((cs.drop 0).take (Tryd.prog.cellsOf 3)) = _ := (hat 0 _ rfl).trans (hx 0 (by omega))
  rw [show Tryd.prog.cellsOf 3 = 1 by kernel_rfl] at f0
  obtain ⟨r, e0, _, w0⟩ := DataW.trod_int Tryd.underlying3 f0
  have f1 : DataW.trod enc Tryd.prog W 0 sp held m 3 ((cs.drop 1).take (Tryd.prog.cellsOf 3)) = _ := (hat 1 _ rfl).trans (hx 1 (by omega))
  rw [show Tryd.prog.cellsOf 3 = 1 by kernel_rfl] at f1
  obtain ⟨i, e1, _, w1⟩ := DataW.trod_int Tryd.underlying3 f1
  have f2 : DataW.trod enc Tryd.prog W 0 sp held m 54 ((cs.drop 2).take (Tryd.prog.cellsOf 54)) = _ := (hat 2 _ rfl).trans (hx 2 (by omega))
  rw [show Tryd.prog.cellsOf 54 = 2 by kernel_rfl] at f2
  obtain ⟨b, mm, w2, w2', e2⟩ := pair_of_trod Tryd.underlying54 ⟨rfl, rfl⟩ ⟨rfl, rfl⟩ (by kernel_rfl) f2
  refine ⟨⟨r, i, b, mm⟩, ⟨i64In_of w0, i64In_of w1, w2, w2'⟩, ?_⟩
  have z : cs.drop 4 = [] := List.drop_eq_nil_of_le (by omega)
  have s0 : cs = cs.drop 0 := rfl
  rw [s0, cut_at cs 0 1 1 rfl, e0, cut_at cs 1 1 2 rfl, e1, cut_at cs 2 2 4 rfl, e2, z]
  simp [Wdn.cells]
theorem commit_of_trod {H : Type} {enc : TypeId × Value → H} {W : World} {sp : Nat → Bool} {held : Bool} {fuel : Nat} {cs : List Value} {x0 : DataW H × List MemPlace} (h : DataW.trod enc Tryd.prog W 0 sp held fuel 56 cs = some x0) :
    ∃ x : Wcm, x.Ok ∧ cs = x.cells := by
  obtain ⟨xs, m, _, _, hlen, hxl, hat⟩ := DataW.trod_struct Tryd.underlying56 h
  rw [show Tryd.prog.cellsOf 56 = 37 by kernel_rfl] at hlen
  have hx : ∀ i (hi : i < 4), xs[i]? = some (xs[i]'(by rw [hxl]; exact hi)) := fun i hi => List.getElem?_eq_getElem _
  have f0 : DataW.trod enc Tryd.prog W 0 sp held m 52 ((cs.drop 0).take (Tryd.prog.cellsOf 52)) = _ := (hat 0 _ rfl).trans (hx 0 (by omega))
  rw [show Tryd.prog.cellsOf 52 = 2 by kernel_rfl] at f0
  obtain ⟨c, s, w0, w0', e0⟩ := pair_of_trod Tryd.underlying52 ⟨rfl, rfl⟩ ⟨rfl, rfl⟩ (by kernel_rfl) f0
  have f1 : DataW.trod enc Tryd.prog W 0 sp held m 26 ((cs.drop 2).take (Tryd.prog.cellsOf 26)) = _ := (hat 1 _ rfl).trans (hx 1 (by omega))
  rw [show Tryd.prog.cellsOf 26 = 32 by kernel_rfl] at f1
  obtain ⟨hh, w1, e1⟩ := hash_of_trod f1
  have f2 : DataW.trod enc Tryd.prog W 0 sp held m 3 ((cs.drop 34).take (Tryd.prog.cellsOf 3)) = _ := (hat 2 _ rfl).trans (hx 2 (by omega))
  rw [show Tryd.prog.cellsOf 3 = 1 by kernel_rfl] at f2
  obtain ⟨n, e2, _, w2⟩ := DataW.trod_int Tryd.underlying3 f2
  have f3 : DataW.trod enc Tryd.prog W 0 sp held m 54 ((cs.drop 35).take (Tryd.prog.cellsOf 54)) = _ := (hat 3 _ rfl).trans (hx 3 (by omega))
  rw [show Tryd.prog.cellsOf 54 = 2 by kernel_rfl] at f3
  obtain ⟨b, mm, w3, w3', e3⟩ := pair_of_trod Tryd.underlying54 ⟨rfl, rfl⟩ ⟨rfl, rfl⟩ (by kernel_rfl) f3
  refine ⟨⟨c, s, hh, n, b, mm⟩, ⟨w0, w0', w1, i64In_of w2, w3, w3'⟩, ?_⟩
  have z : cs.drop 37 = [] := List.drop_eq_nil_of_le (by omega)
  have s0 : cs = cs.drop 0 := rfl
  rw [s0, cut_at cs 0 2 2 rfl, e0, cut_at cs 2 32 34 rfl, e1, cut_at cs 34 1 35 rfl, e2, cut_at cs 35 2 37 rfl, e3, z]
  simp [Wcm.cells]
instance : Inhabited Wst := ⟨⟨0, 0, 0, [], 0, 0, 0⟩⟩
instance : Inhabited Wdn := ⟨⟨0, 0, 0, 0⟩⟩
instance : Inhabited Wce := ⟨⟨⟨0, 0, [], 0, 0, 0⟩, none, 0, 0, []⟩⟩
theorem cert_of_trod {H : Type} {enc : TypeId × Value → H} {W : World} {sp : Nat → Bool} {held : Bool} {fuel : Nat} {cs : List Value} {x0 : DataW H × List MemPlace} (h : DataW.trod enc Tryd.prog W 0 sp held fuel 59 cs = some x0) :
    ∃ x : Wce, x.In W ∧ cs = x.cells := by
  obtain ⟨xs, m, _, _, hlen, hxl, hat⟩ := DataW.trod_struct Tryd.underlying59 h
  rw [show Tryd.prog.cellsOf 59 = 38 by kernel_rfl] at hlen
  have hx : ∀ i (hi : i < 2), xs[i]? = some (xs[i]'(by rw [hxl]; exact hi)) := fun i hi => List.getElem?_eq_getElem _
  have f0 : DataW.trod enc Tryd.prog W 0 sp held m 56 ((cs.drop 0).take (Tryd.prog.cellsOf 56)) = _ := (hat 0 _ rfl).trans (hx 0 (by omega))
  rw [show Tryd.prog.cellsOf 56 = 37 by kernel_rfl] at f0
  obtain ⟨k, w0, e0⟩ := commit_of_trod f0
  have f1 : DataW.trod enc Tryd.prog W 0 sp held m 57 ((cs.drop 37).take (Tryd.prog.cellsOf 57)) = _ := (hat 1 _ rfl).trans (hx 1 (by omega))
  rw [show Tryd.prog.cellsOf 57 = 1 by kernel_rfl] at f1
  obtain ⟨A, n, d, l, e1, w1, w1', w1''⟩ := lst_of_cells (cells := Wst.cells) (ok := fun _ v => v.Ok) (k := 38) Tryd.underlying57 (by kernel_rfl) (fun fuel cs x h => stamp_of_trod h) f1
  refine ⟨⟨k, A, n, d, l⟩, ⟨w0, w1, Nat.le_trans w1' w1'', w1'⟩, ?_⟩
  have z : cs.drop 38 = [] := List.drop_eq_nil_of_le (by omega)
  have s0 : cs = cs.drop 0 := rfl
  rw [s0, cut_at cs 0 37 37 rfl, e0, cut_at cs 37 1 38 rfl, e1, z]
  simp [Wce.cells]
/-- a promise that comes in -/
structure Wpr.In (w : World) (x : Wpr) : Prop where
  r : i64In x.r
  e : i64In x.e
  t : x.t < 18446744073709551616
  l : Lst 38 Wce.cells (fun w v => v.In w) w x.A x.n x.l
  n : x.n ≤ maxLen
  d : x.n ≤ x.d
  b : i64In x.b
  m : i64In x.m
theorem promise_of_trod {H : Type} {enc : TypeId × Value → H} {W : World} {sp : Nat → Bool} {held : Bool} {fuel : Nat} {cs : List Value} {x0 : DataW H × List MemPlace} (h : DataW.trod enc Tryd.prog W 0 sp held fuel 62 cs = some x0) :
    ∃ x : Wpr, x.In W ∧ cs = x.cells := by
  obtain ⟨xs, m, _, _, hlen, hxl, hat⟩ := DataW.trod_struct Tryd.underlying62 h
  rw [show Tryd.prog.cellsOf 62 = 6 by kernel_rfl] at hlen
  have hx : ∀ i (hi : i < 5), xs[i]? = some (xs[i]'(by rw [hxl]; exact hi)) := fun i hi => List.getElem?_eq_getElem _
  have f0 : DataW.trod enc Tryd.prog W 0 sp held m 3 ((cs.drop 0).take (Tryd.prog.cellsOf 3)) = _ := (hat 0 _ rfl).trans (hx 0 (by omega))
  rw [show Tryd.prog.cellsOf 3 = 1 by kernel_rfl] at f0
  obtain ⟨r, e0, _, w0⟩ := DataW.trod_int Tryd.underlying3 f0
  have f1 : DataW.trod enc Tryd.prog W 0 sp held m 3 ((cs.drop 1).take (Tryd.prog.cellsOf 3)) = _ := (hat 1 _ rfl).trans (hx 1 (by omega))
  rw [show Tryd.prog.cellsOf 3 = 1 by kernel_rfl] at f1
  obtain ⟨e, e1, _, w1⟩ := DataW.trod_int Tryd.underlying3 f1
  have f2 : DataW.trod enc Tryd.prog W 0 sp held m 34 ((cs.drop 2).take (Tryd.prog.cellsOf 34)) = _ := (hat 2 _ rfl).trans (hx 2 (by omega))
  rw [show Tryd.prog.cellsOf 34 = 1 by kernel_rfl] at f2
  obtain ⟨u2, e2, _, w2⟩ := DataW.trod_int Tryd.underlying34 f2
  obtain ⟨t, rfl, b2⟩ := u64_of w2
  have f3 : DataW.trod enc Tryd.prog W 0 sp held m 60 ((cs.drop 3).take (Tryd.prog.cellsOf 60)) = _ := (hat 3 _ rfl).trans (hx 3 (by omega))
  rw [show Tryd.prog.cellsOf 60 = 1 by kernel_rfl] at f3
  obtain ⟨A, n, d, l, e3, w3, w3', w3''⟩ := lst_of_cells (cells := Wce.cells) (ok := fun w v => v.In w) (k := 38) Tryd.underlying60 (by kernel_rfl) (fun fuel cs x h => cert_of_trod h) f3
  have f4 : DataW.trod enc Tryd.prog W 0 sp held m 54 ((cs.drop 4).take (Tryd.prog.cellsOf 54)) = _ := (hat 4 _ rfl).trans (hx 4 (by omega))
  rw [show Tryd.prog.cellsOf 54 = 2 by kernel_rfl] at f4
  obtain ⟨b, mm, w4, w4', e4⟩ := pair_of_trod Tryd.underlying54 ⟨rfl, rfl⟩ ⟨rfl, rfl⟩ (by kernel_rfl) f4
  refine ⟨⟨r, e, t, A, n, d, l, b, mm⟩, ⟨i64In_of w0, i64In_of w1, b2, w3, Nat.le_trans w3' w3'', w3', w4, w4'⟩, ?_⟩
  have z : cs.drop 6 = [] := List.drop_eq_nil_of_le (by omega)
  have s0 : cs = cs.drop 0 := rfl
  rw [s0, cut_at cs 0 1 1 rfl, e0, cut_at cs 1 1 2 rfl, e1, cut_at cs 2 1 3 rfl, e2, cut_at cs 3 1 4 rfl, e3, cut_at cs 4 2 6 rfl, e4, z]
  simp [Wpr.cells]
end Go.Proofs.YtdgbcdmooklciaaDoor

namespace Go.Proofs.YtdgbcdmooklciaaDoor
open Go.RowKit
set_option maxRecDepth 100000
def wAck : List UInt8 := [97, 99, 107]
def Wst.ack (x : Wst) : List UInt8 := enc wAck.length ++ wAck ++ x.bare
theorem Wst.ack_len {x : Wst} (hx : x.Ok) : x.ack.length ≤ 100 := by
  have b0 := Wst.bare_len hx
  have b1 := enc_ten (m := wAck.length) (by decide)
  have b2 : wAck.length = 3 := rfl
  simp only [Wst.ack, List.length_append]
  omega
set_option maxHeartbeats 1000000 in
theorem ackFields_any (x : Wst) (hx : x.Ok) (w : World) (S : List Nat) (g : Nat) (l : List UInt8) (hw : Wr w S g l) (hl : l.length + 100 ≤ 1073741000) :
    Calls Tryd.prog 81 #[.pointer (some ⟨g, 0, none⟩), x.val] w fun e w' => e = .returned (.pointer (some ⟨g, 0, none⟩)) ∧ Gr w S g (l ++ x.bare) w' := by
  obtain ⟨wa, hwa⟩ : ∃ wa, wa = w.alloc (Obj.cells x.cells.toArray 81) := ⟨_, rfl⟩
  have hf0 : Fr [] w wa := by rw [hwa]; exact (Fr.refl [] w).alloc _
  have hb0 : Blk wa w.heap.size 81 x.cells.toArray := by rw [hwa]; exact Blk.new _ _ _
  have HNS : Hid (¬ w.heap.size ∈ S) := Lib.hid (fun h => by have := hw.lt _ h; omega)
  have HG0 := Lib.hid (Gr.begin hw hf0)
  have HALL := Lib.hid hb0.range
  have HAT := Lib.hid (Wst.at_of (o := 0) hb0.range hx.h)
  have HLN : Hid (x.cells.length = 38) := Lib.hid (Wst.len hx.h)
  have HF0 := Lib.hid hf0
  have HWA := Lib.hid hwa
  have HL := Lib.hid hl
  have HX := Lib.hid hx
  clear hwa hf0 hb0 hl hw hx
  unfold Wst.val
  generalize hC : x.cells = C at *
  have HRC := Lib.hid hC
  clear hC
  go_enter Tryd.func81, Tryd.ntmps81
  go_wp2
  rw [← HWA.out]
  refine wp_region_held_drew (S := Fr S wa) (by kernel_rfl) (Fr.drew (Fr.refl _ wa)) (fun hHeld => ?_)
  refine run_at (i := 0) (v := ?_) rfl (by kernel_rfl) (by rfl) (fun _ _ _ h => h) hHeld (fun w1 hw1 => ?_) ?_
  rotate_left 1
  · skip
    go_simp
    (try (first | with_reducible rfl | (apply And.intro <;> rfl)))
  simp only [Act.put, List.setIfInBounds_toArray, List.set_cons_zero, List.set_cons_succ]
  refine run_at (i := 1) (v := ?_) rfl (by kernel_rfl) (by rfl) (fun _ _ _ h => h) hHeld (fun w1 hw1 => ?_) ?_
  rotate_left 1
  · skip
    go_simp
    (try (first | with_reducible rfl | (apply And.intro <;> rfl)))
  simp only [Act.put, List.setIfInBounds_toArray, List.set_cons_zero, List.set_cons_succ]
  refine run_at (i := 2) (v := ?_) rfl (by kernel_rfl) (by rfl) (fun _ _ _ h => h) hHeld (fun w1 hw1 => ?_) ?_
  rotate_left 1
  · skip
    have hcw0 := hw1.cell (HAT.out.r) (by first | (simp; done) | exact HNS.out | exact HNW.out | (intro hm; have hlt := HSB.out _ hm; (try dsimp only at hlt); omega))
    go_simp
    (try (first | with_reducible rfl | (apply And.intro <;> rfl)))
  simp only [Act.put, List.setIfInBounds_toArray, List.set_cons_zero, List.set_cons_succ]
  refine run_at (i := 4) (v := ?_) rfl (by kernel_rfl) (by rfl) (fun _ _ _ h => h) hHeld (fun w1 hw1 => ?_) ?_
  rotate_left 1
  · skip
    go_simp
    (try (first | with_reducible rfl | (apply And.intro <;> rfl)))
  simp only [Act.put, List.setIfInBounds_toArray, List.set_cons_zero, List.set_cons_succ]
  refine row_at (i := 5) rfl (by kernel_rfl) (by rfl) _ _ rfl _ _ rfl _ (fun w1 hw1 => hw1.range (HAT.out.name) (by first | (simp; done) | exact HNS.out | exact HNW.out | (intro hm; have hlt := HSB.out _ hm; (try dsimp only at hlt); omega))) (row_name) (fun _ _ _ h => h) hHeld ?_
  simp only [Act.put, List.setIfInBounds_toArray, List.set_cons_zero, List.set_cons_succ]
  refine run_at (i := 7) (v := ?_) rfl (by kernel_rfl) (by rfl) (fun _ _ _ h => h) hHeld (fun w1 hw1 => ?_) ?_
  rotate_left 1
  · skip
    go_simp
    (try (first | with_reducible rfl | (apply And.intro <;> rfl)))
  simp only [Act.put, List.setIfInBounds_toArray, List.set_cons_zero, List.set_cons_succ]
  refine row_at (i := 8) rfl (by kernel_rfl) (by rfl) _ _ rfl _ _ rfl _ (fun w1 hw1 => hw1.range (HAT.out.hash) (by first | (simp; done) | exact HNS.out | exact HNW.out | (intro hm; have hlt := HSB.out _ hm; (try dsimp only at hlt); omega))) (row_hash.of (by rw [List.length_map]; exact HX.out.h)) (fun _ _ _ h => h) hHeld ?_
  simp only [Act.put, List.setIfInBounds_toArray, List.set_cons_zero, List.set_cons_succ]
  refine run_at (i := 10) (v := ?_) rfl (by kernel_rfl) (by rfl) (fun _ _ _ h => h) hHeld (fun w1 hw1 => ?_) ?_
  rotate_left 1
  · skip
    go_simp
    (try (first | with_reducible rfl | (apply And.intro <;> rfl)))
  simp only [Act.put, List.setIfInBounds_toArray, List.set_cons_zero, List.set_cons_succ]
  refine run_at (i := 11) (v := ?_) rfl (by kernel_rfl) (by rfl) (fun _ _ _ h => h) hHeld (fun w1 hw1 => ?_) ?_
  rotate_left 1
  · skip
    have hcw0 := hw1.cell (HAT.out.t) (by first | (simp; done) | exact HNS.out | exact HNW.out | (intro hm; have hlt := HSB.out _ hm; (try dsimp only at hlt); omega))
    go_simp
    (try (first | with_reducible rfl | (apply And.intro <;> rfl)))
  simp only [Act.put, List.setIfInBounds_toArray, List.set_cons_zero, List.set_cons_succ]
  refine call_at (i := 3) (f := ?_) (args := ?_) rfl (by kernel_rfl) (by rfl) ?_ ?_
  rotate_left 2
  · go_simp
    (try (first | with_reducible rfl | (apply And.intro <;> rfl)))
  refine (HG0.out.call fun S1 k1 => int_any x.r HX.out.r.1 HX.out.r.2 _ S1 g _ k1 (by have h0 := HL.out; (try simp only [List.length_append, sgL, nmL] at *); omega)).mono ?_
  rintro e w1 ⟨rfl, hg1⟩
  have HG1 := Lib.hid hg1
  refine ⟨_, rfl, hg1.fr, fun hHeld => ?_⟩
  clear hg1 HG0
  simp only [Act.put, List.setIfInBounds_toArray, List.set_cons_zero, List.set_cons_succ]
  refine call_at (i := 6) (f := ?_) (args := ?_) rfl (by kernel_rfl) (by rfl) ?_ ?_
  rotate_left 2
  · go_simp
    (try (first | with_reducible rfl | (apply And.intro <;> rfl)))
  refine (HG1.out.call fun S1 k1 => putName_any x.c x.s HX.out.c HX.out.s _ S1 g _ k1 (by have h0 := HL.out; have b0 := encI_len x.r HX.out.r.2; (try simp only [List.length_append, sgL, nmL] at *); omega)).mono ?_
  rintro e w2 ⟨rfl, hg2⟩
  have HG2 := Lib.hid hg2
  refine ⟨_, rfl, hg2.fr, fun hHeld => ?_⟩
  clear hg2 HG1
  simp only [Act.put, List.setIfInBounds_toArray, List.set_cons_zero, List.set_cons_succ]
  refine call_at (i := 9) (f := ?_) (args := ?_) rfl (by kernel_rfl) (by rfl) ?_ ?_
  rotate_left 2
  · go_simp
    (try (first | with_reducible rfl | (apply And.intro <;> rfl)))
  refine (HG2.out.call fun S1 k1 => hash_any x.h HX.out.h _ S1 g _ k1 (by have h0 := HL.out; have b0 := encI_len x.r HX.out.r.2; have b1 := encI_len x.c HX.out.c.2; have b2 := encI_len x.s HX.out.s.2; (try simp only [List.length_append, sgL, nmL] at *); omega)).mono ?_
  rintro e w3 ⟨rfl, hg3⟩
  have HG3 := Lib.hid hg3
  refine ⟨_, rfl, hg3.fr, fun hHeld => ?_⟩
  clear hg3 HG2
  simp only [Act.put, List.setIfInBounds_toArray, List.set_cons_zero, List.set_cons_succ]
  refine call_at (i := 12) (f := ?_) (args := ?_) rfl (by kernel_rfl) (by rfl) ?_ ?_
  rotate_left 2
  · go_simp
    (try (first | with_reducible rfl | (apply And.intro <;> rfl)))
  refine (HG3.out.call fun S1 k1 => num_any x.t HX.out.t _ S1 g _ k1 (by have h0 := HL.out; have b0 := encI_len x.r HX.out.r.2; have b1 := encI_len x.c HX.out.c.2; have b2 := encI_len x.s HX.out.s.2; have b3 := HX.out.h; (try simp only [List.length_append, sgL, nmL] at *); omega)).mono ?_
  rintro e w4 ⟨rfl, hg4⟩
  have HG4 := Lib.hid hg4
  refine ⟨_, rfl, hg4.fr, fun hHeld => ?_⟩
  clear hg4 HG3
  simp only [Act.put, List.setIfInBounds_toArray, List.set_cons_zero, List.set_cons_succ]
  refine run_at (i := 13) (v := ?_) rfl (by kernel_rfl) (by rfl) (fun _ _ _ h => h) hHeld (fun w1 hw1 => ?_) ?_
  rotate_left 1
  · skip
    go_simp
    (try (first | with_reducible rfl | (apply And.intro <;> rfl)))
  simp only [Act.put, List.setIfInBounds_toArray, List.set_cons_zero, List.set_cons_succ]
  refine wpAnyH_done (by kernel_rfl) ?_ _
  go_wp2
  go_ret
  exact ⟨rfl, (HG4.out.from_ HF0.out).eq (by simp [Wst.bare, List.append_assoc])⟩
theorem ackFields_any' (x : Wst) (hx : x.Ok) (C : List Value) (hC : x.cells = C) (w : World) (S : List Nat) (g : Nat) (l : List UInt8) (hw : Wr w S g l) (hl : l.length + 100 ≤ 1073741000) :
    Calls Tryd.prog 81 #[.pointer (some ⟨g, 0, none⟩), .agg C.toArray] w fun e w' => e = .returned (.pointer (some ⟨g, 0, none⟩)) ∧ Gr w S g (l ++ x.bare) w' := by
  subst hC
  exact ackFields_any x hx w S g l hw hl
set_option maxHeartbeats 1000000 in
theorem ackText_any (x : Wst) (hx : x.Ok) (w : World) :
    Calls Tryd.prog 38 #[x.val] w fun e w' => ∃ A c, e = .returned (.slice A x.ack.length c) ∧ NewB w w' A x.ack.length c x.ack := by
  obtain ⟨wa, hwa⟩ : ∃ wa, wa = w.alloc (Obj.cells x.cells.toArray 81) := ⟨_, rfl⟩
  have hf0 : Fr [] w wa := by rw [hwa]; exact (Fr.refl [] w).alloc _
  have hb0 : Blk wa w.heap.size 81 x.cells.toArray := by rw [hwa]; exact Blk.new _ _ _
  have HALL := Lib.hid hb0.range
  have HLN : Hid (x.cells.length = 38) := Lib.hid (Wst.len hx.h)
  have HTL := Lib.hid (Wst.ack_len hx)
  have HF0 := Lib.hid hf0
  have HWA := Lib.hid hwa
  have HX := Lib.hid hx
  clear hwa hf0 hb0 hx
  unfold Wst.val
  generalize hC : x.cells = C at *
  have HRC := Lib.hid hC
  clear hC
  go_enter Tryd.func38, Tryd.ntmps38
  go_wp2
  rw [← HWA.out]
  refine wp_region_held_drew (S := Fr [] wa) (by kernel_rfl) (Fr.drew (Fr.refl _ wa)) (fun hHeld => ?_)
  refine row_at (i := 1) rfl (by kernel_rfl) (by rfl) _ _ rfl _ _ rfl _ (fun w1 hw1 => hw1.range (HALL.out) (by first | (simp; done) | exact HNS.out | exact HNW.out | (intro hm; have hlt := HSB.out _ hm; (try dsimp only at hlt); omega))) (row_ack.of HLN.out) (fun _ _ _ h => h) hHeld ?_
  simp only [Act.put, List.setIfInBounds_toArray, List.set_cons_zero, List.set_cons_succ]
  refine call_at (i := 0) (f := ?_) (args := ?_) rfl (by kernel_rfl) (by rfl) ?_ ?_
  rotate_left 2
  · go_simp
    (try (first | with_reducible rfl | (apply And.intro <;> rfl)))
  refine (wbegin_any wAck (by decide) _).mono ?_
  rintro e w1 ⟨g, rfl, hw1⟩
  have HW := Lib.hid (hw1.from_ (Fr.drew (Fr.refl [] wa)))
  refine ⟨_, rfl, HW.out.fr, fun hHeld => ?_⟩
  clear hw1
  simp only [Act.put, List.setIfInBounds_toArray, List.set_cons_zero, List.set_cons_succ]
  refine call_at (i := 2) (f := ?_) (args := ?_) rfl (by kernel_rfl) (by rfl) ?_ ?_
  rotate_left 2
  · go_simp
    (try (first | with_reducible rfl | (apply And.intro <;> rfl)))
  refine (HW.out.call fun S1 k1 => ackFields_any' x HX.out C HRC.out _ S1 g _ k1 (by have b1 := enc_ten (m := wAck.length) (by decide); have b2 : wAck.length = 3 := rfl; simp only [List.length_append]; omega)).mono ?_
  rintro e w2 ⟨rfl, hw2⟩
  have HW2 : Hid (NewWr wa w2 g x.ack) := Lib.hid hw2
  refine ⟨_, rfl, hw2.fr, fun hHeld => ?_⟩
  clear hw2 HW
  simp only [Act.put, List.setIfInBounds_toArray, List.set_cons_zero, List.set_cons_succ]
  refine call_at (i := 3) (f := ?_) (args := ?_) rfl (by kernel_rfl) (by rfl) ?_ ?_
  rotate_left 2
  · go_simp
    (try (first | with_reducible rfl | (apply And.intro <;> rfl)))
  refine (bytes_head wa w2 g _ HW2.out (by have := HTL.out; omega)).mono ?_
  rintro e w3 ⟨A3, c3, rfl, hn3⟩
  have HN3 := Lib.hid hn3
  refine ⟨_, rfl, hn3.2.1, fun hHeld => ?_⟩
  clear hn3 HW2
  simp only [Act.put, List.setIfInBounds_toArray, List.set_cons_zero, List.set_cons_succ]
  refine run_at (i := 4) (v := ?_) rfl (by kernel_rfl) (by rfl) (fun _ _ _ h => h) hHeld (fun w1 hw1 => ?_) ?_
  rotate_left 1
  · skip
    go_simp
    (try (first | with_reducible rfl | (apply And.intro <;> rfl)))
  simp only [Act.put, List.setIfInBounds_toArray, List.set_cons_zero, List.set_cons_succ]
  refine wpAnyH_done (by kernel_rfl) ?_ _
  go_wp2
  go_ret
  exact ⟨A3, c3, rfl, HN3.out.1, HF0.out.and HN3.out.2.1 (by simp), fun k hk => Nat.le_trans HF0.out.size (HN3.out.2.2 k hk)⟩
end Go.Proofs.YtdgbcdmooklciaaDoor

namespace Go.Proofs.YtdgbcdmooklciaaDoor
open Go.RowKit
set_option maxRecDepth 100000

theorem eqFields_bool {P : Program} {d : Nat} {xs ys : Array Value} {f : Field} {fs : List Field} {u v : Value} {b : Bool} {w : World} (hn : f.name ≠ "_") (p : (part f.type xs f.offset).run P w = .ok u w) (p' : (part f.type ys f.offset).run P w = .ok v w)
    (q : (Op.equalIn d f.type u v).run P w = .ok b w) : (Op.eqFields d xs ys (f :: fs)).run P w = if b then (Op.eqFields d xs ys fs).run P w else .ok false w := by
  rw [Op.eqFields, if_pos hn]
  simp only [Sem.run_bind, p, p', Result.andThen_ok, q]
  cases b <;> simp
def FieldsEq (P : Program) (w : World) (d : Nat) (C D : Array Value) : List (TypeId × Nat) → List Bool → Prop
  | [], [] => True
  | (t, o) :: fs, b :: bs => (∃ u v, (part t C o).run P w = .ok u w ∧ (part t D o).run P w = .ok v w ∧ (Op.equalIn d t u v).run P w = .ok b w) ∧ FieldsEq P w d C D fs bs
  | _, _ => False
theorem eqFields_all {P : Program} {w : World} {d : Nat} {C D : Array Value} : ∀ (fs : List Field) (l : List (TypeId × Nat)) (bs : List Bool), fs.map (fun f => (f.type, f.offset, f.name == "_")) = l.map (fun x => (x.1, x.2, false)) →
    FieldsEq P w d C D l bs → (Op.eqFields d C D fs).run P w = .ok (bs.all id) w
  | [], [], [], _, _ => rfl
  | [], [], _ :: _, _, h => h.elim
  | [], _ :: _, _, h, _ => by simp at h
  | _ :: _, [], _, h, _ => by simp at h
  | _ :: _, _ :: _, [], _, h => h.elim
  | f :: fs, (t, o) :: l, b :: bs, h, hb => by
    simp only [List.map_cons, List.cons.injEq, Prod.mk.injEq, beq_eq_false_iff_ne] at h
    obtain ⟨⟨rfl, rfl, hn⟩, h⟩ := h
    obtain ⟨⟨u, v, p, p', q⟩, hr⟩ := hb
    rw [eqFields_bool hn p p' q, eqFields_all fs l bs h hr]
    cases b <;> simp
theorem part_rowx (ty : TypeId) (n off : Nat) (xs ys zs : List Value) (h : RowTy Tryd.prog ty n) (hx : xs.length = off) (hy : ys.length = n) (w : World) : (part ty (xs ++ (ys ++ zs)).toArray off).run Tryd.prog w = .ok (.agg ys.toArray) w := by
  obtain ⟨h1, h2⟩ := h
  cases hu : Tryd.prog.underlying ty with
  | none => rw [hu] at h1; cases h1
  | some d =>
    rw [hu] at h1
    cases hi : Tryd.prog.info? ty with
    | none => rw [hi] at h2; cases h2
    | some i =>
      have hs : i.size = n := by simpa [hi] using h2
      have hagg : (isAgg ty).run Tryd.prog w = .ok true w := by
        unfold isAgg
        rw [Sem.run_bind, run_underlying hu w]
        cases d <;> simp_all
      unfold part
      simp [hagg, sizeOf, typeInfo, hi, hs]
      subst hx
      subst hy
      simp
theorem eql_hash (a b : List UInt8) (ha : a.length = 32) (hb : b.length = 32) (d : Nat) (w : World) : (Op.equalIn (d + 2) 26 (.agg (a.map by8).toArray) (.agg (b.map by8).toArray)).run Tryd.prog w = .ok (decide (a = b)) w := by
  have h := run_equalIn_bytes (P := Tryd.prog) w d 26 5 32 Tryd.underlying26 Tryd.underlying5 u8_size1 a b ha hb
  rw [show decide (a = b) = (a == b) by rw [Bool.eq_iff_iff]; simp]
  exact h
theorem eql_int (y z : Int) (d : Nat) (w : World) : (Op.equalIn (d + 1) 3 (.int .i64 y) (.int .i64 z)).run Tryd.prog w = .ok (decide (y = z)) w := by
  have h := run_equalIn_int (P := Tryd.prog) w d 3 .i64 .i64 y z Tryd.underlying3
  rw [show decide (y = z) = (y == z) by rw [Bool.eq_iff_iff]; simp]
  exact h
theorem eql_u64 (y z : Int) (d : Nat) (w : World) : (Op.equalIn (d + 1) 34 (.int .u64 y) (.int .u64 z)).run Tryd.prog w = .ok (decide (y = z)) w := by
  have h := run_equalIn_int (P := Tryd.prog) w d 34 .u64 .u64 y z Tryd.underlying34
  rw [show decide (y = z) = (y == z) by rw [Bool.eq_iff_iff]; simp]
  exact h
theorem part_int (off : Nat) (cs : Array Value) (v : Value) (hv : cs[off]? = some v) (w : World) : (part 3 cs off).run Tryd.prog w = .ok v w := run_part_plain w (by kernel_rfl) hv
theorem part_u64 (off : Nat) (cs : Array Value) (v : Value) (hv : cs[off]? = some v) (w : World) : (part 34 cs off).run Tryd.prog w = .ok v w := run_part_plain w (by kernel_rfl) hv
theorem eql_of {ty : TypeId} {d : Nat} {C D : Array Value} {w : World} {l : List (TypeId × Nat)} {bs : List Bool} (e : (Op.equalIn (d + 1) ty (.agg C) (.agg D)).run Tryd.prog w = (Op.eqFields d C D (Tryd.prog.fieldsOf ty).toList).run Tryd.prog w)
    (hfs : (Tryd.prog.fieldsOf ty).toList.map (fun f => (f.type, f.offset, f.name == "_")) = l.map (fun x => (x.1, x.2, false))) (hb : FieldsEq Tryd.prog w d C D l bs) : (Op.equalIn (d + 1) ty (.agg C) (.agg D)).run Tryd.prog w = .ok (bs.all id) w := by
  rw [e]
  exact eqFields_all _ l bs hfs hb
theorem eql_name (a b a' b' : Int) (d : Nat) (w : World) : (Op.equalIn (d + 2) 52 (.agg #[.int .i64 a, .int .i64 b]) (.agg #[.int .i64 a', .int .i64 b'])).run Tryd.prog w = .ok (decide (a = a') && decide (b = b')) w := by
  have h := eql_of (l := [(3, 0), (3, 1)]) (run_equalIn_struct w (d + 1) 52 #[.int .i64 a, .int .i64 b] #[.int .i64 a', .int .i64 b'] (by kernel_rfl) (by kernel_rfl)) (by kernel_rfl)
    (bs := [decide (a = a'), decide (b = b')]) ⟨⟨_, _, part_int 0 _ _ rfl w, part_int 0 _ _ rfl w, eql_int a a' d w⟩, ⟨_, _, part_int 1 _ _ rfl w, part_int 1 _ _ rfl w, eql_int b b' d w⟩, trivial⟩
  rw [h]
  simp
theorem eql_sig (a b a' b' : Int) (d : Nat) (w : World) : (Op.equalIn (d + 2) 54 (.agg #[.int .i64 a, .int .i64 b]) (.agg #[.int .i64 a', .int .i64 b'])).run Tryd.prog w = .ok (decide (a = a') && decide (b = b')) w := by
  have h := eql_of (l := [(3, 0), (3, 1)]) (run_equalIn_struct w (d + 1) 54 #[.int .i64 a, .int .i64 b] #[.int .i64 a', .int .i64 b'] (by kernel_rfl) (by kernel_rfl)) (by kernel_rfl)
    (bs := [decide (a = a'), decide (b = b')]) ⟨⟨_, _, part_int 0 _ _ rfl w, part_int 0 _ _ rfl w, eql_int a a' d w⟩, ⟨_, _, part_int 1 _ _ rfl w, part_int 1 _ _ rfl w, eql_int b b' d w⟩, trivial⟩
  rw [h]
  simp
def Wst.eqB (x y : Wst) : Bool := [decide (x.r = y.r), (decide (x.c = y.c) && decide (x.s = y.s)), decide (x.h = y.h), decide ((x.t : Int) = (y.t : Int)), (decide (x.b = y.b) && decide (x.m = y.m))].all id
theorem Wst.eqB_iff (x y : Wst) : x.eqB y = true ↔ x = y := by
  obtain ⟨_, _, _, _, _, _, _⟩ := x
  obtain ⟨_, _, _, _, _, _, _⟩ := y
  simp [Wst.eqB, Wst.mk.injEq, and_assoc]
  (try omega)
set_option maxHeartbeats 1000000 in
theorem eql_Wst (x y : Wst) (hx : x.h.length = 32) (hy : y.h.length = 32) (w : World) : (Op.equalIn 10000 79 (.agg x.cells.toArray) (.agg y.cells.toArray)).run Tryd.prog w = .ok (x.eqB y) w :=
  eql_of (d := 9999) (C := x.cells.toArray) (D := y.cells.toArray) (l := [(3, 0), (52, 1), (26, 3), (34, 35), (54, 36)]) (run_equalIn_struct w 9999 79 x.cells.toArray y.cells.toArray (by kernel_rfl) (by kernel_rfl)) (by kernel_rfl)
    (bs := [decide (x.r = y.r), (decide (x.c = y.c) && decide (x.s = y.s)), decide (x.h = y.h), decide ((x.t : Int) = (y.t : Int)), (decide (x.b = y.b) && decide (x.m = y.m))])
    ⟨⟨_, _, part_int 0 _ _ (show x.cells.toArray[0]? = some (.int .i64 x.r) from rfl) w, part_int 0 _ _ (show y.cells.toArray[0]? = some (.int .i64 y.r) from rfl) w, eql_int _ _ 9998 w⟩,
      ⟨_, _, (part_rowx 52 2 1 [.int .i64 x.r] [.int .i64 x.c, .int .i64 x.s] ([] ++ (x.h.map by8 ++ [.int .u64 (x.t : Int), .int .i64 x.b, .int .i64 x.m])) row_name rfl rfl w), (part_rowx 52 2 1 [.int .i64 y.r] [.int .i64 y.c, .int .i64 y.s] ([] ++ (y.h.map by8 ++ [.int .u64 (y.t : Int), .int .i64 y.b, .int .i64 y.m])) row_name rfl rfl w), eql_name _ _ _ _ 9997 w⟩,
      ⟨_, _, (part_rowx 26 32 3 [.int .i64 x.r, .int .i64 x.c, .int .i64 x.s] (x.h.map by8) [.int .u64 (x.t : Int), .int .i64 x.b, .int .i64 x.m] row_hash rfl (by rw [List.length_map]; exact hx) w), (part_rowx 26 32 3 [.int .i64 y.r, .int .i64 y.c, .int .i64 y.s] (y.h.map by8) [.int .u64 (y.t : Int), .int .i64 y.b, .int .i64 y.m] row_hash rfl (by rw [List.length_map]; exact hy) w), eql_hash x.h y.h hx hy 9997 w⟩,
      ⟨_, _, part_u64 35 _ _ (show x.cells.toArray[35]? = some (.int .u64 (x.t : Int)) by rw [List.getElem?_toArray]; exact post_cell [.int .i64 x.r, .int .i64 x.c, .int .i64 x.s] (x.h.map by8) [.int .u64 (x.t : Int), .int .i64 x.b, .int .i64 x.m] (by rw [List.length_map]; exact hx) 0 rfl) w, part_u64 35 _ _ (show y.cells.toArray[35]? = some (.int .u64 (y.t : Int)) by rw [List.getElem?_toArray]; exact post_cell [.int .i64 y.r, .int .i64 y.c, .int .i64 y.s] (y.h.map by8) [.int .u64 (y.t : Int), .int .i64 y.b, .int .i64 y.m] (by rw [List.length_map]; exact hy) 0 rfl) w, eql_u64 _ _ 9998 w⟩,
      ⟨_, _, (show (part 54 x.cells.toArray 36).run Tryd.prog w = .ok (.agg [.int .i64 x.b, .int .i64 x.m].toArray) w by rw [show x.cells = ([.int .i64 x.r, .int .i64 x.c, .int .i64 x.s] ++ (x.h.map by8 ++ [.int .u64 (x.t : Int)])) ++ ([.int .i64 x.b, .int .i64 x.m] ++ []) by simp [Wst.cells]]; exact part_rowx 54 2 36 _ _ _ row_sig (by simp [hx]) rfl w), (show (part 54 y.cells.toArray 36).run Tryd.prog w = .ok (.agg [.int .i64 y.b, .int .i64 y.m].toArray) w by rw [show y.cells = ([.int .i64 y.r, .int .i64 y.c, .int .i64 y.s] ++ (y.h.map by8 ++ [.int .u64 (y.t : Int)])) ++ ([.int .i64 y.b, .int .i64 y.m] ++ []) by simp [Wst.cells]]; exact part_rowx 54 2 36 _ _ _ row_sig (by simp [hy]) rfl w), eql_sig _ _ _ _ 9997 w⟩, trivial⟩
def Wvt.eqB (x y : Wvt) : Bool := [decide (x.k = y.k), decide (x.e = y.e), decide (x.r = y.r), decide (x.p = y.p), decide (x.h = y.h), (decide (x.b = y.b) && decide (x.m = y.m))].all id
theorem Wvt.eqB_iff (x y : Wvt) : x.eqB y = true ↔ x = y := by
  obtain ⟨_, _, _, _, _, _, _⟩ := x
  obtain ⟨_, _, _, _, _, _, _⟩ := y
  simp [Wvt.eqB, Wvt.mk.injEq, and_assoc]
  (try omega)
set_option maxHeartbeats 1000000 in
theorem eql_Wvt (x y : Wvt) (hx : x.h.length = 32) (hy : y.h.length = 32) (w : World) : (Op.equalIn 10000 87 (.agg x.cells.toArray) (.agg y.cells.toArray)).run Tryd.prog w = .ok (x.eqB y) w :=
  eql_of (d := 9999) (C := x.cells.toArray) (D := y.cells.toArray) (l := [(3, 0), (3, 1), (3, 2), (3, 3), (26, 4), (54, 36)]) (run_equalIn_struct w 9999 87 x.cells.toArray y.cells.toArray (by kernel_rfl) (by kernel_rfl)) (by kernel_rfl)
    (bs := [decide (x.k = y.k), decide (x.e = y.e), decide (x.r = y.r), decide (x.p = y.p), decide (x.h = y.h), (decide (x.b = y.b) && decide (x.m = y.m))])
    ⟨⟨_, _, part_int 0 _ _ (show x.cells.toArray[0]? = some (.int .i64 x.k) from rfl) w, part_int 0 _ _ (show y.cells.toArray[0]? = some (.int .i64 y.k) from rfl) w, eql_int _ _ 9998 w⟩,
      ⟨_, _, part_int 1 _ _ (show x.cells.toArray[1]? = some (.int .i64 x.e) from rfl) w, part_int 1 _ _ (show y.cells.toArray[1]? = some (.int .i64 y.e) from rfl) w, eql_int _ _ 9998 w⟩,
      ⟨_, _, part_int 2 _ _ (show x.cells.toArray[2]? = some (.int .i64 x.r) from rfl) w, part_int 2 _ _ (show y.cells.toArray[2]? = some (.int .i64 y.r) from rfl) w, eql_int _ _ 9998 w⟩,
      ⟨_, _, part_int 3 _ _ (show x.cells.toArray[3]? = some (.int .i64 x.p) from rfl) w, part_int 3 _ _ (show y.cells.toArray[3]? = some (.int .i64 y.p) from rfl) w, eql_int _ _ 9998 w⟩,
      ⟨_, _, (part_rowx 26 32 4 [.int .i64 x.k, .int .i64 x.e, .int .i64 x.r, .int .i64 x.p] (x.h.map by8) [.int .i64 x.b, .int .i64 x.m] row_hash rfl (by rw [List.length_map]; exact hx) w), (part_rowx 26 32 4 [.int .i64 y.k, .int .i64 y.e, .int .i64 y.r, .int .i64 y.p] (y.h.map by8) [.int .i64 y.b, .int .i64 y.m] row_hash rfl (by rw [List.length_map]; exact hy) w), eql_hash x.h y.h hx hy 9997 w⟩,
      ⟨_, _, (show (part 54 x.cells.toArray 36).run Tryd.prog w = .ok (.agg [.int .i64 x.b, .int .i64 x.m].toArray) w by rw [show x.cells = ([.int .i64 x.k, .int .i64 x.e, .int .i64 x.r, .int .i64 x.p] ++ (x.h.map by8 ++ [])) ++ ([.int .i64 x.b, .int .i64 x.m] ++ []) by simp [Wvt.cells]]; exact part_rowx 54 2 36 _ _ _ row_sig (by simp [hx]) rfl w), (show (part 54 y.cells.toArray 36).run Tryd.prog w = .ok (.agg [.int .i64 y.b, .int .i64 y.m].toArray) w by rw [show y.cells = ([.int .i64 y.k, .int .i64 y.e, .int .i64 y.r, .int .i64 y.p] ++ (y.h.map by8 ++ [])) ++ ([.int .i64 y.b, .int .i64 y.m] ++ []) by simp [Wvt.cells]]; exact part_rowx 54 2 36 _ _ _ row_sig (by simp [hy]) rfl w), eql_sig _ _ _ _ 9997 w⟩, trivial⟩
def Wdn.eqB (x y : Wdn) : Bool := [decide (x.r = y.r), decide (x.i = y.i), (decide (x.b = y.b) && decide (x.m = y.m))].all id
theorem Wdn.eqB_iff (x y : Wdn) : x.eqB y = true ↔ x = y := by
  obtain ⟨_, _, _, _⟩ := x
  obtain ⟨_, _, _, _⟩ := y
  simp [Wdn.eqB, Wdn.mk.injEq, and_assoc]
  (try omega)
set_option maxHeartbeats 1000000 in
theorem eql_Wdn (x y : Wdn) (w : World) : (Op.equalIn 10000 83 (.agg x.cells.toArray) (.agg y.cells.toArray)).run Tryd.prog w = .ok (x.eqB y) w :=
  eql_of (d := 9999) (C := x.cells.toArray) (D := y.cells.toArray) (l := [(3, 0), (3, 1), (54, 2)]) (run_equalIn_struct w 9999 83 x.cells.toArray y.cells.toArray (by kernel_rfl) (by kernel_rfl)) (by kernel_rfl)
    (bs := [decide (x.r = y.r), decide (x.i = y.i), (decide (x.b = y.b) && decide (x.m = y.m))])
    ⟨⟨_, _, part_int 0 _ _ (show x.cells.toArray[0]? = some (.int .i64 x.r) from rfl) w, part_int 0 _ _ (show y.cells.toArray[0]? = some (.int .i64 y.r) from rfl) w, eql_int _ _ 9998 w⟩,
      ⟨_, _, part_int 1 _ _ (show x.cells.toArray[1]? = some (.int .i64 x.i) from rfl) w, part_int 1 _ _ (show y.cells.toArray[1]? = some (.int .i64 y.i) from rfl) w, eql_int _ _ 9998 w⟩,
      ⟨_, _, (part_rowx 54 2 2 [.int .i64 x.r, .int .i64 x.i] [.int .i64 x.b, .int .i64 x.m] [] row_sig rfl rfl w), (part_rowx 54 2 2 [.int .i64 y.r, .int .i64 y.i] [.int .i64 y.b, .int .i64 y.m] [] row_sig rfl rfl w), eql_sig _ _ _ _ 9997 w⟩, trivial⟩
end Go.Proofs.YtdgbcdmooklciaaDoor

namespace Go.Proofs.YtdgbcdmooklciaaDoor
open Go.RowKit
set_option maxRecDepth 100000

theorem wireN_any (f k : Int) (hf : -1000 ≤ f ∧ f ≤ 1000) (w : World) : Calls Tryd.prog 29 #[.agg #[.int .i64 f, .int .i64 k]] w fun e w' => e = .returned (.int .i64 (3 * f + 1)) ∧ Fr [] w w' := by
  go_enter Tryd.func29, Tryd.ntmps29
  go_wp2
  go_ret
  exact ⟨rfl, (Fr.refl [] w).alloc _⟩
theorem wireQ_any (f k : Int) (hf : -1000 ≤ f ∧ f ≤ 1000) (w : World) : Calls Tryd.prog 30 #[.agg #[.int .i64 f, .int .i64 k]] w fun e w' => e = .returned (.int .i64 (2 * f + 1)) ∧ Fr [] w w' := by
  go_enter Tryd.func30, Tryd.ntmps30
  go_wp2
  go_ret
  exact ⟨rfl, (Fr.refl [] w).alloc _⟩
def confB (f k : Int) : Bool := decide (1 ≤ f ∧ f ≤ 21 ∧ 1 ≤ k ∧ k ≤ 100)
theorem validConf_any (f k : Int) (w : World) : Calls Tryd.prog 34 #[.agg #[.int .i64 f, .int .i64 k]] w fun e w' => e = .returned (.bool (confB f k)) ∧ Fr [] w w' := by
  by_cases h1 : 1 ≤ f
  case neg =>
    have hr : Hid (confB f k = false) := Lib.hid (by simp [confB]; omega)
    go_enter Tryd.func34, Tryd.ntmps34
    go_wp2
    go_ret
    exact ⟨by rw [hr.out]; rfl, (Fr.refl [] w).alloc _⟩
  by_cases h2 : f ≤ 21
  case neg =>
    have hr : Hid (confB f k = false) := Lib.hid (by simp [confB]; omega)
    go_enter Tryd.func34, Tryd.ntmps34
    go_wp2
    go_ret
    exact ⟨by rw [hr.out]; rfl, (Fr.refl [] w).alloc _⟩
  by_cases h3 : 1 ≤ k
  case neg =>
    have hr : Hid (confB f k = false) := Lib.hid (by simp [confB]; omega)
    go_enter Tryd.func34, Tryd.ntmps34
    go_wp2
    go_ret
    exact ⟨by rw [hr.out]; rfl, (Fr.refl [] w).alloc _⟩
  by_cases h4 : k ≤ 100
  case neg =>
    have hr : Hid (confB f k = false) := Lib.hid (by simp [confB]; omega)
    go_enter Tryd.func34, Tryd.ntmps34
    go_wp2
    go_ret
    exact ⟨by rw [hr.out]; rfl, (Fr.refl [] w).alloc _⟩
  have hr : Hid (confB f k = true) := Lib.hid (by simp [confB]; omega)
  go_enter Tryd.func34, Tryd.ntmps34
  go_wp2
  go_ret
  exact ⟨by rw [hr.out]; rfl, (Fr.refl [] w).alloc _⟩
theorem wwakes_any (w : World) : Calls Tryd.prog 22 #[] w fun e w' => e = .returned (.bool true) ∧ Fr [] w w' := by
  go_enter Tryd.func22, Tryd.ntmps22
  go_wp2_with fail
  refine (wireN_any 1 0 (by omega) w).mono ?_
  rintro e w1 ⟨rfl, hf1⟩
  have HF1 := Lib.hid hf1
  clear hf1
  go_wp2_with fail
  refine (wireQ_any 1 0 (by omega) w1).mono ?_
  rintro e w2 ⟨rfl, hf2⟩
  have HF2 := Lib.hid (HF1.out.and hf2 (by simp))
  clear hf2
  go_wp2
  go_ret
  exact ⟨rfl, HF2.out⟩
theorem row_cf : RowTy Tryd.prog 64 2 := ⟨by kernel_rfl, by kernel_rfl⟩
end Go.Proofs.YtdgbcdmooklciaaDoor

namespace Go.Proofs.YtdgbcdmooklciaaDoor
open Go.RowKit
set_option maxRecDepth 100000

def hh1 (u : UInt8) : List UInt8 := u :: List.replicate 31 0
def Wst.small (x : Wst) : Wst := ⟨x.r % 4, x.c % 3, x.s % 3, hh1 (x.h.getD 0 0 % 2), x.t % 3, 0, 0⟩
def Wvt.small (x : Wvt) : Wvt := ⟨1 + x.k % 2, x.e % 3, x.r % 3, x.p % 4, hh1 (x.h.getD 0 0 % 2), 0, 0⟩
theorem built_nm (c s : Int) : Tryd.prog.built 52 [(0, .int .i64 c), (1, .int .i64 s)] = some #[.int .i64 c, .int .i64 s] := by kernel_rfl
theorem built_h1 (u : UInt8) : Tryd.prog.built 26 [(0, by8 u)] = some ((hh1 u).map by8).toArray := by kernel_rfl
theorem built_st (r c s : Int) (u : UInt8) (t : Nat) : Tryd.prog.built 79 [(0, .int .i64 r), (1, .agg #[.int .i64 c, .int .i64 s]), (2, .agg ((hh1 u).map by8).toArray), (3, .int .u64 (t : Int))] = some (Wst.cells ⟨r, c, s, hh1 u, t, 0, 0⟩).toArray := by kernel_rfl
theorem built_vt (k e r p : Int) (u : UInt8) : Tryd.prog.built 87 [(0, .int .i64 k), (1, .int .i64 e), (2, .int .i64 r), (3, .int .i64 p), (4, .agg ((hh1 u).map by8).toArray)] = some (Wvt.cells ⟨k, e, r, p, hh1 u, 0, 0⟩).toArray := by kernel_rfl
theorem built_dn (r i : Int) : Tryd.prog.built 83 [(0, .int .i64 r), (1, .int .i64 i)] = some (Wdn.cells ⟨r, i, 0, 0⟩).toArray := by kernel_rfl
def zeroSt : Array Value := (Wst.cells ⟨0, 0, 0, List.replicate 32 0, 0, 0, 0⟩).toArray
def zeroVt : Array Value := (Wvt.cells ⟨0, 0, 0, 0, List.replicate 32 0, 0, 0⟩).toArray

-- votes
end Go.Proofs.YtdgbcdmooklciaaDoor

namespace Go.Proofs.YtdgbcdmooklciaaDoor
open Go.RowKit
set_option maxRecDepth 100000

theorem Wst.sig_set (x : Wst) (hh : x.h.length = 32) (b m : Int) : (x.cells.toArray.setIfInBounds 36 (.int .i64 b)).setIfInBounds 37 (.int .i64 m) = (Wst.cells ⟨x.r, x.c, x.s, x.h, x.t, b, m⟩).toArray := by
  simp [Wst.cells, List.set_append, hh]
theorem Wvt.sig_set (x : Wvt) (hh : x.h.length = 32) (b m : Int) : (x.cells.toArray.setIfInBounds 36 (.int .i64 b)).setIfInBounds 37 (.int .i64 m) = (Wvt.cells ⟨x.k, x.e, x.r, x.p, x.h, b, m⟩).toArray := by
  simp [Wvt.cells, List.set_append, hh]
theorem Wdn.sig_set (x : Wdn) (b m : Int) : (x.cells.toArray.setIfInBounds 2 (.int .i64 b)).setIfInBounds 3 (.int .i64 m) = (Wdn.cells ⟨x.r, x.i, b, m⟩).toArray := rfl
theorem Wpr.sig_set (x : Wpr) (b m : Int) : (x.cells.toArray.setIfInBounds 4 (.int .i64 b)).setIfInBounds 5 (.int .i64 m) = (Wpr.cells ⟨x.r, x.e, x.t, x.A, x.n, x.d, x.l, b, m⟩).toArray := rfl
def zeroDn : Array Value := (Wdn.cells ⟨0, 0, 0, 0⟩).toArray
theorem Blk.apart {w w' : World} {g g' : Nat} {t t' : TypeId} {cs cs' : Array Value} (h : Blk w g t cs) (h' : Blk w g' t' cs') (hf : Fr [g'] w w') (hne : t ≠ t') : Blk w' g t cs := h.keep hf (by simpa using Blk.ne h h' hne)
def ba0 : Wba := ⟨0, 3, none, 0, 0, [], none, 0, 0, [], none, 0, 0, []⟩
def po0 (b m : Int) : Wpo := ⟨1, 0, 0, 0, ba0, b, m⟩
theorem built_ba0 : Tryd.prog.built 39 [(1, .int .u64 3)] = some ba0.cells.toArray := by kernel_rfl
theorem built_po0 : Tryd.prog.built 85 [(0, .int .i64 1), (4, .agg ba0.cells.toArray)] = some (po0 0 0).cells.toArray := by kernel_rfl
theorem po0_len : (po0 0 0).text.length ≤ 1000 := by
  have h0 : i64In 0 := ⟨by decide, by decide⟩
  have h1 : i64In 1 := ⟨by decide, by decide⟩
  have b5 := Wpo.head_len (x := po0 0 0) h1 h0 h0 h0
  have b1 := enc_ten (m := wWpo.length) (by decide)
  have b2 : wWpo.length = 8 := rfl
  have b3 := sumL_len (po0 0 0).k.full
  simp only [Wpo.text, List.length_append]
  omega
theorem po0_ok (b m : Int) (hb : i64In b) (hm : i64In m) (w : World) : (po0 b m).Ok w := by
  have h0 : i64In 0 := ⟨by decide, by decide⟩
  have h1 : i64In 1 := ⟨by decide, by decide⟩
  have h2 : (0 : Nat) ≤ 4 := by decide
  exact ⟨h1, h0, h0, h0, ⟨h0, show (3 : Nat) < 18446744073709551616 by decide, Lst.nil _, h2, fun h => absurd h (Nat.lt_irrefl _), Lst.nil _, h2, fun h => absurd h (Nat.lt_irrefl _), Lst.nil _, h2, fun h => absurd h (Nat.lt_irrefl _)⟩, hb, hm⟩
def sgC (b m : Int) : List Value := [.int .i64 b, .int .i64 m]
set_option maxHeartbeats 4000000 in
theorem wireUnsigned_walk0 (s a : Wst) (p : Wpr) (d : Wdn) (v : Wvt) (b m : Int) (w : World) (hs : s.Ok) (ha : a.Ok) (hp : p.In w) (hd : d.Ok) (hv : v.Ok) (hb : i64In b) (hm : i64In m) (hK : KW w) :
    Calls Tryd.prog 7 #[s.val, a.val, .agg p.cells.toArray, d.val, v.val, .agg (sgC b m).toArray] w fun e w' => e = .returned (.bool true) ∧ Fr [] w w' := by
  obtain ⟨wa, hwa⟩ : ∃ wa, wa = (((((w.alloc (Obj.cells s.cells.toArray 79)).alloc (Obj.cells a.cells.toArray 81)).alloc (Obj.cells p.cells.toArray 62)).alloc (Obj.cells d.cells.toArray 83)).alloc (Obj.cells v.cells.toArray 87)).alloc (Obj.cells (sgC b m).toArray 54) := ⟨_, rfl⟩
  have hf0 : Fr [] w wa := by rw [hwa]; exact ((((((Fr.refl [] w).alloc _).alloc _).alloc _).alloc _).alloc _).alloc _
  have hn0 : wa.heap.size = w.heap.size + 6 := by rw [hwa]; simp
  have hb0 : Blk wa w.heap.size 79 s.cells.toArray := by rw [hwa]; exact blk_alloc (blk_alloc (blk_alloc (blk_alloc (blk_alloc (Blk.new _ _ _)))))
  have hb1 : Blk wa (w.heap.size + 1) 81 a.cells.toArray := by
    have h := Blk.new (w.alloc (Obj.cells s.cells.toArray 79)) 81 a.cells.toArray
    rw [hwa]
    exact blk_alloc (blk_alloc (blk_alloc (blk_alloc (by simpa using h))))
  have hb2 : Blk wa (w.heap.size + 2) 62 p.cells.toArray := by
    have h := Blk.new ((w.alloc (Obj.cells s.cells.toArray 79)).alloc (Obj.cells a.cells.toArray 81)) 62 p.cells.toArray
    rw [hwa]
    exact blk_alloc (blk_alloc (blk_alloc (by simpa using h)))
  have hb3 : Blk wa (w.heap.size + 3) 83 d.cells.toArray := by
    have h := Blk.new (((w.alloc (Obj.cells s.cells.toArray 79)).alloc (Obj.cells a.cells.toArray 81)).alloc (Obj.cells p.cells.toArray 62)) 83 d.cells.toArray
    rw [hwa]
    exact blk_alloc (blk_alloc (by simpa using h))
  have hb4 : Blk wa (w.heap.size + 4) 87 v.cells.toArray := by
    have h := Blk.new ((((w.alloc (Obj.cells s.cells.toArray 79)).alloc (Obj.cells a.cells.toArray 81)).alloc (Obj.cells p.cells.toArray 62)).alloc (Obj.cells d.cells.toArray 83)) 87 v.cells.toArray
    rw [hwa]
    exact blk_alloc (by simpa using h)
  have hb5 : Blk wa (w.heap.size + 5) 54 (sgC b m).toArray := by
    have h := Blk.new (((((w.alloc (Obj.cells s.cells.toArray 79)).alloc (Obj.cells a.cells.toArray 81)).alloc (Obj.cells p.cells.toArray 62)).alloc (Obj.cells d.cells.toArray 83)).alloc (Obj.cells v.cells.toArray 87)) 54 (sgC b m).toArray
    rw [hwa]
    simpa using h
  have HB0 := Lib.hid hb0
  have HB1 := Lib.hid hb1
  have HB2 := Lib.hid hb2
  have HB3 := Lib.hid hb3
  have HB4 := Lib.hid hb4
  have HB5 := Lib.hid hb5
  have HN0 := Lib.hid hn0
  have HF0 := Lib.hid hf0
  have HWA := Lib.hid hwa
  have HS := Lib.hid hs
  have HA := Lib.hid ha
  have HP := Lib.hid hp
  have HD := Lib.hid hd
  have HV := Lib.hid hv
  have HBS := Lib.hid hb
  have HMS := Lib.hid hm
  have HKLT := Lib.hid (World.block_lt_of_cell? w _ (hK 0 (by decide)))
  have HK := Lib.hid (hK.keep hf0 (by simp))
  have HSL : Hid (s.cells.length = 38) := Lib.hid (Wst.len hs.h)
  have HAL : Hid (a.cells.length = 38) := Lib.hid (Wst.len ha.h)
  have HVL : Hid (v.cells.length = 38) := Lib.hid (Wvt.len hv.h)
  clear hwa hf0 hb0 hb1 hb2 hb3 hb4 hb5 hn0 hs ha hp hd hv hb hm hK
  unfold Wst.val Wdn.val Wvt.val
  generalize hPC : p.cells.toArray = PC at *
  have HPC := Lib.hid hPC
  clear hPC
  have HPZ : Hid ((Tryd.prog.info? 62).map (·.size) = some PC.size) := Lib.hid (by rw [← HPC.out]; kernel_rfl)
  go_enter Tryd.func7, Tryd.ntmps7
  go_upto_region 1 with (fail)
  change Code.wp _ _ _ _ ((((((w.alloc (Obj.cells s.cells.toArray 79)).alloc (Obj.cells a.cells.toArray 81)).alloc (Obj.cells PC 62)).alloc (Obj.cells d.cells.toArray 83)).alloc (Obj.cells v.cells.toArray 87)).alloc (Obj.cells (sgC b m).toArray 54))
  rw [← HWA.out]
  go_wp2_with (refine wpList_load_row rfl 62 _ rfl (w.heap.size + 2) rfl 62 PC _ _ HB2.out Tryd.underlying62 rfl HPZ.out ?_)
  rw [← HPC.out]
  refine (promiseCut_any p wa HP.out.r HP.out.e HP.out.t HP.out.b HP.out.m (HP.out.l.keep' HF0.out (by simp) (fun _ _ h => h.keep HF0.out)) HP.out.n).mono ?_
  rintro e w1 ⟨A1, d1, ys, rfl, hok, -, hf1⟩
  have hok2 := hok [w.heap.size + 2] (by have := HN0.out; simp; omega)
  generalize hq : (⟨p.r, p.e, p.t, A1, (p.l.take 3).length, d1, ys, p.b, p.m⟩ : Wpr) = q at *
  clear hq hok
  have HQ := Lib.hid hok2
  have HF1 := Lib.hid hf1
  have hqs : ((Tryd.prog.info? 62).map (·.size) = some q.cells.toArray.size) := by kernel_rfl
  have HQS := Lib.hid hqs
  have HPS : Hid (PC.size = q.cells.toArray.size) := Lib.hid (by rw [← HPC.out]; rfl)
  have HQO : Hid (q.cells.toArray.all (·.oneCell') = true) := Lib.hid (all_oneCell_toArray (Wpr.one q))
  have HB2' := Lib.hid (HB2.out.keep hf1 (by simp))
  have HQL : Hid (q.cells.length = 6) := Lib.hid (Wpr.len q)
  have HQONE : Hid (∀ v ∈ q.cells, v.oneCell' = true) := Lib.hid (Wpr.one q)
  have HQSET : Hid ((q.cells.toArray.setIfInBounds 4 (.int .i64 b)).setIfInBounds 5 (.int .i64 m) = (Wpr.cells ⟨q.r, q.e, q.t, q.A, q.n, q.d, q.l, b, m⟩).toArray) := Lib.hid (Wpr.sig_set q b m)
  clear hok2 hf1 hqs
  generalize hQC : q.cells = QL at *
  have HQC := Lib.hid hQC
  clear hQC
  go_wp2_with (refine wpList_store_blk rfl 62 _ _ rfl (w.heap.size + 2) QL.toArray rfl rfl 62 PC HB2'.out HQS.out HPS.out HQO.out ?_
               intro w2 hb2 hf2)
  have hfa : Fr [w.heap.size + 2] wa w2 := (HF1.out.mono (by simp)).trans hf2 (fun x hx _ => hx)
  have HB0 := Lib.hid (HB0.out.keep hfa (by simp))
  have HB1 := Lib.hid (HB1.out.keep hfa (by simp))
  have HB2 := Lib.hid hb2
  have HB3 := Lib.hid (HB3.out.keep hfa (by simp))
  have HB4 := Lib.hid (HB4.out.keep hfa (by simp))
  have HB5 := Lib.hid (HB5.out.keep hfa (by simp))
  have HQ2 : Hid (q.Ok w2 []) := Lib.hid (HQ.out.keep hf2 (by simp))
  have HFA : Hid (Fr [] w w2) := Lib.hid (HF0.out.and hfa (by simp))
  have HK2 : Hid (KW w2) := Lib.hid ((HK.out.keep HF1.out (by simp)).keep hf2 (by first | (simp; done) | (have := HKLT.out; simp; omega)))
  clear HB2' HQ hb2 hf2 hfa HF1 HWA HPC HPZ HP HPS HQO
  refine wp_region_held_drew (S := Fr [] w2) (by kernel_rfl) (Fr.drew (Fr.refl _ w2)) (fun hHeld => ?_)
  have HWD : Hid (Fr [] w2 w2.drew) := Lib.hid (Fr.drew (Fr.refl _ w2))
  have HWS : Hid (w2.drew.heap.size = w2.heap.size) := Lib.hid rfl
  generalize w2.drew = wd at *
  refine row_at (i := 0) rfl (by kernel_rfl) (by rfl) _ _ rfl _ _ rfl _ (fun w1 hw1 => hw1.range (HB0.out.range) (by first | (simp; done) | exact HNS.out | exact HNW.out | (intro hm; have hlt := HSB.out _ hm; (try dsimp only at hlt); omega))) (row_stamp.of HSL.out) (fun _ _ _ h => h) hHeld ?_
  simp only [Act.put, List.setIfInBounds_toArray, List.set_cons_zero, List.set_cons_succ]
  refine row_at (i := 1) rfl (by kernel_rfl) (by rfl) _ _ rfl _ _ rfl _ (fun w1 hw1 => hw1.range (HB1.out.range) (by first | (simp; done) | exact HNS.out | exact HNW.out | (intro hm; have hlt := HSB.out _ hm; (try dsimp only at hlt); omega))) (row_ack.of HAL.out) (fun _ _ _ h => h) hHeld ?_
  simp only [Act.put, List.setIfInBounds_toArray, List.set_cons_zero, List.set_cons_succ]
  refine row_at (i := 2) rfl (by kernel_rfl) (by rfl) _ _ rfl _ _ rfl _ (fun w1 hw1 => hw1.range (HB2.out.range) (by first | (simp; done) | exact HNS.out | exact HNW.out | (intro hm; have hlt := HSB.out _ hm; (try dsimp only at hlt); omega))) (row_prm.of HQL.out) (fun _ _ _ h => h) hHeld ?_
  simp only [Act.put, List.setIfInBounds_toArray, List.set_cons_zero, List.set_cons_succ]
  refine row_at (i := 3) rfl (by kernel_rfl) (by rfl) _ _ rfl _ _ rfl _ (fun w1 hw1 => hw1.range (HB3.out.range) (by first | (simp; done) | exact HNS.out | exact HNW.out | (intro hm; have hlt := HSB.out _ hm; (try dsimp only at hlt); omega))) (row_deny) (fun _ _ _ h => h) hHeld ?_
  simp only [Act.put, List.setIfInBounds_toArray, List.set_cons_zero, List.set_cons_succ]
  refine row_at (i := 4) rfl (by kernel_rfl) (by rfl) _ _ rfl _ _ rfl _ (fun w1 hw1 => hw1.range (HB4.out.range) (by first | (simp; done) | exact HNS.out | exact HNW.out | (intro hm; have hlt := HSB.out _ hm; (try dsimp only at hlt); omega))) (row_vote.of HVL.out) (fun _ _ _ h => h) hHeld ?_
  simp only [Act.put, List.setIfInBounds_toArray, List.set_cons_zero, List.set_cons_succ]
  refine allocs_at (fun w o h => h.alloc o) 5 [⟨5, 13, 79, zeroSt⟩, ⟨6, 14, 81, zeroSt⟩, ⟨7, 15, 62, zeroPr⟩, ⟨8, 16, 83, zeroDn⟩, ⟨9, 17, 87, zeroVt⟩] _ _ _ _ rfl (by kernel_rfl) (by
    intro it hit
    simp only [List.mem_cons, List.not_mem_nil, or_false] at hit
    rcases hit with rfl | rfl | rfl | rfl | rfl <;> exact ⟨_, rfl, rfl, rfl, fun ev w => by go_simp; rfl⟩) (by decide) (by decide) hHeld (fun gs w3 hL hN hG hF3 hHeld => ?_)
  clear hN
  obtain ⟨g0, _, rfl, hg0, hL⟩ := hL.inv
  obtain ⟨g1, _, rfl, hg1, hL⟩ := hL.inv
  obtain ⟨g2, _, rfl, hg2, hL⟩ := hL.inv
  obtain ⟨g3, _, rfl, hg3, hL⟩ := hL.inv
  obtain ⟨g4, _, rfl, hg4, hL⟩ := hL.inv
  obtain rfl := hL.inv0
  simp only [listAll, putAll, List.map_cons, List.map_nil, List.zip_cons_cons, List.zip_nil_left, List.zip_nil_right, List.foldl_cons, List.foldl_nil]
  simp only [Act.put, List.setIfInBounds_toArray, List.set_cons_zero, List.set_cons_succ]
  have HGE0 : Hid (w2.heap.size ≤ g0) := Lib.hid (by have h := hG g0 (by simp); rw [HWS.out] at h; exact h)
  have HGE1 : Hid (w2.heap.size ≤ g1) := Lib.hid (by have h := hG g1 (by simp); rw [HWS.out] at h; exact h)
  have HGE2 : Hid (w2.heap.size ≤ g2) := Lib.hid (by have h := hG g2 (by simp); rw [HWS.out] at h; exact h)
  have HGE3 : Hid (w2.heap.size ≤ g3) := Lib.hid (by have h := hG g3 (by simp); rw [HWS.out] at h; exact h)
  have HGE4 : Hid (w2.heap.size ≤ g4) := Lib.hid (by have h := hG g4 (by simp); rw [HWS.out] at h; exact h)
  have HF3 := Lib.hid (HWD.out.and hF3 (by simp))
  clear hG hF3
  refine step_at (i := 10) rfl (by kernel_rfl) (by rfl) (fun K hK => ?_)
  refine wp_store_blk _ _ _ rfl g0 (s.cells).toArray rfl rfl 79 zeroSt hg0 (by rw [List.size_toArray, show (s.cells).length = 38 from HSL.out]; kernel_rfl) (Eq.trans (show zeroSt.size = 38 from rfl) (by rw [List.size_toArray]; exact (show (s.cells).length = 38 from HSL.out).symm)) (all_oneCell_toArray (Wst.one s)) (fun u0 hb hf => ?_)
  refine hK.out _ _ (hHeld.go hf (by intro x hx; rw [List.mem_singleton.1 hx]; exact HGE0.out)) (fun hHeld => ?_)
  clear hK K
  have hg1 := hg1.apart hg0 hf (by decide)
  have hg2 := hg2.apart hg0 hf (by decide)
  have hg3 := hg3.apart hg0 hf (by decide)
  have hg4 := hg4.apart hg0 hf (by decide)
  replace hg0 := hb
  clear hb hf
  simp only [Act.put, List.setIfInBounds_toArray, List.set_cons_zero, List.set_cons_succ]
  refine step_at (i := 11) rfl (by kernel_rfl) (by rfl) (fun K hK => ?_)
  refine wp_store_blk _ _ _ rfl g1 (a.cells).toArray rfl rfl 81 zeroSt hg1 (by rw [List.size_toArray, show (a.cells).length = 38 from HAL.out]; kernel_rfl) (Eq.trans (show zeroSt.size = 38 from rfl) (by rw [List.size_toArray]; exact (show (a.cells).length = 38 from HAL.out).symm)) (all_oneCell_toArray (Wst.one a)) (fun u1 hb hf => ?_)
  refine hK.out _ _ (hHeld.go hf (by intro x hx; rw [List.mem_singleton.1 hx]; exact HGE1.out)) (fun hHeld => ?_)
  clear hK K
  have hg0 := hg0.apart hg1 hf (by decide)
  have hg2 := hg2.apart hg1 hf (by decide)
  have hg3 := hg3.apart hg1 hf (by decide)
  have hg4 := hg4.apart hg1 hf (by decide)
  replace hg1 := hb
  clear hb hf
  simp only [Act.put, List.setIfInBounds_toArray, List.set_cons_zero, List.set_cons_succ]
  refine step_at (i := 12) rfl (by kernel_rfl) (by rfl) (fun K hK => ?_)
  refine wp_store_blk _ _ _ rfl g2 (QL).toArray rfl rfl 62 zeroPr hg2 (by rw [List.size_toArray, show (QL).length = 6 from HQL.out]; kernel_rfl) (Eq.trans (show zeroPr.size = 6 from rfl) (by rw [List.size_toArray]; exact (show (QL).length = 6 from HQL.out).symm)) (all_oneCell_toArray (HQONE.out)) (fun u2 hb hf => ?_)
  refine hK.out _ _ (hHeld.go hf (by intro x hx; rw [List.mem_singleton.1 hx]; exact HGE2.out)) (fun hHeld => ?_)
  clear hK K
  have hg0 := hg0.apart hg2 hf (by decide)
  have hg1 := hg1.apart hg2 hf (by decide)
  have hg3 := hg3.apart hg2 hf (by decide)
  have hg4 := hg4.apart hg2 hf (by decide)
  replace hg2 := hb
  clear hb hf
  simp only [Act.put, List.setIfInBounds_toArray, List.set_cons_zero, List.set_cons_succ]
  refine step_at (i := 13) rfl (by kernel_rfl) (by rfl) (fun K hK => ?_)
  refine wp_store_blk _ _ _ rfl g3 (d.cells).toArray rfl rfl 83 zeroDn hg3 (by rw [List.size_toArray, show (d.cells).length = 4 from rfl]; kernel_rfl) (Eq.trans (show zeroDn.size = 4 from rfl) (by rw [List.size_toArray]; exact (show (d.cells).length = 4 from rfl).symm)) (all_oneCell_toArray (Wdn.one d)) (fun u3 hb hf => ?_)
  refine hK.out _ _ (hHeld.go hf (by intro x hx; rw [List.mem_singleton.1 hx]; exact HGE3.out)) (fun hHeld => ?_)
  clear hK K
  have hg0 := hg0.apart hg3 hf (by decide)
  have hg1 := hg1.apart hg3 hf (by decide)
  have hg2 := hg2.apart hg3 hf (by decide)
  have hg4 := hg4.apart hg3 hf (by decide)
  replace hg3 := hb
  clear hb hf
  simp only [Act.put, List.setIfInBounds_toArray, List.set_cons_zero, List.set_cons_succ]
  refine step_at (i := 14) rfl (by kernel_rfl) (by rfl) (fun K hK => ?_)
  refine wp_store_blk _ _ _ rfl g4 (v.cells).toArray rfl rfl 87 zeroVt hg4 (by rw [List.size_toArray, show (v.cells).length = 38 from HVL.out]; kernel_rfl) (Eq.trans (show zeroVt.size = 38 from rfl) (by rw [List.size_toArray]; exact (show (v.cells).length = 38 from HVL.out).symm)) (all_oneCell_toArray (Wvt.one v)) (fun u4 hb hf => ?_)
  refine hK.out _ _ (hHeld.go hf (by intro x hx; rw [List.mem_singleton.1 hx]; exact HGE4.out)) (fun hHeld => ?_)
  clear hK K
  have hg0 := hg0.apart hg4 hf (by decide)
  have hg1 := hg1.apart hg4 hf (by decide)
  have hg2 := hg2.apart hg4 hf (by decide)
  have hg3 := hg3.apart hg4 hf (by decide)
  replace hg4 := hb
  clear hb hf
  simp only [Act.put, List.setIfInBounds_toArray, List.set_cons_zero, List.set_cons_succ]
  refine wpAnyH_done (by kernel_rfl) ?_ _
  have HU := Lib.hid hHeld
  have HG0 := Lib.hid hg0
  have HG1 := Lib.hid hg1
  have HG2 := Lib.hid hg2
  have HG3 := Lib.hid hg3
  have HG4 := Lib.hid hg4
  clear hg0 hg1 hg2 hg3 hg4 hHeld
  go_wp2
  have HS2 : Hid (∀ k, k < 6 → ¬ w.heap.size + k ∈ [g0, g1, g2, g3, g4]) := Lib.hid (by
    intro k hk hm
    have h0 := HN0.out
    have h1 := HF0.out.size
    have h2 := HB5.out.lt
    simp only [List.mem_cons, List.not_mem_nil, or_false] at hm
    have e0 := HGE0.out
    have e1 := HGE1.out
    have e2 := HGE2.out
    have e3 := HGE3.out
    have e4 := HGE4.out
    rcases hm with h | h | h | h | h <;> omega)
  have HNS : Hid (¬ w.heap.size + 5 ∈ [g0, g1, g2, g3, g4]) := Lib.hid (HS2.out 5 (by decide))
  have HBS5 := Lib.hid (HB5.out.keep HU.out (by simp))
  refine wp_region_held_drew (S := Fr [g0, g1, g2, g3, g4] u4) (by kernel_rfl) (Fr.drew (Fr.refl _ u4)) (fun hHeld => ?_)
  have HG0 := Lib.hid (HG0.out.keep (Fr.drew (Fr.refl [] u4)) (by simp))
  have HG1 := Lib.hid (HG1.out.keep (Fr.drew (Fr.refl [] u4)) (by simp))
  have HG2 := Lib.hid (HG2.out.keep (Fr.drew (Fr.refl [] u4)) (by simp))
  have HG3 := Lib.hid (HG3.out.keep (Fr.drew (Fr.refl [] u4)) (by simp))
  have HG4 := Lib.hid (HG4.out.keep (Fr.drew (Fr.refl [] u4)) (by simp))
  have HUD : Hid (Fr [] w2 u4.drew) := Lib.hid (Fr.drew HU.out)
  generalize u4.drew = v0 at *
  refine row_at (i := 0) rfl (by kernel_rfl) (by rfl) _ _ rfl _ _ rfl _ (fun w1 hw1 => hw1.range (HBS5.out.range) (by first | (simp; done) | exact HNS.out | exact HNW.out | (intro hm; have hlt := HSB.out _ hm; (try dsimp only at hlt); omega))) (row_sig) (fun _ _ _ h => h) hHeld ?_
  simp only [Act.put, List.setIfInBounds_toArray, List.set_cons_zero, List.set_cons_succ]
  refine row_at (i := 1) rfl (by kernel_rfl) (by rfl) _ _ rfl _ _ rfl _ (fun w1 hw1 => hw1.range (HBS5.out.range) (by first | (simp; done) | exact HNS.out | exact HNW.out | (intro hm; have hlt := HSB.out _ hm; (try dsimp only at hlt); omega))) (row_sig) (fun _ _ _ h => h) hHeld ?_
  simp only [Act.put, List.setIfInBounds_toArray, List.set_cons_zero, List.set_cons_succ]
  refine row_at (i := 2) rfl (by kernel_rfl) (by rfl) _ _ rfl _ _ rfl _ (fun w1 hw1 => hw1.range (HBS5.out.range) (by first | (simp; done) | exact HNS.out | exact HNW.out | (intro hm; have hlt := HSB.out _ hm; (try dsimp only at hlt); omega))) (row_sig) (fun _ _ _ h => h) hHeld ?_
  simp only [Act.put, List.setIfInBounds_toArray, List.set_cons_zero, List.set_cons_succ]
  refine row_at (i := 3) rfl (by kernel_rfl) (by rfl) _ _ rfl _ _ rfl _ (fun w1 hw1 => hw1.range (HBS5.out.range) (by first | (simp; done) | exact HNS.out | exact HNW.out | (intro hm; have hlt := HSB.out _ hm; (try dsimp only at hlt); omega))) (row_sig) (fun _ _ _ h => h) hHeld ?_
  simp only [Act.put, List.setIfInBounds_toArray, List.set_cons_zero, List.set_cons_succ]
  refine row_at (i := 4) rfl (by kernel_rfl) (by rfl) _ _ rfl _ _ rfl _ (fun w1 hw1 => hw1.range (HBS5.out.range) (by first | (simp; done) | exact HNS.out | exact HNW.out | (intro hm; have hlt := HSB.out _ hm; (try dsimp only at hlt); omega))) (row_sig) (fun _ _ _ h => h) hHeld ?_
  simp only [Act.put, List.setIfInBounds_toArray, List.set_cons_zero, List.set_cons_succ]
  refine run_at (i := 5) (v := ?_) rfl (by kernel_rfl) (by rfl) (fun _ _ _ h => h) hHeld (fun w1 hw1 => ?_) ?_
  rotate_left 1
  · skip
    go_simp
    (try (first | with_reducible rfl | (apply And.intro <;> rfl)))
  simp only [Act.put, List.setIfInBounds_toArray, List.set_cons_zero, List.set_cons_succ]
  refine step_at (i := 6) rfl (by kernel_rfl) (by rfl) (fun K hK => ?_)
  refine wp_store_mid 54 _ _ rfl g0 36 #[.int .i64 b, .int .i64 m] rfl rfl (HG0.out.there 36 2 (by rw [List.size_toArray, HSL.out]; decide)) (by kernel_rfl) (by kernel_rfl) ?_
  have hb' := (HG0.out.set 36 (.int .i64 b)).set 37 (.int .i64 m)
  rw [Wst.sig_set s HS.out.h b m] at hb'
  have hf' : Fr [g0] v0 ((v0.setCell ⟨g0, 36, none⟩ (.int .i64 b)).setCell ⟨g0, 37, none⟩ (.int .i64 m)) := ((Fr.refl [g0] v0).setCell _ (fun _ => by simp) _).setCell _ (fun _ => by simp) _
  change K _ ((v0.setCell ⟨g0, 36, none⟩ (.int .i64 b)).setCell ⟨g0, 37, none⟩ (.int .i64 m))
  generalize (v0.setCell ⟨g0, 36, none⟩ (.int .i64 b)).setCell ⟨g0, 37, none⟩ (.int .i64 m) = v1 at *
  refine hK.out _ _ (hHeld.trans hf' (fun x hx _ => by rw [List.mem_singleton.1 hx]; simp)) (fun hHeld => ?_)
  clear hK K
  have HG1 := Lib.hid (HG1.out.apart HG0.out hf' (by decide))
  have HG2 := Lib.hid (HG2.out.apart HG0.out hf' (by decide))
  have HG3 := Lib.hid (HG3.out.apart HG0.out hf' (by decide))
  have HG4 := Lib.hid (HG4.out.apart HG0.out hf' (by decide))
  have HUD := Lib.hid (HUD.out.and hf' (by intro x hx; rw [List.mem_singleton.1 hx]; exact HGE0.out))
  have HG0 := Lib.hid hb'
  clear hb' hf'
  simp only [Act.put, List.setIfInBounds_toArray, List.set_cons_zero, List.set_cons_succ]
  refine run_at (i := 7) (v := ?_) rfl (by kernel_rfl) (by rfl) (fun _ _ _ h => h) hHeld (fun w1 hw1 => ?_) ?_
  rotate_left 1
  · skip
    go_simp
    (try (first | with_reducible rfl | (apply And.intro <;> rfl)))
  simp only [Act.put, List.setIfInBounds_toArray, List.set_cons_zero, List.set_cons_succ]
  refine step_at (i := 8) rfl (by kernel_rfl) (by rfl) (fun K hK => ?_)
  refine wp_store_mid 54 _ _ rfl g1 36 #[.int .i64 b, .int .i64 m] rfl rfl (HG1.out.there 36 2 (by rw [List.size_toArray, HAL.out]; decide)) (by kernel_rfl) (by kernel_rfl) ?_
  have hb' := (HG1.out.set 36 (.int .i64 b)).set 37 (.int .i64 m)
  rw [Wst.sig_set a HA.out.h b m] at hb'
  have hf' : Fr [g1] v1 ((v1.setCell ⟨g1, 36, none⟩ (.int .i64 b)).setCell ⟨g1, 37, none⟩ (.int .i64 m)) := ((Fr.refl [g1] v1).setCell _ (fun _ => by simp) _).setCell _ (fun _ => by simp) _
  change K _ ((v1.setCell ⟨g1, 36, none⟩ (.int .i64 b)).setCell ⟨g1, 37, none⟩ (.int .i64 m))
  generalize (v1.setCell ⟨g1, 36, none⟩ (.int .i64 b)).setCell ⟨g1, 37, none⟩ (.int .i64 m) = v2 at *
  refine hK.out _ _ (hHeld.trans hf' (fun x hx _ => by rw [List.mem_singleton.1 hx]; simp)) (fun hHeld => ?_)
  clear hK K
  have HG0 := Lib.hid (HG0.out.apart HG1.out hf' (by decide))
  have HG2 := Lib.hid (HG2.out.apart HG1.out hf' (by decide))
  have HG3 := Lib.hid (HG3.out.apart HG1.out hf' (by decide))
  have HG4 := Lib.hid (HG4.out.apart HG1.out hf' (by decide))
  have HUD := Lib.hid (HUD.out.and hf' (by intro x hx; rw [List.mem_singleton.1 hx]; exact HGE1.out))
  have HG1 := Lib.hid hb'
  clear hb' hf'
  simp only [Act.put, List.setIfInBounds_toArray, List.set_cons_zero, List.set_cons_succ]
  refine run_at (i := 9) (v := ?_) rfl (by kernel_rfl) (by rfl) (fun _ _ _ h => h) hHeld (fun w1 hw1 => ?_) ?_
  rotate_left 1
  · skip
    go_simp
    (try (first | with_reducible rfl | (apply And.intro <;> rfl)))
  simp only [Act.put, List.setIfInBounds_toArray, List.set_cons_zero, List.set_cons_succ]
  refine step_at (i := 10) rfl (by kernel_rfl) (by rfl) (fun K hK => ?_)
  refine wp_store_mid 54 _ _ rfl g2 4 #[.int .i64 b, .int .i64 m] rfl rfl (HG2.out.there 4 2 (by rw [List.size_toArray, HQL.out]; decide)) (by kernel_rfl) (by kernel_rfl) ?_
  have hb' := (HG2.out.set 4 (.int .i64 b)).set 5 (.int .i64 m)
  rw [HQSET.out] at hb'
  have hf' : Fr [g2] v2 ((v2.setCell ⟨g2, 4, none⟩ (.int .i64 b)).setCell ⟨g2, 5, none⟩ (.int .i64 m)) := ((Fr.refl [g2] v2).setCell _ (fun _ => by simp) _).setCell _ (fun _ => by simp) _
  change K _ ((v2.setCell ⟨g2, 4, none⟩ (.int .i64 b)).setCell ⟨g2, 5, none⟩ (.int .i64 m))
  generalize (v2.setCell ⟨g2, 4, none⟩ (.int .i64 b)).setCell ⟨g2, 5, none⟩ (.int .i64 m) = v3 at *
  refine hK.out _ _ (hHeld.trans hf' (fun x hx _ => by rw [List.mem_singleton.1 hx]; simp)) (fun hHeld => ?_)
  clear hK K
  have HG0 := Lib.hid (HG0.out.apart HG2.out hf' (by decide))
  have HG1 := Lib.hid (HG1.out.apart HG2.out hf' (by decide))
  have HG3 := Lib.hid (HG3.out.apart HG2.out hf' (by decide))
  have HG4 := Lib.hid (HG4.out.apart HG2.out hf' (by decide))
  have HUD := Lib.hid (HUD.out.and hf' (by intro x hx; rw [List.mem_singleton.1 hx]; exact HGE2.out))
  have HG2 := Lib.hid hb'
  clear hb' hf'
  simp only [Act.put, List.setIfInBounds_toArray, List.set_cons_zero, List.set_cons_succ]
  refine run_at (i := 11) (v := ?_) rfl (by kernel_rfl) (by rfl) (fun _ _ _ h => h) hHeld (fun w1 hw1 => ?_) ?_
  rotate_left 1
  · skip
    go_simp
    (try (first | with_reducible rfl | (apply And.intro <;> rfl)))
  simp only [Act.put, List.setIfInBounds_toArray, List.set_cons_zero, List.set_cons_succ]
  refine step_at (i := 12) rfl (by kernel_rfl) (by rfl) (fun K hK => ?_)
  refine wp_store_mid 54 _ _ rfl g3 2 #[.int .i64 b, .int .i64 m] rfl rfl (HG3.out.there 2 2 (by rw [List.size_toArray]; exact Nat.le_refl 4)) (by kernel_rfl) (by kernel_rfl) ?_
  have hb' := (HG3.out.set 2 (.int .i64 b)).set 3 (.int .i64 m)
  rw [Wdn.sig_set d b m] at hb'
  have hf' : Fr [g3] v3 ((v3.setCell ⟨g3, 2, none⟩ (.int .i64 b)).setCell ⟨g3, 3, none⟩ (.int .i64 m)) := ((Fr.refl [g3] v3).setCell _ (fun _ => by simp) _).setCell _ (fun _ => by simp) _
  change K _ ((v3.setCell ⟨g3, 2, none⟩ (.int .i64 b)).setCell ⟨g3, 3, none⟩ (.int .i64 m))
  generalize (v3.setCell ⟨g3, 2, none⟩ (.int .i64 b)).setCell ⟨g3, 3, none⟩ (.int .i64 m) = v4 at *
  refine hK.out _ _ (hHeld.trans hf' (fun x hx _ => by rw [List.mem_singleton.1 hx]; simp)) (fun hHeld => ?_)
  clear hK K
  have HG0 := Lib.hid (HG0.out.apart HG3.out hf' (by decide))
  have HG1 := Lib.hid (HG1.out.apart HG3.out hf' (by decide))
  have HG2 := Lib.hid (HG2.out.apart HG3.out hf' (by decide))
  have HG4 := Lib.hid (HG4.out.apart HG3.out hf' (by decide))
  have HUD := Lib.hid (HUD.out.and hf' (by intro x hx; rw [List.mem_singleton.1 hx]; exact HGE3.out))
  have HG3 := Lib.hid hb'
  clear hb' hf'
  simp only [Act.put, List.setIfInBounds_toArray, List.set_cons_zero, List.set_cons_succ]
  refine run_at (i := 13) (v := ?_) rfl (by kernel_rfl) (by rfl) (fun _ _ _ h => h) hHeld (fun w1 hw1 => ?_) ?_
  rotate_left 1
  · skip
    go_simp
    (try (first | with_reducible rfl | (apply And.intro <;> rfl)))
  simp only [Act.put, List.setIfInBounds_toArray, List.set_cons_zero, List.set_cons_succ]
  refine step_at (i := 14) rfl (by kernel_rfl) (by rfl) (fun K hK => ?_)
  refine wp_store_mid 54 _ _ rfl g4 36 #[.int .i64 b, .int .i64 m] rfl rfl (HG4.out.there 36 2 (by rw [List.size_toArray, HVL.out]; decide)) (by kernel_rfl) (by kernel_rfl) ?_
  have hb' := (HG4.out.set 36 (.int .i64 b)).set 37 (.int .i64 m)
  rw [Wvt.sig_set v HV.out.h b m] at hb'
  have hf' : Fr [g4] v4 ((v4.setCell ⟨g4, 36, none⟩ (.int .i64 b)).setCell ⟨g4, 37, none⟩ (.int .i64 m)) := ((Fr.refl [g4] v4).setCell _ (fun _ => by simp) _).setCell _ (fun _ => by simp) _
  change K _ ((v4.setCell ⟨g4, 36, none⟩ (.int .i64 b)).setCell ⟨g4, 37, none⟩ (.int .i64 m))
  generalize (v4.setCell ⟨g4, 36, none⟩ (.int .i64 b)).setCell ⟨g4, 37, none⟩ (.int .i64 m) = v5 at *
  refine hK.out _ _ (hHeld.trans hf' (fun x hx _ => by rw [List.mem_singleton.1 hx]; simp)) (fun hHeld => ?_)
  clear hK K
  have HG0 := Lib.hid (HG0.out.apart HG4.out hf' (by decide))
  have HG1 := Lib.hid (HG1.out.apart HG4.out hf' (by decide))
  have HG2 := Lib.hid (HG2.out.apart HG4.out hf' (by decide))
  have HG3 := Lib.hid (HG3.out.apart HG4.out hf' (by decide))
  have HUD := Lib.hid (HUD.out.and hf' (by intro x hx; rw [List.mem_singleton.1 hx]; exact HGE4.out))
  have HG4 := Lib.hid hb'
  clear hb' hf'
  simp only [Act.put, List.setIfInBounds_toArray, List.set_cons_zero, List.set_cons_succ]
  refine wpAnyH_done (by kernel_rfl) ?_ _
  clear HBS5 HNS HU hHeld
  have HB0 := Lib.hid (HB0.out.keep HUD.out (by simp))
  have HB1 := Lib.hid (HB1.out.keep HUD.out (by simp))
  have HB2 := Lib.hid (HB2.out.keep HUD.out (by simp))
  have HB3 := Lib.hid (HB3.out.keep HUD.out (by simp))
  have HB4 := Lib.hid (HB4.out.keep HUD.out (by simp))
  have HB5 := Lib.hid (HB5.out.keep HUD.out (by simp))
  have HQ2 : Hid (q.Ok v5 []) := Lib.hid (HQ2.out.keep HUD.out (by simp))
  have HK2 : Hid (KW v5) := Lib.hid (HK2.out.keep HUD.out (by simp))
  have HFA : Hid (Fr [] w v5) := Lib.hid (HFA.out.and HUD.out (by simp))
  clear HUD HGE0 HGE1 HGE2 HGE3 HGE4 HS2 HK HF0 HN0 HQS HQONE HQSET
  go_wp2_with (first
    | (refine wpList_builtg rfl 39 _ rfl _ _ built_ba0 rfl ?_)
    | (refine wpList_builtg rfl 85 _ rfl _ _ built_po0 rfl ?_)
    | (refine wpList_store_blk rfl 85 _ _ rfl v5.heap.size (po0 0 0).cells.toArray rfl rfl 85 _ (Blk.new v5 _ _) (by kernel_rfl) rfl (by kernel_rfl) ?_
       intro v6 hb6 hf6
       have HF56 : Hid (Fr [] v5 v6) := Lib.hid (((Fr.refl [] v5).alloc _).and hf6 (by simp)))
    | (refine wpList_load_row rfl 85 _ rfl v5.heap.size rfl 85 (po0 0 0).cells.toArray _ _ hb6 Tryd.underlying85 rfl (by kernel_rfl) ?_)
    | (refine wpList_store_blk rfl 85 _ _ rfl v6.heap.size (po0 0 0).cells.toArray rfl rfl 85 _ (Blk.new v6 _ _) (by kernel_rfl) rfl (by kernel_rfl) ?_
       intro v7 hb7 hf7
       have HF67 : Hid (Fr [] v6 v7) := Lib.hid (((Fr.refl [] v6).alloc _).and hf7 (by simp))
       have HB8 := Lib.hid ((blk_alloc hb6).keep hf7 (by have := hb6.lt; simp; omega))
       have HB57 := Lib.hid (HB5.out.keep (HF56.out.and HF67.out (by simp)) (by simp)))
    | (refine wpList_row rfl 54 _ rfl _ _ rfl _ HB57.out.range row_sig ?_)
    | (refine wpList_store_mid rfl 54 _ _ rfl v6.heap.size 9 #[.int .i64 b, .int .i64 m] rfl rfl (hb7.there 9 2 (by decide)) (by kernel_rfl) (by kernel_rfl) ?_))
  have hb8 := (hb7.set 9 (.int .i64 b)).set 10 (.int .i64 m)
  rw [show ((po0 0 0).cells.toArray.setIfInBounds 9 (.int .i64 b)).setIfInBounds 10 (.int .i64 m) = (po0 b m).cells.toArray from rfl] at hb8
  have hf8 : Fr [v6.heap.size] v7 ((v7.setCell ⟨v6.heap.size, 9, none⟩ (.int .i64 b)).setCell ⟨v6.heap.size, 10, none⟩ (.int .i64 m)) := ((Fr.refl [v6.heap.size] v7).setCell _ (fun _ => by simp) _).setCell _ (fun _ => by simp) _

  change Code.wp _ _ _ _ ((v7.setCell ⟨v6.heap.size, 9, none⟩ (.int .i64 b)).setCell ⟨v6.heap.size, 10, none⟩ (.int .i64 m))
  generalize (v7.setCell ⟨v6.heap.size, 9, none⟩ (.int .i64 b)).setCell ⟨v6.heap.size, 10, none⟩ (.int .i64 m) = v8 at *
  have HF58 : Hid (Fr [] v5 v8) := Lib.hid ((HF56.out.and HF67.out (by simp)).and hf8 (by have := HF56.out.size; simp; omega))
  have HP0 : Hid (Blk v8 v5.heap.size 85 (po0 0 0).cells.toArray) := Lib.hid (HB8.out.keep hf8 (by have := hb6.lt; simp; omega))
  have HP1 := Lib.hid hb8
  clear HB8 hb6 hb7 hb8 hf6 hf7 hf8 HF56 HF67 HB57 HB5

  have HB0 := Lib.hid (HB0.out.keep HF58.out (by simp))
  have HB1 := Lib.hid (HB1.out.keep HF58.out (by simp))
  have HB2 := Lib.hid (HB2.out.keep HF58.out (by simp))
  have HB3 := Lib.hid (HB3.out.keep HF58.out (by simp))
  have HB4 := Lib.hid (HB4.out.keep HF58.out (by simp))
  have HG0 := Lib.hid (HG0.out.keep HF58.out (by simp))
  have HG1 := Lib.hid (HG1.out.keep HF58.out (by simp))
  have HG2 := Lib.hid (HG2.out.keep HF58.out (by simp))
  have HG3 := Lib.hid (HG3.out.keep HF58.out (by simp))
  have HG4 := Lib.hid (HG4.out.keep HF58.out (by simp))
  have HQ2 : Hid (q.Ok v8 []) := Lib.hid (HQ2.out.keep HF58.out (by simp))
  have HK2 : Hid (KW v8) := Lib.hid (HK2.out.keep HF58.out (by simp))
  have HFA : Hid (Fr [] w v8) := Lib.hid (HFA.out.and HF58.out (by simp))
  clear HF58
  have HQ3 : Hid ((⟨q.r, q.e, q.t, q.A, q.n, q.d, q.l, b, m⟩ : Wpr).Ok v8 []) := Lib.hid ⟨HQ2.out.r, HQ2.out.e, HQ2.out.t, HQ2.out.l, HQ2.out.n, HQ2.out.ap, HBS.out, HMS.out⟩
  have HS3 : Hid ((⟨s.r, s.c, s.s, s.h, s.t, b, m⟩ : Wst).Ok) := Lib.hid ⟨HS.out.r, HS.out.c, HS.out.s, HS.out.h, HS.out.t, HBS.out, HMS.out⟩
  have HA3 : Hid ((⟨a.r, a.c, a.s, a.h, a.t, b, m⟩ : Wst).Ok) := Lib.hid ⟨HA.out.r, HA.out.c, HA.out.s, HA.out.h, HA.out.t, HBS.out, HMS.out⟩
  have HD3 : Hid ((⟨d.r, d.i, b, m⟩ : Wdn).Ok) := Lib.hid ⟨HD.out.r, HD.out.i, HBS.out, HMS.out⟩
  have HV3 : Hid ((⟨v.k, v.e, v.r, v.p, v.h, b, m⟩ : Wvt).Ok) := Lib.hid ⟨HV.out.k, HV.out.e, HV.out.r, HV.out.p, HV.out.h, HBS.out, HMS.out⟩
  refine wp_region_held_drew (S := Fr [] v8) (by kernel_rfl) (Fr.drew (Fr.refl _ v8)) (fun hHeld => ?_)
  generalize v8.drew = x0 at *

  refine row_at (i := 0) rfl (by kernel_rfl) (by rfl) _ _ rfl _ _ rfl _ (fun w1 hw1 => hw1.range (HB0.out.range) (by first | (simp; done) | exact HNS.out | exact HNW.out | (intro hm; have hlt := HSB.out _ hm; (try dsimp only at hlt); omega))) (row_stamp.of HSL.out) (fun _ _ _ h => h) hHeld ?_
  simp only [Act.put, List.setIfInBounds_toArray, List.set_cons_zero, List.set_cons_succ]
  refine row_at (i := 2) rfl (by kernel_rfl) (by rfl) _ _ rfl _ _ rfl _ (fun w1 hw1 => hw1.range (HG0.out.range) (by first | (simp; done) | exact HNS.out | exact HNW.out | (intro hm; have hlt := HSB.out _ hm; (try dsimp only at hlt); omega))) (row_stamp.of (Wst.len HS3.out.h)) (fun _ _ _ h => h) hHeld ?_
  simp only [Act.put, List.setIfInBounds_toArray, List.set_cons_zero, List.set_cons_succ]
  refine call_at (i := 1) (f := ?_) (args := ?_) rfl (by kernel_rfl) (by rfl) ?_ ?_
  rotate_left 2
  · go_simp
    (try (first | with_reducible rfl | (apply And.intro <;> rfl)))
  refine (stampText_any s HS.out x0).mono ?_
  rintro e_ x1 ⟨A0, c0, rfl, hn⟩
  have HY0 := Lib.hid hn.by
  refine ⟨_, rfl, hHeld.and hn.2.1 (by simp), fun hHeld => ?_⟩
  clear hn
  simp only [Act.put, List.setIfInBounds_toArray, List.set_cons_zero, List.set_cons_succ]
  refine call_at (i := 3) (f := ?_) (args := ?_) rfl (by kernel_rfl) (by rfl) ?_ ?_
  rotate_left 2
  · go_simp
    (try (first | with_reducible rfl | (apply And.intro <;> rfl)))
  refine (stampText_any ⟨s.r, s.c, s.s, s.h, s.t, b, m⟩ HS3.out x1).mono ?_
  rintro e_ x2 ⟨A1, c1, rfl, hn⟩
  rw [show Wst.text ⟨s.r, s.c, s.s, s.h, s.t, b, m⟩ = s.text from rfl] at hn ⊢
  have HY1 := Lib.hid hn.by
  have HY0 := Lib.hid (HY0.out.keep hn.2.1 (by simp))
  refine ⟨_, rfl, hHeld.and hn.2.1 (by simp), fun hHeld => ?_⟩
  clear hn
  simp only [Act.put, List.setIfInBounds_toArray, List.set_cons_zero, List.set_cons_succ]
  have hsm := same_any A0 A1 _ _ c0 c1 (s.text) (s.text) x2 HY0.out HY1.out (by have := Wst.text_len HS.out; omega)
  rw [show decide (s.text = s.text) = true from decide_eq_true rfl] at hsm
  refine call_at (i := 4) (f := ?_) (args := ?_) rfl (by kernel_rfl) (by rfl) ?_ ?_
  rotate_left 2
  · go_simp
    (try (first | with_reducible rfl | (apply And.intro <;> rfl)))
  refine hsm.mono ?_
  rintro e_ x3 ⟨rfl, kk, hx⟩
  have hHeld' := hHeld.drewN kk
  rw [← hx] at hHeld'
  clear hsm hx HY0 HY1
  refine ⟨_, rfl, hHeld', fun hHeld => ?_⟩
  clear hHeld'
  simp only [Act.put, List.setIfInBounds_toArray, List.set_cons_zero, List.set_cons_succ]
  refine run_at (i := 5) (v := ?_) rfl (by kernel_rfl) (by rfl) (fun _ _ _ h => h) hHeld (fun w1 hw1 => ?_) ?_
  rotate_left 1
  · skip
    go_simp
    (try (first | with_reducible rfl | (apply And.intro <;> rfl)))
  simp only [Act.put, List.setIfInBounds_toArray, List.set_cons_zero, List.set_cons_succ]
  refine row_at (i := 6) rfl (by kernel_rfl) (by rfl) _ _ rfl _ _ rfl _ (fun w1 hw1 => hw1.range (HB1.out.range) (by first | (simp; done) | exact HNS.out | exact HNW.out | (intro hm; have hlt := HSB.out _ hm; (try dsimp only at hlt); omega))) (row_ack.of HAL.out) (fun _ _ _ h => h) hHeld ?_
  simp only [Act.put, List.setIfInBounds_toArray, List.set_cons_zero, List.set_cons_succ]
  refine row_at (i := 8) rfl (by kernel_rfl) (by rfl) _ _ rfl _ _ rfl _ (fun w1 hw1 => hw1.range (HG1.out.range) (by first | (simp; done) | exact HNS.out | exact HNW.out | (intro hm; have hlt := HSB.out _ hm; (try dsimp only at hlt); omega))) (row_ack.of (Wst.len HA3.out.h)) (fun _ _ _ h => h) hHeld ?_
  simp only [Act.put, List.setIfInBounds_toArray, List.set_cons_zero, List.set_cons_succ]
  refine call_at (i := 7) (f := ?_) (args := ?_) rfl (by kernel_rfl) (by rfl) ?_ ?_
  rotate_left 2
  · go_simp
    (try (first | with_reducible rfl | (apply And.intro <;> rfl)))
  refine (ackText_any a HA.out x3).mono ?_
  rintro e_ x4 ⟨A0, c0, rfl, hn⟩
  have HY0 := Lib.hid hn.by
  refine ⟨_, rfl, hHeld.and hn.2.1 (by simp), fun hHeld => ?_⟩
  clear hn
  simp only [Act.put, List.setIfInBounds_toArray, List.set_cons_zero, List.set_cons_succ]
  refine call_at (i := 9) (f := ?_) (args := ?_) rfl (by kernel_rfl) (by rfl) ?_ ?_
  rotate_left 2
  · go_simp
    (try (first | with_reducible rfl | (apply And.intro <;> rfl)))
  refine (ackText_any ⟨a.r, a.c, a.s, a.h, a.t, b, m⟩ HA3.out x4).mono ?_
  rintro e_ x5 ⟨A1, c1, rfl, hn⟩
  rw [show Wst.ack ⟨a.r, a.c, a.s, a.h, a.t, b, m⟩ = a.ack from rfl] at hn ⊢
  have HY1 := Lib.hid hn.by
  have HY0 := Lib.hid (HY0.out.keep hn.2.1 (by simp))
  refine ⟨_, rfl, hHeld.and hn.2.1 (by simp), fun hHeld => ?_⟩
  clear hn
  simp only [Act.put, List.setIfInBounds_toArray, List.set_cons_zero, List.set_cons_succ]
  have hsm := same_any A0 A1 _ _ c0 c1 (a.ack) (a.ack) x5 HY0.out HY1.out (by have := Wst.ack_len HA.out; omega)
  rw [show decide (a.ack = a.ack) = true from decide_eq_true rfl] at hsm
  refine call_at (i := 10) (f := ?_) (args := ?_) rfl (by kernel_rfl) (by rfl) ?_ ?_
  rotate_left 2
  · go_simp
    (try (first | with_reducible rfl | (apply And.intro <;> rfl)))
  refine hsm.mono ?_
  rintro e_ x6 ⟨rfl, kk, hx⟩
  have hHeld' := hHeld.drewN kk
  rw [← hx] at hHeld'
  clear hsm hx HY0 HY1
  refine ⟨_, rfl, hHeld', fun hHeld => ?_⟩
  clear hHeld'
  simp only [Act.put, List.setIfInBounds_toArray, List.set_cons_zero, List.set_cons_succ]
  refine run_at (i := 11) (v := ?_) rfl (by kernel_rfl) (by rfl) (fun _ _ _ h => h) hHeld (fun w1 hw1 => ?_) ?_
  rotate_left 1
  · skip
    go_simp
    (try (first | with_reducible rfl | (apply And.intro <;> rfl)))
  simp only [Act.put, List.setIfInBounds_toArray, List.set_cons_zero, List.set_cons_succ]
  refine run_at (i := 12) (v := ?_) rfl (by kernel_rfl) (by rfl) (fun _ _ _ h => h) hHeld (fun w1 hw1 => ?_) ?_
  rotate_left 1
  · skip
    go_simp
    (try (first | with_reducible rfl | (apply And.intro <;> rfl)))
  simp only [Act.put, List.setIfInBounds_toArray, List.set_cons_zero, List.set_cons_succ]
  refine row_at (i := 13) rfl (by kernel_rfl) (by rfl) _ _ rfl _ _ rfl _ (fun w1 hw1 => hw1.range (HB2.out.range) (by first | (simp; done) | exact HNS.out | exact HNW.out | (intro hm; have hlt := HSB.out _ hm; (try dsimp only at hlt); omega))) (row_prm.of HQL.out) (fun _ _ _ h => h) hHeld ?_
  simp only [Act.put, List.setIfInBounds_toArray, List.set_cons_zero, List.set_cons_succ]
  refine row_at (i := 15) rfl (by kernel_rfl) (by rfl) _ _ rfl _ _ rfl _ (fun w1 hw1 => hw1.range (HG2.out.range) (by first | (simp; done) | exact HNS.out | exact HNW.out | (intro hm; have hlt := HSB.out _ hm; (try dsimp only at hlt); omega))) (row_prm.of (Wpr.len ⟨q.r, q.e, q.t, q.A, q.n, q.d, q.l, b, m⟩)) (fun _ _ _ h => h) hHeld ?_
  simp only [Act.put, List.setIfInBounds_toArray, List.set_cons_zero, List.set_cons_succ]
  refine call_at (i := 14) (f := ?_) (args := ?_) rfl (by kernel_rfl) (by rfl) ?_ ?_
  rotate_left 2
  · go_simp
    (try (first | with_reducible rfl | (apply And.intro <;> rfl)))
  have hpt := promiseText_any q x6 (HQ2.out.keep hHeld (by simp))
  unfold Wpr.val at hpt
  rw [HQC.out] at hpt
  refine hpt.mono ?_
  clear hpt
  rintro e_ x7 ⟨A0, c0, rfl, hn⟩
  have HY0 := Lib.hid hn.by
  refine ⟨_, rfl, hHeld.and hn.2.1 (by simp), fun hHeld => ?_⟩
  clear hn
  simp only [Act.put, List.setIfInBounds_toArray, List.set_cons_zero, List.set_cons_succ]
  refine call_at (i := 16) (f := ?_) (args := ?_) rfl (by kernel_rfl) (by rfl) ?_ ?_
  rotate_left 2
  · go_simp
    (try (first | with_reducible rfl | (apply And.intro <;> rfl)))
  refine (promiseText_any ⟨q.r, q.e, q.t, q.A, q.n, q.d, q.l, b, m⟩ x7 (HQ3.out.keep hHeld (by simp))).mono ?_
  rintro e_ x8 ⟨A1, c1, rfl, hn⟩
  rw [show Wpr.text ⟨q.r, q.e, q.t, q.A, q.n, q.d, q.l, b, m⟩ = q.text from rfl] at hn ⊢
  have HY1 := Lib.hid hn.by
  have HY0 := Lib.hid (HY0.out.keep hn.2.1 (by simp))
  refine ⟨_, rfl, hHeld.and hn.2.1 (by simp), fun hHeld => ?_⟩
  clear hn
  simp only [Act.put, List.setIfInBounds_toArray, List.set_cons_zero, List.set_cons_succ]
  have hsm := same_any A0 A1 _ _ c0 c1 (q.text) (q.text) x8 HY0.out HY1.out (by have := Wpr.text_len HQ2.out; omega)
  rw [show decide (q.text = q.text) = true from decide_eq_true rfl] at hsm
  refine call_at (i := 17) (f := ?_) (args := ?_) rfl (by kernel_rfl) (by rfl) ?_ ?_
  rotate_left 2
  · go_simp
    (try (first | with_reducible rfl | (apply And.intro <;> rfl)))
  refine hsm.mono ?_
  rintro e_ x9 ⟨rfl, kk, hx⟩
  have hHeld' := hHeld.drewN kk
  rw [← hx] at hHeld'
  clear hsm hx HY0 HY1
  refine ⟨_, rfl, hHeld', fun hHeld => ?_⟩
  clear hHeld'
  simp only [Act.put, List.setIfInBounds_toArray, List.set_cons_zero, List.set_cons_succ]
  refine run_at (i := 18) (v := ?_) rfl (by kernel_rfl) (by rfl) (fun _ _ _ h => h) hHeld (fun w1 hw1 => ?_) ?_
  rotate_left 1
  · skip
    go_simp
    (try (first | with_reducible rfl | (apply And.intro <;> rfl)))
  simp only [Act.put, List.setIfInBounds_toArray, List.set_cons_zero, List.set_cons_succ]
  refine run_at (i := 19) (v := ?_) rfl (by kernel_rfl) (by rfl) (fun _ _ _ h => h) hHeld (fun w1 hw1 => ?_) ?_
  rotate_left 1
  · skip
    go_simp
    (try (first | with_reducible rfl | (apply And.intro <;> rfl)))
  simp only [Act.put, List.setIfInBounds_toArray, List.set_cons_zero, List.set_cons_succ]
  refine row_at (i := 20) rfl (by kernel_rfl) (by rfl) _ _ rfl _ _ rfl _ (fun w1 hw1 => hw1.range (HB3.out.range) (by first | (simp; done) | exact HNS.out | exact HNW.out | (intro hm; have hlt := HSB.out _ hm; (try dsimp only at hlt); omega))) (row_deny) (fun _ _ _ h => h) hHeld ?_
  simp only [Act.put, List.setIfInBounds_toArray, List.set_cons_zero, List.set_cons_succ]
  refine row_at (i := 22) rfl (by kernel_rfl) (by rfl) _ _ rfl _ _ rfl _ (fun w1 hw1 => hw1.range (HG3.out.range) (by first | (simp; done) | exact HNS.out | exact HNW.out | (intro hm; have hlt := HSB.out _ hm; (try dsimp only at hlt); omega))) (row_deny) (fun _ _ _ h => h) hHeld ?_
  simp only [Act.put, List.setIfInBounds_toArray, List.set_cons_zero, List.set_cons_succ]
  refine call_at (i := 21) (f := ?_) (args := ?_) rfl (by kernel_rfl) (by rfl) ?_ ?_
  rotate_left 2
  · go_simp
    (try (first | with_reducible rfl | (apply And.intro <;> rfl)))
  refine (denyText_any d HD.out x9).mono ?_
  rintro e_ x10 ⟨A0, c0, rfl, hn⟩
  have HY0 := Lib.hid hn.by
  refine ⟨_, rfl, hHeld.and hn.2.1 (by simp), fun hHeld => ?_⟩
  clear hn
  simp only [Act.put, List.setIfInBounds_toArray, List.set_cons_zero, List.set_cons_succ]
  refine call_at (i := 23) (f := ?_) (args := ?_) rfl (by kernel_rfl) (by rfl) ?_ ?_
  rotate_left 2
  · go_simp
    (try (first | with_reducible rfl | (apply And.intro <;> rfl)))
  refine (denyText_any ⟨d.r, d.i, b, m⟩ HD3.out x10).mono ?_
  rintro e_ x11 ⟨A1, c1, rfl, hn⟩
  rw [show Wdn.text ⟨d.r, d.i, b, m⟩ = d.text from rfl] at hn ⊢
  have HY1 := Lib.hid hn.by
  have HY0 := Lib.hid (HY0.out.keep hn.2.1 (by simp))
  refine ⟨_, rfl, hHeld.and hn.2.1 (by simp), fun hHeld => ?_⟩
  clear hn
  simp only [Act.put, List.setIfInBounds_toArray, List.set_cons_zero, List.set_cons_succ]
  have hsm := same_any A0 A1 _ _ c0 c1 (d.text) (d.text) x11 HY0.out HY1.out (by have := Wdn.text_len HD.out; omega)
  rw [show decide (d.text = d.text) = true from decide_eq_true rfl] at hsm
  refine call_at (i := 24) (f := ?_) (args := ?_) rfl (by kernel_rfl) (by rfl) ?_ ?_
  rotate_left 2
  · go_simp
    (try (first | with_reducible rfl | (apply And.intro <;> rfl)))
  refine hsm.mono ?_
  rintro e_ x12 ⟨rfl, kk, hx⟩
  have hHeld' := hHeld.drewN kk
  rw [← hx] at hHeld'
  clear hsm hx HY0 HY1
  refine ⟨_, rfl, hHeld', fun hHeld => ?_⟩
  clear hHeld'
  simp only [Act.put, List.setIfInBounds_toArray, List.set_cons_zero, List.set_cons_succ]
  refine run_at (i := 25) (v := ?_) rfl (by kernel_rfl) (by rfl) (fun _ _ _ h => h) hHeld (fun w1 hw1 => ?_) ?_
  rotate_left 1
  · skip
    go_simp
    (try (first | with_reducible rfl | (apply And.intro <;> rfl)))
  simp only [Act.put, List.setIfInBounds_toArray, List.set_cons_zero, List.set_cons_succ]
  refine run_at (i := 26) (v := ?_) rfl (by kernel_rfl) (by rfl) (fun _ _ _ h => h) hHeld (fun w1 hw1 => ?_) ?_
  rotate_left 1
  · skip
    go_simp
    (try (first | with_reducible rfl | (apply And.intro <;> rfl)))
  simp only [Act.put, List.setIfInBounds_toArray, List.set_cons_zero, List.set_cons_succ]
  refine row_at (i := 27) rfl (by kernel_rfl) (by rfl) _ _ rfl _ _ rfl _ (fun w1 hw1 => hw1.range (HB4.out.range) (by first | (simp; done) | exact HNS.out | exact HNW.out | (intro hm; have hlt := HSB.out _ hm; (try dsimp only at hlt); omega))) (row_vote.of HVL.out) (fun _ _ _ h => h) hHeld ?_
  simp only [Act.put, List.setIfInBounds_toArray, List.set_cons_zero, List.set_cons_succ]
  refine row_at (i := 29) rfl (by kernel_rfl) (by rfl) _ _ rfl _ _ rfl _ (fun w1 hw1 => hw1.range (HG4.out.range) (by first | (simp; done) | exact HNS.out | exact HNW.out | (intro hm; have hlt := HSB.out _ hm; (try dsimp only at hlt); omega))) (row_vote.of (Wvt.len HV3.out.h)) (fun _ _ _ h => h) hHeld ?_
  simp only [Act.put, List.setIfInBounds_toArray, List.set_cons_zero, List.set_cons_succ]
  refine call_at (i := 28) (f := ?_) (args := ?_) rfl (by kernel_rfl) (by rfl) ?_ ?_
  rotate_left 2
  · go_simp
    (try (first | with_reducible rfl | (apply And.intro <;> rfl)))
  refine (voteText_any v HV.out x12).mono ?_
  rintro e_ x13 ⟨A0, c0, rfl, hn⟩
  have HY0 := Lib.hid hn.by
  refine ⟨_, rfl, hHeld.and hn.2.1 (by simp), fun hHeld => ?_⟩
  clear hn
  simp only [Act.put, List.setIfInBounds_toArray, List.set_cons_zero, List.set_cons_succ]
  refine call_at (i := 30) (f := ?_) (args := ?_) rfl (by kernel_rfl) (by rfl) ?_ ?_
  rotate_left 2
  · go_simp
    (try (first | with_reducible rfl | (apply And.intro <;> rfl)))
  refine (voteText_any ⟨v.k, v.e, v.r, v.p, v.h, b, m⟩ HV3.out x13).mono ?_
  rintro e_ x14 ⟨A1, c1, rfl, hn⟩
  rw [show Wvt.text ⟨v.k, v.e, v.r, v.p, v.h, b, m⟩ = v.text from rfl] at hn ⊢
  have HY1 := Lib.hid hn.by
  have HY0 := Lib.hid (HY0.out.keep hn.2.1 (by simp))
  refine ⟨_, rfl, hHeld.and hn.2.1 (by simp), fun hHeld => ?_⟩
  clear hn
  simp only [Act.put, List.setIfInBounds_toArray, List.set_cons_zero, List.set_cons_succ]
  have hsm := same_any A0 A1 _ _ c0 c1 (v.text) (v.text) x14 HY0.out HY1.out (by have := Wvt.text_len HV.out; omega)
  rw [show decide (v.text = v.text) = true from decide_eq_true rfl] at hsm
  refine call_at (i := 31) (f := ?_) (args := ?_) rfl (by kernel_rfl) (by rfl) ?_ ?_
  rotate_left 2
  · go_simp
    (try (first | with_reducible rfl | (apply And.intro <;> rfl)))
  refine hsm.mono ?_
  rintro e_ x15 ⟨rfl, kk, hx⟩
  have hHeld' := hHeld.drewN kk
  rw [← hx] at hHeld'
  clear hsm hx HY0 HY1
  refine ⟨_, rfl, hHeld', fun hHeld => ?_⟩
  clear hHeld'
  simp only [Act.put, List.setIfInBounds_toArray, List.set_cons_zero, List.set_cons_succ]
  refine run_at (i := 32) (v := ?_) rfl (by kernel_rfl) (by rfl) (fun _ _ _ h => h) hHeld (fun w1 hw1 => ?_) ?_
  rotate_left 1
  · skip
    go_simp
    (try (first | with_reducible rfl | (apply And.intro <;> rfl)))
  simp only [Act.put, List.setIfInBounds_toArray, List.set_cons_zero, List.set_cons_succ]
  refine run_at (i := 33) (v := ?_) rfl (by kernel_rfl) (by rfl) (fun _ _ _ h => h) hHeld (fun w1 hw1 => ?_) ?_
  rotate_left 1
  · skip
    go_simp
    (try (first | with_reducible rfl | (apply And.intro <;> rfl)))
  simp only [Act.put, List.setIfInBounds_toArray, List.set_cons_zero, List.set_cons_succ]
  refine row_at (i := 34) rfl (by kernel_rfl) (by rfl) _ _ rfl _ _ rfl _ (fun w1 hw1 => hw1.range (HP0.out.range) (by first | (simp; done) | exact HNS.out | exact HNW.out | (intro hm; have hlt := HSB.out _ hm; (try dsimp only at hlt); omega))) (row_prop) (fun _ _ _ h => h) hHeld ?_
  simp only [Act.put, List.setIfInBounds_toArray, List.set_cons_zero, List.set_cons_succ]
  refine row_at (i := 36) rfl (by kernel_rfl) (by rfl) _ _ rfl _ _ rfl _ (fun w1 hw1 => hw1.range (HP1.out.range) (by first | (simp; done) | exact HNS.out | exact HNW.out | (intro hm; have hlt := HSB.out _ hm; (try dsimp only at hlt); omega))) (row_prop) (fun _ _ _ h => h) hHeld ?_
  simp only [Act.put, List.setIfInBounds_toArray, List.set_cons_zero, List.set_cons_succ]
  refine call_at (i := 35) (f := ?_) (args := ?_) rfl (by kernel_rfl) (by rfl) ?_ ?_
  rotate_left 2
  · go_simp
    (try (first | with_reducible rfl | (apply And.intro <;> rfl)))
  refine (proposalText_any (po0 0 0) x15 (po0_ok 0 0 ⟨by decide, by decide⟩ ⟨by decide, by decide⟩ _) (HK2.out.keep hHeld (by simp))).mono ?_
  rintro e_ x16 ⟨A0, c0, rfl, hn⟩
  have HY0 := Lib.hid hn.by
  refine ⟨_, rfl, hHeld.and hn.2.1 (by simp), fun hHeld => ?_⟩
  clear hn
  simp only [Act.put, List.setIfInBounds_toArray, List.set_cons_zero, List.set_cons_succ]
  refine call_at (i := 37) (f := ?_) (args := ?_) rfl (by kernel_rfl) (by rfl) ?_ ?_
  rotate_left 2
  · go_simp
    (try (first | with_reducible rfl | (apply And.intro <;> rfl)))
  refine (proposalText_any (po0 b m) x16 (po0_ok b m HBS.out HMS.out _) (HK2.out.keep hHeld (by simp))).mono ?_
  rintro e_ x17 ⟨A1, c1, rfl, hn⟩
  rw [show (po0 b m).text = (po0 0 0).text from rfl] at hn ⊢
  have HY1 := Lib.hid hn.by
  have HY0 := Lib.hid (HY0.out.keep hn.2.1 (by simp))
  refine ⟨_, rfl, hHeld.and hn.2.1 (by simp), fun hHeld => ?_⟩
  clear hn
  simp only [Act.put, List.setIfInBounds_toArray, List.set_cons_zero, List.set_cons_succ]
  have hsm := same_any A0 A1 _ _ c0 c1 ((po0 0 0).text) ((po0 0 0).text) x17 HY0.out HY1.out (by have := po0_len; omega)
  rw [show decide ((po0 0 0).text = (po0 0 0).text) = true from decide_eq_true rfl] at hsm
  refine call_at (i := 38) (f := ?_) (args := ?_) rfl (by kernel_rfl) (by rfl) ?_ ?_
  rotate_left 2
  · go_simp
    (try (first | with_reducible rfl | (apply And.intro <;> rfl)))
  refine hsm.mono ?_
  rintro e_ x18 ⟨rfl, kk, hx⟩
  have hHeld' := hHeld.drewN kk
  rw [← hx] at hHeld'
  clear hsm hx HY0 HY1
  refine ⟨_, rfl, hHeld', fun hHeld => ?_⟩
  clear hHeld'
  simp only [Act.put, List.setIfInBounds_toArray, List.set_cons_zero, List.set_cons_succ]
  refine run_at (i := 39) (v := ?_) rfl (by kernel_rfl) (by rfl) (fun _ _ _ h => h) hHeld (fun w1 hw1 => ?_) ?_
  rotate_left 1
  · skip
    go_simp
    (try (first | with_reducible rfl | (apply And.intro <;> rfl)))
  simp only [Act.put, List.setIfInBounds_toArray, List.set_cons_zero, List.set_cons_succ]
  refine run_at (i := 40) (v := ?_) rfl (by kernel_rfl) (by rfl) (fun _ _ _ h => h) hHeld (fun w1 hw1 => ?_) ?_
  rotate_left 1
  · skip
    go_simp
    (try (first | with_reducible rfl | (apply And.intro <;> rfl)))
  simp only [Act.put, List.setIfInBounds_toArray, List.set_cons_zero, List.set_cons_succ]
  refine call_at (i := 41) (f := ?_) (args := ?_) rfl (by kernel_rfl) (by rfl) ?_ ?_
  rotate_left 2
  · go_simp
    (try (first | with_reducible rfl | (apply And.intro <;> rfl)))
  refine (wwakes_any _).mono ?_
  rintro e_ wv ⟨rfl, hfv⟩
  refine ⟨_, rfl, hHeld.and hfv (by simp), fun hHeld => ?_⟩
  simp only [Act.put, List.setIfInBounds_toArray, List.set_cons_zero, List.set_cons_succ]
  refine run_at (i := 42) (v := ?_) rfl (by kernel_rfl) (by rfl) (fun _ _ _ h => h) hHeld (fun w1 hw1 => ?_) ?_
  rotate_left 1
  · skip
    go_simp
    (try (first | with_reducible rfl | (apply And.intro <;> rfl)))
  simp only [Act.put, List.setIfInBounds_toArray, List.set_cons_zero, List.set_cons_succ]
  refine run_at (i := 43) (v := ?_) rfl (by kernel_rfl) (by rfl) (fun _ _ _ h => h) hHeld (fun w1 hw1 => ?_) ?_
  rotate_left 1
  · skip
    go_simp
    (try (first | with_reducible rfl | (apply And.intro <;> rfl)))
  simp only [Act.put, List.setIfInBounds_toArray, List.set_cons_zero, List.set_cons_succ]
  refine wpAnyH_done (by kernel_rfl) ?_ _
  go_wp2
  go_ret
  exact ⟨rfl, HFA.out.and hHeld (by simp)⟩
theorem wireUnsigned_walk (w : World) (s : Wst) (hs : s.Ok) (a : Wst) (ha : a.Ok) (p : Wpr) (hp : p.In w) (d : Wdn) (hd : d.Ok) (v : Wvt) (hv : v.Ok) (b m : Int) (hb : i64In b) (hm : i64In m) (hK : KW w) :
    Calls Tryd.prog 7 #[s.val, a.val, p.val, d.val, v.val, .agg #[.int .i64 b, .int .i64 m]] w fun e w' => e = .returned (.bool true) ∧ Fr [] w w' :=
  wireUnsigned_walk0 s a p d v b m w hs ha hp hd hv hb hm hK
end Go.Proofs.YtdgbcdmooklciaaDoor

namespace Go.Proofs.YtdgbcdmooklciaaDoor
open Go.ChangeShapes Go.WideShapes Go.ChangeAt Go.RowKit
set_option maxRecDepth 100000
theorem promise_open {H : Type} {enc : TypeId × Value → H} {W : World} {r : Reach} {base b0 : Nat} {v : Value} {d : DataW H} {p : List MemPlace} {sp : Nat → Bool} {held : Bool} (hv : Value.okWide Tryd.prog W r base 62 v) (h : DataW.Trod enc Tryd.prog W b0 sp held 62 v d p) (hb : b0 = 0) :
    ∃ x : Wpr, x.In W ∧ v = x.val := by
  subst hb
  unfold Value.okWide at hv
  rw [Tryd.underlying62] at hv
  obtain ⟨cs, rfl, -⟩ := hv
  obtain ⟨fuel, hf⟩ := h
  obtain ⟨x, hx, e⟩ := promise_of_trod (show DataW.trod enc Tryd.prog W 0 sp held fuel 62 cs.toList = some (d, p) from hf)
  exact ⟨x, hx, by show Value.agg cs = Value.agg _; rw [← e, Array.toArray_toList]⟩
theorem cert_open {H : Type} {enc : TypeId × Value → H} {W : World} {r : Reach} {base b0 : Nat} {v : Value} {d : DataW H} {p : List MemPlace} {sp : Nat → Bool} {held : Bool} (hv : Value.okWide Tryd.prog W r base 59 v) (h : DataW.Trod enc Tryd.prog W b0 sp held 59 v d p) (hb : b0 = 0) :
    ∃ x : Wce, x.In W ∧ v = x.val := by
  subst hb
  unfold Value.okWide at hv
  rw [Tryd.underlying59] at hv
  obtain ⟨cs, rfl, -⟩ := hv
  obtain ⟨fuel, hf⟩ := h
  obtain ⟨x, hx, e⟩ := cert_of_trod (show DataW.trod enc Tryd.prog W 0 sp held fuel 59 cs.toList = some (d, p) from hf)
  exact ⟨x, hx, by show Value.agg cs = Value.agg _; rw [← e, Array.toArray_toList]⟩
theorem sig_open {H : Type} {enc : TypeId × Value → H} {W : World} {r : Reach} {base b0 : Nat} {v : Value} {d : DataW H} {p : List MemPlace} {sp : Nat → Bool} {held : Bool} (hv : Value.okWide Tryd.prog W r base 54 v) (h : DataW.Trod enc Tryd.prog W b0 sp held 54 v d p) (hb : b0 = 0) :
    ∃ c s : Int, i64In c ∧ i64In s ∧ v = .agg #[.int .i64 c, .int .i64 s] := by
  subst hb
  unfold Value.okWide at hv
  rw [Tryd.underlying54] at hv
  obtain ⟨cs, rfl, -⟩ := hv
  obtain ⟨fuel, hf⟩ := h
  obtain ⟨c, s, h1, h2, e⟩ := pair_of_trod Tryd.underlying54 ⟨rfl, rfl⟩ ⟨rfl, rfl⟩ (by kernel_rfl) (show DataW.trod enc Tryd.prog W 0 sp held fuel 54 cs.toList = some (d, p) from hf)
  exact ⟨c, s, h1, h2, by rw [← Array.toArray_toList (xs := cs), e]⟩
end Go.Proofs.YtdgbcdmooklciaaDoor

namespace Go.Proofs.YtdgbcdmooklciaaDoor
set_option maxRecDepth 100000
open Go.RowKit

set_option maxRecDepth 100000 in
set_option maxHeartbeats 1000000 in
theorem shawakes_any (w : World) (hK : KW w) : Calls Tryd.prog 14 #[] w fun e w' => e = .returned (.bool true) ∧ Fr [] w w' := by
  obtain ⟨rest, hrest⟩ : ∃ rest, sumL [] = 227 :: 176 :: 196 :: 66 :: rest := by
    have h := wakesum
    have hl := sumL_len []
    match hs : sumL [], h, hl with
    | a :: b :: c :: d :: r, h, _ =>
      simp at h
      obtain ⟨rfl, rfl, rfl, rfl⟩ := h
      exact ⟨r, rfl⟩
    | [], _, h => simp at h
    | [_], _, h => simp at h
    | [_, _], _, h => simp at h
    | [_, _, _], _, h => simp at h
  have HR := Lib.hid hrest
  have hlen := sumL_len []
  have hs := sum_any none 0 0 [] w (By.nil w none) (Nat.le_refl _) (by omega) hK
  generalize sumL [] = S at *
  have HLEN := Lib.hid hlen
  have HS := Lib.hid hs
  clear hrest hlen hs hK
  go_enter Tryd.func14, Tryd.ntmps14
  go_wp2_with fail
  refine HS.out.mono ?_
  rintro e w1 ⟨rfl, hf1⟩
  have HF1 := Lib.hid hf1
  clear hf1
  go_wp2_with (first
    | (refine wpList_store_box rfl 26 _ _ rfl _ 26 (S.map by8) rfl rfl (by rw [hash_sizeS, List.length_map, HLEN.out]) (by rw [List.length_map, HLEN.out]; rfl) (by8_one S) ?_
       intro wb hblk hfb
       have c0 : wb.cell? ⟨w1.heap.size, 0, none⟩ = some (.int .u8 227) := by rw [hblk.cell 0, HR.out]; rfl
       have c1 : wb.cell? ⟨w1.heap.size, 1, none⟩ = some (.int .u8 176) := by rw [hblk.cell 1, HR.out]; rfl
       have c2 : wb.cell? ⟨w1.heap.size, 2, none⟩ = some (.int .u8 196) := by rw [hblk.cell 2, HR.out]; rfl
       have c3 : wb.cell? ⟨w1.heap.size, 3, none⟩ = some (.int .u8 66) := by rw [hblk.cell 3, HR.out]; rfl
       have HFB := Lib.hid hfb
       clear hblk hfb))
  go_wp2
  go_ret
  exact ⟨rfl, HF1.out.trans HFB.out (by simp)⟩
end Go.Proofs.YtdgbcdmooklciaaDoor

namespace Go.Proofs.YtdgbcdmooklciaaDoor
set_option maxRecDepth 100000
open Go.ChangeShapes Go.WideShapes Go.ChangeAt Go.RowKit

theorem gK : Tryd.prog.globalNamed "gavel/sha.roundWords" = some 0 := by kernel_rfl
theorem tK : (Tryd.prog.globals[0]?).map (·.type) = some 140 := by kernel_rfl
theorem kay_lits {H : Type} : (Rows.laid_gavel_sha_roundWords : DataW H) = .agg (kay.map fun z => .lit (.int .u32 z)) := rfl
theorem kw_of_laid {W : World} (h : laidMetH Tryd.prog [("gavel/sha.roundWords", Rows.laid_gavel_sha_roundWords)] W) : KW W := by
  rw [MakeChecks.laidMetH_plain _ _ _ (by kernel_rfl)] at h
  obtain ⟨ps, ⟨g0, t0, cs0, f0, p0, q0, hg0, ht0, hv0, hd0, _, _⟩, _⟩ := h
  obtain rfl := Option.some.inj (gK.symm.trans hg0)
  obtain rfl := Option.some.inj (tK.symm.trans ht0)
  obtain ⟨xs, m1, rfl, hx1, hlen, hn3, hel⟩ := DataW.trod_array Tryd.underlying140 hd0
  have c1 : Tryd.prog.cellsOf 97 = 1 := by kernel_rfl
  have c64 : Tryd.prog.cellsOf 140 = 64 := by kernel_rfl
  rw [kay_lits] at hx1
  simp only [Prod.mk.injEq, DataW.agg.injEq] at hx1
  intro i hi
  have hw := World.var?_cell hg0 hv0 i
  have hl64 : cs0.toList.length = 64 := by rw [hlen, c64]
  have h1 := hel i hi
  have hxi : xs[i]? = some (xs[i]'(by omega)) := List.getElem?_eq_getElem _
  rw [hxi, c1, Nat.mul_one] at h1
  have hci : i < cs0.size := by simpa using (show i < cs0.toList.length by omega)
  have h2 : (cs0.toList.drop i).take 1 = [cs0[i]] := by
    rw [List.drop_eq_getElem_cons (by simpa using hci)]
    simp
  rw [h2] at h1
  obtain ⟨k, e1, e2, _⟩ := DataW.trod_int Tryd.underlying97 h1
  injection e1 with e1
  have hk : k = kay.getD i 0 := by
    have h3 : (xs.map (·.1))[i]? = (kay.map fun z => (.lit (.int .u32 z) : DataW _))[i]? := by rw [hx1.1]
    have hkl : i < kay.length := hi
    rw [List.getElem?_map, hxi, List.getElem?_map, List.getElem?_eq_getElem hkl] at h3
    simp only [Option.map_some, Option.some.injEq] at h3
    rw [e2] at h3
    simp only [DataW.lit.injEq, Lit.int.injEq] at h3
    rw [List.getD, List.getElem?_eq_getElem hkl]
    exact h3.2
  rw [hw, Array.getElem?_eq_getElem hci, e1, hk]
theorem door_met (os : Os) (args : Array Value) : laidMetH Tryd.prog [("gavel/sha.roundWords", Rows.laid_gavel_sha_roundWords)] ((World.doorLaid Tryd.prog 14 os).forCall (fun _ _ => 0) ⟨#[], args, []⟩).memory :=
  laidMetH_of_parts3 (fuel := 8) (laidMet_of_run' 8 (by kernel_rfl) (by kernel_rfl)) (by kernel_rfl) (by kernel_rfl)
theorem hash_open {H : Type} {enc : TypeId × Value → H} {W : World} {r : Reach} {base b0 : Nat} {v : Value} {d : DataW H} {p : List MemPlace} {sp : Nat → Bool} {held : Bool} (hv : Value.okWide Tryd.prog W r base 26 v) (h : DataW.Trod enc Tryd.prog W b0 sp held 26 v d p) (hb : b0 = 0) :
    ∃ l : List UInt8, l.length = 32 ∧ v = .agg (l.map by8).toArray := by
  subst hb
  unfold Value.okWide at hv
  rw [Tryd.underlying26] at hv
  obtain ⟨cs, rfl, -⟩ := hv
  obtain ⟨fuel, hf⟩ := h
  obtain ⟨l, hl, e⟩ := hash_of_trod (show DataW.trod enc Tryd.prog W 0 sp held fuel 26 cs.toList = some (d, p) from hf)
  exact ⟨l, hl, by rw [← e]⟩
theorem own : ownKnob Tryd.prog.godebug = none := by kernel_rfl
end Go.Proofs.YtdgbcdmooklciaaDoor
