/- Texts that the proof stands on: Package stamp: the clock and the floor. | Equality of structs, field by field: names, signatures, stamps, votes, denials. | Package book: the contract of Clone. | Package stamp: again, Of, Clone. | Package commit: Make. | Package stamp: give. | Package stamp: Stamp. (written by gen_stq.py) | Package stamp: Of, Clone, New. | Package commit: the document's example (wakes). | Package stamp: Stamp as one contract; a stamper and a book side by side. | The writers and the text of an ack: they are a stamp's (written by gen_ack.py out of XPut). | The walk of WireApart: its small stamps and votes; the text of an ack. | gavellaw09.wakes: the document's example. (written by gen_stw.py) | Lists of structs or arrays that lie in memory: what their cells are; how one is loaded; how they are opened. | Names, configurations and commitments that come in: what their reading says of cells. | Commitments that come in: what their reading says of cells. | The stamper's list of calls that comes in ([]Act of chapter 9), lists of times and numbers: what their reading says of cells. | Stamps, acks, votes, denials, signatures that come in: what their reading says of cells. | The example of the document (wakes) over package sha. | The laid table: what the condition of a row gives the walks; the door's own heap meets it. -/
import Derived.Test.YtacandocjjpfcaaDoorStk
import Derived.Test.YtacandocjjpfcaaDoorRegT
import Derived.Test.YtacandocjjpfcaaDoorPut
import Derived.Test.YtacandocjjpfcaaDoorRead
import Derived.Laws.StructEq
import Derived.Test.YtacandocjjpfcaaDoorBook3
import Derived.Laws.Externs
import Derived.Test.YtacandocjjpfcaaDoorReg2
import Derived.Test.YtacandocjjpfcaaDoorCm4
import Derived.IntWalk
import Derived.Test.YtacandocjjpfcaaDoorWCf
import Derived.Deep.CutBlock
import Derived.Test.YtacandocjjpfcaaDoorActs
import Derived.Test.YtacandocjjpfcaaDoorCm3
import Derived.Test.YtacandocjjpfcaaDoorOpen
import Derived.Test.YtacandocjjpfcaaDoorWd
import Derived.Test.YtacandocjjpfcaaDoorShaQ
import Derived.Test.YtacandocjjpfcaaDoorTie
import Derived.ProofKit
import Derived.LaidMore
import Derived.OpenShut
import Derived.Stop.Joined
import Derived.Test.YtacandocjjpfcaaDoorCards
set_option maxRecDepth 100000

namespace Go.Proofs.YtacandocjjpfcaaDoor
set_option maxRecDepth 100000
open Go.RowKit

theorem Sk.cell0 {w : World} {S : List Nat} {g : Nat} {x : Sst} (h : Sk w S g x) : ∃ b, S = [g, b] ∧ w.cell? ⟨g, 0, none⟩ = some (.int .i64 x.f) ∧ w.cell? ⟨g, 1, none⟩ = some (.int .i64 x.k) ∧ w.cell? ⟨g, 2, none⟩ = some (.int .i64 x.r) ∧
    w.cell? ⟨g, 3, none⟩ = some (.int .u64 (x.now : Int)) ∧ w.cell? ⟨g, 4, none⟩ = some (.int .u64 (x.fl : Int)) ∧ w.cell? ⟨g, 5, none⟩ = some (.int .u64 (x.la : Int)) ∧ w.cell? ⟨g, 6, none⟩ = some (.map (some b)) ∧
    Blk w g 90 (x.cells b) ∧ MapAt nameKey w b (encS x.l) := by
  obtain ⟨b, rfl, h1, h2⟩ := h
  have hc := fun i => h1.cell i
  exact ⟨b, rfl, by rw [hc]; rfl, by rw [hc]; rfl, by rw [hc]; rfl, by rw [hc]; rfl, by rw [hc]; rfl, by rw [hc]; rfl, by rw [hc]; rfl, h1, h2⟩
theorem snow_any (w : World) (S : List Nat) (g : Nat) (x : Sst) (h : Sk w S g x) : Calls Tryd.prog 19 #[.pointer (some ⟨g, 0, none⟩)] w fun e w' => e = .returned (.int .u64 (x.now : Int)) ∧ w = w' := by
  obtain ⟨b, -, -, -, -, h3, -, -, -, -, -⟩ := h.cell0
  clear h
  go_enter Tryd.func19, Tryd.ntmps19
  go_wp2
  go_ret
  exact ⟨rfl, rfl⟩
theorem sfloor_any (w : World) (S : List Nat) (g : Nat) (x : Sst) (h : Sk w S g x) : Calls Tryd.prog 16 #[.pointer (some ⟨g, 0, none⟩)] w fun e w' => e = .returned (.int .u64 (x.fl : Int)) ∧ w = w' := by
  obtain ⟨b, -, -, -, -, -, h3, -, -, -, -⟩ := h.cell0
  clear h
  go_enter Tryd.func16, Tryd.ntmps16
  go_wp2
  go_ret
  exact ⟨rfl, rfl⟩
theorem slen_any (w : World) (S : List Nat) (g : Nat) (x : Sst) (h : Sk w S g x) : Calls Tryd.prog 17 #[.pointer (some ⟨g, 0, none⟩)] w fun e w' => e = .returned (.int .i64 x.l.length) ∧ w = w' := by
  obtain ⟨b, -, -, -, -, -, -, -, h3, -, hm⟩ := h.cell0
  have hlen := fun ty => hm.len Tryd.underlying70 ty
  rw [encS_len] at hlen
  clear h hm
  go_enter Tryd.func17, Tryd.ntmps17
  go_wp2
  go_ret
  exact ⟨rfl, rfl⟩
theorem Sst.tick_now (x : Sst) (n : Nat) : (x.tick n).now = min (x.now + n) 18446744073709551615 := rfl
set_option maxHeartbeats 1000000 in
theorem stick_any (w : World) (S : List Nat) (g : Nat) (x : Sst) (h : Sk w S g x) (hx : x.Ok) (n : Nat) (hn : n < 18446744073709551616) :
    Calls Tryd.prog 13 #[.pointer (some ⟨g, 0, none⟩), .int .u64 (n : Int)] w fun e w' => e = .returned (.tuple #[]) ∧ Sk w' S g (x.tick n) ∧ Fr [g] w w' := by
  have H := Lib.hid h
  obtain ⟨b, -, -, -, -, h3, -, -, -, -, -⟩ := h.cell0
  have hb := hx.now
  obtain ⟨m, hm⟩ : ∃ m : Nat, (m : Int) = 18446744073709551615 - x.now := ⟨18446744073709551615 - x.now, by omega⟩
  have h9 : IntKind.u64.wrap (18446744073709551615 - (x.now : Int)) = (m : Int) := by rw [hm]; exact IntWalk.u64_in _ ⟨by omega, by omega⟩
  have HT := Lib.hid (Sst.tick_now x n)
  have HM := Lib.hid hm
  have HB := Lib.hid hb
  clear h hx
  go_enter Tryd.func13, Tryd.ntmps13
  refine wp_region_till 14 (Fr [g] w) (Fr [] w) (by kernel_rfl) (Fr.drew (Fr.refl _ w)) (Fr.drew (Fr.refl _ w)) (fun hA hB => ?_)
  have HSK : Hid (∀ t : Nat, t = (x.tick n).now → Sk (w.drew.setCell ⟨g, 3, none⟩ (.int .u64 (t : Int))) S g (x.tick n)) := Lib.hid (fun t ht => by
    subst ht
    exact H.out.drew.set 3 _ rfl (fun b => rfl))
  obtain ⟨t, ht⟩ : ∃ t, t = (x.tick n).now := ⟨_, rfl⟩
  have HTT := Lib.hid ht
  rw [← ht] at HT
  have HBLK : Hid (∃ b, Blk w.drew g 90 (x.cells b)) := Lib.hid (by obtain ⟨b, -, -, -, -, -, -, -, -, h1, -⟩ := H.out.cell0; exact ⟨b, h1⟩)
  clear ht
  have HW : Hid (IntKind.u64.wrap ((x.now : Int) + min (n : Int) m) = (t : Int)) := Lib.hid (by
    have e := IntWalk.u64_in ((x.now : Int) + min (n : Int) m) ⟨by omega, by omega⟩
    rw [e, HT.out]; omega)
  clear hm hb
  refine till_run (i := 0) (v := ?_) rfl (by kernel_rfl) (by rfl) (fun _ _ _ h => h) hA hB (fun w1 hw1 => ?_) ?_
  rotate_left 1
  · skip
    go_simp
    (try (first | with_reducible rfl | (apply And.intro <;> rfl)))
  simp only [Act.put, List.setIfInBounds_toArray, List.set_cons_zero, List.set_cons_succ]
  refine till_run (i := 1) (v := ?_) rfl (by kernel_rfl) (by rfl) (fun _ _ _ h => h) hA hB (fun w1 hw1 => ?_) ?_
  rotate_left 1
  · skip
    go_simp
    (try (first | with_reducible rfl | (apply And.intro <;> rfl)))
  simp only [Act.put, List.setIfInBounds_toArray, List.set_cons_zero, List.set_cons_succ]
  refine till_run (i := 2) (v := ?_) rfl (by kernel_rfl) (by rfl) (fun _ _ _ h => h) hA hB (fun w1 hw1 => ?_) ?_
  rotate_left 1
  · skip
    go_simp
    (try (first | with_reducible rfl | (apply And.intro <;> rfl)))
  simp only [Act.put, List.setIfInBounds_toArray, List.set_cons_zero, List.set_cons_succ]
  refine till_run (i := 3) (v := ?_) rfl (by kernel_rfl) (by rfl) (fun _ _ _ h => h) hA hB (fun w1 hw1 => ?_) ?_
  rotate_left 1
  · skip
    have hcw0 := hw1.cell (h3) (by first | (simp; done) | exact HNS.out | exact HNW.out | (intro hm; have hlt := HSB.out _ hm; (try dsimp only at hlt); omega))
    go_simp
    (try (first | with_reducible rfl | (apply And.intro <;> rfl)))
  simp only [Act.put, List.setIfInBounds_toArray, List.set_cons_zero, List.set_cons_succ]
  refine till_run (i := 4) (v := ?_) rfl (by kernel_rfl) (by rfl) (fun _ _ _ h => h) hA hB (fun w1 hw1 => ?_) ?_
  rotate_left 1
  · skip
    go_simp
    (try (first | with_reducible rfl | (apply And.intro <;> rfl)))
  simp only [Act.put, List.setIfInBounds_toArray, List.set_cons_zero, List.set_cons_succ]
  refine till_run (i := 5) (v := ?_) rfl (by kernel_rfl) (by rfl) (fun _ _ _ h => h) hA hB (fun w1 hw1 => ?_) ?_
  rotate_left 1
  · skip
    go_simp
    (try (first | with_reducible rfl | (apply And.intro <;> rfl)))
  simp only [Act.put, List.setIfInBounds_toArray, List.set_cons_zero, List.set_cons_succ]
  refine till_run (i := 6) (v := ?_) rfl (by kernel_rfl) (by rfl) (fun _ _ _ h => h) hA hB (fun w1 hw1 => ?_) ?_
  rotate_left 1
  · skip
    go_simp
    (try (first | with_reducible rfl | (apply And.intro <;> rfl)))
  simp only [Act.put, List.setIfInBounds_toArray, List.set_cons_zero, List.set_cons_succ]
  refine till_run (i := 7) (v := ?_) rfl (by kernel_rfl) (by rfl) (fun _ _ _ h => h) hA hB (fun w1 hw1 => ?_) ?_
  rotate_left 1
  · skip
    go_simp
    (try (first | with_reducible rfl | (apply And.intro <;> rfl)))
  simp only [Act.put, List.setIfInBounds_toArray, List.set_cons_zero, List.set_cons_succ]
  refine till_run (i := 8) (v := ?_) rfl (by kernel_rfl) (by rfl) (fun _ _ _ h => h) hA hB (fun w1 hw1 => ?_) ?_
  rotate_left 1
  · skip
    have hcw0 := hw1.cell (h3) (by first | (simp; done) | exact HNS.out | exact HNW.out | (intro hm; have hlt := HSB.out _ hm; (try dsimp only at hlt); omega))
    go_simp
    (try (first | with_reducible rfl | (apply And.intro <;> rfl)))
  simp only [Act.put, List.setIfInBounds_toArray, List.set_cons_zero, List.set_cons_succ]
  refine till_run (i := 9) (v := ?_) rfl (by kernel_rfl) (by rfl) (fun _ _ _ h => h) hA hB (fun w1 hw1 => ?_) ?_
  rotate_left 1
  · skip
    go_simp
    (try (first | with_reducible rfl | (apply And.intro <;> rfl)))
  simp only [Act.put, List.setIfInBounds_toArray, List.set_cons_zero, List.set_cons_succ]
  refine till_run (i := 10) (v := ?_) rfl (by kernel_rfl) (by rfl) (fun _ _ _ h => h) hA hB (fun w1 hw1 => ?_) ?_
  rotate_left 1
  · skip
    go_simp
    (try (first | with_reducible rfl | (apply And.intro <;> rfl)))
  simp only [Act.put, List.setIfInBounds_toArray, List.set_cons_zero, List.set_cons_succ]
  refine till_run (i := 11) (v := ?_) rfl (by kernel_rfl) (by rfl) (fun _ _ _ h => h) hA hB (fun w1 hw1 => ?_) ?_
  rotate_left 1
  · skip
    go_simp
    (try (first | with_reducible rfl | (apply And.intro <;> rfl)))
  simp only [Act.put, List.setIfInBounds_toArray, List.set_cons_zero, List.set_cons_succ]
  refine till_run (i := 12) (v := ?_) rfl (by kernel_rfl) (by rfl) (fun _ _ _ h => h) hA hB (fun w1 hw1 => ?_) ?_
  rotate_left 1
  · skip
    go_simp
    (try (first | with_reducible rfl | (apply And.intro <;> rfl)))
  simp only [Act.put, List.setIfInBounds_toArray, List.set_cons_zero, List.set_cons_succ]
  refine till_run (i := 13) (v := ?_) rfl (by kernel_rfl) (by rfl) (fun _ _ _ h => h) hA hB (fun w1 hw1 => ?_) ?_
  rotate_left 1
  · skip
    go_simp
    (try (first | with_reducible rfl | (apply And.intro <;> rfl)))
  simp only [Act.put, List.setIfInBounds_toArray, List.set_cons_zero, List.set_cons_succ]
  refine till_step (i := 14) rfl (by kernel_rfl) (by kernel_rfl) (by rfl) (fun K hK => ?_)
  obtain ⟨b, hbk⟩ := HBLK.out
  refine wp_store_cell1 _ _ _ rfl g 3 (.int .u64 (t : Int)) rfl (congrArg (Value.int .u64) HW.out) rfl 90 _ hbk (by simp [Sst.cells]) (by kernel_rfl) ?_
  refine hK.out _ _ (hA.setCell _ (fun _ => by simp) _) (fun hA => ?_)
  clear hK K
  simp only [Act.put, List.setIfInBounds_toArray, List.set_cons_zero, List.set_cons_succ]
  refine till_done (by kernel_rfl) ?_ _
  have HA := Lib.hid hA
  clear hA
  go_end0
  exact ⟨rfl, HSK.out t HTT.out, HA.out⟩
set_option maxHeartbeats 1000000 in
theorem sraise_any (w : World) (S : List Nat) (g : Nat) (x : Sst) (h : Sk w S g x) (hx : x.Ok) (n : Nat) (hn : n < 18446744073709551616) :
    Calls Tryd.prog 15 #[.pointer (some ⟨g, 0, none⟩), .int .u64 (n : Int)] w fun e w' => e = .returned (.int .i64 (raiseE n)) ∧ Sk w' S g (x.raise n) ∧ Fr [g] w w' := by
  have H := Lib.hid h
  obtain ⟨b, -, -, -, -, -, h4, -, -, hbk, -⟩ := h.cell0
  have hz := hbk.frozen 4
  by_cases hn1 : n = 18446744073709551615
  · have HR := Lib.hid (show raiseE n = 4 ∧ x.raise n = x by subst hn1; exact ⟨rfl, rfl⟩)
    subst hn1
    clear h hx hn hbk
    go_enter Tryd.func15, Tryd.ntmps15
    go_wp2
    go_ret
    exact ⟨by rw [HR.out.1]; rfl, by rw [HR.out.2]; exact H.out, Fr.refl _ _⟩
  · have HR := Lib.hid (show raiseE n = 0 ∧ x.raise n = { x with fl := max x.fl n } by unfold raiseE Sst.raise; simp [hn1])
    have hne : ((n : Int) == 18446744073709551615) = false := by simp; omega
    have HSK : Hid (∀ t : Int, t = (max x.fl n : Nat) → Sk (w.setCell ⟨g, 4, none⟩ (.int .u64 t)) S g (x.raise n)) := Lib.hid (fun t ht => by
      subst ht
      rw [HR.out.2]
      exact H.out.set 4 _ rfl (fun b => rfl))
    clear h hx hn hbk hn1
    go_enter Tryd.func15, Tryd.ntmps15
    go_wp2
    go_ret
    exact ⟨by rw [HR.out.1]; rfl, HSK.out _ (by omega), (Fr.refl [g] w).setCell _ (by simp) _⟩
theorem ret_u64 {a b : Int} (h : a = b) : Ending.returned (.int .u64 a) = .returned (.int .u64 b) := by rw [h]
set_option maxHeartbeats 1000000 in
theorem snext_any (w : World) (S : List Nat) (g : Nat) (x : Sst) (h : Sk w S g x) (hx : x.Ok) :
    Calls Tryd.prog 33 #[.pointer (some ⟨g, 0, none⟩)] w fun e w' => e = .returned (.int .u64 (x.next : Int)) ∧ Fr [] w w' := by
  obtain ⟨b, -, -, -, -, h3, h4, h5, -, -, -⟩ := h.cell0
  have h1 := hx.now
  have h2 := hx.fl
  have h6 := hx.la
  have e1 : IntKind.u64.wrap ((x.fl : Int) + 1) = (x.fl : Int) + 1 := IntWalk.u64_in _ ⟨by omega, by omega⟩
  have e2 : IntKind.u64.wrap ((x.la : Int) + 1) = (x.la : Int) + 1 := IntWalk.u64_in _ ⟨by omega, by omega⟩
  have HN : Hid (x.next = max (max x.now (x.fl + 1)) (x.la + 1)) := Lib.hid rfl
  clear h hx h1 h2 h6
  have key : ∀ M : Int, (M = x.now ∧ ¬ (x.now : Int) < x.fl + 1 ∨ M = x.fl + 1 ∧ (x.now : Int) < x.fl + 1) → ∀ V : Int, (V = M ∧ ¬ M < x.la + 1 ∨ V = x.la + 1 ∧ M < x.la + 1) → V = (x.next : Int) := by
    intro M hM V hV
    have := HN.out
    omega
  have KEY := Lib.hid key
  clear key
  by_cases c1 : (x.now : Int) < x.fl + 1
  all_goals
    go_enter Tryd.func33, Tryd.ntmps33
    go_wp2
    refine wp_region_held_drew (S := Fr [] w) (by kernel_rfl) (Fr.drew (Fr.refl _ w)) (fun hHeld => ?_)
    refine run_at (i := 0) (v := ?_) rfl (by kernel_rfl) (by rfl) (fun _ _ _ h => h) hHeld (fun w1 hw1 => ?_) ?_
    rotate_left 1
    · skip
      go_simp
      (try (first | with_reducible rfl | (apply And.intro <;> rfl)))
    simp only [Act.put, List.setIfInBounds_toArray, List.set_cons_zero, List.set_cons_succ]
    refine run_at (i := 1) (v := ?_) rfl (by kernel_rfl) (by rfl) (fun _ _ _ h => h) hHeld (fun w1 hw1 => ?_) ?_
    rotate_left 1
    · skip
      go_simp
      (try (first | with_reducible rfl | (apply And.intro <;> rfl)))
    simp only [Act.put, List.setIfInBounds_toArray, List.set_cons_zero, List.set_cons_succ]
    refine run_at (i := 2) (v := ?_) rfl (by kernel_rfl) (by rfl) (fun _ _ _ h => h) hHeld (fun w1 hw1 => ?_) ?_
    rotate_left 1
    · skip
      go_simp
      (try (first | with_reducible rfl | (apply And.intro <;> rfl)))
    simp only [Act.put, List.setIfInBounds_toArray, List.set_cons_zero, List.set_cons_succ]
    refine run_at (i := 3) (v := ?_) rfl (by kernel_rfl) (by rfl) (fun _ _ _ h => h) hHeld (fun w1 hw1 => ?_) ?_
    rotate_left 1
    · skip
      have hcw0 := hw1.cell (h3) (by first | (simp; done) | exact HNS.out | exact HNW.out | (intro hm; have hlt := HSB.out _ hm; (try dsimp only at hlt); omega))
      go_simp
      (try (first | with_reducible rfl | (apply And.intro <;> rfl)))
    simp only [Act.put, List.setIfInBounds_toArray, List.set_cons_zero, List.set_cons_succ]
    refine run_at (i := 4) (v := ?_) rfl (by kernel_rfl) (by rfl) (fun _ _ _ h => h) hHeld (fun w1 hw1 => ?_) ?_
    rotate_left 1
    · skip
      go_simp
      (try (first | with_reducible rfl | (apply And.intro <;> rfl)))
    simp only [Act.put, List.setIfInBounds_toArray, List.set_cons_zero, List.set_cons_succ]
    refine run_at (i := 5) (v := ?_) rfl (by kernel_rfl) (by rfl) (fun _ _ _ h => h) hHeld (fun w1 hw1 => ?_) ?_
    rotate_left 1
    · skip
      go_simp
      (try (first | with_reducible rfl | (apply And.intro <;> rfl)))
    simp only [Act.put, List.setIfInBounds_toArray, List.set_cons_zero, List.set_cons_succ]
    refine run_at (i := 6) (v := ?_) rfl (by kernel_rfl) (by rfl) (fun _ _ _ h => h) hHeld (fun w1 hw1 => ?_) ?_
    rotate_left 1
    · skip
      go_simp
      (try (first | with_reducible rfl | (apply And.intro <;> rfl)))
    simp only [Act.put, List.setIfInBounds_toArray, List.set_cons_zero, List.set_cons_succ]
    refine run_at (i := 7) (v := ?_) rfl (by kernel_rfl) (by rfl) (fun _ _ _ h => h) hHeld (fun w1 hw1 => ?_) ?_
    rotate_left 1
    · skip
      have hcw0 := hw1.cell (h4) (by first | (simp; done) | exact HNS.out | exact HNW.out | (intro hm; have hlt := HSB.out _ hm; (try dsimp only at hlt); omega))
      go_simp
      (try (first | with_reducible rfl | (apply And.intro <;> rfl)))
    simp only [Act.put, List.setIfInBounds_toArray, List.set_cons_zero, List.set_cons_succ]
    refine run_at (i := 8) (v := ?_) rfl (by kernel_rfl) (by rfl) (fun _ _ _ h => h) hHeld (fun w1 hw1 => ?_) ?_
    rotate_left 1
    · skip
      go_simp
      (try (first | with_reducible rfl | (apply And.intro <;> rfl)))
    simp only [Act.put, List.setIfInBounds_toArray, List.set_cons_zero, List.set_cons_succ]
    refine run_at (i := 9) (v := ?_) rfl (by kernel_rfl) (by rfl) (fun _ _ _ h => h) hHeld (fun w1 hw1 => ?_) ?_
    rotate_left 1
    · skip
      go_simp
      (try (first | with_reducible rfl | (apply And.intro <;> rfl)))
    simp only [Act.put, List.setIfInBounds_toArray, List.set_cons_zero, List.set_cons_succ]
    refine run_at (i := 10) (v := ?_) rfl (by kernel_rfl) (by rfl) (fun _ _ _ h => h) hHeld (fun w1 hw1 => ?_) ?_
    rotate_left 1
    · skip
      go_simp
      (try (first | with_reducible rfl | (apply And.intro <;> rfl)))
    simp only [Act.put, List.setIfInBounds_toArray, List.set_cons_zero, List.set_cons_succ]
    refine run_at (i := 11) (v := ?_) rfl (by kernel_rfl) (by rfl) (fun _ _ _ h => h) hHeld (fun w1 hw1 => ?_) ?_
    rotate_left 1
    · skip
      go_simp
      (try (first | with_reducible rfl | (apply And.intro <;> rfl)))
    simp only [Act.put, List.setIfInBounds_toArray, List.set_cons_zero, List.set_cons_succ]
    refine run_at (i := 12) (v := ?_) rfl (by kernel_rfl) (by rfl) (fun _ _ _ h => h) hHeld (fun w1 hw1 => ?_) ?_
    rotate_left 1
    · skip
      have hcw0 := hw1.cell (h5) (by first | (simp; done) | exact HNS.out | exact HNW.out | (intro hm; have hlt := HSB.out _ hm; (try dsimp only at hlt); omega))
      go_simp
      (try (first | with_reducible rfl | (apply And.intro <;> rfl)))
    simp only [Act.put, List.setIfInBounds_toArray, List.set_cons_zero, List.set_cons_succ]
    refine run_at (i := 13) (v := ?_) rfl (by kernel_rfl) (by rfl) (fun _ _ _ h => h) hHeld (fun w1 hw1 => ?_) ?_
    rotate_left 1
    · skip
      go_simp
      (try (first | with_reducible rfl | (apply And.intro <;> rfl)))
    simp only [Act.put, List.setIfInBounds_toArray, List.set_cons_zero, List.set_cons_succ]
  · by_cases c2 : (x.fl : Int) + 1 < x.la + 1
    all_goals
      refine run_at (i := 14) (v := ?_) rfl (by kernel_rfl) (by rfl) (fun _ _ _ h => h) hHeld (fun w1 hw1 => ?_) ?_
      rotate_left 1
      · skip
        go_simp
        (try (first | with_reducible rfl | (apply And.intro <;> rfl)))
      simp only [Act.put, List.setIfInBounds_toArray, List.set_cons_zero, List.set_cons_succ]
      refine run_at (i := 15) (v := ?_) rfl (by kernel_rfl) (by rfl) (fun _ _ _ h => h) hHeld (fun w1 hw1 => ?_) ?_
      rotate_left 1
      · skip
        go_simp
        (try (first | with_reducible rfl | (apply And.intro <;> rfl)))
      simp only [Act.put, List.setIfInBounds_toArray, List.set_cons_zero, List.set_cons_succ]
      refine wpAnyH_done (by kernel_rfl) ?_ _
      have HH := Lib.hid hHeld
      clear hHeld e1 e2
      go_wp2
      go_ret
      refine ⟨ret_u64 (KEY.out (x.fl + 1) (by omega) _ ?_), HH.out⟩
      first | exact .inl ⟨rfl, c2⟩ | exact .inr ⟨rfl, c2⟩
  · by_cases c2 : (x.now : Int) < x.la + 1
    all_goals
      refine run_at (i := 14) (v := ?_) rfl (by kernel_rfl) (by rfl) (fun _ _ _ h => h) hHeld (fun w1 hw1 => ?_) ?_
      rotate_left 1
      · skip
        go_simp
        (try (first | with_reducible rfl | (apply And.intro <;> rfl)))
      simp only [Act.put, List.setIfInBounds_toArray, List.set_cons_zero, List.set_cons_succ]
      refine run_at (i := 15) (v := ?_) rfl (by kernel_rfl) (by rfl) (fun _ _ _ h => h) hHeld (fun w1 hw1 => ?_) ?_
      rotate_left 1
      · skip
        go_simp
        (try (first | with_reducible rfl | (apply And.intro <;> rfl)))
      simp only [Act.put, List.setIfInBounds_toArray, List.set_cons_zero, List.set_cons_succ]
      refine wpAnyH_done (by kernel_rfl) ?_ _
      have HH := Lib.hid hHeld
      clear hHeld e1 e2
      go_wp2
      go_ret
      refine ⟨ret_u64 (KEY.out x.now (by omega) _ ?_), HH.out⟩
      first | exact .inl ⟨rfl, c2⟩ | exact .inr ⟨rfl, c2⟩
end Go.Proofs.YtacandocjjpfcaaDoor

namespace Go.Proofs.YtacandocjjpfcaaDoor
open Go.RowKit
set_option maxRecDepth 100000

theorem eqFields_bool {P : Program} {d : Nat} {xs ys : Array Value} {f : Field} {fs : List Field} {u v : Value} {b : Bool} {w : World} (hn : f.name ≠ "_") (p : (part f.type xs f.offset).run P w = .ok u w) (p' : (part f.type ys f.offset).run P w = .ok v w)
    (q : (Op.equalIn d f.type u v).run P w = .ok b w) : (Op.eqFields d xs ys (f :: fs)).run P w = if b then (Op.eqFields d xs ys fs).run P w else .ok false w := by
  rw [Op.eqFields, if_pos hn]
  simp only [Sem.run_bind, p, p', Result.andThen_ok, q]
  cases b <;> simp
def FieldsEq (P : Program) (w : World) (d : Nat) (C D : Array Value) : List (TypeId × Nat) → List Bool → Prop
  | [], [] => True
  | (t, o) :: fs, b :: bs => (∃ u v, (part t C o).run P w = .ok u w ∧ (part t D o).run P w = .ok v w ∧ (Op.equalIn d t u v).run P w = .ok b w) ∧ FieldsEq P w d C D fs bs
  | _, _ => False
theorem eqFields_all {P : Program} {w : World} {d : Nat} {C D : Array Value} : ∀ (fs : List Field) (l : List (TypeId × Nat)) (bs : List Bool), fs.map (fun f => (f.type, f.offset, f.name == "_")) = l.map (fun x => (x.1, x.2, false)) →
    FieldsEq P w d C D l bs → (Op.eqFields d C D fs).run P w = .ok (bs.all id) w
  | [], [], [], _, _ => rfl
  | [], [], _ :: _, _, h => h.elim
  | [], _ :: _, _, h, _ => by simp at h
  | _ :: _, [], _, h, _ => by simp at h
  | _ :: _, _ :: _, [], _, h => h.elim
  | f :: fs, (t, o) :: l, b :: bs, h, hb => by
    simp only [List.map_cons, List.cons.injEq, Prod.mk.injEq, beq_eq_false_iff_ne] at h
    obtain ⟨⟨rfl, rfl, hn⟩, h⟩ := h
    obtain ⟨⟨u, v, p, p', q⟩, hr⟩ := hb
    rw [eqFields_bool hn p p' q, eqFields_all fs l bs h hr]
    cases b <;> simp
theorem part_rowx (ty : TypeId) (n off : Nat) (xs ys zs : List Value) (h : RowTy Tryd.prog ty n) (hx : xs.length = off) (hy : ys.length = n) (w : World) : (part ty (xs ++ (ys ++ zs)).toArray off).run Tryd.prog w = .ok (.agg ys.toArray) w := by
  obtain ⟨h1, h2⟩ := h
  cases hu : Tryd.prog.underlying ty with
  | none => rw [hu] at h1; cases h1
  | some d =>
    rw [hu] at h1
    cases hi : Tryd.prog.info? ty with
    | none => rw [hi] at h2; cases h2
    | some i =>
      have hs : i.size = n := by simpa [hi] using h2
      have hagg : (isAgg ty).run Tryd.prog w = .ok true w := by
        unfold isAgg
        rw [Sem.run_bind, run_underlying hu w]
        cases d <;> simp_all
      unfold part
      simp [hagg, sizeOf, typeInfo, hi, hs]
      subst hx
      subst hy
      simp
theorem eql_hash (a b : List UInt8) (ha : a.length = 32) (hb : b.length = 32) (d : Nat) (w : World) : (Op.equalIn (d + 2) 32 (.agg (a.map by8).toArray) (.agg (b.map by8).toArray)).run Tryd.prog w = .ok (decide (a = b)) w := by
  have h := run_equalIn_bytes (P := Tryd.prog) w d 32 5 32 Tryd.underlying32 Tryd.underlying5 u8_size1 a b ha hb
  rw [show decide (a = b) = (a == b) by rw [Bool.eq_iff_iff]; simp]
  exact h
theorem eql_int (y z : Int) (d : Nat) (w : World) : (Op.equalIn (d + 1) 3 (.int .i64 y) (.int .i64 z)).run Tryd.prog w = .ok (decide (y = z)) w := by
  have h := run_equalIn_int (P := Tryd.prog) w d 3 .i64 .i64 y z Tryd.underlying3
  rw [show decide (y = z) = (y == z) by rw [Bool.eq_iff_iff]; simp]
  exact h
theorem eql_u64 (y z : Int) (d : Nat) (w : World) : (Op.equalIn (d + 1) 45 (.int .u64 y) (.int .u64 z)).run Tryd.prog w = .ok (decide (y = z)) w := by
  have h := run_equalIn_int (P := Tryd.prog) w d 45 .u64 .u64 y z Tryd.underlying45
  rw [show decide (y = z) = (y == z) by rw [Bool.eq_iff_iff]; simp]
  exact h
theorem part_int (off : Nat) (cs : Array Value) (v : Value) (hv : cs[off]? = some v) (w : World) : (part 3 cs off).run Tryd.prog w = .ok v w := run_part_plain w (by kernel_rfl) hv
theorem part_u64 (off : Nat) (cs : Array Value) (v : Value) (hv : cs[off]? = some v) (w : World) : (part 45 cs off).run Tryd.prog w = .ok v w := run_part_plain w (by kernel_rfl) hv
theorem eql_of {ty : TypeId} {d : Nat} {C D : Array Value} {w : World} {l : List (TypeId × Nat)} {bs : List Bool} (e : (Op.equalIn (d + 1) ty (.agg C) (.agg D)).run Tryd.prog w = (Op.eqFields d C D (Tryd.prog.fieldsOf ty).toList).run Tryd.prog w)
    (hfs : (Tryd.prog.fieldsOf ty).toList.map (fun f => (f.type, f.offset, f.name == "_")) = l.map (fun x => (x.1, x.2, false))) (hb : FieldsEq Tryd.prog w d C D l bs) : (Op.equalIn (d + 1) ty (.agg C) (.agg D)).run Tryd.prog w = .ok (bs.all id) w := by
  rw [e]
  exact eqFields_all _ l bs hfs hb
theorem eql_name (a b a' b' : Int) (d : Nat) (w : World) : (Op.equalIn (d + 2) 30 (.agg #[.int .i64 a, .int .i64 b]) (.agg #[.int .i64 a', .int .i64 b'])).run Tryd.prog w = .ok (decide (a = a') && decide (b = b')) w := by
  have h := eql_of (l := [(3, 0), (3, 1)]) (run_equalIn_struct w (d + 1) 30 #[.int .i64 a, .int .i64 b] #[.int .i64 a', .int .i64 b'] (by kernel_rfl) (by kernel_rfl)) (by kernel_rfl)
    (bs := [decide (a = a'), decide (b = b')]) ⟨⟨_, _, part_int 0 _ _ rfl w, part_int 0 _ _ rfl w, eql_int a a' d w⟩, ⟨_, _, part_int 1 _ _ rfl w, part_int 1 _ _ rfl w, eql_int b b' d w⟩, trivial⟩
  rw [h]
  simp
theorem eql_sig (a b a' b' : Int) (d : Nat) (w : World) : (Op.equalIn (d + 2) 34 (.agg #[.int .i64 a, .int .i64 b]) (.agg #[.int .i64 a', .int .i64 b'])).run Tryd.prog w = .ok (decide (a = a') && decide (b = b')) w := by
  have h := eql_of (l := [(3, 0), (3, 1)]) (run_equalIn_struct w (d + 1) 34 #[.int .i64 a, .int .i64 b] #[.int .i64 a', .int .i64 b'] (by kernel_rfl) (by kernel_rfl)) (by kernel_rfl)
    (bs := [decide (a = a'), decide (b = b')]) ⟨⟨_, _, part_int 0 _ _ rfl w, part_int 0 _ _ rfl w, eql_int a a' d w⟩, ⟨_, _, part_int 1 _ _ rfl w, part_int 1 _ _ rfl w, eql_int b b' d w⟩, trivial⟩
  rw [h]
  simp
def Wst.eqB (x y : Wst) : Bool := [decide (x.r = y.r), (decide (x.c = y.c) && decide (x.s = y.s)), decide (x.h = y.h), decide ((x.t : Int) = (y.t : Int)), (decide (x.b = y.b) && decide (x.m = y.m))].all id
theorem Wst.eqB_iff (x y : Wst) : x.eqB y = true ↔ x = y := by
  obtain ⟨_, _, _, _, _, _, _⟩ := x
  obtain ⟨_, _, _, _, _, _, _⟩ := y
  simp [Wst.eqB, Wst.mk.injEq, and_assoc]
  (try omega)
set_option maxHeartbeats 1000000 in
theorem eql_Wst (x y : Wst) (hx : x.h.length = 32) (hy : y.h.length = 32) (w : World) : (Op.equalIn 10000 47 (.agg x.cells.toArray) (.agg y.cells.toArray)).run Tryd.prog w = .ok (x.eqB y) w :=
  eql_of (d := 9999) (C := x.cells.toArray) (D := y.cells.toArray) (l := [(3, 0), (30, 1), (32, 3), (45, 35), (34, 36)]) (run_equalIn_struct w 9999 47 x.cells.toArray y.cells.toArray (by kernel_rfl) (by kernel_rfl)) (by kernel_rfl)
    (bs := [decide (x.r = y.r), (decide (x.c = y.c) && decide (x.s = y.s)), decide (x.h = y.h), decide ((x.t : Int) = (y.t : Int)), (decide (x.b = y.b) && decide (x.m = y.m))])
    ⟨⟨_, _, part_int 0 _ _ (show x.cells.toArray[0]? = some (.int .i64 x.r) from rfl) w, part_int 0 _ _ (show y.cells.toArray[0]? = some (.int .i64 y.r) from rfl) w, eql_int _ _ 9998 w⟩,
      ⟨_, _, (part_rowx 30 2 1 [.int .i64 x.r] [.int .i64 x.c, .int .i64 x.s] ([] ++ (x.h.map by8 ++ [.int .u64 (x.t : Int), .int .i64 x.b, .int .i64 x.m])) row_name rfl rfl w), (part_rowx 30 2 1 [.int .i64 y.r] [.int .i64 y.c, .int .i64 y.s] ([] ++ (y.h.map by8 ++ [.int .u64 (y.t : Int), .int .i64 y.b, .int .i64 y.m])) row_name rfl rfl w), eql_name _ _ _ _ 9997 w⟩,
      ⟨_, _, (part_rowx 32 32 3 [.int .i64 x.r, .int .i64 x.c, .int .i64 x.s] (x.h.map by8) [.int .u64 (x.t : Int), .int .i64 x.b, .int .i64 x.m] row_hash rfl (by rw [List.length_map]; exact hx) w), (part_rowx 32 32 3 [.int .i64 y.r, .int .i64 y.c, .int .i64 y.s] (y.h.map by8) [.int .u64 (y.t : Int), .int .i64 y.b, .int .i64 y.m] row_hash rfl (by rw [List.length_map]; exact hy) w), eql_hash x.h y.h hx hy 9997 w⟩,
      ⟨_, _, part_u64 35 _ _ (show x.cells.toArray[35]? = some (.int .u64 (x.t : Int)) by rw [List.getElem?_toArray]; exact post_cell [.int .i64 x.r, .int .i64 x.c, .int .i64 x.s] (x.h.map by8) [.int .u64 (x.t : Int), .int .i64 x.b, .int .i64 x.m] (by rw [List.length_map]; exact hx) 0 rfl) w, part_u64 35 _ _ (show y.cells.toArray[35]? = some (.int .u64 (y.t : Int)) by rw [List.getElem?_toArray]; exact post_cell [.int .i64 y.r, .int .i64 y.c, .int .i64 y.s] (y.h.map by8) [.int .u64 (y.t : Int), .int .i64 y.b, .int .i64 y.m] (by rw [List.length_map]; exact hy) 0 rfl) w, eql_u64 _ _ 9998 w⟩,
      ⟨_, _, (show (part 34 x.cells.toArray 36).run Tryd.prog w = .ok (.agg [.int .i64 x.b, .int .i64 x.m].toArray) w by rw [show x.cells = ([.int .i64 x.r, .int .i64 x.c, .int .i64 x.s] ++ (x.h.map by8 ++ [.int .u64 (x.t : Int)])) ++ ([.int .i64 x.b, .int .i64 x.m] ++ []) by simp [Wst.cells]]; exact part_rowx 34 2 36 _ _ _ row_sig (by simp [hx]) rfl w), (show (part 34 y.cells.toArray 36).run Tryd.prog w = .ok (.agg [.int .i64 y.b, .int .i64 y.m].toArray) w by rw [show y.cells = ([.int .i64 y.r, .int .i64 y.c, .int .i64 y.s] ++ (y.h.map by8 ++ [.int .u64 (y.t : Int)])) ++ ([.int .i64 y.b, .int .i64 y.m] ++ []) by simp [Wst.cells]]; exact part_rowx 34 2 36 _ _ _ row_sig (by simp [hy]) rfl w), eql_sig _ _ _ _ 9997 w⟩, trivial⟩
def Wvt.eqB (x y : Wvt) : Bool := [decide (x.k = y.k), decide (x.e = y.e), decide (x.r = y.r), decide (x.p = y.p), decide (x.h = y.h), (decide (x.b = y.b) && decide (x.m = y.m))].all id
theorem Wvt.eqB_iff (x y : Wvt) : x.eqB y = true ↔ x = y := by
  obtain ⟨_, _, _, _, _, _, _⟩ := x
  obtain ⟨_, _, _, _, _, _, _⟩ := y
  simp [Wvt.eqB, Wvt.mk.injEq, and_assoc]
  (try omega)
def Wdn.eqB (x y : Wdn) : Bool := [decide (x.r = y.r), decide (x.i = y.i), (decide (x.b = y.b) && decide (x.m = y.m))].all id
theorem Wdn.eqB_iff (x y : Wdn) : x.eqB y = true ↔ x = y := by
  obtain ⟨_, _, _, _⟩ := x
  obtain ⟨_, _, _, _⟩ := y
  simp [Wdn.eqB, Wdn.mk.injEq, and_assoc]
  (try omega)
end Go.Proofs.YtacandocjjpfcaaDoor

namespace Go.Proofs.YtacandocjjpfcaaDoor
set_option maxRecDepth 100000
open Go.RowKit

end Go.Proofs.YtacandocjjpfcaaDoor

namespace Go.Proofs.YtacandocjjpfcaaDoor
set_option maxRecDepth 100000
open Go.RowKit

theorem zSt_len : zSt.cells.length = 38 := rfl
theorem st_size {x : Wst} (hh : x.h.length = 32) : (Tryd.prog.info? 47).map (·.size) = some x.cells.toArray.size := by rw [List.size_toArray, Wst.len hh]; kernel_rfl
theorem built_st0 : Tryd.prog.built 47 [] = some zSt.cells.toArray := by kernel_rfl
theorem row_stamp0 : RowTy Tryd.prog 47 38 := ⟨by kernel_rfl, by kernel_rfl⟩
theorem Wst.all (x : Wst) : (x.cells.toArray.all (·.oneCell')) = true := all_oneCell_toArray x.one
def againS (o : Wst) (h : List UInt8) : Wst := if o.h = h then o else zSt
def againE (o : Wst) (h : List UInt8) : Int := if o.h = h then 0 else 5
set_option maxHeartbeats 1000000 in
theorem again_any (o : Wst) (ho : o.Ok) (h : List UInt8) (hh : h.length = 32) (w : World) :
    Calls Tryd.prog 32 #[o.val, .agg (h.map by8).toArray] w fun e w' => e = .returned (.tuple #[(againS o h).val, .int .i64 (againE o h)]) ∧ Fr [] w w' := by
  obtain ⟨wa, hwa⟩ : ∃ wa, wa = ((w.alloc (Obj.cells o.cells.toArray 47)).alloc (Obj.cells (h.map by8).toArray 32)).alloc (Obj.cells zSt.cells.toArray 47) := ⟨_, rfl⟩
  have hf0 : Fr [] w wa := by rw [hwa]; exact (((Fr.refl [] w).alloc _).alloc _).alloc _
  have hb1 : Blk wa w.heap.size 47 o.cells.toArray := by rw [hwa]; exact blk_alloc (blk_alloc (Blk.new _ _ _))
  have hb2 : Blk wa (w.heap.size + 1) 32 (h.map by8).toArray := by
    have := blk_alloc (t' := 47) (cs' := zSt.cells.toArray) (Blk.new (w.alloc (Obj.cells o.cells.toArray 47)) 32 (h.map by8).toArray)
    rw [hwa]
    simpa using this
  have hb3 : Blk wa (w.heap.size + 2) 47 zSt.cells.toArray := by
    have := Blk.new ((w.alloc (Obj.cells o.cells.toArray 47)).alloc (Obj.cells (h.map by8).toArray 32)) 47 zSt.cells.toArray
    rw [hwa]
    simpa using this
  have HAT := Lib.hid (Wst.at_of hb1.range ho.h)
  have HB1 := Lib.hid hb1
  have HR2 := Lib.hid hb2.range
  have HB3 := Lib.hid hb3
  have HF0 := Lib.hid hf0
  have HWA := Lib.hid hwa
  have HO := Lib.hid ho
  have HH := Lib.hid hh
  have hq := fun w => eql_hash o.h h ho.h hh 9998 w
  have HSZ := Lib.hid (st_size ho.h)
  have HAL := Lib.hid o.all
  have HSO := Lib.hid (Wst.len ho.h)
  clear hwa hf0 hb1 hb2 hb3 ho hh
  unfold Wst.val
  go_enter Tryd.func32, Tryd.ntmps32
  go_upto_region 1 with (fail)
  change Code.wp _ _ _ _ (((w.alloc (Obj.cells o.cells.toArray 47)).alloc (Obj.cells (h.map by8).toArray 32)).alloc (Obj.cells zSt.cells.toArray 47))
  rw [← HWA.out]
  by_cases hc : o.h = h
  · have HS : Hid (againS o h = o ∧ againE o h = 0) := Lib.hid (by unfold againS againE; simp [hc])
    rw [decide_eq_true hc] at hq
    clear hc
    go_wp2_with (first
      | (refine wpList_row rfl 32 _ rfl _ _ rfl _ HAT.out.hash (row_hash.of (by rw [List.length_map]; exact HO.out.h)) ?_)
      | (refine wpList_row rfl 32 _ rfl _ _ rfl _ HR2.out (row_hash.of (by rw [List.length_map]; exact HH.out)) ?_)
      | (refine wpList_row rfl 47 _ rfl _ _ rfl _ HAT.out.all (row_stamp0.of HSO.out) ?_)
      | (refine wpList_store_blk rfl 47 _ _ rfl (w.heap.size + 2) o.cells.toArray rfl rfl 47 _ HB3.out HSZ.out (by rw [List.size_toArray, List.size_toArray, HSO.out, zSt_len]) HAL.out ?_; intro w3 hb3 hf3))
    refine bodyPost_ret (v := .tuple #[.agg o.cells.toArray, .int .i64 0]) (results_ct Tryd.results32 _ _ (w.heap.size + 2) 47 _ _ _ (.int .i64 0) rfl rfl hb3 Tryd.underlying47 rfl HSZ.out) rfl ⟨?_, HF0.out.and hf3 (by simp)⟩
    rw [HS.out.1, HS.out.2]
  · have HS : Hid (againS o h = zSt ∧ againE o h = 5) := Lib.hid (by unfold againS againE; simp [hc])
    rw [decide_eq_false hc] at hq
    clear hc
    go_wp2_with (first
      | (refine wpList_row rfl 32 _ rfl _ _ rfl _ HAT.out.hash (row_hash.of (by rw [List.length_map]; exact HO.out.h)) ?_)
      | (refine wpList_row rfl 32 _ rfl _ _ rfl _ HR2.out (row_hash.of (by rw [List.length_map]; exact HH.out)) ?_)
      | (refine wpList_builtg rfl 47 _ rfl _ _ built_st0 rfl ?_)
      | (refine wpList_store_blk rfl 47 _ _ rfl (w.heap.size + 2) zSt.cells.toArray rfl rfl 47 _ HB3.out (by kernel_rfl) rfl zSt.all ?_; intro w3 hb3 hf3))
    refine bodyPost_ret (v := .tuple #[.agg zSt.cells.toArray, .int .i64 5]) (results_ct Tryd.results32 _ _ (w.heap.size + 2) 47 _ _ _ (.int .i64 5) rfl rfl hb3 Tryd.underlying47 rfl (by kernel_rfl)) rfl ⟨?_, HF0.out.and hf3 (by simp)⟩
    rw [HS.out.1, HS.out.2]
end Go.Proofs.YtacandocjjpfcaaDoor

namespace Go.Proofs.YtacandocjjpfcaaDoor
open Go.RowKit
set_option maxRecDepth 100000

/-! ### a struct is built of parts -/
def splice (l : List Value) (o : Nat) (v : List Value) : List Value := l.take o ++ (v ++ l.drop (o + v.length))
theorem splice_foldl : ∀ (v : List Value) (k o : Nat) (cs : Array Value), o + k + v.length ≤ cs.size →
    (v.zipIdx k).foldl (fun cs (c, j) => cs.setIfInBounds (o + j) c) cs = (splice cs.toList (o + k) v).toArray
  | [], k, o, cs, _ => by
    simp [splice]
  | c :: r, k, o, cs, h => by
    simp only [List.length_cons] at h
    rw [List.zipIdx_cons, List.foldl_cons, splice_foldl r (k + 1) o _ (by simp; omega)]
    congr 1
    unfold splice
    simp only [Array.toList_setIfInBounds, List.length_cons]
    have h1 : o + k < cs.toList.length := by simp; omega
    rw [show o + (k + 1) = (o + k) + 1 by omega, List.take_add_one, List.take_set_of_le (Nat.le_refl _), List.getElem?_set_self h1, List.drop_set_of_lt (by omega)]
    simp [Nat.add_assoc, Nat.add_comm, Nat.add_left_comm]
theorem fill_step (place : Nat → Option (Nat × Nat)) (cells : Array Value) (i off size : Nat) (v : Value) (rest : List (Nat × Value)) (hp : place i = some (off, size)) (h1 : v.cells.size = size) (h2 : off + size ≤ cells.size) :
    Instr.fill place cells ((i, v) :: rest) = Instr.fill place (splice cells.toList off v.cells.toList).toArray rest := by
  rw [Instr.fill, hp]
  simp only [h1]
  rw [if_neg (by simp; omega)]
  congr 1
  have e := splice_foldl v.cells.toList 0 off cells (by simp [h1]; omega)
  rw [Nat.add_zero] at e
  rw [← e, ← Array.foldl_toList, Array.toList_zipIdx]

def zeroCm : Array Value := (Cm.cells ⟨0, 0, List.replicate 32 0, 0, 0, 0⟩).toArray
def places : List (Nat × Nat) := [(0, 2), (2, 32), (34, 1), (35, 2)]
theorem built_eq (parts : List (Nat × Value)) : Tryd.prog.built 36 parts = Instr.fill (places.toArray[·]?) zeroCm parts := by kernel_rfl
theorem built_commit (c s n : Int) (h : List UInt8) (hh : h.length = 32) :
    Tryd.prog.built 36 [(0, .agg #[.int .i64 c, .int .i64 s]), (1, .agg (h.map by8).toArray), (2, .int .i64 n)] = some (Cm.cells ⟨c, s, h, n, 0, 0⟩).toArray := by
  have hz : zeroCm.size = 37 := rfl
  rw [built_eq, fill_step _ _ 0 0 2 _ _ rfl rfl (by rw [hz]; omega), fill_step _ _ 1 2 32 _ _ rfl (by simp [Value.cells, hh]) (by simp [splice, zeroCm, Cm.cells, Value.cells]),
    fill_step _ _ 2 34 1 _ _ rfl rfl (by simp [splice, zeroCm, Cm.cells, Value.cells, hh]), Instr.fill]
  congr 2
  simp [splice, zeroCm, Cm.cells, Value.cells, hh, List.drop_append]

theorem cells_sig (c s n b m b' m' : Int) (h : List UInt8) (hh : h.length = 32) : (((Cm.cells ⟨c, s, h, n, b, m⟩).toArray.setIfInBounds 35 (.int .i64 b')).setIfInBounds 36 (.int .i64 m')) = (Cm.cells ⟨c, s, h, n, b', m'⟩).toArray := by
  simp [Cm.cells, List.set_append, hh]
theorem setCells_two (w : World) (g o : Nat) (x y : Value) : w.setCells g o [x, y] = (w.setCell ⟨g, o, none⟩ x).setCell ⟨g, o + 1, none⟩ y := rfl
theorem Blk.there {w : World} {g : Nat} {t : TypeId} {cs : Array Value} (h : Blk w g t cs) (o n : Nat) (hl : o + n ≤ cs.size) : w.there g o n := fun j hj => by
  refine ⟨?_, h.frozen _⟩
  rw [h.cell, Array.getElem?_eq_getElem (by omega)]
  rfl
/-- what Make makes, its signature aside -/
def made0 (c s : Int) (h b : List UInt8) : Cm := ⟨c, s, sumL (ofL c s h b), b.length, 0, 0⟩
def made (c s : Int) (h b : List UInt8) (l : List Ent) : Cm :=
  ⟨c, s, sumL (ofL c s h b), b.length, 1000 + c, mrk (sgn l (1000 + c, (made0 c s h b).text)) (1000 + c, (made0 c s h b).text)⟩
theorem made_text (c s : Int) (h b : List UInt8) (l : List Ent) : (made c s h b l).text = (made0 c s h b).text := rfl

set_option maxHeartbeats 2000000 in
theorem make_any (c s : Int) (hc : 0 ≤ c ∧ c < 1099511627776) (hs : i64In s) (h : List UInt8) (hh : h.length = 32) (A : Option Addr) (n cap : Nat) (b : List UInt8) (w : World)
    (hb : By w A n b) (hA : ∀ k ∈ bk A, k < w.heap.size) (hn : n ≤ 1000000) (hK : KW w) (Sb : List Nat) (gb : Nat) (l : List Ent) (hbk : Bok w Sb gb l) (hl : l.length < 1048576) :
    Calls Tryd.prog 10 #[.pointer (some ⟨gb, 0, none⟩), .agg #[.int .i64 c, .int .i64 s], .agg (h.map by8).toArray, .slice A n cap] w fun e w' => e = .returned (made c s h b l).val ∧
      Bok w' Sb gb (sgn l (1000 + c, (made0 c s h b).text)) ∧ Fr Sb w w' := by
  obtain ⟨wa, hwa⟩ : ∃ wa, wa = ((w.alloc (Obj.cells #[.int .i64 c, .int .i64 s] 30)).alloc (Obj.cells (h.map by8).toArray 32)).alloc (Obj.cells zeroCm 36) := ⟨_, rfl⟩
  have hf0 : Fr [] w wa := by rw [hwa]; exact (((Fr.refl [] w).alloc _).alloc _).alloc _
  have hb1 : Blk wa w.heap.size 30 #[.int .i64 c, .int .i64 s] := by rw [hwa]; exact blk_alloc (blk_alloc (Blk.new _ _ _))
  have hb2 : Blk wa (w.heap.size + 1) 32 (h.map by8).toArray := by
    have := blk_alloc (t' := 36) (cs' := zeroCm) (Blk.new (w.alloc (Obj.cells #[.int .i64 c, .int .i64 s] 30)) 32 (h.map by8).toArray)
    rw [hwa]
    simpa using this
  have hb3 : Blk wa (w.heap.size + 2) 36 zeroCm := by
    have := Blk.new ((w.alloc (Obj.cells #[.int .i64 c, .int .i64 s] 30)).alloc (Obj.cells (h.map by8).toArray 32)) 36 zeroCm
    rw [hwa]
    simpa using this
  have HR1 := Lib.hid hb1.range
  have HC1 : Hid (wa.cell? ⟨w.heap.size, 0, none⟩ = some (.int .i64 c)) := Lib.hid (hb1.cell 0)
  have HR2 := Lib.hid hb2.range
  have HB3 := Lib.hid hb3
  have HF0 := Lib.hid hf0
  have HWA := Lib.hid hwa
  have HSB : Hid (∀ k ∈ Sb, k < w.heap.size) := Lib.hid hbk.lt
  have HBK := Lib.hid (hbk.keep hf0 (by simp))
  have HB := Lib.hid (hb.keep hf0 (by simp))
  have HBN := Lib.hid hb.1
  have HA : Hid (∀ k ∈ bk A, k < wa.heap.size) := Lib.hid (fun k hk => by have := hA k hk; have := hf0.size; omega)
  have HK := Lib.hid (hK.keep hf0 (by simp))
  have HH := Lib.hid hh
  have HC := Lib.hid hc
  have HS := Lib.hid hs
  have HL := Lib.hid hl
  clear hb1 hb2 hb3 hf0 hwa hb hA hK hh hc hs hbk hl
  have hof := fun W (hW : Fr [] wa W) => of_any c s (by have := HC.out; omega) (by have := HC.out; omega) HS.out.1 HS.out.2 h HH.out A n cap b W (HB.out.keep hW (by simp)) (fun k hk => by have := HA.out k hk; have := hW.size; omega) hn (HK.out.keep hW (by simp))
  have hbuilt := built_commit c s n (sumL (ofL c s h b)) (sumL_len _)
  have hx0 : (Cm.mk c s (sumL (ofL c s h b)) n 0 0) = made0 c s h b := by unfold made0; rw [HBN.out]
  rw [hx0] at hbuilt
  generalize hH : ((sumL (ofL c s h b)).map by8).toArray = H at *
  have hok0 : (made0 c s h b).Ok := ⟨⟨by have := HC.out; show _ ≤ c; omega, by have := HC.out; show c < _; omega⟩, HS.out, sumL_len _, ⟨by show _ ≤ ((b.length : Nat) : Int); omega, by have := HBN.out; show ((b.length : Nat) : Int) < _; omega⟩, ⟨by show _ ≤ (0 : Int); decide, by show (0 : Int) < _; decide⟩, ⟨by show _ ≤ (0 : Int); decide, by show (0 : Int) < _; decide⟩⟩
  have hcl := Cm.len hok0.h
  have hall := Cm.all (made0 c s h b)
  have hval : (made c s h b l).val = .agg (Cm.cells ⟨c, s, (made0 c s h b).h, (made0 c s h b).n, 1000 + c, mrk (sgn l (1000 + c, (made0 c s h b).text)) (1000 + c, (made0 c s h b).text)⟩).toArray := rfl
  have HVAL := Lib.hid hval
  have hx0c : (made0 c s h b).c = c := rfl
  have hx0s : (made0 c s h b).s = s := rfl
  have HX0S := Lib.hid hx0s
  have HX0C := Lib.hid hx0c
  have HOF := Lib.hid hof
  have HBUILT := Lib.hid hbuilt
  have HOK := Lib.hid hok0
  have HCL := Lib.hid hcl
  have HALL := Lib.hid hall
  clear hof hbuilt hx0 hok0 hcl hH hall hval hx0c hx0s
  generalize made0 c s h b = x0 at *
  go_enter Tryd.func10, Tryd.ntmps10
  go_upto_region 1 with (fail)
  change Code.wp _ _ _ _ (((w.alloc (Obj.cells #[.int .i64 c, .int .i64 s] 30)).alloc (Obj.cells (h.map by8).toArray 32)).alloc (Obj.cells zeroCm 36))
  rw [← HWA.out]
  refine wp_region_held_drew (S := Fr [] wa) (by kernel_rfl) (Fr.drew (Fr.refl _ wa)) (fun hHeld => ?_)
  refine row_at (i := 0) rfl (by kernel_rfl) (by rfl) _ _ rfl _ _ rfl _ (fun w1 hw1 => hw1.range (HR1.out) (by first | (simp; done) | exact HNS.out | exact HNW.out | (intro hm; have hlt := HSB.out _ hm; (try dsimp only at hlt); omega))) (row_name) (fun _ _ _ h => h) hHeld ?_
  simp only [Act.put, List.setIfInBounds_toArray, List.set_cons_zero, List.set_cons_succ]
  refine row_at (i := 1) rfl (by kernel_rfl) (by rfl) _ _ rfl _ _ rfl _ (fun w1 hw1 => hw1.range (HR1.out) (by first | (simp; done) | exact HNS.out | exact HNW.out | (intro hm; have hlt := HSB.out _ hm; (try dsimp only at hlt); omega))) (row_name) (fun _ _ _ h => h) hHeld ?_
  simp only [Act.put, List.setIfInBounds_toArray, List.set_cons_zero, List.set_cons_succ]
  refine row_at (i := 2) rfl (by kernel_rfl) (by rfl) _ _ rfl _ _ rfl _ (fun w1 hw1 => hw1.range (HR2.out) (by first | (simp; done) | exact HNS.out | exact HNW.out | (intro hm; have hlt := HSB.out _ hm; (try dsimp only at hlt); omega))) (row_hash.of (by rw [List.length_map]; exact HH.out)) (fun _ _ _ h => h) hHeld ?_
  simp only [Act.put, List.setIfInBounds_toArray, List.set_cons_zero, List.set_cons_succ]
  refine run_at (i := 3) (v := ?_) rfl (by kernel_rfl) (by rfl) (fun _ _ _ h => h) hHeld (fun w1 hw1 => ?_) ?_
  rotate_left 1
  · skip
    go_simp
    (try (first | with_reducible rfl | (apply And.intro <;> rfl)))
  simp only [Act.put, List.setIfInBounds_toArray, List.set_cons_zero, List.set_cons_succ]
  refine run_at (i := 5) (v := ?_) rfl (by kernel_rfl) (by rfl) (fun _ _ _ h => h) hHeld (fun w1 hw1 => ?_) ?_
  rotate_left 1
  · skip
    go_simp
    (try (first | with_reducible rfl | (apply And.intro <;> rfl)))
  simp only [Act.put, List.setIfInBounds_toArray, List.set_cons_zero, List.set_cons_succ]
  refine run_at (i := 6) (v := ?_) rfl (by kernel_rfl) (by rfl) (fun _ _ _ h => h) hHeld (fun w1 hw1 => ?_) ?_
  rotate_left 1
  · skip
    go_simp
    (try (first | with_reducible rfl | (apply And.intro <;> rfl)))
  simp only [Act.put, List.setIfInBounds_toArray, List.set_cons_zero, List.set_cons_succ]
  refine two_at (i := 4) (j := 8) rfl rfl (by kernel_rfl) (by rfl) (by rfl) (fun K hK => ?_) (fun K hK => ?_)
  focus
    refine wp_call (f := ?_) (args := ?_) ?_ ?_
    rotate_left 2
    · go_simp
      (try (first | with_reducible rfl | (apply And.intro <;> rfl)))
    refine (HOF.out _ hHeld).mono ?_
    rintro e w1 ⟨rfl, hf1⟩
    refine ⟨_, rfl, hK.out _ _ (hHeld.and hf1 (by simp)) (fun hHeld => ?_)⟩
    clear hK K
    simp only [Act.put, List.setIfInBounds_toArray, List.set_cons_zero, List.set_cons_succ]
    refine build_at (i := 7) rfl (by kernel_rfl) (by rfl) _ _ rfl _ _ (HBUILT.out) rfl (fun _ _ _ h => h) hHeld ?_
    simp only [Act.put, List.setIfInBounds_toArray, List.set_cons_zero, List.set_cons_succ]
    refine step_at (i := 8) rfl (by kernel_rfl) (by rfl) (fun K hK => ?_)
    refine wp_run (v := ?_) (w' := ?_) ?_ ?_
    rotate_left 2
    · go_simp
      (try (first | with_reducible rfl | (apply And.intro <;> rfl)))
    refine hK.out _ (w1.alloc (Obj.cells zeroCm 36)) (hHeld.alloc _) (fun hHeld => ?_)
    clear hK K
    simp only [Act.put, List.setIfInBounds_toArray, List.set_cons_zero, List.set_cons_succ]
    have HB9 := Lib.hid (Blk.new w1 36 zeroCm)
    have HG9 : Hid (wa.heap.size ≤ w1.heap.size) := Lib.hid (by have := hf1.size; exact this)
    generalize w1.alloc (Obj.cells zeroCm 36) = w2 at *
    generalize w1.heap.size = g9 at *
    clear hf1
  rotate_left
  focus
    refine wp_run (v := ?_) (w' := ?_) ?_ ?_
    rotate_left 2
    · go_simp
      (try (first | with_reducible rfl | (apply And.intro <;> rfl)))
    refine hK.out _ (wa.drew.alloc (Obj.cells zeroCm 36)) (hHeld.alloc _) (fun hHeld => ?_)
    clear hK K
    simp only [Act.put, List.setIfInBounds_toArray, List.set_cons_zero, List.set_cons_succ]
    refine call_at (i := 4) (f := ?_) (args := ?_) rfl (by kernel_rfl) (by rfl) ?_ ?_
    rotate_left 2
    · go_simp
      (try (first | with_reducible rfl | (apply And.intro <;> rfl)))
    refine (HOF.out _ hHeld).mono ?_
    rintro e w2 ⟨rfl, hf1⟩
    have HB9 : Hid (Blk w2 wa.heap.size 36 zeroCm) := Lib.hid ((Blk.new wa.drew 36 zeroCm).keep hf1 (by simp))
    refine ⟨_, rfl, hHeld.and hf1 (by simp), fun hHeld => ?_⟩
    clear hf1
    simp only [Act.put, List.setIfInBounds_toArray, List.set_cons_zero, List.set_cons_succ]
    refine build_at (i := 7) rfl (by kernel_rfl) (by rfl) _ _ rfl _ _ (HBUILT.out) rfl (fun _ _ _ h => h) hHeld ?_
    simp only [Act.put, List.setIfInBounds_toArray, List.set_cons_zero, List.set_cons_succ]
    obtain ⟨g9, hg9⟩ : ∃ g9, g9 = wa.heap.size := ⟨_, rfl⟩
    have HG9 : Hid (wa.heap.size ≤ g9) := Lib.hid (by rw [hg9]; exact Nat.le_refl _)
    rw [← hg9] at HB9 ⊢
    clear hg9
  all_goals
    refine step_at (i := 9) rfl (by kernel_rfl) (by rfl) (fun K hK => ?_)
    refine wp_store_blk 36 _ _ rfl g9 x0.cells.toArray rfl rfl 36 zeroCm HB9.out (by rw [List.size_toArray, HCL.out]; kernel_rfl) ((show zeroCm.size = 37 from rfl).trans (by rw [List.size_toArray, HCL.out])) HALL.out ?_
    intro w3 hb3 hf3
    refine hK.out _ _ (hHeld.go hf3 (by have := HG9.out; simpa using this)) (fun hHeld => ?_)
    clear hK K
    simp only [Act.put, List.setIfInBounds_toArray, List.set_cons_zero, List.set_cons_succ]
    refine wpAnyH_done (by kernel_rfl) ?_ _
    have HX9 := Lib.hid hb3
    have HF3 := Lib.hid hHeld
    clear hb3 hf3 HB9
    have hat := Cm.at_blk HX9.out HOK.out.h
    have HAT := Lib.hid hat
    have hwr : IntKind.i64.wrap (1000 + c) = 1000 + c := IntWalk.i64_in _ (by have := HC.out; omega)
    have HNS : Hid (¬ g9 ∈ Sb) := Lib.hid (fun hm => by have := HSB.out _ hm; have := HG9.out; have := HF0.out.size; omega)
    have HNW : Hid (¬ w.heap.size ∈ g9 :: Sb) := Lib.hid (fun hm => by
      have h1 := HB3.out.lt
      have h2 := HG9.out
      rcases List.mem_cons.1 hm with hm | hm
      · omega
      · have := HSB.out _ hm; omega)
    have HT := Lib.hid (fun W => text_any x0 HOK.out W)
    have HTL := Lib.hid (x0.text_len HOK.out)
    clear hat
    unfold Cm.val at HT
    go_upto_region 2 with (fail)
    refine wp_region_held_drew (S := Fr (g9 :: Sb) w3) (by kernel_rfl) (Fr.drew (Fr.refl _ w3)) (fun hHeld => ?_)
    refine run_at (i := 0) (v := ?_) rfl (by kernel_rfl) (by rfl) (fun _ _ _ h => h) hHeld (fun w1 hw1 => ?_) ?_
    rotate_left 1
    · skip
      go_simp
      (try (first | with_reducible rfl | (apply And.intro <;> rfl)))
    simp only [Act.put, List.setIfInBounds_toArray, List.set_cons_zero, List.set_cons_succ]
    refine run_at (i := 1) (v := ?_) rfl (by kernel_rfl) (by rfl) (fun _ _ _ h => h) hHeld (fun w1 hw1 => ?_) ?_
    rotate_left 1
    · skip
      go_simp
      (try (first | with_reducible rfl | (apply And.intro <;> rfl)))
    simp only [Act.put, List.setIfInBounds_toArray, List.set_cons_zero, List.set_cons_succ]
    refine run_at (i := 2) (v := ?_) rfl (by kernel_rfl) (by rfl) (fun _ _ _ h => h) hHeld (fun w1 hw1 => ?_) ?_
    rotate_left 1
    · skip
      have hcw0 := hw1.cell (HF3.out.cell HC1.out (by simp)) (by first | (simp; done) | exact HNS.out | exact HNW.out | (intro hm; have hlt := HSB.out _ hm; (try dsimp only at hlt); omega))
      go_simp
      (try (first | with_reducible rfl | (apply And.intro <;> rfl)))
    simp only [Act.put, List.setIfInBounds_toArray, List.set_cons_zero, List.set_cons_succ]
    refine run_at (i := 3) (v := ?_) rfl (by kernel_rfl) (by rfl) (fun _ _ _ h => h) hHeld (fun w1 hw1 => ?_) ?_
    rotate_left 1
    · skip
      go_simp
      (try (first | with_reducible rfl | (apply And.intro <;> rfl)))
    simp only [Act.put, List.setIfInBounds_toArray, List.set_cons_zero, List.set_cons_succ]
    refine step_at (i := 4) rfl (by kernel_rfl) (by rfl) (fun K hK => ?_)
    refine wp_row _ _ rfl _ _ rfl _ (HAT.out.all) (row_commit.of HCL.out) ?_
    refine hK.out _ _ hHeld (fun hHeld => ?_)
    clear hK K
    simp only [Act.put, List.setIfInBounds_toArray, List.set_cons_zero, List.set_cons_succ]
    refine call_at (i := 5) (f := ?_) (args := ?_) rfl (by kernel_rfl) (by rfl) ?_ ?_
    rotate_left 2
    · go_simp
      (try (first | with_reducible rfl | (apply And.intro <;> rfl)))
    have h := HT.out w3.drew
    have hsg := fun W (hW : Fr [] w3 W) A' n' c' (t : List UInt8) (hy : By W A' n' t) (hn : n' ≤ maxLen) => sign_any W Sb gb l ((HBK.out.keep HF3.out (by simp)).keep hW (by simp)) (1000 + c) (WalkArith.wf_i64 (by have := HC.out; omega)) A' n' c' t hy hn (by have := HL.out; omega)
    have HSG := Lib.hid hsg
    clear hsg
    generalize hXT : x0.text = X at *
    have HXT := Lib.hid hXT
    clear hXT
    refine h.mono ?_
    rintro e w4 ⟨A4, c4, rfl, hn4⟩
    have HF4 : Hid (Fr [] w3 w4) := Lib.hid ((Fr.drew (Fr.refl [] w3)).and hn4.2.1 (by simp))
    refine ⟨_, rfl, HF4.out.mono (by simp), fun hHeld => ?_⟩
    have HN4 := Lib.hid hn4
    clear hn4 h
    simp only [Act.put, List.setIfInBounds_toArray, List.set_cons_zero, List.set_cons_succ]
    refine call_at (i := 6) (f := ?_) (args := ?_) rfl (by kernel_rfl) (by rfl) ?_ ?_
    rotate_left 2
    · go_simp
      (try (first | with_reducible rfl | (apply And.intro <;> rfl)))
    refine (HSG.out w4 HF4.out A4 _ c4 X HN4.out.by (by have := HTL.out; unfold maxLen; omega)).mono ?_
    generalize mrk (sgn l (1000 + c, X)) (1000 + c, X) = mk at *
    rintro e w5 ⟨rfl, hb5, hf5⟩
    refine ⟨_, rfl, hHeld.trans hf5 (fun x hx _ => List.mem_cons_of_mem _ hx), fun hHeld => ?_⟩
    have HB5 := Lib.hid hb5
    have HF5 := Lib.hid (HF4.out.mono (T := Sb) (by simp) |>.trans hf5 (fun x hx _ => hx))
    have HX5 := Lib.hid ((HX9.out.keep HF4.out (by simp)).keep hf5 HNS.out)
    clear hb5 hf5 HN4
    simp only [Act.put, List.setIfInBounds_toArray, List.set_cons_zero, List.set_cons_succ]
    refine run_at (i := 7) (v := ?_) rfl (by kernel_rfl) (by rfl) (fun _ _ _ h => h) hHeld (fun w1 hw1 => ?_) ?_
    rotate_left 1
    · skip
      go_simp
      (try (first | with_reducible rfl | (apply And.intro <;> rfl)))
    simp only [Act.put, List.setIfInBounds_toArray, List.set_cons_zero, List.set_cons_succ]
    refine step_at (i := 8) rfl (by kernel_rfl) (by rfl) (fun K hK => ?_)
    refine wp_store_mid 34 _ _ rfl g9 35 #[.int .i64 (1000 + c), .int .i64 mk] rfl rfl (HX5.out.there 35 2 (by rw [List.size_toArray, HCL.out]; omega)) (by kernel_rfl) (by kernel_rfl) ?_
    have hb6 := (HX5.out.set 35 (.int .i64 (1000 + c))).set 36 (.int .i64 mk)
    rw [show x0.cells.toArray = (Cm.cells ⟨c, s, x0.h, x0.n, x0.b, x0.m⟩).toArray by rw [← HX0C.out, ← HX0S.out], cells_sig _ _ _ _ _ _ _ _ HOK.out.h] at hb6
    have hf6 : Fr [g9] w5 ((w5.setCell ⟨g9, 35, none⟩ (.int .i64 (1000 + c))).setCell ⟨g9, 36, none⟩ (.int .i64 mk)) := ((Fr.refl [g9] w5).setCell _ (fun _ => by simp) _).setCell _ (fun _ => by simp) _
    change K _ ((w5.setCell ⟨g9, 35, none⟩ (.int .i64 (1000 + c))).setCell ⟨g9, 36, none⟩ (.int .i64 mk))
    generalize (w5.setCell ⟨g9, 35, none⟩ (.int .i64 (1000 + c))).setCell ⟨g9, 36, none⟩ (.int .i64 mk) = w6 at *
    refine hK.out _ _ (hHeld.trans hf6 (fun x hx _ => by simp at hx; simp [hx])) (fun hHeld => ?_)
    clear hK K
    simp only [Act.put, List.setIfInBounds_toArray, List.set_cons_zero, List.set_cons_succ]
    refine wpAnyH_done (by kernel_rfl) ?_ _
    have HB6 := Lib.hid hb6
    have HBK6 := Lib.hid (HB5.out.keep hf6 (fun x hx he => HNS.out (by simp at he; rw [← he]; exact hx)))
    have HF6 : Hid (Fr Sb w w6) := Lib.hid (((HF0.out.and HF3.out (by simp)).mono (T := Sb) (by simp) |>.trans HF5.out (fun x hx _ => hx)).trans hf6 (fun x hx hl => by simp at hx; subst hx; have := HG9.out; have := HF0.out.size; omega))
    have HF63 := Lib.hid hf6
    have HALL6 := Lib.hid (Cm.all ⟨c, s, x0.h, x0.n, 1000 + c, mk⟩)
    have HCL6 := Lib.hid (Cm.len (x := ⟨c, s, x0.h, x0.n, 1000 + c, mk⟩) HOK.out.h)
    clear hb6 hf6
    generalize hD : (Cm.cells ⟨c, s, x0.h, x0.n, 1000 + c, mk⟩).toArray = D at *
    have HB3b := Lib.hid (((HB3.out.keep HF3.out (by simp)).keep HF5.out (fun hm => by have := HSB.out _ hm; omega)))
    have HB3c := Lib.hid (HB3b.out.keep HF63.out (by have := HG9.out; have := HB3.out.lt; simp; omega))
    have hsz : D.size = 37 := by rw [← hD, List.size_toArray]; exact HCL6.out
    have HSZ := Lib.hid hsz
    have HVAL2 := Lib.hid hD
    clear hsz hD
    go_wp2_with (first
      | (refine wpList_load_row rfl 36 _ rfl g9 rfl 36 D _ _ HB6.out Tryd.underlying36 rfl (by rw [HSZ.out]; kernel_rfl) ?_)
      | (refine wpList_store_row rfl 36 _ _ rfl (w.heap.size + 2) D rfl rfl 36 zeroCm HB3c.out (by rw [HSZ.out]; kernel_rfl) (by rw [HSZ.out]; rfl) HALL6.out ?_))
    have hgr := setRow_blk HB3c.out D
    have hfr := setRow_fr w6 (w.heap.size + 2) D
    refine bodyPost_ret (v := .agg D) (results_cell_row Tryd.results10 _ _ (w.heap.size + 2) 36 D _ _ rfl hgr Tryd.underlying36 rfl (by rw [HSZ.out]; kernel_rfl)) rfl ⟨?_, ?_, ?_⟩
    · rw [HVAL.out]
    · rw [HXT.out]
      exact HBK6.out.keep hfr (fun x hx hm => by have := HSB.out _ hx; simp at hm; omega)
    · exact HF6.out.trans hfr (fun x hx hl => by simp at hx; omega)
end Go.Proofs.YtacandocjjpfcaaDoor

namespace Go.Proofs.YtacandocjjpfcaaDoor
set_option maxRecDepth 100000
open Go.RowKit

def placesSt : List (Nat × Nat) := [(0, 1), (1, 2), (3, 32), (35, 1), (36, 2)]
theorem builtSt_eq (parts : List (Nat × Value)) : Tryd.prog.built 47 parts = Instr.fill (placesSt.toArray[·]?) zSt.cells.toArray parts := by kernel_rfl
theorem built_stamp (r c s : Int) (h : List UInt8) (t : Nat) (hh : h.length = 32) :
    Tryd.prog.built 47 [(0, .int .i64 r), (1, .agg #[.int .i64 c, .int .i64 s]), (2, .agg (h.map by8).toArray), (3, .int .u64 (t : Int))] = some (Wst.cells ⟨r, c, s, h, t, 0, 0⟩).toArray := by
  have hz : zSt.cells.toArray.size = 38 := rfl
  rw [builtSt_eq, fill_step _ _ 0 0 1 _ _ rfl rfl (by rw [hz]; omega), fill_step _ _ 1 1 2 _ _ rfl rfl (by simp [splice, zSt, Wst.cells, Value.cells]), fill_step _ _ 2 3 32 _ _ rfl (by simp [Value.cells, hh]) (by simp [splice, zSt, Wst.cells, Value.cells]),
    fill_step _ _ 3 35 1 _ _ rfl rfl (by simp [splice, zSt, Wst.cells, Value.cells, hh]), Instr.fill]
  congr 2
  simp [splice, zSt, Wst.cells, Value.cells, hh, List.drop_append]
theorem cells_sigSt (r c s b m b' m' : Int) (t : Nat) (h : List UInt8) (hh : h.length = 32) : (((Wst.cells ⟨r, c, s, h, t, b, m⟩).toArray.setIfInBounds 36 (.int .i64 b')).setIfInBounds 37 (.int .i64 m')) = (Wst.cells ⟨r, c, s, h, t, b', m'⟩).toArray := by
  simp [Wst.cells, List.set_append, hh]
theorem zeroMapSt (w : World) : (zeroValue 47).run Tryd.prog w = .ok zSt.val w := by kernel_rfl
theorem Sst.bare_ok {x : Sst} (hx : x.Ok) {z : Cm} (hz : z.Ok) (hn : x.next < 18446744073709551616) : (x.bare z).Ok := by
  have h1 := hx.r
  have h2 := conf_of hx.conf
  exact ⟨⟨by show _ ≤ x.r; omega, by show x.r < _; omega⟩, hz.c, hz.s, hz.h, hn, ⟨by show _ ≤ (0 : Int); decide, by show (0 : Int) < _; decide⟩, ⟨by show _ ≤ (0 : Int); decide, by show (0 : Int) < _; decide⟩⟩
def Sst.more (x : Sst) (z : Cm) (l : List Ent) : Sst := { x with la := x.next, l := x.l ++ [((z.c, z.s), x.given z l)] }
theorem Sst.given_eq (x : Sst) (z : Cm) (l : List Ent) : x.given z l = ⟨x.r, z.c, z.s, z.h, x.next, x.r, mrk (sgn l (x.r, (x.bare z).text)) (x.r, (x.bare z).text)⟩ := rfl
set_option maxHeartbeats 2000000 in
theorem give_any (w : World) (S : List Nat) (g : Nat) (x : Sst) (h : Sk w S g x) (hx : x.Ok) (Sb : List Nat) (gb : Nat) (l : List Ent) (hb : Bok w Sb gb l) (hl : l.length < 1048576) (hll : x.l.length < 1048576) (hSS : ∀ k ∈ S, ¬ k ∈ Sb) (z : Cm) (hz : z.Ok)
    (hn : x.next < 18446744073709551615) (hlk : x.l.lookup (z.c, z.s) = none) :
    Calls Tryd.prog 34 #[.pointer (some ⟨g, 0, none⟩), .pointer (some ⟨gb, 0, none⟩), z.val, .int .u64 (x.next : Int)] w fun e w' => e = .returned (x.given z l).val ∧ Sk w' S g (x.more z l) ∧ Bok w' Sb gb (sgn l (x.r, (x.bare z).text)) ∧ Fr (S ++ Sb) w w' := by
  obtain ⟨wa, hwa⟩ : ∃ wa, wa = (w.alloc (Obj.cells z.cells.toArray 36)).alloc (Obj.cells zSt.cells.toArray 47) := ⟨_, rfl⟩
  have hf0 : Fr [] w wa := by rw [hwa]; exact ((Fr.refl [] w).alloc _).alloc _
  have hb1 : Blk wa w.heap.size 36 z.cells.toArray := by rw [hwa]; exact blk_alloc (Blk.new _ _ _)
  have hb2 : Blk wa (w.heap.size + 1) 47 zSt.cells.toArray := by
    have := Blk.new (w.alloc (Obj.cells z.cells.toArray 36)) 47 zSt.cells.toArray
    rw [hwa]
    simpa using this
  have HAT := Lib.hid (Cm.at_blk hb1 hz.h)
  have HB2 := Lib.hid hb2
  have HF0 := Lib.hid hf0
  have HWA := Lib.hid hwa
  have HSB : Hid (∀ k ∈ Sb, k < w.heap.size) := Lib.hid hb.lt
  have HSS : Hid (∀ k ∈ S, k < w.heap.size) := Lib.hid h.lt
  have HSK := Lib.hid (h.keep hf0 (by simp))
  have HBK := Lib.hid (hb.keep hf0 (by simp))
  have HD := Lib.hid hSS
  have HZ := Lib.hid hz
  have HX := Lib.hid hx
  have HL := Lib.hid hl
  have HLL := Lib.hid hll
  have HLK := Lib.hid hlk
  have HY := Lib.hid (Sst.bare_ok hx hz (by omega))
  have HBU := Lib.hid (built_stamp x.r z.c z.s z.h x.next hz.h)
  obtain ⟨b, hS, -, -, h2, -, -, -, -, -, -⟩ := HSK.out.cell0
  have HS := Lib.hid hS
  have HRB : Hid (i64In x.r) := Lib.hid (by have h1 := hx.r; have h2 := conf_of hx.conf; exact ⟨by omega, by omega⟩)
  have HG : Hid (g ∈ S) := Lib.hid h.mem
  clear hwa hf0 hb1 hb2 h hx hb hl hll hSS hz hlk hS hn
  obtain ⟨y0, hy0⟩ : ∃ y0, y0 = x.bare z := ⟨_, rfl⟩
  have HY0 := Lib.hid hy0
  rw [show (Wst.mk x.r z.c z.s z.h x.next 0 0) = y0 from hy0.symm] at HBU
  rw [← hy0] at HY
  clear hy0
  unfold Cm.val
  generalize hC : z.cells.toArray = C at *
  clear hC
  go_enter Tryd.func34, Tryd.ntmps34
  go_upto_region 1 with (fail)
  change Code.wp _ _ _ _ ((w.alloc (Obj.cells C 36)).alloc (Obj.cells zSt.cells.toArray 47))
  rw [← HWA.out]
  refine wp_region_held_drew (S := Fr [] wa) (by kernel_rfl) (Fr.drew (Fr.refl _ wa)) (fun hHeld => ?_)
  refine run_at (i := 0) (v := ?_) rfl (by kernel_rfl) (by rfl) (fun _ _ _ h => h) hHeld (fun w1 hw1 => ?_) ?_
  rotate_left 1
  · skip
    go_simp
    (try (first | with_reducible rfl | (apply And.intro <;> rfl)))
  simp only [Act.put, List.setIfInBounds_toArray, List.set_cons_zero, List.set_cons_succ]
  refine run_at (i := 1) (v := ?_) rfl (by kernel_rfl) (by rfl) (fun _ _ _ h => h) hHeld (fun w1 hw1 => ?_) ?_
  rotate_left 1
  · skip
    go_simp
    (try (first | with_reducible rfl | (apply And.intro <;> rfl)))
  simp only [Act.put, List.setIfInBounds_toArray, List.set_cons_zero, List.set_cons_succ]
  refine run_at (i := 2) (v := ?_) rfl (by kernel_rfl) (by rfl) (fun _ _ _ h => h) hHeld (fun w1 hw1 => ?_) ?_
  rotate_left 1
  · skip
    go_simp
    (try (first | with_reducible rfl | (apply And.intro <;> rfl)))
  simp only [Act.put, List.setIfInBounds_toArray, List.set_cons_zero, List.set_cons_succ]
  refine run_at (i := 3) (v := ?_) rfl (by kernel_rfl) (by rfl) (fun _ _ _ h => h) hHeld (fun w1 hw1 => ?_) ?_
  rotate_left 1
  · skip
    have hcw0 := hw1.cell (h2) (by first | (simp; done) | exact HNS.out | exact HNW.out | (intro hm; have hlt := HSB.out _ hm; (try dsimp only at hlt); omega))
    go_simp
    (try (first | with_reducible rfl | (apply And.intro <;> rfl)))
  simp only [Act.put, List.setIfInBounds_toArray, List.set_cons_zero, List.set_cons_succ]
  refine run_at (i := 4) (v := ?_) rfl (by kernel_rfl) (by rfl) (fun _ _ _ h => h) hHeld (fun w1 hw1 => ?_) ?_
  rotate_left 1
  · skip
    go_simp
    (try (first | with_reducible rfl | (apply And.intro <;> rfl)))
  simp only [Act.put, List.setIfInBounds_toArray, List.set_cons_zero, List.set_cons_succ]
  refine row_at (i := 5) rfl (by kernel_rfl) (by rfl) _ _ rfl _ _ rfl _ (fun w1 hw1 => hw1.range (HAT.out.name) (by first | (simp; done) | exact HNS.out | exact HNW.out | (intro hm; have hlt := HSB.out _ hm; (try dsimp only at hlt); omega))) (row_name) (fun _ _ _ h => h) hHeld ?_
  simp only [Act.put, List.setIfInBounds_toArray, List.set_cons_zero, List.set_cons_succ]
  refine run_at (i := 6) (v := ?_) rfl (by kernel_rfl) (by rfl) (fun _ _ _ h => h) hHeld (fun w1 hw1 => ?_) ?_
  rotate_left 1
  · skip
    go_simp
    (try (first | with_reducible rfl | (apply And.intro <;> rfl)))
  simp only [Act.put, List.setIfInBounds_toArray, List.set_cons_zero, List.set_cons_succ]
  refine row_at (i := 7) rfl (by kernel_rfl) (by rfl) _ _ rfl _ _ rfl _ (fun w1 hw1 => hw1.range (HAT.out.hash) (by first | (simp; done) | exact HNS.out | exact HNW.out | (intro hm; have hlt := HSB.out _ hm; (try dsimp only at hlt); omega))) (row_hash.of (by rw [List.length_map]; exact HZ.out.h)) (fun _ _ _ h => h) hHeld ?_
  simp only [Act.put, List.setIfInBounds_toArray, List.set_cons_zero, List.set_cons_succ]
  refine run_at (i := 8) (v := ?_) rfl (by kernel_rfl) (by rfl) (fun _ _ _ h => h) hHeld (fun w1 hw1 => ?_) ?_
  rotate_left 1
  · skip
    go_simp
    (try (first | with_reducible rfl | (apply And.intro <;> rfl)))
  simp only [Act.put, List.setIfInBounds_toArray, List.set_cons_zero, List.set_cons_succ]
  refine build_at (i := 9) rfl (by kernel_rfl) (by rfl) _ _ rfl _ _ (HBU.out) rfl (fun _ _ _ h => h) hHeld ?_
  simp only [Act.put, List.setIfInBounds_toArray, List.set_cons_zero, List.set_cons_succ]
  refine step_at (i := 10) rfl (by kernel_rfl) (by rfl) (fun K hK => ?_)
  refine wp_run (v := ?_) (w' := ?_) ?_ ?_
  rotate_left 2
  · go_simp
    (try (first | with_reducible rfl | (apply And.intro <;> rfl)))
  have hb9 : Blk (wa.drew.alloc (Obj.cells zSt.cells.toArray 47)) wa.heap.size 47 zSt.cells.toArray := Blk.new wa.drew _ _
  refine hK.out _ (wa.drew.alloc (Obj.cells zSt.cells.toArray 47)) (hHeld.alloc _) (fun hHeld => ?_)
  clear hK K
  simp only [Act.put, List.setIfInBounds_toArray, List.set_cons_zero, List.set_cons_succ]
  have HG9 : Hid (w.heap.size + 1 < wa.heap.size) := Lib.hid HB2.out.lt
  generalize wa.drew.alloc (Obj.cells zSt.cells.toArray 47) = wb at *
  obtain ⟨g9, hg9⟩ : ∃ g9, g9 = wa.heap.size := ⟨_, rfl⟩
  rw [← hg9] at hb9 HG9 ⊢
  have HG9E := Lib.hid hg9
  clear hg9
  refine step_at (i := 11) rfl (by kernel_rfl) (by rfl) (fun K hK => ?_)
  refine wp_store_blk 47 _ _ rfl g9 y0.cells.toArray rfl rfl 47 _ hb9 (st_size HY.out.h) (by rw [List.size_toArray, List.size_toArray, Wst.len HY.out.h, zSt_len]) y0.all ?_
  intro w1 hb1 hf1
  refine hK.out _ _ (hHeld.go hf1 (by have := HG9E.out; simpa using Nat.le_of_eq this.symm)) (fun hHeld => ?_)
  clear hK K
  simp only [Act.put, List.setIfInBounds_toArray, List.set_cons_zero, List.set_cons_succ]
  refine wpAnyH_done (by kernel_rfl) ?_ _
  have HX9 := Lib.hid hb1
  have HF1 := Lib.hid hHeld
  have h2' := HF1.out.cell h2 (by simp)
  have HNS : Hid (¬ g9 ∈ Sb) := Lib.hid (fun hm => by have := HSB.out _ hm; have := HG9.out; omega)
  have HNW : Hid (¬ g ∈ g9 :: Sb) := Lib.hid (fun hm => by
    have h1 := HSS.out _ HG.out
    have h3 := HG9.out
    rcases List.mem_cons.1 hm with hm | hm
    · omega
    · exact HD.out _ HG.out hm)
  have HT := Lib.hid (fun W => stampText_any y0 HY.out W)
  have HTL := Lib.hid (Wst.text_len HY.out)
  have HLN := Lib.hid (Wst.len HY.out.h)
  have HBK1 := Lib.hid (HBK.out.keep HF1.out (by simp))
  unfold Wst.val at HT
  clear hb1 hf1 hb9 hHeld h2
  go_upto_region 2 with (fail)
  refine wp_region_held_drew (S := Fr (g9 :: Sb) w1) (by kernel_rfl) (Fr.drew (Fr.refl _ w1)) (fun hHeld => ?_)
  refine run_at (i := 0) (v := ?_) rfl (by kernel_rfl) (by rfl) (fun _ _ _ h => h) hHeld (fun w1 hw1 => ?_) ?_
  rotate_left 1
  · skip
    go_simp
    (try (first | with_reducible rfl | (apply And.intro <;> rfl)))
  simp only [Act.put, List.setIfInBounds_toArray, List.set_cons_zero, List.set_cons_succ]
  refine run_at (i := 1) (v := ?_) rfl (by kernel_rfl) (by rfl) (fun _ _ _ h => h) hHeld (fun w1 hw1 => ?_) ?_
  rotate_left 1
  · skip
    go_simp
    (try (first | with_reducible rfl | (apply And.intro <;> rfl)))
  simp only [Act.put, List.setIfInBounds_toArray, List.set_cons_zero, List.set_cons_succ]
  refine run_at (i := 2) (v := ?_) rfl (by kernel_rfl) (by rfl) (fun _ _ _ h => h) hHeld (fun w1 hw1 => ?_) ?_
  rotate_left 1
  · skip
    go_simp
    (try (first | with_reducible rfl | (apply And.intro <;> rfl)))
  simp only [Act.put, List.setIfInBounds_toArray, List.set_cons_zero, List.set_cons_succ]
  refine run_at (i := 3) (v := ?_) rfl (by kernel_rfl) (by rfl) (fun _ _ _ h => h) hHeld (fun w1 hw1 => ?_) ?_
  rotate_left 1
  · skip
    go_simp
    (try (first | with_reducible rfl | (apply And.intro <;> rfl)))
  simp only [Act.put, List.setIfInBounds_toArray, List.set_cons_zero, List.set_cons_succ]
  refine run_at (i := 4) (v := ?_) rfl (by kernel_rfl) (by rfl) (fun _ _ _ h => h) hHeld (fun w1 hw1 => ?_) ?_
  rotate_left 1
  · skip
    have hcw0 := hw1.cell (h2') (by first | (simp; done) | exact HNS.out | exact HNW.out | (intro hm; have hlt := HSB.out _ hm; (try dsimp only at hlt); omega))
    go_simp
    (try (first | with_reducible rfl | (apply And.intro <;> rfl)))
  simp only [Act.put, List.setIfInBounds_toArray, List.set_cons_zero, List.set_cons_succ]
  refine step_at (i := 5) rfl (by kernel_rfl) (by rfl) (fun K hK => ?_)
  refine wp_row _ _ rfl _ _ rfl _ (HX9.out.range) (row_stamp0.of HLN.out) ?_
  refine hK.out _ _ hHeld (fun hHeld => ?_)
  clear hK K
  simp only [Act.put, List.setIfInBounds_toArray, List.set_cons_zero, List.set_cons_succ]
  refine call_at (i := 6) (f := ?_) (args := ?_) rfl (by kernel_rfl) (by rfl) ?_ ?_
  rotate_left 2
  · go_simp
    (try (first | with_reducible rfl | (apply And.intro <;> rfl)))
  have hh := HT.out w1.drew
  have hsg := fun W (hW : Fr [] w1 W) A' n' c' (t : List UInt8) (hy : By W A' n' t) (hn : n' ≤ maxLen) => sign_any W Sb gb l (HBK1.out.keep hW (by simp)) x.r (wf_i64In HRB.out) A' n' c' t hy hn (by have := HL.out; omega)
  have HSG := Lib.hid hsg
  clear hsg
  generalize hXT : y0.text = X at *
  have HXT := Lib.hid hXT
  clear hXT
  refine hh.mono ?_
  rintro e w2 ⟨A4, c4, rfl, hn4⟩
  have HF2 : Hid (Fr [] w1 w2) := Lib.hid ((Fr.drew (Fr.refl [] w1)).and hn4.2.1 (by simp))
  refine ⟨_, rfl, HF2.out.mono (by simp), fun hHeld => ?_⟩
  have HN4 := Lib.hid hn4
  clear hn4 hh
  simp only [Act.put, List.setIfInBounds_toArray, List.set_cons_zero, List.set_cons_succ]
  refine call_at (i := 7) (f := ?_) (args := ?_) rfl (by kernel_rfl) (by rfl) ?_ ?_
  rotate_left 2
  · go_simp
    (try (first | with_reducible rfl | (apply And.intro <;> rfl)))
  refine (HSG.out w2 HF2.out A4 _ c4 X HN4.out.by (by have := HTL.out; unfold maxLen; omega)).mono ?_
  obtain ⟨mk, hmk⟩ : ∃ mk, mk = mrk (sgn l (x.r, X)) (x.r, X) := ⟨_, rfl⟩
  rw [← hmk]
  have HMK := Lib.hid hmk
  clear hmk
  rintro e w3 ⟨rfl, hb5, hf5⟩
  refine ⟨_, rfl, hHeld.trans hf5 (fun x hx _ => List.mem_cons_of_mem _ hx), fun hHeld => ?_⟩
  have HB5 := Lib.hid hb5
  have HF5 := Lib.hid (HF2.out.mono (T := Sb) (by simp) |>.trans hf5 (fun x hx _ => hx))
  have HX5 := Lib.hid ((HX9.out.keep HF2.out (by simp)).keep hf5 HNS.out)
  clear hb5 hf5 HN4
  simp only [Act.put, List.setIfInBounds_toArray, List.set_cons_zero, List.set_cons_succ]
  refine run_at (i := 8) (v := ?_) rfl (by kernel_rfl) (by rfl) (fun _ _ _ h => h) hHeld (fun w1 hw1 => ?_) ?_
  rotate_left 1
  · skip
    go_simp
    (try (first | with_reducible rfl | (apply And.intro <;> rfl)))
  simp only [Act.put, List.setIfInBounds_toArray, List.set_cons_zero, List.set_cons_succ]
  refine step_at (i := 9) rfl (by kernel_rfl) (by rfl) (fun K hK => ?_)
  refine wp_store_mid 34 _ _ rfl g9 36 #[.int .i64 x.r, .int .i64 mk] rfl rfl (HX5.out.there 36 2 (by rw [List.size_toArray, HLN.out]; omega)) (by kernel_rfl) (by kernel_rfl) ?_
  have hb6 := (HX5.out.set 36 (.int .i64 x.r)).set 37 (.int .i64 mk)
  have HYV : Hid (x.given z l = ⟨x.r, z.c, z.s, z.h, x.next, x.r, mk⟩) := Lib.hid (by rw [Sst.given_eq, HMK.out, ← HXT.out, HY0.out])
  rw [HY0.out, show (x.bare z).cells.toArray = (Wst.cells ⟨x.r, z.c, z.s, z.h, x.next, 0, 0⟩).toArray from rfl, cells_sigSt _ _ _ _ _ _ _ _ _ HZ.out.h, ← HYV.out] at hb6
  have hf6 : Fr [g9] w3 ((w3.setCell ⟨g9, 36, none⟩ (.int .i64 x.r)).setCell ⟨g9, 37, none⟩ (.int .i64 mk)) := ((Fr.refl [g9] w3).setCell _ (fun _ => by simp) _).setCell _ (fun _ => by simp) _
  change K _ ((w3.setCell ⟨g9, 36, none⟩ (.int .i64 x.r)).setCell ⟨g9, 37, none⟩ (.int .i64 mk))
  generalize (w3.setCell ⟨g9, 36, none⟩ (.int .i64 x.r)).setCell ⟨g9, 37, none⟩ (.int .i64 mk) = w4 at *
  refine hK.out _ _ (hHeld.trans hf6 (fun x hx _ => by simp at hx; simp [hx])) (fun hHeld => ?_)
  clear hK K
  simp only [Act.put, List.setIfInBounds_toArray, List.set_cons_zero, List.set_cons_succ]
  refine wpAnyH_done (by kernel_rfl) ?_ _
  clear hHeld h2'
  have HX6 := Lib.hid hb6
  have HGS : Hid (∀ k ∈ S, ¬ k = g9) := Lib.hid (fun k hk hm => by have := HSS.out k hk; have := HG9.out; omega)
  have hsk4 : Sk w4 S g x := ((HSK.out.keep HF1.out (by simp)).keep HF5.out HD.out).keep hf6 (fun k hk hm => HGS.out k hk (by simpa using hm))
  have hb24 : Blk w4 (w.heap.size + 1) 47 zSt.cells.toArray := ((HB2.out.keep HF1.out (by simp)).keep HF5.out (fun hm => by have := HSB.out _ hm; omega)).keep hf6 (by have := HG9.out; simp; omega)
  have hnm4 : w4.rangeAt w.heap.size 0 [.int .i64 z.c, .int .i64 z.s] := hf6.range (HF5.out.range (HF1.out.range HAT.out.name (by simp)) (fun hm => by have := HSB.out _ hm; omega)) (by have := HG9.out; simp; omega)
  have hbk4 : Bok w4 Sb gb (sgn l (x.r, X)) := HB5.out.keep hf6 (fun k hk hm => HNS.out (by simp at hm; rw [← hm]; exact hk))
  have hfr4 : Fr Sb w w4 := ((HF0.out.and HF1.out (by simp)).mono (T := Sb) (by simp) |>.trans HF5.out (fun x hx _ => hx)).trans hf6 (fun x hx hl => by simp at hx; subst hx; have := HG9.out; omega)
  have HSK4 := Lib.hid hsk4
  have HB24 := Lib.hid hb24
  have HNM4 := Lib.hid hnm4
  have HBK4 := Lib.hid hbk4
  have HFR4 := Lib.hid hfr4
  have HALY := Lib.hid (x.given z l).all
  have HYS : Hid ((Tryd.prog.info? 47).map (·.size) = some (x.given z l).cells.toArray.size ∧ (x.given z l).cells.length = 38) := Lib.hid ⟨st_size (by rw [HYV.out]; exact HZ.out.h), Wst.len (by rw [HYV.out]; exact HZ.out.h)⟩
  clear hb6 hf6 hsk4 hb24 hnm4 hbk4 hfr4
  obtain ⟨Y, hY⟩ : ∃ Y, Y = x.given z l := ⟨_, rfl⟩
  rw [← hY] at HX6 HALY HYS
  have HYE := Lib.hid hY
  clear hY
  obtain ⟨b4, hS4, -, -, -, -, -, -, h6, hbs4, hmap4⟩ := HSK4.out.cell0
  have HS4 := Lib.hid hS4
  have HBS4 := Lib.hid hbs4
  obtain ⟨v0, st, w5, hent, hf5, hst⟩ := hmap4.drew.entry Tryd.underlying70 (by rw [encS_len]; have := HLL.out; unfold maxLen; omega) zeroMapSt (x := (z.c, z.s)) ⟨HZ.out.c, HZ.out.s⟩ (by rw [encS_look, HLK.out]; rfl)
  have hent' : (Instr.mapEntry 70 (.map (some b4)) (.agg #[.int .i64 z.c, .int .i64 z.s])).run Tryd.prog w4.drew = .ok (.tuple #[v0, goInt st]) w5 := hent
  obtain ⟨w6, hsto, hmap6, hf6⟩ := hst w5 Y.val rfl
  have hsto' : (Instr.entryStore 70 (.map (some b4)) (.int .i64 st) (.agg Y.cells.toArray)).run Tryd.prog w5 = .ok () w6 := hsto
  have HENT := Lib.hid hent'
  have HSTO := Lib.hid hsto'
  have HMAP6 := Lib.hid hmap6
  have HF5' : Hid (Fr [b4] w4 w5) := Lib.hid ((Fr.drew (Fr.refl [b4] w4)).trans hf5 (fun x hx _ => hx))
  have HF6' : Hid (Fr [b4] w4 w6) := Lib.hid (HF5'.out.trans hf6 (fun x hx _ => hx))
  have HGB : Hid (¬ g = b4) := Lib.hid (fun e => hmap4.ne hbs4 e)
  have HS4B : Hid (b4 ∈ S) := Lib.hid (by rw [hS4]; simp)
  clear hent hst hent' hsto hsto' hmap6 hf5 hf6 hmap4 hbs4 hS4
  go_upto_region 3 with (fail)
  refine wp_region_held_drew (S := fun W => Fr [g, b4] w4 W ∧ W.cell? ⟨g, 6, none⟩ = some (.map (some b4))) (by kernel_rfl) ⟨Fr.drew (Fr.refl _ w4), h6⟩ (fun hHeld => ?_)
  refine run_at (i := 0) (v := ?_) rfl (by kernel_rfl) (by rfl) (fun _ _ _ h => h) hHeld (fun w1 hw1 => ?_) ?_
  rotate_left 1
  · skip
    go_simp
    (try (first | with_reducible rfl | (apply And.intro <;> rfl)))
  simp only [Act.put, List.setIfInBounds_toArray, List.set_cons_zero, List.set_cons_succ]
  refine run_at (i := 1) (v := ?_) rfl (by kernel_rfl) (by rfl) (fun _ _ _ h => h) hHeld (fun w1 hw1 => ?_) ?_
  rotate_left 1
  · skip
    go_simp
    (try (first | with_reducible rfl | (apply And.intro <;> rfl)))
  simp only [Act.put, List.setIfInBounds_toArray, List.set_cons_zero, List.set_cons_succ]
  refine run_at (i := 2) (v := ?_) rfl (by kernel_rfl) (by rfl) (fun _ _ _ h => h) hHeld (fun w1 hw1 => ?_) ?_
  rotate_left 1
  · skip
    go_simp
    (try (first | with_reducible rfl | (apply And.intro <;> rfl)))
  simp only [Act.put, List.setIfInBounds_toArray, List.set_cons_zero, List.set_cons_succ]
  refine run_at (i := 3) (v := ?_) rfl (by kernel_rfl) (by rfl) (fun _ _ _ h => h) hHeld (fun w1 hw1 => ?_) ?_
  rotate_left 1
  · skip
    have hcw0 := hw1.2
    go_simp
    (try (first | with_reducible rfl | (apply And.intro <;> rfl)))
  simp only [Act.put, List.setIfInBounds_toArray, List.set_cons_zero, List.set_cons_succ]
  refine run_at (i := 4) (v := ?_) rfl (by kernel_rfl) (by rfl) (fun _ _ _ h => h) hHeld (fun w1 hw1 => ?_) ?_
  rotate_left 1
  · skip
    go_simp
    (try (first | with_reducible rfl | (apply And.intro <;> rfl)))
  simp only [Act.put, List.setIfInBounds_toArray, List.set_cons_zero, List.set_cons_succ]
  refine row_at (i := 5) rfl (by kernel_rfl) (by rfl) _ _ rfl _ _ rfl _ (fun w1 hw1 => hw1.1.range HNM4.out (by have := HSS.out _ HG.out; have := HSS.out _ HS4B.out; simp; omega)) (row_name) (fun _ _ _ h => h) hHeld ?_
  simp only [Act.put, List.setIfInBounds_toArray, List.set_cons_zero, List.set_cons_succ]
  refine run_at (i := 6) (v := ?_) rfl (by kernel_rfl) (by rfl) (fun _ _ _ h => h) hHeld (fun w1 hw1 => ?_) ?_
  rotate_left 1
  · skip
    go_simp
    (try (first | with_reducible rfl | (apply And.intro <;> rfl)))
  simp only [Act.put, List.setIfInBounds_toArray, List.set_cons_zero, List.set_cons_succ]
  refine row_at (i := 7) rfl (by kernel_rfl) (by rfl) _ _ rfl _ _ rfl _ (fun w1 hw1 => hw1.1.range HX6.out.range (by have := HGS.out _ HG.out; have := HGS.out _ HS4B.out; simp; omega)) (row_stamp0.of HYS.out.2) (fun _ _ _ h => h) hHeld ?_
  simp only [Act.put, List.setIfInBounds_toArray, List.set_cons_zero, List.set_cons_succ]
  refine run_at (i := 8) (v := ?_) rfl (by kernel_rfl) (by rfl) (fun _ _ _ h => h) hHeld (fun w1 hw1 => ?_) ?_
  rotate_left 1
  · skip
    go_simp
    (try (first | with_reducible rfl | (apply And.intro <;> rfl)))
  simp only [Act.put, List.setIfInBounds_toArray, List.set_cons_zero, List.set_cons_succ]
  refine step_at (i := 9) rfl (by kernel_rfl) (by rfl) (fun K hK => ?_)
  refine wp_run (v := ?_) (w' := ?_) ?_ ?_
  rotate_left 2
  · have hrun := HENT.out
    go_simp
    (try (first | with_reducible rfl | (apply And.intro <;> rfl)))
  refine hK.out _ w5 ⟨HF5'.out.mono (by simp), HF5'.out.cell h6 (by simpa using HGB.out)⟩ (fun hHeld => ?_)
  clear hK K
  simp only [Act.put, List.setIfInBounds_toArray, List.set_cons_zero, List.set_cons_succ]
  refine run_at (i := 10) (v := ?_) rfl (by kernel_rfl) (by rfl) (fun _ _ _ h => h) hHeld (fun w1 hw1 => ?_) ?_
  rotate_left 1
  · skip
    go_simp
    (try (first | with_reducible rfl | (apply And.intro <;> rfl)))
  simp only [Act.put, List.setIfInBounds_toArray, List.set_cons_zero, List.set_cons_succ]
  refine step_at (i := 11) rfl (by kernel_rfl) (by rfl) (fun K hK => ?_)
  refine wp_skip1 (w' := ?_) ?_ ?_
  rotate_left 1
  · have hrun := HSTO.out
    go_simp
    (try (first | with_reducible rfl | (apply And.intro <;> rfl)))
  refine hK.out _ w6 ⟨HF6'.out.mono (by simp), HF6'.out.cell h6 (by simpa using HGB.out)⟩ (fun hHeld => ?_)
  clear hK K
  simp only [Act.put, List.setIfInBounds_toArray, List.set_cons_zero, List.set_cons_succ]
  refine run_at (i := 12) (v := ?_) rfl (by kernel_rfl) (by rfl) (fun _ _ _ h => h) hHeld (fun w1 hw1 => ?_) ?_
  rotate_left 1
  · skip
    go_simp
    (try (first | with_reducible rfl | (apply And.intro <;> rfl)))
  simp only [Act.put, List.setIfInBounds_toArray, List.set_cons_zero, List.set_cons_succ]
  refine run_at (i := 13) (v := ?_) rfl (by kernel_rfl) (by rfl) (fun _ _ _ h => h) hHeld (fun w1 hw1 => ?_) ?_
  rotate_left 1
  · skip
    go_simp
    (try (first | with_reducible rfl | (apply And.intro <;> rfl)))
  simp only [Act.put, List.setIfInBounds_toArray, List.set_cons_zero, List.set_cons_succ]
  refine step_at (i := 14) rfl (by kernel_rfl) (by rfl) (fun K hK => ?_)
  have hbs6 := HBS4.out.keep HF6'.out (by simpa using HGB.out)
  refine wp_store_cell1 _ _ _ rfl g 5 (.int .u64 (x.next : Int)) rfl rfl rfl 90 _ hbs6 (by simp [Sst.cells]) (by kernel_rfl) ?_
  have hsk7 : Sk (w6.setCell ⟨g, 5, none⟩ (.int .u64 (x.next : Int))) S g (x.more z l) := by
    refine ⟨b4, HS4.out, hbs6.set 5 _, ?_⟩
    have e : encS (x.more z l).l = encS x.l ++ [((z.c, z.s), Y.val)] := by rw [HYE.out]; exact encS_snoc _ _ _
    rw [e]
    exact HMAP6.out.keep ((Fr.refl [g] w6).setCell ⟨g, 5, none⟩ (by simp) _) (by simpa using fun e => HGB.out e.symm)
  have hf7 : Fr [g, b4] w4 (w6.setCell ⟨g, 5, none⟩ (.int .u64 (x.next : Int))) := (HF6'.out.mono (T := [g, b4]) (by simp)).setCell _ (fun _ => by simp) _
  have hc7 : (w6.setCell ⟨g, 5, none⟩ (.int .u64 (x.next : Int))).cell? ⟨g, 6, none⟩ = some (.map (some b4)) := by
    rw [(hbs6.set 5 _).cell 6]
    rfl
  generalize w6.setCell ⟨g, 5, none⟩ (.int .u64 (x.next : Int)) = w7 at *
  refine hK.out _ w7 ⟨hf7, hc7⟩ (fun hHeld => ?_)
  clear hK K
  simp only [Act.put, List.setIfInBounds_toArray, List.set_cons_zero, List.set_cons_succ]
  refine wpAnyH_done (by kernel_rfl) ?_ _
  have HSK7 := Lib.hid hsk7
  have HF7 := Lib.hid hf7
  have HB7 := Lib.hid (HB24.out.keep hf7 (by have := HSS.out _ HG.out; have := HSS.out _ HS4B.out; simp; omega))
  have HX7 := Lib.hid (HX6.out.keep hf7 (by have := HGS.out _ HG.out; have := HGS.out _ HS4B.out; simp; omega))
  have HBK7 := Lib.hid (HBK4.out.keep hf7 (fun k hk hm => by
    simp at hm
    rcases hm with rfl | rfl
    · exact HD.out _ HG.out hk
    · exact HD.out _ HS4B.out hk))
  clear hHeld hsk7 hf7 hc7 hbs6 h6
  go_wp2_with (first
    | (refine wpList_row rfl 47 _ rfl _ _ rfl _ HX7.out.range (row_stamp0.of HYS.out.2) ?_)
    | (refine wpList_store_blk rfl 47 _ _ rfl (w.heap.size + 1) Y.cells.toArray rfl rfl 47 _ HB7.out HYS.out.1 (by rw [List.size_toArray, List.size_toArray, HYS.out.2, zSt_len]) HALY.out ?_; intro w8 hb8 hf8))
  refine bodyPost_ret (v := .agg Y.cells.toArray) (results_cell_row Tryd.results34 _ _ (w.heap.size + 1) 47 _ _ _ rfl hb8 Tryd.underlying47 rfl HYS.out.1) rfl ⟨?_, HSK7.out.keep hf8 (fun k hk hm => by have := HSS.out _ hk; simp at hm; omega), ?_, ?_⟩
  · rw [HYE.out]; rfl
  · rw [← HY0.out, HXT.out]
    exact HBK7.out.keep hf8 (fun k hk hm => by have := HSB.out _ hk; simp at hm; omega)
  · refine ((HFR4.out.mono (T := S ++ Sb) (fun k hk _ => List.mem_append.2 (.inr hk))).trans HF7.out (fun k hk _ => ?_)).trans hf8 (fun k hk hl => by simp at hk; omega)
    simp at hk
    rcases hk with rfl | rfl
    · exact List.mem_append.2 (.inl HG.out)
    · exact List.mem_append.2 (.inl HS4B.out)
end Go.Proofs.YtacandocjjpfcaaDoor

namespace Go.Proofs.YtacandocjjpfcaaDoor
set_option maxRecDepth 100000
open Go.RowKit

theorem Sk.conf {w : World} {S : List Nat} {g : Nat} {x : Sst} (h : Sk w S g x) : w.rangeAt g 0 [.int .i64 x.f, .int .i64 x.k] := by
  obtain ⟨b, -, h0, h1, -⟩ := h.cell0
  intro j v hv
  rcases j with _ | _ | j
  · simp at hv; subst hv; exact h0
  · simp at hv; subst hv; exact h1
  · simp at hv
set_option maxHeartbeats 2000000 in
theorem stamp_not (w : World) (S : List Nat) (g : Nat) (x : Sst) (h : Sk w S g x) (hx : x.Ok) (Sb : List Nat) (gb : Nat) (l : List Ent) (hb : Bok w Sb gb l) (hl : l.length < 1048576) (hll : x.l.length < 1048576) (hSS : ∀ k ∈ S, ¬ k ∈ Sb) (z : Cm) (hz : z.Ok) (hr : rightC x.k l z = false) :
    Calls Tryd.prog 14 #[.pointer (some ⟨g, 0, none⟩), .pointer (some ⟨gb, 0, none⟩), z.val] w fun e w' => e = .returned (.tuple #[zSt.val, .int .i64 3]) ∧ Sk w' S g x ∧ Bok w' Sb gb l ∧ Fr [] w w' := by
  obtain ⟨wa, hwa⟩ : ∃ wa, wa = (w.alloc (Obj.cells z.cells.toArray 36)).alloc (Obj.cells zSt.cells.toArray 47) := ⟨_, rfl⟩
  have hf0 : Fr [] w wa := by rw [hwa]; exact ((Fr.refl [] w).alloc _).alloc _
  have hb1 : Blk wa w.heap.size 36 z.cells.toArray := by rw [hwa]; exact blk_alloc (Blk.new _ _ _)
  have hb2 : Blk wa (w.heap.size + 1) 47 zSt.cells.toArray := by
    have := Blk.new (w.alloc (Obj.cells z.cells.toArray 36)) 47 zSt.cells.toArray
    rw [hwa]
    simpa using this
  have HAT := Lib.hid (Cm.at_blk hb1 hz.h)
  have HB2 := Lib.hid hb2
  have HF0 := Lib.hid hf0
  have HWA := Lib.hid hwa
  have HSK := Lib.hid (h.keep hf0 (by simp))
  have HBK := Lib.hid (hb.keep hf0 (by simp))
  have HSB : Hid (∀ k ∈ Sb, k < w.heap.size) := Lib.hid hb.lt
  have HSS : Hid (∀ k ∈ S, k < w.heap.size) := Lib.hid h.lt
  have HD := Lib.hid hSS
  have HZ := Lib.hid hz
  have HX := Lib.hid hx
  have HL := Lib.hid hl
  have HLL := Lib.hid hll
  have HCL := Lib.hid (Cm.len hz.h)
  have HR := Lib.hid hr
  clear hwa hf0 hb1 hb2 h hx hb hl hll hSS hz hr
  have HRT := Lib.hid (fun W (hW : Fr [] wa W) => cright_any x.f x.k z HZ.out W Sb gb l (HBK.out.keep hW (by simp)))
  unfold Cm.val at HRT ⊢
  generalize hC : z.cells = C at *
  have HCE := Lib.hid hC
  clear hC
  go_enter Tryd.func14, Tryd.ntmps14
  go_upto_region 1 with (fail)
  change Code.wp _ _ _ _ ((w.alloc (Obj.cells C.toArray 36)).alloc (Obj.cells zSt.cells.toArray 47))
  rw [← HWA.out]
  refine wp_region_held_drew (S := Fr [] wa) (by kernel_rfl) (Fr.drew (Fr.refl _ wa)) (fun hHeld => ?_)
  refine run_at (i := 0) (v := ?_) rfl (by kernel_rfl) (by rfl) (fun _ _ _ h => h) hHeld (fun w1 hw1 => ?_) ?_
  rotate_left 1
  · skip
    go_simp
    (try (first | with_reducible rfl | (apply And.intro <;> rfl)))
  simp only [Act.put, List.setIfInBounds_toArray, List.set_cons_zero, List.set_cons_succ]
  refine run_at (i := 1) (v := ?_) rfl (by kernel_rfl) (by rfl) (fun _ _ _ h => h) hHeld (fun w1 hw1 => ?_) ?_
  rotate_left 1
  · skip
    go_simp
    (try (first | with_reducible rfl | (apply And.intro <;> rfl)))
  simp only [Act.put, List.setIfInBounds_toArray, List.set_cons_zero, List.set_cons_succ]
  refine run_at (i := 2) (v := ?_) rfl (by kernel_rfl) (by rfl) (fun _ _ _ h => h) hHeld (fun w1 hw1 => ?_) ?_
  rotate_left 1
  · skip
    go_simp
    (try (first | with_reducible rfl | (apply And.intro <;> rfl)))
  simp only [Act.put, List.setIfInBounds_toArray, List.set_cons_zero, List.set_cons_succ]
  refine row_at (i := 3) rfl (by kernel_rfl) (by rfl) _ _ rfl _ _ rfl _ (fun w1 hw1 => hw1.range (HSK.out.conf) (by first | (simp; done) | exact HNS.out | exact HNW.out | (intro hm; have hlt := HSB.out _ hm; (try dsimp only at hlt); omega))) (row_conf) (fun _ _ _ h => h) hHeld ?_
  simp only [Act.put, List.setIfInBounds_toArray, List.set_cons_zero, List.set_cons_succ]
  refine run_at (i := 4) (v := ?_) rfl (by kernel_rfl) (by rfl) (fun _ _ _ h => h) hHeld (fun w1 hw1 => ?_) ?_
  rotate_left 1
  · skip
    go_simp
    (try (first | with_reducible rfl | (apply And.intro <;> rfl)))
  simp only [Act.put, List.setIfInBounds_toArray, List.set_cons_zero, List.set_cons_succ]
  refine row_at (i := 5) rfl (by kernel_rfl) (by rfl) _ _ rfl _ _ rfl _ (fun w1 hw1 => hw1.range ((HCE.out ▸ HAT.out.all)) (by first | (simp; done) | exact HNS.out | exact HNW.out | (intro hm; have hlt := HSB.out _ hm; (try dsimp only at hlt); omega))) (row_commit.of HCL.out) (fun _ _ _ h => h) hHeld ?_
  simp only [Act.put, List.setIfInBounds_toArray, List.set_cons_zero, List.set_cons_succ]
  refine call_at (i := 6) (f := ?_) (args := ?_) rfl (by kernel_rfl) (by rfl) ?_ ?_
  rotate_left 2
  · go_simp
    (try (first | with_reducible rfl | (apply And.intro <;> rfl)))
  refine (HRT.out _ hHeld).mono ?_
  rw [HR.out]
  rintro e w1 ⟨rfl, hf1⟩
  refine ⟨_, rfl, hHeld.and hf1 (by simp), fun hHeld => ?_⟩
  clear hf1
  simp only [Act.put, List.setIfInBounds_toArray, List.set_cons_zero, List.set_cons_succ]
  refine run_at (i := 7) (v := ?_) rfl (by kernel_rfl) (by rfl) (fun _ _ _ h => h) hHeld (fun w1 hw1 => ?_) ?_
  rotate_left 1
  · skip
    go_simp
    (try (first | with_reducible rfl | (apply And.intro <;> rfl)))
  simp only [Act.put, List.setIfInBounds_toArray, List.set_cons_zero, List.set_cons_succ]
  refine wpAnyH_done (by kernel_rfl) ?_ _
  have HF1 := Lib.hid hHeld
  have HB21 := Lib.hid (HB2.out.keep HF1.out (by simp))
  clear hHeld
  go_wp2_with (first
    | (refine wpList_builtg rfl 47 _ rfl _ _ built_st0 rfl ?_)
    | (refine wpList_store_blk rfl 47 _ _ rfl (w.heap.size + 1) zSt.cells.toArray rfl rfl 47 _ HB21.out (by kernel_rfl) rfl zSt.all ?_; intro w9 hb9 hf9))
  refine bodyPost_ret (v := .tuple #[.agg zSt.cells.toArray, .int .i64 3]) (results_ct Tryd.results14 _ _ (w.heap.size + 1) 47 _ _ _ (.int .i64 3) rfl rfl hb9 Tryd.underlying47 rfl (by kernel_rfl)) rfl ⟨rfl, (HSK.out.keep HF1.out (by simp)).keep hf9 (fun k hk hm => by have := HSS.out k hk; simp at hm; omega), (HBK.out.keep HF1.out (by simp)).keep hf9 (fun k hk hm => by have := HSB.out k hk; simp at hm; omega), (HF0.out.and HF1.out (by simp)).and hf9 (by simp)⟩
set_option maxHeartbeats 2000000 in
theorem stamp_old (w : World) (S : List Nat) (g : Nat) (x : Sst) (h : Sk w S g x) (hx : x.Ok) (Sb : List Nat) (gb : Nat) (l : List Ent) (hb : Bok w Sb gb l) (hl : l.length < 1048576) (hll : x.l.length < 1048576) (hSS : ∀ k ∈ S, ¬ k ∈ Sb) (z : Cm) (hz : z.Ok) (hr : rightC x.k l z = true) (o : Wst) (hlk : x.l.lookup (z.c, z.s) = some o) :
    Calls Tryd.prog 14 #[.pointer (some ⟨g, 0, none⟩), .pointer (some ⟨gb, 0, none⟩), z.val] w fun e w' => e = .returned (.tuple #[(againS o z.h).val, .int .i64 (againE o z.h)]) ∧ Sk w' S g x ∧ Bok w' Sb gb l ∧ Fr [] w w' := by
  obtain ⟨wa, hwa⟩ : ∃ wa, wa = (w.alloc (Obj.cells z.cells.toArray 36)).alloc (Obj.cells zSt.cells.toArray 47) := ⟨_, rfl⟩
  have hf0 : Fr [] w wa := by rw [hwa]; exact ((Fr.refl [] w).alloc _).alloc _
  have hb1 : Blk wa w.heap.size 36 z.cells.toArray := by rw [hwa]; exact blk_alloc (Blk.new _ _ _)
  have hb2 : Blk wa (w.heap.size + 1) 47 zSt.cells.toArray := by
    have := Blk.new (w.alloc (Obj.cells z.cells.toArray 36)) 47 zSt.cells.toArray
    rw [hwa]
    simpa using this
  have HAT := Lib.hid (Cm.at_blk hb1 hz.h)
  have HB2 := Lib.hid hb2
  have HF0 := Lib.hid hf0
  have HWA := Lib.hid hwa
  have HSK := Lib.hid (h.keep hf0 (by simp))
  have HBK := Lib.hid (hb.keep hf0 (by simp))
  have HSB : Hid (∀ k ∈ Sb, k < w.heap.size) := Lib.hid hb.lt
  have HSS : Hid (∀ k ∈ S, k < w.heap.size) := Lib.hid h.lt
  have HD := Lib.hid hSS
  have HZ := Lib.hid hz
  have HX := Lib.hid hx
  have HL := Lib.hid hl
  have HLL := Lib.hid hll
  have HCL := Lib.hid (Cm.len hz.h)
  have HR := Lib.hid hr
  clear hwa hf0 hb1 hb2 h hx hb hl hll hSS hz hr
  have HRT := Lib.hid (fun W (hW : Fr [] wa W) => cright_any x.f x.k z HZ.out W Sb gb l (HBK.out.keep hW (by simp)))
  unfold Cm.val at HRT ⊢
  generalize hC : z.cells = C at *
  have HCE := Lib.hid hC
  clear hC
  have HLK := Lib.hid hlk
  have HO := Lib.hid (HX.out.l _ _ hlk).1
  have HAG := Lib.hid (fun W => again_any o HO.out z.h HZ.out.h W)
  unfold Wst.val at HAG ⊢
  clear hlk
  go_enter Tryd.func14, Tryd.ntmps14
  go_upto_region 1 with (fail)
  change Code.wp _ _ _ _ ((w.alloc (Obj.cells C.toArray 36)).alloc (Obj.cells zSt.cells.toArray 47))
  rw [← HWA.out]
  refine wp_region_held_drew (S := Fr [] wa) (by kernel_rfl) (Fr.drew (Fr.refl _ wa)) (fun hHeld => ?_)
  refine run_at (i := 0) (v := ?_) rfl (by kernel_rfl) (by rfl) (fun _ _ _ h => h) hHeld (fun w1 hw1 => ?_) ?_
  rotate_left 1
  · skip
    go_simp
    (try (first | with_reducible rfl | (apply And.intro <;> rfl)))
  simp only [Act.put, List.setIfInBounds_toArray, List.set_cons_zero, List.set_cons_succ]
  refine run_at (i := 1) (v := ?_) rfl (by kernel_rfl) (by rfl) (fun _ _ _ h => h) hHeld (fun w1 hw1 => ?_) ?_
  rotate_left 1
  · skip
    go_simp
    (try (first | with_reducible rfl | (apply And.intro <;> rfl)))
  simp only [Act.put, List.setIfInBounds_toArray, List.set_cons_zero, List.set_cons_succ]
  refine run_at (i := 2) (v := ?_) rfl (by kernel_rfl) (by rfl) (fun _ _ _ h => h) hHeld (fun w1 hw1 => ?_) ?_
  rotate_left 1
  · skip
    go_simp
    (try (first | with_reducible rfl | (apply And.intro <;> rfl)))
  simp only [Act.put, List.setIfInBounds_toArray, List.set_cons_zero, List.set_cons_succ]
  refine row_at (i := 3) rfl (by kernel_rfl) (by rfl) _ _ rfl _ _ rfl _ (fun w1 hw1 => hw1.range (HSK.out.conf) (by first | (simp; done) | exact HNS.out | exact HNW.out | (intro hm; have hlt := HSB.out _ hm; (try dsimp only at hlt); omega))) (row_conf) (fun _ _ _ h => h) hHeld ?_
  simp only [Act.put, List.setIfInBounds_toArray, List.set_cons_zero, List.set_cons_succ]
  refine run_at (i := 4) (v := ?_) rfl (by kernel_rfl) (by rfl) (fun _ _ _ h => h) hHeld (fun w1 hw1 => ?_) ?_
  rotate_left 1
  · skip
    go_simp
    (try (first | with_reducible rfl | (apply And.intro <;> rfl)))
  simp only [Act.put, List.setIfInBounds_toArray, List.set_cons_zero, List.set_cons_succ]
  refine row_at (i := 5) rfl (by kernel_rfl) (by rfl) _ _ rfl _ _ rfl _ (fun w1 hw1 => hw1.range ((HCE.out ▸ HAT.out.all)) (by first | (simp; done) | exact HNS.out | exact HNW.out | (intro hm; have hlt := HSB.out _ hm; (try dsimp only at hlt); omega))) (row_commit.of HCL.out) (fun _ _ _ h => h) hHeld ?_
  simp only [Act.put, List.setIfInBounds_toArray, List.set_cons_zero, List.set_cons_succ]
  refine call_at (i := 6) (f := ?_) (args := ?_) rfl (by kernel_rfl) (by rfl) ?_ ?_
  rotate_left 2
  · go_simp
    (try (first | with_reducible rfl | (apply And.intro <;> rfl)))
  refine (HRT.out _ hHeld).mono ?_
  rw [HR.out]
  rintro e w1 ⟨rfl, hf1⟩
  refine ⟨_, rfl, hHeld.and hf1 (by simp), fun hHeld => ?_⟩
  clear hf1
  simp only [Act.put, List.setIfInBounds_toArray, List.set_cons_zero, List.set_cons_succ]
  refine run_at (i := 7) (v := ?_) rfl (by kernel_rfl) (by rfl) (fun _ _ _ h => h) hHeld (fun w1 hw1 => ?_) ?_
  rotate_left 1
  · skip
    go_simp
    (try (first | with_reducible rfl | (apply And.intro <;> rfl)))
  simp only [Act.put, List.setIfInBounds_toArray, List.set_cons_zero, List.set_cons_succ]
  refine wpAnyH_done (by kernel_rfl) ?_ _
  have HF1 := Lib.hid hHeld
  have HB21 := Lib.hid (HB2.out.keep HF1.out (by simp))
  clear hHeld
  obtain ⟨b, hS, -, -, -, -, -, -, h6, -, hmap⟩ := (HSK.out.keep HF1.out (by simp)).cell0
  have HMAP := Lib.hid hmap
  have HG : Hid (g < w.heap.size ∧ b < w.heap.size) := Lib.hid ⟨HSS.out g (by rw [hS]; simp), HSS.out b (by rw [hS]; simp)⟩
  have hlk : ∀ W, Fr [] w1 W → (Instr.lookup 70 (.map (some b)) (.agg #[.int .i64 z.c, .int .i64 z.s]) true).run Tryd.prog W = .ok (.tuple #[.agg o.cells.toArray, .bool true]) W := fun W hW => by
    have := (HMAP.out.keep hW (by simp)).look Tryd.underlying70 zeroMapSt (x := (z.c, z.s)) ⟨HZ.out.c, HZ.out.s⟩
    rw [encS_look, HLK.out] at this
    exact this
  have HLOOK := Lib.hid hlk
  have HNM := Lib.hid (HF1.out.range HAT.out.name (by simp))
  have HHS := Lib.hid (HF1.out.range HAT.out.hash (by simp))
  have HCM := Lib.hid (HF1.out.range HAT.out.all (by simp))
  have HSZ := Lib.hid (Sk.lt HSK.out)
  have HG1 : Hid (w.heap.size + 1 < w1.heap.size) := Lib.hid HB21.out.lt
  clear hlk hmap hS
  go_upto_region 3 with (fail)
  refine wp_region_held_drew (S := Fr [] w1) (by kernel_rfl) (Fr.drew (Fr.refl _ w1)) (fun hHeld => ?_)
  refine run_at (i := 0) (v := ?_) rfl (by kernel_rfl) (by rfl) (fun _ _ _ h => h) hHeld (fun w1 hw1 => ?_) ?_
  rotate_left 1
  · skip
    go_simp
    (try (first | with_reducible rfl | (apply And.intro <;> rfl)))
  simp only [Act.put, List.setIfInBounds_toArray, List.set_cons_zero, List.set_cons_succ]
  refine run_at (i := 1) (v := ?_) rfl (by kernel_rfl) (by rfl) (fun _ _ _ h => h) hHeld (fun w1 hw1 => ?_) ?_
  rotate_left 1
  · skip
    go_simp
    (try (first | with_reducible rfl | (apply And.intro <;> rfl)))
  simp only [Act.put, List.setIfInBounds_toArray, List.set_cons_zero, List.set_cons_succ]
  refine run_at (i := 2) (v := ?_) rfl (by kernel_rfl) (by rfl) (fun _ _ _ h => h) hHeld (fun w1 hw1 => ?_) ?_
  rotate_left 1
  · skip
    go_simp
    (try (first | with_reducible rfl | (apply And.intro <;> rfl)))
  simp only [Act.put, List.setIfInBounds_toArray, List.set_cons_zero, List.set_cons_succ]
  refine run_at (i := 3) (v := ?_) rfl (by kernel_rfl) (by rfl) (fun _ _ _ h => h) hHeld (fun w1 hw1 => ?_) ?_
  rotate_left 1
  · skip
    have hcw0 := hw1.cell (h6) (by first | (simp; done) | exact HNS.out | exact HNW.out | (intro hm; have hlt := HSB.out _ hm; (try dsimp only at hlt); omega))
    go_simp
    (try (first | with_reducible rfl | (apply And.intro <;> rfl)))
  simp only [Act.put, List.setIfInBounds_toArray, List.set_cons_zero, List.set_cons_succ]
  refine run_at (i := 4) (v := ?_) rfl (by kernel_rfl) (by rfl) (fun _ _ _ h => h) hHeld (fun w1 hw1 => ?_) ?_
  rotate_left 1
  · skip
    go_simp
    (try (first | with_reducible rfl | (apply And.intro <;> rfl)))
  simp only [Act.put, List.setIfInBounds_toArray, List.set_cons_zero, List.set_cons_succ]
  refine row_at (i := 5) rfl (by kernel_rfl) (by rfl) _ _ rfl _ _ rfl _ (fun w1 hw1 => hw1.range (HNM.out) (by first | (simp; done) | exact HNS.out | exact HNW.out | (intro hm; have hlt := HSB.out _ hm; (try dsimp only at hlt); omega))) (row_name) (fun _ _ _ h => h) hHeld ?_
  simp only [Act.put, List.setIfInBounds_toArray, List.set_cons_zero, List.set_cons_succ]
  refine run_at (i := 6) (v := ?_) rfl (by kernel_rfl) (by rfl) (fun _ _ _ h => h) hHeld (fun w1 hw1 => ?_) ?_
  rotate_left 1
  · skip
    have hcw0 := HLOOK.out w1 hw1
    go_simp
    (try (first | with_reducible rfl | (apply And.intro <;> rfl)))
  simp only [Act.put, List.setIfInBounds_toArray, List.set_cons_zero, List.set_cons_succ]
  refine run_at (i := 7) (v := ?_) rfl (by kernel_rfl) (by rfl) (fun _ _ _ h => h) hHeld (fun w1 hw1 => ?_) ?_
  rotate_left 1
  · skip
    go_simp
    (try (first | with_reducible rfl | (apply And.intro <;> rfl)))
  simp only [Act.put, List.setIfInBounds_toArray, List.set_cons_zero, List.set_cons_succ]
  refine run_at (i := 8) (v := ?_) rfl (by kernel_rfl) (by rfl) (fun _ _ _ h => h) hHeld (fun w1 hw1 => ?_) ?_
  rotate_left 1
  · skip
    go_simp
    (try (first | with_reducible rfl | (apply And.intro <;> rfl)))
  simp only [Act.put, List.setIfInBounds_toArray, List.set_cons_zero, List.set_cons_succ]
  refine run_at (i := 9) (v := ?_) rfl (by kernel_rfl) (by rfl) (fun _ _ _ h => h) hHeld (fun w1 hw1 => ?_) ?_
  rotate_left 1
  · skip
    go_simp
    (try (first | with_reducible rfl | (apply And.intro <;> rfl)))
  simp only [Act.put, List.setIfInBounds_toArray, List.set_cons_zero, List.set_cons_succ]
  refine step_at (i := 10) rfl (by kernel_rfl) (by rfl) (fun K hK => ?_)
  refine wp_run (v := ?_) (w' := ?_) ?_ ?_
  rotate_left 2
  · go_simp
    (try (first | with_reducible rfl | (apply And.intro <;> rfl)))
  have hb8 : Blk (w1.drew.alloc (Obj.cells zSt.cells.toArray 47)) w1.heap.size 47 zSt.cells.toArray := Blk.new w1.drew _ _
  refine hK.out _ (w1.drew.alloc (Obj.cells zSt.cells.toArray 47)) (hHeld.alloc _) (fun hHeld => ?_)
  clear hK K
  simp only [Act.put, List.setIfInBounds_toArray, List.set_cons_zero, List.set_cons_succ]
  generalize w1.drew.alloc (Obj.cells zSt.cells.toArray 47) = wb at *
  obtain ⟨g8, hg8⟩ : ∃ g8, g8 = w1.heap.size := ⟨_, rfl⟩
  rw [← hg8] at hb8 HG1 ⊢
  have HG8E := Lib.hid hg8
  clear hg8
  refine step_at (i := 11) rfl (by kernel_rfl) (by rfl) (fun K hK => ?_)
  refine wp_store_blk 47 _ _ rfl g8 o.cells.toArray rfl rfl 47 _ hb8 (st_size HO.out.h) (by rw [List.size_toArray, List.size_toArray, zSt_len, Wst.len HO.out.h]) o.all ?_
  intro w2 hb2 hf2
  refine hK.out _ _ (hHeld.go hf2 (by have := HG8E.out; simpa using Nat.le_of_eq this.symm)) (fun hHeld => ?_)
  clear hK K
  simp only [Act.put, List.setIfInBounds_toArray, List.set_cons_zero, List.set_cons_succ]
  refine run_at (i := 12) (v := ?_) rfl (by kernel_rfl) (by rfl) (fun _ _ _ h => h) hHeld (fun w1 hw1 => ?_) ?_
  rotate_left 1
  · skip
    go_simp
    (try (first | with_reducible rfl | (apply And.intro <;> rfl)))
  simp only [Act.put, List.setIfInBounds_toArray, List.set_cons_zero, List.set_cons_succ]
  refine wpAnyH_done (by kernel_rfl) ?_ _
  have HX8 := Lib.hid hb2
  have HF2 := Lib.hid hHeld
  have HFW := Lib.hid ((HF0.out.and HF1.out (by simp)).and HF2.out (by simp))
  have HB22 := Lib.hid (HB21.out.keep HF2.out (by simp))
  have HSK2 := Lib.hid ((HSK.out.keep HF1.out (by simp)).keep HF2.out (by simp))
  have HBK2 := Lib.hid ((HBK.out.keep HF1.out (by simp)).keep HF2.out (by simp))
  have HHS2 := Lib.hid (HF2.out.range HHS.out (by simp))
  have HCM2 := Lib.hid (HF2.out.range HCM.out (by simp))
  clear hb2 hf2 hb8 hHeld h6
  have HLO := Lib.hid (Wst.len HO.out.h)
  go_wp2_with (first
    | (refine wpList_row rfl 47 _ rfl _ _ rfl _ HX8.out.range (row_stamp0.of HLO.out) ?_)
    | (refine wpList_row rfl 32 _ rfl _ _ rfl _ HHS2.out (row_hash.of (by rw [List.length_map]; exact HZ.out.h)) ?_))
  refine (HAG.out _).mono ?_
  have HAO : Hid ((againS o z.h).h.length = 32) := Lib.hid (by unfold againS; split; exact HO.out.h; rfl)
  obtain ⟨Y, hY⟩ : ∃ Y, Y = againS o z.h := ⟨_, rfl⟩
  obtain ⟨E, hE⟩ : ∃ E, E = againE o z.h := ⟨_, rfl⟩
  have HYE := Lib.hid hY
  have HEE := Lib.hid hE
  rw [← hY, ← hE]
  rw [← hY] at HAO
  clear hY hE
  rintro e w3 ⟨rfl, hf3⟩
  have HB23 := Lib.hid (HB22.out.keep hf3 (by simp))
  have HYS := Lib.hid (st_size HAO.out)
  have HYL := Lib.hid (Wst.len HAO.out)
  have HF3 := Lib.hid hf3
  clear hf3
  go_wp2_with (refine wpList_store_blk rfl 47 _ _ rfl (w.heap.size + 1) Y.cells.toArray rfl rfl 47 _ HB23.out HYS.out (by rw [List.size_toArray, List.size_toArray, zSt_len, HYL.out]) Y.all ?_; intro w9 hb9 hf9)
  refine bodyPost_ret (v := .tuple #[.agg Y.cells.toArray, .int .i64 E]) (results_ct Tryd.results14 _ _ (w.heap.size + 1) 47 _ _ _ (.int .i64 E) rfl rfl hb9 Tryd.underlying47 rfl HYS.out) rfl ⟨by rw [HYE.out, HEE.out], (HSK2.out.keep HF3.out (by simp)).keep hf9 (fun k hk hm => by have := HSS.out k hk; simp at hm; omega), (HBK2.out.keep HF3.out (by simp)).keep hf9 (fun k hk hm => by have := HSB.out k hk; simp at hm; omega), (HFW.out.and HF3.out (by simp)).and hf9 (by simp)⟩
set_option maxHeartbeats 2000000 in
theorem stamp_end (w : World) (S : List Nat) (g : Nat) (x : Sst) (h : Sk w S g x) (hx : x.Ok) (Sb : List Nat) (gb : Nat) (l : List Ent) (hb : Bok w Sb gb l) (hl : l.length < 1048576) (hll : x.l.length < 1048576) (hSS : ∀ k ∈ S, ¬ k ∈ Sb) (z : Cm) (hz : z.Ok) (hr : rightC x.k l z = true) (hlk : x.l.lookup (z.c, z.s) = none) (hn : x.next = 18446744073709551615) :
    Calls Tryd.prog 14 #[.pointer (some ⟨g, 0, none⟩), .pointer (some ⟨gb, 0, none⟩), z.val] w fun e w' => e = .returned (.tuple #[zSt.val, .int .i64 4]) ∧ Sk w' S g x ∧ Bok w' Sb gb l ∧ Fr [] w w' := by
  obtain ⟨wa, hwa⟩ : ∃ wa, wa = (w.alloc (Obj.cells z.cells.toArray 36)).alloc (Obj.cells zSt.cells.toArray 47) := ⟨_, rfl⟩
  have hf0 : Fr [] w wa := by rw [hwa]; exact ((Fr.refl [] w).alloc _).alloc _
  have hb1 : Blk wa w.heap.size 36 z.cells.toArray := by rw [hwa]; exact blk_alloc (Blk.new _ _ _)
  have hb2 : Blk wa (w.heap.size + 1) 47 zSt.cells.toArray := by
    have := Blk.new (w.alloc (Obj.cells z.cells.toArray 36)) 47 zSt.cells.toArray
    rw [hwa]
    simpa using this
  have HAT := Lib.hid (Cm.at_blk hb1 hz.h)
  have HB2 := Lib.hid hb2
  have HF0 := Lib.hid hf0
  have HWA := Lib.hid hwa
  have HSK := Lib.hid (h.keep hf0 (by simp))
  have HBK := Lib.hid (hb.keep hf0 (by simp))
  have HSB : Hid (∀ k ∈ Sb, k < w.heap.size) := Lib.hid hb.lt
  have HSS : Hid (∀ k ∈ S, k < w.heap.size) := Lib.hid h.lt
  have HD := Lib.hid hSS
  have HZ := Lib.hid hz
  have HX := Lib.hid hx
  have HL := Lib.hid hl
  have HLL := Lib.hid hll
  have HCL := Lib.hid (Cm.len hz.h)
  have HR := Lib.hid hr
  clear hwa hf0 hb1 hb2 h hx hb hl hll hSS hz hr
  have HRT := Lib.hid (fun W (hW : Fr [] wa W) => cright_any x.f x.k z HZ.out W Sb gb l (HBK.out.keep hW (by simp)))
  unfold Cm.val at HRT ⊢
  generalize hC : z.cells = C at *
  have HCE := Lib.hid hC
  clear hC
  have HLK := Lib.hid hlk
  have HNX := Lib.hid (fun W (hW : Sk W S g x) => snext_any W S g x hW HX.out)
  clear hlk
  have HN := Lib.hid hn
  clear hn
  go_enter Tryd.func14, Tryd.ntmps14
  go_upto_region 1 with (fail)
  change Code.wp _ _ _ _ ((w.alloc (Obj.cells C.toArray 36)).alloc (Obj.cells zSt.cells.toArray 47))
  rw [← HWA.out]
  refine wp_region_held_drew (S := Fr [] wa) (by kernel_rfl) (Fr.drew (Fr.refl _ wa)) (fun hHeld => ?_)
  refine run_at (i := 0) (v := ?_) rfl (by kernel_rfl) (by rfl) (fun _ _ _ h => h) hHeld (fun w1 hw1 => ?_) ?_
  rotate_left 1
  · skip
    go_simp
    (try (first | with_reducible rfl | (apply And.intro <;> rfl)))
  simp only [Act.put, List.setIfInBounds_toArray, List.set_cons_zero, List.set_cons_succ]
  refine run_at (i := 1) (v := ?_) rfl (by kernel_rfl) (by rfl) (fun _ _ _ h => h) hHeld (fun w1 hw1 => ?_) ?_
  rotate_left 1
  · skip
    go_simp
    (try (first | with_reducible rfl | (apply And.intro <;> rfl)))
  simp only [Act.put, List.setIfInBounds_toArray, List.set_cons_zero, List.set_cons_succ]
  refine run_at (i := 2) (v := ?_) rfl (by kernel_rfl) (by rfl) (fun _ _ _ h => h) hHeld (fun w1 hw1 => ?_) ?_
  rotate_left 1
  · skip
    go_simp
    (try (first | with_reducible rfl | (apply And.intro <;> rfl)))
  simp only [Act.put, List.setIfInBounds_toArray, List.set_cons_zero, List.set_cons_succ]
  refine row_at (i := 3) rfl (by kernel_rfl) (by rfl) _ _ rfl _ _ rfl _ (fun w1 hw1 => hw1.range (HSK.out.conf) (by first | (simp; done) | exact HNS.out | exact HNW.out | (intro hm; have hlt := HSB.out _ hm; (try dsimp only at hlt); omega))) (row_conf) (fun _ _ _ h => h) hHeld ?_
  simp only [Act.put, List.setIfInBounds_toArray, List.set_cons_zero, List.set_cons_succ]
  refine run_at (i := 4) (v := ?_) rfl (by kernel_rfl) (by rfl) (fun _ _ _ h => h) hHeld (fun w1 hw1 => ?_) ?_
  rotate_left 1
  · skip
    go_simp
    (try (first | with_reducible rfl | (apply And.intro <;> rfl)))
  simp only [Act.put, List.setIfInBounds_toArray, List.set_cons_zero, List.set_cons_succ]
  refine row_at (i := 5) rfl (by kernel_rfl) (by rfl) _ _ rfl _ _ rfl _ (fun w1 hw1 => hw1.range ((HCE.out ▸ HAT.out.all)) (by first | (simp; done) | exact HNS.out | exact HNW.out | (intro hm; have hlt := HSB.out _ hm; (try dsimp only at hlt); omega))) (row_commit.of HCL.out) (fun _ _ _ h => h) hHeld ?_
  simp only [Act.put, List.setIfInBounds_toArray, List.set_cons_zero, List.set_cons_succ]
  refine call_at (i := 6) (f := ?_) (args := ?_) rfl (by kernel_rfl) (by rfl) ?_ ?_
  rotate_left 2
  · go_simp
    (try (first | with_reducible rfl | (apply And.intro <;> rfl)))
  refine (HRT.out _ hHeld).mono ?_
  rw [HR.out]
  rintro e w1 ⟨rfl, hf1⟩
  refine ⟨_, rfl, hHeld.and hf1 (by simp), fun hHeld => ?_⟩
  clear hf1
  simp only [Act.put, List.setIfInBounds_toArray, List.set_cons_zero, List.set_cons_succ]
  refine run_at (i := 7) (v := ?_) rfl (by kernel_rfl) (by rfl) (fun _ _ _ h => h) hHeld (fun w1 hw1 => ?_) ?_
  rotate_left 1
  · skip
    go_simp
    (try (first | with_reducible rfl | (apply And.intro <;> rfl)))
  simp only [Act.put, List.setIfInBounds_toArray, List.set_cons_zero, List.set_cons_succ]
  refine wpAnyH_done (by kernel_rfl) ?_ _
  have HF1 := Lib.hid hHeld
  have HB21 := Lib.hid (HB2.out.keep HF1.out (by simp))
  clear hHeld
  obtain ⟨b, hS, -, -, -, -, -, -, h6, -, hmap⟩ := (HSK.out.keep HF1.out (by simp)).cell0
  have HMAP := Lib.hid hmap
  have HG : Hid (g < w.heap.size ∧ b < w.heap.size) := Lib.hid ⟨HSS.out g (by rw [hS]; simp), HSS.out b (by rw [hS]; simp)⟩
  have hlk : ∀ W, Fr [] w1 W → (Instr.lookup 70 (.map (some b)) (.agg #[.int .i64 z.c, .int .i64 z.s]) true).run Tryd.prog W = .ok (.tuple #[.agg zSt.cells.toArray, .bool false]) W := fun W hW => by
    have := (HMAP.out.keep hW (by simp)).look Tryd.underlying70 zeroMapSt (x := (z.c, z.s)) ⟨HZ.out.c, HZ.out.s⟩
    rw [encS_look, HLK.out] at this
    exact this
  have HLOOK := Lib.hid hlk
  have HNM := Lib.hid (HF1.out.range HAT.out.name (by simp))
  have HHS := Lib.hid (HF1.out.range HAT.out.hash (by simp))
  have HCM := Lib.hid (HF1.out.range HAT.out.all (by simp))
  have HSZ := Lib.hid (Sk.lt HSK.out)
  have HG1 : Hid (w.heap.size + 1 < w1.heap.size) := Lib.hid HB21.out.lt
  clear hlk hmap hS
  go_upto_region 3 with (fail)
  refine wp_region_held_drew (S := Fr [] w1) (by kernel_rfl) (Fr.drew (Fr.refl _ w1)) (fun hHeld => ?_)
  refine run_at (i := 0) (v := ?_) rfl (by kernel_rfl) (by rfl) (fun _ _ _ h => h) hHeld (fun w1 hw1 => ?_) ?_
  rotate_left 1
  · skip
    go_simp
    (try (first | with_reducible rfl | (apply And.intro <;> rfl)))
  simp only [Act.put, List.setIfInBounds_toArray, List.set_cons_zero, List.set_cons_succ]
  refine run_at (i := 1) (v := ?_) rfl (by kernel_rfl) (by rfl) (fun _ _ _ h => h) hHeld (fun w1 hw1 => ?_) ?_
  rotate_left 1
  · skip
    go_simp
    (try (first | with_reducible rfl | (apply And.intro <;> rfl)))
  simp only [Act.put, List.setIfInBounds_toArray, List.set_cons_zero, List.set_cons_succ]
  refine run_at (i := 2) (v := ?_) rfl (by kernel_rfl) (by rfl) (fun _ _ _ h => h) hHeld (fun w1 hw1 => ?_) ?_
  rotate_left 1
  · skip
    go_simp
    (try (first | with_reducible rfl | (apply And.intro <;> rfl)))
  simp only [Act.put, List.setIfInBounds_toArray, List.set_cons_zero, List.set_cons_succ]
  refine run_at (i := 3) (v := ?_) rfl (by kernel_rfl) (by rfl) (fun _ _ _ h => h) hHeld (fun w1 hw1 => ?_) ?_
  rotate_left 1
  · skip
    have hcw0 := hw1.cell (h6) (by first | (simp; done) | exact HNS.out | exact HNW.out | (intro hm; have hlt := HSB.out _ hm; (try dsimp only at hlt); omega))
    go_simp
    (try (first | with_reducible rfl | (apply And.intro <;> rfl)))
  simp only [Act.put, List.setIfInBounds_toArray, List.set_cons_zero, List.set_cons_succ]
  refine run_at (i := 4) (v := ?_) rfl (by kernel_rfl) (by rfl) (fun _ _ _ h => h) hHeld (fun w1 hw1 => ?_) ?_
  rotate_left 1
  · skip
    go_simp
    (try (first | with_reducible rfl | (apply And.intro <;> rfl)))
  simp only [Act.put, List.setIfInBounds_toArray, List.set_cons_zero, List.set_cons_succ]
  refine row_at (i := 5) rfl (by kernel_rfl) (by rfl) _ _ rfl _ _ rfl _ (fun w1 hw1 => hw1.range (HNM.out) (by first | (simp; done) | exact HNS.out | exact HNW.out | (intro hm; have hlt := HSB.out _ hm; (try dsimp only at hlt); omega))) (row_name) (fun _ _ _ h => h) hHeld ?_
  simp only [Act.put, List.setIfInBounds_toArray, List.set_cons_zero, List.set_cons_succ]
  refine run_at (i := 6) (v := ?_) rfl (by kernel_rfl) (by rfl) (fun _ _ _ h => h) hHeld (fun w1 hw1 => ?_) ?_
  rotate_left 1
  · skip
    have hcw0 := HLOOK.out w1 hw1
    go_simp
    (try (first | with_reducible rfl | (apply And.intro <;> rfl)))
  simp only [Act.put, List.setIfInBounds_toArray, List.set_cons_zero, List.set_cons_succ]
  refine run_at (i := 7) (v := ?_) rfl (by kernel_rfl) (by rfl) (fun _ _ _ h => h) hHeld (fun w1 hw1 => ?_) ?_
  rotate_left 1
  · skip
    go_simp
    (try (first | with_reducible rfl | (apply And.intro <;> rfl)))
  simp only [Act.put, List.setIfInBounds_toArray, List.set_cons_zero, List.set_cons_succ]
  refine run_at (i := 8) (v := ?_) rfl (by kernel_rfl) (by rfl) (fun _ _ _ h => h) hHeld (fun w1 hw1 => ?_) ?_
  rotate_left 1
  · skip
    go_simp
    (try (first | with_reducible rfl | (apply And.intro <;> rfl)))
  simp only [Act.put, List.setIfInBounds_toArray, List.set_cons_zero, List.set_cons_succ]
  refine run_at (i := 9) (v := ?_) rfl (by kernel_rfl) (by rfl) (fun _ _ _ h => h) hHeld (fun w1 hw1 => ?_) ?_
  rotate_left 1
  · skip
    go_simp
    (try (first | with_reducible rfl | (apply And.intro <;> rfl)))
  simp only [Act.put, List.setIfInBounds_toArray, List.set_cons_zero, List.set_cons_succ]
  refine step_at (i := 10) rfl (by kernel_rfl) (by rfl) (fun K hK => ?_)
  refine wp_run (v := ?_) (w' := ?_) ?_ ?_
  rotate_left 2
  · go_simp
    (try (first | with_reducible rfl | (apply And.intro <;> rfl)))
  have hb8 : Blk (w1.drew.alloc (Obj.cells zSt.cells.toArray 47)) w1.heap.size 47 zSt.cells.toArray := Blk.new w1.drew _ _
  refine hK.out _ (w1.drew.alloc (Obj.cells zSt.cells.toArray 47)) (hHeld.alloc _) (fun hHeld => ?_)
  clear hK K
  simp only [Act.put, List.setIfInBounds_toArray, List.set_cons_zero, List.set_cons_succ]
  generalize w1.drew.alloc (Obj.cells zSt.cells.toArray 47) = wb at *
  obtain ⟨g8, hg8⟩ : ∃ g8, g8 = w1.heap.size := ⟨_, rfl⟩
  rw [← hg8] at hb8 HG1 ⊢
  have HG8E := Lib.hid hg8
  clear hg8
  refine step_at (i := 11) rfl (by kernel_rfl) (by rfl) (fun K hK => ?_)
  refine wp_store_blk 47 _ _ rfl g8 zSt.cells.toArray rfl rfl 47 _ hb8 (by kernel_rfl) rfl zSt.all ?_
  intro w2 hb2 hf2
  refine hK.out _ _ (hHeld.go hf2 (by have := HG8E.out; simpa using Nat.le_of_eq this.symm)) (fun hHeld => ?_)
  clear hK K
  simp only [Act.put, List.setIfInBounds_toArray, List.set_cons_zero, List.set_cons_succ]
  refine run_at (i := 12) (v := ?_) rfl (by kernel_rfl) (by rfl) (fun _ _ _ h => h) hHeld (fun w1 hw1 => ?_) ?_
  rotate_left 1
  · skip
    go_simp
    (try (first | with_reducible rfl | (apply And.intro <;> rfl)))
  simp only [Act.put, List.setIfInBounds_toArray, List.set_cons_zero, List.set_cons_succ]
  refine wpAnyH_done (by kernel_rfl) ?_ _
  have HX8 := Lib.hid hb2
  have HF2 := Lib.hid hHeld
  have HFW := Lib.hid ((HF0.out.and HF1.out (by simp)).and HF2.out (by simp))
  have HB22 := Lib.hid (HB21.out.keep HF2.out (by simp))
  have HSK2 := Lib.hid ((HSK.out.keep HF1.out (by simp)).keep HF2.out (by simp))
  have HBK2 := Lib.hid ((HBK.out.keep HF1.out (by simp)).keep HF2.out (by simp))
  have HHS2 := Lib.hid (HF2.out.range HHS.out (by simp))
  have HCM2 := Lib.hid (HF2.out.range HCM.out (by simp))
  clear hb2 hf2 hb8 hHeld h6
  go_wp2_with fail
  refine (HNX.out _ HSK2.out).mono ?_
  rw [HN.out]
  rintro e w3 ⟨rfl, hf3⟩
  have HF3 := Lib.hid hf3
  have HB21 := Lib.hid (HB22.out.keep hf3 (by simp))
  clear hf3
  go_wp2_with (first
    | (refine wpList_builtg rfl 47 _ rfl _ _ built_st0 rfl ?_)
    | (refine wpList_store_blk rfl 47 _ _ rfl (w.heap.size + 1) zSt.cells.toArray rfl rfl 47 _ HB21.out (by kernel_rfl) rfl zSt.all ?_; intro w9 hb9 hf9))
  refine bodyPost_ret (v := .tuple #[.agg zSt.cells.toArray, .int .i64 4]) (results_ct Tryd.results14 _ _ (w.heap.size + 1) 47 _ _ _ (.int .i64 4) rfl rfl hb9 Tryd.underlying47 rfl (by kernel_rfl)) rfl ⟨rfl, (HSK2.out.keep HF3.out (by simp)).keep hf9 (fun k hk hm => by have := HSS.out k hk; simp at hm; omega), (HBK2.out.keep HF3.out (by simp)).keep hf9 (fun k hk hm => by have := HSB.out k hk; simp at hm; omega), (HFW.out.and HF3.out (by simp)).and hf9 (by simp)⟩
set_option maxHeartbeats 2000000 in
theorem stamp_new (w : World) (S : List Nat) (g : Nat) (x : Sst) (h : Sk w S g x) (hx : x.Ok) (Sb : List Nat) (gb : Nat) (l : List Ent) (hb : Bok w Sb gb l) (hl : l.length < 1048576) (hll : x.l.length < 1048576) (hSS : ∀ k ∈ S, ¬ k ∈ Sb) (z : Cm) (hz : z.Ok) (hr : rightC x.k l z = true) (hlk : x.l.lookup (z.c, z.s) = none) (hn : x.next < 18446744073709551615) :
    Calls Tryd.prog 14 #[.pointer (some ⟨g, 0, none⟩), .pointer (some ⟨gb, 0, none⟩), z.val] w fun e w' => e = .returned (.tuple #[(x.given z l).val, .int .i64 0]) ∧ Sk w' S g (x.more z l) ∧ Bok w' Sb gb (sgn l (x.r, (x.bare z).text)) ∧ Fr (S ++ Sb) w w' := by
  obtain ⟨wa, hwa⟩ : ∃ wa, wa = (w.alloc (Obj.cells z.cells.toArray 36)).alloc (Obj.cells zSt.cells.toArray 47) := ⟨_, rfl⟩
  have hf0 : Fr [] w wa := by rw [hwa]; exact ((Fr.refl [] w).alloc _).alloc _
  have hb1 : Blk wa w.heap.size 36 z.cells.toArray := by rw [hwa]; exact blk_alloc (Blk.new _ _ _)
  have hb2 : Blk wa (w.heap.size + 1) 47 zSt.cells.toArray := by
    have := Blk.new (w.alloc (Obj.cells z.cells.toArray 36)) 47 zSt.cells.toArray
    rw [hwa]
    simpa using this
  have HAT := Lib.hid (Cm.at_blk hb1 hz.h)
  have HB2 := Lib.hid hb2
  have HF0 := Lib.hid hf0
  have HWA := Lib.hid hwa
  have HSK := Lib.hid (h.keep hf0 (by simp))
  have HBK := Lib.hid (hb.keep hf0 (by simp))
  have HSB : Hid (∀ k ∈ Sb, k < w.heap.size) := Lib.hid hb.lt
  have HSS : Hid (∀ k ∈ S, k < w.heap.size) := Lib.hid h.lt
  have HD := Lib.hid hSS
  have HZ := Lib.hid hz
  have HX := Lib.hid hx
  have HL := Lib.hid hl
  have HLL := Lib.hid hll
  have HCL := Lib.hid (Cm.len hz.h)
  have HR := Lib.hid hr
  clear hwa hf0 hb1 hb2 h hx hb hl hll hSS hz hr
  have HRT := Lib.hid (fun W (hW : Fr [] wa W) => cright_any x.f x.k z HZ.out W Sb gb l (HBK.out.keep hW (by simp)))
  unfold Cm.val at HRT ⊢
  generalize hC : z.cells = C at *
  have HCE := Lib.hid hC
  clear hC
  have HLK := Lib.hid hlk
  have HNX := Lib.hid (fun W (hW : Sk W S g x) => snext_any W S g x hW HX.out)
  clear hlk
  have HN := Lib.hid hn
  have hne : ((x.next : Int) == 18446744073709551615) = false := by simp; omega
  have HGV := Lib.hid (fun W (hW : Sk W S g x) (hW2 : Bok W Sb gb l) => give_any W S g x hW HX.out Sb gb l hW2 HL.out HLL.out HD.out z HZ.out HN.out HLK.out)
  have HYH : Hid ((x.given z l).h.length = 32) := Lib.hid HZ.out.h
  unfold Cm.val Wst.val at HGV
  unfold Wst.val
  rw [HCE.out] at HGV
  clear hn
  go_enter Tryd.func14, Tryd.ntmps14
  go_upto_region 1 with (fail)
  change Code.wp _ _ _ _ ((w.alloc (Obj.cells C.toArray 36)).alloc (Obj.cells zSt.cells.toArray 47))
  rw [← HWA.out]
  refine wp_region_held_drew (S := Fr [] wa) (by kernel_rfl) (Fr.drew (Fr.refl _ wa)) (fun hHeld => ?_)
  refine run_at (i := 0) (v := ?_) rfl (by kernel_rfl) (by rfl) (fun _ _ _ h => h) hHeld (fun w1 hw1 => ?_) ?_
  rotate_left 1
  · skip
    go_simp
    (try (first | with_reducible rfl | (apply And.intro <;> rfl)))
  simp only [Act.put, List.setIfInBounds_toArray, List.set_cons_zero, List.set_cons_succ]
  refine run_at (i := 1) (v := ?_) rfl (by kernel_rfl) (by rfl) (fun _ _ _ h => h) hHeld (fun w1 hw1 => ?_) ?_
  rotate_left 1
  · skip
    go_simp
    (try (first | with_reducible rfl | (apply And.intro <;> rfl)))
  simp only [Act.put, List.setIfInBounds_toArray, List.set_cons_zero, List.set_cons_succ]
  refine run_at (i := 2) (v := ?_) rfl (by kernel_rfl) (by rfl) (fun _ _ _ h => h) hHeld (fun w1 hw1 => ?_) ?_
  rotate_left 1
  · skip
    go_simp
    (try (first | with_reducible rfl | (apply And.intro <;> rfl)))
  simp only [Act.put, List.setIfInBounds_toArray, List.set_cons_zero, List.set_cons_succ]
  refine row_at (i := 3) rfl (by kernel_rfl) (by rfl) _ _ rfl _ _ rfl _ (fun w1 hw1 => hw1.range (HSK.out.conf) (by first | (simp; done) | exact HNS.out | exact HNW.out | (intro hm; have hlt := HSB.out _ hm; (try dsimp only at hlt); omega))) (row_conf) (fun _ _ _ h => h) hHeld ?_
  simp only [Act.put, List.setIfInBounds_toArray, List.set_cons_zero, List.set_cons_succ]
  refine run_at (i := 4) (v := ?_) rfl (by kernel_rfl) (by rfl) (fun _ _ _ h => h) hHeld (fun w1 hw1 => ?_) ?_
  rotate_left 1
  · skip
    go_simp
    (try (first | with_reducible rfl | (apply And.intro <;> rfl)))
  simp only [Act.put, List.setIfInBounds_toArray, List.set_cons_zero, List.set_cons_succ]
  refine row_at (i := 5) rfl (by kernel_rfl) (by rfl) _ _ rfl _ _ rfl _ (fun w1 hw1 => hw1.range ((HCE.out ▸ HAT.out.all)) (by first | (simp; done) | exact HNS.out | exact HNW.out | (intro hm; have hlt := HSB.out _ hm; (try dsimp only at hlt); omega))) (row_commit.of HCL.out) (fun _ _ _ h => h) hHeld ?_
  simp only [Act.put, List.setIfInBounds_toArray, List.set_cons_zero, List.set_cons_succ]
  refine call_at (i := 6) (f := ?_) (args := ?_) rfl (by kernel_rfl) (by rfl) ?_ ?_
  rotate_left 2
  · go_simp
    (try (first | with_reducible rfl | (apply And.intro <;> rfl)))
  refine (HRT.out _ hHeld).mono ?_
  rw [HR.out]
  rintro e w1 ⟨rfl, hf1⟩
  refine ⟨_, rfl, hHeld.and hf1 (by simp), fun hHeld => ?_⟩
  clear hf1
  simp only [Act.put, List.setIfInBounds_toArray, List.set_cons_zero, List.set_cons_succ]
  refine run_at (i := 7) (v := ?_) rfl (by kernel_rfl) (by rfl) (fun _ _ _ h => h) hHeld (fun w1 hw1 => ?_) ?_
  rotate_left 1
  · skip
    go_simp
    (try (first | with_reducible rfl | (apply And.intro <;> rfl)))
  simp only [Act.put, List.setIfInBounds_toArray, List.set_cons_zero, List.set_cons_succ]
  refine wpAnyH_done (by kernel_rfl) ?_ _
  have HF1 := Lib.hid hHeld
  have HB21 := Lib.hid (HB2.out.keep HF1.out (by simp))
  clear hHeld
  obtain ⟨b, hS, -, -, -, -, -, -, h6, -, hmap⟩ := (HSK.out.keep HF1.out (by simp)).cell0
  have HMAP := Lib.hid hmap
  have HG : Hid (g < w.heap.size ∧ b < w.heap.size) := Lib.hid ⟨HSS.out g (by rw [hS]; simp), HSS.out b (by rw [hS]; simp)⟩
  have hlk : ∀ W, Fr [] w1 W → (Instr.lookup 70 (.map (some b)) (.agg #[.int .i64 z.c, .int .i64 z.s]) true).run Tryd.prog W = .ok (.tuple #[.agg zSt.cells.toArray, .bool false]) W := fun W hW => by
    have := (HMAP.out.keep hW (by simp)).look Tryd.underlying70 zeroMapSt (x := (z.c, z.s)) ⟨HZ.out.c, HZ.out.s⟩
    rw [encS_look, HLK.out] at this
    exact this
  have HLOOK := Lib.hid hlk
  have HNM := Lib.hid (HF1.out.range HAT.out.name (by simp))
  have HHS := Lib.hid (HF1.out.range HAT.out.hash (by simp))
  have HCM := Lib.hid (HF1.out.range HAT.out.all (by simp))
  have HSZ := Lib.hid (Sk.lt HSK.out)
  have HG1 : Hid (w.heap.size + 1 < w1.heap.size) := Lib.hid HB21.out.lt
  clear hlk hmap hS
  go_upto_region 3 with (fail)
  refine wp_region_held_drew (S := Fr [] w1) (by kernel_rfl) (Fr.drew (Fr.refl _ w1)) (fun hHeld => ?_)
  refine run_at (i := 0) (v := ?_) rfl (by kernel_rfl) (by rfl) (fun _ _ _ h => h) hHeld (fun w1 hw1 => ?_) ?_
  rotate_left 1
  · skip
    go_simp
    (try (first | with_reducible rfl | (apply And.intro <;> rfl)))
  simp only [Act.put, List.setIfInBounds_toArray, List.set_cons_zero, List.set_cons_succ]
  refine run_at (i := 1) (v := ?_) rfl (by kernel_rfl) (by rfl) (fun _ _ _ h => h) hHeld (fun w1 hw1 => ?_) ?_
  rotate_left 1
  · skip
    go_simp
    (try (first | with_reducible rfl | (apply And.intro <;> rfl)))
  simp only [Act.put, List.setIfInBounds_toArray, List.set_cons_zero, List.set_cons_succ]
  refine run_at (i := 2) (v := ?_) rfl (by kernel_rfl) (by rfl) (fun _ _ _ h => h) hHeld (fun w1 hw1 => ?_) ?_
  rotate_left 1
  · skip
    go_simp
    (try (first | with_reducible rfl | (apply And.intro <;> rfl)))
  simp only [Act.put, List.setIfInBounds_toArray, List.set_cons_zero, List.set_cons_succ]
  refine run_at (i := 3) (v := ?_) rfl (by kernel_rfl) (by rfl) (fun _ _ _ h => h) hHeld (fun w1 hw1 => ?_) ?_
  rotate_left 1
  · skip
    have hcw0 := hw1.cell (h6) (by first | (simp; done) | exact HNS.out | exact HNW.out | (intro hm; have hlt := HSB.out _ hm; (try dsimp only at hlt); omega))
    go_simp
    (try (first | with_reducible rfl | (apply And.intro <;> rfl)))
  simp only [Act.put, List.setIfInBounds_toArray, List.set_cons_zero, List.set_cons_succ]
  refine run_at (i := 4) (v := ?_) rfl (by kernel_rfl) (by rfl) (fun _ _ _ h => h) hHeld (fun w1 hw1 => ?_) ?_
  rotate_left 1
  · skip
    go_simp
    (try (first | with_reducible rfl | (apply And.intro <;> rfl)))
  simp only [Act.put, List.setIfInBounds_toArray, List.set_cons_zero, List.set_cons_succ]
  refine row_at (i := 5) rfl (by kernel_rfl) (by rfl) _ _ rfl _ _ rfl _ (fun w1 hw1 => hw1.range (HNM.out) (by first | (simp; done) | exact HNS.out | exact HNW.out | (intro hm; have hlt := HSB.out _ hm; (try dsimp only at hlt); omega))) (row_name) (fun _ _ _ h => h) hHeld ?_
  simp only [Act.put, List.setIfInBounds_toArray, List.set_cons_zero, List.set_cons_succ]
  refine run_at (i := 6) (v := ?_) rfl (by kernel_rfl) (by rfl) (fun _ _ _ h => h) hHeld (fun w1 hw1 => ?_) ?_
  rotate_left 1
  · skip
    have hcw0 := HLOOK.out w1 hw1
    go_simp
    (try (first | with_reducible rfl | (apply And.intro <;> rfl)))
  simp only [Act.put, List.setIfInBounds_toArray, List.set_cons_zero, List.set_cons_succ]
  refine run_at (i := 7) (v := ?_) rfl (by kernel_rfl) (by rfl) (fun _ _ _ h => h) hHeld (fun w1 hw1 => ?_) ?_
  rotate_left 1
  · skip
    go_simp
    (try (first | with_reducible rfl | (apply And.intro <;> rfl)))
  simp only [Act.put, List.setIfInBounds_toArray, List.set_cons_zero, List.set_cons_succ]
  refine run_at (i := 8) (v := ?_) rfl (by kernel_rfl) (by rfl) (fun _ _ _ h => h) hHeld (fun w1 hw1 => ?_) ?_
  rotate_left 1
  · skip
    go_simp
    (try (first | with_reducible rfl | (apply And.intro <;> rfl)))
  simp only [Act.put, List.setIfInBounds_toArray, List.set_cons_zero, List.set_cons_succ]
  refine run_at (i := 9) (v := ?_) rfl (by kernel_rfl) (by rfl) (fun _ _ _ h => h) hHeld (fun w1 hw1 => ?_) ?_
  rotate_left 1
  · skip
    go_simp
    (try (first | with_reducible rfl | (apply And.intro <;> rfl)))
  simp only [Act.put, List.setIfInBounds_toArray, List.set_cons_zero, List.set_cons_succ]
  refine step_at (i := 10) rfl (by kernel_rfl) (by rfl) (fun K hK => ?_)
  refine wp_run (v := ?_) (w' := ?_) ?_ ?_
  rotate_left 2
  · go_simp
    (try (first | with_reducible rfl | (apply And.intro <;> rfl)))
  have hb8 : Blk (w1.drew.alloc (Obj.cells zSt.cells.toArray 47)) w1.heap.size 47 zSt.cells.toArray := Blk.new w1.drew _ _
  refine hK.out _ (w1.drew.alloc (Obj.cells zSt.cells.toArray 47)) (hHeld.alloc _) (fun hHeld => ?_)
  clear hK K
  simp only [Act.put, List.setIfInBounds_toArray, List.set_cons_zero, List.set_cons_succ]
  generalize w1.drew.alloc (Obj.cells zSt.cells.toArray 47) = wb at *
  obtain ⟨g8, hg8⟩ : ∃ g8, g8 = w1.heap.size := ⟨_, rfl⟩
  rw [← hg8] at hb8 HG1 ⊢
  have HG8E := Lib.hid hg8
  clear hg8
  refine step_at (i := 11) rfl (by kernel_rfl) (by rfl) (fun K hK => ?_)
  refine wp_store_blk 47 _ _ rfl g8 zSt.cells.toArray rfl rfl 47 _ hb8 (by kernel_rfl) rfl zSt.all ?_
  intro w2 hb2 hf2
  refine hK.out _ _ (hHeld.go hf2 (by have := HG8E.out; simpa using Nat.le_of_eq this.symm)) (fun hHeld => ?_)
  clear hK K
  simp only [Act.put, List.setIfInBounds_toArray, List.set_cons_zero, List.set_cons_succ]
  refine run_at (i := 12) (v := ?_) rfl (by kernel_rfl) (by rfl) (fun _ _ _ h => h) hHeld (fun w1 hw1 => ?_) ?_
  rotate_left 1
  · skip
    go_simp
    (try (first | with_reducible rfl | (apply And.intro <;> rfl)))
  simp only [Act.put, List.setIfInBounds_toArray, List.set_cons_zero, List.set_cons_succ]
  refine wpAnyH_done (by kernel_rfl) ?_ _
  have HX8 := Lib.hid hb2
  have HF2 := Lib.hid hHeld
  have HFW := Lib.hid ((HF0.out.and HF1.out (by simp)).and HF2.out (by simp))
  have HB22 := Lib.hid (HB21.out.keep HF2.out (by simp))
  have HSK2 := Lib.hid ((HSK.out.keep HF1.out (by simp)).keep HF2.out (by simp))
  have HBK2 := Lib.hid ((HBK.out.keep HF1.out (by simp)).keep HF2.out (by simp))
  have HHS2 := Lib.hid (HF2.out.range HHS.out (by simp))
  have HCM2 := Lib.hid (HF2.out.range HCM.out (by simp))
  clear hb2 hf2 hb8 hHeld h6
  go_wp2_with fail
  refine (HNX.out _ HSK2.out).mono ?_
  rintro e w3 ⟨rfl, hf3⟩
  have HF3 := Lib.hid hf3
  have HB23 := Lib.hid (HB22.out.keep hf3 (by simp))
  have HCM3 := Lib.hid (hf3.range HCM2.out (by simp))
  rw [HCE.out] at HCM3
  clear hf3
  go_wp2_with (refine wpList_row rfl 36 _ rfl _ _ rfl _ HCM3.out (row_commit.of HCL.out) ?_)
  refine (HGV.out _ (HSK2.out.keep HF3.out (by simp)) (HBK2.out.keep HF3.out (by simp))).mono ?_
  obtain ⟨Y, hY⟩ : ∃ Y, Y = x.given z l := ⟨_, rfl⟩
  have HYE := Lib.hid hY
  rw [← hY]
  rw [← hY] at HYH
  clear hY
  rintro e w4 ⟨rfl, hsk4, hbk4, hf4⟩
  have HSK4 := Lib.hid hsk4
  have HBK4 := Lib.hid hbk4
  have HF4 := Lib.hid hf4
  have HYS := Lib.hid (st_size HYH.out)
  have HYL := Lib.hid (Wst.len HYH.out)
  have HB24 := Lib.hid (HB23.out.keep hf4 (fun hm => by rcases List.mem_append.1 hm with hm | hm; have := HSS.out _ hm; omega; have := HSB.out _ hm; omega))
  clear hsk4 hbk4 hf4
  go_wp2_with (refine wpList_store_blk rfl 47 _ _ rfl (w.heap.size + 1) Y.cells.toArray rfl rfl 47 _ HB24.out HYS.out (by rw [List.size_toArray, List.size_toArray, zSt_len, HYL.out]) Y.all ?_; intro w9 hb9 hf9)
  refine bodyPost_ret (v := .tuple #[.agg Y.cells.toArray, .int .i64 0]) (results_ct Tryd.results14 _ _ (w.heap.size + 1) 47 _ _ _ (.int .i64 0) rfl rfl hb9 Tryd.underlying47 rfl HYS.out) rfl ⟨by rw [HYE.out], HSK4.out.keep hf9 (fun k hk hm => by have := HSS.out k hk; simp at hm; omega), HBK4.out.keep hf9 (fun k hk hm => by have := HSB.out k hk; simp at hm; omega), ?_⟩
  exact (((HFW.out.and HF3.out (by simp)).mono (T := S ++ Sb) (by simp)).trans HF4.out (fun k hk _ => hk)).trans hf9 (fun k hk hl => by simp at hk; omega)
end Go.Proofs.YtacandocjjpfcaaDoor

namespace Go.Proofs.YtacandocjjpfcaaDoor
set_option maxRecDepth 100000
open Go.RowKit

def hz32 : List UInt8 := List.replicate 32 0
def Sst.of (x : Sst) (n : Nam) : Wst := (x.l.lookup n).getD zSt
theorem i64z : i64In 0 := ⟨by decide, by decide⟩
theorem zSt_ok : zSt.Ok := ⟨i64z, i64z, i64z, rfl, by decide, i64z, i64z⟩
theorem Sst.of_ok {x : Sst} (hx : x.Ok) (n : Nam) : (x.of n).Ok := by
  unfold Sst.of
  rcases h : x.l.lookup n with _ | o
  · exact zSt_ok
  · exact (hx.l _ _ h).1
theorem hash_size32 {h : List UInt8} (hh : h.length = 32) : (Tryd.prog.info? 32).map (·.size) = some (h.map by8).toArray.size := by rw [List.size_toArray, List.length_map, hh]; kernel_rfl
set_option maxHeartbeats 1000000 in
theorem sof_any (w : World) (S : List Nat) (g : Nat) (x : Sst) (h : Sk w S g x) (hx : x.Ok) (n : Nam) (hn : nok n) :
    Calls Tryd.prog 25 #[.pointer (some ⟨g, 0, none⟩), .agg #[.int .i64 n.1, .int .i64 n.2]] w fun e w' => e = .returned (.tuple #[.agg ((x.of n).h.map by8).toArray, .int .u64 ((x.of n).t : Int), .bool (x.l.lookup n).isSome]) ∧ Fr [] w w' := by
  obtain ⟨wa, hwa⟩ : ∃ wa, wa = (w.alloc (Obj.cells #[.int .i64 n.1, .int .i64 n.2] 30)).alloc (Obj.cells (hz32.map by8).toArray 32) := ⟨_, rfl⟩
  have hf0 : Fr [] w wa := by rw [hwa]; exact ((Fr.refl [] w).alloc _).alloc _
  have hb1 : Blk wa w.heap.size 30 #[.int .i64 n.1, .int .i64 n.2] := by rw [hwa]; exact blk_alloc (Blk.new _ _ _)
  have hb2 : Blk wa (w.heap.size + 1) 32 (hz32.map by8).toArray := by
    have := Blk.new (w.alloc (Obj.cells #[.int .i64 n.1, .int .i64 n.2] 30)) 32 (hz32.map by8).toArray
    rw [hwa]
    simpa using this
  have HNM := Lib.hid hb1.range
  have HB2 := Lib.hid hb2
  have HF0 := Lib.hid hf0
  have HWA := Lib.hid hwa
  obtain ⟨b, hS, -, -, -, -, -, -, h6, -, hmap⟩ := (h.keep hf0 (by simp)).cell0
  have HMAP := Lib.hid hmap
  have HOK := Lib.hid (Sst.of_ok hx n)
  have hlk : ∀ W, Fr [] wa W → (Instr.lookup 70 (.map (some b)) (.agg #[.int .i64 n.1, .int .i64 n.2]) true).run Tryd.prog W = .ok (.tuple #[.agg (x.of n).cells.toArray, .bool (x.l.lookup n).isSome]) W := fun W hW => by
    have := (HMAP.out.keep hW (by simp)).look Tryd.underlying70 zeroMapSt (x := n) hn
    rw [encS_look] at this
    unfold Sst.of
    rcases hh : x.l.lookup n with _ | o
    · rw [hh] at this; exact this
    · rw [hh] at this; exact this
  have HLOOK := Lib.hid hlk
  have HSB : Hid (w.heap.size + 1 < wa.heap.size) := Lib.hid hb2.lt
  clear hwa hf0 hb1 hb2 h hx hn hmap hlk hS
  generalize x.of n = o at *
  generalize (x.l.lookup n).isSome = B at *
  go_enter Tryd.func25, Tryd.ntmps25
  go_upto_region 1 with (fail)
  change Code.wp _ _ _ _ ((w.alloc (Obj.cells #[.int .i64 n.1, .int .i64 n.2] 30)).alloc (Obj.cells (hz32.map by8).toArray 32))
  rw [← HWA.out]
  refine wp_region_held_drew (S := Fr [] wa) (by kernel_rfl) (Fr.drew (Fr.refl _ wa)) (fun hHeld => ?_)
  refine run_at (i := 0) (v := ?_) rfl (by kernel_rfl) (by rfl) (fun _ _ _ h => h) hHeld (fun w1 hw1 => ?_) ?_
  rotate_left 1
  · skip
    go_simp
    (try (first | with_reducible rfl | (apply And.intro <;> rfl)))
  simp only [Act.put, List.setIfInBounds_toArray, List.set_cons_zero, List.set_cons_succ]
  refine run_at (i := 1) (v := ?_) rfl (by kernel_rfl) (by rfl) (fun _ _ _ h => h) hHeld (fun w1 hw1 => ?_) ?_
  rotate_left 1
  · skip
    go_simp
    (try (first | with_reducible rfl | (apply And.intro <;> rfl)))
  simp only [Act.put, List.setIfInBounds_toArray, List.set_cons_zero, List.set_cons_succ]
  refine run_at (i := 2) (v := ?_) rfl (by kernel_rfl) (by rfl) (fun _ _ _ h => h) hHeld (fun w1 hw1 => ?_) ?_
  rotate_left 1
  · skip
    go_simp
    (try (first | with_reducible rfl | (apply And.intro <;> rfl)))
  simp only [Act.put, List.setIfInBounds_toArray, List.set_cons_zero, List.set_cons_succ]
  refine run_at (i := 3) (v := ?_) rfl (by kernel_rfl) (by rfl) (fun _ _ _ h => h) hHeld (fun w1 hw1 => ?_) ?_
  rotate_left 1
  · skip
    have hcw0 := hw1.cell (h6) (by first | (simp; done) | exact HNS.out | exact HNW.out | (intro hm; have hlt := HSB.out _ hm; (try dsimp only at hlt); omega))
    go_simp
    (try (first | with_reducible rfl | (apply And.intro <;> rfl)))
  simp only [Act.put, List.setIfInBounds_toArray, List.set_cons_zero, List.set_cons_succ]
  refine row_at (i := 4) rfl (by kernel_rfl) (by rfl) _ _ rfl _ _ rfl _ (fun w1 hw1 => hw1.range (HNM.out) (by first | (simp; done) | exact HNS.out | exact HNW.out | (intro hm; have hlt := HSB.out _ hm; (try dsimp only at hlt); omega))) (row_name) (fun _ _ _ h => h) hHeld ?_
  simp only [Act.put, List.setIfInBounds_toArray, List.set_cons_zero, List.set_cons_succ]
  refine run_at (i := 5) (v := ?_) rfl (by kernel_rfl) (by rfl) (fun _ _ _ h => h) hHeld (fun w1 hw1 => ?_) ?_
  rotate_left 1
  · skip
    have hcw0 := HLOOK.out w1 hw1
    go_simp
    (try (first | with_reducible rfl | (apply And.intro <;> rfl)))
  simp only [Act.put, List.setIfInBounds_toArray, List.set_cons_zero, List.set_cons_succ]
  refine run_at (i := 6) (v := ?_) rfl (by kernel_rfl) (by rfl) (fun _ _ _ h => h) hHeld (fun w1 hw1 => ?_) ?_
  rotate_left 1
  · skip
    go_simp
    (try (first | with_reducible rfl | (apply And.intro <;> rfl)))
  simp only [Act.put, List.setIfInBounds_toArray, List.set_cons_zero, List.set_cons_succ]
  refine run_at (i := 7) (v := ?_) rfl (by kernel_rfl) (by rfl) (fun _ _ _ h => h) hHeld (fun w1 hw1 => ?_) ?_
  rotate_left 1
  · skip
    go_simp
    (try (first | with_reducible rfl | (apply And.intro <;> rfl)))
  simp only [Act.put, List.setIfInBounds_toArray, List.set_cons_zero, List.set_cons_succ]
  refine run_at (i := 8) (v := ?_) rfl (by kernel_rfl) (by rfl) (fun _ _ _ h => h) hHeld (fun w1 hw1 => ?_) ?_
  rotate_left 1
  · skip
    go_simp
    (try (first | with_reducible rfl | (apply And.intro <;> rfl)))
  simp only [Act.put, List.setIfInBounds_toArray, List.set_cons_zero, List.set_cons_succ]
  refine step_at (i := 9) rfl (by kernel_rfl) (by rfl) (fun K hK => ?_)
  refine wp_run (v := ?_) (w' := ?_) ?_ ?_
  rotate_left 2
  · go_simp
    (try (first | with_reducible rfl | (apply And.intro <;> rfl)))
  have hb8 : Blk (wa.drew.alloc (Obj.cells zSt.cells.toArray 47)) wa.heap.size 47 zSt.cells.toArray := Blk.new wa.drew _ _
  refine hK.out _ (wa.drew.alloc (Obj.cells zSt.cells.toArray 47)) (hHeld.alloc _) (fun hHeld => ?_)
  clear hK K
  simp only [Act.put, List.setIfInBounds_toArray, List.set_cons_zero, List.set_cons_succ]
  generalize wa.drew.alloc (Obj.cells zSt.cells.toArray 47) = wb at *
  obtain ⟨g8, hg8⟩ : ∃ g8, g8 = wa.heap.size := ⟨_, rfl⟩
  rw [← hg8] at hb8 HSB ⊢
  have HG8E := Lib.hid hg8
  clear hg8
  refine step_at (i := 10) rfl (by kernel_rfl) (by rfl) (fun K hK => ?_)
  refine wp_store_blk 47 _ _ rfl g8 o.cells.toArray rfl rfl 47 _ hb8 (st_size HOK.out.h) (by rw [List.size_toArray, List.size_toArray, zSt_len, Wst.len HOK.out.h]) o.all ?_
  intro w2 hb2 hf2
  refine hK.out _ _ (hHeld.go hf2 (by have := HG8E.out; simpa using Nat.le_of_eq this.symm)) (fun hHeld => ?_)
  clear hK K
  simp only [Act.put, List.setIfInBounds_toArray, List.set_cons_zero, List.set_cons_succ]
  refine run_at (i := 11) (v := ?_) rfl (by kernel_rfl) (by rfl) (fun _ _ _ h => h) hHeld (fun w1 hw1 => ?_) ?_
  rotate_left 1
  · skip
    go_simp
    (try (first | with_reducible rfl | (apply And.intro <;> rfl)))
  simp only [Act.put, List.setIfInBounds_toArray, List.set_cons_zero, List.set_cons_succ]
  refine wpAnyH_done (by kernel_rfl) ?_ _
  have HAT := Lib.hid (Wst.at_of hb2.range HOK.out.h)
  have HF2 := Lib.hid (HF0.out.and hHeld (by simp))
  have HB22 := Lib.hid (HB2.out.keep hHeld (by simp))
  have ht := HAT.out.t
  clear hb2 hf2 hb8 hHeld h6
  go_upto_region 2 with (fail)
  refine wp_region_held_drew (S := Fr [w.heap.size + 1] w2) (by kernel_rfl) (Fr.drew (Fr.refl _ w2)) (fun hHeld => ?_)
  refine run_at (i := 0) (v := ?_) rfl (by kernel_rfl) (by rfl) (fun _ _ _ h => h) hHeld (fun w1 hw1 => ?_) ?_
  rotate_left 1
  · skip
    go_simp
    (try (first | with_reducible rfl | (apply And.intro <;> rfl)))
  simp only [Act.put, List.setIfInBounds_toArray, List.set_cons_zero, List.set_cons_succ]
  refine row_at (i := 1) rfl (by kernel_rfl) (by rfl) _ _ rfl _ _ rfl _ (fun w1 hw1 => hw1.range HAT.out.hash (by have := HSB.out; simp; omega)) (row_hash.of (by rw [List.length_map]; exact HOK.out.h)) (fun _ _ _ h => h) hHeld ?_
  simp only [Act.put, List.setIfInBounds_toArray, List.set_cons_zero, List.set_cons_succ]
  refine run_at (i := 2) (v := ?_) rfl (by kernel_rfl) (by rfl) (fun _ _ _ h => h) hHeld (fun w1 hw1 => ?_) ?_
  rotate_left 1
  · skip
    go_simp
    (try (first | with_reducible rfl | (apply And.intro <;> rfl)))
  simp only [Act.put, List.setIfInBounds_toArray, List.set_cons_zero, List.set_cons_succ]
  refine run_at (i := 3) (v := ?_) rfl (by kernel_rfl) (by rfl) (fun _ _ _ h => h) hHeld (fun w1 hw1 => ?_) ?_
  rotate_left 1
  · skip
    have hcw0 := hw1.cell ht (by have := HSB.out; simp; omega)
    go_simp
    (try (first | with_reducible rfl | (apply And.intro <;> rfl)))
  simp only [Act.put, List.setIfInBounds_toArray, List.set_cons_zero, List.set_cons_succ]
  refine run_at (i := 4) (v := ?_) rfl (by kernel_rfl) (by rfl) (fun _ _ _ h => h) hHeld (fun w1 hw1 => ?_) ?_
  rotate_left 1
  · skip
    go_simp
    (try (first | with_reducible rfl | (apply And.intro <;> rfl)))
  simp only [Act.put, List.setIfInBounds_toArray, List.set_cons_zero, List.set_cons_succ]
  refine step_at (i := 5) rfl (by kernel_rfl) (by rfl) (fun K hK => ?_)
  refine wp_store_blk 32 _ _ rfl (w.heap.size + 1) (o.h.map by8).toArray rfl rfl 32 _ HB22.out.drew (hash_size32 HOK.out.h) (by rw [List.size_toArray, List.size_toArray, List.length_map, List.length_map, HOK.out.h]; rfl) (by8_all o.h) ?_
  intro w3 hb3 hf3
  refine hK.out _ _ (hHeld.trans hf3 (fun k hk _ => hk)) (fun hHeld => ?_)
  clear hK K
  simp only [Act.put, List.setIfInBounds_toArray, List.set_cons_zero, List.set_cons_succ]
  refine run_at (i := 6) (v := ?_) rfl (by kernel_rfl) (by rfl) (fun _ _ _ h => h) hHeld (fun w1 hw1 => ?_) ?_
  rotate_left 1
  · skip
    go_simp
    (try (first | with_reducible rfl | (apply And.intro <;> rfl)))
  simp only [Act.put, List.setIfInBounds_toArray, List.set_cons_zero, List.set_cons_succ]
  refine run_at (i := 7) (v := ?_) rfl (by kernel_rfl) (by rfl) (fun _ _ _ h => h) hHeld (fun w1 hw1 => ?_) ?_
  rotate_left 1
  · skip
    go_simp
    (try (first | with_reducible rfl | (apply And.intro <;> rfl)))
  simp only [Act.put, List.setIfInBounds_toArray, List.set_cons_zero, List.set_cons_succ]
  refine wpAnyH_done (by kernel_rfl) ?_ _
  have HHL := Lib.hid hHeld
  clear hHeld ht
  go_wp2
  refine bodyPost_ret (v := .tuple #[.agg (o.h.map by8).toArray, .int .u64 (o.t : Int), .bool B]) (results_ctt Tryd.results25 _ _ (w.heap.size + 1) 32 _ _ _ (.int .u64 (o.t : Int)) (.bool B) rfl rfl rfl hb3 Tryd.underlying32 rfl (hash_size32 HOK.out.h)) rfl ⟨rfl, HF2.out.and HHL.out (by simp)⟩

set_option maxHeartbeats 1000000 in
theorem mclone_st (w : World) (b : Nat) (es : Array MapEntry) (clock : Nat) (hb : w.heap[b]? = some (.map es clock)) :
    Calls Tryd.prog 42 #[.map (some b)] w fun e w' => e = .returned (.map (some w.heap.size)) ∧ w' = w.alloc (.map es clock) := by
  have hq := fun w => run_eql_map_nil_sl (P := Tryd.prog) w 70 _ _ (some b) Tryd.underlying70
  go_enter Tryd.func42, Tryd.ntmps42
  go_wp2
  rw [run_callFunc_extern (P := Tryd.prog) Tryd.func59 (by kernel_rfl) (by kernel_rfl) (by kernel_rfl) (e := Extern.MapsClone.clone) (by kernel_rfl), run_maps_clone_sl w 70 hb]
  simp only [Result.andThen]
  rw [Oper.upon_value]
  go_wp2
  rw [run_typeAssert_map_sl _ 70 20 _ _ _ Tryd.underlying70]
  simp only [Result.andThen]
  rw [Oper.upon_value]
  go_wp2
  go_ret
  exact ⟨rfl, rfl⟩
theorem row_stamper : RowTy Tryd.prog 90 7 := ⟨by kernel_rfl, by kernel_rfl⟩
def zeroSk : Array Value := #[.int .i64 0, .int .i64 0, .int .i64 0, .int .u64 0, .int .u64 0, .int .u64 0, .map none]
theorem Sst.cells_all (x : Sst) (b : Nat) : ((x.cells b).all (·.oneCell')) = true := by simp [Sst.cells, Value.oneCell']
set_option maxHeartbeats 1000000 in
theorem clone_st (w : World) (S : List Nat) (g : Nat) (x : Sst) (h : Sk w S g x) :
    Calls Tryd.prog 22 #[.pointer (some ⟨g, 0, none⟩)] w fun e w' => ∃ S' g', e = .returned (.pointer (some ⟨g', 0, none⟩)) ∧ Sk w' S' g' x ∧ Fr [] w w' ∧ ∀ k ∈ S', w.heap.size ≤ k := by
  obtain ⟨b, hS, -, -, -, -, -, -, h6, hbs, hmap⟩ := h.cell0
  have HRG : Hid (w.rangeAt g 0 (x.cells b).toList) := Lib.hid (Blk.range (by simpa using hbs))
  obtain ⟨es, clock, hes, hraw⟩ := hmap.raw
  have HES := Lib.hid hes
  have HRAW := Lib.hid hraw
  clear h hbs hmap hes hraw hS
  go_enter Tryd.func22, Tryd.ntmps22
  go_upto_region 2 with (first
    | (refine wpList_row rfl 90 _ rfl g 0 rfl _ HRG.out row_stamper ?_)
    | (refine wpList_store_blk rfl 90 _ _ rfl w.heap.size (x.cells b) rfl rfl 90 zeroSk (Blk.new w _ _) (by kernel_rfl) rfl (x.cells_all b) ?_; intro w1 hb1 hf1))
  have hg : g < w.heap.size := World.block_lt_of_cell? w ⟨g, 6, none⟩ h6
  have HFW : Hid (Fr [] w w1) := Lib.hid (((Fr.refl [] w).alloc _).and hf1 (by simp))
  have h61 := HFW.out.cell h6 (by simp)
  have HG1 : Hid (w.heap.size < w1.heap.size) := Lib.hid hb1.lt
  have hcl := mclone_st w1 b es clock (HFW.out.heap HES.out (by simp))
  have HB1 := Lib.hid hb1
  clear h6 hf1 hb1
  go_wp2_with fail
  refine hcl.mono ?_
  rintro e w2 ⟨rfl, hw2⟩
  have HF2 : Hid (Fr [] w1 w2) := Lib.hid (by rw [hw2]; exact (Fr.refl [] w1).alloc _)
  have HM2 : Hid (w2.heap[w1.heap.size]? = some (.map es clock)) := Lib.hid (by rw [hw2]; exact (MapKept.heap_alloc w1 _).1)
  have hb2 := HB1.out.keep HF2.out (by simp)
  have HB2 := Lib.hid hb2
  have hz6 := hb2.frozen 6
  have hc6 := hb2.cell 6
  simp only [Sst.cells, List.getElem?_toArray, List.getElem?_cons_zero, List.getElem?_cons_succ] at hc6
  clear hw2 hcl hb2 h61
  go_wp2
  have hb3 := HB2.out.set 6 (.map (some w1.heap.size))
  have HF3 : Hid (Fr [w.heap.size] w2 (w2.setCell ⟨w.heap.size, 6, none⟩ (.map (some w1.heap.size)))) := Lib.hid ((Fr.refl [w.heap.size] w2).setCell _ (by simp) _)
  go_ret
  refine ⟨[w.heap.size, w1.heap.size], w.heap.size, rfl, ⟨w1.heap.size, rfl, hb3, (HRAW.out _ _ HM2.out).keep HF3.out (by have := HG1.out; simp; omega)⟩, (HFW.out.and HF2.out (by simp)).and HF3.out (by simp), ?_⟩
  intro k hk
  have := HG1.out
  simp at hk
  omega
theorem built_sk (f k r : Int) (b : Nat) : Tryd.prog.built 90 [(0, .agg #[.int .i64 f, .int .i64 k]), (1, .int .i64 r), (5, .map (some b))] = some (Sst.cells ⟨f, k, r, 0, 0, 0, []⟩ b) := by kernel_rfl
def Sst.new (f k r : Int) : Sst := ⟨f, k, r, 0, 0, 0, []⟩
theorem Sst.new_ok {f k r : Int} (h : mayB f k r = true) : (Sst.new f k r).Ok := by
  obtain ⟨h1, h2, h3⟩ := may_of h
  exact ⟨h1, ⟨h2, h3⟩, Nat.zero_le _, by show (0 : Nat) < _; decide, by show (0 : Nat) < _; decide, fun n y hy => by simp [Sst.new] at hy, fun e he => by simp [Sst.new] at he⟩
set_option maxHeartbeats 1000000 in
theorem snew_ok (f k r : Int) (h : mayB f k r = true) (w : World) :
    Calls Tryd.prog 11 #[.agg #[.int .i64 f, .int .i64 k], .int .i64 r] w fun e w' => ∃ S g, e = .returned (.tuple #[.pointer (some ⟨g, 0, none⟩), .int .i64 0]) ∧ Sk w' S g (Sst.new f k r) ∧ Fr [] w w' ∧ ∀ y ∈ S, w.heap.size ≤ y := by
  obtain ⟨h1, h2, h3⟩ := may_of h
  have h4 := conf_of h1
  have H1 := Lib.hid h1
  have hf : -1000 ≤ f ∧ f ≤ 1000 := by omega
  have H4 := Lib.hid hf
  have hge : decide (r < 0) = false := decide_eq_false (by omega)
  clear h h1 h4 hf
  have hb0 : Blk (w.alloc (Obj.cells #[.int .i64 f, .int .i64 k] 26)) w.heap.size 26 #[.int .i64 f, .int .i64 k] := Blk.new _ _ _
  have HB0 := Lib.hid hb0
  have HF0 : Hid (Fr [] w (w.alloc (Obj.cells #[.int .i64 f, .int .i64 k] 26))) := Lib.hid ((Fr.refl [] w).alloc _)
  clear hb0
  go_enter Tryd.func11, Tryd.ntmps11
  go_upto_region 1 with (fail)
  generalize w.alloc (Obj.cells #[.int .i64 f, .int .i64 k] 26) = wa at *
  go_wp2_with (refine wpList_row rfl 26 _ rfl _ _ rfl _ (Blk.range HB0.out) row_conf ?_)
  refine (validConf_any f k _).mono ?_
  rw [H1.out]
  rintro e w1 ⟨rfl, hf1⟩
  have HF1 := Lib.hid hf1
  have HB1 := Lib.hid (HB0.out.keep hf1 (by simp))
  clear hf1
  go_wp2_with (refine wpList_row rfl 26 _ rfl _ _ rfl _ (Blk.range HB1.out) row_conf ?_)
  refine (wireN_any f k H4.out _).mono ?_
  rintro e w2 ⟨rfl, hf2⟩
  have HF2 := Lib.hid hf2
  have HB2 := Lib.hid (HB1.out.keep hf2 (by simp))
  have hlt : decide (3 * f + 1 ≤ r) = false := decide_eq_false (by omega)
  clear hf2
  have HMM := Lib.hid (@run_makeMap Tryd.prog)
  have hmm := HMM.out
  go_wp2_with (first
    | (refine wpList_row rfl 26 _ rfl _ _ rfl _ (Blk.range HB2.out) row_conf ?_)
    | (refine wpList_builtg rfl 90 _ rfl _ _ (built_sk f k r _) rfl ?_))
  go_ret2
  refine ⟨[w2.heap.size + 1, w2.heap.size], w2.heap.size + 1, ?_, ⟨w2.heap.size, rfl, ?_, ?_⟩, (((HF0.out.and HF1.out (by simp)).and HF2.out (by simp)).alloc _).alloc _, ?_⟩
  · simp
  · have := Blk.new (w2.alloc (.map #[] 0)) 90 (Sst.cells (Sst.new f k r) w2.heap.size)
    rw [show (w2.alloc (.map #[] 0)).heap.size = w2.heap.size + 1 by simp] at this
    exact this
  · exact (MapAt.made nameKey w2).keep ((Fr.refl [] _).alloc _) (by simp)
  · intro y hy
    have h1 := ((HF0.out.and HF1.out (by simp)).and HF2.out (by simp)).size
    simp at hy
    omega
set_option maxHeartbeats 1000000 in
theorem snew_no (f k r : Int) (h : mayB f k r = false) (w : World) :
    Calls Tryd.prog 11 #[.agg #[.int .i64 f, .int .i64 k], .int .i64 r] w fun e w' => e = .returned (.tuple #[.pointer none, .int .i64 1]) ∧ Fr [] w w' := by
  have hb0 : Blk (w.alloc (Obj.cells #[.int .i64 f, .int .i64 k] 26)) w.heap.size 26 #[.int .i64 f, .int .i64 k] := Blk.new _ _ _
  have HB0 := Lib.hid hb0
  have HF0 : Hid (Fr [] w (w.alloc (Obj.cells #[.int .i64 f, .int .i64 k] 26))) := Lib.hid ((Fr.refl [] w).alloc _)
  clear hb0
  by_cases hc : confB f k = true
  · have HC := Lib.hid hc
    have h4 := conf_of hc
    have hn : ¬ (0 ≤ r ∧ r < 3 * f + 1) := fun hh => by
      have : mayB f k r = true := by unfold mayB; simp [hc, hh]
      rw [this] at h
      cases h
    have H4 : Hid (-1000 ≤ f ∧ f ≤ 1000) := Lib.hid (by omega)
    clear h hc h4
    by_cases hr : r < 0
    · have hge : decide (r < 0) = true := decide_eq_true hr
      clear hn
      go_enter Tryd.func11, Tryd.ntmps11
      go_upto_region 1 with (fail)
      generalize w.alloc (Obj.cells #[.int .i64 f, .int .i64 k] 26) = wa at *
      go_wp2_with (refine wpList_row rfl 26 _ rfl _ _ rfl _ (Blk.range HB0.out) row_conf ?_)
      refine (validConf_any f k _).mono ?_
      rw [HC.out]
      rintro e w1 ⟨rfl, hf1⟩
      have HF1 := Lib.hid hf1
      clear hf1
      go_wp2
      go_ret2
      exact ⟨rfl, HF0.out.and HF1.out (by simp)⟩
    · have hr2 : decide (3 * f + 1 ≤ r) = true := decide_eq_true (by omega)
      have hge : decide (r < 0) = false := decide_eq_false hr
      clear hn
      go_enter Tryd.func11, Tryd.ntmps11
      go_upto_region 1 with (fail)
      generalize w.alloc (Obj.cells #[.int .i64 f, .int .i64 k] 26) = wa at *
      go_wp2_with (refine wpList_row rfl 26 _ rfl _ _ rfl _ (Blk.range HB0.out) row_conf ?_)
      refine (validConf_any f k _).mono ?_
      rw [HC.out]
      rintro e w1 ⟨rfl, hf1⟩
      have HF1 := Lib.hid hf1
      have HB1 := Lib.hid (HB0.out.keep hf1 (by simp))
      clear hf1
      go_wp2_with (refine wpList_row rfl 26 _ rfl _ _ rfl _ (Blk.range HB1.out) row_conf ?_)
      refine (wireN_any f k H4.out _).mono ?_
      rintro e w2 ⟨rfl, hf2⟩
      have HF2 := Lib.hid hf2
      clear hf2
      go_wp2
      go_ret2
      exact ⟨rfl, (HF0.out.and HF1.out (by simp)).and HF2.out (by simp)⟩
  · have hc' : confB f k = false := by simpa using hc
    have HC := Lib.hid hc'
    clear h hc hc'
    go_enter Tryd.func11, Tryd.ntmps11
    go_upto_region 1 with (fail)
    generalize w.alloc (Obj.cells #[.int .i64 f, .int .i64 k] 26) = wa at *
    go_wp2_with (refine wpList_row rfl 26 _ rfl _ _ rfl _ (Blk.range HB0.out) row_conf ?_)
    refine (validConf_any f k _).mono ?_
    rw [HC.out]
    rintro e w1 ⟨rfl, hf1⟩
    have HF1 := Lib.hid hf1
    clear hf1
    go_wp2
    go_ret2
    exact ⟨rfl, HF0.out.and HF1.out (by simp)⟩
end Go.Proofs.YtacandocjjpfcaaDoor

namespace Go.Proofs.YtacandocjjpfcaaDoor
open Go.RowKit
set_option maxRecDepth 100000

theorem made_ok (c s : Int) (hc : 0 ≤ c ∧ c < 1099511627776) (hs : i64In s) (h b : List UInt8) (hb : b.length ≤ 1000000) (l : List Ent) (hl : l.length < 1048576) : (made c s h b l).Ok := by
  refine ⟨⟨by show _ ≤ c; omega, by show c < _; omega⟩, hs, sumL_len _, ⟨by show _ ≤ ((b.length : Nat) : Int); omega, by show ((b.length : Nat) : Int) < _; omega⟩, ⟨by show _ ≤ 1000 + c; omega, by show 1000 + c < _; omega⟩, ?_⟩
  show i64In (mrk _ _)
  unfold mrk i64In
  have h1 : List.idxOf (1000 + c, (made0 c s h b).text) (sgn l (1000 + c, (made0 c s h b).text)) ≤ (sgn l (1000 + c, (made0 c s h b).text)).length := List.idxOf_le_length
  have h2 : (sgn l (1000 + c, (made0 c s h b).text)).length ≤ l.length + 1 := by unfold sgn; split <;> simp
  omega
theorem made_right (c s : Int) (hc : 0 ≤ c) (h b : List UInt8) (l : List Ent) (k : Int) (hk : c < k) (hs : 1 ≤ s ∧ s ≤ 1048576) (hb : b.length ≤ 256) :
    rightC k (sgn l (1000 + c, (made0 c s h b).text)) (made c s h b l) = true := by
  unfold rightC
  have h1 : validB k (made c s h b l) = true := by
    unfold validB
    simp only [decide_eq_true_eq]
    exact ⟨hc, hk, hs.1, hs.2, by show (0 : Int) ≤ ((b.length : Nat) : Int); omega, by show ((b.length : Nat) : Int) ≤ 256; omega⟩
  have h2 : signB (made c s h b l).b (made c s h b l).c = true := by
    unfold signB
    simp only [decide_eq_true_eq]
    exact ⟨by show 1000 ≤ 1000 + c; omega, by show 1000 + c - 1000 = c; omega⟩
  rw [h1, h2, made_text]
  exact rightB_sgn l (1000 + c) (made0 c s h b).text

end Go.Proofs.YtacandocjjpfcaaDoor

namespace Go.Proofs.YtacandocjjpfcaaDoor
set_option maxRecDepth 100000
open Go.RowKit

theorem sgn_len1 (l : List Ent) (e : Ent) : (sgn l e).length ≤ l.length + 1 := by
  unfold sgn
  split <;> simp
theorem mrk_in {l : List Ent} (hl : l.length < 1048576) (e : Ent) : i64In (mrk (sgn l e) e) := by
  have h1 : List.idxOf e (sgn l e) ≤ (sgn l e).length := List.idxOf_le_length
  have h2 := sgn_len1 l e
  unfold mrk i64In
  omega
theorem lookup_snoc {l : List (Nam × Wst)} {n m : Nam} {v u : Wst} (h : (l ++ [(n, v)]).lookup m = some u) : l.lookup m = some u ∨ m = n ∧ u = v := by
  rw [List.lookup_append] at h
  rcases hh : l.lookup m with _ | y
  · rw [hh] at h
    simp [List.lookup] at h
    split at h
    · rename_i he
      simp at h
      exact .inr ⟨by simpa using he, h.symm⟩
    · cases h
  · rw [hh] at h
    exact .inl (by simpa using h)
theorem Sst.next_ge (x : Sst) : x.now ≤ x.next ∧ x.fl + 1 ≤ x.next ∧ x.la + 1 ≤ x.next := by unfold Sst.next; omega
theorem Sst.next_le {x : Sst} (hx : x.Ok) : x.next ≤ 18446744073709551615 := by
  have h1 := hx.now
  have h2 := hx.fl
  have h3 := hx.la
  unfold Sst.next
  omega
theorem Sst.given_ok {x : Sst} (hx : x.Ok) {z : Cm} (hz : z.Ok) {l : List Ent} (hl : l.length < 1048576) : (x.given z l).Ok := by
  have h1 := hx.r
  have h2 := conf_of hx.conf
  have h3 := Sst.next_le hx
  have hr : i64In x.r := ⟨by omega, by omega⟩
  exact ⟨hr, hz.c, hz.s, hz.h, by show x.next < _; omega, hr, mrk_in hl _⟩
theorem Sst.more_ok {x : Sst} (hx : x.Ok) {z : Cm} (hz : z.Ok) {l : List Ent} (hl : l.length < 1048576) (hn : x.next < 18446744073709551615) : (x.more z l).Ok := by
  have hg := Sst.next_ge x
  refine ⟨hx.conf, hx.r, hx.now, hx.fl, hn, fun n y hy => ?_, fun e he => ?_⟩
  · rcases lookup_snoc hy with hy | ⟨rfl, rfl⟩
    · obtain ⟨h1, h2, h3, h4, h5⟩ := hx.l n y hy
      exact ⟨h1, h2, h3, by show y.t ≤ x.next; omega, h5⟩
    · exact ⟨Sst.given_ok hx hz hl, rfl, rfl, Nat.le_refl _, by show 1 ≤ x.next; omega⟩
  · rcases List.mem_append.1 he with he | he
    · exact hx.n e he
    · simp at he
      subst he
      exact ⟨hz.c, hz.s⟩
theorem Sst.stamp_not {x : Sst} {l : List Ent} {z : Cm} (hr : rightC x.k l z = false) : x.stamp l z = (zSt, 3, x, l) := by
  unfold Sst.stamp; rw [if_pos hr]
theorem Sst.stamp_old {x : Sst} {l : List Ent} {z : Cm} (hr : rightC x.k l z = true) {o : Wst} (ho : x.l.lookup (z.c, z.s) = some o) : x.stamp l z = (againS o z.h, againE o z.h, x, l) := by
  unfold Sst.stamp againS againE
  rw [if_neg (by simp [hr]), ho]
  simp only
  split <;> rfl
theorem Sst.stamp_end {x : Sst} {l : List Ent} {z : Cm} (hr : rightC x.k l z = true) (ho : x.l.lookup (z.c, z.s) = none) (hn : x.next = 18446744073709551615) : x.stamp l z = (zSt, 4, x, l) := by
  unfold Sst.stamp
  rw [if_neg (by simp [hr]), ho]
  simp only
  rw [if_pos hn]
theorem Sst.stamp_new {x : Sst} {l : List Ent} {z : Cm} (hr : rightC x.k l z = true) (ho : x.l.lookup (z.c, z.s) = none) (hn : x.next < 18446744073709551615) : x.stamp l z = (x.given z l, 0, x.more z l, sgn l (x.r, (x.bare z).text)) := by
  unfold Sst.stamp
  rw [if_neg (by simp [hr]), ho]
  simp only
  rw [if_neg (by omega)]
  rfl
/-- what Stamp makes of a stamper that may be -/
theorem Sst.stamp_ok {x : Sst} (hx : x.Ok) {z : Cm} (hz : z.Ok) {l : List Ent} (hl : l.length < 1048576) :
    (x.stamp l z).1.Ok ∧ (x.stamp l z).2.2.1.Ok ∧ (x.stamp l z).2.2.1.l.length ≤ x.l.length + 1 ∧ (x.stamp l z).2.2.2.length ≤ l.length + 1 := by
  by_cases hr : rightC x.k l z = true
  · rcases ho : x.l.lookup (z.c, z.s) with _ | o
    · by_cases hn : x.next = 18446744073709551615
      · rw [Sst.stamp_end hr ho hn]
        exact ⟨zSt_ok, hx, Nat.le_succ _, Nat.le_succ _⟩
      · have hn' : x.next < 18446744073709551615 := by have := Sst.next_le hx; omega
        rw [Sst.stamp_new hr ho hn']
        exact ⟨Sst.given_ok hx hz hl, Sst.more_ok hx hz hl hn', by simp [Sst.more], sgn_len1 _ _⟩
    · rw [Sst.stamp_old hr ho]
      refine ⟨?_, hx, Nat.le_succ _, Nat.le_succ _⟩
      show (againS o z.h).Ok
      unfold againS
      split
      · exact (hx.l _ _ ho).1
      · exact zSt_ok
  · have hr' : rightC x.k l z = false := by simpa using hr
    rw [Sst.stamp_not hr']
    exact ⟨zSt_ok, hx, Nat.le_succ _, Nat.le_succ _⟩
theorem stamp_any (w : World) (S : List Nat) (g : Nat) (x : Sst) (h : Sk w S g x) (hx : x.Ok) (Sb : List Nat) (gb : Nat) (l : List Ent) (hb : Bok w Sb gb l) (hl : l.length < 1048576) (hll : x.l.length < 1048576) (hSS : ∀ k ∈ S, ¬ k ∈ Sb) (z : Cm) (hz : z.Ok) :
    Calls Tryd.prog 14 #[.pointer (some ⟨g, 0, none⟩), .pointer (some ⟨gb, 0, none⟩), z.val] w fun e w' => e = .returned (.tuple #[(x.stamp l z).1.val, .int .i64 (x.stamp l z).2.1]) ∧ Sk w' S g (x.stamp l z).2.2.1 ∧ Bok w' Sb gb (x.stamp l z).2.2.2 ∧ Fr (S ++ Sb) w w' := by
  by_cases hr : rightC x.k l z = true
  · rcases ho : x.l.lookup (z.c, z.s) with _ | o
    · by_cases hn : x.next = 18446744073709551615
      · rw [Sst.stamp_end hr ho hn]
        exact (stamp_end w S g x h hx Sb gb l hb hl hll hSS z hz hr ho hn).mono fun e w' ⟨h1, h2, h3, h4⟩ => ⟨h1, h2, h3, h4.mono (by simp)⟩
      · have hn' : x.next < 18446744073709551615 := by have := Sst.next_le hx; omega
        rw [Sst.stamp_new hr ho hn']
        exact stamp_new w S g x h hx Sb gb l hb hl hll hSS z hz hr ho hn'
    · rw [Sst.stamp_old hr ho]
      exact (stamp_old w S g x h hx Sb gb l hb hl hll hSS z hz hr o ho).mono fun e w' ⟨h1, h2, h3, h4⟩ => ⟨h1, h2, h3, h4.mono (by simp)⟩
  · have hr' : rightC x.k l z = false := by simpa using hr
    rw [Sst.stamp_not hr']
    exact (stamp_not w S g x h hx Sb gb l hb hl hll hSS z hz hr').mono fun e w' ⟨h1, h2, h3, h4⟩ => ⟨h1, h2, h3, h4.mono (by simp)⟩

/-- a stamper and a book, both new since w0, apart -/
structure SB (w0 w : World) (S Sb : List Nat) (g gb : Nat) (x : Sst) (l : List Ent) : Prop where
  s : Sk w S g x
  b : Bok w Sb gb l
  os : ∀ k ∈ S, w0.heap.size ≤ k
  ob : ∀ k ∈ Sb, w0.heap.size ≤ k
  d : ∀ k ∈ S, ¬ k ∈ Sb
  ok : x.Ok
theorem SB.keep {w0 w w' : World} {S Sb T : List Nat} {g gb : Nat} {x : Sst} {l : List Ent} (h : SB w0 w S Sb g gb x l) (hf : Fr T w w') (hT : ∀ k ∈ S ++ Sb, ¬ k ∈ T) : SB w0 w' S Sb g gb x l :=
  ⟨h.s.keep hf (fun k hk => hT k (List.mem_append.2 (.inl hk))), h.b.keep hf (fun k hk => hT k (List.mem_append.2 (.inr hk))), h.os, h.ob, h.d, h.ok⟩
theorem SB.lt {w0 w : World} {S Sb : List Nat} {g gb : Nat} {x : Sst} {l : List Ent} (h : SB w0 w S Sb g gb x l) : ∀ k ∈ S ++ Sb, k < w.heap.size := fun k hk => by
  rcases List.mem_append.1 hk with hk | hk
  · exact h.s.lt k hk
  · exact h.b.lt k hk
theorem SB.ge {w0 w : World} {S Sb : List Nat} {g gb : Nat} {x : Sst} {l : List Ent} (h : SB w0 w S Sb g gb x l) : ∀ k ∈ S ++ Sb, w0.heap.size ≤ k := fun k hk => by
  rcases List.mem_append.1 hk with hk | hk
  · exact h.os k hk
  · exact h.ob k hk
theorem SB.make {w0 w : World} {S Sb : List Nat} {g gb : Nat} {x : Sst} {l : List Ent} (h : SB w0 w S Sb g gb x l) (c s : Int) (hc : 0 ≤ c ∧ c < 1099511627776) (hs : i64In s) (H : List UInt8) (hh : H.length = 32) (A : Option Addr) (n cap : Nat) (b : List UInt8)
    (hb : By w A n b) (hA : ∀ k ∈ bk A, k < w.heap.size) (hn : n ≤ 1000000) (hK : KW w) (hl : l.length < 1048576) :
    Calls Tryd.prog 10 #[.pointer (some ⟨gb, 0, none⟩), .agg #[.int .i64 c, .int .i64 s], .agg (H.map by8).toArray, .slice A n cap] w fun e w' => e = .returned (made c s H b l).val ∧
      SB w0 w' S Sb g gb x (sgn l (1000 + c, (made0 c s H b).text)) ∧ Fr (S ++ Sb) w w' :=
  (make_any c s hc hs H hh A n cap b w hb hA hn hK Sb gb l h.b hl).mono fun e w' ⟨h1, h2, h3⟩ => ⟨h1, ⟨h.s.keep h3 h.d, h2, h.os, h.ob, h.d, h.ok⟩, h3.mono (fun k hk _ => List.mem_append.2 (.inr hk))⟩
theorem SB.stamp {w0 w : World} {S Sb : List Nat} {g gb : Nat} {x : Sst} {l : List Ent} (h : SB w0 w S Sb g gb x l) (hl : l.length < 1048576) (hll : x.l.length < 1048576) (z : Cm) (hz : z.Ok) :
    Calls Tryd.prog 14 #[.pointer (some ⟨g, 0, none⟩), .pointer (some ⟨gb, 0, none⟩), z.val] w fun e w' => e = .returned (.tuple #[(x.stamp l z).1.val, .int .i64 (x.stamp l z).2.1]) ∧
      SB w0 w' S Sb g gb (x.stamp l z).2.2.1 (x.stamp l z).2.2.2 ∧ Fr (S ++ Sb) w w' :=
  (stamp_any w S g x h.s h.ok Sb gb l h.b hl hll h.d z hz).mono fun e w' ⟨h1, h2, h3, h4⟩ => ⟨h1, ⟨h2, h3, h.os, h.ob, h.d, (Sst.stamp_ok h.ok hz hl).2.1⟩, h4⟩
theorem SB.tick {w0 w : World} {S Sb : List Nat} {g gb : Nat} {x : Sst} {l : List Ent} (h : SB w0 w S Sb g gb x l) (n : Nat) (hn : n < 18446744073709551616) :
    Calls Tryd.prog 13 #[.pointer (some ⟨g, 0, none⟩), .int .u64 (n : Int)] w fun e w' => e = .returned (.tuple #[]) ∧ SB w0 w' S Sb g gb (x.tick n) l ∧ Fr (S ++ Sb) w w' :=
  (stick_any w S g x h.s h.ok n hn).mono fun e w' ⟨h1, h2, h3⟩ => ⟨h1, ⟨h2, h.b.keep h3 (fun k hk hm => by simp at hm; subst hm; exact h.d _ h.s.mem hk), h.os, h.ob, h.d, Sst.tick_ok h.ok n⟩, h3.mono (fun k hk _ => by simp at hk; subst hk; exact List.mem_append.2 (.inl h.s.mem))⟩
theorem SB.raise {w0 w : World} {S Sb : List Nat} {g gb : Nat} {x : Sst} {l : List Ent} (h : SB w0 w S Sb g gb x l) (n : Nat) (hn : n < 18446744073709551616) :
    Calls Tryd.prog 15 #[.pointer (some ⟨g, 0, none⟩), .int .u64 (n : Int)] w fun e w' => e = .returned (.int .i64 (raiseE n)) ∧ SB w0 w' S Sb g gb (x.raise n) l ∧ Fr (S ++ Sb) w w' :=
  (sraise_any w S g x h.s h.ok n hn).mono fun e w' ⟨h1, h2, h3⟩ => ⟨h1, ⟨h2, h.b.keep h3 (fun k hk hm => by simp at hm; subst hm; exact h.d _ h.s.mem hk), h.os, h.ob, h.d, Sst.raise_ok h.ok hn⟩, h3.mono (fun k hk _ => by simp at hk; subst hk; exact List.mem_append.2 (.inl h.s.mem))⟩
end Go.Proofs.YtacandocjjpfcaaDoor

namespace Go.Proofs.YtacandocjjpfcaaDoor
open Go.RowKit
set_option maxRecDepth 100000
def wAck : List UInt8 := [97, 99, 107]
def Wst.ack (x : Wst) : List UInt8 := enc wAck.length ++ wAck ++ x.bare
theorem Wst.ack_len {x : Wst} (hx : x.Ok) : x.ack.length ≤ 100 := by
  have b0 := Wst.bare_len hx
  have b1 := enc_ten (m := wAck.length) (by decide)
  have b2 : wAck.length = 3 := rfl
  simp only [Wst.ack, List.length_append]
  omega
end Go.Proofs.YtacandocjjpfcaaDoor

namespace Go.Proofs.YtacandocjjpfcaaDoor
open Go.RowKit
set_option maxRecDepth 100000

def hh1 (u : UInt8) : List UInt8 := u :: List.replicate 31 0
def Wst.small (x : Wst) : Wst := ⟨x.r % 4, x.c % 3, x.s % 3, hh1 (x.h.getD 0 0 % 2), x.t % 3, 0, 0⟩
def Wvt.small (x : Wvt) : Wvt := ⟨1 + x.k % 2, x.e % 3, x.r % 3, x.p % 4, hh1 (x.h.getD 0 0 % 2), 0, 0⟩
theorem built_nm (c s : Int) : Tryd.prog.built 30 [(0, .int .i64 c), (1, .int .i64 s)] = some #[.int .i64 c, .int .i64 s] := by kernel_rfl
theorem built_h1 (u : UInt8) : Tryd.prog.built 32 [(0, by8 u)] = some ((hh1 u).map by8).toArray := by kernel_rfl
theorem built_st (r c s : Int) (u : UInt8) (t : Nat) : Tryd.prog.built 47 [(0, .int .i64 r), (1, .agg #[.int .i64 c, .int .i64 s]), (2, .agg ((hh1 u).map by8).toArray), (3, .int .u64 (t : Int))] = some (Wst.cells ⟨r, c, s, hh1 u, t, 0, 0⟩).toArray := by kernel_rfl
def zeroSt : Array Value := (Wst.cells ⟨0, 0, 0, List.replicate 32 0, 0, 0, 0⟩).toArray
def zeroVt : Array Value := (Wvt.cells ⟨0, 0, 0, 0, List.replicate 32 0, 0, 0⟩).toArray

-- votes
end Go.Proofs.YtacandocjjpfcaaDoor

namespace Go.Proofs.YtacandocjjpfcaaDoor
set_option maxRecDepth 100000
open Go.RowKit

theorem built_h0 : Tryd.prog.built 32 [] = some (hz32.map by8).toArray := by kernel_rfl
theorem built_nm1 (s : Int) : Tryd.prog.built 30 [(1, .int .i64 s)] = some #[.int .i64 0, .int .i64 s] := by kernel_rfl
theorem built_cf (f k : Int) : Tryd.prog.built 26 [(0, .int .i64 f), (1, .int .i64 k)] = some #[.int .i64 f, .int .i64 k] := by kernel_rfl
theorem book_ex (w : World) : Calls Tryd.prog 9 #[] w fun e w' => ∃ S g, e = .returned (.pointer (some ⟨g, 0, none⟩)) ∧ Bok w' S g [] ∧ Fr [] w w' ∧ ∀ x ∈ S, w.heap.size ≤ x :=
  (new_any w).mono fun e w' ⟨he, hb, hf⟩ => ⟨_, _, he, hb, hf, by simp⟩
theorem kw_fr {w0 w W : World} {S : List Nat} (hK : KW w0) (h0 : Fr [] w0 w) (hw : Fr S w W) (hS : ∀ k ∈ S, w0.heap.size ≤ k) : KW W := hK.keep (h0.go hw hS) (by simp)
theorem tiny_int : (-9223372036854775808 : Int) ≤ 0 ∧ (0 : Int) < 9223372036854775808 := by decide
set_option maxHeartbeats 2000000 in
theorem swakes_any (w0 : World) (hK : KW w0) : Calls Tryd.prog 18 #[] w0 fun e w' => e = .returned (.bool true) ∧ Fr [] w0 w' := by
  have HK := Lib.hid hK
  clear hK
  go_enter Tryd.func18, Tryd.ntmps18
  go_wp2_with fail
  refine (book_ex w0).mono ?_
  rintro e w1 ⟨Sb, gb, rfl, hb1, hf1, hn1⟩
  have HB1 := Lib.hid hb1
  have HF1 := Lib.hid hf1
  have HN1 := Lib.hid hn1
  clear hb1 hf1 hn1
  go_wp2_with (refine wpList_builtg rfl 26 _ rfl _ _ (built_cf 1 1) rfl ?_)
  refine (snew_ok 1 1 0 (by decide) w1).mono ?_
  rintro e wc ⟨S, g, rfl, hs2, hf2, hn2⟩
  have HSB : Hid (SB w0 wc S Sb g gb (Sst.new 1 1 0) []) := Lib.hid ⟨hs2, HB1.out.keep hf2 (by simp), fun k hk => Nat.le_trans HF1.out.size (hn2 k hk), HN1.out, fun k hk hm => by have := HB1.out.lt k hm; have := hn2 k hk; omega, Sst.new_ok (by decide)⟩
  have HF2 := Lib.hid (HF1.out.and hf2 (by simp))
  clear hs2 hf2 hn2
  have hz : (made 0 1 hz32 [] []).Ok := made_ok 0 1 (by omega) ⟨by omega, by omega⟩ hz32 [] (by decide) [] (by decide)
  obtain ⟨x, hx⟩ : ∃ x, x = Sst.new 1 1 0 := ⟨_, rfl⟩
  obtain ⟨l, hl⟩ : ∃ l : List Ent, l = [] := ⟨_, rfl⟩
  obtain ⟨l1, hl1⟩ : ∃ l1, l1 = sgn l (1000 + 0, (made0 0 1 hz32 []).text) := ⟨_, rfl⟩
  obtain ⟨Z, hZ⟩ : ∃ Z, Z = made 0 1 hz32 [] l := ⟨_, rfl⟩
  have hll1 : l1.length ≤ 1 := by rw [hl1, hl]; exact sgn_len1 [] _
  have hr : rightC x.k l1 Z = true := by rw [hl1, hZ, hx]; exact made_right 0 1 (by omega) hz32 [] l 1 (by omega) ⟨by omega, by omega⟩ (by decide)
  have hst := Sst.stamp_new (x := x) (l := l1) (z := Z) hr (by rw [hx]; rfl) (by rw [hx]; decide)
  rw [← hx, ← hl] at HSB
  rw [← hl, ← hZ] at hz
  have HZ := Lib.hid hz
  obtain ⟨Y, hY⟩ : ∃ Y, Y = x.given Z l1 := ⟨_, rfl⟩
  obtain ⟨x2, hx2⟩ : ∃ x2, x2 = x.more Z l1 := ⟨_, rfl⟩
  obtain ⟨l2, hl2⟩ : ∃ l2, l2 = sgn l1 (x.r, (x.bare Z).text) := ⟨_, rfl⟩
  obtain ⟨E, hE⟩ : ∃ E : Int, E = 0 := ⟨_, rfl⟩
  rw [← hY, ← hx2, ← hl2, ← hE] at hst
  have HYL : Hid (Y.cells.length = 38) := Lib.hid (Wst.len (by rw [hY]; exact HZ.out.h))
  have HYS := Lib.hid (st_size (x := Y) (by rw [hY]; exact HZ.out.h))
  have HYT : Hid (Y.h.length = 32 ∧ Y.t = 1) := Lib.hid (by rw [hY]; exact ⟨HZ.out.h, by show x.next = 1; rw [hx]; rfl⟩)
  have HX2 : Hid (x2.l.length = 1) := Lib.hid (by rw [hx2, hx]; rfl)
  have HEE := Lib.hid hE
  have HMK : Hid (∀ W, SB w0 W S Sb g gb x l → Fr (S ++ Sb) wc W → Calls Tryd.prog 10 #[.pointer (some ⟨gb, 0, none⟩), .agg #[.int .i64 0, .int .i64 1], .agg (hz32.map by8).toArray, .slice none 0 0] W fun e w' => e = .returned (.agg Z.cells.toArray) ∧ SB w0 w' S Sb g gb x l1 ∧ Fr (S ++ Sb) W w') := Lib.hid (fun W hW hF => by
    rw [hZ, hl1]
    exact hW.make 0 1 (by omega) ⟨by omega, by omega⟩ hz32 rfl none 0 0 [] (By.nil _ _) (by simp [bk]) (by omega) (kw_fr HK.out HF2.out hF hW.ge) (by rw [hl]; decide))
  have HST : Hid (∀ W, SB w0 W S Sb g gb x l1 → Calls Tryd.prog 14 #[.pointer (some ⟨g, 0, none⟩), .pointer (some ⟨gb, 0, none⟩), .agg Z.cells.toArray] W fun e w' => e = .returned (.tuple #[.agg Y.cells.toArray, .int .i64 E]) ∧ SB w0 w' S Sb g gb x2 l2 ∧ Fr (S ++ Sb) W w') := Lib.hid (fun W hW => by
    have := hW.stamp (by omega) (by rw [hx]; decide) Z HZ.out
    rw [hst] at this
    exact this)
  clear hz hx hl hl1 hZ hll1 hr hst hY hx2 hl2 hE
  go_wp2_with (first | (refine wpList_builtg rfl 30 _ rfl _ _ (built_nm1 1) rfl ?_) | (refine wpList_builtg rfl 32 _ rfl _ _ built_h0 rfl ?_))
  refine (HMK.out _ HSB.out (Fr.refl _ _)).mono ?_
  rintro e_ x1 ⟨rfl, hs, hf⟩
  have HS1 := Lib.hid hs
  have HM1 := Lib.hid hf
  clear hs hf
  go_wp2_with fail
  refine (HST.out _ HS1.out).mono ?_
  rintro e_ x2w ⟨rfl, hs, hf⟩
  have HS2 := Lib.hid hs
  have HM2 := Lib.hid (HM1.out.trans hf (fun k hk _ => hk))
  clear hs hf
  have HGL : Hid (wc.heap.size ≤ x2w.heap.size) := Lib.hid HM2.out.size
  have HGB : Hid (Blk (x2w.alloc (Obj.cells zSt.cells.toArray 47)) x2w.heap.size 47 zSt.cells.toArray) := Lib.hid (Blk.new _ _ _)
  have HSA : Hid (SB w0 (x2w.alloc (Obj.cells zSt.cells.toArray 47)) S Sb g gb x2 l2) := Lib.hid (HS2.out.keep ((Fr.refl [] x2w).alloc _) (by simp))
  have HMA : Hid (Fr (S ++ Sb) wc (x2w.alloc (Obj.cells zSt.cells.toArray 47))) := Lib.hid (HM2.out.alloc _)
  have HGN : Hid (¬ x2w.heap.size ∈ S ++ Sb) := Lib.hid (fun hm => by have := HS2.out.lt _ hm; omega)
  go_upto_region 6 with (refine wpList_store_blk rfl 47 _ _ rfl x2w.heap.size Y.cells.toArray rfl rfl 47 _ HGB.out HYS.out (by rw [List.size_toArray, List.size_toArray, zSt_len, HYL.out]) Y.all ?_; intro w9 hb9 hf9)
  have HB9 := Lib.hid hb9
  have HS9 : Hid (SB w0 w9 S Sb g gb x2 l2) := Lib.hid (HSA.out.keep hf9 (fun k hk hm => HGN.out (by simp at hm; subst hm; exact hk)))
  have HF9 : Hid (Fr (S ++ Sb) wc w9) := Lib.hid (HMA.out.go hf9 (by have := HGL.out; simpa using this))
  clear hb9 hf9 HGB HSA HMA HS1 HM1 HS2 HM2
  generalize x2w.heap.size = gN at *
  have ht := (Wst.at_of HB9.out.range HYT.out.1).t
  rw [HYT.out.2] at ht
  have HF3 := Lib.hid (HF2.out.go HF9.out HS9.out.ge)
  have HLN := Lib.hid (slen_any w9 S g x2 HS9.out.s)
  obtain rfl := HEE.out
  go_wp2_with fail
  refine (HLN.out).mono ?_
  rw [HX2.out]
  rintro e wz ⟨rfl, rfl⟩
  go_wp2
  go_ret
  exact ⟨rfl, HF3.out⟩
end Go.Proofs.YtacandocjjpfcaaDoor

namespace Go.Proofs.YtacandocjjpfcaaDoor
open Go.RowKit
set_option maxRecDepth 100000
/-- a list of n things of k cells each, from A on -/
def Lst {α : Type} (k : Nat) (cells : α → List Value) (ok : World → α → Prop) (w : World) (A : Option Addr) (n : Nat) (l : List α) : Prop :=
  l.length = n ∧ (∀ v ∈ l, (cells v).length = k ∧ ok w v) ∧ (0 < n → ∃ ad, A = some ad ∧ ∀ i v, l[i]? = some v → ∀ j x, (cells v)[j]? = some x → w.cell? (ad.add (i * k + j)) = some x)
section
variable {α : Type} {k : Nat} {cells : α → List Value} {ok : World → α → Prop} {w w' : World} {A : Option Addr} {n : Nat} {l : List α} {S : List Nat}
theorem Lst.nil (A : Option Addr) : Lst k cells ok w A 0 [] := ⟨rfl, by simp, fun h => absurd h (by omega)⟩
theorem Lst.keep (h : Lst k cells ok w A n l) (hf : Fr S w w') (hA : ∀ a, A = some a → ¬ a.block ∈ S) (hok : ∀ v ∈ l, ok w v → ok w' v) : Lst k cells ok w' A n l :=
  ⟨h.1, fun v hv => ⟨(h.2.1 v hv).1, hok v hv (h.2.1 v hv).2⟩, fun hn => by
    obtain ⟨ad, e, hc⟩ := h.2.2 hn
    exact ⟨ad, e, fun i v hv j x hx => hf.cell (hc i v hv j x hx) (by rw [add_block]; exact hA ad e)⟩⟩
theorem Lst.at (h : Lst k cells ok w A n l) {i : Nat} (hi : i < n) : ∃ ad v, A = some ad ∧ l[i]? = some v ∧ (cells v).length = k ∧ ok w v ∧ ∀ j x, (cells v)[j]? = some x → w.cell? ((ad.add (i * k)).add j) = some x := by
  obtain ⟨ad, e, hc⟩ := h.2.2 (by omega)
  have hl : i < l.length := by rw [h.1]; exact hi
  have hv := List.getElem?_eq_getElem hl
  obtain ⟨h1, h2⟩ := h.2.1 _ (List.mem_of_getElem? hv)
  exact ⟨ad, l[i], e, hv, h1, h2, fun j x hx => by rw [add_add]; exact hc i _ hv j x hx⟩
theorem Lst.take (h : Lst k cells ok w A n l) {m : Nat} (hm : m ≤ n) : Lst k cells ok w A m (l.take m) :=
  ⟨by rw [List.length_take, h.1]; omega, fun v hv => h.2.1 v (List.mem_of_mem_take hv), fun h0 => by
    obtain ⟨ad, e, hc⟩ := h.2.2 (by omega)
    exact ⟨ad, e, fun i v hv j x hx => hc i v (by
      rw [List.getElem?_take] at hv
      split at hv
      · exact hv
      · cases hv) j x hx⟩⟩
/-- from a slice that the call owns -/
theorem flat_at {l : List α} (hk : ∀ v ∈ l, (cells v).length = k) : ∀ {i : Nat} {v : α} {j : Nat} {x : Value}, l[i]? = some v → (cells v)[j]? = some x → (l.flatMap cells)[i * k + j]? = some x := by
  induction l with
  | nil => intro i v j x hv; simp at hv
  | cons y ys ih =>
    intro i v j x hv hx
    have hy := hk y (by simp)
    rw [List.flatMap_cons]
    cases i with
    | zero =>
      simp at hv
      subst hv
      rw [Nat.zero_mul, Nat.zero_add, List.getElem?_append_left (List.getElem?_eq_some_iff.1 hx).1]
      exact hx
    | succ i =>
      rw [List.getElem?_append_right (by rw [hy, Nat.succ_mul]; omega), hy, show (i + 1) * k + j - k = i * k + j by rw [Nat.succ_mul]; omega]
      exact ih (fun v hv => hk v (by simp [hv])) (by simpa using hv) hx
theorem Lst.of_own {base : Nat} {e : TypeId} {c : Nat} (h : w.ownsRow base e k (.slice A n c) n (l.flatMap cells)) (hl : l.length = n) (hk : ∀ v ∈ l, (cells v).length = k ∧ ok w v) : Lst k cells ok w A n l := by
  refine ⟨hl, hk, fun hn => ?_⟩
  by_cases hk0 : k = 0
  · rcases h.2 with ⟨_, h0⟩ | ⟨g, cap, cur, hv, _⟩
    · omega
    · injection hv with hA
      exact ⟨_, hA, fun i v hv j x hx => by have := (hk v (List.mem_of_getElem? hv)).1; have := (List.getElem?_eq_some_iff.1 hx).1; omega⟩
  · obtain ⟨g, cap, hv, _, hlt⟩ := h.form hn
    have hA : A = some ⟨g, 0, none⟩ := by injection hv
    subst hA
    refine ⟨_, rfl, fun i v hv j x hx => ?_⟩
    exact h.cells (g := g) rfl _ _ (flat_at (fun v hv => (hk v hv).1) hv hx)
end
theorem lst_of_trod {α : Type} [Inhabited α] {H : Type} {enc : TypeId × Value → H} {w : World} {spare : Nat → Bool} {held : Bool} {k : Nat} {cells : α → List Value} {ok : World → α → Prop} {t e : TypeId} (ht : Tryd.prog.underlying t = some (.slice e)) (hc : Tryd.prog.cellsOf e = k)
    (hel : ∀ fuel cs (x : DataW H × List MemPlace), DataW.trod enc Tryd.prog w 0 spare held fuel e cs = some x → ∃ v : α, ok w v ∧ cs = cells v) {fuel : Nat} {A : Option Addr} {len cap : Nat} {x : DataW H × List MemPlace} (h : DataW.trod enc Tryd.prog w 0 spare held fuel t [.slice A len cap] = some x) :
    ∃ l : List α, Lst k cells ok w A len l ∧ len ≤ cap ∧ cap ≤ maxLen := by
  rcases Go.Deep.open_slice ht h with ⟨hcs, _⟩ | ⟨a, len', cap', m, n, D, Pl, hcs, _, hl, hm, hmm, _, hi⟩
  · simp at hcs
    obtain ⟨rfl, rfl, rfl⟩ := hcs
    exact ⟨[], Lst.nil _, Nat.le_refl _, Nat.zero_le _⟩
  · simp at hcs
    obtain ⟨rfl, rfl, rfl⟩ := hcs
    have hlm : len ≤ m := by rw [hmm]; split <;> omega
    have hv : ∀ i, i < len → ∃ v : α, (cells v).length = k ∧ ok w v ∧ ∀ j x, (cells v)[j]? = some x → w.cell? (a.add (i * k + j)) = some x := by
      intro i hil
      obtain ⟨cs', h1, h2⟩ := hi i (by omega)
      rw [hc] at h1
      obtain ⟨v, hv1, rfl⟩ := hel _ _ _ h2
      obtain ⟨_, hcl, hat⟩ := World.cells?_some h1
      refine ⟨v, hcl, hv1, fun j x hx => ?_⟩
      have hj : j < (cells v).length := (List.getElem?_eq_some_iff.1 hx).1
      have := hat j (by omega)
      rw [add_add] at this
      rw [this, hx]
    have hg : ∀ i v, ((List.range len).map (fun i => if hi : i < len then Classical.choose (hv i hi) else default))[i]? = some v → (cells v).length = k ∧ ok w v ∧ ∀ j x, (cells v)[j]? = some x → w.cell? (a.add (i * k + j)) = some x := by
      intro i v hiv
      simp only [List.getElem?_map, Option.map_eq_some_iff] at hiv
      obtain ⟨i', hk, rfl⟩ := hiv
      obtain ⟨hk1, hk2⟩ := List.getElem?_eq_some_iff.1 hk
      simp at hk1 hk2
      subst hk2
      rw [dif_pos hk1]
      exact Classical.choose_spec (hv i hk1)
    refine ⟨(List.range len).map (fun i => if hi : i < len then Classical.choose (hv i hi) else default), ⟨by simp, fun v hm => ?_, fun _ => ⟨a, rfl, fun i v hiv => (hg i v hiv).2.2⟩⟩, hl, hm⟩
    obtain ⟨i, hi⟩ := List.getElem?_of_mem hm
    exact ⟨(hg i v hi).1, (hg i v hi).2.1⟩
/-! ### loads from anywhere -/
section
variable {P : Program} {l : List Oper} {Q : Exit → Act → World → Prop} {md : Region.Mode} {S : World → Prop} {fuel : Nat} {listed : Array Bool} {a : Act} {w : World}
theorem exec_cells {ev : Operand → Value} {o : Oper} {w : World} (ty : TypeId) (x : Operand) (ho : o.op = .load ty x) (ad : Addr) (hx : ev x = .pointer (some ad)) (cs : List Value) (hr : RowTy P ty cs.length)
    (hc : ∀ j v, cs[j]? = some v → w.cell? (ad.add j) = some v) : (execOp ev o).run P w = .ok (.value (.agg cs.toArray)) w := by
  obtain ⟨h1, h2⟩ := hr
  cases hu : P.underlying ty with
  | none => rw [hu] at h1; cases h1
  | some d =>
    rw [hu] at h1
    unfold execOp
    simp only [ho, hx, Instr.loadAt, Instr.sureAddr, Sem.run_bind, Sem.run_pure, Result.andThen_ok, run_loadVar_cells w ad ty cs d hc hu (by cases d <;> simp_all [TypeDesc.isRow]) h2]
theorem cells_at {i : Nat} {oi : Oper} (hi : nthOp l i = some oi) (ht : takeOk md l.toArray listed i = true) (hw : Region.wanted oi (yielded l.toArray a.tmps) = true)
    (ty : TypeId) (x : Operand) (ho : oi.op = .load ty x) (ad : Addr) (hx : a.eval x = .pointer (some ad)) (cs : List Value) (hc : ∀ w1, S w1 → ∀ j v, cs[j]? = some v → w1.cell? (ad.add j) = some v) (hr : RowTy P ty cs.length)
    (hQ : ∀ c a w, Q (.panic c) (a.put oi.dst (.agg cs.toArray)) w → Q (.panic c) a w) (hS : S w)
    (h : wpAnyH P md l.toArray Q S fuel (listed.setIfInBounds i true) (a.put oi.dst (.agg cs.toArray)) w) : wpAnyH P md l.toArray Q S (fuel + 1) listed a w :=
  run_at hi ht hw hQ hS (fun w1 h1 => exec_cells ty x ho ad hx cs hr (hc w1 h1)) h
theorem wpList_cells {ops : Array Oper} {rest : List Oper} {op : Oper} (hw : Region.wanted op (yielded ops a.tmps) = true) (ty : TypeId) (x : Operand) (ho : op.op = .load ty x)
    (ad : Addr) (hx : a.eval x = .pointer (some ad)) (cs : List Value) (hc : ∀ j v, cs[j]? = some v → w.cell? (ad.add j) = some v) (hr : RowTy P ty cs.length)
    (h : wpList P ops Q rest (a.put op.dst (.agg cs.toArray)) w) : wpList P ops Q (op :: rest) a w :=
  BigFrame.wpList_want hw fun _ hK => wp_run (exec_cells ty x ho ad hx cs hr hc) (hK _ _ h)
end
end Go.Proofs.YtacandocjjpfcaaDoor

namespace Go.Proofs.YtacandocjjpfcaaDoor
open Go.ChangeShapes Go.WideShapes Go.ChangeAt Go.RowKit
set_option maxRecDepth 100000

theorem i64In_of {z : Int} (h : (Lit.int .i64 z).wf = true) : i64In z := i64_of h
theorem name_open {H : Type} {enc : TypeId × Value → H} {W : World} {r : Reach} {base b0 : Nat} {v : Value} {d : DataW H} {p : List MemPlace} {sp : Nat → Bool} {held : Bool} (hv : Value.okWide Tryd.prog W r base 30 v) (h : DataW.Trod enc Tryd.prog W b0 sp held 30 v d p) (hb : b0 = 0) :
    ∃ c s : Int, i64In c ∧ i64In s ∧ v = .agg #[.int .i64 c, .int .i64 s] := by
  subst hb
  unfold Value.okWide at hv
  rw [Tryd.underlying30] at hv
  obtain ⟨cs, rfl, -⟩ := hv
  obtain ⟨fuel, hf⟩ := h
  obtain ⟨xs, m, _, _, hlen, hxl, hat⟩ := DataW.trod_struct Tryd.underlying30 (show DataW.trod enc Tryd.prog W 0 sp held fuel 30 cs.toList = some (d, p) from hf)
  rw [show Tryd.prog.cellsOf 30 = 2 by kernel_rfl] at hlen
  have c1 : Tryd.prog.cellsOf 3 = 1 := by kernel_rfl
  have hx : ∀ i (hi : i < 2), xs[i]? = some (xs[i]'(by rw [hxl]; exact hi)) := fun i hi => List.getElem?_eq_getElem _
  have f0 : DataW.trod enc Tryd.prog W 0 sp held m 3 ((cs.toList.drop 0).take (Tryd.prog.cellsOf 3)) = _ := (hat 0 _ rfl).trans (hx 0 (by omega))
  have f1 : DataW.trod enc Tryd.prog W 0 sp held m 3 ((cs.toList.drop 1).take (Tryd.prog.cellsOf 3)) = _ := (hat 1 _ rfl).trans (hx 1 (by omega))
  rw [c1] at f0 f1
  obtain ⟨c, e0, _, w0⟩ := DataW.trod_int Tryd.underlying3 f0
  obtain ⟨s, e1, _, w1⟩ := DataW.trod_int Tryd.underlying3 f1
  have hcs : cs.toList = [.int .i64 c, .int .i64 s] := by
    match hL : cs.toList, hlen with
    | [x, y], _ =>
      rw [hL] at e0 e1
      simp at e0 e1
      rw [e0, e1]
  refine ⟨c, s, i64In_of w0, i64In_of w1, ?_⟩
  rw [← Array.toArray_toList (xs := cs), hcs]
theorem conf_open {H : Type} {enc : TypeId × Value → H} {W : World} {r : Reach} {base b0 : Nat} {v : Value} {d : DataW H} {p : List MemPlace} {sp : Nat → Bool} {held : Bool} (hv : Value.okWide Tryd.prog W r base 26 v) (h : DataW.Trod enc Tryd.prog W b0 sp held 26 v d p) (hb : b0 = 0) :
    ∃ c s : Int, i64In c ∧ i64In s ∧ v = .agg #[.int .i64 c, .int .i64 s] := by
  subst hb
  unfold Value.okWide at hv
  rw [Tryd.underlying26] at hv
  obtain ⟨cs, rfl, -⟩ := hv
  obtain ⟨fuel, hf⟩ := h
  obtain ⟨xs, m, _, _, hlen, hxl, hat⟩ := DataW.trod_struct Tryd.underlying26 (show DataW.trod enc Tryd.prog W 0 sp held fuel 26 cs.toList = some (d, p) from hf)
  rw [show Tryd.prog.cellsOf 26 = 2 by kernel_rfl] at hlen
  have c1 : Tryd.prog.cellsOf 3 = 1 := by kernel_rfl
  have hx : ∀ i (hi : i < 2), xs[i]? = some (xs[i]'(by rw [hxl]; exact hi)) := fun i hi => List.getElem?_eq_getElem _
  have f0 : DataW.trod enc Tryd.prog W 0 sp held m 3 ((cs.toList.drop 0).take (Tryd.prog.cellsOf 3)) = _ := (hat 0 _ rfl).trans (hx 0 (by omega))
  have f1 : DataW.trod enc Tryd.prog W 0 sp held m 3 ((cs.toList.drop 1).take (Tryd.prog.cellsOf 3)) = _ := (hat 1 _ rfl).trans (hx 1 (by omega))
  rw [c1] at f0 f1
  obtain ⟨c, e0, _, w0⟩ := DataW.trod_int Tryd.underlying3 f0
  obtain ⟨s, e1, _, w1⟩ := DataW.trod_int Tryd.underlying3 f1
  have hcs : cs.toList = [.int .i64 c, .int .i64 s] := by
    match hL : cs.toList, hlen with
    | [x, y], _ =>
      rw [hL] at e0 e1
      simp at e0 e1
      rw [e0, e1]
  refine ⟨c, s, i64In_of w0, i64In_of w1, ?_⟩
  rw [← Array.toArray_toList (xs := cs), hcs]
end Go.Proofs.YtacandocjjpfcaaDoor

namespace Go.Proofs.YtacandocjjpfcaaDoor
open Go.ChangeShapes Go.WideShapes Go.ChangeAt Go.RowKit
set_option maxRecDepth 100000
theorem pair_of_trod {H : Type} {enc : TypeId × Value → H} {W : World} {sp : Nat → Bool} {held : Bool} {ty : TypeId} {x y : Field} (hu : Tryd.prog.underlying ty = some (.struct #[x, y])) (hx : x.type = 3 ∧ x.offset = 0) (hy : y.type = 3 ∧ y.offset = 1) (hc2 : Tryd.prog.cellsOf ty = 2)
    {fuel : Nat} {cs : List Value} {r : DataW H × List MemPlace} (h : DataW.trod enc Tryd.prog W 0 sp held fuel ty cs = some r) : ∃ c s : Int, i64In c ∧ i64In s ∧ cs = [.int .i64 c, .int .i64 s] := by
  obtain ⟨xs, m, _, _, hlen, hxl, hat⟩ := DataW.trod_struct hu h
  rw [hc2] at hlen
  have c1 : Tryd.prog.cellsOf 3 = 1 := by kernel_rfl
  have hx2 : ∀ i (hi : i < 2), xs[i]? = some (xs[i]'(by rw [hxl]; exact hi)) := fun i hi => List.getElem?_eq_getElem _
  have f0 : DataW.trod enc Tryd.prog W 0 sp held m x.type ((cs.drop x.offset).take (Tryd.prog.cellsOf x.type)) = _ := (hat 0 _ rfl).trans (hx2 0 (by omega))
  have f1 : DataW.trod enc Tryd.prog W 0 sp held m y.type ((cs.drop y.offset).take (Tryd.prog.cellsOf y.type)) = _ := (hat 1 _ rfl).trans (hx2 1 (by omega))
  rw [hx.1, hx.2, c1] at f0
  rw [hy.1, hy.2, c1] at f1
  obtain ⟨c, e0, _, w0⟩ := DataW.trod_int Tryd.underlying3 f0
  obtain ⟨s, e1, _, w1⟩ := DataW.trod_int Tryd.underlying3 f1
  refine ⟨c, s, i64In_of w0, i64In_of w1, ?_⟩
  match hL : cs, hlen with
  | [x, y], _ =>
    simp at e0 e1
    rw [e0, e1]
theorem commit_open {H : Type} {enc : TypeId × Value → H} {W : World} {r : Reach} {base b0 : Nat} {v : Value} {d : DataW H} {p : List MemPlace} {sp : Nat → Bool} {held : Bool} (hv : Value.okWide Tryd.prog W r base 36 v) (h : DataW.Trod enc Tryd.prog W b0 sp held 36 v d p) (hb : b0 = 0) :
    ∃ x : Cm, x.Ok ∧ v = x.val := by
  subst hb
  unfold Value.okWide at hv
  rw [Tryd.underlying36] at hv
  obtain ⟨cs, rfl, -⟩ := hv
  obtain ⟨fuel, hf⟩ := h
  obtain ⟨xs, m, _, _, hlen, hxl, hat⟩ := DataW.trod_struct Tryd.underlying36 (show DataW.trod enc Tryd.prog W 0 sp held fuel 36 cs.toList = some (d, p) from hf)
  rw [show Tryd.prog.cellsOf 36 = 37 by kernel_rfl] at hlen
  have c1 : Tryd.prog.cellsOf 3 = 1 := by kernel_rfl
  have c2 : Tryd.prog.cellsOf 30 = 2 := by kernel_rfl
  have c3 : Tryd.prog.cellsOf 32 = 32 := by kernel_rfl
  have c4 : Tryd.prog.cellsOf 34 = 2 := by kernel_rfl
  have hx : ∀ i (hi : i < 4), xs[i]? = some (xs[i]'(by rw [hxl]; exact hi)) := fun i hi => List.getElem?_eq_getElem _
  have f0 : DataW.trod enc Tryd.prog W 0 sp held m 30 ((cs.toList.drop 0).take (Tryd.prog.cellsOf 30)) = _ := (hat 0 _ rfl).trans (hx 0 (by omega))
  have f1 : DataW.trod enc Tryd.prog W 0 sp held m 32 ((cs.toList.drop 2).take (Tryd.prog.cellsOf 32)) = _ := (hat 1 _ rfl).trans (hx 1 (by omega))
  have f2 : DataW.trod enc Tryd.prog W 0 sp held m 3 ((cs.toList.drop 34).take (Tryd.prog.cellsOf 3)) = _ := (hat 2 _ rfl).trans (hx 2 (by omega))
  have f3 : DataW.trod enc Tryd.prog W 0 sp held m 34 ((cs.toList.drop 35).take (Tryd.prog.cellsOf 34)) = _ := (hat 3 _ rfl).trans (hx 3 (by omega))
  rw [c2] at f0
  rw [c3] at f1
  rw [c1] at f2
  rw [c4] at f3
  obtain ⟨c, s, hc, hs, e0⟩ := pair_of_trod Tryd.underlying30 ⟨rfl, rfl⟩ ⟨rfl, rfl⟩ c2 f0
  obtain ⟨hh, hl, e1⟩ := hash_of_trod f1
  obtain ⟨n, e2, _, w2⟩ := DataW.trod_int Tryd.underlying3 f2
  obtain ⟨b, m', hb, hm, e3⟩ := pair_of_trod Tryd.underlying34 ⟨rfl, rfl⟩ ⟨rfl, rfl⟩ c4 f3
  refine ⟨⟨c, s, hh, n, b, m'⟩, ⟨hc, hs, hl, i64In_of w2, hb, hm⟩, ?_⟩
  have key : cs.toList = Cm.cells ⟨c, s, hh, n, b, m'⟩ := by
    have d0 : cs.toList = cs.toList.take 2 ++ ((cs.toList.drop 2).take 32 ++ ((cs.toList.drop 34).take 1 ++ (cs.toList.drop 35).take 2)) := by
      have t3 : (cs.toList.drop 35).take 2 = cs.toList.drop 35 := List.take_of_length_le (by rw [List.length_drop, hlen]; omega)
      have s1 : (cs.toList.drop 34).take 1 ++ cs.toList.drop 35 = cs.toList.drop 34 := by
        have := List.take_append_drop 1 (cs.toList.drop 34)
        rwa [List.drop_drop] at this
      have s2 : (cs.toList.drop 2).take 32 ++ cs.toList.drop 34 = cs.toList.drop 2 := by
        have := List.take_append_drop 32 (cs.toList.drop 2)
        rwa [List.drop_drop] at this
      rw [t3, s1, s2, List.take_append_drop]
    rw [d0, e1, e2, e3, show cs.toList.take 2 = (cs.toList.drop 0).take 2 by rw [List.drop_zero], e0]
    rfl
  show Value.agg cs = Value.agg _
  rw [← key, Array.toArray_toList]
end Go.Proofs.YtacandocjjpfcaaDoor

namespace Go.Proofs.YtacandocjjpfcaaDoor
open Go.ChangeShapes Go.WideShapes Go.ChangeAt Go.RowKit
set_option maxRecDepth 100000

structure Act9 where
  d : Int
  q : Int
  t : Nat
  c : Int
  s : Int
  A : Option Addr
  m : Nat
  p : Nat
  b : List UInt8
instance : Inhabited Act9 := ⟨⟨0, 0, 0, 0, 0, none, 0, 0, []⟩⟩
def Act9.cells (v : Act9) : List Value := [.int .i64 v.d, .int .i64 v.q, .int .u64 (v.t : Int), .int .i64 v.c, .int .i64 v.s, .slice v.A v.m v.p]
theorem Act9.one (v : Act9) : ∀ x ∈ v.cells, x.oneCell' = true := by
  intro x hx
  simp only [Act9.cells, List.mem_cons, List.not_mem_nil, or_false] at hx
  rcases hx with rfl | rfl | rfl | rfl | rfl | rfl <;> rfl
structure Act9.Ok (w : World) (v : Act9) : Prop where
  d : i64In v.d
  q : i64In v.q
  t : v.t < 18446744073709551616
  c : i64In v.c
  s : i64In v.s
  b : By w v.A v.m v.b
  m : v.m ≤ v.p
  p : v.p ≤ maxLen
theorem Act9.Ok.keep {w w' : World} {S : List Nat} {v : Act9} (h : v.Ok w) (hf : Fr S w w') (hS : ∀ a, v.A = some a → ¬ a.block ∈ S) : v.Ok w' := ⟨h.d, h.q, h.t, h.c, h.s, h.b.keep hf hS, h.m, h.p⟩
theorem Act9.Ok.old {w w' : World} {v : Act9} (h : v.Ok w) (hb : Below w.heap.size w w') : v.Ok w' := ⟨h.d, h.q, h.t, h.c, h.s, h.b.old hb, h.m, h.p⟩
theorem act9_size : (Tryd.prog.info? 72).map (·.size) = some 6 := by kernel_rfl
theorem row_act9 : RowTy Tryd.prog 72 6 := ⟨by kernel_rfl, by kernel_rfl⟩
section
variable {H : Type} {enc : TypeId × Value → H} {w : World} {spare : Nat → Bool} {held : Bool}
theorem act9_of_trod {fuel : Nat} {cs : List Value} {x : DataW H × List MemPlace} (h : DataW.trod enc Tryd.prog w 0 spare held fuel 72 cs = some x) :
    ∃ v : Act9, v.Ok w ∧ cs = v.cells := by
  obtain ⟨xs, m, _, _, hlen, hxl, hat⟩ := DataW.trod_struct Tryd.underlying72 h
  rw [show Tryd.prog.cellsOf 72 = 6 by kernel_rfl] at hlen
  have c1 : Tryd.prog.cellsOf 3 = 1 := by kernel_rfl
  have c2 : Tryd.prog.cellsOf 45 = 1 := by kernel_rfl
  have c3 : Tryd.prog.cellsOf 38 = 1 := by kernel_rfl
  have c4 : Tryd.prog.cellsOf 30 = 2 := by kernel_rfl
  have hx : ∀ i (hi : i < 5), xs[i]? = some (xs[i]'(by rw [hxl]; exact hi)) := fun i hi => List.getElem?_eq_getElem _
  have f0 : DataW.trod enc Tryd.prog w 0 spare held m 3 ((cs.drop 0).take (Tryd.prog.cellsOf 3)) = _ := (hat 0 _ rfl).trans (hx 0 (by omega))
  have f1 : DataW.trod enc Tryd.prog w 0 spare held m 3 ((cs.drop 1).take (Tryd.prog.cellsOf 3)) = _ := (hat 1 _ rfl).trans (hx 1 (by omega))
  have f2 : DataW.trod enc Tryd.prog w 0 spare held m 45 ((cs.drop 2).take (Tryd.prog.cellsOf 45)) = _ := (hat 2 _ rfl).trans (hx 2 (by omega))
  have f3 : DataW.trod enc Tryd.prog w 0 spare held m 30 ((cs.drop 3).take (Tryd.prog.cellsOf 30)) = _ := (hat 3 _ rfl).trans (hx 3 (by omega))
  have f4 : DataW.trod enc Tryd.prog w 0 spare held m 38 ((cs.drop 5).take (Tryd.prog.cellsOf 38)) = _ := (hat 4 _ rfl).trans (hx 4 (by omega))
  rw [c1] at f0 f1
  rw [c2] at f2
  rw [c4] at f3
  rw [c3] at f4
  obtain ⟨d, e0, _, w0⟩ := DataW.trod_int Tryd.underlying3 f0
  obtain ⟨n, e1, _, w1⟩ := DataW.trod_int Tryd.underlying3 f1
  obtain ⟨t0, e2, _, w2⟩ := DataW.trod_int Tryd.underlying45 f2
  obtain ⟨t, rfl, b2⟩ := u64_of w2
  obtain ⟨c, s, hc, hs, e3⟩ := pair_of_trod Tryd.underlying30 ⟨rfl, rfl⟩ ⟨rfl, rfl⟩ (by kernel_rfl) f3
  obtain ⟨A, l, p, e4⟩ := Go.Joins.slice_form Tryd.underlying38 f4
  rw [e4] at f4
  obtain ⟨b, hb, hm, hp⟩ := by_of_trod f4
  obtain ⟨p0, p1, p2, p3, p4, p5, rfl⟩ : ∃ p0 p1 p2 p3 p4 p5, cs = [p0, p1, p2, p3, p4, p5] := by
    rcases cs with _ | ⟨p0, _ | ⟨p1, _ | ⟨p2, _ | ⟨p3, _ | ⟨p4, _ | ⟨p5, _ | ⟨p6, l⟩⟩⟩⟩⟩⟩⟩ <;> simp at hlen
    exact ⟨p0, p1, p2, p3, p4, p5, rfl⟩
  simp at e0 e1 e2 e3 e4
  obtain ⟨rfl, rfl⟩ := e3
  subst e0
  subst e1
  subst e2
  subst e4
  exact ⟨⟨d, n, t, c, s, A, l, p, b⟩, ⟨i64In_of w0, i64In_of w1, b2, hc, hs, hb, hm, hp⟩, rfl⟩
/-- a list of such acts -/
def Acts9 (w : World) (A : Option Addr) (n : Nat) (l : List Act9) : Prop := Lst 6 Act9.cells (fun w v => v.Ok w) w A n l
theorem acts9_of_trod {fuel : Nat} {A : Option Addr} {len cap : Nat} {x : DataW H × List MemPlace} (h : DataW.trod enc Tryd.prog w 0 spare held fuel 56 [.slice A len cap] = some x) :
    ∃ l, Acts9 w A len l ∧ len ≤ cap ∧ cap ≤ maxLen :=
  lst_of_trod Tryd.underlying56 (by kernel_rfl) (fun _ _ _ h => act9_of_trod h) h
/-- times; numbers -/
def U64s (w : World) (A : Option Addr) (n : Nat) (l : List Nat) : Prop := Lst 1 (fun t : Nat => [Value.int .u64 (t : Int)]) (fun _ t => t < 18446744073709551616) w A n l
def Ints (w : World) (A : Option Addr) (n : Nat) (l : List Int) : Prop := Lst 1 (fun z : Int => [Value.int .i64 z]) (fun _ z => i64In z) w A n l
theorem u64s_of_trod {fuel : Nat} {A : Option Addr} {len cap : Nat} {x : DataW H × List MemPlace} (h : DataW.trod enc Tryd.prog w 0 spare held fuel 22 [.slice A len cap] = some x) :
    ∃ l, U64s w A len l ∧ len ≤ cap ∧ cap ≤ maxLen :=
  lst_of_trod Tryd.underlying22 (by kernel_rfl) (fun _ _ _ h => by
    obtain ⟨t0, rfl, _, w2⟩ := DataW.trod_int Tryd.underlying45 h
    obtain ⟨t, rfl, b2⟩ := u64_of w2
    exact ⟨t, b2, rfl⟩) h
theorem ints_of_trod {fuel : Nat} {A : Option Addr} {len cap : Nat} {x : DataW H × List MemPlace} (h : DataW.trod enc Tryd.prog w 0 spare held fuel 23 [.slice A len cap] = some x) :
    ∃ l, Ints w A len l ∧ len ≤ cap ∧ cap ≤ maxLen :=
  lst_of_trod Tryd.underlying23 (by kernel_rfl) (fun _ _ _ h => by
    obtain ⟨z, rfl, _, w2⟩ := DataW.trod_int Tryd.underlying3 h
    exact ⟨z, i64In_of w2, rfl⟩) h
end
end Go.Proofs.YtacandocjjpfcaaDoor

namespace Go.Proofs.YtacandocjjpfcaaDoor
open Go.ChangeShapes Go.WideShapes Go.ChangeAt Go.RowKit
set_option maxRecDepth 100000
theorem cut_at {α : Type} (l : List α) (o n k : Nat) (hk : o + n = k) : l.drop o = (l.drop o).take n ++ l.drop k := by
  subst hk
  rw [← List.drop_drop, List.take_append_drop]
theorem stamp_open {H : Type} {enc : TypeId × Value → H} {W : World} {r : Reach} {base b0 : Nat} {v : Value} {d : DataW H} {p : List MemPlace} {sp : Nat → Bool} {held : Bool} (hv : Value.okWide Tryd.prog W r base 47 v) (h : DataW.Trod enc Tryd.prog W b0 sp held 47 v d p) (hb : b0 = 0) :
    ∃ x : Wst, x.Ok ∧ v = x.val := by
  subst hb
  unfold Value.okWide at hv
  rw [Tryd.underlying47] at hv
  obtain ⟨cs, rfl, -⟩ := hv
  obtain ⟨fuel, hf⟩ := h
  obtain ⟨xs, m, _, _, hlen, hxl, hat⟩ := DataW.trod_struct Tryd.underlying47 (show DataW.trod enc Tryd.prog W 0 sp held fuel 47 cs.toList = some (d, p) from hf)
  rw [show Tryd.prog.cellsOf 47 = 38 by kernel_rfl] at hlen
  have hx : ∀ i (hi : i < 5), xs[i]? = some (xs[i]'(by rw [hxl]; exact hi)) := fun i hi => List.getElem?_eq_getElem _
  have f0 : DataW.trod enc Tryd.prog W 0 sp held m 3 ((cs.toList.drop 0).take (Tryd.prog.cellsOf 3)) = _ := (hat 0 _ rfl).trans (hx 0 (by omega))
  rw [show Tryd.prog.cellsOf 3 = 1 by kernel_rfl] at f0
  obtain ⟨r, e0, _, w0⟩ := DataW.trod_int Tryd.underlying3 f0
  have f1 : DataW.trod enc Tryd.prog W 0 sp held m 30 ((cs.toList.drop 1).take (Tryd.prog.cellsOf 30)) = _ := (hat 1 _ rfl).trans (hx 1 (by omega))
  rw [show Tryd.prog.cellsOf 30 = 2 by kernel_rfl] at f1
  obtain ⟨c, s, w1, w1', e1⟩ := pair_of_trod Tryd.underlying30 ⟨rfl, rfl⟩ ⟨rfl, rfl⟩ (by kernel_rfl) f1
  have f2 : DataW.trod enc Tryd.prog W 0 sp held m 32 ((cs.toList.drop 3).take (Tryd.prog.cellsOf 32)) = _ := (hat 2 _ rfl).trans (hx 2 (by omega))
  rw [show Tryd.prog.cellsOf 32 = 32 by kernel_rfl] at f2
  obtain ⟨hh, w2, e2⟩ := hash_of_trod f2
  have f3 : DataW.trod enc Tryd.prog W 0 sp held m 45 ((cs.toList.drop 35).take (Tryd.prog.cellsOf 45)) = _ := (hat 3 _ rfl).trans (hx 3 (by omega))
  rw [show Tryd.prog.cellsOf 45 = 1 by kernel_rfl] at f3
  obtain ⟨u3, e3, _, w3⟩ := DataW.trod_int Tryd.underlying45 f3
  obtain ⟨t, rfl, b3⟩ := u64_of w3
  have f4 : DataW.trod enc Tryd.prog W 0 sp held m 34 ((cs.toList.drop 36).take (Tryd.prog.cellsOf 34)) = _ := (hat 4 _ rfl).trans (hx 4 (by omega))
  rw [show Tryd.prog.cellsOf 34 = 2 by kernel_rfl] at f4
  obtain ⟨b, mm, w4, w4', e4⟩ := pair_of_trod Tryd.underlying34 ⟨rfl, rfl⟩ ⟨rfl, rfl⟩ (by kernel_rfl) f4
  refine ⟨⟨r, c, s, hh, t, b, mm⟩, ⟨i64In_of w0, w1, w1', w2, b3, w4, w4'⟩, ?_⟩
  have key : cs.toList = Wst.cells ⟨r, c, s, hh, t, b, mm⟩ := by
    have z : cs.toList.drop 38 = [] := List.drop_eq_nil_of_le (by omega)
    have s0 : cs.toList = cs.toList.drop 0 := rfl
    rw [s0, cut_at cs.toList 0 1 1 rfl, e0, cut_at cs.toList 1 2 3 rfl, e1, cut_at cs.toList 3 32 35 rfl, e2, cut_at cs.toList 35 1 36 rfl, e3, cut_at cs.toList 36 2 38 rfl, e4, z]
    simp [Wst.cells]
  show Value.agg cs = Value.agg _
  rw [← key, Array.toArray_toList]
end Go.Proofs.YtacandocjjpfcaaDoor

namespace Go.Proofs.YtacandocjjpfcaaDoor
set_option maxRecDepth 100000
open Go.RowKit

end Go.Proofs.YtacandocjjpfcaaDoor

namespace Go.Proofs.YtacandocjjpfcaaDoor
set_option maxRecDepth 100000
open Go.ChangeShapes Go.WideShapes Go.ChangeAt Go.RowKit

theorem gK : Tryd.prog.globalNamed "gavel/sha.roundWords" = some 0 := by kernel_rfl
theorem tK : (Tryd.prog.globals[0]?).map (·.type) = some 136 := by kernel_rfl
theorem kay_lits {H : Type} : (Rows.laid_gavel_sha_roundWords : DataW H) = .agg (kay.map fun z => .lit (.int .u32 z)) := rfl
theorem kw_of_laid {W : World} (h : laidMetH Tryd.prog [("gavel/sha.roundWords", Rows.laid_gavel_sha_roundWords)] W) : KW W := by
  rw [MakeChecks.laidMetH_plain _ _ _ (by kernel_rfl)] at h
  obtain ⟨ps, ⟨g0, t0, cs0, f0, p0, q0, hg0, ht0, hv0, hd0, _, _⟩, _⟩ := h
  obtain rfl := Option.some.inj (gK.symm.trans hg0)
  obtain rfl := Option.some.inj (tK.symm.trans ht0)
  obtain ⟨xs, m1, rfl, hx1, hlen, hn3, hel⟩ := DataW.trod_array Tryd.underlying136 hd0
  have c1 : Tryd.prog.cellsOf 117 = 1 := by kernel_rfl
  have c64 : Tryd.prog.cellsOf 136 = 64 := by kernel_rfl
  rw [kay_lits] at hx1
  simp only [Prod.mk.injEq, DataW.agg.injEq] at hx1
  intro i hi
  have hw := World.var?_cell hg0 hv0 i
  have hl64 : cs0.toList.length = 64 := by rw [hlen, c64]
  have h1 := hel i hi
  have hxi : xs[i]? = some (xs[i]'(by omega)) := List.getElem?_eq_getElem _
  rw [hxi, c1, Nat.mul_one] at h1
  have hci : i < cs0.size := by simpa using (show i < cs0.toList.length by omega)
  have h2 : (cs0.toList.drop i).take 1 = [cs0[i]] := by
    rw [List.drop_eq_getElem_cons (by simpa using hci)]
    simp
  rw [h2] at h1
  obtain ⟨k, e1, e2, _⟩ := DataW.trod_int Tryd.underlying117 h1
  injection e1 with e1
  have hk : k = kay.getD i 0 := by
    have h3 : (xs.map (·.1))[i]? = (kay.map fun z => (.lit (.int .u32 z) : DataW _))[i]? := by rw [hx1.1]
    have hkl : i < kay.length := hi
    rw [List.getElem?_map, hxi, List.getElem?_map, List.getElem?_eq_getElem hkl] at h3
    simp only [Option.map_some, Option.some.injEq] at h3
    rw [e2] at h3
    simp only [DataW.lit.injEq, Lit.int.injEq] at h3
    rw [List.getD, List.getElem?_eq_getElem hkl]
    exact h3.2
  rw [hw, Array.getElem?_eq_getElem hci, e1, hk]
theorem door_met (os : Os) (args : Array Value) : laidMetH Tryd.prog [("gavel/sha.roundWords", Rows.laid_gavel_sha_roundWords)] ((World.doorLaid Tryd.prog 14 os).forCall (fun _ _ => 0) ⟨#[], args, []⟩).memory :=
  laidMetH_of_parts3 (fuel := 8) (laidMet_of_run' 8 (by kernel_rfl) (by kernel_rfl)) (by kernel_rfl) (by kernel_rfl)
theorem hash_open {H : Type} {enc : TypeId × Value → H} {W : World} {r : Reach} {base b0 : Nat} {v : Value} {d : DataW H} {p : List MemPlace} {sp : Nat → Bool} {held : Bool} (hv : Value.okWide Tryd.prog W r base 32 v) (h : DataW.Trod enc Tryd.prog W b0 sp held 32 v d p) (hb : b0 = 0) :
    ∃ l : List UInt8, l.length = 32 ∧ v = .agg (l.map by8).toArray := by
  subst hb
  unfold Value.okWide at hv
  rw [Tryd.underlying32] at hv
  obtain ⟨cs, rfl, -⟩ := hv
  obtain ⟨fuel, hf⟩ := h
  obtain ⟨l, hl, e⟩ := hash_of_trod (show DataW.trod enc Tryd.prog W 0 sp held fuel 32 cs.toList = some (d, p) from hf)
  exact ⟨l, hl, by rw [← e]⟩
theorem own : ownKnob Tryd.prog.godebug = none := by kernel_rfl
end Go.Proofs.YtacandocjjpfcaaDoor
