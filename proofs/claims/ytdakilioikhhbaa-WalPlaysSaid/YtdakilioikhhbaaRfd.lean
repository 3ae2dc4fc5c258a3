/- The document's own disk (gavelref07.Disk): what each call makes of it. -/
import Derived.Test.YtdakilioikhhbaaApf
import Derived.Test.YtdakilioikhhbaaDsk2
namespace Go.Proofs.Ytdakilioikhhbaa
set_option maxRecDepth 100000
open Go.RowKit

theorem till_stepR {P : Program} {l : List Oper} {Q : Exit → Act → World → Prop} {md : Region.Mode} {T : Nat} {A B : World → Prop} {fuel : Nat} {L : Array Bool} {a : Act} {w : World} {i : Nat} {o : Oper} (hi : nthOp l i = some o) (hr : Region.ready md l.toArray L = [i]) (hw : Region.wanted o (yielded l.toArray a.tmps) = true)
    (h : ∀ K : Act → World → Prop, Shut (∀ a w, A w → B w → (A w → B w → wpTill P md l.toArray Q T A B fuel (L.setIfInBounds i true) a w) → K a w) → Oper.wp P o a w K Q) : wpTill P md l.toArray Q T A B (fuel + 1) L a w :=
  till_one hi hr hw (h _ (fun a w hA hB hW => ⟨⟨hA, fun _ => hB⟩, hW hA hB⟩))
def rcells (d : Dsk) (A : Option Addr) (c : Nat) (f : Int) : Array Value := #[.slice A d.row.length c, .int .i64 d.syn, .bool d.dead, .bool d.fused, .int .i64 f]
/-- the disk d in memory: its row is only read -/
structure RDA (w : World) (g : Nat) (d : Dsk) (A : Option Addr) (c : Nat) (f : Int) : Prop where
  blk : Blk w g 41 (rcells d A c f)
  by_ : By w A d.row.length d.row
  cap : d.row.length ≤ c
  old : ∀ x ∈ bk A, ¬ x = g ∧ x < w.heap.size
  fu : d.fused = true → f = d.left
section
variable {w w' : World} {g c : Nat} {d : Dsk} {A : Option Addr} {f : Int}
theorem RDA.set (h : RDA w g d A c f) (i : Nat) (u : Value) (d' : Dsk) (f' : Int) (hr : d'.row = d.row) (hc : (rcells d A c f).setIfInBounds i u = rcells d' A c f') (hf : d'.fused = true → f' = d'.left) : RDA (w.setCell ⟨g, i, none⟩ u) g d' A c f' := by
  have hfr : Fr [g] w (w.setCell ⟨g, i, none⟩ u) := (Fr.refl [g] w).one (by simp) i u
  refine ⟨?_, ?_, by rw [hr]; exact h.cap, fun x hx => ⟨(h.old x hx).1, Nat.lt_of_lt_of_le (h.old x hx).2 hfr.size⟩, hf⟩
  · have := h.blk.set i u
    rw [hc] at this
    exact this
  · rw [hr]
    exact h.by_.keep hfr (fun a ha hm => (h.old a.block (by simp [bk, ha])).1 (by simpa using hm))
theorem RDA.drew (h : RDA w g d A c f) : RDA w.drew g d A c f := ⟨h.blk, h.by_, h.cap, h.old, h.fu⟩
theorem RDA.cells (h : RDA w g d A c f) : w.cell? ⟨g, 0, none⟩ = some (.slice A d.row.length c) ∧ w.cell? ⟨g, 1, none⟩ = some (.int .i64 d.syn) ∧ w.cell? ⟨g, 2, none⟩ = some (.bool d.dead) ∧ w.cell? ⟨g, 3, none⟩ = some (.bool d.fused) ∧ w.cell? ⟨g, 4, none⟩ = some (.int .i64 f) :=
  ⟨by rw [h.blk.cell 0]; rfl, by rw [h.blk.cell 1]; rfl, by rw [h.blk.cell 2]; rfl, by rw [h.blk.cell 3]; rfl, by rw [h.blk.cell 4]; rfl⟩
theorem RDA.keep {S : List Nat} (h : RDA w g d A c f) (hf : Fr S w w') (hg : ∀ x ∈ g :: bk A, ¬ x ∈ S) : RDA w' g d A c f :=
  ⟨h.blk.keep hf (hg g (by simp)), h.by_.keep hf (fun a ha => hg _ (by simp [bk, ha])), h.cap, fun x hx => ⟨(h.old x hx).1, Nat.lt_of_lt_of_le (h.old x hx).2 hf.size⟩, h.fu⟩
end
set_option maxHeartbeats 1000000 in
theorem rstop_any (w : World) (g : Nat) (d : Dsk) (A : Option Addr) (c : Nat) (f : Int) (h : RDA w g d A c f) (hd : d.left ≤ 9223372036854775807) :
    Calls Try.prog 41 #[.pointer (some ⟨g, 0, none⟩)] w fun e w' => e = .returned (.bool (!d.passB)) ∧ (∃ f', RDA w' g d.passD A c f') ∧ Fr [g] w w' := by
  obtain ⟨h0, h1, h2, h3, h4⟩ := h.cells
  have hz2 := h.blk.frozen 2
  have hz4 := h.blk.frozen 4
  have H := Lib.hid h
  have HD := Lib.hid hd
  clear h hd
  obtain ⟨row, syn, fused, left, dead⟩ := d
  cases fused
  · cases dead
    · go_enter Try.func41, Try.ntmps41
      go_wp2
      go_ret
      exact ⟨rfl, ⟨f, H.out⟩, Fr.refl _ _⟩
    · go_enter Try.func41, Try.ntmps41
      go_wp2
      go_ret
      exact ⟨rfl, ⟨f, H.out⟩, Fr.refl _ _⟩
  · have hf := H.out.fu rfl
    simp only at hf
    cases left with
    | zero =>
      rw [hf] at h4
      simp at h4
      have hb := H.out.set 2 (.bool true) ⟨row, syn, true, 0, true⟩ f rfl rfl (fun _ => hf)
      have k2 := hb.cells.2.2.1
      simp only at k2
      have HB := Lib.hid hb
      clear hf hb
      go_enter Try.func41, Try.ntmps41
      go_wp2
      go_ret
      refine ⟨by cases dead <;> rfl, ⟨f, ?_⟩, (Fr.refl _ _).one (by simp) _ _⟩
      have : Dsk.passD ⟨row, syn, true, 0, dead⟩ = ⟨row, syn, true, 0, true⟩ := by cases dead <;> rfl
      rw [this]
      exact HB.out
    | succ left =>
      have hl0 : (f == 0) = false := by rw [hf]; simp; omega
      cases dead
      · have hw : wrap64 (f - 1) = left := by have := HD.out; simp only at this; unfold wrap64; rw [hf]; omega
        have hb := H.out.set 4 (.int .i64 (left : Int)) ⟨row, syn, true, left, false⟩ left rfl rfl (fun _ => rfl)
        have k2 := hb.cells.2.2.1
        simp only at k2
        have HB := Lib.hid hb
        clear hf hb
        go_enter Try.func41, Try.ntmps41
        go_wp2
        go_ret
        exact ⟨rfl, ⟨_, HB.out⟩, (Fr.refl _ _).one (by simp) _ _⟩
      · clear hf
        go_enter Try.func41, Try.ntmps41
        go_wp2
        go_ret
        exact ⟨rfl, ⟨f, H.out⟩, Fr.refl _ _⟩
/-- the document's disk, apart from the blocks of U -/
def RD (w : World) (U : List Nat) (g : Nat) (d : Dsk) : Prop := ∃ A c f, RDA w g d A c f ∧ ∀ x ∈ g :: bk A, ¬ x ∈ U
theorem RD.lt {w : World} {U : List Nat} {g : Nat} {d : Dsk} (h : RD w U g d) : g < w.heap.size := by
  obtain ⟨A, c, f, h, _⟩ := h
  exact h.blk.lt
theorem RD.ne {w : World} {U : List Nat} {g : Nat} {d : Dsk} (h : RD w U g d) : ¬ g ∈ U := by
  obtain ⟨A, c, f, _, h⟩ := h
  exact h g (by simp)
theorem RD.keep {w w' : World} {S U U' : List Nat} {g : Nat} {d : Dsk} (h : RD w U g d) (hf : Fr S w w') (hS : ∀ x ∈ S, x ∈ U) (hU : ∀ x ∈ U', x < w.heap.size → x ∈ U) : RD w' U' g d := by
  obtain ⟨A, c, f, h, hx⟩ := h
  refine ⟨A, c, f, h.keep hf (fun x hx' hm => hx x hx' (hS x hm)), fun x hx' hm => ?_⟩
  have hl : x < w.heap.size := by
    rcases List.mem_cons.1 hx' with rfl | h'
    · exact h.blk.lt
    · exact (h.old x h').2
  exact hx x hx' (hU x hm hl)
set_option maxHeartbeats 1000000 in
theorem rput_any (w : World) (U : List Nat) (g : Nat) (d : Dsk) (h : RD w U g d) (hU : ∀ x ∈ U, x < w.heap.size) (hd : d.left ≤ 9223372036854775807) (B : Option Addr) (n c : Nat) (b : List UInt8) (hy : By w B n b) (hB : ∀ x ∈ bk B, ¬ x = g) (hn : d.row.length + n ≤ 1073741824) :
    Calls Try.prog 18 #[.pointer (some ⟨g, 0, none⟩), .slice B n c] w fun e w' => e = .returned (.int .i64 (errB d.passB)) ∧ RD w' U g (d.put b) ∧ Fr [g] w w' := by
  obtain ⟨A, ca, f, h, hx⟩ := h
  have H := Lib.hid h
  have HX := Lib.hid hx
  have HU := Lib.hid hU
  have HY := Lib.hid hy
  have HB := Lib.hid hB
  have HN := Lib.hid hn
  go_enter Try.func18, Try.ntmps18
  go_wp2_with fail
  refine (rstop_any w g d A ca f h hd).mono ?_
  rintro e w1 ⟨rfl, ⟨f1, hd1⟩, hf1⟩
  have HD1 := Lib.hid hd1
  have HF1 := Lib.hid hf1
  have HYW := Lib.hid (HY.out.keep hf1 (fun a ha hm => HB.out a.block (by simp [bk, ha]) (by simpa using hm)))
  clear hd1 hf1 h hx hU hd hy hB hn
  cases hp : d.passB
  · have hput : d.put b = d.passD := by unfold Dsk.put; rw [hp]; rfl
    have HPUT := Lib.hid hput
    have HPB := Lib.hid hp
    rw [show (!false) = true from rfl]
    clear hput hp
    go_wp2
    go_ret
    exact ⟨by rw [HPB.out]; rfl, by rw [HPUT.out]; exact ⟨A, ca, f1, HD1.out, HX.out⟩, HF1.out⟩
  · have hput : d.put b = { d.passD with row := d.passD.row ++ b } := by unfold Dsk.put; rw [if_pos hp, passD_row]
    have HPUT := Lib.hid hput
    have HPB := Lib.hid hp
    have HPR := Lib.hid (passD_row d)
    rw [show (!true) = false from rfl]
    clear hput hp
    generalize d.passD = d1 at *
    have h0 := HD1.out.cells.1
    rw [HPR.out] at h0
    have hk0 : (0 : Int) ≤ d.row.length := by omega
    have hk1 : (d.row.length : Int) ≤ ca := by have := HD1.out.cap; rw [HPR.out] at this; omega
    go_upto_region 3 with (fail)
    refine wp_region_till 20 (Fr [g] w1) (Fr [] w1) (by kernel_rfl) (Fr.drew (Fr.refl _ w1)) (Fr.drew (Fr.refl _ w1)) (fun hA hB => ?_)
    have HW : Hid (RDA w1.drew g d1 A ca f1) := Lib.hid HD1.out.drew
    have HYD : Hid (By w1.drew B n b) := Lib.hid HYW.out
    have HSD : Hid (w1.drew.heap.size = w1.heap.size) := Lib.hid rfl
    generalize w1.drew = wd at *
    refine till_run (i := 0) (v := ?_) rfl (by kernel_rfl) (by rfl) (fun _ _ _ h => h) hA hB (fun w1 hw1 => ?_) ?_
    rotate_left 1
    · skip
      go_simp
      (try (first | with_reducible rfl | (apply And.intro <;> rfl)))
    simp only [Act.put, List.setIfInBounds_toArray, List.set_cons_zero, List.set_cons_succ]
    refine till_run (i := 1) (v := ?_) rfl (by kernel_rfl) (by rfl) (fun _ _ _ h => h) hA hB (fun w1 hw1 => ?_) ?_
    rotate_left 1
    · skip
      go_simp
      (try (first | with_reducible rfl | (apply And.intro <;> rfl)))
    simp only [Act.put, List.setIfInBounds_toArray, List.set_cons_zero, List.set_cons_succ]
    refine till_run (i := 2) (v := ?_) rfl (by kernel_rfl) (by rfl) (fun _ _ _ h => h) hA hB (fun w1 hw1 => ?_) ?_
    rotate_left 1
    · skip
      go_simp
      (try (first | with_reducible rfl | (apply And.intro <;> rfl)))
    simp only [Act.put, List.setIfInBounds_toArray, List.set_cons_zero, List.set_cons_succ]
    refine till_run (i := 3) (v := ?_) rfl (by kernel_rfl) (by rfl) (fun _ _ _ h => h) hA hB (fun w1 hw1 => ?_) ?_
    rotate_left 1
    · skip
      go_simp
      (try (first | with_reducible rfl | (apply And.intro <;> rfl)))
    simp only [Act.put, List.setIfInBounds_toArray, List.set_cons_zero, List.set_cons_succ]
    refine till_run (i := 4) (v := ?_) rfl (by kernel_rfl) (by rfl) (fun _ _ _ h => h) hA hB (fun w1 hw1 => ?_) ?_
    rotate_left 1
    · skip
      have hcw0 := hw1.cell (h0) (by first | (simp; done) | exact HNS.out | exact HNW.out | (intro hm; have hlt := HSB.out _ hm; (try dsimp only at hlt); omega))
      go_simp
      (try (first | with_reducible rfl | (apply And.intro <;> rfl)))
    simp only [Act.put, List.setIfInBounds_toArray, List.set_cons_zero, List.set_cons_succ]
    refine till_run (i := 5) (v := ?_) rfl (by kernel_rfl) (by rfl) (fun _ _ _ h => h) hA hB (fun w1 hw1 => ?_) ?_
    rotate_left 1
    · skip
      go_simp
      (try (first | with_reducible rfl | (apply And.intro <;> rfl)))
    simp only [Act.put, List.setIfInBounds_toArray, List.set_cons_zero, List.set_cons_succ]
    refine till_run (i := 6) (v := ?_) rfl (by kernel_rfl) (by rfl) (fun _ _ _ h => h) hA hB (fun w1 hw1 => ?_) ?_
    rotate_left 1
    · skip
      go_simp
      (try (first | with_reducible rfl | (apply And.intro <;> rfl)))
    simp only [Act.put, List.setIfInBounds_toArray, List.set_cons_zero, List.set_cons_succ]
    refine till_run (i := 7) (v := ?_) rfl (by kernel_rfl) (by rfl) (fun _ _ _ h => h) hA hB (fun w1 hw1 => ?_) ?_
    rotate_left 1
    · skip
      go_simp
      (try (first | with_reducible rfl | (apply And.intro <;> rfl)))
    simp only [Act.put, List.setIfInBounds_toArray, List.set_cons_zero, List.set_cons_succ]
    refine till_run (i := 8) (v := ?_) rfl (by kernel_rfl) (by rfl) (fun _ _ _ h => h) hA hB (fun w1 hw1 => ?_) ?_
    rotate_left 1
    · skip
      have hcw0 := hw1.cell (h0) (by first | (simp; done) | exact HNS.out | exact HNW.out | (intro hm; have hlt := HSB.out _ hm; (try dsimp only at hlt); omega))
      go_simp
      (try (first | with_reducible rfl | (apply And.intro <;> rfl)))
    simp only [Act.put, List.setIfInBounds_toArray, List.set_cons_zero, List.set_cons_succ]
    refine till_run (i := 9) (v := ?_) rfl (by kernel_rfl) (by rfl) (fun _ _ _ h => h) hA hB (fun w1 hw1 => ?_) ?_
    rotate_left 1
    · skip
      go_simp
      (try (first | with_reducible rfl | (apply And.intro <;> rfl)))
    simp only [Act.put, List.setIfInBounds_toArray, List.set_cons_zero, List.set_cons_succ]
    refine till_run (i := 10) (v := ?_) rfl (by kernel_rfl) (by rfl) (fun _ _ _ h => h) hA hB (fun w1 hw1 => ?_) ?_
    rotate_left 1
    · skip
      go_simp
      (try (first | with_reducible rfl | (apply And.intro <;> rfl)))
    simp only [Act.put, List.setIfInBounds_toArray, List.set_cons_zero, List.set_cons_succ]
    refine till_run (i := 11) (v := ?_) rfl (by kernel_rfl) (by rfl) (fun _ _ _ h => h) hA hB (fun w1 hw1 => ?_) ?_
    rotate_left 1
    · skip
      go_simp
      (try (first | with_reducible rfl | (apply And.intro <;> rfl)))
    simp only [Act.put, List.setIfInBounds_toArray, List.set_cons_zero, List.set_cons_succ]
    refine till_run (i := 12) (v := ?_) rfl (by kernel_rfl) (by rfl) (fun _ _ _ h => h) hA hB (fun w1 hw1 => ?_) ?_
    rotate_left 1
    · skip
      go_simp
      (try (first | with_reducible rfl | (apply And.intro <;> rfl)))
    simp only [Act.put, List.setIfInBounds_toArray, List.set_cons_zero, List.set_cons_succ]
    refine till_run (i := 13) (v := ?_) rfl (by kernel_rfl) (by rfl) (fun _ _ _ h => h) hA hB (fun w1 hw1 => ?_) ?_
    rotate_left 1
    · skip
      have hcw0 := hw1.cell (h0) (by first | (simp; done) | exact HNS.out | exact HNW.out | (intro hm; have hlt := HSB.out _ hm; (try dsimp only at hlt); omega))
      go_simp
      (try (first | with_reducible rfl | (apply And.intro <;> rfl)))
    simp only [Act.put, List.setIfInBounds_toArray, List.set_cons_zero, List.set_cons_succ]
    refine till_run (i := 14) (v := ?_) rfl (by kernel_rfl) (by rfl) (fun _ _ _ h => h) hA hB (fun w1 hw1 => ?_) ?_
    rotate_left 1
    · skip
      go_simp
      (try (first | with_reducible rfl | (apply And.intro <;> rfl)))
    simp only [Act.put, List.setIfInBounds_toArray, List.set_cons_zero, List.set_cons_succ]
    refine till_run (i := 15) (v := ?_) rfl (by kernel_rfl) (by rfl) (fun _ _ _ h => h) hA hB (fun w1 hw1 => ?_) ?_
    rotate_left 1
    · skip
      go_simp
      (try (first | with_reducible rfl | (apply And.intro <;> rfl)))
    simp only [Act.put, List.setIfInBounds_toArray, List.set_cons_zero, List.set_cons_succ]
    refine till_run (i := 16) (v := ?_) rfl (by kernel_rfl) (by rfl) (fun _ _ _ h => h) hA hB (fun w1 hw1 => ?_) ?_
    rotate_left 1
    · skip
      go_simp
      (try (first | with_reducible rfl | (apply And.intro <;> rfl)))
    simp only [Act.put, List.setIfInBounds_toArray, List.set_cons_zero, List.set_cons_succ]
    refine till_stepR (i := 17) rfl (by kernel_rfl) (by rfl) (fun K hK => ?_)
    refine wp_append_bfull _ (.tmp 22) (.tmp 23) _ rfl 5 Try.underlying22 info_u8 A d.row.length d.row rfl (by have := HW.out.by_; rw [HPR.out] at this; exact this) (fun x hx => (HW.out.old x hx).2) B n c b rfl HYD.out (by have := HN.out; omega) (by have := HN.out; omega) ?_
    intro A9 c9 w9 hy9 hc9 hb9 hf9
    refine hK.out _ _ (hA.trans hf9 (by simp)) (hB.and hf9 (by simp)) (fun hA hB => ?_)
    clear hK K
    have HB9 := Lib.hid (HW.out.blk.keep hf9 (by simp))
    have HY9 := Lib.hid hy9
    have HC9 := Lib.hid hc9
    have HO9 := Lib.hid hb9
    clear hy9 hc9 hb9 hf9
    simp only [Act.put, List.setIfInBounds_toArray, List.set_cons_zero, List.set_cons_succ]
    refine till_stepR (i := 18) rfl (by kernel_rfl) (by rfl) (fun K hK => ?_)
    refine wp_run (v := ?_) (w' := ?_) ?_ ?_
    rotate_left 2
    · go_simp
      (try (first | with_reducible rfl | (apply And.intro <;> rfl)))
    refine hK.out _ _ hA hB (fun hA hB => ?_)
    clear hK K
    simp only [Act.put, List.setIfInBounds_toArray, List.set_cons_zero, List.set_cons_succ]
    refine till_stepR (i := 19) rfl (by kernel_rfl) (by rfl) (fun K hK => ?_)
    refine wp_run (v := ?_) (w' := ?_) ?_ ?_
    rotate_left 2
    · go_simp
      (try (first | with_reducible rfl | (apply And.intro <;> rfl)))
    refine hK.out _ _ hA hB (fun hA hB => ?_)
    clear hK K
    simp only [Act.put, List.setIfInBounds_toArray, List.set_cons_zero, List.set_cons_succ]
    refine till_step (i := 20) rfl (by kernel_rfl) (by kernel_rfl) (by rfl) (fun K hK => ?_)
    refine wp_store_cell _ _ _ rfl g 0 (.slice A9 (d.row.length + n) c9) rfl rfl rfl 41 _ HB9.out (by simp [rcells]) (by kernel_rfl) ?_
    have hfs : Fr [g] w9 (w9.setCell ⟨g, 0, none⟩ (.slice A9 (d.row.length + n) c9)) := (Fr.refl [g] w9).one (by simp) 0 _
    refine hK.out _ _ (hA.trans hfs (fun x hx _ => hx)) (fun hA => ?_)
    clear hK K
    simp only [Act.put, List.setIfInBounds_toArray, List.set_cons_zero, List.set_cons_succ]
    refine till_done (by kernel_rfl) ?_ _
    have hln : (d1.row ++ b).length = d.row.length + n := by rw [List.length_append, HPR.out, HY.out.1]
    have hne : ∀ x ∈ bk A9, ¬ x = g := fun x hx => by
      rcases (HO9.out x hx).1 with h | h
      · exact (HW.out.old x h).1
      · have := HD1.out.blk.lt; have := HSD.out; omega
    have hRD : RDA (w9.setCell ⟨g, 0, none⟩ (.slice A9 (d.row.length + n) c9)) g { d1 with row := d1.row ++ b } A9 c9 f1 := by
      refine ⟨?_, ?_, ?_, fun x hx => ⟨hne x hx, Nat.lt_of_lt_of_le (HO9.out x hx).2 hfs.size⟩, HD1.out.fu⟩
      · have := HB9.out.set 0 (.slice A9 (d.row.length + n) c9)
        unfold rcells
        rw [hln]
        exact this
      · simp only [hln]
        rw [HPR.out]
        exact HY9.out.keep hfs (fun a ha hm => hne a.block (by simp [bk, ha]) (by simpa using hm))
      · simp only [hln]; exact HC9.out
    have HRD := Lib.hid hRD
    have HA := Lib.hid hA
    have HXX : Hid (∀ x ∈ g :: bk A9, ¬ x ∈ U) := Lib.hid (fun x hx hm => by
      rcases List.mem_cons.1 hx with rfl | hx
      · exact HX.out x (by simp) hm
      · rcases (HO9.out x hx).1 with h | h
        · exact HX.out x (by simp [h]) hm
        · have h1 := HU.out x hm
          have h2 := HF1.out.size
          have h3 := HSD.out
          omega)
    clear hA hB hfs hln hne hRD h0 hk0 hk1
    go_wp2
    go_ret
    exact ⟨by rw [HPB.out]; rfl, by rw [HPUT.out]; exact ⟨A9, c9, f1, HRD.out, HXX.out⟩, HF1.out.trans HA.out (fun x hx _ => hx)⟩
set_option maxHeartbeats 1000000 in
theorem rsync_any (w : World) (U : List Nat) (g : Nat) (d : Dsk) (h : RD w U g d) (hd : d.left ≤ 9223372036854775807) :
    Calls Try.prog 44 #[.pointer (some ⟨g, 0, none⟩)] w fun e w' => e = .returned (.int .i64 (errB d.passB)) ∧ RD w' U g d.sync ∧ Fr [g] w w' := by
  obtain ⟨A, ca, f, h, hx⟩ := h
  have HX := Lib.hid hx
  go_enter Try.func44, Try.ntmps44
  go_wp2_with fail
  refine (rstop_any w g d A ca f h hd).mono ?_
  rintro e w1 ⟨rfl, ⟨f1, hd1⟩, hf1⟩
  have HD1 := Lib.hid hd1
  have HF1 := Lib.hid hf1
  clear hd1 hf1 h hx hd
  cases hp : d.passB
  · have hput : d.sync = d.passD := by unfold Dsk.sync; rw [hp]; rfl
    have HPUT := Lib.hid hput
    have HPB := Lib.hid hp
    rw [show (!false) = true from rfl]
    clear hput hp
    go_wp2
    go_ret
    exact ⟨by rw [HPB.out]; rfl, by rw [HPUT.out]; exact ⟨A, ca, f1, HD1.out, HX.out⟩, HF1.out⟩
  · have hput : d.sync = { d.passD with syn := d.passD.row.length } := by unfold Dsk.sync; rw [if_pos hp, passD_row]
    have HPUT := Lib.hid hput
    have HPB := Lib.hid hp
    rw [show (!true) = false from rfl]
    clear hput hp
    generalize d.passD = d1 at *
    have h0 := HD1.out.cells.1
    have h1 := HD1.out.cells.2.1
    have hz1 := HD1.out.blk.frozen 1
    have HB := Lib.hid (HD1.out.set 1 (.int .i64 d1.row.length) { d1 with syn := d1.row.length } f1 rfl rfl HD1.out.fu)
    go_wp2
    go_ret
    exact ⟨by rw [HPB.out]; rfl, by rw [HPUT.out]; exact ⟨A, ca, f1, HB.out, HX.out⟩, HF1.out.one (by simp) _ _⟩
set_option maxHeartbeats 1000000 in
theorem rfuse_any (w : World) (U : List Nat) (g : Nat) (d : Dsk) (h : RD w U g d) (k : Nat) :
    Calls Try.prog 21 #[.pointer (some ⟨g, 0, none⟩), .int .i64 k] w fun e w' => e = .returned (.tuple #[]) ∧ RD w' U g { d with fused := true, left := k } ∧ Fr [g] w w' := by
  obtain ⟨A, c, f, h, hx⟩ := h
  have hk0 : (0 : Int) ≤ k := by omega
  have hk1 : ¬ (k : Int) < 0 := by omega
  have hb1 := h.blk.set 3 (.bool true)
  have hb2 := hb1.set 4 (.int .i64 k)
  have hfr : Fr [g] w ((w.setCell ⟨g, 3, none⟩ (.bool true)).setCell ⟨g, 4, none⟩ (.int .i64 k)) := ((Fr.refl [g] w).one (by simp) _ _).one (by simp) _ _
  have hD : RDA ((w.setCell ⟨g, 3, none⟩ (.bool true)).setCell ⟨g, 4, none⟩ (.int .i64 k)) g { d with fused := true, left := k } A c k :=
    ⟨hb2, h.by_.keep hfr (fun a ha hm => (h.old a.block (by simp [bk, ha])).1 (by simpa using hm)), h.cap, fun x hx => ⟨(h.old x hx).1, Nat.lt_of_lt_of_le (h.old x hx).2 hfr.size⟩, fun _ => rfl⟩
  obtain ⟨-, -, -, h3, h4⟩ := h.cells
  have hz3 := h.blk.frozen 3
  have hz4 := hb1.frozen 4
  have k4 := hb1.cell 4
  simp [rcells] at k4
  have HD := Lib.hid hD
  have HX := Lib.hid hx
  have HF := Lib.hid hfr
  clear h hD hb1 hb2 hfr hx
  go_enter Try.func21, Try.ntmps21
  go_wp2
  go_end0
  exact ⟨rfl, ⟨A, c, _, HD.out, HX.out⟩, HF.out⟩
end Go.Proofs.Ytdakilioikhhbaa
