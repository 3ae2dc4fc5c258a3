/- Package disk: what cuts, fuses and crashes make of a disk. -/
import Derived.Test.YtdakilioikhhbaaDsk
import Derived.Test.YtdakilioikhhbaaRegT
import Derived.Deep.CutBlock
namespace Go.Proofs.Ytdakilioikhhbaa
set_option maxRecDepth 100000
open Go.RowKit

/-- one cell of a block that is known whole is stored -/
theorem wp_store_cell {P : Program} {op : Oper} {a : Act} {w : World} {K : Act → World → Prop} {Q : Exit → Act → World → Prop} (ty : TypeId) (x y : Operand) (ho : op.op = .store ty x y)
    (g i : Nat) (v : Value) (hx : a.eval x = .pointer (some ⟨g, i, none⟩)) (hy : a.eval y = v) (h1 : v.oneCell' = true) (t : TypeId) (cs : Array Value) (hb : Blk w g t cs) (hi : i < cs.size) (hsz : (P.info? ty).map (·.size) = some 1)
    (h : K (a.put op.dst undef) (w.setCell ⟨g, i, none⟩ v)) : op.wp P a w K Q := by
  subst hy
  have hc := hb.cell i
  rw [Array.getElem?_eq_getElem hi] at hc
  have := run_storeCells_cells (P := P) g i [a.eval y] 0 w (fun j hj => by simp at hj; subst hj; simpa using (by rw [hc]; rfl : (w.cell? ⟨g, i, none⟩).isSome = true)) (fun j hj => by simp at hj; subst hj; simpa using hb.frozen i) (fun u hu => by simp at hu; subst hu; exact h1)
  have hcl : (a.eval y).cells = #[a.eval y] := by cases hv : a.eval y <;> first | rfl | (rw [hv] at h1; cases h1)
  have hrun : (storeVar ty ⟨g, i, none⟩ (a.eval y)).run P w = .ok () (w.setCell ⟨g, i, none⟩ (a.eval y)) := by
    cases hq : P.info? ty with
    | none => simp [hq] at hsz
    | some j =>
      have hs : j.size = 1 := by simpa [hq] using hsz
      simp only [Nat.add_zero] at this
      simp [storeVar, sizeOf, typeInfo, hq, hcl, hs, this, World.setCells]
  unfold Oper.wp execOp
  simp only [ho, hx, Instr.storeAt, Instr.sureAddr, Sem.run_bind, Sem.run_pure, Result.andThen_ok, hrun]
  exact h
theorem DokA.cut {w : World} {S : List Nat} {g : Nat} {d : Dsk} {A : Option Addr} {c : Nat} (h : DokA w S g d A c) {k : Nat} (hk : k ≤ d.row.length) :
    Blk (w.setCell ⟨g, 0, none⟩ (.slice A k c)) g 60 #[.slice A k c, .int .i64 d.syn, .bool d.fused, .int .i64 d.left, .bool d.dead] ∧
      DokA ((w.setCell ⟨g, 0, none⟩ (.slice A k c)).setCell ⟨g, 1, none⟩ (.int .i64 (min d.syn k : Nat))) S g (d.leave k) A c := by
  obtain ⟨rfl, hb, ho⟩ := h
  have hb1 : Blk (w.setCell ⟨g, 0, none⟩ (.slice A k c)) g 60 #[.slice A k c, .int .i64 d.syn, .bool d.fused, .int .i64 d.left, .bool d.dead] := hb.set 0 (.slice A k c)
  have hne : (Value.slice A k c).ownBlock ≠ some g := by
    have h := own_ne ho hb (by decide)
    cases A <;> exact h
  have hl : (d.row.take k).length = k := by rw [List.length_take]; omega
  refine ⟨hb1, rfl, ?_, ?_⟩
  · have := hb1.set 1 (.int .i64 (min d.syn k : Nat))
    unfold Dsk.cells Dsk.leave
    rw [hl]
    exact this
  · unfold Dsk.leave
    simp only [hl]
    exact own_setCell (own_setCell (own_cut ho hk) ⟨g, 0, none⟩ hne _) ⟨g, 1, none⟩ hne _
set_option maxHeartbeats 1000000 in
theorem dleave_any (w : World) (S : List Nat) (g : Nat) (d : Dsk) (h : Dok w S g d) (hd : DOk d) (k : Nat) (hk : k ≤ d.row.length) :
    Calls Try.prog 45 #[.pointer (some ⟨g, 0, none⟩), .int .i64 k] w fun e w' => e = .returned (.tuple #[]) ∧ Dok w' S g (d.leave k) ∧ Fr [g] w w' := by
  obtain ⟨A, c, h⟩ := h
  have H := Lib.hid h
  have HK := Lib.hid hk
  have hcap : d.row.length ≤ c := by
    rcases h.2.2.2 with ⟨h1, h2⟩ | ⟨g', cap, cur, hv, _, _, hc, _⟩
    · omega
    · injection hv; omega
  have hkc : k ≤ c := by omega
  have HM : Hid ((if k < d.syn then (k : Int) else (d.syn : Int)) = (min d.syn k : Nat)) := Lib.hid (by split <;> omega)
  have hk1 : (k : Int) ≤ 9223372036854775807 := by have := hd.len; omega
  have hk0 : (0 : Int) ≤ k := by omega
  clear h hd hcap
  go_enter Try.func45, Try.ntmps45
  refine wp_region_till 16 (Fr [g] w) (Fr [] w) (by kernel_rfl) (Fr.drew (Fr.refl _ w)) (Fr.drew (Fr.refl _ w)) (fun hA hB => ?_)
  have hW : DokA w.drew S g d A c := H.out
  obtain ⟨h0, h1, -, -, -⟩ := H.out.cell0
  have HW := Lib.hid hW
  obtain ⟨hb, hD⟩ := hW.cut hk
  have HB1 := Lib.hid hb
  have HD := Lib.hid hD
  have HFD : Hid (Fr [] w w.drew) := Lib.hid (Fr.drew (Fr.refl [] w))
  clear hk hb hD hW
  generalize w.drew = wd at *
  refine till_run (i := 0) (v := ?_) rfl (by kernel_rfl) (by rfl) (fun _ _ _ h => h) hA hB (fun w1 hw1 => ?_) ?_
  rotate_left 1
  · skip
    go_simp
    (try (first | with_reducible rfl | (apply And.intro <;> rfl)))
  simp only [Act.put, List.setIfInBounds_toArray, List.set_cons_zero, List.set_cons_succ]
  refine till_run (i := 2) (v := ?_) rfl (by kernel_rfl) (by rfl) (fun _ _ _ h => h) hA hB (fun w1 hw1 => ?_) ?_
  rotate_left 1
  · skip
    go_simp
    (try (first | with_reducible rfl | (apply And.intro <;> rfl)))
  simp only [Act.put, List.setIfInBounds_toArray, List.set_cons_zero, List.set_cons_succ]
  refine till_run (i := 3) (v := ?_) rfl (by kernel_rfl) (by rfl) (fun _ _ _ h => h) hA hB (fun w1 hw1 => ?_) ?_
  rotate_left 1
  · skip
    go_simp
    (try (first | with_reducible rfl | (apply And.intro <;> rfl)))
  simp only [Act.put, List.setIfInBounds_toArray, List.set_cons_zero, List.set_cons_succ]
  refine till_run (i := 4) (v := ?_) rfl (by kernel_rfl) (by rfl) (fun _ _ _ h => h) hA hB (fun w1 hw1 => ?_) ?_
  rotate_left 1
  · skip
    go_simp
    (try (first | with_reducible rfl | (apply And.intro <;> rfl)))
  simp only [Act.put, List.setIfInBounds_toArray, List.set_cons_zero, List.set_cons_succ]
  refine till_run (i := 5) (v := ?_) rfl (by kernel_rfl) (by rfl) (fun _ _ _ h => h) hA hB (fun w1 hw1 => ?_) ?_
  rotate_left 1
  · skip
    have hcw0 := hw1.cell (h0) (by first | (simp; done) | exact HNS.out | exact HNW.out | (intro hm; have hlt := HSB.out _ hm; (try dsimp only at hlt); omega))
    go_simp
    (try (first | with_reducible rfl | (apply And.intro <;> rfl)))
  simp only [Act.put, List.setIfInBounds_toArray, List.set_cons_zero, List.set_cons_succ]
  refine till_run (i := 6) (v := ?_) rfl (by kernel_rfl) (by rfl) (fun _ _ _ h => h) hA hB (fun w1 hw1 => ?_) ?_
  rotate_left 1
  · skip
    go_simp
    (try (first | with_reducible rfl | (apply And.intro <;> rfl)))
  simp only [Act.put, List.setIfInBounds_toArray, List.set_cons_zero, List.set_cons_succ]
  refine till_run (i := 7) (v := ?_) rfl (by kernel_rfl) (by rfl) (fun _ _ _ h => h) hA hB (fun w1 hw1 => ?_) ?_
  rotate_left 1
  · skip
    go_simp
    (try (first | with_reducible rfl | (apply And.intro <;> rfl)))
  simp only [Act.put, List.setIfInBounds_toArray, List.set_cons_zero, List.set_cons_succ]
  refine till_run (i := 8) (v := ?_) rfl (by kernel_rfl) (by rfl) (fun _ _ _ h => h) hA hB (fun w1 hw1 => ?_) ?_
  rotate_left 1
  · skip
    go_simp
    (try (first | with_reducible rfl | (apply And.intro <;> rfl)))
  simp only [Act.put, List.setIfInBounds_toArray, List.set_cons_zero, List.set_cons_succ]
  refine till_run (i := 9) (v := ?_) rfl (by kernel_rfl) (by rfl) (fun _ _ _ h => h) hA hB (fun w1 hw1 => ?_) ?_
  rotate_left 1
  · skip
    go_simp
    (try (first | with_reducible rfl | (apply And.intro <;> rfl)))
  simp only [Act.put, List.setIfInBounds_toArray, List.set_cons_zero, List.set_cons_succ]
  refine till_run (i := 10) (v := ?_) rfl (by kernel_rfl) (by rfl) (fun _ _ _ h => h) hA hB (fun w1 hw1 => ?_) ?_
  rotate_left 1
  · skip
    go_simp
    (try (first | with_reducible rfl | (apply And.intro <;> rfl)))
  simp only [Act.put, List.setIfInBounds_toArray, List.set_cons_zero, List.set_cons_succ]
  refine till_run (i := 11) (v := ?_) rfl (by kernel_rfl) (by rfl) (fun _ _ _ h => h) hA hB (fun w1 hw1 => ?_) ?_
  rotate_left 1
  · skip
    have hcw0 := hw1.cell (h1) (by first | (simp; done) | exact HNS.out | exact HNW.out | (intro hm; have hlt := HSB.out _ hm; (try dsimp only at hlt); omega))
    go_simp
    (try (first | with_reducible rfl | (apply And.intro <;> rfl)))
  simp only [Act.put, List.setIfInBounds_toArray, List.set_cons_zero, List.set_cons_succ]
  refine till_run (i := 14) (v := ?_) rfl (by kernel_rfl) (by rfl) (fun _ _ _ h => h) hA hB (fun w1 hw1 => ?_) ?_
  rotate_left 1
  · skip
    go_simp
    (try (first | with_reducible rfl | (apply And.intro <;> rfl)))
  simp only [Act.put, List.setIfInBounds_toArray, List.set_cons_zero, List.set_cons_succ]
  refine till_run (i := 15) (v := ?_) rfl (by kernel_rfl) (by rfl) (fun _ _ _ h => h) hA hB (fun w1 hw1 => ?_) ?_
  rotate_left 1
  · skip
    go_simp
    (try (first | with_reducible rfl | (apply And.intro <;> rfl)))
  simp only [Act.put, List.setIfInBounds_toArray, List.set_cons_zero, List.set_cons_succ]
  refine till_freeAt (i := 1) (v := ?_) rfl (by kernel_rfl) (by decide) (by rfl) (fun _ _ _ h => h) hA (fun _ => hB) (fun w1 hw1 => ?_) ?_
  rotate_left 1
  · skip
    go_simp
    (try (first | with_reducible rfl | (apply And.intro <;> rfl)))
  simp only [Act.put, List.setIfInBounds_toArray, List.set_cons_zero, List.set_cons_succ]
  refine till_freeAt (i := 12) (v := ?_) rfl (by kernel_rfl) (by decide) (by rfl) (fun _ _ _ h => h) hA (fun _ => hB) (fun w1 hw1 => ?_) ?_
  rotate_left 1
  · skip
    go_simp
    (try (first | with_reducible rfl | (apply And.intro <;> rfl)))
  simp only [Act.put, List.setIfInBounds_toArray, List.set_cons_zero, List.set_cons_succ]
  refine till_freeAt (i := 13) (v := ?_) rfl (by kernel_rfl) (by decide) (by rfl) (fun _ _ _ h => h) hA (fun _ => hB) (fun w1 hw1 => ?_) ?_
  rotate_left 1
  · skip
    go_simp
    (try (first | with_reducible rfl | (apply And.intro <;> rfl)))
  simp only [Act.put, List.setIfInBounds_toArray, List.set_cons_zero, List.set_cons_succ]
  refine till_step (i := 16) rfl (by kernel_rfl) (by kernel_rfl) (by rfl) (fun K hK => ?_)
  refine wp_store_cell _ _ _ rfl g 0 (.slice A k c) rfl rfl rfl 60 _ HW.out.2.1 (by simp [Dsk.cells]) (by kernel_rfl) ?_
  refine hK.out _ _ (hA.one (by simp) _ _) (fun hA => ?_)
  clear hK K
  simp only [Act.put, List.setIfInBounds_toArray, List.set_cons_zero, List.set_cons_succ]
  refine till_step (i := 17) rfl (by kernel_rfl) (by kernel_rfl) (by rfl) (fun K hK => ?_)
  refine wp_run (v := ?_) (w' := ?_) ?_ ?_
  rotate_left 2
  · go_simp
    (try (first | with_reducible rfl | (apply And.intro <;> rfl)))
  refine hK.out _ _ hA (fun hA => ?_)
  clear hK K
  simp only [Act.put, List.setIfInBounds_toArray, List.set_cons_zero, List.set_cons_succ]
  refine till_step (i := 18) rfl (by kernel_rfl) (by kernel_rfl) (by rfl) (fun K hK => ?_)
  refine wp_run (v := ?_) (w' := ?_) ?_ ?_
  rotate_left 2
  · go_simp
    (try (first | with_reducible rfl | (apply And.intro <;> rfl)))
  refine hK.out _ _ hA (fun hA => ?_)
  clear hK K
  simp only [Act.put, List.setIfInBounds_toArray, List.set_cons_zero, List.set_cons_succ]
  refine till_step (i := 19) rfl (by kernel_rfl) (by kernel_rfl) (by rfl) (fun K hK => ?_)
  refine wp_store_cell _ _ _ rfl g 1 (.int .i64 (min d.syn k : Nat)) rfl (congrArg (Value.int .i64) HM.out) rfl 60 _ HB1.out (by simp) (by kernel_rfl) ?_
  refine hK.out _ _ (hA.one (by simp) _ _) (fun hA => ?_)
  clear hK K
  simp only [Act.put, List.setIfInBounds_toArray, List.set_cons_zero, List.set_cons_succ]
  refine till_done (by kernel_rfl) ?_ _
  have HA := Lib.hid hA
  clear hA
  go_end0
  exact ⟨rfl, HD.out.dok, HA.out⟩
theorem DOk.leave {d : Dsk} (h : DOk d) {k : Nat} (hk : k ≤ d.row.length) : DOk (d.leave k) := by
  have := h.syn
  refine ⟨?_, h.left, ?_⟩
  · simp only [Dsk.leave, List.length_take]; omega
  · have := h.len; simp only [Dsk.leave, List.length_take]; omega
/-- what a cut that may be leaves -/
def Dsk.cutD (d : Dsk) (k : Nat) : Dsk := if d.passB then d.passD.leave k else d.passD
set_option maxHeartbeats 1000000 in
theorem dcut_any (w : World) (S : List Nat) (g : Nat) (d : Dsk) (h : Dok w S g d) (hd : DOk d) (hdead : d.dead = false) (k : Nat) (hk : k ≤ d.row.length) :
    Calls Try.prog 50 #[.pointer (some ⟨g, 0, none⟩), .int .i64 k] w fun e w' => e = .returned (.int .i64 (errB d.passB)) ∧ Dok w' S g (d.cutD k) ∧ Fr [g] w w' := by
  obtain ⟨A, c, h⟩ := h
  obtain ⟨h0, -, -, -, h4⟩ := h.cell0
  rw [hdead] at h4
  have H := Lib.hid h
  have HD := Lib.hid hd
  have HK := Lib.hid hk
  have hk0 : ¬ (k : Int) < 0 := by omega
  have hk1 : ¬ (k : Int) > (d.row.length : Int) := by omega
  clear h hd hdead
  go_enter Try.func50, Try.ntmps50
  go_wp2_with fail
  refine (dpass_any w S g d A c H.out HD.out).mono ?_
  rintro e w1 ⟨rfl, hd1, hf1⟩
  have HD1 := Lib.hid hd1.dok
  have HF1 := Lib.hid hf1
  clear hd1 hf1 h0 h4 hk0 hk1
  by_cases hp : d.passB = true
  · have hput : d.cutD k = d.passD.leave k := by unfold Dsk.cutD; rw [if_pos hp]
    have HPUT := Lib.hid hput
    have HPB := Lib.hid hp
    rw [hp]
    clear hp hput
    go_wp2_with fail
    refine (dleave_any w1 S g d.passD HD1.out HD.out.pass k (by rw [passD_row]; exact HK.out)).mono ?_
    rintro e w2 ⟨rfl, hd2, hf2⟩
    have HD2 := Lib.hid hd2
    have HF2 := Lib.hid hf2
    clear hd2 hf2
    go_wp2
    go_ret
    exact ⟨by rw [HPB.out]; rfl, by rw [HPUT.out]; exact HD2.out, HF1.out.trans HF2.out (fun x hx _ => hx)⟩
  · have hpf : d.passB = false := by simpa using hp
    have hput : d.cutD k = d.passD := by unfold Dsk.cutD; rw [if_neg hp]
    have HPUT := Lib.hid hput
    have HPB := Lib.hid hpf
    rw [hpf]
    clear hput hpf hp
    go_wp2
    go_ret
    exact ⟨by rw [HPB.out]; rfl, by rw [HPUT.out]; exact HD1.out, HF1.out⟩
/-- a cut that may not be -/
theorem dcut_bad (w : World) (S : List Nat) (g : Nat) (d : Dsk) (h : Dok w S g d) (hdead : d.dead = false) (k : Int) (hk : k < 0 ∨ (d.row.length : Int) < k) :
    Calls Try.prog 50 #[.pointer (some ⟨g, 0, none⟩), .int .i64 k] w fun e w' => e = .returned (.int .i64 1) ∧ w = w' := by
  obtain ⟨A, c, h⟩ := h
  obtain ⟨h0, -, -, -, h4⟩ := h.cell0
  rw [hdead] at h4
  clear h hdead
  by_cases hk0 : k < 0
  · clear hk
    go_enter Try.func50, Try.ntmps50
    go_wp2
    go_ret
    exact ⟨rfl, rfl⟩
  · have hk1 : k > (d.row.length : Int) := by omega
    clear hk
    go_enter Try.func50, Try.ntmps50
    go_wp2
    go_ret
    exact ⟨rfl, rfl⟩
set_option maxHeartbeats 1000000 in
theorem dfuse_any (w : World) (S : List Nat) (g : Nat) (d : Dsk) (h : Dok w S g d) (k : Nat) :
    Calls Try.prog 20 #[.pointer (some ⟨g, 0, none⟩), .int .i64 k] w fun e w' => e = .returned (.tuple #[]) ∧ Dok w' S g { d with fused := true, left := k } ∧ Fr [g] w w' := by
  obtain ⟨A, c, h⟩ := h
  have hk0 : (0 : Int) ≤ k := by omega
  have hD1 : DokA (w.setCell ⟨g, 2, none⟩ (.bool true)) S g { d with fused := true } A c := DokA.set (w := w) (d := d) h 2 _ _ rfl rfl
  have hD2 := DokA.set hD1 3 (.int .i64 k) { d with fused := true, left := k } rfl rfl
  obtain ⟨-, -, h2, h3, -⟩ := h.cell0
  have hz2 := h.2.1.frozen 2
  have hz3 := h.2.1.frozen 3
  have HD2 := Lib.hid hD2
  clear h hD1 hD2
  go_enter Try.func20, Try.ntmps20
  go_wp2
  go_end0
  exact ⟨rfl, HD2.out.dok, ((Fr.refl _ _).one (by simp) _ _).one (by simp) _ _⟩
/-- what a crash leaves -/
def keptN (d : Dsk) (keep : Int) : Nat := d.syn + min keep.toNat (d.row.length - d.syn)
def Dsk.crash (d : Dsk) (keep : Int) : Dsk := ⟨d.row.take (keptN d keep), keptN d keep, false, 0, false⟩
set_option maxHeartbeats 1000000 in
theorem dcrash_any (w : World) (S : List Nat) (g : Nat) (d : Dsk) (h : Dok w S g d) (hd : DOk d) (keep : Int) (hk : -9223372036854775808 ≤ keep ∧ keep < 9223372036854775808) :
    Calls Try.prog 22 #[.pointer (some ⟨g, 0, none⟩), .int .i64 keep] w fun e w' => e = .returned (.tuple #[]) ∧ Dok w' S g (d.crash keep) ∧ Fr [g] w w' := by
  obtain ⟨A, c, h⟩ := h
  obtain ⟨h0, h1, -, -, -⟩ := h.cell0
  have HKP : Hid (keptN d keep ≤ d.row.length) := Lib.hid (by have := hd.syn; unfold keptN; omega)
  have H := Lib.hid h
  have HD := Lib.hid hd
  have HK := Lib.hid hk
  clear h hd hk
  have HX : Hid (IntKind.i64.wrap ((d.syn : Int) + if IntKind.i64.wrap ((d.row.length : Int) - (d.syn : Int)) < (if keep < 0 then 0 else keep) then IntKind.i64.wrap ((d.row.length : Int) - (d.syn : Int)) else if keep < 0 then 0 else keep) = (keptN d keep : Nat)) := Lib.hid (by
    have h1 := HD.out.len
    have h2 := HD.out.syn
    have hw : IntKind.i64.wrap ((d.row.length : Int) - (d.syn : Int)) = (d.row.length : Int) - (d.syn : Int) := by rw [IntKind.wrap_i64]; omega
    rw [hw, IntKind.wrap_i64]
    unfold keptN
    split <;> split <;> omega)
  go_enter Try.func22, Try.ntmps22
  go_upto_region 0 with (fail)
  refine wp_region_till 19 (Fr [g] w) (Fr [] w) (by kernel_rfl) (Fr.drew (Fr.refl _ w)) (Fr.drew (Fr.refl _ w)) (fun hA hB => ?_)
  have HW : Hid (DokA w.drew S g d A c) := Lib.hid H.out
  have HFD : Hid (Fr [] w w.drew) := Lib.hid (Fr.drew (Fr.refl [] w))
  generalize w.drew = wd at *
  refine till_run (i := 0) (v := ?_) rfl (by kernel_rfl) (by rfl) (fun _ _ _ h => h) hA hB (fun w1 hw1 => ?_) ?_
  rotate_left 1
  · skip
    go_simp
    (try (first | with_reducible rfl | (apply And.intro <;> rfl)))
  simp only [Act.put, List.setIfInBounds_toArray, List.set_cons_zero, List.set_cons_succ]
  refine till_run (i := 1) (v := ?_) rfl (by kernel_rfl) (by rfl) (fun _ _ _ h => h) hA hB (fun w1 hw1 => ?_) ?_
  rotate_left 1
  · skip
    go_simp
    (try (first | with_reducible rfl | (apply And.intro <;> rfl)))
  simp only [Act.put, List.setIfInBounds_toArray, List.set_cons_zero, List.set_cons_succ]
  refine till_run (i := 2) (v := ?_) rfl (by kernel_rfl) (by rfl) (fun _ _ _ h => h) hA hB (fun w1 hw1 => ?_) ?_
  rotate_left 1
  · skip
    go_simp
    (try (first | with_reducible rfl | (apply And.intro <;> rfl)))
  simp only [Act.put, List.setIfInBounds_toArray, List.set_cons_zero, List.set_cons_succ]
  refine till_run (i := 3) (v := ?_) rfl (by kernel_rfl) (by rfl) (fun _ _ _ h => h) hA hB (fun w1 hw1 => ?_) ?_
  rotate_left 1
  · skip
    go_simp
    (try (first | with_reducible rfl | (apply And.intro <;> rfl)))
  simp only [Act.put, List.setIfInBounds_toArray, List.set_cons_zero, List.set_cons_succ]
  refine till_run (i := 4) (v := ?_) rfl (by kernel_rfl) (by rfl) (fun _ _ _ h => h) hA hB (fun w1 hw1 => ?_) ?_
  rotate_left 1
  · skip
    have hcw0 := hw1.cell (h1) (by first | (simp; done) | exact HNS.out | exact HNW.out | (intro hm; have hlt := HSB.out _ hm; (try dsimp only at hlt); omega))
    go_simp
    (try (first | with_reducible rfl | (apply And.intro <;> rfl)))
  simp only [Act.put, List.setIfInBounds_toArray, List.set_cons_zero, List.set_cons_succ]
  refine till_run (i := 5) (v := ?_) rfl (by kernel_rfl) (by rfl) (fun _ _ _ h => h) hA hB (fun w1 hw1 => ?_) ?_
  rotate_left 1
  · skip
    go_simp
    (try (first | with_reducible rfl | (apply And.intro <;> rfl)))
  simp only [Act.put, List.setIfInBounds_toArray, List.set_cons_zero, List.set_cons_succ]
  refine till_run (i := 6) (v := ?_) rfl (by kernel_rfl) (by rfl) (fun _ _ _ h => h) hA hB (fun w1 hw1 => ?_) ?_
  rotate_left 1
  · skip
    go_simp
    (try (first | with_reducible rfl | (apply And.intro <;> rfl)))
  simp only [Act.put, List.setIfInBounds_toArray, List.set_cons_zero, List.set_cons_succ]
  refine till_run (i := 7) (v := ?_) rfl (by kernel_rfl) (by rfl) (fun _ _ _ h => h) hA hB (fun w1 hw1 => ?_) ?_
  rotate_left 1
  · skip
    go_simp
    (try (first | with_reducible rfl | (apply And.intro <;> rfl)))
  simp only [Act.put, List.setIfInBounds_toArray, List.set_cons_zero, List.set_cons_succ]
  refine till_run (i := 8) (v := ?_) rfl (by kernel_rfl) (by rfl) (fun _ _ _ h => h) hA hB (fun w1 hw1 => ?_) ?_
  rotate_left 1
  · skip
    go_simp
    (try (first | with_reducible rfl | (apply And.intro <;> rfl)))
  simp only [Act.put, List.setIfInBounds_toArray, List.set_cons_zero, List.set_cons_succ]
  refine till_run (i := 9) (v := ?_) rfl (by kernel_rfl) (by rfl) (fun _ _ _ h => h) hA hB (fun w1 hw1 => ?_) ?_
  rotate_left 1
  · skip
    go_simp
    (try (first | with_reducible rfl | (apply And.intro <;> rfl)))
  simp only [Act.put, List.setIfInBounds_toArray, List.set_cons_zero, List.set_cons_succ]
  refine till_run (i := 10) (v := ?_) rfl (by kernel_rfl) (by rfl) (fun _ _ _ h => h) hA hB (fun w1 hw1 => ?_) ?_
  rotate_left 1
  · skip
    have hcw0 := hw1.cell (h0) (by first | (simp; done) | exact HNS.out | exact HNW.out | (intro hm; have hlt := HSB.out _ hm; (try dsimp only at hlt); omega))
    go_simp
    (try (first | with_reducible rfl | (apply And.intro <;> rfl)))
  simp only [Act.put, List.setIfInBounds_toArray, List.set_cons_zero, List.set_cons_succ]
  refine till_run (i := 11) (v := ?_) rfl (by kernel_rfl) (by rfl) (fun _ _ _ h => h) hA hB (fun w1 hw1 => ?_) ?_
  rotate_left 1
  · skip
    go_simp
    (try (first | with_reducible rfl | (apply And.intro <;> rfl)))
  simp only [Act.put, List.setIfInBounds_toArray, List.set_cons_zero, List.set_cons_succ]
  refine till_run (i := 12) (v := ?_) rfl (by kernel_rfl) (by rfl) (fun _ _ _ h => h) hA hB (fun w1 hw1 => ?_) ?_
  rotate_left 1
  · skip
    go_simp
    (try (first | with_reducible rfl | (apply And.intro <;> rfl)))
  simp only [Act.put, List.setIfInBounds_toArray, List.set_cons_zero, List.set_cons_succ]
  refine till_run (i := 13) (v := ?_) rfl (by kernel_rfl) (by rfl) (fun _ _ _ h => h) hA hB (fun w1 hw1 => ?_) ?_
  rotate_left 1
  · skip
    go_simp
    (try (first | with_reducible rfl | (apply And.intro <;> rfl)))
  simp only [Act.put, List.setIfInBounds_toArray, List.set_cons_zero, List.set_cons_succ]
  refine till_run (i := 14) (v := ?_) rfl (by kernel_rfl) (by rfl) (fun _ _ _ h => h) hA hB (fun w1 hw1 => ?_) ?_
  rotate_left 1
  · skip
    go_simp
    (try (first | with_reducible rfl | (apply And.intro <;> rfl)))
  simp only [Act.put, List.setIfInBounds_toArray, List.set_cons_zero, List.set_cons_succ]
  refine till_run (i := 15) (v := ?_) rfl (by kernel_rfl) (by rfl) (fun _ _ _ h => h) hA hB (fun w1 hw1 => ?_) ?_
  rotate_left 1
  · skip
    have hcw0 := hw1.cell (h1) (by first | (simp; done) | exact HNS.out | exact HNW.out | (intro hm; have hlt := HSB.out _ hm; (try dsimp only at hlt); omega))
    go_simp
    (try (first | with_reducible rfl | (apply And.intro <;> rfl)))
  simp only [Act.put, List.setIfInBounds_toArray, List.set_cons_zero, List.set_cons_succ]
  refine till_run (i := 16) (v := ?_) rfl (by kernel_rfl) (by rfl) (fun _ _ _ h => h) hA hB (fun w1 hw1 => ?_) ?_
  rotate_left 1
  · skip
    go_simp
    (try (first | with_reducible rfl | (apply And.intro <;> rfl)))
  simp only [Act.put, List.setIfInBounds_toArray, List.set_cons_zero, List.set_cons_succ]
  refine till_run (i := 17) (v := ?_) rfl (by kernel_rfl) (by rfl) (fun _ _ _ h => h) hA hB (fun w1 hw1 => ?_) ?_
  rotate_left 1
  · skip
    go_simp
    (try (first | with_reducible rfl | (apply And.intro <;> rfl)))
  simp only [Act.put, List.setIfInBounds_toArray, List.set_cons_zero, List.set_cons_succ]
  refine till_run (i := 18) (v := ?_) rfl (by kernel_rfl) (by rfl) (fun _ _ _ h => h) hA hB (fun w1 hw1 => ?_) ?_
  rotate_left 1
  · skip
    go_simp
    (try (first | with_reducible rfl | (apply And.intro <;> rfl)))
  simp only [Act.put, List.setIfInBounds_toArray, List.set_cons_zero, List.set_cons_succ]
  rw [HX.out]
  refine till_step (i := 19) rfl (by kernel_rfl) (by kernel_rfl) (by rfl) (fun K hK => ?_)
  refine wp_call (f := ?_) (args := ?_) ?_ ?_
  rotate_left 2
  · go_simp
    (try (first | with_reducible rfl | (apply And.intro <;> rfl)))
  refine (dleave_any wd S g d HW.out.dok HD.out (keptN d keep) HKP.out).mono ?_
  rintro e w1 ⟨rfl, hd1, hf1⟩
  refine ⟨_, rfl, ?_⟩
  refine hK.out _ _ (hA.trans hf1 (fun x hx _ => hx)) (fun hA => ?_)
  clear hK K
  simp only [Act.put, List.setIfInBounds_toArray, List.set_cons_zero, List.set_cons_succ]
  refine till_done (by kernel_rfl) ?_ _
  have HA := Lib.hid hA
  have HL1 : Hid (DOk (d.leave (keptN d keep))) := Lib.hid (HD.out.leave HKP.out)
  clear hA hB HX HFD HW h0 h1 H hf1
  have hle : (d.leave (keptN d keep)).row = d.row.take (keptN d keep) := rfl
  have hln : (d.row.take (keptN d keep)).length = keptN d keep := by rw [List.length_take]; have := HKP.out; omega
  have HLE := Lib.hid hle
  have HLN := Lib.hid hln
  generalize d.leave (keptN d keep) = d1 at *
  obtain ⟨A1, c1, hd1⟩ := hd1
  obtain ⟨h0, -, -, -, -⟩ := hd1.cell0
  rw [hle, hln] at h0
  have hz1 := hd1.2.1.frozen 1
  have k1 := hd1.2.1.cell 1
  simp [Dsk.cells] at k1
  have hS1 := hd1.set 1 (.int .i64 (keptN d keep : Nat)) { d1 with syn := keptN d keep } rfl rfl
  have hz2 := hS1.2.1.frozen 2
  have k2 := hS1.2.1.cell 2
  simp [Dsk.cells] at k2
  have hS2 := hS1.set 2 (.bool false) { d1 with syn := keptN d keep, fused := false } rfl rfl
  have hS3 := hS2.set 3 (.int .i64 0) { d1 with syn := keptN d keep, fused := false, left := 0 } rfl rfl
  have hS4 := hS3.set 4 (.bool false) ⟨d1.row, keptN d keep, false, 0, false⟩ rfl rfl
  rw [hle] at hS4
  have z2 := hS1.2.1.frozen 2
  have z3 := hS2.2.1.frozen 3
  have z4 := hS3.2.1.frozen 4
  have c2 := hS1.2.1.cell 2
  have c3 := hS2.2.1.cell 3
  have c4 := hS3.2.1.cell 4
  simp [Dsk.cells] at c2 c3 c4
  have HS4 := Lib.hid hS4
  clear hS1 hS2 hS3 hS4 hd1 hle hln
  go_wp2
  all_goals
    go_end0
    exact ⟨rfl, HS4.out.dok, (((HA.out.one (by simp) _ _).one (by simp) _ _).one (by simp) _ _).one (by simp) _ _⟩
end Go.Proofs.Ytdakilioikhhbaa
