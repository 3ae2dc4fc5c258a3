/- The walk of ShaOrder. -/
import Derived.Test.YtbajkdlemgnmkaaDoorShaLess
import Derived.Test.YtbajkdlemgnmkaaDoorReg
import Derived.Test.YtbajkdlemgnmkaaDoorCm2
import Derived.Deep.CutBlock
namespace Go.Proofs.YtbajkdlemgnmkaaDoor
open Go.RowKit
set_option maxRecDepth 100000

theorem compare_neg_trans : ∀ {a b c : List UInt8}, Lib.compareBytes a b < 0 → Lib.compareBytes b c < 0 → Lib.compareBytes a c < 0 := by
  intro a
  induction a with
  | nil =>
    intro b c h1 h2
    cases b with
    | nil => simp [Lib.compareBytes] at h1
    | cons y ys =>
      cases c with
      | nil => simp [Lib.compareBytes] at h2
      | cons z zs => simp [Lib.compareBytes]
  | cons x xs ih =>
    intro b c h1 h2
    cases b with
    | nil => simp [Lib.compareBytes] at h1
    | cons y ys =>
      cases c with
      | nil => simp [Lib.compareBytes] at h2
      | cons z zs =>
        unfold Lib.compareBytes at h1 h2 ⊢
        have e1 : x < y ↔ x.toNat < y.toNat := UInt8.lt_iff_toNat_lt
        have e2 : y < x ↔ y.toNat < x.toNat := UInt8.lt_iff_toNat_lt
        have e3 : y < z ↔ y.toNat < z.toNat := UInt8.lt_iff_toNat_lt
        have e4 : z < y ↔ z.toNat < y.toNat := UInt8.lt_iff_toNat_lt
        have e5 : x < z ↔ x.toNat < z.toNat := UInt8.lt_iff_toNat_lt
        have e6 : z < x ↔ z.toNat < x.toNat := UInt8.lt_iff_toNat_lt
        by_cases p1 : x < y
        · by_cases p2 : z < y
          · rw [if_neg (by rw [e3]; rw [e4] at p2; omega), if_pos p2] at h2
            omega
          · have : x < z := by rw [e5]; rw [e1] at p1; rw [e4] at p2; omega
            rw [if_pos this]
            omega
        · rw [if_neg p1] at h1
          by_cases p2 : y < x
          · rw [if_pos p2] at h1
            omega
          · rw [if_neg p2] at h1
            have hxy : x.toNat = y.toNat := by rw [e1] at p1; rw [e2] at p2; omega
            by_cases p3 : y < z
            · have : x < z := by rw [e5, hxy]; rwa [e3] at p3
              rw [if_pos this]
              omega
            · rw [if_neg p3] at h2
              by_cases p4 : z < y
              · rw [if_pos p4] at h2
                omega
              · rw [if_neg p4] at h2
                rw [if_neg (by rw [e5, hxy]; rwa [e3] at p3), if_neg (by rw [e6, hxy]; rwa [e4] at p4)]
                exact ih h1 h2
theorem lessB_trans {a b c : List UInt8} (h1 : lessB a b = true) (h2 : lessB b c = true) : lessB a c = true := by
  unfold lessB at *
  simp only [decide_eq_true_eq] at *
  exact compare_neg_trans h1 h2
/-- two unlike lists of one length differ somewhere first -/
theorem first_diff {a b : List UInt8} (hl : a.length = b.length) (hne : a ≠ b) : ∃ k x y, a.take k = b.take k ∧ a[k]? = some x ∧ b[k]? = some y ∧ x ≠ y := by
  induction a generalizing b with
  | nil =>
    cases b with
    | nil => exact absurd rfl hne
    | cons y ys => simp at hl
  | cons x xs ih =>
    cases b with
    | nil => simp at hl
    | cons y ys =>
      by_cases hxy : x = y
      · subst hxy
        obtain ⟨k, p, q, h1, h2, h3, h4⟩ := ih (by simpa using hl) (fun h => hne (by rw [h]))
        exact ⟨k + 1, p, q, by simp [h1], by simpa using h2, by simpa using h3, h4⟩
      · exact ⟨0, x, y, by simp, by simp, by simp, hxy⟩
theorem lessB_ne {a b : List UInt8} (hl : a.length = b.length) (hne : a ≠ b) : lessB b a = !lessB a b := by
  obtain ⟨k, x, y, h1, h2, h3, h4⟩ := first_diff hl hne
  obtain ⟨e1, e2, _⟩ := lessB_at h1 h2 h3 h4
  rw [e1, e2]

/-- two boxes that hold hashes, and nothing old has changed since w0 -/
def Box2 (w0 w : World) (ga gb : Nat) (a b : List UInt8) : Prop := Blk w ga 26 (a.map by8).toArray ∧ Blk w gb 26 (b.map by8).toArray ∧ Fr [] w0 w
theorem Box2.fr {w0 w w' : World} {ga gb : Nat} {a b : List UInt8} (h : Box2 w0 w ga gb a b) (hf : Fr [] w w') : Box2 w0 w' ga gb a b := ⟨h.1.keep hf (by simp), h.2.1.keep hf (by simp), h.2.2.trans hf (by simp)⟩

theorem range_blk {w : World} {g : Nat} {t : TypeId} {cs : List Value} (h : Blk w g t cs.toArray) : w.rangeAt g 0 cs := fun j v hv => by
  rw [Nat.zero_add, h.cell j]
  simpa using hv
theorem Box2.keeps {w0 w w' : World} {ga gb : Nat} {a b : List UInt8} {X Y : List Value} (hX : a.map by8 = X) (hY : b.map by8 = Y) (hf : Hid (Fr [] w w')) (h : Hid (Box2 w0 w ga gb a b)) :
    w'.rangeAt ga 0 X ∧ w'.rangeAt gb 0 Y ∧ Hid (Box2 w0 w' ga gb a b) := by
  have h' := h.out.fr hf.out
  subst hX hY
  exact ⟨range_blk h'.1, range_blk h'.2.1, Lib.hid h'⟩
/-- a hash is loaded, guarded or not -/
theorem wpList_load_hash {ops : Array Oper} {rest : List Oper} {op : Oper} {a : Act} {w : World} {Q : Exit → Act → World → Prop} (hw : Region.wanted op (yielded ops a.tmps) = true) (x : Operand) (ho : op.op = .load 26 x)
    (g : Nat) (hx : a.eval x = .pointer (some ⟨g, 0, none⟩)) (X : List Value) (hr : w.rangeAt g 0 X) (hi : (Tryd.prog.info? 26).map (·.size) = some X.length)
    (h : wpList Tryd.prog ops Q rest (a.put op.dst (.agg X.toArray)) w) : wpList Tryd.prog ops Q (op :: rest) a w :=
  BigFrame.wpList_want hw fun _ hK => wp_load_mid 26 x ho g 0 hx X _ hr Tryd.underlying26 rfl hi (hK _ _ h)

set_option maxRecDepth 100000 in
set_option maxHeartbeats 8000000 in
theorem shaOrder_walk (w : World) (a : List UInt8) (ha : a.length = 32) (b : List UInt8) (hb : b.length = 32) (c : List UInt8) (hc : c.length = 32) (hK : KW w) :
    Calls Tryd.prog 4 #[.agg (a.map by8).toArray, .agg (b.map by8).toArray, .agg (c.map by8).toArray] w fun e w' => e = .returned (.bool true) ∧ Fr [] w w' := by
  obtain ⟨wb, hwb⟩ : ∃ wb, wb = ((w.alloc (.cells (a.map by8).toArray 26)).alloc (.cells (b.map by8).toArray 26)).alloc (.cells (c.map by8).toArray 26) := ⟨_, rfl⟩
  have hbA : Blk wb w.heap.size 26 (a.map by8).toArray := by rw [hwb]; exact ((Blk.new _ _ _).keep ((Fr.refl [] _).alloc _) (by simp)).keep ((Fr.refl [] _).alloc _) (by simp)
  have hbB : Blk wb (w.heap.size + 1) 26 (b.map by8).toArray := by
    have := Blk.new (w.alloc (.cells (a.map by8).toArray 26)) 26 (b.map by8).toArray
    have := this.keep ((Fr.refl [] _).alloc (.cells (c.map by8).toArray 26)) (by simp)
    rw [hwb]
    simpa using this
  have hbC : Blk wb (w.heap.size + 1 + 1) 26 (c.map by8).toArray := by
    have := Blk.new ((w.alloc (.cells (a.map by8).toArray 26)).alloc (.cells (b.map by8).toArray 26)) 26 (c.map by8).toArray
    rw [hwb]
    simpa using this
  have hf : Fr [] w wb := by rw [hwb]; exact (((Fr.refl [] w).alloc _).alloc _).alloc _
  have HB2 : Hid (Box2 w wb w.heap.size (w.heap.size + 1) a b) := Lib.hid ⟨hbA, hbB, hf⟩
  have HBC := Lib.hid hbC
  have HWB := Lib.hid hwb
  have HK := Lib.hid hK
  have HA := Lib.hid ha
  have HB := Lib.hid hb
  have HC := Lib.hid hc
  have hEq := hash_eql a b ha hb
  have HEQ := Lib.hid hEq
  have Laa := less_any a a ha ha
  have Lab := less_any a b ha hb
  have Lba := less_any b a hb ha
  have Lbc := less_any b c hb hc
  have Lac := less_any a c ha hc
  have HTR : Hid (lessB a b = true → lessB b c = true → lessB a c = true) := Lib.hid lessB_trans
  have HNE : Hid (a ≠ b → lessB b a = !lessB a b) := Lib.hid (lessB_ne (by rw [ha, hb]))
  have HSF : Hid (a = b → lessB a b = false ∧ lessB b a = false) := Lib.hid (fun e => by subst e; exact ⟨lessB_self a, lessB_self a⟩)
  rw [lessB_self a] at Laa
  have HLaa := Lib.hid Laa
  have HLab := Lib.hid Lab
  have HLba := Lib.hid Lba
  have HLbc := Lib.hid Lbc
  have HLac := Lib.hid Lac
  clear hbA hbB hbC hf hK hwb ha hb hc hEq Laa Lab Lba Lbc Lac
  go_enter Tryd.func4, Tryd.ntmps4
  go_upto_region 1 with (fail)
  rw [← HWB.out]
  clear HWB
  have hiX : (Tryd.prog.info? 26).map (·.size) = some (a.map by8).length := by rw [hash_sizeS, List.length_map, HA.out]
  have hiY : (Tryd.prog.info? 26).map (·.size) = some (b.map by8).length := by rw [hash_sizeS, List.length_map, HB.out]
  have hiZ : (Tryd.prog.info? 26).map (·.size) = some (c.map by8).length := by rw [hash_sizeS, List.length_map, HC.out]
  have huH := Tryd.underlying26
  generalize hX : a.map by8 = X at *
  generalize hY : b.map by8 = Y at *
  generalize hZ : c.map by8 = Z at *
  have HX := Lib.hid hX
  have HY := Lib.hid hY
  have hra : wb.rangeAt w.heap.size 0 X := by rw [← hX]; exact range_blk HB2.out.1
  have hrb : wb.rangeAt (w.heap.size + 1) 0 Y := by rw [← hY]; exact range_blk HB2.out.2.1
  have hrc : wb.rangeAt (w.heap.size + 1 + 1) 0 Z := range_blk HBC.out
  have rnA : ∀ w1, Hid (Fr [] wb w1) → w1.rangeAt w.heap.size 0 X := fun w1 h => (Box2.keeps hX hY h HB2).1
  have rnB : ∀ w1, Hid (Fr [] wb w1) → w1.rangeAt (w.heap.size + 1) 0 Y := fun w1 h => (Box2.keeps hX hY h HB2).2.1
  have rnC : ∀ w1, Hid (Fr [] wb w1) → w1.rangeAt (w.heap.size + 1 + 1) 0 Z := fun w1 h => range_blk (HBC.out.keep h.out (by simp))
  have HRA := Lib.hid rnA
  have HRB := Lib.hid rnB
  have HRC := Lib.hid rnC
  have HIX := Lib.hid hiX
  have HIY := Lib.hid hiY
  have HIZ := Lib.hid hiZ
  have HF0 : Hid (Fr [] wb wb) := Lib.hid (Fr.refl _ _)
  have HFW : Hid (Fr [] w wb) := Lib.hid HB2.out.2.2
  clear hX hY hZ hra hrb hrc rnA rnB rnC hiX hiY hiZ
  generalize h1 : lessB a b = l1 at *
  generalize h2 : lessB b c = l2 at *
  generalize h3 : lessB a c = l3 at *
  generalize h4 : lessB b a = l4 at *
  clear h1 h2 h3 h4
  have hcase : (l1 = false) ∨ (l1 = true ∧ l2 = false) ∨ (l1 = true ∧ l2 = true ∧ l3 = true) := by
    have := HTR.out
    cases l1 <;> cases l2 <;> cases l3 <;> simp_all
  have hpair : (decide (a = b) = true ∧ l1 = false ∧ l4 = false) ∨ (decide (a = b) = false ∧ l1 = true ∧ l4 = false) ∨ (decide (a = b) = false ∧ l1 = false ∧ l4 = true) := by
    by_cases e : a = b
    · obtain ⟨e1, e2⟩ := HSF.out e
      exact .inl ⟨by simpa using e, e1, e2⟩
    · have h := HNE.out e
      cases l1
      · exact .inr (.inr ⟨by simpa using e, rfl, h⟩)
      · exact .inr (.inl ⟨by simpa using e, rfl, h⟩)
  have HP := Lib.hid hpair
  clear hpair HTR HNE HSF
  have hr1 : ∀ w1 : World, Hid (Fr [] wb w1) → w1.rangeAt w.heap.size 0 X ∧ w1.rangeAt (w.heap.size + 1) 0 Y ∧ Hid (Box2 w w1 w.heap.size (w.heap.size + 1) a b) :=
    fun w1 h => Box2.keeps HX.out HY.out h HB2
  have HR1 := Lib.hid hr1
  clear hr1
  rcases hcase with rfl | ⟨rfl, rfl⟩ | ⟨rfl, rfl, rfl⟩
  · skip
    go_upto_region 3 with (first
        | (refine wpList_load_hash rfl _ rfl (w.heap.size) rfl X (HRA.out _ HFZ) HIX.out ?_)
        | (refine wpList_load_hash rfl _ rfl (w.heap.size) rfl X (HRA.out _ HF0) HIX.out ?_)
        | (refine wpList_load_hash rfl _ rfl (w.heap.size + 1) rfl Y (HRB.out _ HFZ) HIY.out ?_)
        | (refine wpList_load_hash rfl _ rfl (w.heap.size + 1) rfl Y (HRB.out _ HF0) HIY.out ?_)
        | (refine wpList_load_hash rfl _ rfl (w.heap.size + 1 + 1) rfl Z (HRC.out _ HFZ) HIZ.out ?_)
        | (refine wpList_load_hash rfl _ rfl (w.heap.size + 1 + 1) rfl Z (HRC.out _ HF0) HIZ.out ?_)
        | (go_at_call 20; ((with_reducible refine (HLab.out _).mono ?_); rintro e wz ⟨rfl, hf1⟩; have HFZ : Hid (Fr [] wb wz) := Lib.hid (HF0.out.and hf1 (by simp)); clear hf1)))
    have HRA := Lib.hid (fun w1 (h : Fr [] wz w1) => HRA.out w1 (Lib.hid (HFZ.out.and h (by simp))))
    have HRB := Lib.hid (fun w1 (h : Fr [] wz w1) => HRB.out w1 (Lib.hid (HFZ.out.and h (by simp))))
    have heq : ∀ W : World, _ := HEQ.out
    rcases HP.out with ⟨hd, h1, h4⟩ | ⟨hd, h1, h4⟩ | ⟨hd, h1, h4⟩
    · subst h4
      rw [hd] at heq
      clear HP h1 hd
      refine wp_region_held_drew (S := Fr [] wz) (by kernel_rfl) (Fr.drew (Fr.refl _ wz)) (fun hHeld => ?_)
      refine row_at (i := 0) rfl (by kernel_rfl) (by rfl) _ _ rfl _ _ rfl _ (fun w1 hw1 => HRA.out w1 hw1) ⟨by kernel_rfl, HIX.out⟩ (fun _ _ _ h => h) hHeld ?_
      simp only [Act.put, List.setIfInBounds_toArray, List.set_cons_zero, List.set_cons_succ]
      refine row_at (i := 1) rfl (by kernel_rfl) (by rfl) _ _ rfl _ _ rfl _ (fun w1 hw1 => HRA.out w1 hw1) ⟨by kernel_rfl, HIX.out⟩ (fun _ _ _ h => h) hHeld ?_
      simp only [Act.put, List.setIfInBounds_toArray, List.set_cons_zero, List.set_cons_succ]
      refine call_at (i := 2) (f := ?_) (args := ?_) rfl (by kernel_rfl) (by rfl) ?_ ?_
      rotate_left 2
      · go_simp
        (try (first | with_reducible rfl | (apply And.intro <;> rfl)))
      refine (HLaa.out _).mono ?_
      rintro e wq ⟨rfl, hfq⟩
      refine ⟨_, rfl, hHeld.and hfq (by simp), fun hHeld => ?_⟩
      clear hfq
      simp only [Act.put, List.setIfInBounds_toArray, List.set_cons_zero, List.set_cons_succ]
      refine run_at (i := 3) (v := ?_) rfl (by kernel_rfl) (by rfl) (fun _ _ _ h => h) hHeld (fun w1 hw1 => ?_) ?_
      rotate_left 1
      · skip
        go_simp
        (try (first | with_reducible rfl | (apply And.intro <;> rfl)))
      simp only [Act.put, List.setIfInBounds_toArray, List.set_cons_zero, List.set_cons_succ]
      refine run_at (i := 4) (v := ?_) rfl (by kernel_rfl) (by rfl) (fun _ _ _ h => h) hHeld (fun w1 hw1 => ?_) ?_
      rotate_left 1
      · skip
        go_simp
        (try (first | with_reducible rfl | (apply And.intro <;> rfl)))
      simp only [Act.put, List.setIfInBounds_toArray, List.set_cons_zero, List.set_cons_succ]
      refine row_at (i := 5) rfl (by kernel_rfl) (by rfl) _ _ rfl _ _ rfl _ (fun w1 hw1 => HRA.out w1 hw1) ⟨by kernel_rfl, HIX.out⟩ (fun _ _ _ h => h) hHeld ?_
      simp only [Act.put, List.setIfInBounds_toArray, List.set_cons_zero, List.set_cons_succ]
      refine row_at (i := 6) rfl (by kernel_rfl) (by rfl) _ _ rfl _ _ rfl _ (fun w1 hw1 => HRB.out w1 hw1) ⟨by kernel_rfl, HIY.out⟩ (fun _ _ _ h => h) hHeld ?_
      simp only [Act.put, List.setIfInBounds_toArray, List.set_cons_zero, List.set_cons_succ]
      refine row_at (i := 13) rfl (by kernel_rfl) (by rfl) _ _ rfl _ _ rfl _ (fun w1 hw1 => HRA.out w1 hw1) ⟨by kernel_rfl, HIX.out⟩ (fun _ _ _ h => h) hHeld ?_
      simp only [Act.put, List.setIfInBounds_toArray, List.set_cons_zero, List.set_cons_succ]
      refine row_at (i := 14) rfl (by kernel_rfl) (by rfl) _ _ rfl _ _ rfl _ (fun w1 hw1 => HRB.out w1 hw1) ⟨by kernel_rfl, HIY.out⟩ (fun _ _ _ h => h) hHeld ?_
      simp only [Act.put, List.setIfInBounds_toArray, List.set_cons_zero, List.set_cons_succ]
      refine run_at (i := 15) (v := ?_) rfl (by kernel_rfl) (by rfl) (fun _ _ _ h => h) hHeld (fun w1 hw1 => ?_) ?_
      rotate_left 1
      · skip
        go_simp
        (try (first | with_reducible rfl | (apply And.intro <;> rfl)))
      simp only [Act.put, List.setIfInBounds_toArray, List.set_cons_zero, List.set_cons_succ]
      refine call_at (i := 7) (f := ?_) (args := ?_) rfl (by kernel_rfl) (by rfl) ?_ ?_
      rotate_left 2
      · go_simp
        (try (first | with_reducible rfl | (apply And.intro <;> rfl)))
      refine (HLab.out _).mono ?_
      rintro e wq ⟨rfl, hfq⟩
      refine ⟨_, rfl, hHeld.and hfq (by simp), fun hHeld => ?_⟩
      clear hfq
      simp only [Act.put, List.setIfInBounds_toArray, List.set_cons_zero, List.set_cons_succ]
      refine run_at (i := 8) (v := ?_) rfl (by kernel_rfl) (by rfl) (fun _ _ _ h => h) hHeld (fun w1 hw1 => ?_) ?_
      rotate_left 1
      · skip
        go_simp
        (try (first | with_reducible rfl | (apply And.intro <;> rfl)))
      simp only [Act.put, List.setIfInBounds_toArray, List.set_cons_zero, List.set_cons_succ]
      refine row_at (i := 9) rfl (by kernel_rfl) (by rfl) _ _ rfl _ _ rfl _ (fun w1 hw1 => HRB.out w1 hw1) ⟨by kernel_rfl, HIY.out⟩ (fun _ _ _ h => h) hHeld ?_
      simp only [Act.put, List.setIfInBounds_toArray, List.set_cons_zero, List.set_cons_succ]
      refine row_at (i := 10) rfl (by kernel_rfl) (by rfl) _ _ rfl _ _ rfl _ (fun w1 hw1 => HRA.out w1 hw1) ⟨by kernel_rfl, HIX.out⟩ (fun _ _ _ h => h) hHeld ?_
      simp only [Act.put, List.setIfInBounds_toArray, List.set_cons_zero, List.set_cons_succ]
      refine call_at (i := 11) (f := ?_) (args := ?_) rfl (by kernel_rfl) (by rfl) ?_ ?_
      rotate_left 2
      · go_simp
        (try (first | with_reducible rfl | (apply And.intro <;> rfl)))
      refine (HLba.out _).mono ?_
      rintro e wq ⟨rfl, hfq⟩
      refine ⟨_, rfl, hHeld.and hfq (by simp), fun hHeld => ?_⟩
      clear hfq
      simp only [Act.put, List.setIfInBounds_toArray, List.set_cons_zero, List.set_cons_succ]
      refine run_at (i := 12) (v := ?_) rfl (by kernel_rfl) (by rfl) (fun _ _ _ h => h) hHeld (fun w1 hw1 => ?_) ?_
      rotate_left 1
      · skip
        go_simp
        (try (first | with_reducible rfl | (apply And.intro <;> rfl)))
      simp only [Act.put, List.setIfInBounds_toArray, List.set_cons_zero, List.set_cons_succ]
      refine run_at (i := 16) (v := ?_) rfl (by kernel_rfl) (by rfl) (fun _ _ _ h => h) hHeld (fun w1 hw1 => ?_) ?_
      rotate_left 1
      · skip
        go_simp
        (try (first | with_reducible rfl | (apply And.intro <;> rfl)))
      simp only [Act.put, List.setIfInBounds_toArray, List.set_cons_zero, List.set_cons_succ]
      refine run_at (i := 17) (v := ?_) rfl (by kernel_rfl) (by rfl) (fun _ _ _ h => h) hHeld (fun w1 hw1 => ?_) ?_
      rotate_left 1
      · skip
        go_simp
        (try (first | with_reducible rfl | (apply And.intro <;> rfl)))
      simp only [Act.put, List.setIfInBounds_toArray, List.set_cons_zero, List.set_cons_succ]
      refine run_at (i := 18) (v := ?_) rfl (by kernel_rfl) (by rfl) (fun _ _ _ h => h) hHeld (fun w1 hw1 => ?_) ?_
      rotate_left 1
      · skip
        go_simp
        (try (first | with_reducible rfl | (apply And.intro <;> rfl)))
      simp only [Act.put, List.setIfInBounds_toArray, List.set_cons_zero, List.set_cons_succ]
      refine row_at (i := 19) rfl (by kernel_rfl) (by rfl) _ _ rfl _ _ rfl _ (fun w1 hw1 => HRA.out w1 hw1) ⟨by kernel_rfl, HIX.out⟩ (fun _ _ _ h => h) hHeld ?_
      simp only [Act.put, List.setIfInBounds_toArray, List.set_cons_zero, List.set_cons_succ]
      refine row_at (i := 20) rfl (by kernel_rfl) (by rfl) _ _ rfl _ _ rfl _ (fun w1 hw1 => HRB.out w1 hw1) ⟨by kernel_rfl, HIY.out⟩ (fun _ _ _ h => h) hHeld ?_
      simp only [Act.put, List.setIfInBounds_toArray, List.set_cons_zero, List.set_cons_succ]
      refine call_at (i := 21) (f := ?_) (args := ?_) rfl (by kernel_rfl) (by rfl) ?_ ?_
      rotate_left 2
      · go_simp
        (try (first | with_reducible rfl | (apply And.intro <;> rfl)))
      refine (HLab.out _).mono ?_
      rintro e wq ⟨rfl, hfq⟩
      refine ⟨_, rfl, hHeld.and hfq (by simp), fun hHeld => ?_⟩
      clear hfq
      simp only [Act.put, List.setIfInBounds_toArray, List.set_cons_zero, List.set_cons_succ]
      refine run_at (i := 22) (v := ?_) rfl (by kernel_rfl) (by rfl) (fun _ _ _ h => h) hHeld (fun w1 hw1 => ?_) ?_
      rotate_left 1
      · skip
        go_simp
        (try (first | with_reducible rfl | (apply And.intro <;> rfl)))
      simp only [Act.put, List.setIfInBounds_toArray, List.set_cons_zero, List.set_cons_succ]
      refine skip_at (i := 23) rfl (by kernel_rfl) (fun _ _ _ h => h) (by rfl) hHeld ?_
      simp only [Act.put, List.setIfInBounds_toArray, List.set_cons_zero, List.set_cons_succ]
      refine skip_at (i := 24) rfl (by kernel_rfl) (fun _ _ _ h => h) (by rfl) hHeld ?_
      simp only [Act.put, List.setIfInBounds_toArray, List.set_cons_zero, List.set_cons_succ]
      refine skip_at (i := 25) rfl (by kernel_rfl) (fun _ _ _ h => h) (by rfl) hHeld ?_
      simp only [Act.put, List.setIfInBounds_toArray, List.set_cons_zero, List.set_cons_succ]
      refine run_at (i := 26) (v := ?_) rfl (by kernel_rfl) (by rfl) (fun _ _ _ h => h) hHeld (fun w1 hw1 => ?_) ?_
      rotate_left 1
      · skip
        go_simp
        (try (first | with_reducible rfl | (apply And.intro <;> rfl)))
      simp only [Act.put, List.setIfInBounds_toArray, List.set_cons_zero, List.set_cons_succ]
      refine run_at (i := 27) (v := ?_) rfl (by kernel_rfl) (by rfl) (fun _ _ _ h => h) hHeld (fun w1 hw1 => ?_) ?_
      rotate_left 1
      · skip
        go_simp
        (try (first | with_reducible rfl | (apply And.intro <;> rfl)))
      simp only [Act.put, List.setIfInBounds_toArray, List.set_cons_zero, List.set_cons_succ]
      refine run_at (i := 28) (v := ?_) rfl (by kernel_rfl) (by rfl) (fun _ _ _ h => h) hHeld (fun w1 hw1 => ?_) ?_
      rotate_left 1
      · skip
        go_simp
        (try (first | with_reducible rfl | (apply And.intro <;> rfl)))
      simp only [Act.put, List.setIfInBounds_toArray, List.set_cons_zero, List.set_cons_succ]
      refine run_at (i := 29) (v := ?_) rfl (by kernel_rfl) (by rfl) (fun _ _ _ h => h) hHeld (fun w1 hw1 => ?_) ?_
      rotate_left 1
      · skip
        go_simp
        (try (first | with_reducible rfl | (apply And.intro <;> rfl)))
      simp only [Act.put, List.setIfInBounds_toArray, List.set_cons_zero, List.set_cons_succ]
      refine call_at (i := 30) (f := ?_) (args := ?_) rfl (by kernel_rfl) (by rfl) ?_ ?_
      rotate_left 2
      · go_simp
        (try (first | with_reducible rfl | (apply And.intro <;> rfl)))
      refine (shawakes_any _ (HK.out.keep (HFW.out.and (HFZ.out.and hHeld (by simp)) (by simp)) (by simp))).mono ?_
      rintro e wq ⟨rfl, hfq⟩
      refine ⟨_, rfl, hHeld.and hfq (by simp), fun hHeld => ?_⟩
      clear hfq
      simp only [Act.put, List.setIfInBounds_toArray, List.set_cons_zero, List.set_cons_succ]
      refine run_at (i := 31) (v := ?_) rfl (by kernel_rfl) (by rfl) (fun _ _ _ h => h) hHeld (fun w1 hw1 => ?_) ?_
      rotate_left 1
      · skip
        go_simp
        (try (first | with_reducible rfl | (apply And.intro <;> rfl)))
      simp only [Act.put, List.setIfInBounds_toArray, List.set_cons_zero, List.set_cons_succ]
      refine run_at (i := 32) (v := ?_) rfl (by kernel_rfl) (by rfl) (fun _ _ _ h => h) hHeld (fun w1 hw1 => ?_) ?_
      rotate_left 1
      · skip
        go_simp
        (try (first | with_reducible rfl | (apply And.intro <;> rfl)))
      simp only [Act.put, List.setIfInBounds_toArray, List.set_cons_zero, List.set_cons_succ]
      refine wpAnyH_done (by kernel_rfl) ?_ _
      go_wp2
      go_ret
      exact ⟨rfl, HFW.out.and (HFZ.out.and hHeld (by simp)) (by simp)⟩
    · cases h1
    · subst h4
      rw [hd] at heq
      clear HP h1 hd
      refine wp_region_held_drew (S := Fr [] wz) (by kernel_rfl) (Fr.drew (Fr.refl _ wz)) (fun hHeld => ?_)
      refine row_at (i := 0) rfl (by kernel_rfl) (by rfl) _ _ rfl _ _ rfl _ (fun w1 hw1 => HRA.out w1 hw1) ⟨by kernel_rfl, HIX.out⟩ (fun _ _ _ h => h) hHeld ?_
      simp only [Act.put, List.setIfInBounds_toArray, List.set_cons_zero, List.set_cons_succ]
      refine row_at (i := 1) rfl (by kernel_rfl) (by rfl) _ _ rfl _ _ rfl _ (fun w1 hw1 => HRA.out w1 hw1) ⟨by kernel_rfl, HIX.out⟩ (fun _ _ _ h => h) hHeld ?_
      simp only [Act.put, List.setIfInBounds_toArray, List.set_cons_zero, List.set_cons_succ]
      refine call_at (i := 2) (f := ?_) (args := ?_) rfl (by kernel_rfl) (by rfl) ?_ ?_
      rotate_left 2
      · go_simp
        (try (first | with_reducible rfl | (apply And.intro <;> rfl)))
      refine (HLaa.out _).mono ?_
      rintro e wq ⟨rfl, hfq⟩
      refine ⟨_, rfl, hHeld.and hfq (by simp), fun hHeld => ?_⟩
      clear hfq
      simp only [Act.put, List.setIfInBounds_toArray, List.set_cons_zero, List.set_cons_succ]
      refine run_at (i := 3) (v := ?_) rfl (by kernel_rfl) (by rfl) (fun _ _ _ h => h) hHeld (fun w1 hw1 => ?_) ?_
      rotate_left 1
      · skip
        go_simp
        (try (first | with_reducible rfl | (apply And.intro <;> rfl)))
      simp only [Act.put, List.setIfInBounds_toArray, List.set_cons_zero, List.set_cons_succ]
      refine run_at (i := 4) (v := ?_) rfl (by kernel_rfl) (by rfl) (fun _ _ _ h => h) hHeld (fun w1 hw1 => ?_) ?_
      rotate_left 1
      · skip
        go_simp
        (try (first | with_reducible rfl | (apply And.intro <;> rfl)))
      simp only [Act.put, List.setIfInBounds_toArray, List.set_cons_zero, List.set_cons_succ]
      refine row_at (i := 5) rfl (by kernel_rfl) (by rfl) _ _ rfl _ _ rfl _ (fun w1 hw1 => HRA.out w1 hw1) ⟨by kernel_rfl, HIX.out⟩ (fun _ _ _ h => h) hHeld ?_
      simp only [Act.put, List.setIfInBounds_toArray, List.set_cons_zero, List.set_cons_succ]
      refine row_at (i := 6) rfl (by kernel_rfl) (by rfl) _ _ rfl _ _ rfl _ (fun w1 hw1 => HRB.out w1 hw1) ⟨by kernel_rfl, HIY.out⟩ (fun _ _ _ h => h) hHeld ?_
      simp only [Act.put, List.setIfInBounds_toArray, List.set_cons_zero, List.set_cons_succ]
      refine row_at (i := 13) rfl (by kernel_rfl) (by rfl) _ _ rfl _ _ rfl _ (fun w1 hw1 => HRA.out w1 hw1) ⟨by kernel_rfl, HIX.out⟩ (fun _ _ _ h => h) hHeld ?_
      simp only [Act.put, List.setIfInBounds_toArray, List.set_cons_zero, List.set_cons_succ]
      refine row_at (i := 14) rfl (by kernel_rfl) (by rfl) _ _ rfl _ _ rfl _ (fun w1 hw1 => HRB.out w1 hw1) ⟨by kernel_rfl, HIY.out⟩ (fun _ _ _ h => h) hHeld ?_
      simp only [Act.put, List.setIfInBounds_toArray, List.set_cons_zero, List.set_cons_succ]
      refine run_at (i := 15) (v := ?_) rfl (by kernel_rfl) (by rfl) (fun _ _ _ h => h) hHeld (fun w1 hw1 => ?_) ?_
      rotate_left 1
      · skip
        go_simp
        (try (first | with_reducible rfl | (apply And.intro <;> rfl)))
      simp only [Act.put, List.setIfInBounds_toArray, List.set_cons_zero, List.set_cons_succ]
      refine call_at (i := 7) (f := ?_) (args := ?_) rfl (by kernel_rfl) (by rfl) ?_ ?_
      rotate_left 2
      · go_simp
        (try (first | with_reducible rfl | (apply And.intro <;> rfl)))
      refine (HLab.out _).mono ?_
      rintro e wq ⟨rfl, hfq⟩
      refine ⟨_, rfl, hHeld.and hfq (by simp), fun hHeld => ?_⟩
      clear hfq
      simp only [Act.put, List.setIfInBounds_toArray, List.set_cons_zero, List.set_cons_succ]
      refine run_at (i := 8) (v := ?_) rfl (by kernel_rfl) (by rfl) (fun _ _ _ h => h) hHeld (fun w1 hw1 => ?_) ?_
      rotate_left 1
      · skip
        go_simp
        (try (first | with_reducible rfl | (apply And.intro <;> rfl)))
      simp only [Act.put, List.setIfInBounds_toArray, List.set_cons_zero, List.set_cons_succ]
      refine row_at (i := 9) rfl (by kernel_rfl) (by rfl) _ _ rfl _ _ rfl _ (fun w1 hw1 => HRB.out w1 hw1) ⟨by kernel_rfl, HIY.out⟩ (fun _ _ _ h => h) hHeld ?_
      simp only [Act.put, List.setIfInBounds_toArray, List.set_cons_zero, List.set_cons_succ]
      refine row_at (i := 10) rfl (by kernel_rfl) (by rfl) _ _ rfl _ _ rfl _ (fun w1 hw1 => HRA.out w1 hw1) ⟨by kernel_rfl, HIX.out⟩ (fun _ _ _ h => h) hHeld ?_
      simp only [Act.put, List.setIfInBounds_toArray, List.set_cons_zero, List.set_cons_succ]
      refine call_at (i := 11) (f := ?_) (args := ?_) rfl (by kernel_rfl) (by rfl) ?_ ?_
      rotate_left 2
      · go_simp
        (try (first | with_reducible rfl | (apply And.intro <;> rfl)))
      refine (HLba.out _).mono ?_
      rintro e wq ⟨rfl, hfq⟩
      refine ⟨_, rfl, hHeld.and hfq (by simp), fun hHeld => ?_⟩
      clear hfq
      simp only [Act.put, List.setIfInBounds_toArray, List.set_cons_zero, List.set_cons_succ]
      refine run_at (i := 12) (v := ?_) rfl (by kernel_rfl) (by rfl) (fun _ _ _ h => h) hHeld (fun w1 hw1 => ?_) ?_
      rotate_left 1
      · skip
        go_simp
        (try (first | with_reducible rfl | (apply And.intro <;> rfl)))
      simp only [Act.put, List.setIfInBounds_toArray, List.set_cons_zero, List.set_cons_succ]
      refine run_at (i := 16) (v := ?_) rfl (by kernel_rfl) (by rfl) (fun _ _ _ h => h) hHeld (fun w1 hw1 => ?_) ?_
      rotate_left 1
      · skip
        go_simp
        (try (first | with_reducible rfl | (apply And.intro <;> rfl)))
      simp only [Act.put, List.setIfInBounds_toArray, List.set_cons_zero, List.set_cons_succ]
      refine run_at (i := 17) (v := ?_) rfl (by kernel_rfl) (by rfl) (fun _ _ _ h => h) hHeld (fun w1 hw1 => ?_) ?_
      rotate_left 1
      · skip
        go_simp
        (try (first | with_reducible rfl | (apply And.intro <;> rfl)))
      simp only [Act.put, List.setIfInBounds_toArray, List.set_cons_zero, List.set_cons_succ]
      refine run_at (i := 18) (v := ?_) rfl (by kernel_rfl) (by rfl) (fun _ _ _ h => h) hHeld (fun w1 hw1 => ?_) ?_
      rotate_left 1
      · skip
        go_simp
        (try (first | with_reducible rfl | (apply And.intro <;> rfl)))
      simp only [Act.put, List.setIfInBounds_toArray, List.set_cons_zero, List.set_cons_succ]
      refine row_at (i := 19) rfl (by kernel_rfl) (by rfl) _ _ rfl _ _ rfl _ (fun w1 hw1 => HRA.out w1 hw1) ⟨by kernel_rfl, HIX.out⟩ (fun _ _ _ h => h) hHeld ?_
      simp only [Act.put, List.setIfInBounds_toArray, List.set_cons_zero, List.set_cons_succ]
      refine row_at (i := 20) rfl (by kernel_rfl) (by rfl) _ _ rfl _ _ rfl _ (fun w1 hw1 => HRB.out w1 hw1) ⟨by kernel_rfl, HIY.out⟩ (fun _ _ _ h => h) hHeld ?_
      simp only [Act.put, List.setIfInBounds_toArray, List.set_cons_zero, List.set_cons_succ]
      refine call_at (i := 21) (f := ?_) (args := ?_) rfl (by kernel_rfl) (by rfl) ?_ ?_
      rotate_left 2
      · go_simp
        (try (first | with_reducible rfl | (apply And.intro <;> rfl)))
      refine (HLab.out _).mono ?_
      rintro e wq ⟨rfl, hfq⟩
      refine ⟨_, rfl, hHeld.and hfq (by simp), fun hHeld => ?_⟩
      clear hfq
      simp only [Act.put, List.setIfInBounds_toArray, List.set_cons_zero, List.set_cons_succ]
      refine run_at (i := 22) (v := ?_) rfl (by kernel_rfl) (by rfl) (fun _ _ _ h => h) hHeld (fun w1 hw1 => ?_) ?_
      rotate_left 1
      · skip
        go_simp
        (try (first | with_reducible rfl | (apply And.intro <;> rfl)))
      simp only [Act.put, List.setIfInBounds_toArray, List.set_cons_zero, List.set_cons_succ]
      refine skip_at (i := 23) rfl (by kernel_rfl) (fun _ _ _ h => h) (by rfl) hHeld ?_
      simp only [Act.put, List.setIfInBounds_toArray, List.set_cons_zero, List.set_cons_succ]
      refine skip_at (i := 24) rfl (by kernel_rfl) (fun _ _ _ h => h) (by rfl) hHeld ?_
      simp only [Act.put, List.setIfInBounds_toArray, List.set_cons_zero, List.set_cons_succ]
      refine skip_at (i := 25) rfl (by kernel_rfl) (fun _ _ _ h => h) (by rfl) hHeld ?_
      simp only [Act.put, List.setIfInBounds_toArray, List.set_cons_zero, List.set_cons_succ]
      refine run_at (i := 26) (v := ?_) rfl (by kernel_rfl) (by rfl) (fun _ _ _ h => h) hHeld (fun w1 hw1 => ?_) ?_
      rotate_left 1
      · skip
        go_simp
        (try (first | with_reducible rfl | (apply And.intro <;> rfl)))
      simp only [Act.put, List.setIfInBounds_toArray, List.set_cons_zero, List.set_cons_succ]
      refine run_at (i := 27) (v := ?_) rfl (by kernel_rfl) (by rfl) (fun _ _ _ h => h) hHeld (fun w1 hw1 => ?_) ?_
      rotate_left 1
      · skip
        go_simp
        (try (first | with_reducible rfl | (apply And.intro <;> rfl)))
      simp only [Act.put, List.setIfInBounds_toArray, List.set_cons_zero, List.set_cons_succ]
      refine run_at (i := 28) (v := ?_) rfl (by kernel_rfl) (by rfl) (fun _ _ _ h => h) hHeld (fun w1 hw1 => ?_) ?_
      rotate_left 1
      · skip
        go_simp
        (try (first | with_reducible rfl | (apply And.intro <;> rfl)))
      simp only [Act.put, List.setIfInBounds_toArray, List.set_cons_zero, List.set_cons_succ]
      refine run_at (i := 29) (v := ?_) rfl (by kernel_rfl) (by rfl) (fun _ _ _ h => h) hHeld (fun w1 hw1 => ?_) ?_
      rotate_left 1
      · skip
        go_simp
        (try (first | with_reducible rfl | (apply And.intro <;> rfl)))
      simp only [Act.put, List.setIfInBounds_toArray, List.set_cons_zero, List.set_cons_succ]
      refine call_at (i := 30) (f := ?_) (args := ?_) rfl (by kernel_rfl) (by rfl) ?_ ?_
      rotate_left 2
      · go_simp
        (try (first | with_reducible rfl | (apply And.intro <;> rfl)))
      refine (shawakes_any _ (HK.out.keep (HFW.out.and (HFZ.out.and hHeld (by simp)) (by simp)) (by simp))).mono ?_
      rintro e wq ⟨rfl, hfq⟩
      refine ⟨_, rfl, hHeld.and hfq (by simp), fun hHeld => ?_⟩
      clear hfq
      simp only [Act.put, List.setIfInBounds_toArray, List.set_cons_zero, List.set_cons_succ]
      refine run_at (i := 31) (v := ?_) rfl (by kernel_rfl) (by rfl) (fun _ _ _ h => h) hHeld (fun w1 hw1 => ?_) ?_
      rotate_left 1
      · skip
        go_simp
        (try (first | with_reducible rfl | (apply And.intro <;> rfl)))
      simp only [Act.put, List.setIfInBounds_toArray, List.set_cons_zero, List.set_cons_succ]
      refine run_at (i := 32) (v := ?_) rfl (by kernel_rfl) (by rfl) (fun _ _ _ h => h) hHeld (fun w1 hw1 => ?_) ?_
      rotate_left 1
      · skip
        go_simp
        (try (first | with_reducible rfl | (apply And.intro <;> rfl)))
      simp only [Act.put, List.setIfInBounds_toArray, List.set_cons_zero, List.set_cons_succ]
      refine wpAnyH_done (by kernel_rfl) ?_ _
      go_wp2
      go_ret
      exact ⟨rfl, HFW.out.and (HFZ.out.and hHeld (by simp)) (by simp)⟩
  · skip
    go_upto_region 3 with (first
        | (refine wpList_load_hash rfl _ rfl (w.heap.size) rfl X (HRA.out _ HFY) HIX.out ?_)
        | (refine wpList_load_hash rfl _ rfl (w.heap.size) rfl X (HRA.out _ HFZ) HIX.out ?_)
        | (refine wpList_load_hash rfl _ rfl (w.heap.size) rfl X (HRA.out _ HF0) HIX.out ?_)
        | (refine wpList_load_hash rfl _ rfl (w.heap.size + 1) rfl Y (HRB.out _ HFY) HIY.out ?_)
        | (refine wpList_load_hash rfl _ rfl (w.heap.size + 1) rfl Y (HRB.out _ HFZ) HIY.out ?_)
        | (refine wpList_load_hash rfl _ rfl (w.heap.size + 1) rfl Y (HRB.out _ HF0) HIY.out ?_)
        | (refine wpList_load_hash rfl _ rfl (w.heap.size + 1 + 1) rfl Z (HRC.out _ HFY) HIZ.out ?_)
        | (refine wpList_load_hash rfl _ rfl (w.heap.size + 1 + 1) rfl Z (HRC.out _ HFZ) HIZ.out ?_)
        | (refine wpList_load_hash rfl _ rfl (w.heap.size + 1 + 1) rfl Z (HRC.out _ HF0) HIZ.out ?_)
        | (go_at_call 20; ((with_reducible refine (HLab.out _).mono ?_); rintro e wz ⟨rfl, hf1⟩; have HFZ : Hid (Fr [] wb wz) := Lib.hid (HF0.out.and hf1 (by simp)); clear hf1))
        | (go_at_call 20; ((with_reducible refine (HLbc.out _).mono ?_); rintro e wy ⟨rfl, hf1⟩; have HFY : Hid (Fr [] wb wy) := Lib.hid (HFZ.out.and hf1 (by simp)); clear hf1)))
    have HRA := Lib.hid (fun w1 (h : Fr [] wy w1) => HRA.out w1 (Lib.hid (HFY.out.and h (by simp))))
    have HRB := Lib.hid (fun w1 (h : Fr [] wy w1) => HRB.out w1 (Lib.hid (HFY.out.and h (by simp))))
    have heq : ∀ W : World, _ := HEQ.out
    rcases HP.out with ⟨hd, h1, h4⟩ | ⟨hd, h1, h4⟩ | ⟨hd, h1, h4⟩
    · cases h1
    · subst h4
      rw [hd] at heq
      clear HP h1 hd
      refine wp_region_held_drew (S := Fr [] wy) (by kernel_rfl) (Fr.drew (Fr.refl _ wy)) (fun hHeld => ?_)
      refine row_at (i := 0) rfl (by kernel_rfl) (by rfl) _ _ rfl _ _ rfl _ (fun w1 hw1 => HRA.out w1 hw1) ⟨by kernel_rfl, HIX.out⟩ (fun _ _ _ h => h) hHeld ?_
      simp only [Act.put, List.setIfInBounds_toArray, List.set_cons_zero, List.set_cons_succ]
      refine row_at (i := 1) rfl (by kernel_rfl) (by rfl) _ _ rfl _ _ rfl _ (fun w1 hw1 => HRA.out w1 hw1) ⟨by kernel_rfl, HIX.out⟩ (fun _ _ _ h => h) hHeld ?_
      simp only [Act.put, List.setIfInBounds_toArray, List.set_cons_zero, List.set_cons_succ]
      refine call_at (i := 2) (f := ?_) (args := ?_) rfl (by kernel_rfl) (by rfl) ?_ ?_
      rotate_left 2
      · go_simp
        (try (first | with_reducible rfl | (apply And.intro <;> rfl)))
      refine (HLaa.out _).mono ?_
      rintro e wq ⟨rfl, hfq⟩
      refine ⟨_, rfl, hHeld.and hfq (by simp), fun hHeld => ?_⟩
      clear hfq
      simp only [Act.put, List.setIfInBounds_toArray, List.set_cons_zero, List.set_cons_succ]
      refine run_at (i := 3) (v := ?_) rfl (by kernel_rfl) (by rfl) (fun _ _ _ h => h) hHeld (fun w1 hw1 => ?_) ?_
      rotate_left 1
      · skip
        go_simp
        (try (first | with_reducible rfl | (apply And.intro <;> rfl)))
      simp only [Act.put, List.setIfInBounds_toArray, List.set_cons_zero, List.set_cons_succ]
      refine run_at (i := 4) (v := ?_) rfl (by kernel_rfl) (by rfl) (fun _ _ _ h => h) hHeld (fun w1 hw1 => ?_) ?_
      rotate_left 1
      · skip
        go_simp
        (try (first | with_reducible rfl | (apply And.intro <;> rfl)))
      simp only [Act.put, List.setIfInBounds_toArray, List.set_cons_zero, List.set_cons_succ]
      refine row_at (i := 5) rfl (by kernel_rfl) (by rfl) _ _ rfl _ _ rfl _ (fun w1 hw1 => HRA.out w1 hw1) ⟨by kernel_rfl, HIX.out⟩ (fun _ _ _ h => h) hHeld ?_
      simp only [Act.put, List.setIfInBounds_toArray, List.set_cons_zero, List.set_cons_succ]
      refine row_at (i := 6) rfl (by kernel_rfl) (by rfl) _ _ rfl _ _ rfl _ (fun w1 hw1 => HRB.out w1 hw1) ⟨by kernel_rfl, HIY.out⟩ (fun _ _ _ h => h) hHeld ?_
      simp only [Act.put, List.setIfInBounds_toArray, List.set_cons_zero, List.set_cons_succ]
      refine row_at (i := 13) rfl (by kernel_rfl) (by rfl) _ _ rfl _ _ rfl _ (fun w1 hw1 => HRA.out w1 hw1) ⟨by kernel_rfl, HIX.out⟩ (fun _ _ _ h => h) hHeld ?_
      simp only [Act.put, List.setIfInBounds_toArray, List.set_cons_zero, List.set_cons_succ]
      refine row_at (i := 14) rfl (by kernel_rfl) (by rfl) _ _ rfl _ _ rfl _ (fun w1 hw1 => HRB.out w1 hw1) ⟨by kernel_rfl, HIY.out⟩ (fun _ _ _ h => h) hHeld ?_
      simp only [Act.put, List.setIfInBounds_toArray, List.set_cons_zero, List.set_cons_succ]
      refine run_at (i := 15) (v := ?_) rfl (by kernel_rfl) (by rfl) (fun _ _ _ h => h) hHeld (fun w1 hw1 => ?_) ?_
      rotate_left 1
      · skip
        go_simp
        (try (first | with_reducible rfl | (apply And.intro <;> rfl)))
      simp only [Act.put, List.setIfInBounds_toArray, List.set_cons_zero, List.set_cons_succ]
      refine call_at (i := 7) (f := ?_) (args := ?_) rfl (by kernel_rfl) (by rfl) ?_ ?_
      rotate_left 2
      · go_simp
        (try (first | with_reducible rfl | (apply And.intro <;> rfl)))
      refine (HLab.out _).mono ?_
      rintro e wq ⟨rfl, hfq⟩
      refine ⟨_, rfl, hHeld.and hfq (by simp), fun hHeld => ?_⟩
      clear hfq
      simp only [Act.put, List.setIfInBounds_toArray, List.set_cons_zero, List.set_cons_succ]
      refine run_at (i := 8) (v := ?_) rfl (by kernel_rfl) (by rfl) (fun _ _ _ h => h) hHeld (fun w1 hw1 => ?_) ?_
      rotate_left 1
      · skip
        go_simp
        (try (first | with_reducible rfl | (apply And.intro <;> rfl)))
      simp only [Act.put, List.setIfInBounds_toArray, List.set_cons_zero, List.set_cons_succ]
      refine skip_at (i := 9) rfl (by kernel_rfl) (fun _ _ _ h => h) (by rfl) hHeld ?_
      simp only [Act.put, List.setIfInBounds_toArray, List.set_cons_zero, List.set_cons_succ]
      refine skip_at (i := 10) rfl (by kernel_rfl) (fun _ _ _ h => h) (by rfl) hHeld ?_
      simp only [Act.put, List.setIfInBounds_toArray, List.set_cons_zero, List.set_cons_succ]
      refine skip_at (i := 11) rfl (by kernel_rfl) (fun _ _ _ h => h) (by rfl) hHeld ?_
      simp only [Act.put, List.setIfInBounds_toArray, List.set_cons_zero, List.set_cons_succ]
      refine run_at (i := 12) (v := ?_) rfl (by kernel_rfl) (by rfl) (fun _ _ _ h => h) hHeld (fun w1 hw1 => ?_) ?_
      rotate_left 1
      · skip
        go_simp
        (try (first | with_reducible rfl | (apply And.intro <;> rfl)))
      simp only [Act.put, List.setIfInBounds_toArray, List.set_cons_zero, List.set_cons_succ]
      refine run_at (i := 16) (v := ?_) rfl (by kernel_rfl) (by rfl) (fun _ _ _ h => h) hHeld (fun w1 hw1 => ?_) ?_
      rotate_left 1
      · skip
        go_simp
        (try (first | with_reducible rfl | (apply And.intro <;> rfl)))
      simp only [Act.put, List.setIfInBounds_toArray, List.set_cons_zero, List.set_cons_succ]
      refine run_at (i := 17) (v := ?_) rfl (by kernel_rfl) (by rfl) (fun _ _ _ h => h) hHeld (fun w1 hw1 => ?_) ?_
      rotate_left 1
      · skip
        go_simp
        (try (first | with_reducible rfl | (apply And.intro <;> rfl)))
      simp only [Act.put, List.setIfInBounds_toArray, List.set_cons_zero, List.set_cons_succ]
      refine run_at (i := 18) (v := ?_) rfl (by kernel_rfl) (by rfl) (fun _ _ _ h => h) hHeld (fun w1 hw1 => ?_) ?_
      rotate_left 1
      · skip
        go_simp
        (try (first | with_reducible rfl | (apply And.intro <;> rfl)))
      simp only [Act.put, List.setIfInBounds_toArray, List.set_cons_zero, List.set_cons_succ]
      refine row_at (i := 19) rfl (by kernel_rfl) (by rfl) _ _ rfl _ _ rfl _ (fun w1 hw1 => HRA.out w1 hw1) ⟨by kernel_rfl, HIX.out⟩ (fun _ _ _ h => h) hHeld ?_
      simp only [Act.put, List.setIfInBounds_toArray, List.set_cons_zero, List.set_cons_succ]
      refine row_at (i := 20) rfl (by kernel_rfl) (by rfl) _ _ rfl _ _ rfl _ (fun w1 hw1 => HRB.out w1 hw1) ⟨by kernel_rfl, HIY.out⟩ (fun _ _ _ h => h) hHeld ?_
      simp only [Act.put, List.setIfInBounds_toArray, List.set_cons_zero, List.set_cons_succ]
      refine call_at (i := 21) (f := ?_) (args := ?_) rfl (by kernel_rfl) (by rfl) ?_ ?_
      rotate_left 2
      · go_simp
        (try (first | with_reducible rfl | (apply And.intro <;> rfl)))
      refine (HLab.out _).mono ?_
      rintro e wq ⟨rfl, hfq⟩
      refine ⟨_, rfl, hHeld.and hfq (by simp), fun hHeld => ?_⟩
      clear hfq
      simp only [Act.put, List.setIfInBounds_toArray, List.set_cons_zero, List.set_cons_succ]
      refine run_at (i := 22) (v := ?_) rfl (by kernel_rfl) (by rfl) (fun _ _ _ h => h) hHeld (fun w1 hw1 => ?_) ?_
      rotate_left 1
      · skip
        go_simp
        (try (first | with_reducible rfl | (apply And.intro <;> rfl)))
      simp only [Act.put, List.setIfInBounds_toArray, List.set_cons_zero, List.set_cons_succ]
      refine row_at (i := 23) rfl (by kernel_rfl) (by rfl) _ _ rfl _ _ rfl _ (fun w1 hw1 => HRB.out w1 hw1) ⟨by kernel_rfl, HIY.out⟩ (fun _ _ _ h => h) hHeld ?_
      simp only [Act.put, List.setIfInBounds_toArray, List.set_cons_zero, List.set_cons_succ]
      refine row_at (i := 24) rfl (by kernel_rfl) (by rfl) _ _ rfl _ _ rfl _ (fun w1 hw1 => HRA.out w1 hw1) ⟨by kernel_rfl, HIX.out⟩ (fun _ _ _ h => h) hHeld ?_
      simp only [Act.put, List.setIfInBounds_toArray, List.set_cons_zero, List.set_cons_succ]
      refine call_at (i := 25) (f := ?_) (args := ?_) rfl (by kernel_rfl) (by rfl) ?_ ?_
      rotate_left 2
      · go_simp
        (try (first | with_reducible rfl | (apply And.intro <;> rfl)))
      refine (HLba.out _).mono ?_
      rintro e wq ⟨rfl, hfq⟩
      refine ⟨_, rfl, hHeld.and hfq (by simp), fun hHeld => ?_⟩
      clear hfq
      simp only [Act.put, List.setIfInBounds_toArray, List.set_cons_zero, List.set_cons_succ]
      refine run_at (i := 26) (v := ?_) rfl (by kernel_rfl) (by rfl) (fun _ _ _ h => h) hHeld (fun w1 hw1 => ?_) ?_
      rotate_left 1
      · skip
        go_simp
        (try (first | with_reducible rfl | (apply And.intro <;> rfl)))
      simp only [Act.put, List.setIfInBounds_toArray, List.set_cons_zero, List.set_cons_succ]
      refine run_at (i := 27) (v := ?_) rfl (by kernel_rfl) (by rfl) (fun _ _ _ h => h) hHeld (fun w1 hw1 => ?_) ?_
      rotate_left 1
      · skip
        go_simp
        (try (first | with_reducible rfl | (apply And.intro <;> rfl)))
      simp only [Act.put, List.setIfInBounds_toArray, List.set_cons_zero, List.set_cons_succ]
      refine run_at (i := 28) (v := ?_) rfl (by kernel_rfl) (by rfl) (fun _ _ _ h => h) hHeld (fun w1 hw1 => ?_) ?_
      rotate_left 1
      · skip
        go_simp
        (try (first | with_reducible rfl | (apply And.intro <;> rfl)))
      simp only [Act.put, List.setIfInBounds_toArray, List.set_cons_zero, List.set_cons_succ]
      refine run_at (i := 29) (v := ?_) rfl (by kernel_rfl) (by rfl) (fun _ _ _ h => h) hHeld (fun w1 hw1 => ?_) ?_
      rotate_left 1
      · skip
        go_simp
        (try (first | with_reducible rfl | (apply And.intro <;> rfl)))
      simp only [Act.put, List.setIfInBounds_toArray, List.set_cons_zero, List.set_cons_succ]
      refine call_at (i := 30) (f := ?_) (args := ?_) rfl (by kernel_rfl) (by rfl) ?_ ?_
      rotate_left 2
      · go_simp
        (try (first | with_reducible rfl | (apply And.intro <;> rfl)))
      refine (shawakes_any _ (HK.out.keep (HFW.out.and (HFY.out.and hHeld (by simp)) (by simp)) (by simp))).mono ?_
      rintro e wq ⟨rfl, hfq⟩
      refine ⟨_, rfl, hHeld.and hfq (by simp), fun hHeld => ?_⟩
      clear hfq
      simp only [Act.put, List.setIfInBounds_toArray, List.set_cons_zero, List.set_cons_succ]
      refine run_at (i := 31) (v := ?_) rfl (by kernel_rfl) (by rfl) (fun _ _ _ h => h) hHeld (fun w1 hw1 => ?_) ?_
      rotate_left 1
      · skip
        go_simp
        (try (first | with_reducible rfl | (apply And.intro <;> rfl)))
      simp only [Act.put, List.setIfInBounds_toArray, List.set_cons_zero, List.set_cons_succ]
      refine run_at (i := 32) (v := ?_) rfl (by kernel_rfl) (by rfl) (fun _ _ _ h => h) hHeld (fun w1 hw1 => ?_) ?_
      rotate_left 1
      · skip
        go_simp
        (try (first | with_reducible rfl | (apply And.intro <;> rfl)))
      simp only [Act.put, List.setIfInBounds_toArray, List.set_cons_zero, List.set_cons_succ]
      refine wpAnyH_done (by kernel_rfl) ?_ _
      go_wp2
      go_ret
      exact ⟨rfl, HFW.out.and (HFY.out.and hHeld (by simp)) (by simp)⟩
    · cases h1
  · skip
    go_upto_region 3 with (first
        | (refine wpList_load_hash rfl _ rfl (w.heap.size) rfl X (HRA.out _ HFX) HIX.out ?_)
        | (refine wpList_load_hash rfl _ rfl (w.heap.size) rfl X (HRA.out _ HFY) HIX.out ?_)
        | (refine wpList_load_hash rfl _ rfl (w.heap.size) rfl X (HRA.out _ HFZ) HIX.out ?_)
        | (refine wpList_load_hash rfl _ rfl (w.heap.size) rfl X (HRA.out _ HF0) HIX.out ?_)
        | (refine wpList_load_hash rfl _ rfl (w.heap.size + 1) rfl Y (HRB.out _ HFX) HIY.out ?_)
        | (refine wpList_load_hash rfl _ rfl (w.heap.size + 1) rfl Y (HRB.out _ HFY) HIY.out ?_)
        | (refine wpList_load_hash rfl _ rfl (w.heap.size + 1) rfl Y (HRB.out _ HFZ) HIY.out ?_)
        | (refine wpList_load_hash rfl _ rfl (w.heap.size + 1) rfl Y (HRB.out _ HF0) HIY.out ?_)
        | (refine wpList_load_hash rfl _ rfl (w.heap.size + 1 + 1) rfl Z (HRC.out _ HFX) HIZ.out ?_)
        | (refine wpList_load_hash rfl _ rfl (w.heap.size + 1 + 1) rfl Z (HRC.out _ HFY) HIZ.out ?_)
        | (refine wpList_load_hash rfl _ rfl (w.heap.size + 1 + 1) rfl Z (HRC.out _ HFZ) HIZ.out ?_)
        | (refine wpList_load_hash rfl _ rfl (w.heap.size + 1 + 1) rfl Z (HRC.out _ HF0) HIZ.out ?_)
        | (go_at_call 20; ((with_reducible refine (HLab.out _).mono ?_); rintro e wz ⟨rfl, hf1⟩; have HFZ : Hid (Fr [] wb wz) := Lib.hid (HF0.out.and hf1 (by simp)); clear hf1))
        | (go_at_call 20; ((with_reducible refine (HLbc.out _).mono ?_); rintro e wy ⟨rfl, hf1⟩; have HFY : Hid (Fr [] wb wy) := Lib.hid (HFZ.out.and hf1 (by simp)); clear hf1))
        | (go_at_call 20; ((with_reducible refine (HLac.out _).mono ?_); rintro e wx ⟨rfl, hf1⟩; have HFX : Hid (Fr [] wb wx) := Lib.hid (HFY.out.and hf1 (by simp)); clear hf1)))
    have HRA := Lib.hid (fun w1 (h : Fr [] wx w1) => HRA.out w1 (Lib.hid (HFX.out.and h (by simp))))
    have HRB := Lib.hid (fun w1 (h : Fr [] wx w1) => HRB.out w1 (Lib.hid (HFX.out.and h (by simp))))
    have heq : ∀ W : World, _ := HEQ.out
    rcases HP.out with ⟨hd, h1, h4⟩ | ⟨hd, h1, h4⟩ | ⟨hd, h1, h4⟩
    · cases h1
    · subst h4
      rw [hd] at heq
      clear HP h1 hd
      refine wp_region_held_drew (S := Fr [] wx) (by kernel_rfl) (Fr.drew (Fr.refl _ wx)) (fun hHeld => ?_)
      refine row_at (i := 0) rfl (by kernel_rfl) (by rfl) _ _ rfl _ _ rfl _ (fun w1 hw1 => HRA.out w1 hw1) ⟨by kernel_rfl, HIX.out⟩ (fun _ _ _ h => h) hHeld ?_
      simp only [Act.put, List.setIfInBounds_toArray, List.set_cons_zero, List.set_cons_succ]
      refine row_at (i := 1) rfl (by kernel_rfl) (by rfl) _ _ rfl _ _ rfl _ (fun w1 hw1 => HRA.out w1 hw1) ⟨by kernel_rfl, HIX.out⟩ (fun _ _ _ h => h) hHeld ?_
      simp only [Act.put, List.setIfInBounds_toArray, List.set_cons_zero, List.set_cons_succ]
      refine call_at (i := 2) (f := ?_) (args := ?_) rfl (by kernel_rfl) (by rfl) ?_ ?_
      rotate_left 2
      · go_simp
        (try (first | with_reducible rfl | (apply And.intro <;> rfl)))
      refine (HLaa.out _).mono ?_
      rintro e wq ⟨rfl, hfq⟩
      refine ⟨_, rfl, hHeld.and hfq (by simp), fun hHeld => ?_⟩
      clear hfq
      simp only [Act.put, List.setIfInBounds_toArray, List.set_cons_zero, List.set_cons_succ]
      refine run_at (i := 3) (v := ?_) rfl (by kernel_rfl) (by rfl) (fun _ _ _ h => h) hHeld (fun w1 hw1 => ?_) ?_
      rotate_left 1
      · skip
        go_simp
        (try (first | with_reducible rfl | (apply And.intro <;> rfl)))
      simp only [Act.put, List.setIfInBounds_toArray, List.set_cons_zero, List.set_cons_succ]
      refine run_at (i := 4) (v := ?_) rfl (by kernel_rfl) (by rfl) (fun _ _ _ h => h) hHeld (fun w1 hw1 => ?_) ?_
      rotate_left 1
      · skip
        go_simp
        (try (first | with_reducible rfl | (apply And.intro <;> rfl)))
      simp only [Act.put, List.setIfInBounds_toArray, List.set_cons_zero, List.set_cons_succ]
      refine row_at (i := 5) rfl (by kernel_rfl) (by rfl) _ _ rfl _ _ rfl _ (fun w1 hw1 => HRA.out w1 hw1) ⟨by kernel_rfl, HIX.out⟩ (fun _ _ _ h => h) hHeld ?_
      simp only [Act.put, List.setIfInBounds_toArray, List.set_cons_zero, List.set_cons_succ]
      refine row_at (i := 6) rfl (by kernel_rfl) (by rfl) _ _ rfl _ _ rfl _ (fun w1 hw1 => HRB.out w1 hw1) ⟨by kernel_rfl, HIY.out⟩ (fun _ _ _ h => h) hHeld ?_
      simp only [Act.put, List.setIfInBounds_toArray, List.set_cons_zero, List.set_cons_succ]
      refine row_at (i := 13) rfl (by kernel_rfl) (by rfl) _ _ rfl _ _ rfl _ (fun w1 hw1 => HRA.out w1 hw1) ⟨by kernel_rfl, HIX.out⟩ (fun _ _ _ h => h) hHeld ?_
      simp only [Act.put, List.setIfInBounds_toArray, List.set_cons_zero, List.set_cons_succ]
      refine row_at (i := 14) rfl (by kernel_rfl) (by rfl) _ _ rfl _ _ rfl _ (fun w1 hw1 => HRB.out w1 hw1) ⟨by kernel_rfl, HIY.out⟩ (fun _ _ _ h => h) hHeld ?_
      simp only [Act.put, List.setIfInBounds_toArray, List.set_cons_zero, List.set_cons_succ]
      refine run_at (i := 15) (v := ?_) rfl (by kernel_rfl) (by rfl) (fun _ _ _ h => h) hHeld (fun w1 hw1 => ?_) ?_
      rotate_left 1
      · skip
        go_simp
        (try (first | with_reducible rfl | (apply And.intro <;> rfl)))
      simp only [Act.put, List.setIfInBounds_toArray, List.set_cons_zero, List.set_cons_succ]
      refine call_at (i := 7) (f := ?_) (args := ?_) rfl (by kernel_rfl) (by rfl) ?_ ?_
      rotate_left 2
      · go_simp
        (try (first | with_reducible rfl | (apply And.intro <;> rfl)))
      refine (HLab.out _).mono ?_
      rintro e wq ⟨rfl, hfq⟩
      refine ⟨_, rfl, hHeld.and hfq (by simp), fun hHeld => ?_⟩
      clear hfq
      simp only [Act.put, List.setIfInBounds_toArray, List.set_cons_zero, List.set_cons_succ]
      refine run_at (i := 8) (v := ?_) rfl (by kernel_rfl) (by rfl) (fun _ _ _ h => h) hHeld (fun w1 hw1 => ?_) ?_
      rotate_left 1
      · skip
        go_simp
        (try (first | with_reducible rfl | (apply And.intro <;> rfl)))
      simp only [Act.put, List.setIfInBounds_toArray, List.set_cons_zero, List.set_cons_succ]
      refine skip_at (i := 9) rfl (by kernel_rfl) (fun _ _ _ h => h) (by rfl) hHeld ?_
      simp only [Act.put, List.setIfInBounds_toArray, List.set_cons_zero, List.set_cons_succ]
      refine skip_at (i := 10) rfl (by kernel_rfl) (fun _ _ _ h => h) (by rfl) hHeld ?_
      simp only [Act.put, List.setIfInBounds_toArray, List.set_cons_zero, List.set_cons_succ]
      refine skip_at (i := 11) rfl (by kernel_rfl) (fun _ _ _ h => h) (by rfl) hHeld ?_
      simp only [Act.put, List.setIfInBounds_toArray, List.set_cons_zero, List.set_cons_succ]
      refine run_at (i := 12) (v := ?_) rfl (by kernel_rfl) (by rfl) (fun _ _ _ h => h) hHeld (fun w1 hw1 => ?_) ?_
      rotate_left 1
      · skip
        go_simp
        (try (first | with_reducible rfl | (apply And.intro <;> rfl)))
      simp only [Act.put, List.setIfInBounds_toArray, List.set_cons_zero, List.set_cons_succ]
      refine run_at (i := 16) (v := ?_) rfl (by kernel_rfl) (by rfl) (fun _ _ _ h => h) hHeld (fun w1 hw1 => ?_) ?_
      rotate_left 1
      · skip
        go_simp
        (try (first | with_reducible rfl | (apply And.intro <;> rfl)))
      simp only [Act.put, List.setIfInBounds_toArray, List.set_cons_zero, List.set_cons_succ]
      refine run_at (i := 17) (v := ?_) rfl (by kernel_rfl) (by rfl) (fun _ _ _ h => h) hHeld (fun w1 hw1 => ?_) ?_
      rotate_left 1
      · skip
        go_simp
        (try (first | with_reducible rfl | (apply And.intro <;> rfl)))
      simp only [Act.put, List.setIfInBounds_toArray, List.set_cons_zero, List.set_cons_succ]
      refine run_at (i := 18) (v := ?_) rfl (by kernel_rfl) (by rfl) (fun _ _ _ h => h) hHeld (fun w1 hw1 => ?_) ?_
      rotate_left 1
      · skip
        go_simp
        (try (first | with_reducible rfl | (apply And.intro <;> rfl)))
      simp only [Act.put, List.setIfInBounds_toArray, List.set_cons_zero, List.set_cons_succ]
      refine row_at (i := 19) rfl (by kernel_rfl) (by rfl) _ _ rfl _ _ rfl _ (fun w1 hw1 => HRA.out w1 hw1) ⟨by kernel_rfl, HIX.out⟩ (fun _ _ _ h => h) hHeld ?_
      simp only [Act.put, List.setIfInBounds_toArray, List.set_cons_zero, List.set_cons_succ]
      refine row_at (i := 20) rfl (by kernel_rfl) (by rfl) _ _ rfl _ _ rfl _ (fun w1 hw1 => HRB.out w1 hw1) ⟨by kernel_rfl, HIY.out⟩ (fun _ _ _ h => h) hHeld ?_
      simp only [Act.put, List.setIfInBounds_toArray, List.set_cons_zero, List.set_cons_succ]
      refine call_at (i := 21) (f := ?_) (args := ?_) rfl (by kernel_rfl) (by rfl) ?_ ?_
      rotate_left 2
      · go_simp
        (try (first | with_reducible rfl | (apply And.intro <;> rfl)))
      refine (HLab.out _).mono ?_
      rintro e wq ⟨rfl, hfq⟩
      refine ⟨_, rfl, hHeld.and hfq (by simp), fun hHeld => ?_⟩
      clear hfq
      simp only [Act.put, List.setIfInBounds_toArray, List.set_cons_zero, List.set_cons_succ]
      refine run_at (i := 22) (v := ?_) rfl (by kernel_rfl) (by rfl) (fun _ _ _ h => h) hHeld (fun w1 hw1 => ?_) ?_
      rotate_left 1
      · skip
        go_simp
        (try (first | with_reducible rfl | (apply And.intro <;> rfl)))
      simp only [Act.put, List.setIfInBounds_toArray, List.set_cons_zero, List.set_cons_succ]
      refine row_at (i := 23) rfl (by kernel_rfl) (by rfl) _ _ rfl _ _ rfl _ (fun w1 hw1 => HRB.out w1 hw1) ⟨by kernel_rfl, HIY.out⟩ (fun _ _ _ h => h) hHeld ?_
      simp only [Act.put, List.setIfInBounds_toArray, List.set_cons_zero, List.set_cons_succ]
      refine row_at (i := 24) rfl (by kernel_rfl) (by rfl) _ _ rfl _ _ rfl _ (fun w1 hw1 => HRA.out w1 hw1) ⟨by kernel_rfl, HIX.out⟩ (fun _ _ _ h => h) hHeld ?_
      simp only [Act.put, List.setIfInBounds_toArray, List.set_cons_zero, List.set_cons_succ]
      refine call_at (i := 25) (f := ?_) (args := ?_) rfl (by kernel_rfl) (by rfl) ?_ ?_
      rotate_left 2
      · go_simp
        (try (first | with_reducible rfl | (apply And.intro <;> rfl)))
      refine (HLba.out _).mono ?_
      rintro e wq ⟨rfl, hfq⟩
      refine ⟨_, rfl, hHeld.and hfq (by simp), fun hHeld => ?_⟩
      clear hfq
      simp only [Act.put, List.setIfInBounds_toArray, List.set_cons_zero, List.set_cons_succ]
      refine run_at (i := 26) (v := ?_) rfl (by kernel_rfl) (by rfl) (fun _ _ _ h => h) hHeld (fun w1 hw1 => ?_) ?_
      rotate_left 1
      · skip
        go_simp
        (try (first | with_reducible rfl | (apply And.intro <;> rfl)))
      simp only [Act.put, List.setIfInBounds_toArray, List.set_cons_zero, List.set_cons_succ]
      refine run_at (i := 27) (v := ?_) rfl (by kernel_rfl) (by rfl) (fun _ _ _ h => h) hHeld (fun w1 hw1 => ?_) ?_
      rotate_left 1
      · skip
        go_simp
        (try (first | with_reducible rfl | (apply And.intro <;> rfl)))
      simp only [Act.put, List.setIfInBounds_toArray, List.set_cons_zero, List.set_cons_succ]
      refine run_at (i := 28) (v := ?_) rfl (by kernel_rfl) (by rfl) (fun _ _ _ h => h) hHeld (fun w1 hw1 => ?_) ?_
      rotate_left 1
      · skip
        go_simp
        (try (first | with_reducible rfl | (apply And.intro <;> rfl)))
      simp only [Act.put, List.setIfInBounds_toArray, List.set_cons_zero, List.set_cons_succ]
      refine run_at (i := 29) (v := ?_) rfl (by kernel_rfl) (by rfl) (fun _ _ _ h => h) hHeld (fun w1 hw1 => ?_) ?_
      rotate_left 1
      · skip
        go_simp
        (try (first | with_reducible rfl | (apply And.intro <;> rfl)))
      simp only [Act.put, List.setIfInBounds_toArray, List.set_cons_zero, List.set_cons_succ]
      refine call_at (i := 30) (f := ?_) (args := ?_) rfl (by kernel_rfl) (by rfl) ?_ ?_
      rotate_left 2
      · go_simp
        (try (first | with_reducible rfl | (apply And.intro <;> rfl)))
      refine (shawakes_any _ (HK.out.keep (HFW.out.and (HFX.out.and hHeld (by simp)) (by simp)) (by simp))).mono ?_
      rintro e wq ⟨rfl, hfq⟩
      refine ⟨_, rfl, hHeld.and hfq (by simp), fun hHeld => ?_⟩
      clear hfq
      simp only [Act.put, List.setIfInBounds_toArray, List.set_cons_zero, List.set_cons_succ]
      refine run_at (i := 31) (v := ?_) rfl (by kernel_rfl) (by rfl) (fun _ _ _ h => h) hHeld (fun w1 hw1 => ?_) ?_
      rotate_left 1
      · skip
        go_simp
        (try (first | with_reducible rfl | (apply And.intro <;> rfl)))
      simp only [Act.put, List.setIfInBounds_toArray, List.set_cons_zero, List.set_cons_succ]
      refine run_at (i := 32) (v := ?_) rfl (by kernel_rfl) (by rfl) (fun _ _ _ h => h) hHeld (fun w1 hw1 => ?_) ?_
      rotate_left 1
      · skip
        go_simp
        (try (first | with_reducible rfl | (apply And.intro <;> rfl)))
      simp only [Act.put, List.setIfInBounds_toArray, List.set_cons_zero, List.set_cons_succ]
      refine wpAnyH_done (by kernel_rfl) ?_ _
      go_wp2
      go_ret
      exact ⟨rfl, HFW.out.and (HFX.out.and hHeld (by simp)) (by simp)⟩
    · cases h1
end Go.Proofs.YtbajkdlemgnmkaaDoor
