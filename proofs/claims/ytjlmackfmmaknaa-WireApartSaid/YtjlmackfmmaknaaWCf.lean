/- The walk of WireConfs. -/
import Derived.Test.YtjlmackfmmaknaaHelp
import Derived.Test.YtjlmackfmmaknaaReg2
import Derived.Deep.CutBlock
namespace Go.Proofs.Ytjlmackfmmaknaa
open Go.RowKit
set_option maxRecDepth 100000

theorem wireN_any (f k : Int) (hf : -1000 ≤ f ∧ f ≤ 1000) (w : World) : Calls Try.prog 20 #[.agg #[.int .i64 f, .int .i64 k]] w fun e w' => e = .returned (.int .i64 (3 * f + 1)) ∧ Fr [] w w' := by
  go_enter Try.func20, Try.ntmps20
  go_wp2
  go_ret
  exact ⟨rfl, (Fr.refl [] w).alloc _⟩
theorem wireQ_any (f k : Int) (hf : -1000 ≤ f ∧ f ≤ 1000) (w : World) : Calls Try.prog 21 #[.agg #[.int .i64 f, .int .i64 k]] w fun e w' => e = .returned (.int .i64 (2 * f + 1)) ∧ Fr [] w w' := by
  go_enter Try.func21, Try.ntmps21
  go_wp2
  go_ret
  exact ⟨rfl, (Fr.refl [] w).alloc _⟩
def confB (f k : Int) : Bool := decide (1 ≤ f ∧ f ≤ 21 ∧ 1 ≤ k ∧ k ≤ 100)
theorem validConf_any (f k : Int) (w : World) : Calls Try.prog 19 #[.agg #[.int .i64 f, .int .i64 k]] w fun e w' => e = .returned (.bool (confB f k)) ∧ Fr [] w w' := by
  by_cases h1 : 1 ≤ f
  case neg =>
    have hr : Hid (confB f k = false) := Lib.hid (by simp [confB]; omega)
    go_enter Try.func19, Try.ntmps19
    go_wp2
    go_ret
    exact ⟨by rw [hr.out]; rfl, (Fr.refl [] w).alloc _⟩
  by_cases h2 : f ≤ 21
  case neg =>
    have hr : Hid (confB f k = false) := Lib.hid (by simp [confB]; omega)
    go_enter Try.func19, Try.ntmps19
    go_wp2
    go_ret
    exact ⟨by rw [hr.out]; rfl, (Fr.refl [] w).alloc _⟩
  by_cases h3 : 1 ≤ k
  case neg =>
    have hr : Hid (confB f k = false) := Lib.hid (by simp [confB]; omega)
    go_enter Try.func19, Try.ntmps19
    go_wp2
    go_ret
    exact ⟨by rw [hr.out]; rfl, (Fr.refl [] w).alloc _⟩
  by_cases h4 : k ≤ 100
  case neg =>
    have hr : Hid (confB f k = false) := Lib.hid (by simp [confB]; omega)
    go_enter Try.func19, Try.ntmps19
    go_wp2
    go_ret
    exact ⟨by rw [hr.out]; rfl, (Fr.refl [] w).alloc _⟩
  have hr : Hid (confB f k = true) := Lib.hid (by simp [confB]; omega)
  go_enter Try.func19, Try.ntmps19
  go_wp2
  go_ret
  exact ⟨by rw [hr.out]; rfl, (Fr.refl [] w).alloc _⟩
theorem wwakes_any (w : World) : Calls Try.prog 22 #[] w fun e w' => e = .returned (.bool true) ∧ Fr [] w w' := by
  go_enter Try.func22, Try.ntmps22
  go_wp2_with fail
  refine (wireN_any 1 0 (by omega) w).mono ?_
  rintro e w1 ⟨rfl, hf1⟩
  have HF1 := Lib.hid hf1
  clear hf1
  go_wp2_with fail
  refine (wireQ_any 1 0 (by omega) w1).mono ?_
  rintro e w2 ⟨rfl, hf2⟩
  have HF2 := Lib.hid (HF1.out.and hf2 (by simp))
  clear hf2
  go_wp2
  go_ret
  exact ⟨rfl, HF2.out⟩
theorem row_cf : RowTy Try.prog 47 2 := ⟨by kernel_rfl, by kernel_rfl⟩
set_option maxHeartbeats 4000000 in
theorem wireConfs_walk (w : World) (f : Int) (hf1 : -9223372036854775808 ≤ f) (hf2 : f < 9223372036854775808) (k : Int) (hk1 : -9223372036854775808 ≤ k) (hk2 : k < 9223372036854775808) :
    Calls Try.prog 5 #[.int .i64 f, .int .i64 k] w fun e w' => e = .returned (.bool true) ∧ Fr [] w w' := by
  have HFB := Lib.hid (And.intro hf1 hf2)
  have HKB := Lib.hid (And.intro hk1 hk2)
  clear hf1 hf2 hk1 hk2
  go_enter Try.func5, Try.ntmps5
  go_wp2_with fail
  refine (within_pos f 25 HFB.out.1 HFB.out.2 (by omega) (by omega) _).mono ?_
  rintro e w2 ⟨rfl, rfl⟩
  have hf0 : 0 ≤ f % 25 := Int.emod_nonneg _ (by omega)
  have hf1 : f % 25 < 25 := Int.emod_lt_of_pos _ (by omega)
  generalize f % 25 = f25 at *
  go_wp2_with fail
  refine (within_pos k 104 HKB.out.1 HKB.out.2 (by omega) (by omega) _).mono ?_
  rintro e w2 ⟨rfl, rfl⟩
  have hk0 : 0 ≤ k % 104 := Int.emod_nonneg _ (by omega)
  have hk1 : k % 104 < 104 := Int.emod_lt_of_pos _ (by omega)
  generalize k % 104 = k104 at *
  go_upto_region 2 with (fail)
  obtain ⟨f1, hf1e⟩ : ∃ f1, f1 = f25 - 1 := ⟨_, rfl⟩
  obtain ⟨k1, hk1e⟩ : ∃ k1, k1 = k104 - 1 := ⟨_, rfl⟩
  have hfb : -1 ≤ f1 ∧ f1 ≤ 23 := by omega
  have hkb : -1 ≤ k1 ∧ k1 ≤ 102 := by omega
  (try rw [← hf1e])
  (try rw [← hk1e])
  clear hf0 hf1 hk0 hk1 hf1e hk1e
  have HFC : Hid (Fr [] w (w.alloc (Obj.cells #[.int .i64 f1, .int .i64 k1] 47))) := Lib.hid ((Fr.refl [] w).alloc _)
  have HBC : Hid (Blk (w.alloc (Obj.cells #[.int .i64 f1, .int .i64 k1] 47)) w.heap.size 47 #[.int .i64 f1, .int .i64 k1]) := Lib.hid (Blk.new _ _ _)
  generalize w.alloc (Obj.cells #[.int .i64 f1, .int .i64 k1] 47) = wc at *
  generalize w.heap.size = gc at *
  have hc0 := HBC.out.cell 0
  have hc1 := HBC.out.cell 1
  simp only [List.getElem?_toArray, List.getElem?_cons_zero, List.getElem?_cons_succ] at hc0 hc1
  by_cases h2068 : 1 ≤ f1
  case neg =>
    have HR : Hid (confB f1 k1 = false) := Lib.hid (by simp [confB]; omega)
    go_wp2_with fail
    refine (validConf_any f1 k1 _).mono ?_
    rw [HR.out]
    rintro e w3 ⟨rfl, hf3⟩
    have HF3 := Lib.hid (HFC.out.and hf3 (by simp))
    have HR3 := Lib.hid (HBC.out.keep hf3 (by simp)).range
    have hc3 := (HBC.out.keep hf3 (by simp)).cell 0
    simp only [List.getElem?_toArray, List.getElem?_cons_zero] at hc3
    clear hf3 HR
    go_upto_region 5 with (fail)
    refine wp_region_held_drew (S := Fr [] w3) (by kernel_rfl) (Fr.drew (Fr.refl _ w3)) (fun hHeld => ?_)
    refine row_at (i := 0) rfl (by kernel_rfl) (by rfl) _ _ rfl _ _ rfl _ (fun w1 hw1 => hw1.range (HR3.out) (by first | (simp; done) | exact HNS.out | exact HNW.out | (intro hm; have hlt := HSB.out _ hm; (try dsimp only at hlt); omega))) (row_cf) (fun _ _ _ h => h) hHeld ?_
    simp only [Act.put, List.setIfInBounds_toArray, List.set_cons_zero, List.set_cons_succ]
    refine row_at (i := 2) rfl (by kernel_rfl) (by rfl) _ _ rfl _ _ rfl _ (fun w1 hw1 => hw1.range (HR3.out) (by first | (simp; done) | exact HNS.out | exact HNW.out | (intro hm; have hlt := HSB.out _ hm; (try dsimp only at hlt); omega))) (row_cf) (fun _ _ _ h => h) hHeld ?_
    simp only [Act.put, List.setIfInBounds_toArray, List.set_cons_zero, List.set_cons_succ]
    refine call_at (i := 1) (f := ?_) (args := ?_) rfl (by kernel_rfl) (by rfl) ?_ ?_
    rotate_left 2
    · go_simp
      (try (first | with_reducible rfl | (apply And.intro <;> rfl)))
    refine (wireN_any f1 k1 (by omega) _).mono ?_
    rintro e w4 ⟨rfl, hf4⟩
    refine ⟨_, rfl, hHeld.and hf4 (by simp), fun hHeld => ?_⟩
    clear hf4
    simp only [Act.put, List.setIfInBounds_toArray, List.set_cons_zero, List.set_cons_succ]
    refine call_at (i := 3) (f := ?_) (args := ?_) rfl (by kernel_rfl) (by rfl) ?_ ?_
    rotate_left 2
    · go_simp
      (try (first | with_reducible rfl | (apply And.intro <;> rfl)))
    refine (wireQ_any f1 k1 (by omega) _).mono ?_
    rintro e w5 ⟨rfl, hf5⟩
    refine ⟨_, rfl, hHeld.and hf5 (by simp), fun hHeld => ?_⟩
    clear hf5
    simp only [Act.put, List.setIfInBounds_toArray, List.set_cons_zero, List.set_cons_succ]
    refine run_at (i := 4) (v := ?_) rfl (by kernel_rfl) (by rfl) (fun _ _ _ h => h) hHeld (fun w1 hw1 => ?_) ?_
    rotate_left 1
    · skip
      go_simp
      (try (first | with_reducible rfl | (apply And.intro <;> rfl)))
    simp only [Act.put, List.setIfInBounds_toArray, List.set_cons_zero, List.set_cons_succ]
    refine run_at (i := 5) (v := ?_) rfl (by kernel_rfl) (by rfl) (fun _ _ _ h => h) hHeld (fun w1 hw1 => ?_) ?_
    rotate_left 1
    · skip
      go_simp
      (try (first | with_reducible rfl | (apply And.intro <;> rfl)))
    simp only [Act.put, List.setIfInBounds_toArray, List.set_cons_zero, List.set_cons_succ]
    refine wpAnyH_done (by kernel_rfl) ?_ _
    have hc5 := hHeld.cell hc3 (by simp)
    have HF5 := Lib.hid (HF3.out.and hHeld (by simp))
    clear hc3 hHeld HR3
    go_wp2_with fail
    refine (wwakes_any _).mono ?_
    rintro e w6 ⟨rfl, hf6⟩
    have HF6 := Lib.hid (HF5.out.and hf6 (by simp))
    clear hf6
    go_wp2
    go_ret
    exact ⟨rfl, HF6.out⟩
  by_cases h3434 : f1 ≤ 21
  case neg =>
    have HR : Hid (confB f1 k1 = false) := Lib.hid (by simp [confB]; omega)
    go_wp2_with fail
    refine (validConf_any f1 k1 _).mono ?_
    rw [HR.out]
    rintro e w3 ⟨rfl, hf3⟩
    have HF3 := Lib.hid (HFC.out.and hf3 (by simp))
    have HR3 := Lib.hid (HBC.out.keep hf3 (by simp)).range
    have hc3 := (HBC.out.keep hf3 (by simp)).cell 0
    simp only [List.getElem?_toArray, List.getElem?_cons_zero] at hc3
    clear hf3 HR
    go_upto_region 5 with (fail)
    refine wp_region_held_drew (S := Fr [] w3) (by kernel_rfl) (Fr.drew (Fr.refl _ w3)) (fun hHeld => ?_)
    refine row_at (i := 0) rfl (by kernel_rfl) (by rfl) _ _ rfl _ _ rfl _ (fun w1 hw1 => hw1.range (HR3.out) (by first | (simp; done) | exact HNS.out | exact HNW.out | (intro hm; have hlt := HSB.out _ hm; (try dsimp only at hlt); omega))) (row_cf) (fun _ _ _ h => h) hHeld ?_
    simp only [Act.put, List.setIfInBounds_toArray, List.set_cons_zero, List.set_cons_succ]
    refine row_at (i := 2) rfl (by kernel_rfl) (by rfl) _ _ rfl _ _ rfl _ (fun w1 hw1 => hw1.range (HR3.out) (by first | (simp; done) | exact HNS.out | exact HNW.out | (intro hm; have hlt := HSB.out _ hm; (try dsimp only at hlt); omega))) (row_cf) (fun _ _ _ h => h) hHeld ?_
    simp only [Act.put, List.setIfInBounds_toArray, List.set_cons_zero, List.set_cons_succ]
    refine call_at (i := 1) (f := ?_) (args := ?_) rfl (by kernel_rfl) (by rfl) ?_ ?_
    rotate_left 2
    · go_simp
      (try (first | with_reducible rfl | (apply And.intro <;> rfl)))
    refine (wireN_any f1 k1 (by omega) _).mono ?_
    rintro e w4 ⟨rfl, hf4⟩
    refine ⟨_, rfl, hHeld.and hf4 (by simp), fun hHeld => ?_⟩
    clear hf4
    simp only [Act.put, List.setIfInBounds_toArray, List.set_cons_zero, List.set_cons_succ]
    refine call_at (i := 3) (f := ?_) (args := ?_) rfl (by kernel_rfl) (by rfl) ?_ ?_
    rotate_left 2
    · go_simp
      (try (first | with_reducible rfl | (apply And.intro <;> rfl)))
    refine (wireQ_any f1 k1 (by omega) _).mono ?_
    rintro e w5 ⟨rfl, hf5⟩
    refine ⟨_, rfl, hHeld.and hf5 (by simp), fun hHeld => ?_⟩
    clear hf5
    simp only [Act.put, List.setIfInBounds_toArray, List.set_cons_zero, List.set_cons_succ]
    refine run_at (i := 4) (v := ?_) rfl (by kernel_rfl) (by rfl) (fun _ _ _ h => h) hHeld (fun w1 hw1 => ?_) ?_
    rotate_left 1
    · skip
      go_simp
      (try (first | with_reducible rfl | (apply And.intro <;> rfl)))
    simp only [Act.put, List.setIfInBounds_toArray, List.set_cons_zero, List.set_cons_succ]
    refine run_at (i := 5) (v := ?_) rfl (by kernel_rfl) (by rfl) (fun _ _ _ h => h) hHeld (fun w1 hw1 => ?_) ?_
    rotate_left 1
    · skip
      go_simp
      (try (first | with_reducible rfl | (apply And.intro <;> rfl)))
    simp only [Act.put, List.setIfInBounds_toArray, List.set_cons_zero, List.set_cons_succ]
    refine wpAnyH_done (by kernel_rfl) ?_ _
    have hc5 := hHeld.cell hc3 (by simp)
    have HF5 := Lib.hid (HF3.out.and hHeld (by simp))
    clear hc3 hHeld HR3
    go_wp2_with fail
    refine (wwakes_any _).mono ?_
    rintro e w6 ⟨rfl, hf6⟩
    have HF6 := Lib.hid (HF5.out.and hf6 (by simp))
    clear hf6
    go_wp2
    go_ret
    exact ⟨rfl, HF6.out⟩
  by_cases h4801 : 1 ≤ k1
  case neg =>
    have HR : Hid (confB f1 k1 = false) := Lib.hid (by simp [confB]; omega)
    go_wp2_with fail
    refine (validConf_any f1 k1 _).mono ?_
    rw [HR.out]
    rintro e w3 ⟨rfl, hf3⟩
    have HF3 := Lib.hid (HFC.out.and hf3 (by simp))
    have HR3 := Lib.hid (HBC.out.keep hf3 (by simp)).range
    have hc3 := (HBC.out.keep hf3 (by simp)).cell 0
    simp only [List.getElem?_toArray, List.getElem?_cons_zero] at hc3
    clear hf3 HR
    go_upto_region 5 with (fail)
    refine wp_region_held_drew (S := Fr [] w3) (by kernel_rfl) (Fr.drew (Fr.refl _ w3)) (fun hHeld => ?_)
    refine row_at (i := 0) rfl (by kernel_rfl) (by rfl) _ _ rfl _ _ rfl _ (fun w1 hw1 => hw1.range (HR3.out) (by first | (simp; done) | exact HNS.out | exact HNW.out | (intro hm; have hlt := HSB.out _ hm; (try dsimp only at hlt); omega))) (row_cf) (fun _ _ _ h => h) hHeld ?_
    simp only [Act.put, List.setIfInBounds_toArray, List.set_cons_zero, List.set_cons_succ]
    refine row_at (i := 2) rfl (by kernel_rfl) (by rfl) _ _ rfl _ _ rfl _ (fun w1 hw1 => hw1.range (HR3.out) (by first | (simp; done) | exact HNS.out | exact HNW.out | (intro hm; have hlt := HSB.out _ hm; (try dsimp only at hlt); omega))) (row_cf) (fun _ _ _ h => h) hHeld ?_
    simp only [Act.put, List.setIfInBounds_toArray, List.set_cons_zero, List.set_cons_succ]
    refine call_at (i := 1) (f := ?_) (args := ?_) rfl (by kernel_rfl) (by rfl) ?_ ?_
    rotate_left 2
    · go_simp
      (try (first | with_reducible rfl | (apply And.intro <;> rfl)))
    refine (wireN_any f1 k1 (by omega) _).mono ?_
    rintro e w4 ⟨rfl, hf4⟩
    refine ⟨_, rfl, hHeld.and hf4 (by simp), fun hHeld => ?_⟩
    clear hf4
    simp only [Act.put, List.setIfInBounds_toArray, List.set_cons_zero, List.set_cons_succ]
    refine call_at (i := 3) (f := ?_) (args := ?_) rfl (by kernel_rfl) (by rfl) ?_ ?_
    rotate_left 2
    · go_simp
      (try (first | with_reducible rfl | (apply And.intro <;> rfl)))
    refine (wireQ_any f1 k1 (by omega) _).mono ?_
    rintro e w5 ⟨rfl, hf5⟩
    refine ⟨_, rfl, hHeld.and hf5 (by simp), fun hHeld => ?_⟩
    clear hf5
    simp only [Act.put, List.setIfInBounds_toArray, List.set_cons_zero, List.set_cons_succ]
    refine run_at (i := 4) (v := ?_) rfl (by kernel_rfl) (by rfl) (fun _ _ _ h => h) hHeld (fun w1 hw1 => ?_) ?_
    rotate_left 1
    · skip
      go_simp
      (try (first | with_reducible rfl | (apply And.intro <;> rfl)))
    simp only [Act.put, List.setIfInBounds_toArray, List.set_cons_zero, List.set_cons_succ]
    refine run_at (i := 5) (v := ?_) rfl (by kernel_rfl) (by rfl) (fun _ _ _ h => h) hHeld (fun w1 hw1 => ?_) ?_
    rotate_left 1
    · skip
      go_simp
      (try (first | with_reducible rfl | (apply And.intro <;> rfl)))
    simp only [Act.put, List.setIfInBounds_toArray, List.set_cons_zero, List.set_cons_succ]
    refine wpAnyH_done (by kernel_rfl) ?_ _
    have hc5 := hHeld.cell hc3 (by simp)
    have HF5 := Lib.hid (HF3.out.and hHeld (by simp))
    clear hc3 hHeld HR3
    go_wp2_with fail
    refine (wwakes_any _).mono ?_
    rintro e w6 ⟨rfl, hf6⟩
    have HF6 := Lib.hid (HF5.out.and hf6 (by simp))
    clear hf6
    go_wp2
    go_ret
    exact ⟨rfl, HF6.out⟩
  by_cases h6167 : k1 ≤ 100
  case neg =>
    have HR : Hid (confB f1 k1 = false) := Lib.hid (by simp [confB]; omega)
    go_wp2_with fail
    refine (validConf_any f1 k1 _).mono ?_
    rw [HR.out]
    rintro e w3 ⟨rfl, hf3⟩
    have HF3 := Lib.hid (HFC.out.and hf3 (by simp))
    have HR3 := Lib.hid (HBC.out.keep hf3 (by simp)).range
    have hc3 := (HBC.out.keep hf3 (by simp)).cell 0
    simp only [List.getElem?_toArray, List.getElem?_cons_zero] at hc3
    clear hf3 HR
    go_upto_region 5 with (fail)
    refine wp_region_held_drew (S := Fr [] w3) (by kernel_rfl) (Fr.drew (Fr.refl _ w3)) (fun hHeld => ?_)
    refine row_at (i := 0) rfl (by kernel_rfl) (by rfl) _ _ rfl _ _ rfl _ (fun w1 hw1 => hw1.range (HR3.out) (by first | (simp; done) | exact HNS.out | exact HNW.out | (intro hm; have hlt := HSB.out _ hm; (try dsimp only at hlt); omega))) (row_cf) (fun _ _ _ h => h) hHeld ?_
    simp only [Act.put, List.setIfInBounds_toArray, List.set_cons_zero, List.set_cons_succ]
    refine row_at (i := 2) rfl (by kernel_rfl) (by rfl) _ _ rfl _ _ rfl _ (fun w1 hw1 => hw1.range (HR3.out) (by first | (simp; done) | exact HNS.out | exact HNW.out | (intro hm; have hlt := HSB.out _ hm; (try dsimp only at hlt); omega))) (row_cf) (fun _ _ _ h => h) hHeld ?_
    simp only [Act.put, List.setIfInBounds_toArray, List.set_cons_zero, List.set_cons_succ]
    refine call_at (i := 1) (f := ?_) (args := ?_) rfl (by kernel_rfl) (by rfl) ?_ ?_
    rotate_left 2
    · go_simp
      (try (first | with_reducible rfl | (apply And.intro <;> rfl)))
    refine (wireN_any f1 k1 (by omega) _).mono ?_
    rintro e w4 ⟨rfl, hf4⟩
    refine ⟨_, rfl, hHeld.and hf4 (by simp), fun hHeld => ?_⟩
    clear hf4
    simp only [Act.put, List.setIfInBounds_toArray, List.set_cons_zero, List.set_cons_succ]
    refine call_at (i := 3) (f := ?_) (args := ?_) rfl (by kernel_rfl) (by rfl) ?_ ?_
    rotate_left 2
    · go_simp
      (try (first | with_reducible rfl | (apply And.intro <;> rfl)))
    refine (wireQ_any f1 k1 (by omega) _).mono ?_
    rintro e w5 ⟨rfl, hf5⟩
    refine ⟨_, rfl, hHeld.and hf5 (by simp), fun hHeld => ?_⟩
    clear hf5
    simp only [Act.put, List.setIfInBounds_toArray, List.set_cons_zero, List.set_cons_succ]
    refine run_at (i := 4) (v := ?_) rfl (by kernel_rfl) (by rfl) (fun _ _ _ h => h) hHeld (fun w1 hw1 => ?_) ?_
    rotate_left 1
    · skip
      go_simp
      (try (first | with_reducible rfl | (apply And.intro <;> rfl)))
    simp only [Act.put, List.setIfInBounds_toArray, List.set_cons_zero, List.set_cons_succ]
    refine run_at (i := 5) (v := ?_) rfl (by kernel_rfl) (by rfl) (fun _ _ _ h => h) hHeld (fun w1 hw1 => ?_) ?_
    rotate_left 1
    · skip
      go_simp
      (try (first | with_reducible rfl | (apply And.intro <;> rfl)))
    simp only [Act.put, List.setIfInBounds_toArray, List.set_cons_zero, List.set_cons_succ]
    refine wpAnyH_done (by kernel_rfl) ?_ _
    have hc5 := hHeld.cell hc3 (by simp)
    have HF5 := Lib.hid (HF3.out.and hHeld (by simp))
    clear hc3 hHeld HR3
    go_wp2_with fail
    refine (wwakes_any _).mono ?_
    rintro e w6 ⟨rfl, hf6⟩
    have HF6 := Lib.hid (HF5.out.and hf6 (by simp))
    clear hf6
    go_wp2
    go_ret
    exact ⟨rfl, HF6.out⟩

  have HR : Hid (confB f1 k1 = true) := Lib.hid (by simp [confB]; omega)
  go_wp2_with fail
  refine (validConf_any f1 k1 _).mono ?_
  rw [HR.out]
  rintro e w3 ⟨rfl, hf3⟩
  have HF3 := Lib.hid (HFC.out.and hf3 (by simp))
  have HR3 := Lib.hid (HBC.out.keep hf3 (by simp)).range
  have hc3 := (HBC.out.keep hf3 (by simp)).cell 0
  simp only [List.getElem?_toArray, List.getElem?_cons_zero] at hc3
  clear hf3 HR
  go_upto_region 5 with (fail)
  refine wp_region_held_drew (S := Fr [] w3) (by kernel_rfl) (Fr.drew (Fr.refl _ w3)) (fun hHeld => ?_)
  refine row_at (i := 0) rfl (by kernel_rfl) (by rfl) _ _ rfl _ _ rfl _ (fun w1 hw1 => hw1.range (HR3.out) (by first | (simp; done) | exact HNS.out | exact HNW.out | (intro hm; have hlt := HSB.out _ hm; (try dsimp only at hlt); omega))) (row_cf) (fun _ _ _ h => h) hHeld ?_
  simp only [Act.put, List.setIfInBounds_toArray, List.set_cons_zero, List.set_cons_succ]
  refine row_at (i := 2) rfl (by kernel_rfl) (by rfl) _ _ rfl _ _ rfl _ (fun w1 hw1 => hw1.range (HR3.out) (by first | (simp; done) | exact HNS.out | exact HNW.out | (intro hm; have hlt := HSB.out _ hm; (try dsimp only at hlt); omega))) (row_cf) (fun _ _ _ h => h) hHeld ?_
  simp only [Act.put, List.setIfInBounds_toArray, List.set_cons_zero, List.set_cons_succ]
  refine call_at (i := 1) (f := ?_) (args := ?_) rfl (by kernel_rfl) (by rfl) ?_ ?_
  rotate_left 2
  · go_simp
    (try (first | with_reducible rfl | (apply And.intro <;> rfl)))
  refine (wireN_any f1 k1 (by omega) _).mono ?_
  rintro e w4 ⟨rfl, hf4⟩
  refine ⟨_, rfl, hHeld.and hf4 (by simp), fun hHeld => ?_⟩
  clear hf4
  simp only [Act.put, List.setIfInBounds_toArray, List.set_cons_zero, List.set_cons_succ]
  refine call_at (i := 3) (f := ?_) (args := ?_) rfl (by kernel_rfl) (by rfl) ?_ ?_
  rotate_left 2
  · go_simp
    (try (first | with_reducible rfl | (apply And.intro <;> rfl)))
  refine (wireQ_any f1 k1 (by omega) _).mono ?_
  rintro e w5 ⟨rfl, hf5⟩
  refine ⟨_, rfl, hHeld.and hf5 (by simp), fun hHeld => ?_⟩
  clear hf5
  simp only [Act.put, List.setIfInBounds_toArray, List.set_cons_zero, List.set_cons_succ]
  refine run_at (i := 4) (v := ?_) rfl (by kernel_rfl) (by rfl) (fun _ _ _ h => h) hHeld (fun w1 hw1 => ?_) ?_
  rotate_left 1
  · skip
    go_simp
    (try (first | with_reducible rfl | (apply And.intro <;> rfl)))
  simp only [Act.put, List.setIfInBounds_toArray, List.set_cons_zero, List.set_cons_succ]
  refine run_at (i := 5) (v := ?_) rfl (by kernel_rfl) (by rfl) (fun _ _ _ h => h) hHeld (fun w1 hw1 => ?_) ?_
  rotate_left 1
  · skip
    go_simp
    (try (first | with_reducible rfl | (apply And.intro <;> rfl)))
  simp only [Act.put, List.setIfInBounds_toArray, List.set_cons_zero, List.set_cons_succ]
  refine wpAnyH_done (by kernel_rfl) ?_ _
  have hc5 := hHeld.cell hc3 (by simp)
  have HF5 := Lib.hid (HF3.out.and hHeld (by simp))
  clear hc3 hHeld HR3
  go_wp2_with fail
  refine (wwakes_any _).mono ?_
  rintro e w6 ⟨rfl, hf6⟩
  have HF6 := Lib.hid (HF5.out.and hf6 (by simp))
  clear hf6
  go_wp2
  go_ret
  exact ⟨rfl, HF6.out⟩
end Go.Proofs.Ytjlmackfmmaknaa
