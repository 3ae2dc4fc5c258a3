/- Texts that the proof stands on: gavellaw13's Cut: a vote of small numbers. | How many replicas are heard of at most and at least; votes for three hashes alone. No program. -/
import Derived.Test.YtfmkegblhpnfcaaKW1
set_option linter.unusedSimpArgs false
set_option linter.unusedVariables false
set_option maxRecDepth 100000

namespace Go.Proofs.Ytfmkegblhpnfcaa
set_option maxRecDepth 100000
open Go.RowKit
theorem Blk.mid {g : Nat} {t : TypeId} : ∀ (V M P Z : List Value) (w : World), V.length = M.length → Blk w g t (P ++ (M ++ Z)).toArray → Blk (w.setCells g P.length V) g t (P ++ (V ++ Z)).toArray
  | [], M, P, Z, w, h, hb => by
    have : M = [] := List.eq_nil_of_length_eq_zero (by simpa using h.symm)
    subst this
    exact hb
  | v :: V, [], P, Z, w, h, hb => by simp at h
  | v :: V, m :: M, P, Z, w, h, hb => by
    have h1 := hb.set P.length v
    rw [List.setIfInBounds_toArray, List.set_append_right _ _ (Nat.le_refl _), Nat.sub_self] at h1
    have h2 := Blk.mid V M (P ++ [v]) Z (w.setCell ⟨g, P.length, none⟩ v) (by simpa using h) (by simpa using h1)
    have e : (P ++ [v]).length = P.length + 1 := by simp
    rw [e] at h2
    simpa [World.setCells] using h2
theorem Blk.mid_at {g : Nat} {t : TypeId} {w : World} (V M P Z : List Value) (o : Nat) (ho : P.length = o) (h : V.length = M.length) (cs cs' : List Value) (hc : cs = P ++ (M ++ Z)) (hc' : cs' = P ++ (V ++ Z)) (hb : Blk w g t cs.toArray) : Blk (w.setCells g o V) g t cs'.toArray := by
  subst ho
  subst hc
  subst hc'
  exact Blk.mid V M P Z w h hb
theorem Fr.setCells {S : List Nat} {a : World} {g : Nat} (hg : g < a.heap.size → g ∈ S) : ∀ (V : List Value) (o : Nat) (w : World), Fr S a w → Fr S a (w.setCells g o V)
  | [], _, _, h => h
  | v :: V, o, w, h => Fr.setCells hg V (o + 1) _ (h.setCell ⟨g, o, none⟩ hg v)
theorem rem3u (b : UInt8) : ((b.toNat : Nat) : Int).tmod 3 = (((b % 3 : UInt8).toNat : Nat) : Int) := by
  have h : ∀ n : Fin 256, ((n.val : Nat) : Int).tmod 3 = ((n.val % 3 : Nat) : Int) := by decide +kernel
  have h2 := h ⟨b.toNat, b.toNat_lt⟩
  simp only at h2
  rw [h2, UInt8.toNat_mod]
  rfl
/-- a vote as it is counted -/
def cutV (v : V3) : V3 := if v.s = true then ⟨1 + v.k % 2, v.r % 3, v.p % 7, h1b (v.h.headD 0 % 3), v.s⟩ else v
theorem cutV_ok {v : V3} (h : v.Ok) : (cutV v).Ok := by
  unfold cutV
  split
  · exact ⟨⟨by simp only; omega, by simp only; omega⟩, ⟨by simp only; omega, by simp only; omega⟩, ⟨by simp only; omega, by simp only; omega⟩, h1b_len _⟩
  · exact h
def zV3 : V3 := ⟨0, 0, 0, zh32, false⟩
theorem row_v3 : RowTy Try.prog 32 36 := ⟨by kernel_rfl, by kernel_rfl⟩
theorem V3.one (v : V3) : (v.cells.toArray.all (·.oneCell')) = true := all_oneCell_toArray (by
  intro u hu
  simp only [V3.cells, List.mem_cons, List.mem_append, List.not_mem_nil, or_false] at hu
  rcases hu with rfl | rfl | rfl | hu | rfl
  · rfl
  · rfl
  · rfl
  · exact by8_one _ u hu
  · rfl)
theorem v3_size {v : V3} (h : v.Ok) : (Try.prog.info? 32).map (·.size) = some v.cells.toArray.size := by rw [List.size_toArray, V3.len h]; kernel_rfl
theorem V3.at35 {v : V3} (h : v.Ok) : v.cells[35]? = some (.bool v.s) := by
  have e : v.cells = (.int .i64 v.k :: .int .i64 v.r :: .int .i64 v.p :: v.h.map by8) ++ [.bool v.s] := by simp [V3.cells]
  rw [e, List.getElem?_append_right (by simp [h.h])]
  simp [h.h]
set_option maxHeartbeats 2000000 in
theorem vcut_any (v : V3) (hv : v.Ok) (w : World) : Calls Try.prog 8 #[.agg v.cells.toArray] w fun e w' => e = .returned (.agg (cutV v).cells.toArray) ∧ Fr [] w w' := by
  obtain ⟨wa, hwa⟩ : ∃ wa, wa = (w.alloc (Obj.cells v.cells.toArray 32)).alloc (Obj.cells zV3.cells.toArray 32) := ⟨_, rfl⟩
  have hf0 : Fr [] w wa := by rw [hwa]; exact ((Fr.refl [] w).alloc _).alloc _
  have hb1 : Blk wa w.heap.size 32 v.cells.toArray := by rw [hwa]; exact blk_alloc (Blk.new _ _ _)
  have hb2 : Blk wa (w.heap.size + 1) 32 zV3.cells.toArray := by
    have := Blk.new (w.alloc (Obj.cells v.cells.toArray 32)) 32 zV3.cells.toArray
    rw [hwa]
    simpa using this
  obtain ⟨b, hs, hbh⟩ : ∃ b hs, v.h = b :: hs := by
    cases hh : v.h with
    | nil => have := hv.h; rw [hh] at this; cases this
    | cons b hs => exact ⟨b, hs, rfl⟩
  obtain ⟨gb, hgb⟩ : ∃ gb, gb = w.heap.size := ⟨_, rfl⟩
  obtain ⟨gr, hgr⟩ : ∃ gr, gr = w.heap.size + 1 := ⟨_, rfl⟩
  rw [← hgb] at hb1
  rw [← hgr] at hb2
  have c0 : wa.cell? ⟨gb, 0, none⟩ = some (.int .i64 v.k) := (hb1.cell 0).trans rfl
  have c1 : wa.cell? ⟨gb, 1, none⟩ = some (.int .i64 v.r) := (hb1.cell 1).trans rfl
  have c2 : wa.cell? ⟨gb, 2, none⟩ = some (.int .i64 v.p) := (hb1.cell 2).trans rfl
  have c3 : wa.cell? ⟨gb, 3, none⟩ = some (.int .u8 (b.toNat : Int)) := by
    rw [hb1.cell 3, List.getElem?_toArray]
    simp [V3.cells, hbh]
    rfl
  have c35 : wa.cell? ⟨gb, 35, none⟩ = some (.bool v.s) := by
    rw [hb1.cell 35, List.getElem?_toArray]
    exact V3.at35 hv
  have HB1 := Lib.hid hb1
  have HB2 := Lib.hid hb2
  have HF0 := Lib.hid hf0
  have HV := Lib.hid hv
  have HLT : Hid (w.heap.size ≤ gb ∧ w.heap.size ≤ gr ∧ gb ≠ gr) := Lib.hid (by omega)
  have HRZ : Hid (RowTy Try.prog 32 v.cells.length) := Lib.hid (row_v3.of (V3.len hv))
  have HBH := Lib.hid hbh
  have HWA := Lib.hid hwa
  clear hf0 hb1 hb2 hv hbh hwa
  go_enter Try.func8, Try.ntmps8
  go_upto_region 1 with (fail)
  change Code.wp _ _ _ _ ((w.alloc (Obj.cells v.cells.toArray 32)).alloc (Obj.cells zV3.cells.toArray 32))
  rw [← HWA.out, ← hgr, ← hgb]
  clear hgr hgb
  cases hvs : v.s with
  | false =>
    rw [hvs] at c35
    have HSZ := Lib.hid (v3_size HV.out)
    have HSE : Hid (zV3.cells.toArray.size = v.cells.toArray.size) := Lib.hid (by rw [List.size_toArray, List.size_toArray, V3.len HV.out]; rfl)
    have HAL := Lib.hid v.one
    have HR : Hid (wa.rangeAt gb 0 v.cells) := Lib.hid HB1.out.range
    have HE : Hid (cutV v = v) := Lib.hid (by unfold cutV; rw [if_neg (by rw [hvs]; simp)])
    generalize hC : v.cells = C at *
    have HC := Lib.hid hC
    clear hC
    go_wp2_with (first
      | (refine wpList_row rfl 32 _ rfl gb 0 rfl C HR.out HRZ.out ?_)
      | (refine wpList_store_blk rfl 32 _ _ rfl gr C.toArray rfl rfl 32 _ HB2.out HSZ.out HSE.out HAL.out ?_; intro w3 hb3 hf3))
    exact bodyPost_ret (v := .agg C.toArray) (results_cell_row Try.results8 _ _ gr 32 C.toArray _ _ rfl hb3 Try.underlying32 rfl HSZ.out) rfl ⟨by rw [HE.out, HC.out], HF0.out.and hf3 (by have := HLT.out; simp; omega)⟩
  | true =>
    rw [hvs] at c35
    have HOC := Lib.hid (cutV_ok HV.out)
    have HE : Hid ((cutV v).cells = .int .i64 (1 + v.k % 2) :: .int .i64 (v.r % 3) :: .int .i64 (v.p % 7) :: ((h1b (b % 3)).map by8 ++ [.bool true])) := Lib.hid (by
      unfold cutV
      rw [if_pos hvs, HBH.out, hvs]
      rfl)
    have hw1 := fun W => within_pos v.k 2 HV.out.k.1 HV.out.k.2 (by omega) (by omega) W
    have hw2 := fun W => within_pos v.r 3 HV.out.r.1 HV.out.r.2 (by omega) (by omega) W
    have hw3 := fun W => within_pos v.p 7 HV.out.p.1 HV.out.p.2 (by omega) (by omega) W
    obtain ⟨k2, hk2⟩ : ∃ k2, k2 = v.k % 2 := ⟨_, rfl⟩
    obtain ⟨r3, hr3⟩ : ∃ r3, r3 = v.r % 3 := ⟨_, rfl⟩
    obtain ⟨p7, hp7⟩ : ∃ p7, p7 = v.p % 7 := ⟨_, rfl⟩
    have hk2b : 0 ≤ k2 ∧ k2 < 2 := by omega
    have hk2l := hk2b.1
    have hk2h := hk2b.2
    rw [← hk2] at hw1 HE
    rw [← hr3] at hw2 HE
    rw [← hp7] at hw3 HE
    have HW1 := Lib.hid hw1
    have HW2 := Lib.hid hw2
    have HW3 := Lib.hid hw3
    clear hk2 hr3 hp7 hk2b hw1 hw2 hw3
    have hrm := rem3u b
    obtain ⟨H, hH⟩ : ∃ H : List Value, H = (h1b (b % 3)).map by8 := ⟨_, rfl⟩
    have HHL : Hid (H.length = 32) := Lib.hid (by rw [hH, List.length_map]; exact h1b_len _)
    have HHO : Hid ((H.toArray.all (·.oneCell')) = true) := Lib.hid (all_oneCell_toArray (by rw [hH]; exact by8_one _))
    have HBU : Hid (Try.prog.built 30 [(0, .int .u8 ((b % 3 : UInt8).toNat : Int))] = some H.toArray) := Lib.hid (by rw [hH]; exact built_h (b % 3))
    rw [← hH] at HE
    obtain ⟨R, hR⟩ : ∃ R : List Value, R = v.h.map by8 := ⟨_, rfl⟩
    have HRL : Hid (R.length = 32) := Lib.hid (by rw [hR, List.length_map]; exact HV.out.h)
    clear hH
    go_upto_region 2 with (fail)
    refine wp_region_till 16 (Fr [gb] wa) (Fr [] wa) (by kernel_rfl) (Fr.drew (Fr.refl _ wa)) (Fr.drew (Fr.refl _ wa)) (fun hA hB => ?_)
    have HB1d : Hid (Blk wa.drew gb 32 v.cells.toArray) := Lib.hid HB1.out.drew
    have HB2d : Hid (Blk wa.drew gr 32 zV3.cells.toArray) := Lib.hid HB2.out.drew
    have HFd : Hid (Fr [] w wa.drew) := Lib.hid HF0.out.drew
    have hAd : Fr [gb] wa wa.drew := hA
    generalize wa.drew = wd at *
    refine till_run (i := 0) (v := ?_) rfl (by kernel_rfl) (by rfl) (fun _ _ _ h => h) hA hB (fun w1 hw1 => ?_) ?_
    rotate_left 1
    · skip
      go_simp
      (try (first | with_reducible rfl | (apply And.intro <;> rfl)))
    simp only [Act.put, List.setIfInBounds_toArray, List.set_cons_zero, List.set_cons_succ]
    refine till_run (i := 1) (v := ?_) rfl (by kernel_rfl) (by rfl) (fun _ _ _ h => h) hA hB (fun w1 hw1 => ?_) ?_
    rotate_left 1
    · skip
      have hcw0 := hw1.cell (c0) (by first | (simp; done) | exact HNS.out | exact HNW.out | (intro hm; have hlt := HSB.out _ hm; (try dsimp only at hlt); omega))
      go_simp
      (try (first | with_reducible rfl | (apply And.intro <;> rfl)))
    simp only [Act.put, List.setIfInBounds_toArray, List.set_cons_zero, List.set_cons_succ]
    refine till_run (i := 4) (v := ?_) rfl (by kernel_rfl) (by rfl) (fun _ _ _ h => h) hA hB (fun w1 hw1 => ?_) ?_
    rotate_left 1
    · skip
      go_simp
      (try (first | with_reducible rfl | (apply And.intro <;> rfl)))
    simp only [Act.put, List.setIfInBounds_toArray, List.set_cons_zero, List.set_cons_succ]
    refine till_run (i := 5) (v := ?_) rfl (by kernel_rfl) (by rfl) (fun _ _ _ h => h) hA hB (fun w1 hw1 => ?_) ?_
    rotate_left 1
    · skip
      have hcw0 := hw1.cell (c1) (by first | (simp; done) | exact HNS.out | exact HNW.out | (intro hm; have hlt := HSB.out _ hm; (try dsimp only at hlt); omega))
      go_simp
      (try (first | with_reducible rfl | (apply And.intro <;> rfl)))
    simp only [Act.put, List.setIfInBounds_toArray, List.set_cons_zero, List.set_cons_succ]
    refine till_run (i := 7) (v := ?_) rfl (by kernel_rfl) (by rfl) (fun _ _ _ h => h) hA hB (fun w1 hw1 => ?_) ?_
    rotate_left 1
    · skip
      go_simp
      (try (first | with_reducible rfl | (apply And.intro <;> rfl)))
    simp only [Act.put, List.setIfInBounds_toArray, List.set_cons_zero, List.set_cons_succ]
    refine till_run (i := 8) (v := ?_) rfl (by kernel_rfl) (by rfl) (fun _ _ _ h => h) hA hB (fun w1 hw1 => ?_) ?_
    rotate_left 1
    · skip
      have hcw0 := hw1.cell (c2) (by first | (simp; done) | exact HNS.out | exact HNW.out | (intro hm; have hlt := HSB.out _ hm; (try dsimp only at hlt); omega))
      go_simp
      (try (first | with_reducible rfl | (apply And.intro <;> rfl)))
    simp only [Act.put, List.setIfInBounds_toArray, List.set_cons_zero, List.set_cons_succ]
    refine till_run (i := 10) (v := ?_) rfl (by kernel_rfl) (by rfl) (fun _ _ _ h => h) hA hB (fun w1 hw1 => ?_) ?_
    rotate_left 1
    · skip
      go_simp
      (try (first | with_reducible rfl | (apply And.intro <;> rfl)))
    simp only [Act.put, List.setIfInBounds_toArray, List.set_cons_zero, List.set_cons_succ]
    refine till_run (i := 11) (v := ?_) rfl (by kernel_rfl) (by rfl) (fun _ _ _ h => h) hA hB (fun w1 hw1 => ?_) ?_
    rotate_left 1
    · skip
      go_simp
      (try (first | with_reducible rfl | (apply And.intro <;> rfl)))
    simp only [Act.put, List.setIfInBounds_toArray, List.set_cons_zero, List.set_cons_succ]
    refine till_run (i := 12) (v := ?_) rfl (by kernel_rfl) (by rfl) (fun _ _ _ h => h) hA hB (fun w1 hw1 => ?_) ?_
    rotate_left 1
    · skip
      have hcw0 := hw1.cell (c3) (by first | (simp; done) | exact HNS.out | exact HNW.out | (intro hm; have hlt := HSB.out _ hm; (try dsimp only at hlt); omega))
      go_simp
      (try (first | with_reducible rfl | (apply And.intro <;> rfl)))
    simp only [Act.put, List.setIfInBounds_toArray, List.set_cons_zero, List.set_cons_succ]
    refine till_freeAt (i := 13) (v := ?_) rfl (by kernel_rfl) (by decide) (by rfl) (fun _ _ _ h => h) hA (fun _ => hB) (fun w1 hw1 => ?_) ?_
    rotate_left 1
    · skip
      go_simp
      (try (first | with_reducible rfl | (apply And.intro <;> rfl)))
    simp only [Act.put, List.setIfInBounds_toArray, List.set_cons_zero, List.set_cons_succ]
    refine till_fbuild (i := 14) rfl (by kernel_rfl) (by decide) (by rfl) _ _ rfl _ _ (HBU.out) rfl (fun _ _ _ h => h) hA (fun _ => hB) ?_
    simp only [Act.put, List.setIfInBounds_toArray, List.set_cons_zero, List.set_cons_succ]
    refine till_call (i := 2) (f := ?_) (args := ?_) rfl (by kernel_rfl) (by rfl) ?_ ?_
    rotate_left 2
    · go_simp
      (try (first | with_reducible rfl | (apply And.intro <;> rfl)))
    refine (HW1.out wd).mono ?_
    rintro e w1 ⟨rfl, rfl⟩
    refine ⟨_, rfl, ⟨hA, hB⟩, fun hB => ?_⟩
    simp only [Act.put, List.setIfInBounds_toArray, List.set_cons_zero, List.set_cons_succ]
    have hwr : IntKind.i64.wrap (1 + k2) = 1 + k2 := by rw [IntKind.wrap_i64]; omega
    refine till_run (i := 3) (v := ?_) rfl (by kernel_rfl) (by rfl) (fun _ _ _ h => h) hA hB (fun w1 hw1 => ?_) ?_
    rotate_left 1
    · skip
      go_simp
      (try (first | with_reducible rfl | (apply And.intro <;> rfl)))
    simp only [Act.put, List.setIfInBounds_toArray, List.set_cons_zero, List.set_cons_succ]
    refine till_run (i := 15) (v := ?_) rfl (by kernel_rfl) (by rfl) (fun _ _ _ h => h) hA hB (fun w1 hw1 => ?_) ?_
    rotate_left 1
    · skip
      go_simp
      (try (first | with_reducible rfl | (apply And.intro <;> rfl)))
    simp only [Act.put, List.setIfInBounds_toArray, List.set_cons_zero, List.set_cons_succ]
    refine till_call (i := 6) (f := ?_) (args := ?_) rfl (by kernel_rfl) (by rfl) ?_ ?_
    rotate_left 2
    · go_simp
      (try (first | with_reducible rfl | (apply And.intro <;> rfl)))
    refine (HW2.out wd).mono ?_
    rintro e w1 ⟨rfl, rfl⟩
    refine ⟨_, rfl, ⟨hA, hB⟩, fun hB => ?_⟩
    simp only [Act.put, List.setIfInBounds_toArray, List.set_cons_zero, List.set_cons_succ]
    refine till_call (i := 9) (f := ?_) (args := ?_) rfl (by kernel_rfl) (by rfl) ?_ ?_
    rotate_left 2
    · go_simp
      (try (first | with_reducible rfl | (apply And.intro <;> rfl)))
    refine (HW3.out wd).mono ?_
    rintro e w1 ⟨rfl, rfl⟩
    refine ⟨_, rfl, ⟨hA, hB⟩, fun hB => ?_⟩
    simp only [Act.put, List.setIfInBounds_toArray, List.set_cons_zero, List.set_cons_succ]
    clear hwr hrm
    have hb1 : Blk wd gb 32 (.int .i64 v.k :: .int .i64 v.r :: .int .i64 v.p :: (R ++ [.bool true]) : List Value).toArray := by
      have h := HB1d.out
      unfold V3.cells at h
      rw [hvs, ← hR] at h
      exact h
    have hba := hb1.set 0 (.int .i64 (1 + k2))
    have hbb := hba.set 1 (.int .i64 r3)
    have hbc := hbb.set 2 (.int .i64 p7)
    simp only [List.setIfInBounds_toArray, List.set_cons_zero, List.set_cons_succ] at hba hbb hbc
    have hbd := Blk.mid_at H R [.int .i64 (1 + k2), .int .i64 r3, .int .i64 p7] [.bool true] 3 rfl (by rw [HHL.out, HRL.out]) _ (cutV v).cells rfl (by rw [HE.out]; rfl) hbc
    have HBa := Lib.hid hb1
    have HBb := Lib.hid hba
    have HBc := Lib.hid hbb
    have HBd := Lib.hid hbc
    have HBe := Lib.hid hbd
    have hfe : Fr [gb] wd ((((wd.setCell ⟨gb, 0, none⟩ (.int .i64 (1 + k2))).setCell ⟨gb, 1, none⟩ (.int .i64 r3)).setCell ⟨gb, 2, none⟩ (.int .i64 p7)).setCells gb 3 H) := Fr.setCells (fun _ => by simp) H 3 _ ((((Fr.refl [gb] wd).setCell _ (fun _ => by simp) _).setCell _ (fun _ => by simp) _).setCell _ (fun _ => by simp) _)
    have HFe := Lib.hid hfe
    have HSX : Hid (∀ a1 a2 a3 : Value, (a1 :: a2 :: a3 :: (R ++ [.bool true]) : List Value).toArray.size = 36) := Lib.hid (fun a1 a2 a3 => by rw [List.size_toArray]; simp [HRL.out])
    clear hb1 hba hbb hbc hbd hfe hR hB
    refine till_step (i := 16) rfl (by kernel_rfl) (by kernel_rfl) (by rfl) (fun K hK => ?_)
    refine wp_store_cell1 3 _ _ rfl gb 0 (.int .i64 (1 + k2)) rfl rfl rfl 32 _ HBa.out (by rw [HSX.out]; omega) (by kernel_rfl) ?_
    refine hK.out _ _ (hA.trans ((Fr.refl [gb] wd).setCell _ (by simp) _) (fun x hx _ => hx)) (fun hA => ?_)
    clear hK K
    simp only [Act.put, List.setIfInBounds_toArray, List.set_cons_zero, List.set_cons_succ]
    refine till_step (i := 17) rfl (by kernel_rfl) (by kernel_rfl) (by rfl) (fun K hK => ?_)
    refine wp_run (v := ?_) (w' := ?_) ?_ ?_
    rotate_left 2
    · go_simp
      (try (first | with_reducible rfl | (apply And.intro <;> rfl)))
    refine hK.out _ _ hA (fun hA => ?_)
    clear hK K
    simp only [Act.put, List.setIfInBounds_toArray, List.set_cons_zero, List.set_cons_succ]
    refine till_step (i := 18) rfl (by kernel_rfl) (by kernel_rfl) (by rfl) (fun K hK => ?_)
    refine wp_store_cell1 3 _ _ rfl gb 1 (.int .i64 r3) rfl rfl rfl 32 _ HBb.out (by rw [HSX.out]; omega) (by kernel_rfl) ?_
    refine hK.out _ _ (hA.trans ((Fr.refl [gb] _).setCell _ (by simp) _) (fun x hx _ => hx)) (fun hA => ?_)
    clear hK K
    simp only [Act.put, List.setIfInBounds_toArray, List.set_cons_zero, List.set_cons_succ]
    refine till_step (i := 19) rfl (by kernel_rfl) (by kernel_rfl) (by rfl) (fun K hK => ?_)
    refine wp_run (v := ?_) (w' := ?_) ?_ ?_
    rotate_left 2
    · go_simp
      (try (first | with_reducible rfl | (apply And.intro <;> rfl)))
    refine hK.out _ _ hA (fun hA => ?_)
    clear hK K
    simp only [Act.put, List.setIfInBounds_toArray, List.set_cons_zero, List.set_cons_succ]
    refine till_step (i := 20) rfl (by kernel_rfl) (by kernel_rfl) (by rfl) (fun K hK => ?_)
    refine wp_store_cell1 3 _ _ rfl gb 2 (.int .i64 p7) rfl rfl rfl 32 _ HBc.out (by rw [HSX.out]; omega) (by kernel_rfl) ?_
    refine hK.out _ _ (hA.trans ((Fr.refl [gb] _).setCell _ (by simp) _) (fun x hx _ => hx)) (fun hA => ?_)
    clear hK K
    simp only [Act.put, List.setIfInBounds_toArray, List.set_cons_zero, List.set_cons_succ]
    refine till_step (i := 21) rfl (by kernel_rfl) (by kernel_rfl) (by rfl) (fun K hK => ?_)
    refine wp_run (v := ?_) (w' := ?_) ?_ ?_
    rotate_left 2
    · go_simp
      (try (first | with_reducible rfl | (apply And.intro <;> rfl)))
    refine hK.out _ _ hA (fun hA => ?_)
    clear hK K
    simp only [Act.put, List.setIfInBounds_toArray, List.set_cons_zero, List.set_cons_succ]
    refine till_step (i := 22) rfl (by kernel_rfl) (by kernel_rfl) (by rfl) (fun K hK => ?_)
    refine wp_store_mid 30 _ _ rfl gb 3 H.toArray rfl rfl (HBd.out.there 3 _ (by rw [HSX.out, List.size_toArray, HHL.out]; omega)) (by rw [List.size_toArray, HHL.out]; kernel_rfl) HHO.out ?_
    change K _ ((((wd.setCell ⟨gb, 0, none⟩ (.int .i64 (1 + k2))).setCell ⟨gb, 1, none⟩ (.int .i64 r3)).setCell ⟨gb, 2, none⟩ (.int .i64 p7)).setCells gb 3 H)
    have HAe := Lib.hid (hAd.trans HFe.out (fun x hx _ => hx))
    generalize (((wd.setCell ⟨gb, 0, none⟩ (.int .i64 (1 + k2))).setCell ⟨gb, 1, none⟩ (.int .i64 r3)).setCell ⟨gb, 2, none⟩ (.int .i64 p7)).setCells gb 3 H = we at *
    refine hK.out _ _ HAe.out (fun hA => ?_)
    clear hK K
    simp only [Act.put, List.setIfInBounds_toArray, List.set_cons_zero, List.set_cons_succ]
    refine till_done (by kernel_rfl) ?_ _
    clear hA hAd
    have HB2e := Lib.hid (HB2d.out.keep HFe.out (by have := HLT.out; simp; omega))
    have HFW := Lib.hid (HFd.out.and HFe.out (by have := HLT.out; simp; omega))
    have HSZ := Lib.hid (v3_size HOC.out)
    have HSE : Hid (zV3.cells.toArray.size = (cutV v).cells.toArray.size) := Lib.hid (by rw [List.size_toArray, List.size_toArray, V3.len HOC.out]; rfl)
    have HAL := Lib.hid (cutV v).one
    have HR : Hid (we.rangeAt gb 0 (cutV v).cells) := Lib.hid HBe.out.range
    have HRY : Hid (RowTy Try.prog 32 (cutV v).cells.length) := Lib.hid (row_v3.of (V3.len HOC.out))
    generalize hD : (cutV v).cells = D at *
    have HD := Lib.hid hD
    clear hD
    go_wp2_with (first
      | (refine wpList_row rfl 32 _ rfl gb 0 rfl D HR.out HRY.out ?_)
      | (refine wpList_store_blk rfl 32 _ _ rfl gr D.toArray rfl rfl 32 _ HB2e.out HSZ.out HSE.out HAL.out ?_; intro w3 hb3 hf3))
    exact bodyPost_ret (v := .agg D.toArray) (results_cell_row Try.results8 _ _ gr 32 D.toArray _ _ rfl hb3 Try.underlying32 rfl HSZ.out) rfl ⟨by rw [HD.out], HFW.out.and hf3 (by have := HLT.out; simp; omega)⟩
end Go.Proofs.Ytfmkegblhpnfcaa

namespace Go.Proofs.Ytfmkegblhpnfcaa
set_option maxRecDepth 100000
theorem last_ge {T : List Tv} {k r : Int} {p : Nat} (h : hasV T k r p = true) : r ≤ lastV T p := by
  induction T with
  | nil => simp [hasV] at h
  | cons v T ih =>
    unfold hasV at h ih
    rw [List.any_cons, Bool.or_eq_true] at h
    unfold lastV
    rcases h with h | h
    · have h := of_decide_eq_true h
      rw [if_pos h.2.2]
      have := h.2.1
      omega
    · have := ih h
      split <;> omega
theorem last_one {n : Int} {T : List Tv} (hT : Gd n T) {p : Nat} (h : lastV T p ≠ -1) : (p : Int) < n := by
  induction T with
  | nil => exact absurd rfl h
  | cons v T ih =>
    unfold lastV at h
    by_cases hp : v.p = p
    · have := hT.1.p
      omega
    · rw [if_neg hp] at h
      exact ih hT.2.2 h
theorem count_has {n : Int} {T : List Tv} (hT : Gd n T) (hn : n ≤ 64) (k r : Int) : (List.range 64).countP (hasV T k r) = cntA T k r := by
  induction T with
  | nil => simp [hasV, cntA]
  | cons v T ih =>
    rw [cntA_cons, ← ih hT.2.2]
    by_cases hc : v.k = k ∧ v.r = r
    · rw [if_pos hc]
      have hv : v.p < 64 := by have := hT.1.p; omega
      have hno : hasV T k r v.p = false := by
        have := hT.2.1
        rwa [hc.1, hc.2] at this
      have e : ∀ m, v.p < m → (List.range m).countP (hasV (v :: T) k r) = (List.range m).countP (hasV T k r) + 1 := by
        intro m
        induction m with
        | zero => intro h; omega
        | succ m ihm =>
          intro h
          rw [List.range_succ, List.countP_append, List.countP_append]
          by_cases hm : v.p < m
          · rw [ihm hm]
            have e2 : hasV (v :: T) k r m = hasV T k r m := by
              unfold hasV
              rw [List.any_cons]
              have : decide (v.k = k ∧ v.r = r ∧ v.p = m) = false := decide_eq_false (fun q => by have := q.2.2; omega)
              rw [this]
              rfl
            simp only [List.countP_cons, List.countP_nil, e2]
            omega
          · have hm2 : v.p = m := by omega
            have e1 : (List.range m).countP (hasV (v :: T) k r) = (List.range m).countP (hasV T k r) := by
              apply List.countP_congr
              intro i hi
              have hi' := List.mem_range.1 hi
              have e2 : hasV (v :: T) k r i = hasV T k r i := by
                unfold hasV
                rw [List.any_cons]
                have : decide (v.k = k ∧ v.r = r ∧ v.p = i) = false := decide_eq_false (fun q => by have := q.2.2; omega)
                rw [this]
                rfl
              rw [e2]
            have e3 : hasV (v :: T) k r m = true := by
              unfold hasV
              rw [List.any_cons]
              simp [hc, hm2]
            rw [e1]
            simp only [List.countP_cons, List.countP_nil, e3]
            rw [hm2] at hno
            simp [hno]
      exact e 64 hv
    · rw [if_neg hc, Nat.add_zero]
      apply List.countP_congr
      intro i _
      have e2 : hasV (v :: T) k r i = hasV T k r i := by
        unfold hasV
        rw [List.any_cons]
        have : decide (v.k = k ∧ v.r = r ∧ v.p = i) = false := decide_eq_false (fun q => hc ⟨q.1, q.2.1⟩)
        rw [this]
        rfl
      rw [e2]
theorem all_heard {n : Int} {T : List Tv} (hT : Gd n T) (hn : n ≤ 64) (k r : Int) (hr : 0 ≤ r) : cntA T k r ≤ heardV T r := by
  rw [← count_has hT hn]
  apply List.countP_mono_left
  intro p _ h
  have := last_ge h
  unfold heardP
  simp
  omega
theorem heard_mono (T : List Tv) (x y : Int) (h : x ≤ y) : heardV T y ≤ heardV T x := by
  apply List.countP_mono_left
  intro p _ h2
  unfold heardP at *
  simp at *
  exact ⟨h2.1, by omega⟩
theorem heard_le {n : Nat} {T : List Tv} (hT : Gd (n : Int) T) (hn : n ≤ 64) (x : Int) : heardV T x ≤ n := by
  refine Nat.le_trans (List.countP_mono_left (q := fun p => decide (p < n)) ?_) (Nat.le_of_eq (count_below 64 n hn))
  intro p _ h
  unfold heardP at h
  have h2 := (of_decide_eq_true h).1
  have := last_one hT h2
  simp
  omega
/-- votes for three hashes alone -/
def Three (T : List Tv) : Prop := ∀ v ∈ T, v.h = h1b 0 ∨ v.h = h1b 1 ∨ v.h = h1b 2
theorem h1b_ne : h1b 0 ≠ h1b 1 ∧ h1b 0 ≠ h1b 2 ∧ h1b 1 ≠ h1b 2 := by decide
theorem three_sum {T : List Tv} (h : Three T) (k r : Int) : cntH T k r (h1b 0) + cntH T k r (h1b 1) + cntH T k r (h1b 2) = cntA T k r := by
  induction T with
  | nil => rfl
  | cons v T ih =>
    have h1 := ih (fun x hx => h x (by simp [hx]))
    rw [cntH_cons, cntH_cons, cntH_cons, cntA_cons]
    obtain ⟨n1, n2, n3⟩ := h1b_ne
    by_cases hc : v.k = k ∧ v.r = r
    · rw [if_pos hc]
      rcases h v (by simp) with e | e | e
      · rw [if_pos ⟨hc.1, hc.2, e⟩, if_neg (fun q => n1 (e.symm.trans q.2.2)), if_neg (fun q => n2 (e.symm.trans q.2.2))]
        omega
      · rw [if_neg (fun q => n1 (q.2.2.symm.trans e)), if_pos ⟨hc.1, hc.2, e⟩, if_neg (fun q => n3 (e.symm.trans q.2.2))]
        omega
      · rw [if_neg (fun q => n2 (q.2.2.symm.trans e)), if_neg (fun q => n3 (q.2.2.symm.trans e)), if_pos ⟨hc.1, hc.2, e⟩]
        omega
    · rw [if_neg hc, if_neg (fun q => hc ⟨q.1, q.2.1⟩), if_neg (fun q => hc ⟨q.1, q.2.1⟩), if_neg (fun q => hc ⟨q.1, q.2.1⟩)]
      omega
theorem byte3 (b : UInt8) : h1b (b % 3) = h1b 0 ∨ h1b (b % 3) = h1b 1 ∨ h1b (b % 3) = h1b 2 := by
  have h : (b % 3).toNat < 3 := by rw [UInt8.toNat_mod]; exact Nat.mod_lt _ (by decide)
  have e : ∀ c : UInt8, c.toNat < 3 → c = 0 ∨ c = 1 ∨ c = 2 := fun c hc => by
    have : c.toNat = 0 ∨ c.toNat = 1 ∨ c.toNat = 2 := by omega
    rcases this with q | q | q
    · exact .inl (UInt8.toNat_inj.1 q)
    · exact .inr (.inl (UInt8.toNat_inj.1 q))
    · exact .inr (.inr (UInt8.toNat_inj.1 q))
  rcases e _ h with q | q | q <;> rw [q] <;> simp
theorem add_cnt {n : Int} {T : List Tv} (k r p : Int) (h : List UInt8) : cntA (addV n T k r p h) k r = cntA T k r + if mayV n T k r p = true then 1 else 0 := by
  unfold addV
  split
  · rw [cntA_cons]
    simp
  · simp
theorem add_twice {n : Int} {T : List Tv} (k r p : Int) (h : List UInt8) (hm : (k = 1 ∨ k = 2) ∧ 0 ≤ r ∧ r ≤ 1048576 ∧ 0 ≤ p ∧ p < n) : mayV n (addV n T k r p h) k r p = false := by
  unfold mayV
  have e : hasV (addV n T k r p h) k r p.toNat = true := by
    unfold addV
    split
    · unfold hasV
      rw [List.any_cons]
      simp
    · rename_i hn
      unfold mayV at hn
      rw [decide_eq_true hm] at hn
      simpa using hn
  rw [e]
  simp
theorem add_three3 {n : Int} {T : List Tv} (hT : Three T) (k r p : Int) (b : UInt8) : Three (addV n T k r p (h1b (b % 3))) := by
  unfold addV
  split
  · intro v hv
    rcases List.mem_cons.1 hv with rfl | hv
    · exact byte3 b
    · exact hT v hv
  · exact hT
end Go.Proofs.Ytfmkegblhpnfcaa
