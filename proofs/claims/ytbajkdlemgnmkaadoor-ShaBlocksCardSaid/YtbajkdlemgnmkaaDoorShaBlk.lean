/- The walk of ShaBlocks. -/
import Derived.Test.YtbajkdlemgnmkaaDoorShaX
import Derived.Test.YtbajkdlemgnmkaaDoorShaW
import Derived.Test.YtbajkdlemgnmkaaDoorShaRr
import Derived.Test.YtbajkdlemgnmkaaDoorReg2
import Derived.Test.YtbajkdlemgnmkaaDoorCm2
import Derived.Deep.CutBlock
namespace Go.Proofs.YtbajkdlemgnmkaaDoor
open Go.RowKit
set_option maxRecDepth 100000

theorem make_vb (v : Nat) (hn : v ≤ 1073741824) (w : World) : ∃ wa, (Instr.makeSlice 23 (.int .i64 v) (.int .i64 v)).run Tryd.prog w = .ok (.slice (some ⟨w.heap.size, 0, none⟩) v v) wa ∧
    Blk wa w.heap.size 5 ((List.replicate v (0 : UInt8)).map by8).toArray ∧ Fr [] w wa := by
  obtain ⟨i, hi0, hz0, hz1, hz2⟩ := info_parts info_u8
  have h := run_make (P := Tryd.prog) w 23 5 i _ Tryd.underlying23 hi0 hz0 .i64 .i64 v (v : Int) (by omega) (by omega) (by rw [hz2]; omega) (by omega)
  refine ⟨_, by rw [h, hz1, Nat.mul_one, madeCells_u8]; simp, Blk.new _ _ _, (Fr.refl [] w).alloc _⟩

theorem wpList_copy_bytes {P : Program} {ops : Array Oper} {rest : List Oper} {o : Oper} {a : Act} {w : World} {Q : Exit → Act → World → Prop} (hgd : o.guard = none) (d s : Operand) (dT sT : TypeId)
    (ho : o.op = .call { callee := .builtin .copy, args := #[d, s], argTypes := #[dT, sT] }) (elem : TypeId) (hu : P.underlying dT = some (.slice elem)) (hsz : (P.info? elem).map (·.size) = some 1)
    (g dLen dCap : Nat) (A : Option Addr) (n c : Nat) (hd : a.eval d = .slice (some ⟨g, 0, none⟩) dLen dCap) (hs : a.eval s = .slice A n c)
    (cur l : List UInt8) (t : TypeId) (hg : Blk w g t (cur.map by8).toArray) (hy : By w A n l) (hn : n ≤ dLen) (hfit : n ≤ cur.length)
    (h : ∀ w', Blk w' g t ((l ++ cur.drop n).map by8).toArray → Fr [g] w w' → wpList P ops Q rest (a.put o.dst (goInt n)) w') : wpList P ops Q (o :: rest) a w :=
  wpList_plain hgd fun _ hK => wp_copy_bytes d s dT sT ho elem hu hsz g dLen dCap A n c hd hs cur l t hg hy hn hfit fun w' hb hf => hK _ _ (h w' hb hf)
theorem NewB.next {w w1 w2 : World} {A : Option Addr} {n c : Nat} {l : List UInt8} (h : NewB w w1 A n c l) (hf : Fr [] w1 w2) : NewB w w2 A n c l := ⟨own_keep h.1 hf (by simp), h.2.1.and hf (by simp), h.2.2⟩
theorem NewB.from_ {w0 w w1 : World} {A : Option Addr} {n c : Nat} {l : List UInt8} (h : NewB w w1 A n c l) (hf : Fr [] w0 w) : NewB w0 w1 A n c l := ⟨h.1, hf.and h.2.1 (by simp), fun k hk => Nat.le_trans hf.size (h.2.2 k hk)⟩

set_option maxHeartbeats 8000000 in
theorem shaBlocks_walk (w : World) (m : Int) (hm1 : -9223372036854775808 ≤ m) (hm2 : m < 9223372036854775808) (f : UInt8) (A : Option Addr) (n cp : Nat) (p : List UInt8) (hp : By w A n p) (hpc : n ≤ cp) (hpm : cp ≤ maxLen) (hK : KW w) :
    Calls Tryd.prog 6 #[.int .i64 m, .int .u8 (f.toNat : Int), .slice A n cp] w fun e w' => e = .returned (.bool true) ∧ Fr [] w w' := by
  have HK := Lib.hid hK
  have HM := Lib.hid (And.intro hm1 hm2)
  have HP := Lib.hid hp
  have HPN := Lib.hid (And.intro hpc (Nat.le_trans hpc hpm))
  clear hK hm1 hm2 hp hpc hpm
  go_enter Tryd.func6, Tryd.ntmps6
  go_wp2_with fail
  refine (within_pos m 90 HM.out.1 HM.out.2 (by omega) (by omega) _).mono ?_
  rintro e wq ⟨rfl, rfl⟩
  have k0 : 0 ≤ m % 90 := Int.emod_nonneg _ (by omega)
  have k1 : m % 90 < 90 := Int.emod_lt_of_pos _ (by omega)
  obtain ⟨N, hN⟩ : ∃ N : Nat, 50 + m % 90 = (N : Int) := ⟨(50 + m % 90).toNat, by omega⟩
  have hN1 : 50 ≤ N := by omega
  have hN2 : N < 140 := by omega
  go_upto_region 2 with (fail)
  obtain ⟨wa, hmk, hba, hfa⟩ := make_vb N (by omega) w
  have HBA := Lib.hid hba
  have HFA := Lib.hid hfa
  have hNI : (N : Int) ≤ 9223372036854775807 := by omega
  clear hba hfa
  go_upto_region 3 with (fail)
  clear hmk
  go_wp2
  go_loopw [16] (fun i wr => ∃ (k : Nat) (M : List UInt8), k ≤ N ∧ i = .int .i64 k ∧ M.length = N ∧ Blk wr w.heap.size 5 (M.map by8).toArray ∧ Fr [w.heap.size] wa wr) (fun i _ => N - (intOf i).toNat)
  case atStart => exact ⟨0, List.replicate N 0, by omega, rfl, by simp, HBA.out, Fr.refl _ _⟩
  case round =>
    obtain ⟨k, M, hk, rfl, hM, hb, hf⟩ := hrel
    have HM1 := Lib.hid hM
    have HBM := Lib.hid hb
    have HFM := Lib.hid hf
    clear hM hb hf
    by_cases hlt : k < N
    · have hk0 : (0 : Int) ≤ k := by omega
      have hcm := HBM.out.byte (i := k) (by rw [HM1.out]; exact hlt)
      have hzm := HBM.out.frozen k
      go_wp2
      go_roundw
      case rel =>
        have hb := HBM.out.setByte k f
        exact ⟨k + 1, M.set k f, by omega, by go_num, by rw [List.length_set]; exact HM1.out, hb, HFM.out.setCell _ (fun _ => by simp) _⟩
      case measure => simp [intOf]; omega
    · have hFW : Fr [] w wr := (HFA.out.trans HFM.out (fun x hx hl => by simp at hx; omega))
      have HFW := Lib.hid hFW
      clear hFW
      go_wp2_with fail
      refine (cut_any A n cp N p wr (HP.out.keep HFW.out (by simp)) HPN.out.2 HPN.out.1 (by omega)).mono ?_
      rintro e w1 ⟨A1, c1, rfl, hN1'⟩
      have h60 : (p.take N).length ≤ N := List.length_take_le _ _
      generalize p.take N = p1 at *
      have HNB := Lib.hid hN1'
      have H60 := Lib.hid h60
      have HBM1 := Lib.hid (HBM.out.keep hN1'.2.1 (by simp))
      clear hN1' h60
      go_upto_region 9 with (first
        | (refine wpList_copy_bytes rfl _ _ 23 23 rfl 5 Tryd.underlying23 (by kernel_rfl) w.heap.size N N A1 p1.length c1 rfl rfl M p1 5 HBM1.out HNB.out.by H60.out (by rw [HM1.out]; exact H60.out) ?_
           intro w2 hb2 hf2
           have HB2 := Lib.hid hb2
           have HF2 := Lib.hid (HFW.out.trans (HNB.out.2.1.mono (T := [w.heap.size]) (by simp) |>.trans hf2 (fun x hx _ => hx)) (fun x hx hl => by simp at hx; omega))
           clear hb2 hf2))
      have hXl : (p1 ++ M.drop p1.length).length = N := by have h1 := H60.out; have h2 := HM1.out; simp; omega
      generalize p1 ++ M.drop p1.length = X at *
      have HXL := Lib.hid hXl
      have hyx : ∀ W, Fr [] w2 W → By W (some ⟨w.heap.size, 0, none⟩) N X := fun W hW => by
        have h := By.blk X (HB2.out.keep hW (by simp)) rfl
        rwa [HXL.out] at h
      have HYX := Lib.hid hyx
      have HK2 := Lib.hid (HK.out.keep HF2.out (by simp))
      obtain ⟨N1, hN1e⟩ : ∃ N1, N = N1 + 1 := ⟨N - 1, by omega⟩
      have hwr : IntKind.i64.wrap ((N : Int) - 1) = (N1 : Int) := (IntWalk.i64_in _ (by omega)).trans (by omega)
      have hN1N : N1 ≤ N := by omega
      have hN1i : (0 : Int) ≤ N1 := by omega
      have HN1E := Lib.hid hN1e
      have hs0 := fun W (hW : Fr [] w2 W) => sum_any (some ⟨w.heap.size, 0, none⟩) N N X W (HYX.out W hW) (Nat.le_refl _) (by omega) (HK2.out.keep hW (by simp))
      have hr0 := fun W (hW : Fr [] w2 W) => refsum_any (some ⟨w.heap.size, 0, none⟩) N N X W (HYX.out W hW) (by omega)
      have hs1 := fun W (hW : Fr [] w2 W) A' c' (hy : NewB w2 W A' (N + 1) c' (X ++ [0])) => sum_any A' (N + 1) c' (X ++ [0]) W hy.by hy.cap (by omega) (HK2.out.keep hW (by simp))
      have hr1 := fun W (hW : Fr [] w2 W) A' c' (hy : NewB w2 W A' (N + 1) c' (X ++ [0])) => refsum_any A' (N + 1) c' (X ++ [0]) W hy.by (by omega)
      have hs2 := fun W (hW : Fr [] w2 W) => sum_any (some ⟨w.heap.size, 0, none⟩) N1 N (X.take N1) W ((HYX.out W hW).take hN1N) hN1N (by omega) (HK2.out.keep hW (by simp))
      have hr2 := fun W (hW : Fr [] w2 W) => refsum_any (some ⟨w.heap.size, 0, none⟩) N1 N (X.take N1) W ((HYX.out W hW).take hN1N) (by omega)
      have hcp := fun W (hW : Fr [] w2 W) => copy_any (some ⟨w.heap.size, 0, none⟩) N N X W (HYX.out W hW) (by omega)
      have hq0 : ∀ W : World, (Op.equalIn 10000 26 (.agg ((sumL X).map by8).toArray) (.agg ((sumL X).map by8).toArray)).run Tryd.prog W = .ok true W := fun W => by have h := hash_eql (sumL X) (sumL X) (sumL_len _) (sumL_len _) W; simpa using h
      have hq1 : ∀ W : World, (Op.equalIn 10000 26 (.agg ((sumL (X ++ [0])).map by8).toArray) (.agg ((sumL (X ++ [0])).map by8).toArray)).run Tryd.prog W = .ok true W := fun W => by have h := hash_eql (sumL (X ++ [0])) (sumL (X ++ [0])) (sumL_len _) (sumL_len _) W; simpa using h
      have hq2 : ∀ W : World, (Op.equalIn 10000 26 (.agg ((sumL (X.take N1)).map by8).toArray) (.agg ((sumL (X.take N1)).map by8).toArray)).run Tryd.prog W = .ok true W := fun W => by have h := hash_eql (sumL (X.take N1)) (sumL (X.take N1)) (sumL_len _) (sumL_len _) W; simpa using h
      generalize ((sumL X).map by8).toArray = Z0 at *
      generalize ((sumL (X ++ [0])).map by8).toArray = Z1 at *
      generalize ((sumL (X.take N1)).map by8).toArray = Z2 at *
      have HS0 := Lib.hid hs0
      have HR0 := Lib.hid hr0
      have HS1 := Lib.hid hs1
      have HR1 := Lib.hid hr1
      have HS2 := Lib.hid hs2
      have HR2 := Lib.hid hr2
      have HCP := Lib.hid hcp
      clear hs0 hr0 hs1 hr1 hs2 hr2 hcp hXl hyx hN1e HNB H60 HBM1 HBM HFM HFW HBA HFA HP HPN
      refine wp_region_held_drew (S := Fr [] w2) (by kernel_rfl) (Fr.drew (Fr.refl _ w2)) (fun hHeld => ?_)
      refine run_at (i := 0) (v := ?_) rfl (by kernel_rfl) (by rfl) (fun _ _ _ h => h) hHeld (fun w1 hw1 => ?_) ?_
      rotate_left 1
      · skip
        go_simp
        (try (first | with_reducible rfl | (apply And.intro <;> rfl)))
      simp only [Act.put, List.setIfInBounds_toArray, List.set_cons_zero, List.set_cons_succ]
      refine run_at (i := 2) (v := ?_) rfl (by kernel_rfl) (by rfl) (fun _ _ _ h => h) hHeld (fun w1 hw1 => ?_) ?_
      rotate_left 1
      · skip
        go_simp
        (try (first | with_reducible rfl | (apply And.intro <;> rfl)))
      simp only [Act.put, List.setIfInBounds_toArray, List.set_cons_zero, List.set_cons_succ]
      refine call_at (i := 1) (f := ?_) (args := ?_) rfl (by kernel_rfl) (by rfl) ?_ ?_
      rotate_left 2
      · go_simp
        (try (first | with_reducible rfl | (apply And.intro <;> rfl)))
      refine (HS0.out _ hHeld).mono ?_
      rintro e wq ⟨rfl, hfq⟩
      refine ⟨_, rfl, hHeld.and hfq (by simp), fun hHeld => ?_⟩
      clear hfq
      simp only [Act.put, List.setIfInBounds_toArray, List.set_cons_zero, List.set_cons_succ]
      refine call_at (i := 3) (f := ?_) (args := ?_) rfl (by kernel_rfl) (by rfl) ?_ ?_
      rotate_left 2
      · go_simp
        (try (first | with_reducible rfl | (apply And.intro <;> rfl)))
      refine (HR0.out _ hHeld).mono ?_
      rintro e wq ⟨rfl, hfq⟩
      refine ⟨_, rfl, hHeld.and hfq (by simp), fun hHeld => ?_⟩
      clear hfq
      simp only [Act.put, List.setIfInBounds_toArray, List.set_cons_zero, List.set_cons_succ]
      refine run_at (i := 4) (v := ?_) rfl (by kernel_rfl) (by rfl) (fun _ _ _ h => h) hHeld (fun w1 hw1 => ?_) ?_
      rotate_left 1
      · skip
        go_simp
        (try (first | with_reducible rfl | (apply And.intro <;> rfl)))
      simp only [Act.put, List.setIfInBounds_toArray, List.set_cons_zero, List.set_cons_succ]
      refine run_at (i := 5) (v := ?_) rfl (by kernel_rfl) (by rfl) (fun _ _ _ h => h) hHeld (fun w1 hw1 => ?_) ?_
      rotate_left 1
      · skip
        go_simp
        (try (first | with_reducible rfl | (apply And.intro <;> rfl)))
      simp only [Act.put, List.setIfInBounds_toArray, List.set_cons_zero, List.set_cons_succ]
      refine run_at (i := 6) (v := ?_) rfl (by kernel_rfl) (by rfl) (fun _ _ _ h => h) hHeld (fun w1 hw1 => ?_) ?_
      rotate_left 1
      · skip
        go_simp
        (try (first | with_reducible rfl | (apply And.intro <;> rfl)))
      simp only [Act.put, List.setIfInBounds_toArray, List.set_cons_zero, List.set_cons_succ]
      refine run_at (i := 11) (v := ?_) rfl (by kernel_rfl) (by rfl) (fun _ _ _ h => h) hHeld (fun w1 hw1 => ?_) ?_
      rotate_left 1
      · skip
        go_simp
        (try (first | with_reducible rfl | (apply And.intro <;> rfl)))
      simp only [Act.put, List.setIfInBounds_toArray, List.set_cons_zero, List.set_cons_succ]
      refine three_at (i := 7) (j := 8) (k := 13) rfl rfl rfl (by kernel_rfl) (by rfl) (by rfl) (by rfl) (fun K hK => ?_) (fun K hK => ?_) (fun K hK => ?_)
      · skip
        refine wp_call (f := ?_) (args := ?_) ?_ ?_
        rotate_left 2
        · go_simp
          (try (first | with_reducible rfl | (apply And.intro <;> rfl)))
        refine (HCP.out _ hHeld).mono ?_
        rintro e v0 ⟨A7, c7, rfl, hnn⟩
        refine ⟨_, rfl, hK.out _ _ (hHeld.and hnn.2.1 (by simp)) (fun hHeld => ?_)⟩
        clear hK K
        simp only [Act.put, List.setIfInBounds_toArray, List.set_cons_zero, List.set_cons_succ]
        have H7 : Hid (NewB w2 v0 A7 N c7 X) := Lib.hid (hnn.from_ (‹Fr [] w2 wq›))
        clear hnn
        refine two_at (i := 8) (j := 13) rfl rfl (by kernel_rfl) (by rfl) (by rfl) (fun K hK => ?_) (fun K hK => ?_)
        · skip
          refine wp_run (v := ?_) (w' := ?_) ?_ ?_
          rotate_left 2
          · go_simp
            (try (first | with_reducible rfl | (apply And.intro <;> rfl)))
          refine hK.out _ (v0.alloc (Obj.cells #[.int .u8 0] 5)) (hHeld.alloc _) (fun hHeld => ?_)
          clear hK K
          simp only [Act.put, List.setIfInBounds_toArray, List.set_cons_zero, List.set_cons_succ]
          have H7 := Lib.hid (H7.out.next ((Fr.refl [] v0).alloc (Obj.cells #[.int .u8 0] 5)))
          have H8 : Hid (By (v0.alloc (Obj.cells #[.int .u8 0] 5)) (some ⟨v0.heap.size, 0, none⟩) 1 [0]) := Lib.hid (By.one (Blk.new _ _ _) rfl)
          generalize v0.alloc (Obj.cells #[.int .u8 0] 5) = v1 at *
          obtain ⟨g8, hg8⟩ : ∃ g, g = v0.heap.size := ⟨_, rfl⟩
          rw [← hg8] at H8 ⊢
          clear hg8
          refine two_at (i := 9) (j := 13) rfl rfl (by kernel_rfl) (by rfl) (by rfl) (fun K hK => ?_) (fun K hK => ?_)
          · skip
            refine wp_append_bytes _ _ _ _ rfl 5 Tryd.underlying23 info_u8 (.slice A7 N c7) N X rfl H7.out.1 (some ⟨g8, 0, none⟩) 1 1 [0] rfl H8.out (by omega) ?_
            intro A9 c9 v2 hoo hgg haa
            have hnn := NewB.grow (‹Fr [] w2 v1›) H7.out.2.2 hoo hgg haa
            refine hK.out _ _ hnn.2.1 (fun hHeld => ?_)
            clear hK K
            simp only [Act.put, List.setIfInBounds_toArray, List.set_cons_zero, List.set_cons_succ]
            have H9 := Lib.hid hnn
            clear hnn hoo hgg haa
            refine two_at (i := 10) (j := 13) rfl rfl (by kernel_rfl) (by rfl) (by rfl) (fun K hK => ?_) (fun K hK => ?_)
            · skip
              refine wp_call (f := ?_) (args := ?_) ?_ ?_
              rotate_left 2
              · go_simp
                (try (first | with_reducible rfl | (apply And.intro <;> rfl)))
              refine ((HS1.out _ hHeld A9 c9 H9.out)).mono ?_
              rintro e v3 ⟨rfl, hfq⟩
              refine ⟨_, rfl, hK.out _ _ (hHeld.and hfq (by simp)) (fun hHeld => ?_)⟩
              clear hK K
              simp only [Act.put, List.setIfInBounds_toArray, List.set_cons_zero, List.set_cons_succ]
              clear hfq
              refine two_at (i := 12) (j := 13) rfl rfl (by kernel_rfl) (by rfl) (by rfl) (fun K hK => ?_) (fun K hK => ?_)
              · skip
                refine wp_call (f := ?_) (args := ?_) ?_ ?_
                rotate_left 2
                · go_simp
                  (try (first | with_reducible rfl | (apply And.intro <;> rfl)))
                refine (HCP.out _ hHeld).mono ?_
                rintro e v4 ⟨A12, c12, rfl, hnn⟩
                refine ⟨_, rfl, hK.out _ _ (hHeld.and hnn.2.1 (by simp)) (fun hHeld => ?_)⟩
                clear hK K
                simp only [Act.put, List.setIfInBounds_toArray, List.set_cons_zero, List.set_cons_succ]
                have H12 : Hid (NewB w2 v4 A12 N c12 X) := Lib.hid (hnn.from_ (‹Fr [] w2 v3›))
                clear hnn
                refine step_at (i := 13) rfl (by kernel_rfl) (by rfl) (fun K hK => ?_)
                refine wp_run (v := ?_) (w' := ?_) ?_ ?_
                rotate_left 2
                · go_simp
                  (try (first | with_reducible rfl | (apply And.intro <;> rfl)))
                refine hK.out _ (v4.alloc (Obj.cells #[.int .u8 0] 5)) (hHeld.alloc _) (fun hHeld => ?_)
                clear hK K
                simp only [Act.put, List.setIfInBounds_toArray, List.set_cons_zero, List.set_cons_succ]
                have H12 := Lib.hid (H12.out.next ((Fr.refl [] v4).alloc (Obj.cells #[.int .u8 0] 5)))
                have H13 : Hid (By (v4.alloc (Obj.cells #[.int .u8 0] 5)) (some ⟨v4.heap.size, 0, none⟩) 1 [0]) := Lib.hid (By.one (Blk.new _ _ _) rfl)
                generalize v4.alloc (Obj.cells #[.int .u8 0] 5) = v5 at *
                obtain ⟨g13, hg13⟩ : ∃ g, g = v4.heap.size := ⟨_, rfl⟩
                rw [← hg13] at H13 ⊢
                have HL13 : Hid (g13 < v5.heap.size) := Lib.hid (H13.out.blk_lt (by omega) g13 (by simp [bk]))
                clear hg13
                refine step_at (i := 14) rfl (by kernel_rfl) (by rfl) (fun K hK => ?_)
                refine wp_append_bytes _ _ _ _ rfl 5 Tryd.underlying23 info_u8 (.slice A12 N c12) N X rfl H12.out.1 (some ⟨g13, 0, none⟩) 1 1 [0] rfl H13.out (by omega) ?_
                intro A14 c14 v6 hoo hgg haa
                have hnn := NewB.grow (‹Fr [] w2 v5›) H12.out.2.2 hoo hgg haa
                refine hK.out _ _ hnn.2.1 (fun hHeld => ?_)
                clear hK K
                simp only [Act.put, List.setIfInBounds_toArray, List.set_cons_zero, List.set_cons_succ]
                have H14 := Lib.hid hnn
                clear hnn hoo hgg haa
                refine step_at (i := 15) rfl (by kernel_rfl) (by rfl) (fun K hK => ?_)
                refine wp_call (f := ?_) (args := ?_) ?_ ?_
                rotate_left 2
                · go_simp
                  (try (first | with_reducible rfl | (apply And.intro <;> rfl)))
                refine ((HR1.out _ hHeld A14 c14 H14.out)).mono ?_
                rintro e v7 ⟨rfl, hfq⟩
                refine ⟨_, rfl, hK.out _ _ (hHeld.and hfq (by simp)) (fun hHeld => ?_)⟩
                clear hK K
                simp only [Act.put, List.setIfInBounds_toArray, List.set_cons_zero, List.set_cons_succ]
                clear hfq
                refine run_at (i := 16) (v := ?_) rfl (by kernel_rfl) (by rfl) (fun _ _ _ h => h) hHeld (fun w1 hw1 => ?_) ?_
                rotate_left 1
                · skip
                  go_simp
                  (try (first | with_reducible rfl | (apply And.intro <;> rfl)))
                simp only [Act.put, List.setIfInBounds_toArray, List.set_cons_zero, List.set_cons_succ]
                refine run_at (i := 17) (v := ?_) rfl (by kernel_rfl) (by rfl) (fun _ _ _ h => h) hHeld (fun w1 hw1 => ?_) ?_
                rotate_left 1
                · skip
                  go_simp
                  (try (first | with_reducible rfl | (apply And.intro <;> rfl)))
                simp only [Act.put, List.setIfInBounds_toArray, List.set_cons_zero, List.set_cons_succ]
                refine run_at (i := 18) (v := ?_) rfl (by kernel_rfl) (by rfl) (fun _ _ _ h => h) hHeld (fun w1 hw1 => ?_) ?_
                rotate_left 1
                · skip
                  go_simp
                  (try (first | with_reducible rfl | (apply And.intro <;> rfl)))
                simp only [Act.put, List.setIfInBounds_toArray, List.set_cons_zero, List.set_cons_succ]
                refine run_at (i := 19) (v := ?_) rfl (by kernel_rfl) (by rfl) (fun _ _ _ h => h) hHeld (fun w1 hw1 => ?_) ?_
                rotate_left 1
                · skip
                  go_simp
                  (try (first | with_reducible rfl | (apply And.intro <;> rfl)))
                simp only [Act.put, List.setIfInBounds_toArray, List.set_cons_zero, List.set_cons_succ]
                refine run_at (i := 20) (v := ?_) rfl (by kernel_rfl) (by rfl) (fun _ _ _ h => h) hHeld (fun w1 hw1 => ?_) ?_
                rotate_left 1
                · skip
                  go_simp
                  (try (first | with_reducible rfl | (apply And.intro <;> rfl)))
                simp only [Act.put, List.setIfInBounds_toArray, List.set_cons_zero, List.set_cons_succ]
                refine run_at (i := 21) (v := ?_) rfl (by kernel_rfl) (by rfl) (fun _ _ _ h => h) hHeld (fun w1 hw1 => ?_) ?_
                rotate_left 1
                · skip
                  go_simp
                  (try (first | with_reducible rfl | (apply And.intro <;> rfl)))
                simp only [Act.put, List.setIfInBounds_toArray, List.set_cons_zero, List.set_cons_succ]
                refine run_at (i := 22) (v := ?_) rfl (by kernel_rfl) (by rfl) (fun _ _ _ h => h) hHeld (fun w1 hw1 => ?_) ?_
                rotate_left 1
                · skip
                  go_simp
                  (try (first | with_reducible rfl | (apply And.intro <;> rfl)))
                simp only [Act.put, List.setIfInBounds_toArray, List.set_cons_zero, List.set_cons_succ]
                refine run_at (i := 24) (v := ?_) rfl (by kernel_rfl) (by rfl) (fun _ _ _ h => h) hHeld (fun w1 hw1 => ?_) ?_
                rotate_left 1
                · skip
                  go_simp
                  (try (first | with_reducible rfl | (apply And.intro <;> rfl)))
                simp only [Act.put, List.setIfInBounds_toArray, List.set_cons_zero, List.set_cons_succ]
                refine run_at (i := 25) (v := ?_) rfl (by kernel_rfl) (by rfl) (fun _ _ _ h => h) hHeld (fun w1 hw1 => ?_) ?_
                rotate_left 1
                · skip
                  go_simp
                  (try (first | with_reducible rfl | (apply And.intro <;> rfl)))
                simp only [Act.put, List.setIfInBounds_toArray, List.set_cons_zero, List.set_cons_succ]
                refine run_at (i := 26) (v := ?_) rfl (by kernel_rfl) (by rfl) (fun _ _ _ h => h) hHeld (fun w1 hw1 => ?_) ?_
                rotate_left 1
                · skip
                  go_simp
                  (try (first | with_reducible rfl | (apply And.intro <;> rfl)))
                simp only [Act.put, List.setIfInBounds_toArray, List.set_cons_zero, List.set_cons_succ]
                refine run_at (i := 27) (v := ?_) rfl (by kernel_rfl) (by rfl) (fun _ _ _ h => h) hHeld (fun w1 hw1 => ?_) ?_
                rotate_left 1
                · skip
                  go_simp
                  (try (first | with_reducible rfl | (apply And.intro <;> rfl)))
                simp only [Act.put, List.setIfInBounds_toArray, List.set_cons_zero, List.set_cons_succ]
                refine call_at (i := 23) (f := ?_) (args := ?_) rfl (by kernel_rfl) (by rfl) ?_ ?_
                rotate_left 2
                · go_simp
                  (try (first | with_reducible rfl | (apply And.intro <;> rfl)))
                refine (HS2.out _ hHeld).mono ?_
                rintro e wq ⟨rfl, hfq⟩
                refine ⟨_, rfl, hHeld.and hfq (by simp), fun hHeld => ?_⟩
                clear hfq
                simp only [Act.put, List.setIfInBounds_toArray, List.set_cons_zero, List.set_cons_succ]
                refine call_at (i := 28) (f := ?_) (args := ?_) rfl (by kernel_rfl) (by rfl) ?_ ?_
                rotate_left 2
                · go_simp
                  (try (first | with_reducible rfl | (apply And.intro <;> rfl)))
                refine (HR2.out _ hHeld).mono ?_
                rintro e wq ⟨rfl, hfq⟩
                refine ⟨_, rfl, hHeld.and hfq (by simp), fun hHeld => ?_⟩
                clear hfq
                simp only [Act.put, List.setIfInBounds_toArray, List.set_cons_zero, List.set_cons_succ]
                refine run_at (i := 29) (v := ?_) rfl (by kernel_rfl) (by rfl) (fun _ _ _ h => h) hHeld (fun w1 hw1 => ?_) ?_
                rotate_left 1
                · skip
                  go_simp
                  (try (first | with_reducible rfl | (apply And.intro <;> rfl)))
                simp only [Act.put, List.setIfInBounds_toArray, List.set_cons_zero, List.set_cons_succ]
                refine run_at (i := 30) (v := ?_) rfl (by kernel_rfl) (by rfl) (fun _ _ _ h => h) hHeld (fun w1 hw1 => ?_) ?_
                rotate_left 1
                · skip
                  go_simp
                  (try (first | with_reducible rfl | (apply And.intro <;> rfl)))
                simp only [Act.put, List.setIfInBounds_toArray, List.set_cons_zero, List.set_cons_succ]
                refine run_at (i := 31) (v := ?_) rfl (by kernel_rfl) (by rfl) (fun _ _ _ h => h) hHeld (fun w1 hw1 => ?_) ?_
                rotate_left 1
                · skip
                  go_simp
                  (try (first | with_reducible rfl | (apply And.intro <;> rfl)))
                simp only [Act.put, List.setIfInBounds_toArray, List.set_cons_zero, List.set_cons_succ]
                refine call_at (i := 32) (f := ?_) (args := ?_) rfl (by kernel_rfl) (by rfl) ?_ ?_
                rotate_left 2
                · go_simp
                  (try (first | with_reducible rfl | (apply And.intro <;> rfl)))
                refine (shawakes_any _ (HK2.out.keep hHeld (by simp))).mono ?_
                rintro e wq ⟨rfl, hfq⟩
                refine ⟨_, rfl, hHeld.and hfq (by simp), fun hHeld => ?_⟩
                clear hfq
                simp only [Act.put, List.setIfInBounds_toArray, List.set_cons_zero, List.set_cons_succ]
                refine run_at (i := 33) (v := ?_) rfl (by kernel_rfl) (by rfl) (fun _ _ _ h => h) hHeld (fun w1 hw1 => ?_) ?_
                rotate_left 1
                · skip
                  go_simp
                  (try (first | with_reducible rfl | (apply And.intro <;> rfl)))
                simp only [Act.put, List.setIfInBounds_toArray, List.set_cons_zero, List.set_cons_succ]
                refine run_at (i := 34) (v := ?_) rfl (by kernel_rfl) (by rfl) (fun _ _ _ h => h) hHeld (fun w1 hw1 => ?_) ?_
                rotate_left 1
                · skip
                  go_simp
                  (try (first | with_reducible rfl | (apply And.intro <;> rfl)))
                simp only [Act.put, List.setIfInBounds_toArray, List.set_cons_zero, List.set_cons_succ]
                refine wpAnyH_done (by kernel_rfl) ?_ _
                go_wp2
                go_ret
                exact ⟨rfl, HF2.out.and hHeld (by simp)⟩
              · skip
                refine wp_run (v := ?_) (w' := ?_) ?_ ?_
                rotate_left 2
                · go_simp
                  (try (first | with_reducible rfl | (apply And.intro <;> rfl)))
                refine hK.out _ (v3.alloc (Obj.cells #[.int .u8 0] 5)) (hHeld.alloc _) (fun hHeld => ?_)
                clear hK K
                simp only [Act.put, List.setIfInBounds_toArray, List.set_cons_zero, List.set_cons_succ]
                have H13 : Hid (By (v3.alloc (Obj.cells #[.int .u8 0] 5)) (some ⟨v3.heap.size, 0, none⟩) 1 [0]) := Lib.hid (By.one (Blk.new _ _ _) rfl)
                generalize v3.alloc (Obj.cells #[.int .u8 0] 5) = v4 at *
                obtain ⟨g13, hg13⟩ : ∃ g, g = v3.heap.size := ⟨_, rfl⟩
                rw [← hg13] at H13 ⊢
                have HL13 : Hid (g13 < v4.heap.size) := Lib.hid (H13.out.blk_lt (by omega) g13 (by simp [bk]))
                clear hg13
                refine step_at (i := 12) rfl (by kernel_rfl) (by rfl) (fun K hK => ?_)
                refine wp_call (f := ?_) (args := ?_) ?_ ?_
                rotate_left 2
                · go_simp
                  (try (first | with_reducible rfl | (apply And.intro <;> rfl)))
                refine (HCP.out _ hHeld).mono ?_
                rintro e v5 ⟨A12, c12, rfl, hnn⟩
                refine ⟨_, rfl, hK.out _ _ (hHeld.and hnn.2.1 (by simp)) (fun hHeld => ?_)⟩
                clear hK K
                simp only [Act.put, List.setIfInBounds_toArray, List.set_cons_zero, List.set_cons_succ]
                have HL13o := HL13
                have H13 := Lib.hid (H13.out.keep hnn.2.1 (by simp))
                have HL13 := Lib.hid (Nat.lt_of_lt_of_le HL13.out hnn.2.1.size)
                have H12 : Hid (NewB w2 v5 A12 N c12 X) := Lib.hid (hnn.from_ (‹Fr [] w2 v4›))
                clear hnn
                refine step_at (i := 14) rfl (by kernel_rfl) (by rfl) (fun K hK => ?_)
                refine wp_append_bytes _ _ _ _ rfl 5 Tryd.underlying23 info_u8 (.slice A12 N c12) N X rfl H12.out.1 (some ⟨g13, 0, none⟩) 1 1 [0] rfl H13.out (by omega) ?_
                intro A14 c14 v6 hoo hgg haa
                have hnn := NewB.grow (‹Fr [] w2 v5›) H12.out.2.2 hoo hgg haa
                refine hK.out _ _ hnn.2.1 (fun hHeld => ?_)
                clear hK K
                simp only [Act.put, List.setIfInBounds_toArray, List.set_cons_zero, List.set_cons_succ]
                have H14 := Lib.hid hnn
                clear hnn hoo hgg haa
                refine step_at (i := 15) rfl (by kernel_rfl) (by rfl) (fun K hK => ?_)
                refine wp_call (f := ?_) (args := ?_) ?_ ?_
                rotate_left 2
                · go_simp
                  (try (first | with_reducible rfl | (apply And.intro <;> rfl)))
                refine ((HR1.out _ hHeld A14 c14 H14.out)).mono ?_
                rintro e v7 ⟨rfl, hfq⟩
                refine ⟨_, rfl, hK.out _ _ (hHeld.and hfq (by simp)) (fun hHeld => ?_)⟩
                clear hK K
                simp only [Act.put, List.setIfInBounds_toArray, List.set_cons_zero, List.set_cons_succ]
                clear hfq
                refine run_at (i := 16) (v := ?_) rfl (by kernel_rfl) (by rfl) (fun _ _ _ h => h) hHeld (fun w1 hw1 => ?_) ?_
                rotate_left 1
                · skip
                  go_simp
                  (try (first | with_reducible rfl | (apply And.intro <;> rfl)))
                simp only [Act.put, List.setIfInBounds_toArray, List.set_cons_zero, List.set_cons_succ]
                refine run_at (i := 17) (v := ?_) rfl (by kernel_rfl) (by rfl) (fun _ _ _ h => h) hHeld (fun w1 hw1 => ?_) ?_
                rotate_left 1
                · skip
                  go_simp
                  (try (first | with_reducible rfl | (apply And.intro <;> rfl)))
                simp only [Act.put, List.setIfInBounds_toArray, List.set_cons_zero, List.set_cons_succ]
                refine run_at (i := 18) (v := ?_) rfl (by kernel_rfl) (by rfl) (fun _ _ _ h => h) hHeld (fun w1 hw1 => ?_) ?_
                rotate_left 1
                · skip
                  go_simp
                  (try (first | with_reducible rfl | (apply And.intro <;> rfl)))
                simp only [Act.put, List.setIfInBounds_toArray, List.set_cons_zero, List.set_cons_succ]
                refine run_at (i := 19) (v := ?_) rfl (by kernel_rfl) (by rfl) (fun _ _ _ h => h) hHeld (fun w1 hw1 => ?_) ?_
                rotate_left 1
                · skip
                  go_simp
                  (try (first | with_reducible rfl | (apply And.intro <;> rfl)))
                simp only [Act.put, List.setIfInBounds_toArray, List.set_cons_zero, List.set_cons_succ]
                refine run_at (i := 20) (v := ?_) rfl (by kernel_rfl) (by rfl) (fun _ _ _ h => h) hHeld (fun w1 hw1 => ?_) ?_
                rotate_left 1
                · skip
                  go_simp
                  (try (first | with_reducible rfl | (apply And.intro <;> rfl)))
                simp only [Act.put, List.setIfInBounds_toArray, List.set_cons_zero, List.set_cons_succ]
                refine run_at (i := 21) (v := ?_) rfl (by kernel_rfl) (by rfl) (fun _ _ _ h => h) hHeld (fun w1 hw1 => ?_) ?_
                rotate_left 1
                · skip
                  go_simp
                  (try (first | with_reducible rfl | (apply And.intro <;> rfl)))
                simp only [Act.put, List.setIfInBounds_toArray, List.set_cons_zero, List.set_cons_succ]
                refine run_at (i := 22) (v := ?_) rfl (by kernel_rfl) (by rfl) (fun _ _ _ h => h) hHeld (fun w1 hw1 => ?_) ?_
                rotate_left 1
                · skip
                  go_simp
                  (try (first | with_reducible rfl | (apply And.intro <;> rfl)))
                simp only [Act.put, List.setIfInBounds_toArray, List.set_cons_zero, List.set_cons_succ]
                refine run_at (i := 24) (v := ?_) rfl (by kernel_rfl) (by rfl) (fun _ _ _ h => h) hHeld (fun w1 hw1 => ?_) ?_
                rotate_left 1
                · skip
                  go_simp
                  (try (first | with_reducible rfl | (apply And.intro <;> rfl)))
                simp only [Act.put, List.setIfInBounds_toArray, List.set_cons_zero, List.set_cons_succ]
                refine run_at (i := 25) (v := ?_) rfl (by kernel_rfl) (by rfl) (fun _ _ _ h => h) hHeld (fun w1 hw1 => ?_) ?_
                rotate_left 1
                · skip
                  go_simp
                  (try (first | with_reducible rfl | (apply And.intro <;> rfl)))
                simp only [Act.put, List.setIfInBounds_toArray, List.set_cons_zero, List.set_cons_succ]
                refine run_at (i := 26) (v := ?_) rfl (by kernel_rfl) (by rfl) (fun _ _ _ h => h) hHeld (fun w1 hw1 => ?_) ?_
                rotate_left 1
                · skip
                  go_simp
                  (try (first | with_reducible rfl | (apply And.intro <;> rfl)))
                simp only [Act.put, List.setIfInBounds_toArray, List.set_cons_zero, List.set_cons_succ]
                refine run_at (i := 27) (v := ?_) rfl (by kernel_rfl) (by rfl) (fun _ _ _ h => h) hHeld (fun w1 hw1 => ?_) ?_
                rotate_left 1
                · skip
                  go_simp
                  (try (first | with_reducible rfl | (apply And.intro <;> rfl)))
                simp only [Act.put, List.setIfInBounds_toArray, List.set_cons_zero, List.set_cons_succ]
                refine call_at (i := 23) (f := ?_) (args := ?_) rfl (by kernel_rfl) (by rfl) ?_ ?_
                rotate_left 2
                · go_simp
                  (try (first | with_reducible rfl | (apply And.intro <;> rfl)))
                refine (HS2.out _ hHeld).mono ?_
                rintro e wq ⟨rfl, hfq⟩
                refine ⟨_, rfl, hHeld.and hfq (by simp), fun hHeld => ?_⟩
                clear hfq
                simp only [Act.put, List.setIfInBounds_toArray, List.set_cons_zero, List.set_cons_succ]
                refine call_at (i := 28) (f := ?_) (args := ?_) rfl (by kernel_rfl) (by rfl) ?_ ?_
                rotate_left 2
                · go_simp
                  (try (first | with_reducible rfl | (apply And.intro <;> rfl)))
                refine (HR2.out _ hHeld).mono ?_
                rintro e wq ⟨rfl, hfq⟩
                refine ⟨_, rfl, hHeld.and hfq (by simp), fun hHeld => ?_⟩
                clear hfq
                simp only [Act.put, List.setIfInBounds_toArray, List.set_cons_zero, List.set_cons_succ]
                refine run_at (i := 29) (v := ?_) rfl (by kernel_rfl) (by rfl) (fun _ _ _ h => h) hHeld (fun w1 hw1 => ?_) ?_
                rotate_left 1
                · skip
                  go_simp
                  (try (first | with_reducible rfl | (apply And.intro <;> rfl)))
                simp only [Act.put, List.setIfInBounds_toArray, List.set_cons_zero, List.set_cons_succ]
                refine run_at (i := 30) (v := ?_) rfl (by kernel_rfl) (by rfl) (fun _ _ _ h => h) hHeld (fun w1 hw1 => ?_) ?_
                rotate_left 1
                · skip
                  go_simp
                  (try (first | with_reducible rfl | (apply And.intro <;> rfl)))
                simp only [Act.put, List.setIfInBounds_toArray, List.set_cons_zero, List.set_cons_succ]
                refine run_at (i := 31) (v := ?_) rfl (by kernel_rfl) (by rfl) (fun _ _ _ h => h) hHeld (fun w1 hw1 => ?_) ?_
                rotate_left 1
                · skip
                  go_simp
                  (try (first | with_reducible rfl | (apply And.intro <;> rfl)))
                simp only [Act.put, List.setIfInBounds_toArray, List.set_cons_zero, List.set_cons_succ]
                refine call_at (i := 32) (f := ?_) (args := ?_) rfl (by kernel_rfl) (by rfl) ?_ ?_
                rotate_left 2
                · go_simp
                  (try (first | with_reducible rfl | (apply And.intro <;> rfl)))
                refine (shawakes_any _ (HK2.out.keep hHeld (by simp))).mono ?_
                rintro e wq ⟨rfl, hfq⟩
                refine ⟨_, rfl, hHeld.and hfq (by simp), fun hHeld => ?_⟩
                clear hfq
                simp only [Act.put, List.setIfInBounds_toArray, List.set_cons_zero, List.set_cons_succ]
                refine run_at (i := 33) (v := ?_) rfl (by kernel_rfl) (by rfl) (fun _ _ _ h => h) hHeld (fun w1 hw1 => ?_) ?_
                rotate_left 1
                · skip
                  go_simp
                  (try (first | with_reducible rfl | (apply And.intro <;> rfl)))
                simp only [Act.put, List.setIfInBounds_toArray, List.set_cons_zero, List.set_cons_succ]
                refine run_at (i := 34) (v := ?_) rfl (by kernel_rfl) (by rfl) (fun _ _ _ h => h) hHeld (fun w1 hw1 => ?_) ?_
                rotate_left 1
                · skip
                  go_simp
                  (try (first | with_reducible rfl | (apply And.intro <;> rfl)))
                simp only [Act.put, List.setIfInBounds_toArray, List.set_cons_zero, List.set_cons_succ]
                refine wpAnyH_done (by kernel_rfl) ?_ _
                go_wp2
                go_ret
                exact ⟨rfl, HF2.out.and hHeld (by simp)⟩
            · skip
              refine wp_run (v := ?_) (w' := ?_) ?_ ?_
              rotate_left 2
              · go_simp
                (try (first | with_reducible rfl | (apply And.intro <;> rfl)))
              refine hK.out _ (v2.alloc (Obj.cells #[.int .u8 0] 5)) (hHeld.alloc _) (fun hHeld => ?_)
              clear hK K
              simp only [Act.put, List.setIfInBounds_toArray, List.set_cons_zero, List.set_cons_succ]
              have H9 := Lib.hid (H9.out.next ((Fr.refl [] v2).alloc (Obj.cells #[.int .u8 0] 5)))
              have H13 : Hid (By (v2.alloc (Obj.cells #[.int .u8 0] 5)) (some ⟨v2.heap.size, 0, none⟩) 1 [0]) := Lib.hid (By.one (Blk.new _ _ _) rfl)
              generalize v2.alloc (Obj.cells #[.int .u8 0] 5) = v3 at *
              obtain ⟨g13, hg13⟩ : ∃ g, g = v2.heap.size := ⟨_, rfl⟩
              rw [← hg13] at H13 ⊢
              have HL13 : Hid (g13 < v3.heap.size) := Lib.hid (H13.out.blk_lt (by omega) g13 (by simp [bk]))
              clear hg13
              refine step_at (i := 10) rfl (by kernel_rfl) (by rfl) (fun K hK => ?_)
              refine wp_call (f := ?_) (args := ?_) ?_ ?_
              rotate_left 2
              · go_simp
                (try (first | with_reducible rfl | (apply And.intro <;> rfl)))
              refine ((HS1.out _ hHeld A9 c9 H9.out)).mono ?_
              rintro e v4 ⟨rfl, hfq⟩
              refine ⟨_, rfl, hK.out _ _ (hHeld.and hfq (by simp)) (fun hHeld => ?_)⟩
              clear hK K
              simp only [Act.put, List.setIfInBounds_toArray, List.set_cons_zero, List.set_cons_succ]
              have H13 := Lib.hid (H13.out.keep hfq (by simp))
              have HL13 := Lib.hid (Nat.lt_of_lt_of_le HL13.out hfq.size)
              clear hfq
              refine step_at (i := 12) rfl (by kernel_rfl) (by rfl) (fun K hK => ?_)
              refine wp_call (f := ?_) (args := ?_) ?_ ?_
              rotate_left 2
              · go_simp
                (try (first | with_reducible rfl | (apply And.intro <;> rfl)))
              refine (HCP.out _ hHeld).mono ?_
              rintro e v5 ⟨A12, c12, rfl, hnn⟩
              refine ⟨_, rfl, hK.out _ _ (hHeld.and hnn.2.1 (by simp)) (fun hHeld => ?_)⟩
              clear hK K
              simp only [Act.put, List.setIfInBounds_toArray, List.set_cons_zero, List.set_cons_succ]
              have HL13o := HL13
              have H13 := Lib.hid (H13.out.keep hnn.2.1 (by simp))
              have HL13 := Lib.hid (Nat.lt_of_lt_of_le HL13.out hnn.2.1.size)
              have H12 : Hid (NewB w2 v5 A12 N c12 X) := Lib.hid (hnn.from_ (‹Fr [] w2 v4›))
              clear hnn
              refine step_at (i := 14) rfl (by kernel_rfl) (by rfl) (fun K hK => ?_)
              refine wp_append_bytes _ _ _ _ rfl 5 Tryd.underlying23 info_u8 (.slice A12 N c12) N X rfl H12.out.1 (some ⟨g13, 0, none⟩) 1 1 [0] rfl H13.out (by omega) ?_
              intro A14 c14 v6 hoo hgg haa
              have hnn := NewB.grow (‹Fr [] w2 v5›) H12.out.2.2 hoo hgg haa
              refine hK.out _ _ hnn.2.1 (fun hHeld => ?_)
              clear hK K
              simp only [Act.put, List.setIfInBounds_toArray, List.set_cons_zero, List.set_cons_succ]
              have H14 := Lib.hid hnn
              clear hnn hoo hgg haa
              refine step_at (i := 15) rfl (by kernel_rfl) (by rfl) (fun K hK => ?_)
              refine wp_call (f := ?_) (args := ?_) ?_ ?_
              rotate_left 2
              · go_simp
                (try (first | with_reducible rfl | (apply And.intro <;> rfl)))
              refine ((HR1.out _ hHeld A14 c14 H14.out)).mono ?_
              rintro e v7 ⟨rfl, hfq⟩
              refine ⟨_, rfl, hK.out _ _ (hHeld.and hfq (by simp)) (fun hHeld => ?_)⟩
              clear hK K
              simp only [Act.put, List.setIfInBounds_toArray, List.set_cons_zero, List.set_cons_succ]
              clear hfq
              refine run_at (i := 16) (v := ?_) rfl (by kernel_rfl) (by rfl) (fun _ _ _ h => h) hHeld (fun w1 hw1 => ?_) ?_
              rotate_left 1
              · skip
                go_simp
                (try (first | with_reducible rfl | (apply And.intro <;> rfl)))
              simp only [Act.put, List.setIfInBounds_toArray, List.set_cons_zero, List.set_cons_succ]
              refine run_at (i := 17) (v := ?_) rfl (by kernel_rfl) (by rfl) (fun _ _ _ h => h) hHeld (fun w1 hw1 => ?_) ?_
              rotate_left 1
              · skip
                go_simp
                (try (first | with_reducible rfl | (apply And.intro <;> rfl)))
              simp only [Act.put, List.setIfInBounds_toArray, List.set_cons_zero, List.set_cons_succ]
              refine run_at (i := 18) (v := ?_) rfl (by kernel_rfl) (by rfl) (fun _ _ _ h => h) hHeld (fun w1 hw1 => ?_) ?_
              rotate_left 1
              · skip
                go_simp
                (try (first | with_reducible rfl | (apply And.intro <;> rfl)))
              simp only [Act.put, List.setIfInBounds_toArray, List.set_cons_zero, List.set_cons_succ]
              refine run_at (i := 19) (v := ?_) rfl (by kernel_rfl) (by rfl) (fun _ _ _ h => h) hHeld (fun w1 hw1 => ?_) ?_
              rotate_left 1
              · skip
                go_simp
                (try (first | with_reducible rfl | (apply And.intro <;> rfl)))
              simp only [Act.put, List.setIfInBounds_toArray, List.set_cons_zero, List.set_cons_succ]
              refine run_at (i := 20) (v := ?_) rfl (by kernel_rfl) (by rfl) (fun _ _ _ h => h) hHeld (fun w1 hw1 => ?_) ?_
              rotate_left 1
              · skip
                go_simp
                (try (first | with_reducible rfl | (apply And.intro <;> rfl)))
              simp only [Act.put, List.setIfInBounds_toArray, List.set_cons_zero, List.set_cons_succ]
              refine run_at (i := 21) (v := ?_) rfl (by kernel_rfl) (by rfl) (fun _ _ _ h => h) hHeld (fun w1 hw1 => ?_) ?_
              rotate_left 1
              · skip
                go_simp
                (try (first | with_reducible rfl | (apply And.intro <;> rfl)))
              simp only [Act.put, List.setIfInBounds_toArray, List.set_cons_zero, List.set_cons_succ]
              refine run_at (i := 22) (v := ?_) rfl (by kernel_rfl) (by rfl) (fun _ _ _ h => h) hHeld (fun w1 hw1 => ?_) ?_
              rotate_left 1
              · skip
                go_simp
                (try (first | with_reducible rfl | (apply And.intro <;> rfl)))
              simp only [Act.put, List.setIfInBounds_toArray, List.set_cons_zero, List.set_cons_succ]
              refine run_at (i := 24) (v := ?_) rfl (by kernel_rfl) (by rfl) (fun _ _ _ h => h) hHeld (fun w1 hw1 => ?_) ?_
              rotate_left 1
              · skip
                go_simp
                (try (first | with_reducible rfl | (apply And.intro <;> rfl)))
              simp only [Act.put, List.setIfInBounds_toArray, List.set_cons_zero, List.set_cons_succ]
              refine run_at (i := 25) (v := ?_) rfl (by kernel_rfl) (by rfl) (fun _ _ _ h => h) hHeld (fun w1 hw1 => ?_) ?_
              rotate_left 1
              · skip
                go_simp
                (try (first | with_reducible rfl | (apply And.intro <;> rfl)))
              simp only [Act.put, List.setIfInBounds_toArray, List.set_cons_zero, List.set_cons_succ]
              refine run_at (i := 26) (v := ?_) rfl (by kernel_rfl) (by rfl) (fun _ _ _ h => h) hHeld (fun w1 hw1 => ?_) ?_
              rotate_left 1
              · skip
                go_simp
                (try (first | with_reducible rfl | (apply And.intro <;> rfl)))
              simp only [Act.put, List.setIfInBounds_toArray, List.set_cons_zero, List.set_cons_succ]
              refine run_at (i := 27) (v := ?_) rfl (by kernel_rfl) (by rfl) (fun _ _ _ h => h) hHeld (fun w1 hw1 => ?_) ?_
              rotate_left 1
              · skip
                go_simp
                (try (first | with_reducible rfl | (apply And.intro <;> rfl)))
              simp only [Act.put, List.setIfInBounds_toArray, List.set_cons_zero, List.set_cons_succ]
              refine call_at (i := 23) (f := ?_) (args := ?_) rfl (by kernel_rfl) (by rfl) ?_ ?_
              rotate_left 2
              · go_simp
                (try (first | with_reducible rfl | (apply And.intro <;> rfl)))
              refine (HS2.out _ hHeld).mono ?_
              rintro e wq ⟨rfl, hfq⟩
              refine ⟨_, rfl, hHeld.and hfq (by simp), fun hHeld => ?_⟩
              clear hfq
              simp only [Act.put, List.setIfInBounds_toArray, List.set_cons_zero, List.set_cons_succ]
              refine call_at (i := 28) (f := ?_) (args := ?_) rfl (by kernel_rfl) (by rfl) ?_ ?_
              rotate_left 2
              · go_simp
                (try (first | with_reducible rfl | (apply And.intro <;> rfl)))
              refine (HR2.out _ hHeld).mono ?_
              rintro e wq ⟨rfl, hfq⟩
              refine ⟨_, rfl, hHeld.and hfq (by simp), fun hHeld => ?_⟩
              clear hfq
              simp only [Act.put, List.setIfInBounds_toArray, List.set_cons_zero, List.set_cons_succ]
              refine run_at (i := 29) (v := ?_) rfl (by kernel_rfl) (by rfl) (fun _ _ _ h => h) hHeld (fun w1 hw1 => ?_) ?_
              rotate_left 1
              · skip
                go_simp
                (try (first | with_reducible rfl | (apply And.intro <;> rfl)))
              simp only [Act.put, List.setIfInBounds_toArray, List.set_cons_zero, List.set_cons_succ]
              refine run_at (i := 30) (v := ?_) rfl (by kernel_rfl) (by rfl) (fun _ _ _ h => h) hHeld (fun w1 hw1 => ?_) ?_
              rotate_left 1
              · skip
                go_simp
                (try (first | with_reducible rfl | (apply And.intro <;> rfl)))
              simp only [Act.put, List.setIfInBounds_toArray, List.set_cons_zero, List.set_cons_succ]
              refine run_at (i := 31) (v := ?_) rfl (by kernel_rfl) (by rfl) (fun _ _ _ h => h) hHeld (fun w1 hw1 => ?_) ?_
              rotate_left 1
              · skip
                go_simp
                (try (first | with_reducible rfl | (apply And.intro <;> rfl)))
              simp only [Act.put, List.setIfInBounds_toArray, List.set_cons_zero, List.set_cons_succ]
              refine call_at (i := 32) (f := ?_) (args := ?_) rfl (by kernel_rfl) (by rfl) ?_ ?_
              rotate_left 2
              · go_simp
                (try (first | with_reducible rfl | (apply And.intro <;> rfl)))
              refine (shawakes_any _ (HK2.out.keep hHeld (by simp))).mono ?_
              rintro e wq ⟨rfl, hfq⟩
              refine ⟨_, rfl, hHeld.and hfq (by simp), fun hHeld => ?_⟩
              clear hfq
              simp only [Act.put, List.setIfInBounds_toArray, List.set_cons_zero, List.set_cons_succ]
              refine run_at (i := 33) (v := ?_) rfl (by kernel_rfl) (by rfl) (fun _ _ _ h => h) hHeld (fun w1 hw1 => ?_) ?_
              rotate_left 1
              · skip
                go_simp
                (try (first | with_reducible rfl | (apply And.intro <;> rfl)))
              simp only [Act.put, List.setIfInBounds_toArray, List.set_cons_zero, List.set_cons_succ]
              refine run_at (i := 34) (v := ?_) rfl (by kernel_rfl) (by rfl) (fun _ _ _ h => h) hHeld (fun w1 hw1 => ?_) ?_
              rotate_left 1
              · skip
                go_simp
                (try (first | with_reducible rfl | (apply And.intro <;> rfl)))
              simp only [Act.put, List.setIfInBounds_toArray, List.set_cons_zero, List.set_cons_succ]
              refine wpAnyH_done (by kernel_rfl) ?_ _
              go_wp2
              go_ret
              exact ⟨rfl, HF2.out.and hHeld (by simp)⟩
          · skip
            have HLT7 : Hid (∀ k ∈ bk A7, k < v1.heap.size) := Lib.hid H7.out.lt
            refine wp_run (v := ?_) (w' := ?_) ?_ ?_
            rotate_left 2
            · go_simp
              (try (first | with_reducible rfl | (apply And.intro <;> rfl)))
            refine hK.out _ (v1.alloc (Obj.cells #[.int .u8 0] 5)) (hHeld.alloc _) (fun hHeld => ?_)
            clear hK K
            simp only [Act.put, List.setIfInBounds_toArray, List.set_cons_zero, List.set_cons_succ]
            have H7 := Lib.hid (H7.out.next ((Fr.refl [] v1).alloc (Obj.cells #[.int .u8 0] 5)))
            have H8 := Lib.hid (H8.out.keep ((Fr.refl [] v1).alloc (Obj.cells #[.int .u8 0] 5)) (by simp))
            have H13 : Hid (By (v1.alloc (Obj.cells #[.int .u8 0] 5)) (some ⟨v1.heap.size, 0, none⟩) 1 [0]) := Lib.hid (By.one (Blk.new _ _ _) rfl)
            generalize v1.alloc (Obj.cells #[.int .u8 0] 5) = v2 at *
            obtain ⟨g13, hg13⟩ : ∃ g, g = v1.heap.size := ⟨_, rfl⟩
            rw [← hg13] at H13 ⊢
            have HD13 : Hid (¬ g13 ∈ bk A7) := Lib.hid (fun hm => by have h1 := HLT7.out _ hm; omega)
            have HL13 : Hid (g13 < v2.heap.size) := Lib.hid (H13.out.blk_lt (by omega) g13 (by simp [bk]))
            clear hg13
            refine step_at (i := 9) rfl (by kernel_rfl) (by rfl) (fun K hK => ?_)
            refine wp_append_bytes _ _ _ _ rfl 5 Tryd.underlying23 info_u8 (.slice A7 N c7) N X rfl H7.out.1 (some ⟨g8, 0, none⟩) 1 1 [0] rfl H8.out (by omega) ?_
            intro A9 c9 v3 hoo hgg haa
            have hnn := NewB.grow (‹Fr [] w2 v2›) H7.out.2.2 hoo hgg haa
            refine hK.out _ _ hnn.2.1 (fun hHeld => ?_)
            clear hK K
            simp only [Act.put, List.setIfInBounds_toArray, List.set_cons_zero, List.set_cons_succ]
            have hf9 : Fr (bk A7) v2 v3 := ((Fr.refl [] v2).mono (T := bk A7) (by simp)).grown hgg (fun y hy _ => by rw [bk_mem] at hy; exact hy)
            have H13 := Lib.hid (H13.out.keep hf9 (fun a ha => by injection ha with ha; subst ha; exact HD13.out))
            have HL13 : Hid (g13 < v3.heap.size) := Lib.hid (H13.out.blk_lt (by omega) g13 (by simp [bk]))
            clear hf9
            have H9 := Lib.hid hnn
            clear hnn hoo hgg haa
            refine step_at (i := 10) rfl (by kernel_rfl) (by rfl) (fun K hK => ?_)
            refine wp_call (f := ?_) (args := ?_) ?_ ?_
            rotate_left 2
            · go_simp
              (try (first | with_reducible rfl | (apply And.intro <;> rfl)))
            refine ((HS1.out _ hHeld A9 c9 H9.out)).mono ?_
            rintro e v4 ⟨rfl, hfq⟩
            refine ⟨_, rfl, hK.out _ _ (hHeld.and hfq (by simp)) (fun hHeld => ?_)⟩
            clear hK K
            simp only [Act.put, List.setIfInBounds_toArray, List.set_cons_zero, List.set_cons_succ]
            have H13 := Lib.hid (H13.out.keep hfq (by simp))
            have HL13 := Lib.hid (Nat.lt_of_lt_of_le HL13.out hfq.size)
            clear hfq
            refine step_at (i := 12) rfl (by kernel_rfl) (by rfl) (fun K hK => ?_)
            refine wp_call (f := ?_) (args := ?_) ?_ ?_
            rotate_left 2
            · go_simp
              (try (first | with_reducible rfl | (apply And.intro <;> rfl)))
            refine (HCP.out _ hHeld).mono ?_
            rintro e v5 ⟨A12, c12, rfl, hnn⟩
            refine ⟨_, rfl, hK.out _ _ (hHeld.and hnn.2.1 (by simp)) (fun hHeld => ?_)⟩
            clear hK K
            simp only [Act.put, List.setIfInBounds_toArray, List.set_cons_zero, List.set_cons_succ]
            have HL13o := HL13
            have H13 := Lib.hid (H13.out.keep hnn.2.1 (by simp))
            have HL13 := Lib.hid (Nat.lt_of_lt_of_le HL13.out hnn.2.1.size)
            have H12 : Hid (NewB w2 v5 A12 N c12 X) := Lib.hid (hnn.from_ (‹Fr [] w2 v4›))
            clear hnn
            refine step_at (i := 14) rfl (by kernel_rfl) (by rfl) (fun K hK => ?_)
            refine wp_append_bytes _ _ _ _ rfl 5 Tryd.underlying23 info_u8 (.slice A12 N c12) N X rfl H12.out.1 (some ⟨g13, 0, none⟩) 1 1 [0] rfl H13.out (by omega) ?_
            intro A14 c14 v6 hoo hgg haa
            have hnn := NewB.grow (‹Fr [] w2 v5›) H12.out.2.2 hoo hgg haa
            refine hK.out _ _ hnn.2.1 (fun hHeld => ?_)
            clear hK K
            simp only [Act.put, List.setIfInBounds_toArray, List.set_cons_zero, List.set_cons_succ]
            have H14 := Lib.hid hnn
            clear hnn hoo hgg haa
            refine step_at (i := 15) rfl (by kernel_rfl) (by rfl) (fun K hK => ?_)
            refine wp_call (f := ?_) (args := ?_) ?_ ?_
            rotate_left 2
            · go_simp
              (try (first | with_reducible rfl | (apply And.intro <;> rfl)))
            refine ((HR1.out _ hHeld A14 c14 H14.out)).mono ?_
            rintro e v7 ⟨rfl, hfq⟩
            refine ⟨_, rfl, hK.out _ _ (hHeld.and hfq (by simp)) (fun hHeld => ?_)⟩
            clear hK K
            simp only [Act.put, List.setIfInBounds_toArray, List.set_cons_zero, List.set_cons_succ]
            clear hfq
            refine run_at (i := 16) (v := ?_) rfl (by kernel_rfl) (by rfl) (fun _ _ _ h => h) hHeld (fun w1 hw1 => ?_) ?_
            rotate_left 1
            · skip
              go_simp
              (try (first | with_reducible rfl | (apply And.intro <;> rfl)))
            simp only [Act.put, List.setIfInBounds_toArray, List.set_cons_zero, List.set_cons_succ]
            refine run_at (i := 17) (v := ?_) rfl (by kernel_rfl) (by rfl) (fun _ _ _ h => h) hHeld (fun w1 hw1 => ?_) ?_
            rotate_left 1
            · skip
              go_simp
              (try (first | with_reducible rfl | (apply And.intro <;> rfl)))
            simp only [Act.put, List.setIfInBounds_toArray, List.set_cons_zero, List.set_cons_succ]
            refine run_at (i := 18) (v := ?_) rfl (by kernel_rfl) (by rfl) (fun _ _ _ h => h) hHeld (fun w1 hw1 => ?_) ?_
            rotate_left 1
            · skip
              go_simp
              (try (first | with_reducible rfl | (apply And.intro <;> rfl)))
            simp only [Act.put, List.setIfInBounds_toArray, List.set_cons_zero, List.set_cons_succ]
            refine run_at (i := 19) (v := ?_) rfl (by kernel_rfl) (by rfl) (fun _ _ _ h => h) hHeld (fun w1 hw1 => ?_) ?_
            rotate_left 1
            · skip
              go_simp
              (try (first | with_reducible rfl | (apply And.intro <;> rfl)))
            simp only [Act.put, List.setIfInBounds_toArray, List.set_cons_zero, List.set_cons_succ]
            refine run_at (i := 20) (v := ?_) rfl (by kernel_rfl) (by rfl) (fun _ _ _ h => h) hHeld (fun w1 hw1 => ?_) ?_
            rotate_left 1
            · skip
              go_simp
              (try (first | with_reducible rfl | (apply And.intro <;> rfl)))
            simp only [Act.put, List.setIfInBounds_toArray, List.set_cons_zero, List.set_cons_succ]
            refine run_at (i := 21) (v := ?_) rfl (by kernel_rfl) (by rfl) (fun _ _ _ h => h) hHeld (fun w1 hw1 => ?_) ?_
            rotate_left 1
            · skip
              go_simp
              (try (first | with_reducible rfl | (apply And.intro <;> rfl)))
            simp only [Act.put, List.setIfInBounds_toArray, List.set_cons_zero, List.set_cons_succ]
            refine run_at (i := 22) (v := ?_) rfl (by kernel_rfl) (by rfl) (fun _ _ _ h => h) hHeld (fun w1 hw1 => ?_) ?_
            rotate_left 1
            · skip
              go_simp
              (try (first | with_reducible rfl | (apply And.intro <;> rfl)))
            simp only [Act.put, List.setIfInBounds_toArray, List.set_cons_zero, List.set_cons_succ]
            refine run_at (i := 24) (v := ?_) rfl (by kernel_rfl) (by rfl) (fun _ _ _ h => h) hHeld (fun w1 hw1 => ?_) ?_
            rotate_left 1
            · skip
              go_simp
              (try (first | with_reducible rfl | (apply And.intro <;> rfl)))
            simp only [Act.put, List.setIfInBounds_toArray, List.set_cons_zero, List.set_cons_succ]
            refine run_at (i := 25) (v := ?_) rfl (by kernel_rfl) (by rfl) (fun _ _ _ h => h) hHeld (fun w1 hw1 => ?_) ?_
            rotate_left 1
            · skip
              go_simp
              (try (first | with_reducible rfl | (apply And.intro <;> rfl)))
            simp only [Act.put, List.setIfInBounds_toArray, List.set_cons_zero, List.set_cons_succ]
            refine run_at (i := 26) (v := ?_) rfl (by kernel_rfl) (by rfl) (fun _ _ _ h => h) hHeld (fun w1 hw1 => ?_) ?_
            rotate_left 1
            · skip
              go_simp
              (try (first | with_reducible rfl | (apply And.intro <;> rfl)))
            simp only [Act.put, List.setIfInBounds_toArray, List.set_cons_zero, List.set_cons_succ]
            refine run_at (i := 27) (v := ?_) rfl (by kernel_rfl) (by rfl) (fun _ _ _ h => h) hHeld (fun w1 hw1 => ?_) ?_
            rotate_left 1
            · skip
              go_simp
              (try (first | with_reducible rfl | (apply And.intro <;> rfl)))
            simp only [Act.put, List.setIfInBounds_toArray, List.set_cons_zero, List.set_cons_succ]
            refine call_at (i := 23) (f := ?_) (args := ?_) rfl (by kernel_rfl) (by rfl) ?_ ?_
            rotate_left 2
            · go_simp
              (try (first | with_reducible rfl | (apply And.intro <;> rfl)))
            refine (HS2.out _ hHeld).mono ?_
            rintro e wq ⟨rfl, hfq⟩
            refine ⟨_, rfl, hHeld.and hfq (by simp), fun hHeld => ?_⟩
            clear hfq
            simp only [Act.put, List.setIfInBounds_toArray, List.set_cons_zero, List.set_cons_succ]
            refine call_at (i := 28) (f := ?_) (args := ?_) rfl (by kernel_rfl) (by rfl) ?_ ?_
            rotate_left 2
            · go_simp
              (try (first | with_reducible rfl | (apply And.intro <;> rfl)))
            refine (HR2.out _ hHeld).mono ?_
            rintro e wq ⟨rfl, hfq⟩
            refine ⟨_, rfl, hHeld.and hfq (by simp), fun hHeld => ?_⟩
            clear hfq
            simp only [Act.put, List.setIfInBounds_toArray, List.set_cons_zero, List.set_cons_succ]
            refine run_at (i := 29) (v := ?_) rfl (by kernel_rfl) (by rfl) (fun _ _ _ h => h) hHeld (fun w1 hw1 => ?_) ?_
            rotate_left 1
            · skip
              go_simp
              (try (first | with_reducible rfl | (apply And.intro <;> rfl)))
            simp only [Act.put, List.setIfInBounds_toArray, List.set_cons_zero, List.set_cons_succ]
            refine run_at (i := 30) (v := ?_) rfl (by kernel_rfl) (by rfl) (fun _ _ _ h => h) hHeld (fun w1 hw1 => ?_) ?_
            rotate_left 1
            · skip
              go_simp
              (try (first | with_reducible rfl | (apply And.intro <;> rfl)))
            simp only [Act.put, List.setIfInBounds_toArray, List.set_cons_zero, List.set_cons_succ]
            refine run_at (i := 31) (v := ?_) rfl (by kernel_rfl) (by rfl) (fun _ _ _ h => h) hHeld (fun w1 hw1 => ?_) ?_
            rotate_left 1
            · skip
              go_simp
              (try (first | with_reducible rfl | (apply And.intro <;> rfl)))
            simp only [Act.put, List.setIfInBounds_toArray, List.set_cons_zero, List.set_cons_succ]
            refine call_at (i := 32) (f := ?_) (args := ?_) rfl (by kernel_rfl) (by rfl) ?_ ?_
            rotate_left 2
            · go_simp
              (try (first | with_reducible rfl | (apply And.intro <;> rfl)))
            refine (shawakes_any _ (HK2.out.keep hHeld (by simp))).mono ?_
            rintro e wq ⟨rfl, hfq⟩
            refine ⟨_, rfl, hHeld.and hfq (by simp), fun hHeld => ?_⟩
            clear hfq
            simp only [Act.put, List.setIfInBounds_toArray, List.set_cons_zero, List.set_cons_succ]
            refine run_at (i := 33) (v := ?_) rfl (by kernel_rfl) (by rfl) (fun _ _ _ h => h) hHeld (fun w1 hw1 => ?_) ?_
            rotate_left 1
            · skip
              go_simp
              (try (first | with_reducible rfl | (apply And.intro <;> rfl)))
            simp only [Act.put, List.setIfInBounds_toArray, List.set_cons_zero, List.set_cons_succ]
            refine run_at (i := 34) (v := ?_) rfl (by kernel_rfl) (by rfl) (fun _ _ _ h => h) hHeld (fun w1 hw1 => ?_) ?_
            rotate_left 1
            · skip
              go_simp
              (try (first | with_reducible rfl | (apply And.intro <;> rfl)))
            simp only [Act.put, List.setIfInBounds_toArray, List.set_cons_zero, List.set_cons_succ]
            refine wpAnyH_done (by kernel_rfl) ?_ _
            go_wp2
            go_ret
            exact ⟨rfl, HF2.out.and hHeld (by simp)⟩
        · skip
          have HLT7 : Hid (∀ k ∈ bk A7, k < v0.heap.size) := Lib.hid H7.out.lt
          refine wp_run (v := ?_) (w' := ?_) ?_ ?_
          rotate_left 2
          · go_simp
            (try (first | with_reducible rfl | (apply And.intro <;> rfl)))
          refine hK.out _ (v0.alloc (Obj.cells #[.int .u8 0] 5)) (hHeld.alloc _) (fun hHeld => ?_)
          clear hK K
          simp only [Act.put, List.setIfInBounds_toArray, List.set_cons_zero, List.set_cons_succ]
          have H7 := Lib.hid (H7.out.next ((Fr.refl [] v0).alloc (Obj.cells #[.int .u8 0] 5)))
          have H13 : Hid (By (v0.alloc (Obj.cells #[.int .u8 0] 5)) (some ⟨v0.heap.size, 0, none⟩) 1 [0]) := Lib.hid (By.one (Blk.new _ _ _) rfl)
          generalize v0.alloc (Obj.cells #[.int .u8 0] 5) = v1 at *
          obtain ⟨g13, hg13⟩ : ∃ g, g = v0.heap.size := ⟨_, rfl⟩
          rw [← hg13] at H13 ⊢
          have HD13 : Hid (¬ g13 ∈ bk A7) := Lib.hid (fun hm => by have h1 := HLT7.out _ hm; omega)
          have HL13 : Hid (g13 < v1.heap.size) := Lib.hid (H13.out.blk_lt (by omega) g13 (by simp [bk]))
          clear hg13
          refine step_at (i := 8) rfl (by kernel_rfl) (by rfl) (fun K hK => ?_)
          refine wp_run (v := ?_) (w' := ?_) ?_ ?_
          rotate_left 2
          · go_simp
            (try (first | with_reducible rfl | (apply And.intro <;> rfl)))
          refine hK.out _ (v1.alloc (Obj.cells #[.int .u8 0] 5)) (hHeld.alloc _) (fun hHeld => ?_)
          clear hK K
          simp only [Act.put, List.setIfInBounds_toArray, List.set_cons_zero, List.set_cons_succ]
          have H7 := Lib.hid (H7.out.next ((Fr.refl [] v1).alloc (Obj.cells #[.int .u8 0] 5)))
          have H13 := Lib.hid (H13.out.keep ((Fr.refl [] v1).alloc (Obj.cells #[.int .u8 0] 5)) (by simp))
          have HL13 := Lib.hid (Nat.lt_of_lt_of_le HL13.out ((Fr.refl [] v1).alloc (Obj.cells #[.int .u8 0] 5)).size)
          have H8 : Hid (By (v1.alloc (Obj.cells #[.int .u8 0] 5)) (some ⟨v1.heap.size, 0, none⟩) 1 [0]) := Lib.hid (By.one (Blk.new _ _ _) rfl)
          generalize v1.alloc (Obj.cells #[.int .u8 0] 5) = v2 at *
          obtain ⟨g8, hg8⟩ : ∃ g, g = v1.heap.size := ⟨_, rfl⟩
          rw [← hg8] at H8 ⊢
          clear hg8
          refine step_at (i := 9) rfl (by kernel_rfl) (by rfl) (fun K hK => ?_)
          refine wp_append_bytes _ _ _ _ rfl 5 Tryd.underlying23 info_u8 (.slice A7 N c7) N X rfl H7.out.1 (some ⟨g8, 0, none⟩) 1 1 [0] rfl H8.out (by omega) ?_
          intro A9 c9 v3 hoo hgg haa
          have hnn := NewB.grow (‹Fr [] w2 v2›) H7.out.2.2 hoo hgg haa
          refine hK.out _ _ hnn.2.1 (fun hHeld => ?_)
          clear hK K
          simp only [Act.put, List.setIfInBounds_toArray, List.set_cons_zero, List.set_cons_succ]
          have hf9 : Fr (bk A7) v2 v3 := ((Fr.refl [] v2).mono (T := bk A7) (by simp)).grown hgg (fun y hy _ => by rw [bk_mem] at hy; exact hy)
          have H13 := Lib.hid (H13.out.keep hf9 (fun a ha => by injection ha with ha; subst ha; exact HD13.out))
          have HL13 : Hid (g13 < v3.heap.size) := Lib.hid (H13.out.blk_lt (by omega) g13 (by simp [bk]))
          clear hf9
          have H9 := Lib.hid hnn
          clear hnn hoo hgg haa
          refine step_at (i := 10) rfl (by kernel_rfl) (by rfl) (fun K hK => ?_)
          refine wp_call (f := ?_) (args := ?_) ?_ ?_
          rotate_left 2
          · go_simp
            (try (first | with_reducible rfl | (apply And.intro <;> rfl)))
          refine ((HS1.out _ hHeld A9 c9 H9.out)).mono ?_
          rintro e v4 ⟨rfl, hfq⟩
          refine ⟨_, rfl, hK.out _ _ (hHeld.and hfq (by simp)) (fun hHeld => ?_)⟩
          clear hK K
          simp only [Act.put, List.setIfInBounds_toArray, List.set_cons_zero, List.set_cons_succ]
          have H13 := Lib.hid (H13.out.keep hfq (by simp))
          have HL13 := Lib.hid (Nat.lt_of_lt_of_le HL13.out hfq.size)
          clear hfq
          refine step_at (i := 12) rfl (by kernel_rfl) (by rfl) (fun K hK => ?_)
          refine wp_call (f := ?_) (args := ?_) ?_ ?_
          rotate_left 2
          · go_simp
            (try (first | with_reducible rfl | (apply And.intro <;> rfl)))
          refine (HCP.out _ hHeld).mono ?_
          rintro e v5 ⟨A12, c12, rfl, hnn⟩
          refine ⟨_, rfl, hK.out _ _ (hHeld.and hnn.2.1 (by simp)) (fun hHeld => ?_)⟩
          clear hK K
          simp only [Act.put, List.setIfInBounds_toArray, List.set_cons_zero, List.set_cons_succ]
          have HL13o := HL13
          have H13 := Lib.hid (H13.out.keep hnn.2.1 (by simp))
          have HL13 := Lib.hid (Nat.lt_of_lt_of_le HL13.out hnn.2.1.size)
          have H12 : Hid (NewB w2 v5 A12 N c12 X) := Lib.hid (hnn.from_ (‹Fr [] w2 v4›))
          clear hnn
          refine step_at (i := 14) rfl (by kernel_rfl) (by rfl) (fun K hK => ?_)
          refine wp_append_bytes _ _ _ _ rfl 5 Tryd.underlying23 info_u8 (.slice A12 N c12) N X rfl H12.out.1 (some ⟨g13, 0, none⟩) 1 1 [0] rfl H13.out (by omega) ?_
          intro A14 c14 v6 hoo hgg haa
          have hnn := NewB.grow (‹Fr [] w2 v5›) H12.out.2.2 hoo hgg haa
          refine hK.out _ _ hnn.2.1 (fun hHeld => ?_)
          clear hK K
          simp only [Act.put, List.setIfInBounds_toArray, List.set_cons_zero, List.set_cons_succ]
          have H14 := Lib.hid hnn
          clear hnn hoo hgg haa
          refine step_at (i := 15) rfl (by kernel_rfl) (by rfl) (fun K hK => ?_)
          refine wp_call (f := ?_) (args := ?_) ?_ ?_
          rotate_left 2
          · go_simp
            (try (first | with_reducible rfl | (apply And.intro <;> rfl)))
          refine ((HR1.out _ hHeld A14 c14 H14.out)).mono ?_
          rintro e v7 ⟨rfl, hfq⟩
          refine ⟨_, rfl, hK.out _ _ (hHeld.and hfq (by simp)) (fun hHeld => ?_)⟩
          clear hK K
          simp only [Act.put, List.setIfInBounds_toArray, List.set_cons_zero, List.set_cons_succ]
          clear hfq
          refine run_at (i := 16) (v := ?_) rfl (by kernel_rfl) (by rfl) (fun _ _ _ h => h) hHeld (fun w1 hw1 => ?_) ?_
          rotate_left 1
          · skip
            go_simp
            (try (first | with_reducible rfl | (apply And.intro <;> rfl)))
          simp only [Act.put, List.setIfInBounds_toArray, List.set_cons_zero, List.set_cons_succ]
          refine run_at (i := 17) (v := ?_) rfl (by kernel_rfl) (by rfl) (fun _ _ _ h => h) hHeld (fun w1 hw1 => ?_) ?_
          rotate_left 1
          · skip
            go_simp
            (try (first | with_reducible rfl | (apply And.intro <;> rfl)))
          simp only [Act.put, List.setIfInBounds_toArray, List.set_cons_zero, List.set_cons_succ]
          refine run_at (i := 18) (v := ?_) rfl (by kernel_rfl) (by rfl) (fun _ _ _ h => h) hHeld (fun w1 hw1 => ?_) ?_
          rotate_left 1
          · skip
            go_simp
            (try (first | with_reducible rfl | (apply And.intro <;> rfl)))
          simp only [Act.put, List.setIfInBounds_toArray, List.set_cons_zero, List.set_cons_succ]
          refine run_at (i := 19) (v := ?_) rfl (by kernel_rfl) (by rfl) (fun _ _ _ h => h) hHeld (fun w1 hw1 => ?_) ?_
          rotate_left 1
          · skip
            go_simp
            (try (first | with_reducible rfl | (apply And.intro <;> rfl)))
          simp only [Act.put, List.setIfInBounds_toArray, List.set_cons_zero, List.set_cons_succ]
          refine run_at (i := 20) (v := ?_) rfl (by kernel_rfl) (by rfl) (fun _ _ _ h => h) hHeld (fun w1 hw1 => ?_) ?_
          rotate_left 1
          · skip
            go_simp
            (try (first | with_reducible rfl | (apply And.intro <;> rfl)))
          simp only [Act.put, List.setIfInBounds_toArray, List.set_cons_zero, List.set_cons_succ]
          refine run_at (i := 21) (v := ?_) rfl (by kernel_rfl) (by rfl) (fun _ _ _ h => h) hHeld (fun w1 hw1 => ?_) ?_
          rotate_left 1
          · skip
            go_simp
            (try (first | with_reducible rfl | (apply And.intro <;> rfl)))
          simp only [Act.put, List.setIfInBounds_toArray, List.set_cons_zero, List.set_cons_succ]
          refine run_at (i := 22) (v := ?_) rfl (by kernel_rfl) (by rfl) (fun _ _ _ h => h) hHeld (fun w1 hw1 => ?_) ?_
          rotate_left 1
          · skip
            go_simp
            (try (first | with_reducible rfl | (apply And.intro <;> rfl)))
          simp only [Act.put, List.setIfInBounds_toArray, List.set_cons_zero, List.set_cons_succ]
          refine run_at (i := 24) (v := ?_) rfl (by kernel_rfl) (by rfl) (fun _ _ _ h => h) hHeld (fun w1 hw1 => ?_) ?_
          rotate_left 1
          · skip
            go_simp
            (try (first | with_reducible rfl | (apply And.intro <;> rfl)))
          simp only [Act.put, List.setIfInBounds_toArray, List.set_cons_zero, List.set_cons_succ]
          refine run_at (i := 25) (v := ?_) rfl (by kernel_rfl) (by rfl) (fun _ _ _ h => h) hHeld (fun w1 hw1 => ?_) ?_
          rotate_left 1
          · skip
            go_simp
            (try (first | with_reducible rfl | (apply And.intro <;> rfl)))
          simp only [Act.put, List.setIfInBounds_toArray, List.set_cons_zero, List.set_cons_succ]
          refine run_at (i := 26) (v := ?_) rfl (by kernel_rfl) (by rfl) (fun _ _ _ h => h) hHeld (fun w1 hw1 => ?_) ?_
          rotate_left 1
          · skip
            go_simp
            (try (first | with_reducible rfl | (apply And.intro <;> rfl)))
          simp only [Act.put, List.setIfInBounds_toArray, List.set_cons_zero, List.set_cons_succ]
          refine run_at (i := 27) (v := ?_) rfl (by kernel_rfl) (by rfl) (fun _ _ _ h => h) hHeld (fun w1 hw1 => ?_) ?_
          rotate_left 1
          · skip
            go_simp
            (try (first | with_reducible rfl | (apply And.intro <;> rfl)))
          simp only [Act.put, List.setIfInBounds_toArray, List.set_cons_zero, List.set_cons_succ]
          refine call_at (i := 23) (f := ?_) (args := ?_) rfl (by kernel_rfl) (by rfl) ?_ ?_
          rotate_left 2
          · go_simp
            (try (first | with_reducible rfl | (apply And.intro <;> rfl)))
          refine (HS2.out _ hHeld).mono ?_
          rintro e wq ⟨rfl, hfq⟩
          refine ⟨_, rfl, hHeld.and hfq (by simp), fun hHeld => ?_⟩
          clear hfq
          simp only [Act.put, List.setIfInBounds_toArray, List.set_cons_zero, List.set_cons_succ]
          refine call_at (i := 28) (f := ?_) (args := ?_) rfl (by kernel_rfl) (by rfl) ?_ ?_
          rotate_left 2
          · go_simp
            (try (first | with_reducible rfl | (apply And.intro <;> rfl)))
          refine (HR2.out _ hHeld).mono ?_
          rintro e wq ⟨rfl, hfq⟩
          refine ⟨_, rfl, hHeld.and hfq (by simp), fun hHeld => ?_⟩
          clear hfq
          simp only [Act.put, List.setIfInBounds_toArray, List.set_cons_zero, List.set_cons_succ]
          refine run_at (i := 29) (v := ?_) rfl (by kernel_rfl) (by rfl) (fun _ _ _ h => h) hHeld (fun w1 hw1 => ?_) ?_
          rotate_left 1
          · skip
            go_simp
            (try (first | with_reducible rfl | (apply And.intro <;> rfl)))
          simp only [Act.put, List.setIfInBounds_toArray, List.set_cons_zero, List.set_cons_succ]
          refine run_at (i := 30) (v := ?_) rfl (by kernel_rfl) (by rfl) (fun _ _ _ h => h) hHeld (fun w1 hw1 => ?_) ?_
          rotate_left 1
          · skip
            go_simp
            (try (first | with_reducible rfl | (apply And.intro <;> rfl)))
          simp only [Act.put, List.setIfInBounds_toArray, List.set_cons_zero, List.set_cons_succ]
          refine run_at (i := 31) (v := ?_) rfl (by kernel_rfl) (by rfl) (fun _ _ _ h => h) hHeld (fun w1 hw1 => ?_) ?_
          rotate_left 1
          · skip
            go_simp
            (try (first | with_reducible rfl | (apply And.intro <;> rfl)))
          simp only [Act.put, List.setIfInBounds_toArray, List.set_cons_zero, List.set_cons_succ]
          refine call_at (i := 32) (f := ?_) (args := ?_) rfl (by kernel_rfl) (by rfl) ?_ ?_
          rotate_left 2
          · go_simp
            (try (first | with_reducible rfl | (apply And.intro <;> rfl)))
          refine (shawakes_any _ (HK2.out.keep hHeld (by simp))).mono ?_
          rintro e wq ⟨rfl, hfq⟩
          refine ⟨_, rfl, hHeld.and hfq (by simp), fun hHeld => ?_⟩
          clear hfq
          simp only [Act.put, List.setIfInBounds_toArray, List.set_cons_zero, List.set_cons_succ]
          refine run_at (i := 33) (v := ?_) rfl (by kernel_rfl) (by rfl) (fun _ _ _ h => h) hHeld (fun w1 hw1 => ?_) ?_
          rotate_left 1
          · skip
            go_simp
            (try (first | with_reducible rfl | (apply And.intro <;> rfl)))
          simp only [Act.put, List.setIfInBounds_toArray, List.set_cons_zero, List.set_cons_succ]
          refine run_at (i := 34) (v := ?_) rfl (by kernel_rfl) (by rfl) (fun _ _ _ h => h) hHeld (fun w1 hw1 => ?_) ?_
          rotate_left 1
          · skip
            go_simp
            (try (first | with_reducible rfl | (apply And.intro <;> rfl)))
          simp only [Act.put, List.setIfInBounds_toArray, List.set_cons_zero, List.set_cons_succ]
          refine wpAnyH_done (by kernel_rfl) ?_ _
          go_wp2
          go_ret
          exact ⟨rfl, HF2.out.and hHeld (by simp)⟩
      · skip
        refine wp_run (v := ?_) (w' := ?_) ?_ ?_
        rotate_left 2
        · go_simp
          (try (first | with_reducible rfl | (apply And.intro <;> rfl)))
        refine hK.out _ (wq.alloc (Obj.cells #[.int .u8 0] 5)) (hHeld.alloc _) (fun hHeld => ?_)
        clear hK K
        simp only [Act.put, List.setIfInBounds_toArray, List.set_cons_zero, List.set_cons_succ]
        have H8 : Hid (By (wq.alloc (Obj.cells #[.int .u8 0] 5)) (some ⟨wq.heap.size, 0, none⟩) 1 [0]) := Lib.hid (By.one (Blk.new _ _ _) rfl)
        generalize wq.alloc (Obj.cells #[.int .u8 0] 5) = v0 at *
        obtain ⟨g8, hg8⟩ : ∃ g, g = wq.heap.size := ⟨_, rfl⟩
        rw [← hg8] at H8 ⊢
        clear hg8
        refine two_at (i := 7) (j := 13) rfl rfl (by kernel_rfl) (by rfl) (by rfl) (fun K hK => ?_) (fun K hK => ?_)
        · skip
          refine wp_call (f := ?_) (args := ?_) ?_ ?_
          rotate_left 2
          · go_simp
            (try (first | with_reducible rfl | (apply And.intro <;> rfl)))
          refine (HCP.out _ hHeld).mono ?_
          rintro e v1 ⟨A7, c7, rfl, hnn⟩
          refine ⟨_, rfl, hK.out _ _ (hHeld.and hnn.2.1 (by simp)) (fun hHeld => ?_)⟩
          clear hK K
          simp only [Act.put, List.setIfInBounds_toArray, List.set_cons_zero, List.set_cons_succ]
          have H8 := Lib.hid (H8.out.keep hnn.2.1 (by simp))
          have H7 : Hid (NewB w2 v1 A7 N c7 X) := Lib.hid (hnn.from_ (‹Fr [] w2 v0›))
          clear hnn
          refine two_at (i := 9) (j := 13) rfl rfl (by kernel_rfl) (by rfl) (by rfl) (fun K hK => ?_) (fun K hK => ?_)
          · skip
            refine wp_append_bytes _ _ _ _ rfl 5 Tryd.underlying23 info_u8 (.slice A7 N c7) N X rfl H7.out.1 (some ⟨g8, 0, none⟩) 1 1 [0] rfl H8.out (by omega) ?_
            intro A9 c9 v2 hoo hgg haa
            have hnn := NewB.grow (‹Fr [] w2 v1›) H7.out.2.2 hoo hgg haa
            refine hK.out _ _ hnn.2.1 (fun hHeld => ?_)
            clear hK K
            simp only [Act.put, List.setIfInBounds_toArray, List.set_cons_zero, List.set_cons_succ]
            have H9 := Lib.hid hnn
            clear hnn hoo hgg haa
            refine two_at (i := 10) (j := 13) rfl rfl (by kernel_rfl) (by rfl) (by rfl) (fun K hK => ?_) (fun K hK => ?_)
            · skip
              refine wp_call (f := ?_) (args := ?_) ?_ ?_
              rotate_left 2
              · go_simp
                (try (first | with_reducible rfl | (apply And.intro <;> rfl)))
              refine ((HS1.out _ hHeld A9 c9 H9.out)).mono ?_
              rintro e v3 ⟨rfl, hfq⟩
              refine ⟨_, rfl, hK.out _ _ (hHeld.and hfq (by simp)) (fun hHeld => ?_)⟩
              clear hK K
              simp only [Act.put, List.setIfInBounds_toArray, List.set_cons_zero, List.set_cons_succ]
              clear hfq
              refine two_at (i := 12) (j := 13) rfl rfl (by kernel_rfl) (by rfl) (by rfl) (fun K hK => ?_) (fun K hK => ?_)
              · skip
                refine wp_call (f := ?_) (args := ?_) ?_ ?_
                rotate_left 2
                · go_simp
                  (try (first | with_reducible rfl | (apply And.intro <;> rfl)))
                refine (HCP.out _ hHeld).mono ?_
                rintro e v4 ⟨A12, c12, rfl, hnn⟩
                refine ⟨_, rfl, hK.out _ _ (hHeld.and hnn.2.1 (by simp)) (fun hHeld => ?_)⟩
                clear hK K
                simp only [Act.put, List.setIfInBounds_toArray, List.set_cons_zero, List.set_cons_succ]
                have H12 : Hid (NewB w2 v4 A12 N c12 X) := Lib.hid (hnn.from_ (‹Fr [] w2 v3›))
                clear hnn
                refine step_at (i := 13) rfl (by kernel_rfl) (by rfl) (fun K hK => ?_)
                refine wp_run (v := ?_) (w' := ?_) ?_ ?_
                rotate_left 2
                · go_simp
                  (try (first | with_reducible rfl | (apply And.intro <;> rfl)))
                refine hK.out _ (v4.alloc (Obj.cells #[.int .u8 0] 5)) (hHeld.alloc _) (fun hHeld => ?_)
                clear hK K
                simp only [Act.put, List.setIfInBounds_toArray, List.set_cons_zero, List.set_cons_succ]
                have H12 := Lib.hid (H12.out.next ((Fr.refl [] v4).alloc (Obj.cells #[.int .u8 0] 5)))
                have H13 : Hid (By (v4.alloc (Obj.cells #[.int .u8 0] 5)) (some ⟨v4.heap.size, 0, none⟩) 1 [0]) := Lib.hid (By.one (Blk.new _ _ _) rfl)
                generalize v4.alloc (Obj.cells #[.int .u8 0] 5) = v5 at *
                obtain ⟨g13, hg13⟩ : ∃ g, g = v4.heap.size := ⟨_, rfl⟩
                rw [← hg13] at H13 ⊢
                have HL13 : Hid (g13 < v5.heap.size) := Lib.hid (H13.out.blk_lt (by omega) g13 (by simp [bk]))
                clear hg13
                refine step_at (i := 14) rfl (by kernel_rfl) (by rfl) (fun K hK => ?_)
                refine wp_append_bytes _ _ _ _ rfl 5 Tryd.underlying23 info_u8 (.slice A12 N c12) N X rfl H12.out.1 (some ⟨g13, 0, none⟩) 1 1 [0] rfl H13.out (by omega) ?_
                intro A14 c14 v6 hoo hgg haa
                have hnn := NewB.grow (‹Fr [] w2 v5›) H12.out.2.2 hoo hgg haa
                refine hK.out _ _ hnn.2.1 (fun hHeld => ?_)
                clear hK K
                simp only [Act.put, List.setIfInBounds_toArray, List.set_cons_zero, List.set_cons_succ]
                have H14 := Lib.hid hnn
                clear hnn hoo hgg haa
                refine step_at (i := 15) rfl (by kernel_rfl) (by rfl) (fun K hK => ?_)
                refine wp_call (f := ?_) (args := ?_) ?_ ?_
                rotate_left 2
                · go_simp
                  (try (first | with_reducible rfl | (apply And.intro <;> rfl)))
                refine ((HR1.out _ hHeld A14 c14 H14.out)).mono ?_
                rintro e v7 ⟨rfl, hfq⟩
                refine ⟨_, rfl, hK.out _ _ (hHeld.and hfq (by simp)) (fun hHeld => ?_)⟩
                clear hK K
                simp only [Act.put, List.setIfInBounds_toArray, List.set_cons_zero, List.set_cons_succ]
                clear hfq
                refine run_at (i := 16) (v := ?_) rfl (by kernel_rfl) (by rfl) (fun _ _ _ h => h) hHeld (fun w1 hw1 => ?_) ?_
                rotate_left 1
                · skip
                  go_simp
                  (try (first | with_reducible rfl | (apply And.intro <;> rfl)))
                simp only [Act.put, List.setIfInBounds_toArray, List.set_cons_zero, List.set_cons_succ]
                refine run_at (i := 17) (v := ?_) rfl (by kernel_rfl) (by rfl) (fun _ _ _ h => h) hHeld (fun w1 hw1 => ?_) ?_
                rotate_left 1
                · skip
                  go_simp
                  (try (first | with_reducible rfl | (apply And.intro <;> rfl)))
                simp only [Act.put, List.setIfInBounds_toArray, List.set_cons_zero, List.set_cons_succ]
                refine run_at (i := 18) (v := ?_) rfl (by kernel_rfl) (by rfl) (fun _ _ _ h => h) hHeld (fun w1 hw1 => ?_) ?_
                rotate_left 1
                · skip
                  go_simp
                  (try (first | with_reducible rfl | (apply And.intro <;> rfl)))
                simp only [Act.put, List.setIfInBounds_toArray, List.set_cons_zero, List.set_cons_succ]
                refine run_at (i := 19) (v := ?_) rfl (by kernel_rfl) (by rfl) (fun _ _ _ h => h) hHeld (fun w1 hw1 => ?_) ?_
                rotate_left 1
                · skip
                  go_simp
                  (try (first | with_reducible rfl | (apply And.intro <;> rfl)))
                simp only [Act.put, List.setIfInBounds_toArray, List.set_cons_zero, List.set_cons_succ]
                refine run_at (i := 20) (v := ?_) rfl (by kernel_rfl) (by rfl) (fun _ _ _ h => h) hHeld (fun w1 hw1 => ?_) ?_
                rotate_left 1
                · skip
                  go_simp
                  (try (first | with_reducible rfl | (apply And.intro <;> rfl)))
                simp only [Act.put, List.setIfInBounds_toArray, List.set_cons_zero, List.set_cons_succ]
                refine run_at (i := 21) (v := ?_) rfl (by kernel_rfl) (by rfl) (fun _ _ _ h => h) hHeld (fun w1 hw1 => ?_) ?_
                rotate_left 1
                · skip
                  go_simp
                  (try (first | with_reducible rfl | (apply And.intro <;> rfl)))
                simp only [Act.put, List.setIfInBounds_toArray, List.set_cons_zero, List.set_cons_succ]
                refine run_at (i := 22) (v := ?_) rfl (by kernel_rfl) (by rfl) (fun _ _ _ h => h) hHeld (fun w1 hw1 => ?_) ?_
                rotate_left 1
                · skip
                  go_simp
                  (try (first | with_reducible rfl | (apply And.intro <;> rfl)))
                simp only [Act.put, List.setIfInBounds_toArray, List.set_cons_zero, List.set_cons_succ]
                refine run_at (i := 24) (v := ?_) rfl (by kernel_rfl) (by rfl) (fun _ _ _ h => h) hHeld (fun w1 hw1 => ?_) ?_
                rotate_left 1
                · skip
                  go_simp
                  (try (first | with_reducible rfl | (apply And.intro <;> rfl)))
                simp only [Act.put, List.setIfInBounds_toArray, List.set_cons_zero, List.set_cons_succ]
                refine run_at (i := 25) (v := ?_) rfl (by kernel_rfl) (by rfl) (fun _ _ _ h => h) hHeld (fun w1 hw1 => ?_) ?_
                rotate_left 1
                · skip
                  go_simp
                  (try (first | with_reducible rfl | (apply And.intro <;> rfl)))
                simp only [Act.put, List.setIfInBounds_toArray, List.set_cons_zero, List.set_cons_succ]
                refine run_at (i := 26) (v := ?_) rfl (by kernel_rfl) (by rfl) (fun _ _ _ h => h) hHeld (fun w1 hw1 => ?_) ?_
                rotate_left 1
                · skip
                  go_simp
                  (try (first | with_reducible rfl | (apply And.intro <;> rfl)))
                simp only [Act.put, List.setIfInBounds_toArray, List.set_cons_zero, List.set_cons_succ]
                refine run_at (i := 27) (v := ?_) rfl (by kernel_rfl) (by rfl) (fun _ _ _ h => h) hHeld (fun w1 hw1 => ?_) ?_
                rotate_left 1
                · skip
                  go_simp
                  (try (first | with_reducible rfl | (apply And.intro <;> rfl)))
                simp only [Act.put, List.setIfInBounds_toArray, List.set_cons_zero, List.set_cons_succ]
                refine call_at (i := 23) (f := ?_) (args := ?_) rfl (by kernel_rfl) (by rfl) ?_ ?_
                rotate_left 2
                · go_simp
                  (try (first | with_reducible rfl | (apply And.intro <;> rfl)))
                refine (HS2.out _ hHeld).mono ?_
                rintro e wq ⟨rfl, hfq⟩
                refine ⟨_, rfl, hHeld.and hfq (by simp), fun hHeld => ?_⟩
                clear hfq
                simp only [Act.put, List.setIfInBounds_toArray, List.set_cons_zero, List.set_cons_succ]
                refine call_at (i := 28) (f := ?_) (args := ?_) rfl (by kernel_rfl) (by rfl) ?_ ?_
                rotate_left 2
                · go_simp
                  (try (first | with_reducible rfl | (apply And.intro <;> rfl)))
                refine (HR2.out _ hHeld).mono ?_
                rintro e wq ⟨rfl, hfq⟩
                refine ⟨_, rfl, hHeld.and hfq (by simp), fun hHeld => ?_⟩
                clear hfq
                simp only [Act.put, List.setIfInBounds_toArray, List.set_cons_zero, List.set_cons_succ]
                refine run_at (i := 29) (v := ?_) rfl (by kernel_rfl) (by rfl) (fun _ _ _ h => h) hHeld (fun w1 hw1 => ?_) ?_
                rotate_left 1
                · skip
                  go_simp
                  (try (first | with_reducible rfl | (apply And.intro <;> rfl)))
                simp only [Act.put, List.setIfInBounds_toArray, List.set_cons_zero, List.set_cons_succ]
                refine run_at (i := 30) (v := ?_) rfl (by kernel_rfl) (by rfl) (fun _ _ _ h => h) hHeld (fun w1 hw1 => ?_) ?_
                rotate_left 1
                · skip
                  go_simp
                  (try (first | with_reducible rfl | (apply And.intro <;> rfl)))
                simp only [Act.put, List.setIfInBounds_toArray, List.set_cons_zero, List.set_cons_succ]
                refine run_at (i := 31) (v := ?_) rfl (by kernel_rfl) (by rfl) (fun _ _ _ h => h) hHeld (fun w1 hw1 => ?_) ?_
                rotate_left 1
                · skip
                  go_simp
                  (try (first | with_reducible rfl | (apply And.intro <;> rfl)))
                simp only [Act.put, List.setIfInBounds_toArray, List.set_cons_zero, List.set_cons_succ]
                refine call_at (i := 32) (f := ?_) (args := ?_) rfl (by kernel_rfl) (by rfl) ?_ ?_
                rotate_left 2
                · go_simp
                  (try (first | with_reducible rfl | (apply And.intro <;> rfl)))
                refine (shawakes_any _ (HK2.out.keep hHeld (by simp))).mono ?_
                rintro e wq ⟨rfl, hfq⟩
                refine ⟨_, rfl, hHeld.and hfq (by simp), fun hHeld => ?_⟩
                clear hfq
                simp only [Act.put, List.setIfInBounds_toArray, List.set_cons_zero, List.set_cons_succ]
                refine run_at (i := 33) (v := ?_) rfl (by kernel_rfl) (by rfl) (fun _ _ _ h => h) hHeld (fun w1 hw1 => ?_) ?_
                rotate_left 1
                · skip
                  go_simp
                  (try (first | with_reducible rfl | (apply And.intro <;> rfl)))
                simp only [Act.put, List.setIfInBounds_toArray, List.set_cons_zero, List.set_cons_succ]
                refine run_at (i := 34) (v := ?_) rfl (by kernel_rfl) (by rfl) (fun _ _ _ h => h) hHeld (fun w1 hw1 => ?_) ?_
                rotate_left 1
                · skip
                  go_simp
                  (try (first | with_reducible rfl | (apply And.intro <;> rfl)))
                simp only [Act.put, List.setIfInBounds_toArray, List.set_cons_zero, List.set_cons_succ]
                refine wpAnyH_done (by kernel_rfl) ?_ _
                go_wp2
                go_ret
                exact ⟨rfl, HF2.out.and hHeld (by simp)⟩
              · skip
                refine wp_run (v := ?_) (w' := ?_) ?_ ?_
                rotate_left 2
                · go_simp
                  (try (first | with_reducible rfl | (apply And.intro <;> rfl)))
                refine hK.out _ (v3.alloc (Obj.cells #[.int .u8 0] 5)) (hHeld.alloc _) (fun hHeld => ?_)
                clear hK K
                simp only [Act.put, List.setIfInBounds_toArray, List.set_cons_zero, List.set_cons_succ]
                have H13 : Hid (By (v3.alloc (Obj.cells #[.int .u8 0] 5)) (some ⟨v3.heap.size, 0, none⟩) 1 [0]) := Lib.hid (By.one (Blk.new _ _ _) rfl)
                generalize v3.alloc (Obj.cells #[.int .u8 0] 5) = v4 at *
                obtain ⟨g13, hg13⟩ : ∃ g, g = v3.heap.size := ⟨_, rfl⟩
                rw [← hg13] at H13 ⊢
                have HL13 : Hid (g13 < v4.heap.size) := Lib.hid (H13.out.blk_lt (by omega) g13 (by simp [bk]))
                clear hg13
                refine step_at (i := 12) rfl (by kernel_rfl) (by rfl) (fun K hK => ?_)
                refine wp_call (f := ?_) (args := ?_) ?_ ?_
                rotate_left 2
                · go_simp
                  (try (first | with_reducible rfl | (apply And.intro <;> rfl)))
                refine (HCP.out _ hHeld).mono ?_
                rintro e v5 ⟨A12, c12, rfl, hnn⟩
                refine ⟨_, rfl, hK.out _ _ (hHeld.and hnn.2.1 (by simp)) (fun hHeld => ?_)⟩
                clear hK K
                simp only [Act.put, List.setIfInBounds_toArray, List.set_cons_zero, List.set_cons_succ]
                have HL13o := HL13
                have H13 := Lib.hid (H13.out.keep hnn.2.1 (by simp))
                have HL13 := Lib.hid (Nat.lt_of_lt_of_le HL13.out hnn.2.1.size)
                have H12 : Hid (NewB w2 v5 A12 N c12 X) := Lib.hid (hnn.from_ (‹Fr [] w2 v4›))
                clear hnn
                refine step_at (i := 14) rfl (by kernel_rfl) (by rfl) (fun K hK => ?_)
                refine wp_append_bytes _ _ _ _ rfl 5 Tryd.underlying23 info_u8 (.slice A12 N c12) N X rfl H12.out.1 (some ⟨g13, 0, none⟩) 1 1 [0] rfl H13.out (by omega) ?_
                intro A14 c14 v6 hoo hgg haa
                have hnn := NewB.grow (‹Fr [] w2 v5›) H12.out.2.2 hoo hgg haa
                refine hK.out _ _ hnn.2.1 (fun hHeld => ?_)
                clear hK K
                simp only [Act.put, List.setIfInBounds_toArray, List.set_cons_zero, List.set_cons_succ]
                have H14 := Lib.hid hnn
                clear hnn hoo hgg haa
                refine step_at (i := 15) rfl (by kernel_rfl) (by rfl) (fun K hK => ?_)
                refine wp_call (f := ?_) (args := ?_) ?_ ?_
                rotate_left 2
                · go_simp
                  (try (first | with_reducible rfl | (apply And.intro <;> rfl)))
                refine ((HR1.out _ hHeld A14 c14 H14.out)).mono ?_
                rintro e v7 ⟨rfl, hfq⟩
                refine ⟨_, rfl, hK.out _ _ (hHeld.and hfq (by simp)) (fun hHeld => ?_)⟩
                clear hK K
                simp only [Act.put, List.setIfInBounds_toArray, List.set_cons_zero, List.set_cons_succ]
                clear hfq
                refine run_at (i := 16) (v := ?_) rfl (by kernel_rfl) (by rfl) (fun _ _ _ h => h) hHeld (fun w1 hw1 => ?_) ?_
                rotate_left 1
                · skip
                  go_simp
                  (try (first | with_reducible rfl | (apply And.intro <;> rfl)))
                simp only [Act.put, List.setIfInBounds_toArray, List.set_cons_zero, List.set_cons_succ]
                refine run_at (i := 17) (v := ?_) rfl (by kernel_rfl) (by rfl) (fun _ _ _ h => h) hHeld (fun w1 hw1 => ?_) ?_
                rotate_left 1
                · skip
                  go_simp
                  (try (first | with_reducible rfl | (apply And.intro <;> rfl)))
                simp only [Act.put, List.setIfInBounds_toArray, List.set_cons_zero, List.set_cons_succ]
                refine run_at (i := 18) (v := ?_) rfl (by kernel_rfl) (by rfl) (fun _ _ _ h => h) hHeld (fun w1 hw1 => ?_) ?_
                rotate_left 1
                · skip
                  go_simp
                  (try (first | with_reducible rfl | (apply And.intro <;> rfl)))
                simp only [Act.put, List.setIfInBounds_toArray, List.set_cons_zero, List.set_cons_succ]
                refine run_at (i := 19) (v := ?_) rfl (by kernel_rfl) (by rfl) (fun _ _ _ h => h) hHeld (fun w1 hw1 => ?_) ?_
                rotate_left 1
                · skip
                  go_simp
                  (try (first | with_reducible rfl | (apply And.intro <;> rfl)))
                simp only [Act.put, List.setIfInBounds_toArray, List.set_cons_zero, List.set_cons_succ]
                refine run_at (i := 20) (v := ?_) rfl (by kernel_rfl) (by rfl) (fun _ _ _ h => h) hHeld (fun w1 hw1 => ?_) ?_
                rotate_left 1
                · skip
                  go_simp
                  (try (first | with_reducible rfl | (apply And.intro <;> rfl)))
                simp only [Act.put, List.setIfInBounds_toArray, List.set_cons_zero, List.set_cons_succ]
                refine run_at (i := 21) (v := ?_) rfl (by kernel_rfl) (by rfl) (fun _ _ _ h => h) hHeld (fun w1 hw1 => ?_) ?_
                rotate_left 1
                · skip
                  go_simp
                  (try (first | with_reducible rfl | (apply And.intro <;> rfl)))
                simp only [Act.put, List.setIfInBounds_toArray, List.set_cons_zero, List.set_cons_succ]
                refine run_at (i := 22) (v := ?_) rfl (by kernel_rfl) (by rfl) (fun _ _ _ h => h) hHeld (fun w1 hw1 => ?_) ?_
                rotate_left 1
                · skip
                  go_simp
                  (try (first | with_reducible rfl | (apply And.intro <;> rfl)))
                simp only [Act.put, List.setIfInBounds_toArray, List.set_cons_zero, List.set_cons_succ]
                refine run_at (i := 24) (v := ?_) rfl (by kernel_rfl) (by rfl) (fun _ _ _ h => h) hHeld (fun w1 hw1 => ?_) ?_
                rotate_left 1
                · skip
                  go_simp
                  (try (first | with_reducible rfl | (apply And.intro <;> rfl)))
                simp only [Act.put, List.setIfInBounds_toArray, List.set_cons_zero, List.set_cons_succ]
                refine run_at (i := 25) (v := ?_) rfl (by kernel_rfl) (by rfl) (fun _ _ _ h => h) hHeld (fun w1 hw1 => ?_) ?_
                rotate_left 1
                · skip
                  go_simp
                  (try (first | with_reducible rfl | (apply And.intro <;> rfl)))
                simp only [Act.put, List.setIfInBounds_toArray, List.set_cons_zero, List.set_cons_succ]
                refine run_at (i := 26) (v := ?_) rfl (by kernel_rfl) (by rfl) (fun _ _ _ h => h) hHeld (fun w1 hw1 => ?_) ?_
                rotate_left 1
                · skip
                  go_simp
                  (try (first | with_reducible rfl | (apply And.intro <;> rfl)))
                simp only [Act.put, List.setIfInBounds_toArray, List.set_cons_zero, List.set_cons_succ]
                refine run_at (i := 27) (v := ?_) rfl (by kernel_rfl) (by rfl) (fun _ _ _ h => h) hHeld (fun w1 hw1 => ?_) ?_
                rotate_left 1
                · skip
                  go_simp
                  (try (first | with_reducible rfl | (apply And.intro <;> rfl)))
                simp only [Act.put, List.setIfInBounds_toArray, List.set_cons_zero, List.set_cons_succ]
                refine call_at (i := 23) (f := ?_) (args := ?_) rfl (by kernel_rfl) (by rfl) ?_ ?_
                rotate_left 2
                · go_simp
                  (try (first | with_reducible rfl | (apply And.intro <;> rfl)))
                refine (HS2.out _ hHeld).mono ?_
                rintro e wq ⟨rfl, hfq⟩
                refine ⟨_, rfl, hHeld.and hfq (by simp), fun hHeld => ?_⟩
                clear hfq
                simp only [Act.put, List.setIfInBounds_toArray, List.set_cons_zero, List.set_cons_succ]
                refine call_at (i := 28) (f := ?_) (args := ?_) rfl (by kernel_rfl) (by rfl) ?_ ?_
                rotate_left 2
                · go_simp
                  (try (first | with_reducible rfl | (apply And.intro <;> rfl)))
                refine (HR2.out _ hHeld).mono ?_
                rintro e wq ⟨rfl, hfq⟩
                refine ⟨_, rfl, hHeld.and hfq (by simp), fun hHeld => ?_⟩
                clear hfq
                simp only [Act.put, List.setIfInBounds_toArray, List.set_cons_zero, List.set_cons_succ]
                refine run_at (i := 29) (v := ?_) rfl (by kernel_rfl) (by rfl) (fun _ _ _ h => h) hHeld (fun w1 hw1 => ?_) ?_
                rotate_left 1
                · skip
                  go_simp
                  (try (first | with_reducible rfl | (apply And.intro <;> rfl)))
                simp only [Act.put, List.setIfInBounds_toArray, List.set_cons_zero, List.set_cons_succ]
                refine run_at (i := 30) (v := ?_) rfl (by kernel_rfl) (by rfl) (fun _ _ _ h => h) hHeld (fun w1 hw1 => ?_) ?_
                rotate_left 1
                · skip
                  go_simp
                  (try (first | with_reducible rfl | (apply And.intro <;> rfl)))
                simp only [Act.put, List.setIfInBounds_toArray, List.set_cons_zero, List.set_cons_succ]
                refine run_at (i := 31) (v := ?_) rfl (by kernel_rfl) (by rfl) (fun _ _ _ h => h) hHeld (fun w1 hw1 => ?_) ?_
                rotate_left 1
                · skip
                  go_simp
                  (try (first | with_reducible rfl | (apply And.intro <;> rfl)))
                simp only [Act.put, List.setIfInBounds_toArray, List.set_cons_zero, List.set_cons_succ]
                refine call_at (i := 32) (f := ?_) (args := ?_) rfl (by kernel_rfl) (by rfl) ?_ ?_
                rotate_left 2
                · go_simp
                  (try (first | with_reducible rfl | (apply And.intro <;> rfl)))
                refine (shawakes_any _ (HK2.out.keep hHeld (by simp))).mono ?_
                rintro e wq ⟨rfl, hfq⟩
                refine ⟨_, rfl, hHeld.and hfq (by simp), fun hHeld => ?_⟩
                clear hfq
                simp only [Act.put, List.setIfInBounds_toArray, List.set_cons_zero, List.set_cons_succ]
                refine run_at (i := 33) (v := ?_) rfl (by kernel_rfl) (by rfl) (fun _ _ _ h => h) hHeld (fun w1 hw1 => ?_) ?_
                rotate_left 1
                · skip
                  go_simp
                  (try (first | with_reducible rfl | (apply And.intro <;> rfl)))
                simp only [Act.put, List.setIfInBounds_toArray, List.set_cons_zero, List.set_cons_succ]
                refine run_at (i := 34) (v := ?_) rfl (by kernel_rfl) (by rfl) (fun _ _ _ h => h) hHeld (fun w1 hw1 => ?_) ?_
                rotate_left 1
                · skip
                  go_simp
                  (try (first | with_reducible rfl | (apply And.intro <;> rfl)))
                simp only [Act.put, List.setIfInBounds_toArray, List.set_cons_zero, List.set_cons_succ]
                refine wpAnyH_done (by kernel_rfl) ?_ _
                go_wp2
                go_ret
                exact ⟨rfl, HF2.out.and hHeld (by simp)⟩
            · skip
              refine wp_run (v := ?_) (w' := ?_) ?_ ?_
              rotate_left 2
              · go_simp
                (try (first | with_reducible rfl | (apply And.intro <;> rfl)))
              refine hK.out _ (v2.alloc (Obj.cells #[.int .u8 0] 5)) (hHeld.alloc _) (fun hHeld => ?_)
              clear hK K
              simp only [Act.put, List.setIfInBounds_toArray, List.set_cons_zero, List.set_cons_succ]
              have H9 := Lib.hid (H9.out.next ((Fr.refl [] v2).alloc (Obj.cells #[.int .u8 0] 5)))
              have H13 : Hid (By (v2.alloc (Obj.cells #[.int .u8 0] 5)) (some ⟨v2.heap.size, 0, none⟩) 1 [0]) := Lib.hid (By.one (Blk.new _ _ _) rfl)
              generalize v2.alloc (Obj.cells #[.int .u8 0] 5) = v3 at *
              obtain ⟨g13, hg13⟩ : ∃ g, g = v2.heap.size := ⟨_, rfl⟩
              rw [← hg13] at H13 ⊢
              have HL13 : Hid (g13 < v3.heap.size) := Lib.hid (H13.out.blk_lt (by omega) g13 (by simp [bk]))
              clear hg13
              refine step_at (i := 10) rfl (by kernel_rfl) (by rfl) (fun K hK => ?_)
              refine wp_call (f := ?_) (args := ?_) ?_ ?_
              rotate_left 2
              · go_simp
                (try (first | with_reducible rfl | (apply And.intro <;> rfl)))
              refine ((HS1.out _ hHeld A9 c9 H9.out)).mono ?_
              rintro e v4 ⟨rfl, hfq⟩
              refine ⟨_, rfl, hK.out _ _ (hHeld.and hfq (by simp)) (fun hHeld => ?_)⟩
              clear hK K
              simp only [Act.put, List.setIfInBounds_toArray, List.set_cons_zero, List.set_cons_succ]
              have H13 := Lib.hid (H13.out.keep hfq (by simp))
              have HL13 := Lib.hid (Nat.lt_of_lt_of_le HL13.out hfq.size)
              clear hfq
              refine step_at (i := 12) rfl (by kernel_rfl) (by rfl) (fun K hK => ?_)
              refine wp_call (f := ?_) (args := ?_) ?_ ?_
              rotate_left 2
              · go_simp
                (try (first | with_reducible rfl | (apply And.intro <;> rfl)))
              refine (HCP.out _ hHeld).mono ?_
              rintro e v5 ⟨A12, c12, rfl, hnn⟩
              refine ⟨_, rfl, hK.out _ _ (hHeld.and hnn.2.1 (by simp)) (fun hHeld => ?_)⟩
              clear hK K
              simp only [Act.put, List.setIfInBounds_toArray, List.set_cons_zero, List.set_cons_succ]
              have HL13o := HL13
              have H13 := Lib.hid (H13.out.keep hnn.2.1 (by simp))
              have HL13 := Lib.hid (Nat.lt_of_lt_of_le HL13.out hnn.2.1.size)
              have H12 : Hid (NewB w2 v5 A12 N c12 X) := Lib.hid (hnn.from_ (‹Fr [] w2 v4›))
              clear hnn
              refine step_at (i := 14) rfl (by kernel_rfl) (by rfl) (fun K hK => ?_)
              refine wp_append_bytes _ _ _ _ rfl 5 Tryd.underlying23 info_u8 (.slice A12 N c12) N X rfl H12.out.1 (some ⟨g13, 0, none⟩) 1 1 [0] rfl H13.out (by omega) ?_
              intro A14 c14 v6 hoo hgg haa
              have hnn := NewB.grow (‹Fr [] w2 v5›) H12.out.2.2 hoo hgg haa
              refine hK.out _ _ hnn.2.1 (fun hHeld => ?_)
              clear hK K
              simp only [Act.put, List.setIfInBounds_toArray, List.set_cons_zero, List.set_cons_succ]
              have H14 := Lib.hid hnn
              clear hnn hoo hgg haa
              refine step_at (i := 15) rfl (by kernel_rfl) (by rfl) (fun K hK => ?_)
              refine wp_call (f := ?_) (args := ?_) ?_ ?_
              rotate_left 2
              · go_simp
                (try (first | with_reducible rfl | (apply And.intro <;> rfl)))
              refine ((HR1.out _ hHeld A14 c14 H14.out)).mono ?_
              rintro e v7 ⟨rfl, hfq⟩
              refine ⟨_, rfl, hK.out _ _ (hHeld.and hfq (by simp)) (fun hHeld => ?_)⟩
              clear hK K
              simp only [Act.put, List.setIfInBounds_toArray, List.set_cons_zero, List.set_cons_succ]
              clear hfq
              refine run_at (i := 16) (v := ?_) rfl (by kernel_rfl) (by rfl) (fun _ _ _ h => h) hHeld (fun w1 hw1 => ?_) ?_
              rotate_left 1
              · skip
                go_simp
                (try (first | with_reducible rfl | (apply And.intro <;> rfl)))
              simp only [Act.put, List.setIfInBounds_toArray, List.set_cons_zero, List.set_cons_succ]
              refine run_at (i := 17) (v := ?_) rfl (by kernel_rfl) (by rfl) (fun _ _ _ h => h) hHeld (fun w1 hw1 => ?_) ?_
              rotate_left 1
              · skip
                go_simp
                (try (first | with_reducible rfl | (apply And.intro <;> rfl)))
              simp only [Act.put, List.setIfInBounds_toArray, List.set_cons_zero, List.set_cons_succ]
              refine run_at (i := 18) (v := ?_) rfl (by kernel_rfl) (by rfl) (fun _ _ _ h => h) hHeld (fun w1 hw1 => ?_) ?_
              rotate_left 1
              · skip
                go_simp
                (try (first | with_reducible rfl | (apply And.intro <;> rfl)))
              simp only [Act.put, List.setIfInBounds_toArray, List.set_cons_zero, List.set_cons_succ]
              refine run_at (i := 19) (v := ?_) rfl (by kernel_rfl) (by rfl) (fun _ _ _ h => h) hHeld (fun w1 hw1 => ?_) ?_
              rotate_left 1
              · skip
                go_simp
                (try (first | with_reducible rfl | (apply And.intro <;> rfl)))
              simp only [Act.put, List.setIfInBounds_toArray, List.set_cons_zero, List.set_cons_succ]
              refine run_at (i := 20) (v := ?_) rfl (by kernel_rfl) (by rfl) (fun _ _ _ h => h) hHeld (fun w1 hw1 => ?_) ?_
              rotate_left 1
              · skip
                go_simp
                (try (first | with_reducible rfl | (apply And.intro <;> rfl)))
              simp only [Act.put, List.setIfInBounds_toArray, List.set_cons_zero, List.set_cons_succ]
              refine run_at (i := 21) (v := ?_) rfl (by kernel_rfl) (by rfl) (fun _ _ _ h => h) hHeld (fun w1 hw1 => ?_) ?_
              rotate_left 1
              · skip
                go_simp
                (try (first | with_reducible rfl | (apply And.intro <;> rfl)))
              simp only [Act.put, List.setIfInBounds_toArray, List.set_cons_zero, List.set_cons_succ]
              refine run_at (i := 22) (v := ?_) rfl (by kernel_rfl) (by rfl) (fun _ _ _ h => h) hHeld (fun w1 hw1 => ?_) ?_
              rotate_left 1
              · skip
                go_simp
                (try (first | with_reducible rfl | (apply And.intro <;> rfl)))
              simp only [Act.put, List.setIfInBounds_toArray, List.set_cons_zero, List.set_cons_succ]
              refine run_at (i := 24) (v := ?_) rfl (by kernel_rfl) (by rfl) (fun _ _ _ h => h) hHeld (fun w1 hw1 => ?_) ?_
              rotate_left 1
              · skip
                go_simp
                (try (first | with_reducible rfl | (apply And.intro <;> rfl)))
              simp only [Act.put, List.setIfInBounds_toArray, List.set_cons_zero, List.set_cons_succ]
              refine run_at (i := 25) (v := ?_) rfl (by kernel_rfl) (by rfl) (fun _ _ _ h => h) hHeld (fun w1 hw1 => ?_) ?_
              rotate_left 1
              · skip
                go_simp
                (try (first | with_reducible rfl | (apply And.intro <;> rfl)))
              simp only [Act.put, List.setIfInBounds_toArray, List.set_cons_zero, List.set_cons_succ]
              refine run_at (i := 26) (v := ?_) rfl (by kernel_rfl) (by rfl) (fun _ _ _ h => h) hHeld (fun w1 hw1 => ?_) ?_
              rotate_left 1
              · skip
                go_simp
                (try (first | with_reducible rfl | (apply And.intro <;> rfl)))
              simp only [Act.put, List.setIfInBounds_toArray, List.set_cons_zero, List.set_cons_succ]
              refine run_at (i := 27) (v := ?_) rfl (by kernel_rfl) (by rfl) (fun _ _ _ h => h) hHeld (fun w1 hw1 => ?_) ?_
              rotate_left 1
              · skip
                go_simp
                (try (first | with_reducible rfl | (apply And.intro <;> rfl)))
              simp only [Act.put, List.setIfInBounds_toArray, List.set_cons_zero, List.set_cons_succ]
              refine call_at (i := 23) (f := ?_) (args := ?_) rfl (by kernel_rfl) (by rfl) ?_ ?_
              rotate_left 2
              · go_simp
                (try (first | with_reducible rfl | (apply And.intro <;> rfl)))
              refine (HS2.out _ hHeld).mono ?_
              rintro e wq ⟨rfl, hfq⟩
              refine ⟨_, rfl, hHeld.and hfq (by simp), fun hHeld => ?_⟩
              clear hfq
              simp only [Act.put, List.setIfInBounds_toArray, List.set_cons_zero, List.set_cons_succ]
              refine call_at (i := 28) (f := ?_) (args := ?_) rfl (by kernel_rfl) (by rfl) ?_ ?_
              rotate_left 2
              · go_simp
                (try (first | with_reducible rfl | (apply And.intro <;> rfl)))
              refine (HR2.out _ hHeld).mono ?_
              rintro e wq ⟨rfl, hfq⟩
              refine ⟨_, rfl, hHeld.and hfq (by simp), fun hHeld => ?_⟩
              clear hfq
              simp only [Act.put, List.setIfInBounds_toArray, List.set_cons_zero, List.set_cons_succ]
              refine run_at (i := 29) (v := ?_) rfl (by kernel_rfl) (by rfl) (fun _ _ _ h => h) hHeld (fun w1 hw1 => ?_) ?_
              rotate_left 1
              · skip
                go_simp
                (try (first | with_reducible rfl | (apply And.intro <;> rfl)))
              simp only [Act.put, List.setIfInBounds_toArray, List.set_cons_zero, List.set_cons_succ]
              refine run_at (i := 30) (v := ?_) rfl (by kernel_rfl) (by rfl) (fun _ _ _ h => h) hHeld (fun w1 hw1 => ?_) ?_
              rotate_left 1
              · skip
                go_simp
                (try (first | with_reducible rfl | (apply And.intro <;> rfl)))
              simp only [Act.put, List.setIfInBounds_toArray, List.set_cons_zero, List.set_cons_succ]
              refine run_at (i := 31) (v := ?_) rfl (by kernel_rfl) (by rfl) (fun _ _ _ h => h) hHeld (fun w1 hw1 => ?_) ?_
              rotate_left 1
              · skip
                go_simp
                (try (first | with_reducible rfl | (apply And.intro <;> rfl)))
              simp only [Act.put, List.setIfInBounds_toArray, List.set_cons_zero, List.set_cons_succ]
              refine call_at (i := 32) (f := ?_) (args := ?_) rfl (by kernel_rfl) (by rfl) ?_ ?_
              rotate_left 2
              · go_simp
                (try (first | with_reducible rfl | (apply And.intro <;> rfl)))
              refine (shawakes_any _ (HK2.out.keep hHeld (by simp))).mono ?_
              rintro e wq ⟨rfl, hfq⟩
              refine ⟨_, rfl, hHeld.and hfq (by simp), fun hHeld => ?_⟩
              clear hfq
              simp only [Act.put, List.setIfInBounds_toArray, List.set_cons_zero, List.set_cons_succ]
              refine run_at (i := 33) (v := ?_) rfl (by kernel_rfl) (by rfl) (fun _ _ _ h => h) hHeld (fun w1 hw1 => ?_) ?_
              rotate_left 1
              · skip
                go_simp
                (try (first | with_reducible rfl | (apply And.intro <;> rfl)))
              simp only [Act.put, List.setIfInBounds_toArray, List.set_cons_zero, List.set_cons_succ]
              refine run_at (i := 34) (v := ?_) rfl (by kernel_rfl) (by rfl) (fun _ _ _ h => h) hHeld (fun w1 hw1 => ?_) ?_
              rotate_left 1
              · skip
                go_simp
                (try (first | with_reducible rfl | (apply And.intro <;> rfl)))
              simp only [Act.put, List.setIfInBounds_toArray, List.set_cons_zero, List.set_cons_succ]
              refine wpAnyH_done (by kernel_rfl) ?_ _
              go_wp2
              go_ret
              exact ⟨rfl, HF2.out.and hHeld (by simp)⟩
          · skip
            have HLT7 : Hid (∀ k ∈ bk A7, k < v1.heap.size) := Lib.hid H7.out.lt
            refine wp_run (v := ?_) (w' := ?_) ?_ ?_
            rotate_left 2
            · go_simp
              (try (first | with_reducible rfl | (apply And.intro <;> rfl)))
            refine hK.out _ (v1.alloc (Obj.cells #[.int .u8 0] 5)) (hHeld.alloc _) (fun hHeld => ?_)
            clear hK K
            simp only [Act.put, List.setIfInBounds_toArray, List.set_cons_zero, List.set_cons_succ]
            have H8 := Lib.hid (H8.out.keep ((Fr.refl [] v1).alloc (Obj.cells #[.int .u8 0] 5)) (by simp))
            have H7 := Lib.hid (H7.out.next ((Fr.refl [] v1).alloc (Obj.cells #[.int .u8 0] 5)))
            have H13 : Hid (By (v1.alloc (Obj.cells #[.int .u8 0] 5)) (some ⟨v1.heap.size, 0, none⟩) 1 [0]) := Lib.hid (By.one (Blk.new _ _ _) rfl)
            generalize v1.alloc (Obj.cells #[.int .u8 0] 5) = v2 at *
            obtain ⟨g13, hg13⟩ : ∃ g, g = v1.heap.size := ⟨_, rfl⟩
            rw [← hg13] at H13 ⊢
            have HD13 : Hid (¬ g13 ∈ bk A7) := Lib.hid (fun hm => by have h1 := HLT7.out _ hm; omega)
            have HL13 : Hid (g13 < v2.heap.size) := Lib.hid (H13.out.blk_lt (by omega) g13 (by simp [bk]))
            clear hg13
            refine step_at (i := 9) rfl (by kernel_rfl) (by rfl) (fun K hK => ?_)
            refine wp_append_bytes _ _ _ _ rfl 5 Tryd.underlying23 info_u8 (.slice A7 N c7) N X rfl H7.out.1 (some ⟨g8, 0, none⟩) 1 1 [0] rfl H8.out (by omega) ?_
            intro A9 c9 v3 hoo hgg haa
            have hnn := NewB.grow (‹Fr [] w2 v2›) H7.out.2.2 hoo hgg haa
            refine hK.out _ _ hnn.2.1 (fun hHeld => ?_)
            clear hK K
            simp only [Act.put, List.setIfInBounds_toArray, List.set_cons_zero, List.set_cons_succ]
            have hf9 : Fr (bk A7) v2 v3 := ((Fr.refl [] v2).mono (T := bk A7) (by simp)).grown hgg (fun y hy _ => by rw [bk_mem] at hy; exact hy)
            have H13 := Lib.hid (H13.out.keep hf9 (fun a ha => by injection ha with ha; subst ha; exact HD13.out))
            have HL13 : Hid (g13 < v3.heap.size) := Lib.hid (H13.out.blk_lt (by omega) g13 (by simp [bk]))
            clear hf9
            have H9 := Lib.hid hnn
            clear hnn hoo hgg haa
            refine step_at (i := 10) rfl (by kernel_rfl) (by rfl) (fun K hK => ?_)
            refine wp_call (f := ?_) (args := ?_) ?_ ?_
            rotate_left 2
            · go_simp
              (try (first | with_reducible rfl | (apply And.intro <;> rfl)))
            refine ((HS1.out _ hHeld A9 c9 H9.out)).mono ?_
            rintro e v4 ⟨rfl, hfq⟩
            refine ⟨_, rfl, hK.out _ _ (hHeld.and hfq (by simp)) (fun hHeld => ?_)⟩
            clear hK K
            simp only [Act.put, List.setIfInBounds_toArray, List.set_cons_zero, List.set_cons_succ]
            have H13 := Lib.hid (H13.out.keep hfq (by simp))
            have HL13 := Lib.hid (Nat.lt_of_lt_of_le HL13.out hfq.size)
            clear hfq
            refine step_at (i := 12) rfl (by kernel_rfl) (by rfl) (fun K hK => ?_)
            refine wp_call (f := ?_) (args := ?_) ?_ ?_
            rotate_left 2
            · go_simp
              (try (first | with_reducible rfl | (apply And.intro <;> rfl)))
            refine (HCP.out _ hHeld).mono ?_
            rintro e v5 ⟨A12, c12, rfl, hnn⟩
            refine ⟨_, rfl, hK.out _ _ (hHeld.and hnn.2.1 (by simp)) (fun hHeld => ?_)⟩
            clear hK K
            simp only [Act.put, List.setIfInBounds_toArray, List.set_cons_zero, List.set_cons_succ]
            have HL13o := HL13
            have H13 := Lib.hid (H13.out.keep hnn.2.1 (by simp))
            have HL13 := Lib.hid (Nat.lt_of_lt_of_le HL13.out hnn.2.1.size)
            have H12 : Hid (NewB w2 v5 A12 N c12 X) := Lib.hid (hnn.from_ (‹Fr [] w2 v4›))
            clear hnn
            refine step_at (i := 14) rfl (by kernel_rfl) (by rfl) (fun K hK => ?_)
            refine wp_append_bytes _ _ _ _ rfl 5 Tryd.underlying23 info_u8 (.slice A12 N c12) N X rfl H12.out.1 (some ⟨g13, 0, none⟩) 1 1 [0] rfl H13.out (by omega) ?_
            intro A14 c14 v6 hoo hgg haa
            have hnn := NewB.grow (‹Fr [] w2 v5›) H12.out.2.2 hoo hgg haa
            refine hK.out _ _ hnn.2.1 (fun hHeld => ?_)
            clear hK K
            simp only [Act.put, List.setIfInBounds_toArray, List.set_cons_zero, List.set_cons_succ]
            have H14 := Lib.hid hnn
            clear hnn hoo hgg haa
            refine step_at (i := 15) rfl (by kernel_rfl) (by rfl) (fun K hK => ?_)
            refine wp_call (f := ?_) (args := ?_) ?_ ?_
            rotate_left 2
            · go_simp
              (try (first | with_reducible rfl | (apply And.intro <;> rfl)))
            refine ((HR1.out _ hHeld A14 c14 H14.out)).mono ?_
            rintro e v7 ⟨rfl, hfq⟩
            refine ⟨_, rfl, hK.out _ _ (hHeld.and hfq (by simp)) (fun hHeld => ?_)⟩
            clear hK K
            simp only [Act.put, List.setIfInBounds_toArray, List.set_cons_zero, List.set_cons_succ]
            clear hfq
            refine run_at (i := 16) (v := ?_) rfl (by kernel_rfl) (by rfl) (fun _ _ _ h => h) hHeld (fun w1 hw1 => ?_) ?_
            rotate_left 1
            · skip
              go_simp
              (try (first | with_reducible rfl | (apply And.intro <;> rfl)))
            simp only [Act.put, List.setIfInBounds_toArray, List.set_cons_zero, List.set_cons_succ]
            refine run_at (i := 17) (v := ?_) rfl (by kernel_rfl) (by rfl) (fun _ _ _ h => h) hHeld (fun w1 hw1 => ?_) ?_
            rotate_left 1
            · skip
              go_simp
              (try (first | with_reducible rfl | (apply And.intro <;> rfl)))
            simp only [Act.put, List.setIfInBounds_toArray, List.set_cons_zero, List.set_cons_succ]
            refine run_at (i := 18) (v := ?_) rfl (by kernel_rfl) (by rfl) (fun _ _ _ h => h) hHeld (fun w1 hw1 => ?_) ?_
            rotate_left 1
            · skip
              go_simp
              (try (first | with_reducible rfl | (apply And.intro <;> rfl)))
            simp only [Act.put, List.setIfInBounds_toArray, List.set_cons_zero, List.set_cons_succ]
            refine run_at (i := 19) (v := ?_) rfl (by kernel_rfl) (by rfl) (fun _ _ _ h => h) hHeld (fun w1 hw1 => ?_) ?_
            rotate_left 1
            · skip
              go_simp
              (try (first | with_reducible rfl | (apply And.intro <;> rfl)))
            simp only [Act.put, List.setIfInBounds_toArray, List.set_cons_zero, List.set_cons_succ]
            refine run_at (i := 20) (v := ?_) rfl (by kernel_rfl) (by rfl) (fun _ _ _ h => h) hHeld (fun w1 hw1 => ?_) ?_
            rotate_left 1
            · skip
              go_simp
              (try (first | with_reducible rfl | (apply And.intro <;> rfl)))
            simp only [Act.put, List.setIfInBounds_toArray, List.set_cons_zero, List.set_cons_succ]
            refine run_at (i := 21) (v := ?_) rfl (by kernel_rfl) (by rfl) (fun _ _ _ h => h) hHeld (fun w1 hw1 => ?_) ?_
            rotate_left 1
            · skip
              go_simp
              (try (first | with_reducible rfl | (apply And.intro <;> rfl)))
            simp only [Act.put, List.setIfInBounds_toArray, List.set_cons_zero, List.set_cons_succ]
            refine run_at (i := 22) (v := ?_) rfl (by kernel_rfl) (by rfl) (fun _ _ _ h => h) hHeld (fun w1 hw1 => ?_) ?_
            rotate_left 1
            · skip
              go_simp
              (try (first | with_reducible rfl | (apply And.intro <;> rfl)))
            simp only [Act.put, List.setIfInBounds_toArray, List.set_cons_zero, List.set_cons_succ]
            refine run_at (i := 24) (v := ?_) rfl (by kernel_rfl) (by rfl) (fun _ _ _ h => h) hHeld (fun w1 hw1 => ?_) ?_
            rotate_left 1
            · skip
              go_simp
              (try (first | with_reducible rfl | (apply And.intro <;> rfl)))
            simp only [Act.put, List.setIfInBounds_toArray, List.set_cons_zero, List.set_cons_succ]
            refine run_at (i := 25) (v := ?_) rfl (by kernel_rfl) (by rfl) (fun _ _ _ h => h) hHeld (fun w1 hw1 => ?_) ?_
            rotate_left 1
            · skip
              go_simp
              (try (first | with_reducible rfl | (apply And.intro <;> rfl)))
            simp only [Act.put, List.setIfInBounds_toArray, List.set_cons_zero, List.set_cons_succ]
            refine run_at (i := 26) (v := ?_) rfl (by kernel_rfl) (by rfl) (fun _ _ _ h => h) hHeld (fun w1 hw1 => ?_) ?_
            rotate_left 1
            · skip
              go_simp
              (try (first | with_reducible rfl | (apply And.intro <;> rfl)))
            simp only [Act.put, List.setIfInBounds_toArray, List.set_cons_zero, List.set_cons_succ]
            refine run_at (i := 27) (v := ?_) rfl (by kernel_rfl) (by rfl) (fun _ _ _ h => h) hHeld (fun w1 hw1 => ?_) ?_
            rotate_left 1
            · skip
              go_simp
              (try (first | with_reducible rfl | (apply And.intro <;> rfl)))
            simp only [Act.put, List.setIfInBounds_toArray, List.set_cons_zero, List.set_cons_succ]
            refine call_at (i := 23) (f := ?_) (args := ?_) rfl (by kernel_rfl) (by rfl) ?_ ?_
            rotate_left 2
            · go_simp
              (try (first | with_reducible rfl | (apply And.intro <;> rfl)))
            refine (HS2.out _ hHeld).mono ?_
            rintro e wq ⟨rfl, hfq⟩
            refine ⟨_, rfl, hHeld.and hfq (by simp), fun hHeld => ?_⟩
            clear hfq
            simp only [Act.put, List.setIfInBounds_toArray, List.set_cons_zero, List.set_cons_succ]
            refine call_at (i := 28) (f := ?_) (args := ?_) rfl (by kernel_rfl) (by rfl) ?_ ?_
            rotate_left 2
            · go_simp
              (try (first | with_reducible rfl | (apply And.intro <;> rfl)))
            refine (HR2.out _ hHeld).mono ?_
            rintro e wq ⟨rfl, hfq⟩
            refine ⟨_, rfl, hHeld.and hfq (by simp), fun hHeld => ?_⟩
            clear hfq
            simp only [Act.put, List.setIfInBounds_toArray, List.set_cons_zero, List.set_cons_succ]
            refine run_at (i := 29) (v := ?_) rfl (by kernel_rfl) (by rfl) (fun _ _ _ h => h) hHeld (fun w1 hw1 => ?_) ?_
            rotate_left 1
            · skip
              go_simp
              (try (first | with_reducible rfl | (apply And.intro <;> rfl)))
            simp only [Act.put, List.setIfInBounds_toArray, List.set_cons_zero, List.set_cons_succ]
            refine run_at (i := 30) (v := ?_) rfl (by kernel_rfl) (by rfl) (fun _ _ _ h => h) hHeld (fun w1 hw1 => ?_) ?_
            rotate_left 1
            · skip
              go_simp
              (try (first | with_reducible rfl | (apply And.intro <;> rfl)))
            simp only [Act.put, List.setIfInBounds_toArray, List.set_cons_zero, List.set_cons_succ]
            refine run_at (i := 31) (v := ?_) rfl (by kernel_rfl) (by rfl) (fun _ _ _ h => h) hHeld (fun w1 hw1 => ?_) ?_
            rotate_left 1
            · skip
              go_simp
              (try (first | with_reducible rfl | (apply And.intro <;> rfl)))
            simp only [Act.put, List.setIfInBounds_toArray, List.set_cons_zero, List.set_cons_succ]
            refine call_at (i := 32) (f := ?_) (args := ?_) rfl (by kernel_rfl) (by rfl) ?_ ?_
            rotate_left 2
            · go_simp
              (try (first | with_reducible rfl | (apply And.intro <;> rfl)))
            refine (shawakes_any _ (HK2.out.keep hHeld (by simp))).mono ?_
            rintro e wq ⟨rfl, hfq⟩
            refine ⟨_, rfl, hHeld.and hfq (by simp), fun hHeld => ?_⟩
            clear hfq
            simp only [Act.put, List.setIfInBounds_toArray, List.set_cons_zero, List.set_cons_succ]
            refine run_at (i := 33) (v := ?_) rfl (by kernel_rfl) (by rfl) (fun _ _ _ h => h) hHeld (fun w1 hw1 => ?_) ?_
            rotate_left 1
            · skip
              go_simp
              (try (first | with_reducible rfl | (apply And.intro <;> rfl)))
            simp only [Act.put, List.setIfInBounds_toArray, List.set_cons_zero, List.set_cons_succ]
            refine run_at (i := 34) (v := ?_) rfl (by kernel_rfl) (by rfl) (fun _ _ _ h => h) hHeld (fun w1 hw1 => ?_) ?_
            rotate_left 1
            · skip
              go_simp
              (try (first | with_reducible rfl | (apply And.intro <;> rfl)))
            simp only [Act.put, List.setIfInBounds_toArray, List.set_cons_zero, List.set_cons_succ]
            refine wpAnyH_done (by kernel_rfl) ?_ _
            go_wp2
            go_ret
            exact ⟨rfl, HF2.out.and hHeld (by simp)⟩
        · skip
          refine wp_run (v := ?_) (w' := ?_) ?_ ?_
          rotate_left 2
          · go_simp
            (try (first | with_reducible rfl | (apply And.intro <;> rfl)))
          refine hK.out _ (v0.alloc (Obj.cells #[.int .u8 0] 5)) (hHeld.alloc _) (fun hHeld => ?_)
          clear hK K
          simp only [Act.put, List.setIfInBounds_toArray, List.set_cons_zero, List.set_cons_succ]
          have H8 := Lib.hid (H8.out.keep ((Fr.refl [] v0).alloc (Obj.cells #[.int .u8 0] 5)) (by simp))
          have H13 : Hid (By (v0.alloc (Obj.cells #[.int .u8 0] 5)) (some ⟨v0.heap.size, 0, none⟩) 1 [0]) := Lib.hid (By.one (Blk.new _ _ _) rfl)
          generalize v0.alloc (Obj.cells #[.int .u8 0] 5) = v1 at *
          obtain ⟨g13, hg13⟩ : ∃ g, g = v0.heap.size := ⟨_, rfl⟩
          rw [← hg13] at H13 ⊢
          have HL13 : Hid (g13 < v1.heap.size) := Lib.hid (H13.out.blk_lt (by omega) g13 (by simp [bk]))
          clear hg13
          refine step_at (i := 7) rfl (by kernel_rfl) (by rfl) (fun K hK => ?_)
          refine wp_call (f := ?_) (args := ?_) ?_ ?_
          rotate_left 2
          · go_simp
            (try (first | with_reducible rfl | (apply And.intro <;> rfl)))
          refine (HCP.out _ hHeld).mono ?_
          rintro e v2 ⟨A7, c7, rfl, hnn⟩
          refine ⟨_, rfl, hK.out _ _ (hHeld.and hnn.2.1 (by simp)) (fun hHeld => ?_)⟩
          clear hK K
          simp only [Act.put, List.setIfInBounds_toArray, List.set_cons_zero, List.set_cons_succ]
          have HL13o := HL13
          have H8 := Lib.hid (H8.out.keep hnn.2.1 (by simp))
          have H13 := Lib.hid (H13.out.keep hnn.2.1 (by simp))
          have HL13 := Lib.hid (Nat.lt_of_lt_of_le HL13.out hnn.2.1.size)
          have H7 : Hid (NewB w2 v2 A7 N c7 X) := Lib.hid (hnn.from_ (‹Fr [] w2 v1›))
          have HD13 : Hid (¬ g13 ∈ bk A7) := Lib.hid (fun hm => by have h1 := hnn.2.2 _ hm; have h2 := HL13o.out; omega)
          clear hnn
          refine step_at (i := 9) rfl (by kernel_rfl) (by rfl) (fun K hK => ?_)
          refine wp_append_bytes _ _ _ _ rfl 5 Tryd.underlying23 info_u8 (.slice A7 N c7) N X rfl H7.out.1 (some ⟨g8, 0, none⟩) 1 1 [0] rfl H8.out (by omega) ?_
          intro A9 c9 v3 hoo hgg haa
          have hnn := NewB.grow (‹Fr [] w2 v2›) H7.out.2.2 hoo hgg haa
          refine hK.out _ _ hnn.2.1 (fun hHeld => ?_)
          clear hK K
          simp only [Act.put, List.setIfInBounds_toArray, List.set_cons_zero, List.set_cons_succ]
          have hf9 : Fr (bk A7) v2 v3 := ((Fr.refl [] v2).mono (T := bk A7) (by simp)).grown hgg (fun y hy _ => by rw [bk_mem] at hy; exact hy)
          have H13 := Lib.hid (H13.out.keep hf9 (fun a ha => by injection ha with ha; subst ha; exact HD13.out))
          have HL13 : Hid (g13 < v3.heap.size) := Lib.hid (H13.out.blk_lt (by omega) g13 (by simp [bk]))
          clear hf9
          have H9 := Lib.hid hnn
          clear hnn hoo hgg haa
          refine step_at (i := 10) rfl (by kernel_rfl) (by rfl) (fun K hK => ?_)
          refine wp_call (f := ?_) (args := ?_) ?_ ?_
          rotate_left 2
          · go_simp
            (try (first | with_reducible rfl | (apply And.intro <;> rfl)))
          refine ((HS1.out _ hHeld A9 c9 H9.out)).mono ?_
          rintro e v4 ⟨rfl, hfq⟩
          refine ⟨_, rfl, hK.out _ _ (hHeld.and hfq (by simp)) (fun hHeld => ?_)⟩
          clear hK K
          simp only [Act.put, List.setIfInBounds_toArray, List.set_cons_zero, List.set_cons_succ]
          have H13 := Lib.hid (H13.out.keep hfq (by simp))
          have HL13 := Lib.hid (Nat.lt_of_lt_of_le HL13.out hfq.size)
          clear hfq
          refine step_at (i := 12) rfl (by kernel_rfl) (by rfl) (fun K hK => ?_)
          refine wp_call (f := ?_) (args := ?_) ?_ ?_
          rotate_left 2
          · go_simp
            (try (first | with_reducible rfl | (apply And.intro <;> rfl)))
          refine (HCP.out _ hHeld).mono ?_
          rintro e v5 ⟨A12, c12, rfl, hnn⟩
          refine ⟨_, rfl, hK.out _ _ (hHeld.and hnn.2.1 (by simp)) (fun hHeld => ?_)⟩
          clear hK K
          simp only [Act.put, List.setIfInBounds_toArray, List.set_cons_zero, List.set_cons_succ]
          have HL13o := HL13
          have H13 := Lib.hid (H13.out.keep hnn.2.1 (by simp))
          have HL13 := Lib.hid (Nat.lt_of_lt_of_le HL13.out hnn.2.1.size)
          have H12 : Hid (NewB w2 v5 A12 N c12 X) := Lib.hid (hnn.from_ (‹Fr [] w2 v4›))
          clear hnn
          refine step_at (i := 14) rfl (by kernel_rfl) (by rfl) (fun K hK => ?_)
          refine wp_append_bytes _ _ _ _ rfl 5 Tryd.underlying23 info_u8 (.slice A12 N c12) N X rfl H12.out.1 (some ⟨g13, 0, none⟩) 1 1 [0] rfl H13.out (by omega) ?_
          intro A14 c14 v6 hoo hgg haa
          have hnn := NewB.grow (‹Fr [] w2 v5›) H12.out.2.2 hoo hgg haa
          refine hK.out _ _ hnn.2.1 (fun hHeld => ?_)
          clear hK K
          simp only [Act.put, List.setIfInBounds_toArray, List.set_cons_zero, List.set_cons_succ]
          have H14 := Lib.hid hnn
          clear hnn hoo hgg haa
          refine step_at (i := 15) rfl (by kernel_rfl) (by rfl) (fun K hK => ?_)
          refine wp_call (f := ?_) (args := ?_) ?_ ?_
          rotate_left 2
          · go_simp
            (try (first | with_reducible rfl | (apply And.intro <;> rfl)))
          refine ((HR1.out _ hHeld A14 c14 H14.out)).mono ?_
          rintro e v7 ⟨rfl, hfq⟩
          refine ⟨_, rfl, hK.out _ _ (hHeld.and hfq (by simp)) (fun hHeld => ?_)⟩
          clear hK K
          simp only [Act.put, List.setIfInBounds_toArray, List.set_cons_zero, List.set_cons_succ]
          clear hfq
          refine run_at (i := 16) (v := ?_) rfl (by kernel_rfl) (by rfl) (fun _ _ _ h => h) hHeld (fun w1 hw1 => ?_) ?_
          rotate_left 1
          · skip
            go_simp
            (try (first | with_reducible rfl | (apply And.intro <;> rfl)))
          simp only [Act.put, List.setIfInBounds_toArray, List.set_cons_zero, List.set_cons_succ]
          refine run_at (i := 17) (v := ?_) rfl (by kernel_rfl) (by rfl) (fun _ _ _ h => h) hHeld (fun w1 hw1 => ?_) ?_
          rotate_left 1
          · skip
            go_simp
            (try (first | with_reducible rfl | (apply And.intro <;> rfl)))
          simp only [Act.put, List.setIfInBounds_toArray, List.set_cons_zero, List.set_cons_succ]
          refine run_at (i := 18) (v := ?_) rfl (by kernel_rfl) (by rfl) (fun _ _ _ h => h) hHeld (fun w1 hw1 => ?_) ?_
          rotate_left 1
          · skip
            go_simp
            (try (first | with_reducible rfl | (apply And.intro <;> rfl)))
          simp only [Act.put, List.setIfInBounds_toArray, List.set_cons_zero, List.set_cons_succ]
          refine run_at (i := 19) (v := ?_) rfl (by kernel_rfl) (by rfl) (fun _ _ _ h => h) hHeld (fun w1 hw1 => ?_) ?_
          rotate_left 1
          · skip
            go_simp
            (try (first | with_reducible rfl | (apply And.intro <;> rfl)))
          simp only [Act.put, List.setIfInBounds_toArray, List.set_cons_zero, List.set_cons_succ]
          refine run_at (i := 20) (v := ?_) rfl (by kernel_rfl) (by rfl) (fun _ _ _ h => h) hHeld (fun w1 hw1 => ?_) ?_
          rotate_left 1
          · skip
            go_simp
            (try (first | with_reducible rfl | (apply And.intro <;> rfl)))
          simp only [Act.put, List.setIfInBounds_toArray, List.set_cons_zero, List.set_cons_succ]
          refine run_at (i := 21) (v := ?_) rfl (by kernel_rfl) (by rfl) (fun _ _ _ h => h) hHeld (fun w1 hw1 => ?_) ?_
          rotate_left 1
          · skip
            go_simp
            (try (first | with_reducible rfl | (apply And.intro <;> rfl)))
          simp only [Act.put, List.setIfInBounds_toArray, List.set_cons_zero, List.set_cons_succ]
          refine run_at (i := 22) (v := ?_) rfl (by kernel_rfl) (by rfl) (fun _ _ _ h => h) hHeld (fun w1 hw1 => ?_) ?_
          rotate_left 1
          · skip
            go_simp
            (try (first | with_reducible rfl | (apply And.intro <;> rfl)))
          simp only [Act.put, List.setIfInBounds_toArray, List.set_cons_zero, List.set_cons_succ]
          refine run_at (i := 24) (v := ?_) rfl (by kernel_rfl) (by rfl) (fun _ _ _ h => h) hHeld (fun w1 hw1 => ?_) ?_
          rotate_left 1
          · skip
            go_simp
            (try (first | with_reducible rfl | (apply And.intro <;> rfl)))
          simp only [Act.put, List.setIfInBounds_toArray, List.set_cons_zero, List.set_cons_succ]
          refine run_at (i := 25) (v := ?_) rfl (by kernel_rfl) (by rfl) (fun _ _ _ h => h) hHeld (fun w1 hw1 => ?_) ?_
          rotate_left 1
          · skip
            go_simp
            (try (first | with_reducible rfl | (apply And.intro <;> rfl)))
          simp only [Act.put, List.setIfInBounds_toArray, List.set_cons_zero, List.set_cons_succ]
          refine run_at (i := 26) (v := ?_) rfl (by kernel_rfl) (by rfl) (fun _ _ _ h => h) hHeld (fun w1 hw1 => ?_) ?_
          rotate_left 1
          · skip
            go_simp
            (try (first | with_reducible rfl | (apply And.intro <;> rfl)))
          simp only [Act.put, List.setIfInBounds_toArray, List.set_cons_zero, List.set_cons_succ]
          refine run_at (i := 27) (v := ?_) rfl (by kernel_rfl) (by rfl) (fun _ _ _ h => h) hHeld (fun w1 hw1 => ?_) ?_
          rotate_left 1
          · skip
            go_simp
            (try (first | with_reducible rfl | (apply And.intro <;> rfl)))
          simp only [Act.put, List.setIfInBounds_toArray, List.set_cons_zero, List.set_cons_succ]
          refine call_at (i := 23) (f := ?_) (args := ?_) rfl (by kernel_rfl) (by rfl) ?_ ?_
          rotate_left 2
          · go_simp
            (try (first | with_reducible rfl | (apply And.intro <;> rfl)))
          refine (HS2.out _ hHeld).mono ?_
          rintro e wq ⟨rfl, hfq⟩
          refine ⟨_, rfl, hHeld.and hfq (by simp), fun hHeld => ?_⟩
          clear hfq
          simp only [Act.put, List.setIfInBounds_toArray, List.set_cons_zero, List.set_cons_succ]
          refine call_at (i := 28) (f := ?_) (args := ?_) rfl (by kernel_rfl) (by rfl) ?_ ?_
          rotate_left 2
          · go_simp
            (try (first | with_reducible rfl | (apply And.intro <;> rfl)))
          refine (HR2.out _ hHeld).mono ?_
          rintro e wq ⟨rfl, hfq⟩
          refine ⟨_, rfl, hHeld.and hfq (by simp), fun hHeld => ?_⟩
          clear hfq
          simp only [Act.put, List.setIfInBounds_toArray, List.set_cons_zero, List.set_cons_succ]
          refine run_at (i := 29) (v := ?_) rfl (by kernel_rfl) (by rfl) (fun _ _ _ h => h) hHeld (fun w1 hw1 => ?_) ?_
          rotate_left 1
          · skip
            go_simp
            (try (first | with_reducible rfl | (apply And.intro <;> rfl)))
          simp only [Act.put, List.setIfInBounds_toArray, List.set_cons_zero, List.set_cons_succ]
          refine run_at (i := 30) (v := ?_) rfl (by kernel_rfl) (by rfl) (fun _ _ _ h => h) hHeld (fun w1 hw1 => ?_) ?_
          rotate_left 1
          · skip
            go_simp
            (try (first | with_reducible rfl | (apply And.intro <;> rfl)))
          simp only [Act.put, List.setIfInBounds_toArray, List.set_cons_zero, List.set_cons_succ]
          refine run_at (i := 31) (v := ?_) rfl (by kernel_rfl) (by rfl) (fun _ _ _ h => h) hHeld (fun w1 hw1 => ?_) ?_
          rotate_left 1
          · skip
            go_simp
            (try (first | with_reducible rfl | (apply And.intro <;> rfl)))
          simp only [Act.put, List.setIfInBounds_toArray, List.set_cons_zero, List.set_cons_succ]
          refine call_at (i := 32) (f := ?_) (args := ?_) rfl (by kernel_rfl) (by rfl) ?_ ?_
          rotate_left 2
          · go_simp
            (try (first | with_reducible rfl | (apply And.intro <;> rfl)))
          refine (shawakes_any _ (HK2.out.keep hHeld (by simp))).mono ?_
          rintro e wq ⟨rfl, hfq⟩
          refine ⟨_, rfl, hHeld.and hfq (by simp), fun hHeld => ?_⟩
          clear hfq
          simp only [Act.put, List.setIfInBounds_toArray, List.set_cons_zero, List.set_cons_succ]
          refine run_at (i := 33) (v := ?_) rfl (by kernel_rfl) (by rfl) (fun _ _ _ h => h) hHeld (fun w1 hw1 => ?_) ?_
          rotate_left 1
          · skip
            go_simp
            (try (first | with_reducible rfl | (apply And.intro <;> rfl)))
          simp only [Act.put, List.setIfInBounds_toArray, List.set_cons_zero, List.set_cons_succ]
          refine run_at (i := 34) (v := ?_) rfl (by kernel_rfl) (by rfl) (fun _ _ _ h => h) hHeld (fun w1 hw1 => ?_) ?_
          rotate_left 1
          · skip
            go_simp
            (try (first | with_reducible rfl | (apply And.intro <;> rfl)))
          simp only [Act.put, List.setIfInBounds_toArray, List.set_cons_zero, List.set_cons_succ]
          refine wpAnyH_done (by kernel_rfl) ?_ _
          go_wp2
          go_ret
          exact ⟨rfl, HF2.out.and hHeld (by simp)⟩
      · skip
        refine wp_run (v := ?_) (w' := ?_) ?_ ?_
        rotate_left 2
        · go_simp
          (try (first | with_reducible rfl | (apply And.intro <;> rfl)))
        refine hK.out _ (wq.alloc (Obj.cells #[.int .u8 0] 5)) (hHeld.alloc _) (fun hHeld => ?_)
        clear hK K
        simp only [Act.put, List.setIfInBounds_toArray, List.set_cons_zero, List.set_cons_succ]
        have H13 : Hid (By (wq.alloc (Obj.cells #[.int .u8 0] 5)) (some ⟨wq.heap.size, 0, none⟩) 1 [0]) := Lib.hid (By.one (Blk.new _ _ _) rfl)
        generalize wq.alloc (Obj.cells #[.int .u8 0] 5) = v0 at *
        obtain ⟨g13, hg13⟩ : ∃ g, g = wq.heap.size := ⟨_, rfl⟩
        rw [← hg13] at H13 ⊢
        have HL13 : Hid (g13 < v0.heap.size) := Lib.hid (H13.out.blk_lt (by omega) g13 (by simp [bk]))
        clear hg13
        refine two_at (i := 7) (j := 8) rfl rfl (by kernel_rfl) (by rfl) (by rfl) (fun K hK => ?_) (fun K hK => ?_)
        · skip
          refine wp_call (f := ?_) (args := ?_) ?_ ?_
          rotate_left 2
          · go_simp
            (try (first | with_reducible rfl | (apply And.intro <;> rfl)))
          refine (HCP.out _ hHeld).mono ?_
          rintro e v1 ⟨A7, c7, rfl, hnn⟩
          refine ⟨_, rfl, hK.out _ _ (hHeld.and hnn.2.1 (by simp)) (fun hHeld => ?_)⟩
          clear hK K
          simp only [Act.put, List.setIfInBounds_toArray, List.set_cons_zero, List.set_cons_succ]
          have HL13o := HL13
          have H13 := Lib.hid (H13.out.keep hnn.2.1 (by simp))
          have HL13 := Lib.hid (Nat.lt_of_lt_of_le HL13.out hnn.2.1.size)
          have H7 : Hid (NewB w2 v1 A7 N c7 X) := Lib.hid (hnn.from_ (‹Fr [] w2 v0›))
          have HD13 : Hid (¬ g13 ∈ bk A7) := Lib.hid (fun hm => by have h1 := hnn.2.2 _ hm; have h2 := HL13o.out; omega)
          clear hnn
          refine step_at (i := 8) rfl (by kernel_rfl) (by rfl) (fun K hK => ?_)
          refine wp_run (v := ?_) (w' := ?_) ?_ ?_
          rotate_left 2
          · go_simp
            (try (first | with_reducible rfl | (apply And.intro <;> rfl)))
          refine hK.out _ (v1.alloc (Obj.cells #[.int .u8 0] 5)) (hHeld.alloc _) (fun hHeld => ?_)
          clear hK K
          simp only [Act.put, List.setIfInBounds_toArray, List.set_cons_zero, List.set_cons_succ]
          have H13 := Lib.hid (H13.out.keep ((Fr.refl [] v1).alloc (Obj.cells #[.int .u8 0] 5)) (by simp))
          have H7 := Lib.hid (H7.out.next ((Fr.refl [] v1).alloc (Obj.cells #[.int .u8 0] 5)))
          have HL13 := Lib.hid (Nat.lt_of_lt_of_le HL13.out ((Fr.refl [] v1).alloc (Obj.cells #[.int .u8 0] 5)).size)
          have H8 : Hid (By (v1.alloc (Obj.cells #[.int .u8 0] 5)) (some ⟨v1.heap.size, 0, none⟩) 1 [0]) := Lib.hid (By.one (Blk.new _ _ _) rfl)
          generalize v1.alloc (Obj.cells #[.int .u8 0] 5) = v2 at *
          obtain ⟨g8, hg8⟩ : ∃ g, g = v1.heap.size := ⟨_, rfl⟩
          rw [← hg8] at H8 ⊢
          clear hg8
          refine step_at (i := 9) rfl (by kernel_rfl) (by rfl) (fun K hK => ?_)
          refine wp_append_bytes _ _ _ _ rfl 5 Tryd.underlying23 info_u8 (.slice A7 N c7) N X rfl H7.out.1 (some ⟨g8, 0, none⟩) 1 1 [0] rfl H8.out (by omega) ?_
          intro A9 c9 v3 hoo hgg haa
          have hnn := NewB.grow (‹Fr [] w2 v2›) H7.out.2.2 hoo hgg haa
          refine hK.out _ _ hnn.2.1 (fun hHeld => ?_)
          clear hK K
          simp only [Act.put, List.setIfInBounds_toArray, List.set_cons_zero, List.set_cons_succ]
          have hf9 : Fr (bk A7) v2 v3 := ((Fr.refl [] v2).mono (T := bk A7) (by simp)).grown hgg (fun y hy _ => by rw [bk_mem] at hy; exact hy)
          have H13 := Lib.hid (H13.out.keep hf9 (fun a ha => by injection ha with ha; subst ha; exact HD13.out))
          have HL13 : Hid (g13 < v3.heap.size) := Lib.hid (H13.out.blk_lt (by omega) g13 (by simp [bk]))
          clear hf9
          have H9 := Lib.hid hnn
          clear hnn hoo hgg haa
          refine step_at (i := 10) rfl (by kernel_rfl) (by rfl) (fun K hK => ?_)
          refine wp_call (f := ?_) (args := ?_) ?_ ?_
          rotate_left 2
          · go_simp
            (try (first | with_reducible rfl | (apply And.intro <;> rfl)))
          refine ((HS1.out _ hHeld A9 c9 H9.out)).mono ?_
          rintro e v4 ⟨rfl, hfq⟩
          refine ⟨_, rfl, hK.out _ _ (hHeld.and hfq (by simp)) (fun hHeld => ?_)⟩
          clear hK K
          simp only [Act.put, List.setIfInBounds_toArray, List.set_cons_zero, List.set_cons_succ]
          have H13 := Lib.hid (H13.out.keep hfq (by simp))
          have HL13 := Lib.hid (Nat.lt_of_lt_of_le HL13.out hfq.size)
          clear hfq
          refine step_at (i := 12) rfl (by kernel_rfl) (by rfl) (fun K hK => ?_)
          refine wp_call (f := ?_) (args := ?_) ?_ ?_
          rotate_left 2
          · go_simp
            (try (first | with_reducible rfl | (apply And.intro <;> rfl)))
          refine (HCP.out _ hHeld).mono ?_
          rintro e v5 ⟨A12, c12, rfl, hnn⟩
          refine ⟨_, rfl, hK.out _ _ (hHeld.and hnn.2.1 (by simp)) (fun hHeld => ?_)⟩
          clear hK K
          simp only [Act.put, List.setIfInBounds_toArray, List.set_cons_zero, List.set_cons_succ]
          have HL13o := HL13
          have H13 := Lib.hid (H13.out.keep hnn.2.1 (by simp))
          have HL13 := Lib.hid (Nat.lt_of_lt_of_le HL13.out hnn.2.1.size)
          have H12 : Hid (NewB w2 v5 A12 N c12 X) := Lib.hid (hnn.from_ (‹Fr [] w2 v4›))
          clear hnn
          refine step_at (i := 14) rfl (by kernel_rfl) (by rfl) (fun K hK => ?_)
          refine wp_append_bytes _ _ _ _ rfl 5 Tryd.underlying23 info_u8 (.slice A12 N c12) N X rfl H12.out.1 (some ⟨g13, 0, none⟩) 1 1 [0] rfl H13.out (by omega) ?_
          intro A14 c14 v6 hoo hgg haa
          have hnn := NewB.grow (‹Fr [] w2 v5›) H12.out.2.2 hoo hgg haa
          refine hK.out _ _ hnn.2.1 (fun hHeld => ?_)
          clear hK K
          simp only [Act.put, List.setIfInBounds_toArray, List.set_cons_zero, List.set_cons_succ]
          have H14 := Lib.hid hnn
          clear hnn hoo hgg haa
          refine step_at (i := 15) rfl (by kernel_rfl) (by rfl) (fun K hK => ?_)
          refine wp_call (f := ?_) (args := ?_) ?_ ?_
          rotate_left 2
          · go_simp
            (try (first | with_reducible rfl | (apply And.intro <;> rfl)))
          refine ((HR1.out _ hHeld A14 c14 H14.out)).mono ?_
          rintro e v7 ⟨rfl, hfq⟩
          refine ⟨_, rfl, hK.out _ _ (hHeld.and hfq (by simp)) (fun hHeld => ?_)⟩
          clear hK K
          simp only [Act.put, List.setIfInBounds_toArray, List.set_cons_zero, List.set_cons_succ]
          clear hfq
          refine run_at (i := 16) (v := ?_) rfl (by kernel_rfl) (by rfl) (fun _ _ _ h => h) hHeld (fun w1 hw1 => ?_) ?_
          rotate_left 1
          · skip
            go_simp
            (try (first | with_reducible rfl | (apply And.intro <;> rfl)))
          simp only [Act.put, List.setIfInBounds_toArray, List.set_cons_zero, List.set_cons_succ]
          refine run_at (i := 17) (v := ?_) rfl (by kernel_rfl) (by rfl) (fun _ _ _ h => h) hHeld (fun w1 hw1 => ?_) ?_
          rotate_left 1
          · skip
            go_simp
            (try (first | with_reducible rfl | (apply And.intro <;> rfl)))
          simp only [Act.put, List.setIfInBounds_toArray, List.set_cons_zero, List.set_cons_succ]
          refine run_at (i := 18) (v := ?_) rfl (by kernel_rfl) (by rfl) (fun _ _ _ h => h) hHeld (fun w1 hw1 => ?_) ?_
          rotate_left 1
          · skip
            go_simp
            (try (first | with_reducible rfl | (apply And.intro <;> rfl)))
          simp only [Act.put, List.setIfInBounds_toArray, List.set_cons_zero, List.set_cons_succ]
          refine run_at (i := 19) (v := ?_) rfl (by kernel_rfl) (by rfl) (fun _ _ _ h => h) hHeld (fun w1 hw1 => ?_) ?_
          rotate_left 1
          · skip
            go_simp
            (try (first | with_reducible rfl | (apply And.intro <;> rfl)))
          simp only [Act.put, List.setIfInBounds_toArray, List.set_cons_zero, List.set_cons_succ]
          refine run_at (i := 20) (v := ?_) rfl (by kernel_rfl) (by rfl) (fun _ _ _ h => h) hHeld (fun w1 hw1 => ?_) ?_
          rotate_left 1
          · skip
            go_simp
            (try (first | with_reducible rfl | (apply And.intro <;> rfl)))
          simp only [Act.put, List.setIfInBounds_toArray, List.set_cons_zero, List.set_cons_succ]
          refine run_at (i := 21) (v := ?_) rfl (by kernel_rfl) (by rfl) (fun _ _ _ h => h) hHeld (fun w1 hw1 => ?_) ?_
          rotate_left 1
          · skip
            go_simp
            (try (first | with_reducible rfl | (apply And.intro <;> rfl)))
          simp only [Act.put, List.setIfInBounds_toArray, List.set_cons_zero, List.set_cons_succ]
          refine run_at (i := 22) (v := ?_) rfl (by kernel_rfl) (by rfl) (fun _ _ _ h => h) hHeld (fun w1 hw1 => ?_) ?_
          rotate_left 1
          · skip
            go_simp
            (try (first | with_reducible rfl | (apply And.intro <;> rfl)))
          simp only [Act.put, List.setIfInBounds_toArray, List.set_cons_zero, List.set_cons_succ]
          refine run_at (i := 24) (v := ?_) rfl (by kernel_rfl) (by rfl) (fun _ _ _ h => h) hHeld (fun w1 hw1 => ?_) ?_
          rotate_left 1
          · skip
            go_simp
            (try (first | with_reducible rfl | (apply And.intro <;> rfl)))
          simp only [Act.put, List.setIfInBounds_toArray, List.set_cons_zero, List.set_cons_succ]
          refine run_at (i := 25) (v := ?_) rfl (by kernel_rfl) (by rfl) (fun _ _ _ h => h) hHeld (fun w1 hw1 => ?_) ?_
          rotate_left 1
          · skip
            go_simp
            (try (first | with_reducible rfl | (apply And.intro <;> rfl)))
          simp only [Act.put, List.setIfInBounds_toArray, List.set_cons_zero, List.set_cons_succ]
          refine run_at (i := 26) (v := ?_) rfl (by kernel_rfl) (by rfl) (fun _ _ _ h => h) hHeld (fun w1 hw1 => ?_) ?_
          rotate_left 1
          · skip
            go_simp
            (try (first | with_reducible rfl | (apply And.intro <;> rfl)))
          simp only [Act.put, List.setIfInBounds_toArray, List.set_cons_zero, List.set_cons_succ]
          refine run_at (i := 27) (v := ?_) rfl (by kernel_rfl) (by rfl) (fun _ _ _ h => h) hHeld (fun w1 hw1 => ?_) ?_
          rotate_left 1
          · skip
            go_simp
            (try (first | with_reducible rfl | (apply And.intro <;> rfl)))
          simp only [Act.put, List.setIfInBounds_toArray, List.set_cons_zero, List.set_cons_succ]
          refine call_at (i := 23) (f := ?_) (args := ?_) rfl (by kernel_rfl) (by rfl) ?_ ?_
          rotate_left 2
          · go_simp
            (try (first | with_reducible rfl | (apply And.intro <;> rfl)))
          refine (HS2.out _ hHeld).mono ?_
          rintro e wq ⟨rfl, hfq⟩
          refine ⟨_, rfl, hHeld.and hfq (by simp), fun hHeld => ?_⟩
          clear hfq
          simp only [Act.put, List.setIfInBounds_toArray, List.set_cons_zero, List.set_cons_succ]
          refine call_at (i := 28) (f := ?_) (args := ?_) rfl (by kernel_rfl) (by rfl) ?_ ?_
          rotate_left 2
          · go_simp
            (try (first | with_reducible rfl | (apply And.intro <;> rfl)))
          refine (HR2.out _ hHeld).mono ?_
          rintro e wq ⟨rfl, hfq⟩
          refine ⟨_, rfl, hHeld.and hfq (by simp), fun hHeld => ?_⟩
          clear hfq
          simp only [Act.put, List.setIfInBounds_toArray, List.set_cons_zero, List.set_cons_succ]
          refine run_at (i := 29) (v := ?_) rfl (by kernel_rfl) (by rfl) (fun _ _ _ h => h) hHeld (fun w1 hw1 => ?_) ?_
          rotate_left 1
          · skip
            go_simp
            (try (first | with_reducible rfl | (apply And.intro <;> rfl)))
          simp only [Act.put, List.setIfInBounds_toArray, List.set_cons_zero, List.set_cons_succ]
          refine run_at (i := 30) (v := ?_) rfl (by kernel_rfl) (by rfl) (fun _ _ _ h => h) hHeld (fun w1 hw1 => ?_) ?_
          rotate_left 1
          · skip
            go_simp
            (try (first | with_reducible rfl | (apply And.intro <;> rfl)))
          simp only [Act.put, List.setIfInBounds_toArray, List.set_cons_zero, List.set_cons_succ]
          refine run_at (i := 31) (v := ?_) rfl (by kernel_rfl) (by rfl) (fun _ _ _ h => h) hHeld (fun w1 hw1 => ?_) ?_
          rotate_left 1
          · skip
            go_simp
            (try (first | with_reducible rfl | (apply And.intro <;> rfl)))
          simp only [Act.put, List.setIfInBounds_toArray, List.set_cons_zero, List.set_cons_succ]
          refine call_at (i := 32) (f := ?_) (args := ?_) rfl (by kernel_rfl) (by rfl) ?_ ?_
          rotate_left 2
          · go_simp
            (try (first | with_reducible rfl | (apply And.intro <;> rfl)))
          refine (shawakes_any _ (HK2.out.keep hHeld (by simp))).mono ?_
          rintro e wq ⟨rfl, hfq⟩
          refine ⟨_, rfl, hHeld.and hfq (by simp), fun hHeld => ?_⟩
          clear hfq
          simp only [Act.put, List.setIfInBounds_toArray, List.set_cons_zero, List.set_cons_succ]
          refine run_at (i := 33) (v := ?_) rfl (by kernel_rfl) (by rfl) (fun _ _ _ h => h) hHeld (fun w1 hw1 => ?_) ?_
          rotate_left 1
          · skip
            go_simp
            (try (first | with_reducible rfl | (apply And.intro <;> rfl)))
          simp only [Act.put, List.setIfInBounds_toArray, List.set_cons_zero, List.set_cons_succ]
          refine run_at (i := 34) (v := ?_) rfl (by kernel_rfl) (by rfl) (fun _ _ _ h => h) hHeld (fun w1 hw1 => ?_) ?_
          rotate_left 1
          · skip
            go_simp
            (try (first | with_reducible rfl | (apply And.intro <;> rfl)))
          simp only [Act.put, List.setIfInBounds_toArray, List.set_cons_zero, List.set_cons_succ]
          refine wpAnyH_done (by kernel_rfl) ?_ _
          go_wp2
          go_ret
          exact ⟨rfl, HF2.out.and hHeld (by simp)⟩
        · skip
          refine wp_run (v := ?_) (w' := ?_) ?_ ?_
          rotate_left 2
          · go_simp
            (try (first | with_reducible rfl | (apply And.intro <;> rfl)))
          refine hK.out _ (v0.alloc (Obj.cells #[.int .u8 0] 5)) (hHeld.alloc _) (fun hHeld => ?_)
          clear hK K
          simp only [Act.put, List.setIfInBounds_toArray, List.set_cons_zero, List.set_cons_succ]
          have H13 := Lib.hid (H13.out.keep ((Fr.refl [] v0).alloc (Obj.cells #[.int .u8 0] 5)) (by simp))
          have HL13 := Lib.hid (Nat.lt_of_lt_of_le HL13.out ((Fr.refl [] v0).alloc (Obj.cells #[.int .u8 0] 5)).size)
          have H8 : Hid (By (v0.alloc (Obj.cells #[.int .u8 0] 5)) (some ⟨v0.heap.size, 0, none⟩) 1 [0]) := Lib.hid (By.one (Blk.new _ _ _) rfl)
          generalize v0.alloc (Obj.cells #[.int .u8 0] 5) = v1 at *
          obtain ⟨g8, hg8⟩ : ∃ g, g = v0.heap.size := ⟨_, rfl⟩
          rw [← hg8] at H8 ⊢
          clear hg8
          refine step_at (i := 7) rfl (by kernel_rfl) (by rfl) (fun K hK => ?_)
          refine wp_call (f := ?_) (args := ?_) ?_ ?_
          rotate_left 2
          · go_simp
            (try (first | with_reducible rfl | (apply And.intro <;> rfl)))
          refine (HCP.out _ hHeld).mono ?_
          rintro e v2 ⟨A7, c7, rfl, hnn⟩
          refine ⟨_, rfl, hK.out _ _ (hHeld.and hnn.2.1 (by simp)) (fun hHeld => ?_)⟩
          clear hK K
          simp only [Act.put, List.setIfInBounds_toArray, List.set_cons_zero, List.set_cons_succ]
          have HL13o := HL13
          have H13 := Lib.hid (H13.out.keep hnn.2.1 (by simp))
          have H8 := Lib.hid (H8.out.keep hnn.2.1 (by simp))
          have HL13 := Lib.hid (Nat.lt_of_lt_of_le HL13.out hnn.2.1.size)
          have H7 : Hid (NewB w2 v2 A7 N c7 X) := Lib.hid (hnn.from_ (‹Fr [] w2 v1›))
          have HD13 : Hid (¬ g13 ∈ bk A7) := Lib.hid (fun hm => by have h1 := hnn.2.2 _ hm; have h2 := HL13o.out; omega)
          clear hnn
          refine step_at (i := 9) rfl (by kernel_rfl) (by rfl) (fun K hK => ?_)
          refine wp_append_bytes _ _ _ _ rfl 5 Tryd.underlying23 info_u8 (.slice A7 N c7) N X rfl H7.out.1 (some ⟨g8, 0, none⟩) 1 1 [0] rfl H8.out (by omega) ?_
          intro A9 c9 v3 hoo hgg haa
          have hnn := NewB.grow (‹Fr [] w2 v2›) H7.out.2.2 hoo hgg haa
          refine hK.out _ _ hnn.2.1 (fun hHeld => ?_)
          clear hK K
          simp only [Act.put, List.setIfInBounds_toArray, List.set_cons_zero, List.set_cons_succ]
          have hf9 : Fr (bk A7) v2 v3 := ((Fr.refl [] v2).mono (T := bk A7) (by simp)).grown hgg (fun y hy _ => by rw [bk_mem] at hy; exact hy)
          have H13 := Lib.hid (H13.out.keep hf9 (fun a ha => by injection ha with ha; subst ha; exact HD13.out))
          have HL13 : Hid (g13 < v3.heap.size) := Lib.hid (H13.out.blk_lt (by omega) g13 (by simp [bk]))
          clear hf9
          have H9 := Lib.hid hnn
          clear hnn hoo hgg haa
          refine step_at (i := 10) rfl (by kernel_rfl) (by rfl) (fun K hK => ?_)
          refine wp_call (f := ?_) (args := ?_) ?_ ?_
          rotate_left 2
          · go_simp
            (try (first | with_reducible rfl | (apply And.intro <;> rfl)))
          refine ((HS1.out _ hHeld A9 c9 H9.out)).mono ?_
          rintro e v4 ⟨rfl, hfq⟩
          refine ⟨_, rfl, hK.out _ _ (hHeld.and hfq (by simp)) (fun hHeld => ?_)⟩
          clear hK K
          simp only [Act.put, List.setIfInBounds_toArray, List.set_cons_zero, List.set_cons_succ]
          have H13 := Lib.hid (H13.out.keep hfq (by simp))
          have HL13 := Lib.hid (Nat.lt_of_lt_of_le HL13.out hfq.size)
          clear hfq
          refine step_at (i := 12) rfl (by kernel_rfl) (by rfl) (fun K hK => ?_)
          refine wp_call (f := ?_) (args := ?_) ?_ ?_
          rotate_left 2
          · go_simp
            (try (first | with_reducible rfl | (apply And.intro <;> rfl)))
          refine (HCP.out _ hHeld).mono ?_
          rintro e v5 ⟨A12, c12, rfl, hnn⟩
          refine ⟨_, rfl, hK.out _ _ (hHeld.and hnn.2.1 (by simp)) (fun hHeld => ?_)⟩
          clear hK K
          simp only [Act.put, List.setIfInBounds_toArray, List.set_cons_zero, List.set_cons_succ]
          have HL13o := HL13
          have H13 := Lib.hid (H13.out.keep hnn.2.1 (by simp))
          have HL13 := Lib.hid (Nat.lt_of_lt_of_le HL13.out hnn.2.1.size)
          have H12 : Hid (NewB w2 v5 A12 N c12 X) := Lib.hid (hnn.from_ (‹Fr [] w2 v4›))
          clear hnn
          refine step_at (i := 14) rfl (by kernel_rfl) (by rfl) (fun K hK => ?_)
          refine wp_append_bytes _ _ _ _ rfl 5 Tryd.underlying23 info_u8 (.slice A12 N c12) N X rfl H12.out.1 (some ⟨g13, 0, none⟩) 1 1 [0] rfl H13.out (by omega) ?_
          intro A14 c14 v6 hoo hgg haa
          have hnn := NewB.grow (‹Fr [] w2 v5›) H12.out.2.2 hoo hgg haa
          refine hK.out _ _ hnn.2.1 (fun hHeld => ?_)
          clear hK K
          simp only [Act.put, List.setIfInBounds_toArray, List.set_cons_zero, List.set_cons_succ]
          have H14 := Lib.hid hnn
          clear hnn hoo hgg haa
          refine step_at (i := 15) rfl (by kernel_rfl) (by rfl) (fun K hK => ?_)
          refine wp_call (f := ?_) (args := ?_) ?_ ?_
          rotate_left 2
          · go_simp
            (try (first | with_reducible rfl | (apply And.intro <;> rfl)))
          refine ((HR1.out _ hHeld A14 c14 H14.out)).mono ?_
          rintro e v7 ⟨rfl, hfq⟩
          refine ⟨_, rfl, hK.out _ _ (hHeld.and hfq (by simp)) (fun hHeld => ?_)⟩
          clear hK K
          simp only [Act.put, List.setIfInBounds_toArray, List.set_cons_zero, List.set_cons_succ]
          clear hfq
          refine run_at (i := 16) (v := ?_) rfl (by kernel_rfl) (by rfl) (fun _ _ _ h => h) hHeld (fun w1 hw1 => ?_) ?_
          rotate_left 1
          · skip
            go_simp
            (try (first | with_reducible rfl | (apply And.intro <;> rfl)))
          simp only [Act.put, List.setIfInBounds_toArray, List.set_cons_zero, List.set_cons_succ]
          refine run_at (i := 17) (v := ?_) rfl (by kernel_rfl) (by rfl) (fun _ _ _ h => h) hHeld (fun w1 hw1 => ?_) ?_
          rotate_left 1
          · skip
            go_simp
            (try (first | with_reducible rfl | (apply And.intro <;> rfl)))
          simp only [Act.put, List.setIfInBounds_toArray, List.set_cons_zero, List.set_cons_succ]
          refine run_at (i := 18) (v := ?_) rfl (by kernel_rfl) (by rfl) (fun _ _ _ h => h) hHeld (fun w1 hw1 => ?_) ?_
          rotate_left 1
          · skip
            go_simp
            (try (first | with_reducible rfl | (apply And.intro <;> rfl)))
          simp only [Act.put, List.setIfInBounds_toArray, List.set_cons_zero, List.set_cons_succ]
          refine run_at (i := 19) (v := ?_) rfl (by kernel_rfl) (by rfl) (fun _ _ _ h => h) hHeld (fun w1 hw1 => ?_) ?_
          rotate_left 1
          · skip
            go_simp
            (try (first | with_reducible rfl | (apply And.intro <;> rfl)))
          simp only [Act.put, List.setIfInBounds_toArray, List.set_cons_zero, List.set_cons_succ]
          refine run_at (i := 20) (v := ?_) rfl (by kernel_rfl) (by rfl) (fun _ _ _ h => h) hHeld (fun w1 hw1 => ?_) ?_
          rotate_left 1
          · skip
            go_simp
            (try (first | with_reducible rfl | (apply And.intro <;> rfl)))
          simp only [Act.put, List.setIfInBounds_toArray, List.set_cons_zero, List.set_cons_succ]
          refine run_at (i := 21) (v := ?_) rfl (by kernel_rfl) (by rfl) (fun _ _ _ h => h) hHeld (fun w1 hw1 => ?_) ?_
          rotate_left 1
          · skip
            go_simp
            (try (first | with_reducible rfl | (apply And.intro <;> rfl)))
          simp only [Act.put, List.setIfInBounds_toArray, List.set_cons_zero, List.set_cons_succ]
          refine run_at (i := 22) (v := ?_) rfl (by kernel_rfl) (by rfl) (fun _ _ _ h => h) hHeld (fun w1 hw1 => ?_) ?_
          rotate_left 1
          · skip
            go_simp
            (try (first | with_reducible rfl | (apply And.intro <;> rfl)))
          simp only [Act.put, List.setIfInBounds_toArray, List.set_cons_zero, List.set_cons_succ]
          refine run_at (i := 24) (v := ?_) rfl (by kernel_rfl) (by rfl) (fun _ _ _ h => h) hHeld (fun w1 hw1 => ?_) ?_
          rotate_left 1
          · skip
            go_simp
            (try (first | with_reducible rfl | (apply And.intro <;> rfl)))
          simp only [Act.put, List.setIfInBounds_toArray, List.set_cons_zero, List.set_cons_succ]
          refine run_at (i := 25) (v := ?_) rfl (by kernel_rfl) (by rfl) (fun _ _ _ h => h) hHeld (fun w1 hw1 => ?_) ?_
          rotate_left 1
          · skip
            go_simp
            (try (first | with_reducible rfl | (apply And.intro <;> rfl)))
          simp only [Act.put, List.setIfInBounds_toArray, List.set_cons_zero, List.set_cons_succ]
          refine run_at (i := 26) (v := ?_) rfl (by kernel_rfl) (by rfl) (fun _ _ _ h => h) hHeld (fun w1 hw1 => ?_) ?_
          rotate_left 1
          · skip
            go_simp
            (try (first | with_reducible rfl | (apply And.intro <;> rfl)))
          simp only [Act.put, List.setIfInBounds_toArray, List.set_cons_zero, List.set_cons_succ]
          refine run_at (i := 27) (v := ?_) rfl (by kernel_rfl) (by rfl) (fun _ _ _ h => h) hHeld (fun w1 hw1 => ?_) ?_
          rotate_left 1
          · skip
            go_simp
            (try (first | with_reducible rfl | (apply And.intro <;> rfl)))
          simp only [Act.put, List.setIfInBounds_toArray, List.set_cons_zero, List.set_cons_succ]
          refine call_at (i := 23) (f := ?_) (args := ?_) rfl (by kernel_rfl) (by rfl) ?_ ?_
          rotate_left 2
          · go_simp
            (try (first | with_reducible rfl | (apply And.intro <;> rfl)))
          refine (HS2.out _ hHeld).mono ?_
          rintro e wq ⟨rfl, hfq⟩
          refine ⟨_, rfl, hHeld.and hfq (by simp), fun hHeld => ?_⟩
          clear hfq
          simp only [Act.put, List.setIfInBounds_toArray, List.set_cons_zero, List.set_cons_succ]
          refine call_at (i := 28) (f := ?_) (args := ?_) rfl (by kernel_rfl) (by rfl) ?_ ?_
          rotate_left 2
          · go_simp
            (try (first | with_reducible rfl | (apply And.intro <;> rfl)))
          refine (HR2.out _ hHeld).mono ?_
          rintro e wq ⟨rfl, hfq⟩
          refine ⟨_, rfl, hHeld.and hfq (by simp), fun hHeld => ?_⟩
          clear hfq
          simp only [Act.put, List.setIfInBounds_toArray, List.set_cons_zero, List.set_cons_succ]
          refine run_at (i := 29) (v := ?_) rfl (by kernel_rfl) (by rfl) (fun _ _ _ h => h) hHeld (fun w1 hw1 => ?_) ?_
          rotate_left 1
          · skip
            go_simp
            (try (first | with_reducible rfl | (apply And.intro <;> rfl)))
          simp only [Act.put, List.setIfInBounds_toArray, List.set_cons_zero, List.set_cons_succ]
          refine run_at (i := 30) (v := ?_) rfl (by kernel_rfl) (by rfl) (fun _ _ _ h => h) hHeld (fun w1 hw1 => ?_) ?_
          rotate_left 1
          · skip
            go_simp
            (try (first | with_reducible rfl | (apply And.intro <;> rfl)))
          simp only [Act.put, List.setIfInBounds_toArray, List.set_cons_zero, List.set_cons_succ]
          refine run_at (i := 31) (v := ?_) rfl (by kernel_rfl) (by rfl) (fun _ _ _ h => h) hHeld (fun w1 hw1 => ?_) ?_
          rotate_left 1
          · skip
            go_simp
            (try (first | with_reducible rfl | (apply And.intro <;> rfl)))
          simp only [Act.put, List.setIfInBounds_toArray, List.set_cons_zero, List.set_cons_succ]
          refine call_at (i := 32) (f := ?_) (args := ?_) rfl (by kernel_rfl) (by rfl) ?_ ?_
          rotate_left 2
          · go_simp
            (try (first | with_reducible rfl | (apply And.intro <;> rfl)))
          refine (shawakes_any _ (HK2.out.keep hHeld (by simp))).mono ?_
          rintro e wq ⟨rfl, hfq⟩
          refine ⟨_, rfl, hHeld.and hfq (by simp), fun hHeld => ?_⟩
          clear hfq
          simp only [Act.put, List.setIfInBounds_toArray, List.set_cons_zero, List.set_cons_succ]
          refine run_at (i := 33) (v := ?_) rfl (by kernel_rfl) (by rfl) (fun _ _ _ h => h) hHeld (fun w1 hw1 => ?_) ?_
          rotate_left 1
          · skip
            go_simp
            (try (first | with_reducible rfl | (apply And.intro <;> rfl)))
          simp only [Act.put, List.setIfInBounds_toArray, List.set_cons_zero, List.set_cons_succ]
          refine run_at (i := 34) (v := ?_) rfl (by kernel_rfl) (by rfl) (fun _ _ _ h => h) hHeld (fun w1 hw1 => ?_) ?_
          rotate_left 1
          · skip
            go_simp
            (try (first | with_reducible rfl | (apply And.intro <;> rfl)))
          simp only [Act.put, List.setIfInBounds_toArray, List.set_cons_zero, List.set_cons_succ]
          refine wpAnyH_done (by kernel_rfl) ?_ _
          go_wp2
          go_ret
          exact ⟨rfl, HF2.out.and hHeld (by simp)⟩
end Go.Proofs.YtbajkdlemgnmkaaDoor
