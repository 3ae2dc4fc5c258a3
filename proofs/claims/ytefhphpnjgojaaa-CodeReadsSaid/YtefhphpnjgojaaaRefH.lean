/- gavelref01's Reader: Hash. -/
import Derived.Test.YtefhphpnjgojaaaRefS
import Derived.Deep.DeepCutAuto
import Derived.Deep.CutBlock
import Derived.Outline
namespace Go.Proofs.Ytefhphpnjgojaaa
open Go.RowKit

theorem hashOf_short {R : List UInt8} (h : R.length < 32) : ((hashOf R).map by8).toArray = zero32 := by
  unfold hashOf took zero32
  rw [if_pos h]
  rfl
theorem zero32_size : zero32.size = 32 := by simp [zero32]
theorem zero32_one : zero32.all (·.oneCell') = true := by
  rw [Array.all_eq_true_iff_forall_mem]
  intro u hu
  unfold zero32 at hu
  exact by8_one (List.replicate 32 (0 : UInt8)) u (by simpa using hu)
theorem hashOf_long {R : List UInt8} (h : 32 ≤ R.length) : hashOf R = R.take 32 := by
  unfold hashOf took
  rw [if_neg (by omega), List.length_take, Nat.min_eq_left h]
  simp

set_option maxRecDepth 100000 in
set_option maxHeartbeats 1000000 in
theorem qhash_f (w : World) (g : Nat) (F : List Nat) (R : List UInt8) (bad : Bool) (hr : Rq w g F R bad) (hF : ∀ k ∈ F, k < w.heap.size) (hl : R.length ≤ 1073741824) :
    Calls Try.prog 18 #[.pointer (some ⟨g, 0, none⟩)] w fun e w' => e = .returned (.agg ((hashOf R).map by8).toArray) ∧ Rq w' g F (tookL R) (tookB R bad) ∧ Fr [g] w w' := by
  have HR := Lib.hid hr
  have HL := Lib.hid hl
  have HF := Lib.hid hF
  have hgl := hr.lt
  clear hr hl hF
  have hwa : ∃ wa, wa = (w.alloc (Obj.cells zero32 33)).alloc (Obj.cells zero32 33) := ⟨_, rfl⟩
  obtain ⟨wa, hwa⟩ := hwa
  have hf0 : Fr [] w wa := by rw [hwa]; exact ((Fr.refl [] w).alloc _).alloc _
  have hbr : Blk wa w.heap.size 33 zero32 := by rw [hwa]; exact (Blk.new _ _ _).keep ((Fr.refl [] _).alloc _) (by simp)
  have hbv : Blk wa (w.heap.size + 1) 33 zero32 := by
    have := Blk.new (w.alloc (Obj.cells zero32 33)) 33 zero32
    rw [hwa]
    simpa using this
  have HR0 := Lib.hid (HR.out.keep hf0 (by simp) (by simp))
  have hq := HR.out.keep hf0 (by simp) (by simp)
  have HF0 := Lib.hid hf0
  have HBR := Lib.hid hbr
  have HBV := Lib.hid hbv
  have HWA := Lib.hid hwa
  clear hf0 hbr hbv hwa
  obtain ⟨A1, n1, c1, hA1, hb1, hy1, hnc1⟩ := hq
  have hn1 : n1 = R.length := hy1.1.symm
  subst hn1
  have HA1 := Lib.hid hA1
  have HB1 := Lib.hid hb1
  have HY1 := Lib.hid hy1
  have hc0 := hb1.cell 0
  simp at hc0
  have hz0 := hb1.frozen 0
  clear hA1 hb1 hy1
  have hgv1 : g ≠ w.heap.size := by omega
  have hgv2 : g ≠ w.heap.size + 1 := by omega
  have hn2 := HL.out
  go_enter Try.func18, Try.ntmps18
  go_upto_region 2 with (fail)
  change Code.wp _ _ _ _ ((w.alloc (Obj.cells zero32 33)).alloc (Obj.cells zero32 33))
  rw [← HWA.out]
  by_cases h32 : R.length < 32
  · have HH := Lib.hid (hashOf_short h32)
    have HTL := Lib.hid (show tookL R = [] ∧ tookB R bad = true by unfold tookL tookB; rw [if_pos h32, if_pos h32]; exact ⟨rfl, rfl⟩)
    go_wp2_with fail
    refine (qfail_any wa g F R bad HR0.out).mono ?_
    rintro e w2 ⟨rfl, h6, h7⟩
    have H6 := Lib.hid h6
    have H7 := Lib.hid h7
    have HBR2 := Lib.hid (HBR.out.keep h7 (by simp; omega))
    have HBV2 := Lib.hid (HBV.out.keep h7 (by simp; omega))
    clear h6 h7
    go_wp2_with (first
      | (refine wpList_load_row rfl 33 _ rfl (w.heap.size + 1) rfl 33 zero32 _ _ HBV2.out Try.underlying33 rfl (by rw [hash_size, zero32_size]) ?_)
      | (refine wpList_store_row rfl 33 _ _ rfl w.heap.size zero32 rfl rfl 33 zero32 HBR2.out (by rw [hash_size, zero32_size]) rfl zero32_one ?_))
    have hgr : Blk (w2.setRow w.heap.size zero32) w.heap.size 33 zero32 := setRow_blk HBR2.out zero32
    refine bodyPost_ret (v := .agg zero32) (results_cell_row Try.results18 _ _ w.heap.size 33 zero32 _ _ rfl hgr Try.underlying33 rfl (by rw [hash_size, zero32_size])) rfl ⟨?_, ?_, ?_⟩
    · rw [HH.out]
    · rw [HTL.out.1, HTL.out.2]
      exact H6.out.keep (setRow_fr w2 w.heap.size zero32) (by simp; omega) (fun k hk => by have := HF.out k hk; simp; omega)
    · exact ((HF0.out.mono (T := [g]) (by simp)).trans H7.out (fun _ h _ => h)).trans (setRow_fr w2 w.heap.size zero32) (fun x hx hl => by simp at hx; omega)
  · have h32' : 32 ≤ R.length := by omega
    have HH := Lib.hid (hashOf_long h32')
    have HTL := Lib.hid (show tookL R = R.drop 32 ∧ tookB R bad = bad by unfold tookL tookB; rw [if_neg h32, if_neg h32]; exact ⟨rfl, rfl⟩)
    clear h32
    have hnl : (R.length : Int) ≤ 1073741824 := by omega
    go_wp2
    go_loopw [14] (fun i wr => ∃ (k : Nat) (M : List UInt8), k ≤ 32 ∧ i = .int .i64 k ∧ M.length = 32 ∧ M.take k = R.take k ∧ Blk wr (w.heap.size + 1) 33 (M.map by8).toArray ∧ Fr [w.heap.size + 1] wa wr) (fun i _ => 32 - (intOf i).toNat)
    case atStart => exact ⟨0, List.replicate 32 0, by omega, rfl, by simp, by simp, HBV.out, Fr.refl _ _⟩
    case round =>
      obtain ⟨k, M, hk, rfl, hM, hT, hbm, hfm⟩ := hrel
      clear hc0 hz0
      have hb2 := HB1.out.keep hfm (by simp; omega)
      have hc0 := hb2.cell 0
      simp at hc0
      have hz0 := hb2.frozen 0
      have HB2 := Lib.hid hb2
      have HBM := Lib.hid hbm
      have HFM := Lib.hid hfm
      have HM := Lib.hid hM
      have HT := Lib.hid hT
      have hA3 : ∀ a, A1 = some a → ¬ a.block ∈ [w.heap.size + 1] := fun a ha => by
        have := HA1.out a.block (by simp [bk, ha])
        have := HF.out a.block this.1
        simp
        omega
      have HY2 := Lib.hid (HY1.out.keep hfm hA3)
      clear hb2 hbm hfm hM hT hA3
      by_cases hlt : k < 32
      · have hkM : k < M.length := by have := HM.out; omega
        obtain ⟨a1, b1, rfl, hg1, hc1⟩ := HY2.out.at (show k < R.length by omega)
        have HG1 := Lib.hid hg1
        have hcm := HBM.out.cell k
        have hzm := HBM.out.frozen k
        rw [show ((M.map by8).toArray)[k]? = some (.int .u8 (M[k].toNat : Int)) from by simp [List.getElem?_eq_getElem hkM, by8]] at hcm
        generalize M[k] = mk at hcm
        have HKM := Lib.hid hkM
        clear hkM hg1
        have hk0 : (0 : Int) ≤ k := by omega
        have hkR : k < R.length := by omega
        go_wp2
        refine ⟨⟨k + 1, M.set k b1, by omega, rfl, by rw [List.length_set]; exact HM.out, set_take HT.out HKM.out HG1.out, ?_, HFM.out.setCell _ (fun _ => by simp) _⟩, by simp [intOf]; omega⟩
        have hbs := HBM.out.set k (.int .u8 (b1.toNat : Int))
        rw [show ((M.map by8).toArray.setIfInBounds k (.int .u8 (b1.toNat : Int))) = ((M.set k b1).map by8).toArray from by simp [List.map_set, by8]] at hbs
        exact hbs
      · have hk3 : k = 32 := by omega
        subst hk3
        have hMR : M = hashOf R := by
          have e := HT.out
          rw [List.take_of_length_le (by have := HM.out; omega)] at e
          rw [e, HH.out]
        have hsz : ((M.map by8).toArray).size = 32 := by simp [HM.out]
        have hone : (((M.map by8).toArray).all (·.oneCell')) = true := by
          rw [Array.all_eq_true_iff_forall_mem]
          intro u hu
          exact by8_one M u (by simpa using hu)
        have hin : ∀ a, A1 = some a → ¬ a.block ∈ [g] := fun a ha => by
          have := HA1.out a.block (by simp [bk, ha])
          simp
          omega
        have HSZ := Lib.hid hsz
        have HONE := Lib.hid hone
        clear hsz hone hlt
        have HBRR := Lib.hid (HBR.out.keep HFM.out (by simp))
        have hHM : (M.map by8).toArray = ((hashOf R).map by8).toArray := by rw [hMR]
        have HHM := Lib.hid hHM
        clear hMR hHM
        generalize (M.map by8).toArray = H at *
        have HC := Lib.hid (HY2.out.cut' h32' hnc1)
        have hx : ∃ (A' : Option Addr) (c' : Nat), Rq (wr.setCell ⟨g, 0, none⟩ (.slice A' (R.length - 32) c')) g F (R.drop 32) bad ∧ Fr [g] wr (wr.setCell ⟨g, 0, none⟩ (.slice A' (R.length - 32) c')) ∧ (c1 = 32 → A' = A1 ∧ c' = 0) ∧ (c1 ≠ 32 → A' = A1.map (·.add 32) ∧ c' = c1 - 32) := by
          by_cases hcs : c1 = 32
          · obtain ⟨h1, h2⟩ := Rq.set HB2.out HA1.out (HC.out.1 hcs) (c' := 0) (by omega)
            exact ⟨A1, 0, h1, h2, fun _ => ⟨rfl, rfl⟩, fun h => absurd hcs h⟩
          · obtain ⟨h1, h2⟩ := Rq.set HB2.out (by rw [bk_map]; exact HA1.out) (HC.out.2 hcs) (c' := c1 - 32) (by omega)
            exact ⟨_, _, h1, h2, fun h => absurd h hcs, fun _ => ⟨rfl, rfl⟩⟩
        obtain ⟨A', c', hq1, hq2, hq3, hq4⟩ := hx
        have HQ1 := Lib.hid hq1
        have HQ2 := Lib.hid hq2
        have HBV3 := Lib.hid (HBM.out.keep hq2 (by simp; omega))
        have HBR3 := Lib.hid (HBRR.out.keep hq2 (by simp; omega))
        clear hq1 hq2
        have hcc : c1 = 32 ∨ c1 ≠ 32 := by omega
        have HC3 := Lib.hid hq3
        have HC4 := Lib.hid hq4
        clear hq3 hq4
        rcases hcc with hcs | hcs
        · obtain ⟨e1, e2⟩ := HC3.out hcs
          subst e1 e2
          clear HC3 HC4
          subst hcs
          have h0 : R.length - 32 = 0 := by omega
          rw [h0] at HQ1 HQ2 HBV3 HBR3
          clear h0
          go_wp2_with (first
            | (refine wpList_load_row rfl 33 _ rfl (w.heap.size + 1) rfl 33 H _ _ HBV3.out Try.underlying33 rfl (by rw [hash_size, HSZ.out]) ?_)
            | (refine wpList_store_row rfl 33 _ _ rfl w.heap.size H rfl rfl 33 zero32 HBR3.out (by rw [hash_size, HSZ.out]) (by rw [HSZ.out, zero32_size]) HONE.out ?_))
          have hgr := setRow_blk HBR3.out H
          refine bodyPost_ret (v := .agg H) (results_cell_row Try.results18 _ _ w.heap.size 33 H _ _ rfl hgr Try.underlying33 rfl (by rw [hash_size, HSZ.out])) rfl ⟨?_, ?_, ?_⟩
          · rw [HHM.out]
          · rw [HTL.out.1, HTL.out.2]
            exact HQ1.out.keep (setRow_fr _ w.heap.size H) (by simp; omega) (fun k hk => by have := HF.out k hk; simp; omega)
          · exact (((HF0.out.mono (T := [g]) (by simp)).trans HFM.out (fun x hx hl => by simp at hx; omega)).trans HQ2.out (fun _ h _ => h)).trans (setRow_fr _ w.heap.size H) (fun x hx hl => by simp at hx; omega)
        · obtain ⟨e1, e2⟩ := HC4.out hcs
          subst e1 e2
          clear HC3 HC4
          go_wp2_with (first
            | (refine wpList_load_row rfl 33 _ rfl (w.heap.size + 1) rfl 33 H _ _ HBV3.out Try.underlying33 rfl (by rw [hash_size, HSZ.out]) ?_)
            | (refine wpList_store_row rfl 33 _ _ rfl w.heap.size H rfl rfl 33 zero32 HBR3.out (by rw [hash_size, HSZ.out]) (by rw [HSZ.out, zero32_size]) HONE.out ?_))
          have hgr := setRow_blk HBR3.out H
          refine bodyPost_ret (v := .agg H) (results_cell_row Try.results18 _ _ w.heap.size 33 H _ _ rfl hgr Try.underlying33 rfl (by rw [hash_size, HSZ.out])) rfl ⟨?_, ?_, ?_⟩
          · rw [HHM.out]
          · rw [HTL.out.1, HTL.out.2]
            exact HQ1.out.keep (setRow_fr _ w.heap.size H) (by simp; omega) (fun k hk => by have := HF.out k hk; simp; omega)
          · exact (((HF0.out.mono (T := [g]) (by simp)).trans HFM.out (fun x hx hl => by simp at hx; omega)).trans HQ2.out (fun _ h _ => h)).trans (setRow_fr _ w.heap.size H) (fun x hx hl => by simp at hx; omega)
end Go.Proofs.Ytefhphpnjgojaaa
