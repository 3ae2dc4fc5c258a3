/- Package sha: schedule. -/
import Derived.Test.YtacandocjjpfcaaDoorShaR
import Derived.RegionTactic
import Derived.BigRegion
import Derived.ChangeAlike
import Derived.Deep.DeepCutAuto
import Derived.Deep.CutBlock
import Derived.Outline
namespace Go.Proofs.YtacandocjjpfcaaDoor
open Go.RowKit

theorem words_size : (Tryd.prog.info? 136).map (·.size) = some 64 := by kernel_rfl
def zero64 : Array Value := ((List.replicate 64 (0 : Int)).map i32).toArray
theorem rotate_w (x m : Int) (h0 : 0 ≤ x) (h1 : 1 ≤ m) (h2 : m ≤ 31) (w : World) :
    Calls Tryd.prog 82 #[.int .u32 x, .int .u64 m] w fun e w' => e = .returned (.int .u32 (rot x m)) ∧ w = w' :=
  (rotate_any x m h0 h1 h2 w).mono fun _ _ ⟨h1, h2⟩ => ⟨h1, h2.symm⟩
/-- an array of words known whole: the cell at i -/
theorem Blk.word {w : World} {g : Nat} {t : TypeId} {M : List Int} (h : Blk w g t (M.map i32).toArray) {i : Nat} (hi : i < M.length) : w.cell? ⟨g, i, none⟩ = some (.int .u32 (M.getD i 0)) := by
  rw [h.cell i, List.getD]
  simp [List.getElem?_eq_getElem hi, i32]
theorem Blk.setWord {w : World} {g : Nat} {t : TypeId} {M : List Int} (h : Blk w g t (M.map i32).toArray) (i : Nat) (z : Int) : Blk (w.setCell ⟨g, i, none⟩ (.int .u32 z)) g t ((M.set i z).map i32).toArray := by
  have hbs := h.set i (.int .u32 z)
  rw [show ((M.map i32).toArray.setIfInBounds i (.int .u32 z)) = ((M.set i z).map i32).toArray from by simp [List.map_set, i32]] at hbs
  exact hbs
theorem set_takeI {M L : List Int} {j : Nat} {d : Int} (h : M.take j = L.take j) (hj : j < M.length) (hL : L[j]? = some d) : (M.set j d).take (j + 1) = L.take (j + 1) := by
  rw [List.take_add_one, List.take_add_one, hL, List.take_set_of_le (Nat.le_refl j), h, List.getElem?_set_self hj]
theorem sched0_at (l : List UInt8) {k : Nat} (hk : k < 16) : (sched0 l)[k]? = some (wdAt l (4 * k)) := by
  unfold sched0
  simp [hk]
theorem nn_set {M : List Int} (h : ∀ z ∈ M, (0 : Int) ≤ z) (i : Nat) {z : Int} (hz : 0 ≤ z) : ∀ x ∈ M.set i z, (0 : Int) ≤ x := by
  intro x hx
  rcases List.mem_or_eq_of_mem_set hx with hx | rfl
  · exact h x hx
  · exact hz
theorem wdAt_drop (l : List UInt8) (k : Nat) : wd ((l.drop k).getD 0 0) ((l.drop k).getD 1 0) ((l.drop k).getD 2 0) ((l.drop k).getD 3 0) = wdAt l k := by
  unfold wdAt
  simp [List.getD]

set_option maxRecDepth 100000 in
set_option maxHeartbeats 2000000 in
theorem schedule_any (A : Option Addr) (c : Nat) (l : List UInt8) (w : World) (hr : By w A 64 l) (hc : 64 ≤ c) :
    Calls Tryd.prog 81 #[.slice A 64 c] w fun e w' => e = .returned (.agg ((sched l).map i32).toArray) ∧ Fr [] w w' := by
  obtain ⟨ad, rfl, -⟩ := hr.2 (by omega)
  obtain ⟨wa, hwa⟩ : ∃ wa, wa = (w.alloc (Obj.cells zero64 136)).alloc (Obj.cells zero64 136) := ⟨_, rfl⟩
  have hf0 : Fr [] w wa := by rw [hwa]; exact ((Fr.refl [] w).alloc _).alloc _
  have hbr : Blk wa w.heap.size 136 zero64 := by rw [hwa]; exact (Blk.new _ _ _).keep ((Fr.refl [] _).alloc _) (by simp)
  have hbv : Blk wa (w.heap.size + 1) 136 zero64 := by
    have := Blk.new (w.alloc (Obj.cells zero64 136)) 136 zero64
    rw [hwa]
    simpa using this
  have hsa : w.heap.size < w.heap.size + 1 := by omega
  have HR0 := Lib.hid (hr.keep hf0 (by simp))
  have had : ad.block < w.heap.size := by
    obtain ⟨a, b, e, -, hc⟩ := hr.at (show 0 < 64 by omega)
    injection e with e
    subst e
    have := World.block_lt_of_cell? w _ hc
    rwa [add_block] at this
  have HAD := Lib.hid had
  have HF0 := Lib.hid hf0
  have HBR := Lib.hid hbr
  have HBV := Lib.hid hbv
  have HWA := Lib.hid hwa
  clear hf0 hbr hbv hwa hr had
  go_enter Tryd.func81, Tryd.ntmps81
  go_upto_region 2 with (fail)
  change Code.wp _ _ _ _ ((w.alloc (Obj.cells zero64 136)).alloc (Obj.cells zero64 136))
  rw [← HWA.out]
  generalize hgw : w.heap.size + 1 = gw at *
  have HGW := Lib.hid hgw
  clear hgw hsa
  go_wp2
  go_loopw [10] (fun i wr => ∃ (k : Nat) (M : List Int), k ≤ 16 ∧ i = .int .i64 k ∧ M.length = 64 ∧ M.take k = (sched0 l).take k ∧ Blk wr gw 136 (M.map i32).toArray ∧ Fr [gw] wa wr ∧ ∀ z ∈ M, (0 : Int) ≤ z) (fun i _ => 16 - (intOf i).toNat)
  case atStart => exact ⟨0, List.replicate 64 0, by omega, rfl, by simp, by simp, HBV.out, Fr.refl _ _, by intro z hz; have := List.eq_of_mem_replicate hz; omega⟩
  case round =>
    obtain ⟨k, M, hk, rfl, hM, hT, hbm, hfm, hnn⟩ := hrel
    have HBM := Lib.hid hbm
    have HFM := Lib.hid hfm
    have HM := Lib.hid hM
    have HT := Lib.hid hT
    have HNN := Lib.hid hnn
    clear hbm hfm hM hT hnn
    by_cases hlt : k < 16
    · have hcne : c ≠ 4 * k := by omega
      have hcne2 : c ≠ k * 4 := by omega
      have hk64 : k * 4 ≤ 64 := by omega
      have hk0 : (0 : Int) ≤ k := by omega
      go_wp2_with fail
      have hcut : By wr (some (ad.add (k * 4))) (64 - k * 4) (l.drop (k * 4)) :=
        ((HR0.out.keep HFM.out (fun a ha => by injection ha with ha; subst ha; have := HAD.out; have := HGW.out; simp; omega)).cutn hk64 hc hcne2)
      have HCUT := Lib.hid hcut
      clear hcut
      refine (word_any (some (ad.add (k * 4))) (64 - k * 4) (c - k * 4) (l.drop (k * 4)) wr HCUT.out (by omega) (by omega)).mono ?_
      rintro e w1 ⟨rfl, q, rfl⟩
      rw [wdAt_drop]
      have hz := wd_nn (l.getD (k * 4) 0) (l.getD (k * 4 + 1) 0) (l.getD (k * 4 + 2) 0) (l.getD (k * 4 + 3) 0)
      have hz' : 0 ≤ wdAt l (k * 4) := hz
      have hsc := sched0_at l hlt
      rw [show 4 * k = k * 4 by omega] at hsc
      generalize wdAt l (k * 4) = x at *
      have HZ := Lib.hid hz'
      have HSC := Lib.hid hsc
      have hkM : k < M.length := by have := HM.out; omega
      have hcm := (HBM.out.drewN q).word hkM
      have hzm := (HBM.out.drewN q).frozen k
      have HKM := Lib.hid hkM
      generalize M.getD k 0 = mk at *
      clear hz hz' hsc hkM hcne hcne2
      go_wp2
      refine ⟨⟨k + 1, M.set k x, by omega, rfl, by rw [List.length_set]; exact HM.out, set_takeI HT.out HKM.out HSC.out, (HBM.out.drewN q).setWord k x, (HFM.out.drewN q).setCell _ (fun _ => by simp) _, nn_set HNN.out k HZ.out⟩, by simp [intOf]; omega⟩
    · have hk3 : k = 16 := by omega
      have hki : (k : Int) = 16 := by omega
      have HS0 : Hid (M.take 16 = schedN l 0) := Lib.hid (by have := HT.out; rw [hk3] at this; rw [this]; exact List.take_of_length_le (by simp [sched0]))
      rw [hki]
      clear hlt HT hk3 hki hk
      go_wp2
      go_loopw [6, 7, 8] (fun i _ _ wr => ∃ (k : Nat) (M : List Int), 16 ≤ k ∧ k ≤ 64 ∧ i = .int .i64 k ∧ M.length = 64 ∧ M.take k = schedN l (k - 16) ∧ Blk wr gw 136 (M.map i32).toArray ∧ Fr [gw] wa wr ∧ ∀ z ∈ M, (0 : Int) ≤ z) (fun i _ _ _ => 64 - (intOf i).toNat)
      case atStart => exact ⟨16, M, by omega, by omega, rfl, HM.out, HS0.out, HBM.out, HFM.out, HNN.out⟩
      case round =>
        clear HBM HFM HM HNN HS0
        obtain ⟨k, M, hk16, hk, rfl, hM, hT, hbm, hfm, hnn⟩ := hrel
        have HBM := Lib.hid hbm
        have HFM := Lib.hid hfm
        have HM := Lib.hid hM
        have HT := Lib.hid hT
        have HNN := Lib.hid hnn
        clear hbm hfm hM hT hnn
        by_cases hlt : k < 64
        · have hk0 : (0 : Int) ≤ k := by omega
          have hM64 := HM.out
          have c2 := HBM.out.word (i := k - 2) (by omega)
          have c15 := HBM.out.word (i := k - 15) (by omega)
          have n2 : 0 ≤ M.getD (k - 2) 0 := HNN.out _ (by rw [List.getD, List.getElem?_eq_getElem (by omega)]; simp)
          have n15 : 0 ≤ M.getD (k - 15) 0 := HNN.out _ (by rw [List.getD, List.getElem?_eq_getElem (by omega)]; simp)
          have e2 : ((k : Int) - 2).toNat = k - 2 := by omega
          have e15 : ((k : Int) - 15).toNat = k - 15 := by omega
          have HX : Hid (nextW (M.take k) = (sig1 (M.getD (k - 2) 0) + M.getD (k - 7) 0 + sig0 (M.getD (k - 15) 0) + M.getD (k - 16) 0) % 4294967296) := Lib.hid (by
            unfold nextW
            have hl : (M.take k).length = k := by rw [List.length_take]; omega
            have hg : ∀ j, j < k → (M.take k).getD j 0 = M.getD j 0 := fun j hj => by simp [List.getD, hj]
            simp only [hl]
            rw [hg _ (by omega), hg _ (by omega), hg _ (by omega), hg _ (by omega)])
          have c7 := HBM.out.word (i := k - 7) (by omega)
          have c16 := HBM.out.word (i := k - 16) (by omega)
          have n7 : 0 ≤ M.getD (k - 7) 0 := HNN.out _ (by rw [List.getD, List.getElem?_eq_getElem (by omega)]; simp)
          have n16 : 0 ≤ M.getD (k - 16) 0 := HNN.out _ (by rw [List.getD, List.getElem?_eq_getElem (by omega)]; simp)
          generalize M.getD (k - 2) 0 = x2 at *
          generalize M.getD (k - 15) 0 = x15 at *
          generalize M.getD (k - 7) 0 = x7 at *
          generalize M.getD (k - 16) 0 = x16 at *
          have C7 := Lib.hid c7
          have C16 := Lib.hid c16
          clear c7 c16 hM64
          go_wp2
          go_quiet (fail)
          go_wp2_with fail
          ((with_reducible refine (rotate_w x2 17 n2 (by omega) (by omega) _).mono ?_); rintro e w' ⟨rfl, rfl⟩)
          go_wp2_with fail
          ((with_reducible refine (rotate_w x2 19 n2 (by omega) (by omega) _).mono ?_); rintro e w' ⟨rfl, rfl⟩)
          go_wp2_with fail
          ((with_reducible refine (rotate_w x15 7 n15 (by omega) (by omega) _).mono ?_); rintro e w' ⟨rfl, rfl⟩)
          go_wp2_with fail
          ((with_reducible refine (rotate_w x15 18 n15 (by omega) (by omega) _).mono ?_); rintro e w' ⟨rfl, rfl⟩)
          have c7 := C7.out
          have c16 := C16.out
          have p7 : (0 : Int) ≤ (k : Int) - 7 := by omega
          have p16 : (0 : Int) ≤ (k : Int) - 16 := by omega
          have r7 : (k : Int) - 7 < 64 := by omega
          have r16 : (k : Int) - 16 < 64 := by omega
          have r0 : (k : Int) < 64 := by omega
          have e7 : ((k : Int) - 7).toNat = k - 7 := by omega
          have e16 : ((k : Int) - 16).toNat = k - 16 := by omega
          have hcm := HBM.out.word (i := k) (by have := HM.out; omega)
          have w7 : IntKind.i64.wrap ((k : Int) - 7) = (k : Int) - 7 := IntWalk.i64_in _ (by omega)
          have w16 : IntKind.i64.wrap ((k : Int) - 16) = (k : Int) - 16 := IntWalk.i64_in _ (by omega)
          have hzm := HBM.out.frozen k
          clear c2 c15 e2 e15
          go_wp2_with fail
          go_region
          clear c7 c16 e7 e16 w7 w16 p7 p16 r7 r16 hcm hzm
          go_wp2
          go_roundw
          case rel =>
            have hxx : ∀ x, x = nextW (M.take k) → Blk ((wr.drewN (nq + 1)).setCell ⟨gw, k, none⟩ (.int .u32 x)) gw 136 ((M.set k (nextW (M.take k))).map i32).toArray := fun x hx => by rw [hx]; exact (HBM.out.drewN (nq + 1)).setWord k _
            refine ⟨k + 1, M.set k (nextW (M.take k)), by omega, by omega, by go_num, by rw [List.length_set]; exact HM.out, ?_, hxx _ HX.out.symm, (HFM.out.drewN (nq + 1)).setCell _ (fun _ => by simp) _, nn_set HNN.out k (by rw [HX.out]; omega)⟩
            rw [show k + 1 - 16 = (k - 16) + 1 by omega]
            show _ = schedN l (k - 16) ++ [nextW (schedN l (k - 16))]
            rw [List.take_add_one, List.take_set_of_le (Nat.le_refl k), List.getElem?_set_self (by have := HM.out; omega), HT.out]
            rfl
          case measure => simp [intOf]; omega
        · have hk3 : k = 64 := by omega
          subst hk3
          have hMS : M = sched l := by
            have e := HT.out
            rw [List.take_of_length_le (by have := HM.out; omega)] at e
            exact e
          have hsz : ((M.map i32).toArray).size = 64 := by simp [HM.out]
          have hone : (((M.map i32).toArray).all (·.oneCell')) = true := by
            rw [Array.all_eq_true_iff_forall_mem]
            intro u hu
            exact i32_one M u (by simpa using hu)
          have HHM : Hid ((M.map i32).toArray = ((sched l).map i32).toArray) := Lib.hid (by rw [hMS])
          have HSZ := Lib.hid hsz
          have HONE := Lib.hid hone
          clear hsz hone hlt hMS
          have HBRR := Lib.hid (HBR.out.keep HFM.out (by have := HGW.out; simp; omega))
          generalize (M.map i32).toArray = H at *
          have hz64 : zero64.size = 64 := by simp [zero64]
          have HZ64 := Lib.hid hz64
          clear hz64
          go_wp2_with (first
            | (refine wpList_load_row rfl 136 _ rfl gw rfl 136 H _ _ HBM.out Tryd.underlying136 rfl (by rw [words_size, HSZ.out]) ?_)
            | (refine wpList_store_row rfl 136 _ _ rfl w.heap.size H rfl rfl 136 zero64 HBRR.out (by rw [words_size, HSZ.out]) (by rw [HSZ.out, HZ64.out]) HONE.out ?_))
          have hgr := setRow_blk HBRR.out H
          refine bodyPost_ret (v := .agg H) (results_cell_row Tryd.results81 _ _ w.heap.size 136 H _ _ rfl hgr Tryd.underlying136 rfl (by rw [words_size, HSZ.out])) rfl ⟨?_, ?_⟩
          · rw [HHM.out]
          · exact (HF0.out.trans HFM.out (fun x hx hl => by have := HGW.out; simp at hx; omega)).trans (setRow_fr _ w.heap.size H) (fun x hx hl => by simp at hx; omega)
end Go.Proofs.YtacandocjjpfcaaDoor
