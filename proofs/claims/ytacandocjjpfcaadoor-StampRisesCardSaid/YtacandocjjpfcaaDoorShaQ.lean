/- Package sha: Sum; wakes. -/
import Derived.Test.YtacandocjjpfcaaDoorShaE
namespace Go.Proofs.YtacandocjjpfcaaDoor
set_option maxRecDepth 100000
open Go.RowKit

theorem By.blk_lt {w : World} {A : Option Addr} {n : Nat} {l : List UInt8} (h : By w A n l) (hn : 0 < n) : ∀ k ∈ bk A, k < w.heap.size := by
  obtain ⟨a, b, rfl, -, hc⟩ := h.at hn
  intro k hk
  simp [bk] at hk
  subst hk
  have := World.block_lt_of_cell? w _ hc
  rwa [add_block] at this
theorem sum_split (l : List UInt8) (q : Nat) (hq : 64 * q ≤ l.length) :
    outBytes (mixes ((ending (l.drop (64 * q)) l.length).length / 64) (mixes q st0 (l.take (64 * q))) (ending (l.drop (64 * q)) l.length)) = sumL l := by
  have e : ending l l.length = l.take (64 * q) ++ ending (l.drop (64 * q)) l.length := by
    unfold ending
    rw [← List.append_assoc, ← List.append_assoc, ← List.append_assoc, List.take_append_drop]
  have hl : (l.take (64 * q)).length = 64 * q := by rw [List.length_take]; omega
  unfold sumL
  rw [e, List.length_append, hl, show (64 * q + (ending (l.drop (64 * q)) l.length).length) / 64 = q + (ending (l.drop (64 * q)) l.length).length / 64 by omega, mixes_append _ _ _ _ _ hl]
theorem st0_nn : st0.Nn := by
  refine ⟨?_, ?_, ?_, ?_, ?_, ?_, ?_, ?_⟩ <;> (unfold st0; decide)
theorem state_size : (Tryd.prog.info? 119).map (·.size) = some 8 := by kernel_rfl

set_option maxRecDepth 100000 in
set_option maxHeartbeats 2000000 in
theorem sum_any (A : Option Addr) (n c : Nat) (l : List UInt8) (w : World) (hr : By w A n l) (hc : n ≤ c) (hn : n ≤ 1073741824) (hK : KW w) :
    Calls Tryd.prog 44 #[.slice A n c] w fun e w' => e = .returned (.agg ((sumL l).map by8).toArray) ∧ Fr [] w w' := by
  obtain ⟨q, r, m, hm, hnm, hr64⟩ : ∃ q r m : Nat, m = 64 * q ∧ n = m + r ∧ r < 64 := ⟨n / 64, n % 64, 64 * (n / 64), rfl, by omega, by omega⟩
  have HR := Lib.hid hr
  have HK := Lib.hid hK
  have HM := Lib.hid hm
  have hln := hr.1
  have HLN := Lib.hid hln
  have hK0 : 0 < w.heap.size := World.block_lt_of_cell? w _ (hK 0 (by omega))
  clear hr hK hln
  have hmod : (n : Int) % 64 = r := by omega
  have hsub : (n : Int) - (r : Int) = m := by omega
  have HNM := Lib.hid hnm
  have hmn : m ≤ n := by omega
  clear hm hnm
  obtain ⟨wb, hwb⟩ : ∃ wb, wb = (w.alloc (Obj.cells zeroH 32)).alloc (Obj.cells (st0.list.map i32).toArray 119) := ⟨_, rfl⟩
  have HWB := Lib.hid hwb
  have HFB' : Hid (Fr [] (w.alloc (Obj.cells zeroH 32)) wb) := Lib.hid (by rw [hwb]; exact (Fr.refl [] _).alloc _)
  have HBS' : Hid (Blk wb (w.heap.size + 1) 119 (st0.list.map i32).toArray) := Lib.hid (by
    have := Blk.new (w.alloc (Obj.cells zeroH 32)) 119 (st0.list.map i32).toArray
    rw [hwb]
    simpa using this)
  clear hwb
  have HBH : Hid (Blk wb w.heap.size 32 zeroH) := Lib.hid ((Blk.new w 32 zeroH).keep HFB'.out (by simp))
  have HF0 : Hid (Fr [] w wb) := Lib.hid (((Fr.refl [] w).alloc _).trans HFB'.out (by simp))
  have hbl : 0 < n → ∀ k ∈ bk A, k < w.heap.size := fun h => HR.out.blk_lt h
  have HBL := Lib.hid hbl
  clear HFB' hbl
  have hgs : w.heap.size + 1 ≠ 0 := by omega
  have HT := Lib.hid ((HR.out.keep HF0.out (by simp)).take hmn)
  go_enter Tryd.func44, Tryd.ntmps44
  go_wp2_with fail
  change Calls _ _ _ ((w.alloc (Obj.cells zeroH 32)).alloc (Obj.cells (st0.list.map i32).toArray 119)) _
  rw [← HWB.out]
  clear HWB
  refine (mixAll_any A m c (l.take m) wb (w.heap.size + 1) st0 HT.out (by omega) (by omega) (fun h hk => by have := HBL.out (by omega) _ hk; omega) HBS'.out st0_nn (HK.out.keep HF0.out (by simp)) hgs).mono ?_
  rintro e w2 ⟨rfl, hb2, hf2⟩
  have hq : m / 64 = q := by have := HM.out; omega
  rw [hq] at hb2
  have HB2 := Lib.hid hb2
  have HF2 := Lib.hid (HF0.out.trans hf2 (fun x hx hl => by simp at hx; omega))
  have HBH2 := Lib.hid (HBH.out.keep hf2 (by simp))
  have HK2 := Lib.hid (HK.out.keep HF2.out (by simp))
  have HC := Lib.hid ((HR.out.keep HF2.out (by simp)).cutc hmn hc)
  have hnr : n - m = r := by have := HNM.out; omega
  have HFIN : Hid (outBytes (mixes ((ending (l.drop m) n).length / 64) (mixes q st0 (l.take m)) (ending (l.drop m) n)) = sumL l) := Lib.hid (by
    have h := sum_split l q (by rw [HLN.out]; have := HM.out; omega)
    rw [← HM.out, HLN.out] at h
    exact h)
  have HNN := Lib.hid (mixes_nn q st0 (l.take m) st0_nn)
  have hel : (ending (l.drop m) n).length ≤ 1073741824 := by
    have h1 : (l.drop m).length ≤ 64 := by rw [List.length_drop, HLN.out]; omega
    simp only [ending, List.length_append, List.length_singleton, List.length_replicate, len8_len, zeros]
    omega
  have HEL := Lib.hid hel
  have HMOD : Hid (n % 64 = r) := Lib.hid (by omega)
  have HNR := Lib.hid hnr
  have hge : w.heap.size + 1 < w2.heap.size := hb2.lt
  clear hb2 hf2 hq hmod hsub hnr hel HBS' HBH HT HBL
  generalize mixes q st0 (l.take m) = s1 at *
  have hcc : ∃ (A' : Option Addr) (c' : Nat), By w2 A' r (l.drop m) ∧ (c = m → A' = A ∧ c' = 0) ∧ (c ≠ m → A' = A.map (·.add m) ∧ c' = c - m) := by
    by_cases hcm : c = m
    · exact ⟨A, 0, by have := HC.out.1 hcm; rwa [HNR.out] at this, fun _ => ⟨rfl, rfl⟩, fun h => absurd hcm h⟩
    · exact ⟨_, _, by have := HC.out.2 hcm; rwa [HNR.out] at this, fun h => absurd h hcm, fun _ => ⟨rfl, rfl⟩⟩
  obtain ⟨A', c', hy', h1, h2⟩ := hcc
  have HY := Lib.hid hy'
  have H1 := Lib.hid h1
  have H2 := Lib.hid h2
  have hnm2 : n - m = r := HNR.out
  clear hy' h1 h2 HC
  by_cases hcm : c = m
  · obtain ⟨rfl, rfl⟩ := H1.out hcm
    have hr0 : r = 0 := by omega
    subst hr0
    have HCM := Lib.hid hcm
    subst hcm
    go_wp2_with fail
    refine (ending_any A' 0 0 (l.drop c) n w2 HY.out hn HMOD.out).mono ?_
    rintro e w3 ⟨gE, rfl, hbE, hgE, hfE⟩
    have HYE := Lib.hid (By.blk (ending (l.drop c) n) hbE rfl)
    have HB3 := Lib.hid (HB2.out.keep hfE (by simp))
    have HBH3 := Lib.hid (HBH2.out.keep hfE (by simp))
    have HK3 := Lib.hid (HK2.out.keep hfE (by simp))
    have HF3 := Lib.hid (HF2.out.trans hfE (by simp))
    have HGE : Hid (0 < (ending (l.drop c) n).length → ¬ w.heap.size + 1 ∈ bk (some (⟨gE, 0, none⟩ : Addr))) := Lib.hid (fun _ h => by simp [bk] at h; omega)
    clear hbE hgE hfE HB2 HBH2 HK2 HF2
    go_wp2_with fail
    refine (mixAll_any (some ⟨gE, 0, none⟩) _ _ (ending (l.drop c) n) w3 (w.heap.size + 1) s1 HYE.out (Nat.le_refl _) HEL.out HGE.out HB3.out HNN.out HK3.out hgs).mono ?_
    rintro e w4 ⟨rfl, hb4, hf4⟩
    have HB4 := Lib.hid hb4
    have HBH4 := Lib.hid (HBH3.out.keep hf4 (by simp))
    have HF4 := Lib.hid (HF3.out.trans hf4 (fun x hx hl => by simp at hx; omega))
    clear hb4 hf4
    go_wp2_with fail
    refine (shash_any w4 (w.heap.size + 1) _ HB4.out (mixes_nn _ _ _ HNN.out)).mono ?_
    rw [HFIN.out]
    have hsl : ((sumL l).map by8).toArray.size = 32 := by simp [sumL_len]
    have hone : (((sumL l).map by8).toArray.all (·.oneCell')) = true := by
      rw [Array.all_eq_true_iff_forall_mem]
      intro u hu
      exact by8_one (sumL l) u (by simpa using hu)
    generalize hH : ((sumL l).map by8).toArray = H at *
    have HSZ := Lib.hid hsl
    have HONE := Lib.hid hone
    have HH := Lib.hid hH
    clear hsl hone hH
    rintro e w5 ⟨rfl, hf5⟩
    have HBH5 := Lib.hid (HBH4.out.keep hf5 (by simp))
    have HF5 := Lib.hid (HF4.out.trans hf5 (by simp))
    clear hf5
    go_wp2_with (first
      | (refine wpList_store_row rfl 32 _ _ rfl w.heap.size H rfl rfl 32 zeroH HBH5.out (by rw [hash_sizeS, HSZ.out]) (by rw [HSZ.out, zeroH_size]) HONE.out ?_))
    have hgr := setRow_blk HBH5.out H
    refine bodyPost_ret (v := .agg H) (results_cell_row Tryd.results44 _ _ w.heap.size 32 H _ _ rfl hgr Tryd.underlying32 rfl (by rw [hash_sizeS, HSZ.out])) rfl ⟨?_, ?_⟩
    · rw [HH.out]
    · exact HF5.out.trans (setRow_fr _ w.heap.size H) (fun x hx hl => by simp at hx; omega)
  · obtain ⟨rfl, rfl⟩ := H2.out hcm
    go_wp2_with fail
    refine (ending_any (A.map (·.add m)) r (c - m) (l.drop m) n w2 HY.out hn HMOD.out).mono ?_
    rintro e w3 ⟨gE, rfl, hbE, hgE, hfE⟩
    have HYE := Lib.hid (By.blk (ending (l.drop m) n) hbE rfl)
    have HB3 := Lib.hid (HB2.out.keep hfE (by simp))
    have HBH3 := Lib.hid (HBH2.out.keep hfE (by simp))
    have HK3 := Lib.hid (HK2.out.keep hfE (by simp))
    have HF3 := Lib.hid (HF2.out.trans hfE (by simp))
    have HGE : Hid (0 < (ending (l.drop m) n).length → ¬ w.heap.size + 1 ∈ bk (some (⟨gE, 0, none⟩ : Addr))) := Lib.hid (fun _ h => by simp [bk] at h; omega)
    clear hbE hgE hfE HB2 HBH2 HK2 HF2
    go_wp2_with fail
    refine (mixAll_any (some ⟨gE, 0, none⟩) _ _ (ending (l.drop m) n) w3 (w.heap.size + 1) s1 HYE.out (Nat.le_refl _) HEL.out HGE.out HB3.out HNN.out HK3.out hgs).mono ?_
    rintro e w4 ⟨rfl, hb4, hf4⟩
    have HB4 := Lib.hid hb4
    have HBH4 := Lib.hid (HBH3.out.keep hf4 (by simp))
    have HF4 := Lib.hid (HF3.out.trans hf4 (fun x hx hl => by simp at hx; omega))
    clear hb4 hf4
    go_wp2_with fail
    refine (shash_any w4 (w.heap.size + 1) _ HB4.out (mixes_nn _ _ _ HNN.out)).mono ?_
    rw [HFIN.out]
    have hsl : ((sumL l).map by8).toArray.size = 32 := by simp [sumL_len]
    have hone : (((sumL l).map by8).toArray.all (·.oneCell')) = true := by
      rw [Array.all_eq_true_iff_forall_mem]
      intro u hu
      exact by8_one (sumL l) u (by simpa using hu)
    generalize hH : ((sumL l).map by8).toArray = H at *
    have HSZ := Lib.hid hsl
    have HONE := Lib.hid hone
    have HH := Lib.hid hH
    clear hsl hone hH
    rintro e w5 ⟨rfl, hf5⟩
    have HBH5 := Lib.hid (HBH4.out.keep hf5 (by simp))
    have HF5 := Lib.hid (HF4.out.trans hf5 (by simp))
    clear hf5
    go_wp2_with (first
      | (refine wpList_store_row rfl 32 _ _ rfl w.heap.size H rfl rfl 32 zeroH HBH5.out (by rw [hash_sizeS, HSZ.out]) (by rw [HSZ.out, zeroH_size]) HONE.out ?_))
    have hgr := setRow_blk HBH5.out H
    refine bodyPost_ret (v := .agg H) (results_cell_row Tryd.results44 _ _ w.heap.size 32 H _ _ rfl hgr Tryd.underlying32 rfl (by rw [hash_sizeS, HSZ.out])) rfl ⟨?_, ?_⟩
    · rw [HH.out]
    · exact HF5.out.trans (setRow_fr _ w.heap.size H) (fun x hx hl => by simp at hx; omega)
end Go.Proofs.YtacandocjjpfcaaDoor
