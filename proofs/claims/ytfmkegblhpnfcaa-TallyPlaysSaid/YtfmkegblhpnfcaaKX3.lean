/- Texts that the proof stands on: gavelref13's Tally: Most. (written by gen_tr8.py) | Package tally: Clone. (written by gen_tr9.py) | How many replicas are heard of at most and at least; votes for three hashes alone. No program. | The document's Most and Heard of a list of votes are the tally's. No program. | gavellaw13's votes that come in; votes in another order. | gavellaw13's Cut: a vote of small numbers. | gavellaw13.TallyCounts, walked. | gavellaw13.play: both tallies, side by side. (written by gen_ts2.py) -/
import Derived.Test.YtfmkegblhpnfcaaKX2
import Derived.Shelf.SlMaps.Clone
import Derived.Test.YtfmkegblhpnfcaaTlHs
import Derived.Deep.CutBlock
set_option linter.unusedSimpArgs false
set_option linter.unusedVariables false
set_option maxRecDepth 100000

namespace Go.Proofs.Ytfmkegblhpnfcaa
set_option maxRecDepth 100000
open Go.RowKit
theorem by_range {w : World} {b o : Nat} {h : List UInt8} (hh : h.length = 32) (hr : w.rangeAt b o (h.map by8)) : By w (some ⟨b, o, none⟩) 32 h :=
  ⟨hh, fun _ => ⟨_, rfl, fun j u hu => by
    have := hr j u hu
    have e : (⟨b, o, none⟩ : Addr).add j = ⟨b, o + j, none⟩ := by unfold Addr.add; split <;> simp_all
    rw [e]
    exact this⟩⟩
theorem rmost_len (c : List UInt8 → Nat) (k r : Int) (L : List Tv) (hL : ∀ v ∈ L, v.h.length = 32) : (rmost c k r L).1.length = 32 := by
  have aux : ∀ (L : List Tv) (s : List UInt8 × Nat), s.1.length = 32 → (∀ v ∈ L, v.h.length = 32) → (L.foldl (rstep c k r) s).1.length = 32 := by
    intro L
    induction L with
    | nil => intro s hs _; exact hs
    | cons v L ih =>
      intro s hs h
      refine ih _ ?_ (fun u hu => h u (by simp [hu]))
      unfold rstep
      split
      · split
        · exact h v (by simp)
        · exact hs
      · exact hs
  exact aux L _ (by simp [zh32]) hL
set_option maxHeartbeats 8000000 in
theorem rmost_any (w : World) (S : List Nat) (g : Nat) (f c : Int) (T : List Tv) (h : Rt w S g f c T) (hT : T.length < 1000000) (k r : Int) :
    Calls Try.prog 32 #[.pointer (some ⟨g, 0, none⟩), .int .i64 k, .int .i64 r] w fun e w' => e = .returned (.tuple #[.agg ((rmost (cntH T k r) k r T.reverse).1.map by8).toArray, .int .i64 ((rmost (cntH T k r) k r T.reverse).2 : Nat)]) ∧ Fr [] w w' := by
  have HOLD := Lib.hid h
  obtain ⟨A, d, -, h1, h2, -⟩ := h
  have HC1 : Hid (w.cell? ⟨g, 2, none⟩ = some (.slice A T.length d)) := Lib.hid ((h1.cell 2).trans rfl)
  have HL := Lib.hid h2
  have HTL := Lib.hid hT
  have HFOR := Lib.hid (fun W (hW : Fr [] w W) (hs : List UInt8) (hh : hs.length = 32) => rfor_any W S g f c T (HOLD.out.keep hW (by simp)) (by omega) k r hs hh)
  have HCT := Lib.hid (fun hs => Nat.le_trans (show cntH T k r hs ≤ T.length from List.countP_le_length) (Nat.le_of_lt hT))
  obtain ⟨C, hC⟩ : ∃ C, C = cntH T k r := ⟨_, rfl⟩
  obtain ⟨N, hN⟩ : ∃ N, N = T.length := ⟨_, rfl⟩
  obtain ⟨L, hLd⟩ : ∃ L, L = T.reverse := ⟨_, rfl⟩
  have HLN : Hid (L.length = N) := Lib.hid (by rw [hLd, hN, List.length_reverse])
  rw [← hN] at HC1 HL HTL
  rw [← hLd] at HL ⊢
  rw [← hC] at HFOR HCT ⊢
  have HVL : Hid (∀ v ∈ L, v.h.length = 32) := Lib.hid (fun v hv => (HL.out.2.1 v hv).2)
  have HRE : Hid (rmost C k r (L.take N) = rmost C k r L) := Lib.hid (by rw [List.take_of_length_le (Nat.le_of_eq HLN.out)])
  have HRL : Hid ((rmost C k r L).1.length = 32) := Lib.hid (rmost_len C k r L HVL.out)
  have HBL : Hid (∀ q, (rmost C k r (L.take q)).1.length = 32) := Lib.hid (fun q => rmost_len C k r _ (fun v hv => HVL.out v (List.mem_of_mem_take hv)))
  have HNB : Hid (∀ q, (rmost C k r (L.take q)).2 ≤ 1000000) := Lib.hid (fun q => by
    have aux : ∀ (L : List Tv) (s : List UInt8 × Nat), s.2 ≤ 1000000 → (L.foldl (rstep C k r) s).2 ≤ 1000000 := by
      intro L
      induction L with
      | nil => intro s hs; exact hs
      | cons v L ih =>
        intro s hs
        refine ih _ ?_
        unfold rstep
        split
        · split
          · exact HCT.out v.h
          · exact hs
        · exact hs
    exact aux _ _ (by simp))
  generalize rmost C k r L = res at *
  clear h1 h2 hN hLd hT hC
  obtain ⟨wa, hwa⟩ : ∃ wa, wa = (w.alloc (Obj.cells zeroH 30)).alloc (Obj.cells zeroH 30) := ⟨_, rfl⟩
  have HF0 : Hid (Fr [] w wa) := Lib.hid (by rw [hwa]; exact ((Fr.refl [] w).alloc _).alloc _)
  have HB6 : Hid (Blk wa w.heap.size 30 zeroH) := Lib.hid (by rw [hwa]; exact (Blk.new _ _ _).keep ((Fr.refl [] _).alloc _) (by simp))
  have HB8 : Hid (Blk wa (w.heap.size + 1) 30 (zh32.map by8).toArray) := Lib.hid (by rw [hwa]; rw [show (zh32.map by8).toArray = zeroH from rfl]; have := Blk.new (w.alloc (Obj.cells zeroH 30)) 30 zeroH; simpa using this)
  obtain ⟨g6, hg6⟩ : ∃ g6, g6 = w.heap.size := ⟨_, rfl⟩
  have HWA := Lib.hid hwa
  have HG6 := Lib.hid hg6
  rw [← hg6] at HB6 HB8
  clear hwa hg6
  have HGG : Hid (g6 + 1 < wa.heap.size) := Lib.hid HB8.out.lt
  go_enter Try.func32, Try.ntmps32
  go_upto_region 2 with (fail)
  change Code.wp _ _ _ _ ((w.alloc (Obj.cells zeroH 30)).alloc (Obj.cells zeroH 30))
  rw [← HWA.out]
  have c1 := HF0.out.cell HC1.out (by simp)
  try rw [← HG6.out]
  go_wp2_with fail
  go_loopw [9, 18] (fun m i wr => ∃ (q n : Nat) (b : List UInt8), q ≤ N ∧ i = .int .i64 q ∧ m = .int .i64 n ∧ Hid (rmost C k r (L.take q) = (b, n)) ∧ Hid (Blk wr (g6 + 1) 30 (b.map by8).toArray) ∧ Hid (Fr [g6 + 1] wa wr)) (fun _ i _ => N - (intOf i).toNat)
  case atStart => exact ⟨0, 0, zh32, by omega, rfl, rfl, Lib.hid rfl, HB8, Lib.hid (Fr.refl _ _)⟩
  case round =>
    obtain ⟨q, n, b, hq, rfl, rfl, HS, HBW, HF⟩ := hrel
    rename World => wr
    clear c1
    have HFW : Hid (Fr [] w wr) := Lib.hid (HF0.out.trans HF.out (fun x hx hl => by have := HG6.out; simp at hx; omega))
    have c1 := HFW.out.cell HC1.out (by simp)
    have HBB : Hid (b.length = 32) := Lib.hid (by have := HBL.out q; rwa [HS.out] at this)
    have HNN : Hid (n ≤ 1000000) := Lib.hid (by have := HNB.out q; rwa [HS.out] at this)
    by_cases hlt : q < N
    · have hq64 : (q : Int) < 1000000 := by have := HTL.out; omega
      have hN64 : (N : Int) ≤ 9223372036854775807 := by have := HTL.out; omega
      have hq0 : (0 : Int) ≤ q := by omega
      obtain ⟨ad, v, hA, hv, hcl, hvl, hcells⟩ := Lst.at (HL.out.keep HFW.out) hlt
      subst hA
      have HCELLS := Lib.hid hcells
      have HCL := Lib.hid hcl
      have HVH := Lib.hid hvl
      have HTK := Lib.hid (rmost_take hv C k r)
      clear hv hvl hcl hcells
      have HHS : Hid ((Try.prog.info? 76).map (·.size) = some (rcells v).toArray.size) := Lib.hid (by rw [List.size_toArray, HCL.out]; kernel_rfl)
      have HHZ : Hid (zRv.size = (rcells v).toArray.size) := Lib.hid (by rw [show zRv.size = 35 from rfl, List.size_toArray, HCL.out])
      have HHA : Hid (((rcells v).toArray.all (·.oneCell')) = true) := Lib.hid (all_oneCell_toArray (rv_one v))
      go_upto_region 7 with (first
        | (refine wpList_cells rfl 76 _ rfl _ rfl (rcells v) HCELLS.out (row_rv.of HCL.out) ?_)
        | (refine wpList_store_blk rfl 76 _ _ rfl wr.heap.size (rcells v).toArray rfl rfl 76 zRv (Blk.new wr _ _) HHS.out HHZ.out HHA.out ?_; intro w1 hb1 hf1))
      simp only [Act.put]
      have hFA : Fr [] wr w1 := ((Fr.refl [] wr).alloc _).and hf1 (by simp)
      have HFA := Lib.hid hFA
      have HV1 := Lib.hid hb1.range
      have HSZ : Hid (wr.heap.size < w1.heap.size) := Lib.hid hb1.lt
      have HBV := Lib.hid hb1
      have HBW1 := Lib.hid (HBW.out.keep hFA (by simp))
      have ck : w1.cell? ⟨wr.heap.size, 0, none⟩ = some (.int .i64 v.k) := (hb1.cell 0).trans rfl
      have cr : w1.cell? ⟨wr.heap.size, 1, none⟩ = some (.int .i64 v.r) := (hb1.cell 1).trans rfl
      have HVR : Hid (w1.rangeAt wr.heap.size 3 (v.h.map by8)) := Lib.hid (fun j x hx => by
        have := HV1.out (3 + j) x (by unfold rcells; rw [show 3 + j = j + 1 + 1 + 1 by omega]; simpa using hx)
        simpa using this)
      have HF1 := Lib.hid (HF.out.trans (hFA.mono (T := [g6 + 1]) (by simp)) (fun x hx _ => hx))
      have HFW1 := Lib.hid (HFW.out.and hFA (by simp))
      have HLV : Hid ((v.h.map by8).length = 32) := Lib.hid (by rw [List.length_map]; exact HVH.out)
      clear hb1 hf1 hFA c1
      obtain ⟨gv, hgv⟩ : ∃ gv, gv = wr.heap.size := ⟨_, rfl⟩
      rw [← hgv] at HV1 HSZ HBV ck cr HVR ⊢
      have HGV : Hid (g6 + 1 < gv) := Lib.hid (by have := HF.out.size; have := HGG.out; omega)
      clear hgv
      by_cases h1 : v.k = k
      · have b1 : (v.k == k) = true := by simpa using h1
        have b1n : (v.k != k) = false := by simp [h1]
        by_cases h2 : v.r = r
        · have b2 : (v.r == r) = true := by simpa using h2
          have b2n : (v.r != r) = false := by simp [h2]
          have HST : Hid (rmost C k r (L.take (q + 1)) = if n < C v.h ∨ (C v.h = n ∧ lessB v.h b = true) then (v.h, C v.h) else (b, n)) := Lib.hid (by rw [HTK.out, HS.out]; unfold rstep; rw [if_pos ⟨h1, h2⟩])
          have HCV : Hid (C v.h ≤ 1000000) := Lib.hid (HCT.out v.h)
          have HFC := Lib.hid (HFOR.out w1 HFW1.out v.h HVH.out)
          clear h1 h2
          go_wp2_with (refine wpList_row rfl 30 _ rfl _ _ rfl _ HVR.out (row_hash.of HLV.out) ?_)
          refine HFC.out.mono ?_
          generalize C v.h = m at *
          rintro e w2 ⟨rfl, hf2⟩
          have HF2 := Lib.hid (HF1.out.trans (hf2.mono (T := [g6 + 1]) (by simp)) (fun x hx _ => hx))
          have HBW2 := Lib.hid (HBW1.out.keep hf2 (by simp))
          have HVR2 := Lib.hid (hf2.range HVR.out (by simp))
          clear hf2 ck cr b1 b2 b1n b2n
          have hm64 : (m : Int) ≤ 1000000 := by have := HCV.out; omega
          have hn64 : (n : Int) ≤ 1000000 := by have := HNN.out; omega
          have HHS8 : Hid ((Try.prog.info? 30).map (·.size) = some (v.h.map by8).toArray.size) := Lib.hid (by rw [List.size_toArray, HLV.out]; kernel_rfl)
          have HHZ8 : Hid ((b.map by8).toArray.size = (v.h.map by8).toArray.size) := Lib.hid (by rw [List.size_toArray, List.length_map, HBB.out, List.size_toArray, HLV.out])
          have HHA8 : Hid (((v.h.map by8).toArray.all (·.oneCell')) = true) := Lib.hid (all_oneCell_toArray (by8_one v.h))
          go_upto_region 9 with (fail)
          by_cases h4 : n < m
          · have d1 : decide (n < m) = true := decide_eq_true h4
            have HT3 : Hid (rmost C k r (L.take (q + 1)) = (v.h, m)) := Lib.hid (by rw [HST.out, if_pos (.inl h4)])
            clear h4
            refine wp_region_held_drew (S := Fr [] w2) (by kernel_rfl) (Fr.drew (Fr.refl _ w2)) (fun hHeld => ?_)
            refine run_at (i := 0) (v := ?_) rfl (by kernel_rfl) (by rfl) (fun _ _ _ h => h) hHeld (fun w1 hw1 => ?_) ?_
            rotate_left 1
            · skip
              go_simp
              (try (first | with_reducible rfl | (apply And.intro <;> rfl)))
            simp only [Act.put, List.setIfInBounds_toArray, List.set_cons_zero, List.set_cons_succ]
            refine run_at (i := 1) (v := ?_) rfl (by kernel_rfl) (by rfl) (fun _ _ _ h => h) hHeld (fun w1 hw1 => ?_) ?_
            rotate_left 1
            · skip
              go_simp
              (try (first | with_reducible rfl | (apply And.intro <;> rfl)))
            simp only [Act.put, List.setIfInBounds_toArray, List.set_cons_zero, List.set_cons_succ]
            refine run_at (i := 2) (v := ?_) rfl (by kernel_rfl) (by rfl) (fun _ _ _ h => h) hHeld (fun w1 hw1 => ?_) ?_
            rotate_left 1
            · skip
              go_simp
              (try (first | with_reducible rfl | (apply And.intro <;> rfl)))
            simp only [Act.put, List.setIfInBounds_toArray, List.set_cons_zero, List.set_cons_succ]
            refine run_at (i := 3) (v := ?_) rfl (by kernel_rfl) (by rfl) (fun _ _ _ h => h) hHeld (fun w1 hw1 => ?_) ?_
            rotate_left 1
            · skip
              go_simp
              (try (first | with_reducible rfl | (apply And.intro <;> rfl)))
            simp only [Act.put, List.setIfInBounds_toArray, List.set_cons_zero, List.set_cons_succ]
            refine skip_at (i := 4) rfl (by kernel_rfl) (fun _ _ _ h => h) (by kernel_rfl) hHeld ?_
            simp only [Act.put, List.setIfInBounds_toArray, List.set_cons_zero, List.set_cons_succ]
            refine skip_at (i := 5) rfl (by kernel_rfl) (fun _ _ _ h => h) (by kernel_rfl) hHeld ?_
            simp only [Act.put, List.setIfInBounds_toArray, List.set_cons_zero, List.set_cons_succ]
            refine skip_at (i := 6) rfl (by kernel_rfl) (fun _ _ _ h => h) (by kernel_rfl) hHeld ?_
            simp only [Act.put, List.setIfInBounds_toArray, List.set_cons_zero, List.set_cons_succ]
            refine skip_at (i := 7) rfl (by kernel_rfl) (fun _ _ _ h => h) (by kernel_rfl) hHeld ?_
            simp only [Act.put, List.setIfInBounds_toArray, List.set_cons_zero, List.set_cons_succ]
            refine skip_at (i := 8) rfl (by kernel_rfl) (fun _ _ _ h => h) (by kernel_rfl) hHeld ?_
            simp only [Act.put, List.setIfInBounds_toArray, List.set_cons_zero, List.set_cons_succ]
            refine skip_at (i := 9) rfl (by kernel_rfl) (fun _ _ _ h => h) (by kernel_rfl) hHeld ?_
            simp only [Act.put, List.setIfInBounds_toArray, List.set_cons_zero, List.set_cons_succ]
            refine skip_at (i := 10) rfl (by kernel_rfl) (fun _ _ _ h => h) (by kernel_rfl) hHeld ?_
            simp only [Act.put, List.setIfInBounds_toArray, List.set_cons_zero, List.set_cons_succ]
            refine skip_at (i := 11) rfl (by kernel_rfl) (fun _ _ _ h => h) (by kernel_rfl) hHeld ?_
            simp only [Act.put, List.setIfInBounds_toArray, List.set_cons_zero, List.set_cons_succ]
            refine skip_at (i := 12) rfl (by kernel_rfl) (fun _ _ _ h => h) (by kernel_rfl) hHeld ?_
            simp only [Act.put, List.setIfInBounds_toArray, List.set_cons_zero, List.set_cons_succ]
            refine skip_at (i := 13) rfl (by kernel_rfl) (fun _ _ _ h => h) (by kernel_rfl) hHeld ?_
            simp only [Act.put, List.setIfInBounds_toArray, List.set_cons_zero, List.set_cons_succ]
            refine skip_at (i := 14) rfl (by kernel_rfl) (fun _ _ _ h => h) (by kernel_rfl) hHeld ?_
            simp only [Act.put, List.setIfInBounds_toArray, List.set_cons_zero, List.set_cons_succ]
            refine run_at (i := 15) (v := ?_) rfl (by kernel_rfl) (by rfl) (fun _ _ _ h => h) hHeld (fun w1 hw1 => ?_) ?_
            rotate_left 1
            · skip
              go_simp
              (try (first | with_reducible rfl | (apply And.intro <;> rfl)))
            simp only [Act.put, List.setIfInBounds_toArray, List.set_cons_zero, List.set_cons_succ]
            refine wpAnyH_done (by kernel_rfl) ?_ _
            have HF3 := Lib.hid (HF2.out.trans (hHeld.mono (T := [g6 + 1]) (by simp)) (fun x hx _ => hx))
            have HBW3 := Lib.hid (HBW2.out.keep hHeld (by simp))
            have HVR3 := Lib.hid (hHeld.range HVR2.out (by simp))
            clear hHeld
            go_wp2_with (first
              | (refine wpList_row rfl 30 _ rfl _ _ rfl _ HVR3.out (row_hash.of HLV.out) ?_)
              | (refine wpList_store_blk rfl 30 _ _ rfl (g6 + 1) (v.h.map by8).toArray rfl rfl 30 (b.map by8).toArray HBW3.out HHS8.out HHZ8.out HHA8.out ?_; intro w9 hb9 hf9))
            have HB9 := Lib.hid hb9
            have HF9 := Lib.hid (HF3.out.trans hf9 (fun x hx _ => hx))
            clear hb9 hf9
            go_wp2_with fail
            go_roundw
            case rel => exact ⟨q + 1, m, v.h, by omega, by go_num, rfl, HT3, HB9, HF9⟩
            case measure => simp [intOf]; omega
          · have d1 : decide (n < m) = false := decide_eq_false h4
            by_cases h5 : m = n
            · have d2 : ((m : Int) == (n : Int)) = true := by simp [h5]
              cases hls : lessB v.h b with
              | true =>
                obtain ⟨s1, hs1⟩ : ∃ s1 : ByteArray, s1 = ⟨v.h.toArray⟩ := ⟨_, rfl⟩
                obtain ⟨s2, hs2⟩ : ∃ s2 : ByteArray, s2 = ⟨b.toArray⟩ := ⟨_, rfl⟩
                have hbl : Op.bytesLess s1.toList s2.toList = true := by rw [hs1, hs2, ByteArray.toList_eq, ByteArray.toList_eq, bytesLess_eq]; exact hls
                have HCA : Hid (∀ W, Fr [] w2 W → (convert 77 9 (.slice (some ⟨gv, 3, none⟩) 32 32)).run Try.prog W = .ok (.string s1) W) := Lib.hid (fun W hW => by rw [hs1]; exact conv_text (some ⟨gv, 3, none⟩) 32 32 v.h W (by_range HVH.out (hW.range HVR2.out (by simp))))
                have HCB : Hid (∀ W, Fr [] w2 W → (convert 77 9 (.slice (some ⟨g6 + 1, 0, none⟩) 32 32)).run Try.prog W = .ok (.string s2) W) := Lib.hid (fun W hW => by rw [hs2]; exact conv_text (some ⟨g6 + 1, 0, none⟩) 32 32 b W (by_range HBB.out (hW.range HBW2.out.range (by simp))))
                clear hs1 hs2
                have HT3 : Hid (rmost C k r (L.take (q + 1)) = (v.h, m)) := Lib.hid (by rw [HST.out, if_pos (.inr ⟨h5, hls⟩)])
                clear h4 hls
                clear h5
                refine wp_region_held_drew (S := Fr [] w2) (by kernel_rfl) (Fr.drew (Fr.refl _ w2)) (fun hHeld => ?_)
                refine run_at (i := 0) (v := ?_) rfl (by kernel_rfl) (by rfl) (fun _ _ _ h => h) hHeld (fun w1 hw1 => ?_) ?_
                rotate_left 1
                · skip
                  go_simp
                  (try (first | with_reducible rfl | (apply And.intro <;> rfl)))
                simp only [Act.put, List.setIfInBounds_toArray, List.set_cons_zero, List.set_cons_succ]
                refine run_at (i := 1) (v := ?_) rfl (by kernel_rfl) (by rfl) (fun _ _ _ h => h) hHeld (fun w1 hw1 => ?_) ?_
                rotate_left 1
                · skip
                  go_simp
                  (try (first | with_reducible rfl | (apply And.intro <;> rfl)))
                simp only [Act.put, List.setIfInBounds_toArray, List.set_cons_zero, List.set_cons_succ]
                refine run_at (i := 2) (v := ?_) rfl (by kernel_rfl) (by rfl) (fun _ _ _ h => h) hHeld (fun w1 hw1 => ?_) ?_
                rotate_left 1
                · skip
                  go_simp
                  (try (first | with_reducible rfl | (apply And.intro <;> rfl)))
                simp only [Act.put, List.setIfInBounds_toArray, List.set_cons_zero, List.set_cons_succ]
                refine run_at (i := 3) (v := ?_) rfl (by kernel_rfl) (by rfl) (fun _ _ _ h => h) hHeld (fun w1 hw1 => ?_) ?_
                rotate_left 1
                · skip
                  go_simp
                  (try (first | with_reducible rfl | (apply And.intro <;> rfl)))
                simp only [Act.put, List.setIfInBounds_toArray, List.set_cons_zero, List.set_cons_succ]
                refine run_at (i := 4) (v := ?_) rfl (by kernel_rfl) (by rfl) (fun _ _ _ h => h) hHeld (fun w1 hw1 => ?_) ?_
                rotate_left 1
                · skip
                  go_simp
                  (try (first | with_reducible rfl | (apply And.intro <;> rfl)))
                simp only [Act.put, List.setIfInBounds_toArray, List.set_cons_zero, List.set_cons_succ]
                refine run_at (i := 5) (v := ?_) rfl (by kernel_rfl) (by rfl) (fun _ _ _ h => h) hHeld (fun w1 hw1 => ?_) ?_
                rotate_left 1
                · skip
                  go_simp
                  (try (first | with_reducible rfl | (apply And.intro <;> rfl)))
                simp only [Act.put, List.setIfInBounds_toArray, List.set_cons_zero, List.set_cons_succ]
                refine run_at (i := 6) (v := ?_) rfl (by kernel_rfl) (by rfl) (fun _ _ _ h => h) hHeld (fun w1 hw1 => ?_) ?_
                rotate_left 1
                · skip
                  go_simp
                  (try (first | with_reducible rfl | (apply And.intro <;> rfl)))
                simp only [Act.put, List.setIfInBounds_toArray, List.set_cons_zero, List.set_cons_succ]
                refine run_at (i := 7) (v := ?_) rfl (by kernel_rfl) (by rfl) (fun _ _ _ h => h) hHeld (fun w1 hw1 => ?_) ?_
                rotate_left 1
                · skip
                  go_simp
                  (try (first | with_reducible rfl | (apply And.intro <;> rfl)))
                simp only [Act.put, List.setIfInBounds_toArray, List.set_cons_zero, List.set_cons_succ]
                refine run_at (i := 8) (v := ?_) rfl (by kernel_rfl) (by rfl) (fun _ _ _ h => h) hHeld (fun w1 hw1 => ?_) ?_
                rotate_left 1
                · skip
                  go_simp
                  (try (first | with_reducible rfl | (apply And.intro <;> rfl)))
                simp only [Act.put, List.setIfInBounds_toArray, List.set_cons_zero, List.set_cons_succ]
                refine run_at (i := 9) (v := ?_) rfl (by kernel_rfl) (by rfl) (fun _ _ _ h => h) hHeld (fun w1 hw1 => ?_) ?_
                rotate_left 1
                · skip
                  go_simp
                  (try (first | with_reducible rfl | (apply And.intro <;> rfl)))
                simp only [Act.put, List.setIfInBounds_toArray, List.set_cons_zero, List.set_cons_succ]
                refine run_at (i := 10) (v := ?_) rfl (by kernel_rfl) (by rfl) (fun _ _ _ h => h) hHeld (fun w1 hw1 => ?_) ?_
                rotate_left 1
                · skip
                  have hcw0 := HCA.out w1 hw1
                  go_simp
                  (try (first | with_reducible rfl | (apply And.intro <;> rfl)))
                simp only [Act.put, List.setIfInBounds_toArray, List.set_cons_zero, List.set_cons_succ]
                refine run_at (i := 11) (v := ?_) rfl (by kernel_rfl) (by rfl) (fun _ _ _ h => h) hHeld (fun w1 hw1 => ?_) ?_
                rotate_left 1
                · skip
                  go_simp
                  (try (first | with_reducible rfl | (apply And.intro <;> rfl)))
                simp only [Act.put, List.setIfInBounds_toArray, List.set_cons_zero, List.set_cons_succ]
                refine run_at (i := 12) (v := ?_) rfl (by kernel_rfl) (by rfl) (fun _ _ _ h => h) hHeld (fun w1 hw1 => ?_) ?_
                rotate_left 1
                · skip
                  have hcw0 := HCB.out w1 hw1
                  go_simp
                  (try (first | with_reducible rfl | (apply And.intro <;> rfl)))
                simp only [Act.put, List.setIfInBounds_toArray, List.set_cons_zero, List.set_cons_succ]
                refine run_at (i := 13) (v := ?_) rfl (by kernel_rfl) (by rfl) (fun _ _ _ h => h) hHeld (fun w1 hw1 => ?_) ?_
                rotate_left 1
                · skip
                  go_simp
                  (try (first | with_reducible rfl | (apply And.intro <;> rfl)))
                simp only [Act.put, List.setIfInBounds_toArray, List.set_cons_zero, List.set_cons_succ]
                refine run_at (i := 14) (v := ?_) rfl (by kernel_rfl) (by rfl) (fun _ _ _ h => h) hHeld (fun w1 hw1 => ?_) ?_
                rotate_left 1
                · skip
                  go_simp
                  (try (first | with_reducible rfl | (apply And.intro <;> rfl)))
                simp only [Act.put, List.setIfInBounds_toArray, List.set_cons_zero, List.set_cons_succ]
                refine run_at (i := 15) (v := ?_) rfl (by kernel_rfl) (by rfl) (fun _ _ _ h => h) hHeld (fun w1 hw1 => ?_) ?_
                rotate_left 1
                · skip
                  go_simp
                  (try (first | with_reducible rfl | (apply And.intro <;> rfl)))
                simp only [Act.put, List.setIfInBounds_toArray, List.set_cons_zero, List.set_cons_succ]
                refine wpAnyH_done (by kernel_rfl) ?_ _
                have HF3 := Lib.hid (HF2.out.trans (hHeld.mono (T := [g6 + 1]) (by simp)) (fun x hx _ => hx))
                have HBW3 := Lib.hid (HBW2.out.keep hHeld (by simp))
                have HVR3 := Lib.hid (hHeld.range HVR2.out (by simp))
                clear hHeld
                clear d1 d2 hbl HCA HCB
                go_wp2_with (first
                  | (refine wpList_row rfl 30 _ rfl _ _ rfl _ HVR3.out (row_hash.of HLV.out) ?_)
                  | (refine wpList_store_blk rfl 30 _ _ rfl (g6 + 1) (v.h.map by8).toArray rfl rfl 30 (b.map by8).toArray HBW3.out HHS8.out HHZ8.out HHA8.out ?_; intro w9 hb9 hf9))
                have HB9 := Lib.hid hb9
                have HF9 := Lib.hid (HF3.out.trans hf9 (fun x hx _ => hx))
                clear hb9 hf9
                go_wp2_with fail
                go_roundw
                case rel => exact ⟨q + 1, m, v.h, by omega, by go_num, rfl, HT3, HB9, HF9⟩
                case measure => simp [intOf]; omega
              | false =>
                obtain ⟨s1, hs1⟩ : ∃ s1 : ByteArray, s1 = ⟨v.h.toArray⟩ := ⟨_, rfl⟩
                obtain ⟨s2, hs2⟩ : ∃ s2 : ByteArray, s2 = ⟨b.toArray⟩ := ⟨_, rfl⟩
                have hbl : Op.bytesLess s1.toList s2.toList = false := by rw [hs1, hs2, ByteArray.toList_eq, ByteArray.toList_eq, bytesLess_eq]; exact hls
                have HCA : Hid (∀ W, Fr [] w2 W → (convert 77 9 (.slice (some ⟨gv, 3, none⟩) 32 32)).run Try.prog W = .ok (.string s1) W) := Lib.hid (fun W hW => by rw [hs1]; exact conv_text (some ⟨gv, 3, none⟩) 32 32 v.h W (by_range HVH.out (hW.range HVR2.out (by simp))))
                have HCB : Hid (∀ W, Fr [] w2 W → (convert 77 9 (.slice (some ⟨g6 + 1, 0, none⟩) 32 32)).run Try.prog W = .ok (.string s2) W) := Lib.hid (fun W hW => by rw [hs2]; exact conv_text (some ⟨g6 + 1, 0, none⟩) 32 32 b W (by_range HBB.out (hW.range HBW2.out.range (by simp))))
                clear hs1 hs2
                have HT3 : Hid (rmost C k r (L.take (q + 1)) = (b, n)) := Lib.hid (by rw [HST.out, if_neg (by rw [hls]; simp; omega)])
                clear h4 hls
                clear h5
                refine wp_region_held_drew (S := Fr [] w2) (by kernel_rfl) (Fr.drew (Fr.refl _ w2)) (fun hHeld => ?_)
                refine run_at (i := 0) (v := ?_) rfl (by kernel_rfl) (by rfl) (fun _ _ _ h => h) hHeld (fun w1 hw1 => ?_) ?_
                rotate_left 1
                · skip
                  go_simp
                  (try (first | with_reducible rfl | (apply And.intro <;> rfl)))
                simp only [Act.put, List.setIfInBounds_toArray, List.set_cons_zero, List.set_cons_succ]
                refine run_at (i := 1) (v := ?_) rfl (by kernel_rfl) (by rfl) (fun _ _ _ h => h) hHeld (fun w1 hw1 => ?_) ?_
                rotate_left 1
                · skip
                  go_simp
                  (try (first | with_reducible rfl | (apply And.intro <;> rfl)))
                simp only [Act.put, List.setIfInBounds_toArray, List.set_cons_zero, List.set_cons_succ]
                refine run_at (i := 2) (v := ?_) rfl (by kernel_rfl) (by rfl) (fun _ _ _ h => h) hHeld (fun w1 hw1 => ?_) ?_
                rotate_left 1
                · skip
                  go_simp
                  (try (first | with_reducible rfl | (apply And.intro <;> rfl)))
                simp only [Act.put, List.setIfInBounds_toArray, List.set_cons_zero, List.set_cons_succ]
                refine run_at (i := 3) (v := ?_) rfl (by kernel_rfl) (by rfl) (fun _ _ _ h => h) hHeld (fun w1 hw1 => ?_) ?_
                rotate_left 1
                · skip
                  go_simp
                  (try (first | with_reducible rfl | (apply And.intro <;> rfl)))
                simp only [Act.put, List.setIfInBounds_toArray, List.set_cons_zero, List.set_cons_succ]
                refine run_at (i := 4) (v := ?_) rfl (by kernel_rfl) (by rfl) (fun _ _ _ h => h) hHeld (fun w1 hw1 => ?_) ?_
                rotate_left 1
                · skip
                  go_simp
                  (try (first | with_reducible rfl | (apply And.intro <;> rfl)))
                simp only [Act.put, List.setIfInBounds_toArray, List.set_cons_zero, List.set_cons_succ]
                refine run_at (i := 5) (v := ?_) rfl (by kernel_rfl) (by rfl) (fun _ _ _ h => h) hHeld (fun w1 hw1 => ?_) ?_
                rotate_left 1
                · skip
                  go_simp
                  (try (first | with_reducible rfl | (apply And.intro <;> rfl)))
                simp only [Act.put, List.setIfInBounds_toArray, List.set_cons_zero, List.set_cons_succ]
                refine run_at (i := 6) (v := ?_) rfl (by kernel_rfl) (by rfl) (fun _ _ _ h => h) hHeld (fun w1 hw1 => ?_) ?_
                rotate_left 1
                · skip
                  go_simp
                  (try (first | with_reducible rfl | (apply And.intro <;> rfl)))
                simp only [Act.put, List.setIfInBounds_toArray, List.set_cons_zero, List.set_cons_succ]
                refine run_at (i := 7) (v := ?_) rfl (by kernel_rfl) (by rfl) (fun _ _ _ h => h) hHeld (fun w1 hw1 => ?_) ?_
                rotate_left 1
                · skip
                  go_simp
                  (try (first | with_reducible rfl | (apply And.intro <;> rfl)))
                simp only [Act.put, List.setIfInBounds_toArray, List.set_cons_zero, List.set_cons_succ]
                refine run_at (i := 8) (v := ?_) rfl (by kernel_rfl) (by rfl) (fun _ _ _ h => h) hHeld (fun w1 hw1 => ?_) ?_
                rotate_left 1
                · skip
                  go_simp
                  (try (first | with_reducible rfl | (apply And.intro <;> rfl)))
                simp only [Act.put, List.setIfInBounds_toArray, List.set_cons_zero, List.set_cons_succ]
                refine run_at (i := 9) (v := ?_) rfl (by kernel_rfl) (by rfl) (fun _ _ _ h => h) hHeld (fun w1 hw1 => ?_) ?_
                rotate_left 1
                · skip
                  go_simp
                  (try (first | with_reducible rfl | (apply And.intro <;> rfl)))
                simp only [Act.put, List.setIfInBounds_toArray, List.set_cons_zero, List.set_cons_succ]
                refine run_at (i := 10) (v := ?_) rfl (by kernel_rfl) (by rfl) (fun _ _ _ h => h) hHeld (fun w1 hw1 => ?_) ?_
                rotate_left 1
                · skip
                  have hcw0 := HCA.out w1 hw1
                  go_simp
                  (try (first | with_reducible rfl | (apply And.intro <;> rfl)))
                simp only [Act.put, List.setIfInBounds_toArray, List.set_cons_zero, List.set_cons_succ]
                refine run_at (i := 11) (v := ?_) rfl (by kernel_rfl) (by rfl) (fun _ _ _ h => h) hHeld (fun w1 hw1 => ?_) ?_
                rotate_left 1
                · skip
                  go_simp
                  (try (first | with_reducible rfl | (apply And.intro <;> rfl)))
                simp only [Act.put, List.setIfInBounds_toArray, List.set_cons_zero, List.set_cons_succ]
                refine run_at (i := 12) (v := ?_) rfl (by kernel_rfl) (by rfl) (fun _ _ _ h => h) hHeld (fun w1 hw1 => ?_) ?_
                rotate_left 1
                · skip
                  have hcw0 := HCB.out w1 hw1
                  go_simp
                  (try (first | with_reducible rfl | (apply And.intro <;> rfl)))
                simp only [Act.put, List.setIfInBounds_toArray, List.set_cons_zero, List.set_cons_succ]
                refine run_at (i := 13) (v := ?_) rfl (by kernel_rfl) (by rfl) (fun _ _ _ h => h) hHeld (fun w1 hw1 => ?_) ?_
                rotate_left 1
                · skip
                  go_simp
                  (try (first | with_reducible rfl | (apply And.intro <;> rfl)))
                simp only [Act.put, List.setIfInBounds_toArray, List.set_cons_zero, List.set_cons_succ]
                refine run_at (i := 14) (v := ?_) rfl (by kernel_rfl) (by rfl) (fun _ _ _ h => h) hHeld (fun w1 hw1 => ?_) ?_
                rotate_left 1
                · skip
                  go_simp
                  (try (first | with_reducible rfl | (apply And.intro <;> rfl)))
                simp only [Act.put, List.setIfInBounds_toArray, List.set_cons_zero, List.set_cons_succ]
                refine run_at (i := 15) (v := ?_) rfl (by kernel_rfl) (by rfl) (fun _ _ _ h => h) hHeld (fun w1 hw1 => ?_) ?_
                rotate_left 1
                · skip
                  go_simp
                  (try (first | with_reducible rfl | (apply And.intro <;> rfl)))
                simp only [Act.put, List.setIfInBounds_toArray, List.set_cons_zero, List.set_cons_succ]
                refine wpAnyH_done (by kernel_rfl) ?_ _
                have HF3 := Lib.hid (HF2.out.trans (hHeld.mono (T := [g6 + 1]) (by simp)) (fun x hx _ => hx))
                have HBW3 := Lib.hid (HBW2.out.keep hHeld (by simp))
                have HVR3 := Lib.hid (hHeld.range HVR2.out (by simp))
                clear hHeld
                clear d1 d2 hbl HCA HCB
                go_wp2_with fail
                go_roundw
                case rel => exact ⟨q + 1, n, b, by omega, by go_num, rfl, HT3, HBW3, HF3⟩
                case measure => simp [intOf]; omega
            · have d2 : ((m : Int) == (n : Int)) = false := by simp; omega
              have HT3 : Hid (rmost C k r (L.take (q + 1)) = (b, n)) := Lib.hid (by rw [HST.out, if_neg (by omega)])
              clear h4 h5
              refine wp_region_held_drew (S := Fr [] w2) (by kernel_rfl) (Fr.drew (Fr.refl _ w2)) (fun hHeld => ?_)
              refine run_at (i := 0) (v := ?_) rfl (by kernel_rfl) (by rfl) (fun _ _ _ h => h) hHeld (fun w1 hw1 => ?_) ?_
              rotate_left 1
              · skip
                go_simp
                (try (first | with_reducible rfl | (apply And.intro <;> rfl)))
              simp only [Act.put, List.setIfInBounds_toArray, List.set_cons_zero, List.set_cons_succ]
              refine run_at (i := 1) (v := ?_) rfl (by kernel_rfl) (by rfl) (fun _ _ _ h => h) hHeld (fun w1 hw1 => ?_) ?_
              rotate_left 1
              · skip
                go_simp
                (try (first | with_reducible rfl | (apply And.intro <;> rfl)))
              simp only [Act.put, List.setIfInBounds_toArray, List.set_cons_zero, List.set_cons_succ]
              refine run_at (i := 2) (v := ?_) rfl (by kernel_rfl) (by rfl) (fun _ _ _ h => h) hHeld (fun w1 hw1 => ?_) ?_
              rotate_left 1
              · skip
                go_simp
                (try (first | with_reducible rfl | (apply And.intro <;> rfl)))
              simp only [Act.put, List.setIfInBounds_toArray, List.set_cons_zero, List.set_cons_succ]
              refine run_at (i := 3) (v := ?_) rfl (by kernel_rfl) (by rfl) (fun _ _ _ h => h) hHeld (fun w1 hw1 => ?_) ?_
              rotate_left 1
              · skip
                go_simp
                (try (first | with_reducible rfl | (apply And.intro <;> rfl)))
              simp only [Act.put, List.setIfInBounds_toArray, List.set_cons_zero, List.set_cons_succ]
              refine run_at (i := 4) (v := ?_) rfl (by kernel_rfl) (by rfl) (fun _ _ _ h => h) hHeld (fun w1 hw1 => ?_) ?_
              rotate_left 1
              · skip
                go_simp
                (try (first | with_reducible rfl | (apply And.intro <;> rfl)))
              simp only [Act.put, List.setIfInBounds_toArray, List.set_cons_zero, List.set_cons_succ]
              refine run_at (i := 5) (v := ?_) rfl (by kernel_rfl) (by rfl) (fun _ _ _ h => h) hHeld (fun w1 hw1 => ?_) ?_
              rotate_left 1
              · skip
                go_simp
                (try (first | with_reducible rfl | (apply And.intro <;> rfl)))
              simp only [Act.put, List.setIfInBounds_toArray, List.set_cons_zero, List.set_cons_succ]
              refine run_at (i := 6) (v := ?_) rfl (by kernel_rfl) (by rfl) (fun _ _ _ h => h) hHeld (fun w1 hw1 => ?_) ?_
              rotate_left 1
              · skip
                go_simp
                (try (first | with_reducible rfl | (apply And.intro <;> rfl)))
              simp only [Act.put, List.setIfInBounds_toArray, List.set_cons_zero, List.set_cons_succ]
              refine run_at (i := 7) (v := ?_) rfl (by kernel_rfl) (by rfl) (fun _ _ _ h => h) hHeld (fun w1 hw1 => ?_) ?_
              rotate_left 1
              · skip
                go_simp
                (try (first | with_reducible rfl | (apply And.intro <;> rfl)))
              simp only [Act.put, List.setIfInBounds_toArray, List.set_cons_zero, List.set_cons_succ]
              refine skip_at (i := 8) rfl (by kernel_rfl) (fun _ _ _ h => h) (by kernel_rfl) hHeld ?_
              simp only [Act.put, List.setIfInBounds_toArray, List.set_cons_zero, List.set_cons_succ]
              refine skip_at (i := 9) rfl (by kernel_rfl) (fun _ _ _ h => h) (by kernel_rfl) hHeld ?_
              simp only [Act.put, List.setIfInBounds_toArray, List.set_cons_zero, List.set_cons_succ]
              refine skip_at (i := 10) rfl (by kernel_rfl) (fun _ _ _ h => h) (by kernel_rfl) hHeld ?_
              simp only [Act.put, List.setIfInBounds_toArray, List.set_cons_zero, List.set_cons_succ]
              refine skip_at (i := 11) rfl (by kernel_rfl) (fun _ _ _ h => h) (by kernel_rfl) hHeld ?_
              simp only [Act.put, List.setIfInBounds_toArray, List.set_cons_zero, List.set_cons_succ]
              refine skip_at (i := 12) rfl (by kernel_rfl) (fun _ _ _ h => h) (by kernel_rfl) hHeld ?_
              simp only [Act.put, List.setIfInBounds_toArray, List.set_cons_zero, List.set_cons_succ]
              refine skip_at (i := 13) rfl (by kernel_rfl) (fun _ _ _ h => h) (by kernel_rfl) hHeld ?_
              simp only [Act.put, List.setIfInBounds_toArray, List.set_cons_zero, List.set_cons_succ]
              refine run_at (i := 14) (v := ?_) rfl (by kernel_rfl) (by rfl) (fun _ _ _ h => h) hHeld (fun w1 hw1 => ?_) ?_
              rotate_left 1
              · skip
                go_simp
                (try (first | with_reducible rfl | (apply And.intro <;> rfl)))
              simp only [Act.put, List.setIfInBounds_toArray, List.set_cons_zero, List.set_cons_succ]
              refine run_at (i := 15) (v := ?_) rfl (by kernel_rfl) (by rfl) (fun _ _ _ h => h) hHeld (fun w1 hw1 => ?_) ?_
              rotate_left 1
              · skip
                go_simp
                (try (first | with_reducible rfl | (apply And.intro <;> rfl)))
              simp only [Act.put, List.setIfInBounds_toArray, List.set_cons_zero, List.set_cons_succ]
              refine wpAnyH_done (by kernel_rfl) ?_ _
              have HF3 := Lib.hid (HF2.out.trans (hHeld.mono (T := [g6 + 1]) (by simp)) (fun x hx _ => hx))
              have HBW3 := Lib.hid (HBW2.out.keep hHeld (by simp))
              have HVR3 := Lib.hid (hHeld.range HVR2.out (by simp))
              clear hHeld
              go_wp2_with fail
              go_roundw
              case rel => exact ⟨q + 1, n, b, by omega, by go_num, rfl, HT3, HBW3, HF3⟩
              case measure => simp [intOf]; omega
        · have b2 : (v.r == r) = false := by simpa using h2
          have b2n : (v.r != r) = true := by simp [h2]
          have HT3 : Hid (rmost C k r (L.take (q + 1)) = (b, n)) := Lib.hid (by rw [HTK.out, HS.out]; unfold rstep; rw [if_neg (by simp [h2])])
          clear h1 h2
          go_wp2_with fail
          go_roundw
          case rel => exact ⟨q + 1, n, b, by omega, by go_num, rfl, HT3, HBW1, HF1⟩
          case measure => simp [intOf]; omega
      · have b1 : (v.k == k) = false := by simpa using h1
        have b1n : (v.k != k) = true := by simp [h1]
        have HT3 : Hid (rmost C k r (L.take (q + 1)) = (b, n)) := Lib.hid (by rw [HTK.out, HS.out]; unfold rstep; rw [if_neg (by simp [h1])])
        clear h1
        go_wp2_with fail
        go_roundw
        case rel => exact ⟨q + 1, n, b, by omega, by go_num, rfl, HT3, HBW1, HF1⟩
        case measure => simp [intOf]; omega
    · have hqe : q = N := by omega
      have hd : decide (q < N) = false := decide_eq_false hlt
      have HRS : Hid (res = (b, n)) := Lib.hid (by rw [← HRE.out, ← hqe, HS.out])
      have HB6W := Lib.hid (HB6.out.keep HF.out (by simp))
      have HHS8 : Hid ((Try.prog.info? 30).map (·.size) = some (b.map by8).toArray.size) := Lib.hid (by rw [List.size_toArray, List.length_map, HBB.out]; kernel_rfl)
      have HHZ8 : Hid (zeroH.size = (b.map by8).toArray.size) := Lib.hid (by rw [show zeroH.size = 32 from rfl, List.size_toArray, List.length_map, HBB.out])
      have HHA8 : Hid (((b.map by8).toArray.all (·.oneCell')) = true) := Lib.hid (all_oneCell_toArray (by8_one b))
      have hrs := HRS.out
      subst hrs
      go_wp2_with (first
        | (refine wpList_row rfl 30 _ rfl _ _ rfl _ HBW.out.range (row_hash.of (by rw [List.length_map]; exact HBB.out)) ?_)
        | (refine wpList_store_blk rfl 30 _ _ rfl g6 (b.map by8).toArray rfl rfl 30 zeroH HB6W.out HHS8.out HHZ8.out HHA8.out ?_; intro w9 hb9 hf9))
      refine bodyPost_ret (v := .tuple #[.agg (b.map by8).toArray, .int .i64 n]) (results_ct Try.results32 _ _ g6 30 _ _ _ (.int .i64 n) rfl rfl hb9 Try.underlying30 rfl HHS8.out) rfl ⟨rfl, ?_⟩
      exact HFW.out.trans hf9 (fun x hx hl => by have := HG6.out; simp at hx; omega)
end Go.Proofs.Ytfmkegblhpnfcaa

namespace Go.Proofs.Ytfmkegblhpnfcaa
set_option maxRecDepth 100000
open Go.RowKit
theorem tclone_b (w : World) (b : Nat) (es : Array MapEntry) (clock : Nat) (hb : w.heap[b]? = some (.map es clock)) :
    Calls Try.prog 33 #[.map (some b)] w fun e w' => e = .returned (.map (some w.heap.size)) ∧ w' = w.alloc (.map es clock) := by
  have hq := fun w => run_eql_map_nil_sl (P := Try.prog) w 55 _ _ (some b) Try.underlying55
  go_enter Try.func33, Try.ntmps33
  go_wp2
  rw [run_callFunc_extern (P := Try.prog) Try.func36 (by kernel_rfl) (by kernel_rfl) (by kernel_rfl) (e := Extern.MapsClone.clone) (by kernel_rfl), run_maps_clone_sl w 55 hb]
  simp only [Result.andThen]
  rw [Oper.upon_value]
  go_wp2
  rw [run_typeAssert_map_sl _ 55 20 _ _ _ Try.underlying55]
  simp only [Result.andThen]
  rw [Oper.upon_value]
  go_wp2
  go_ret
  exact ⟨rfl, rfl⟩
theorem tclone_p (w : World) (b : Nat) (es : Array MapEntry) (clock : Nat) (hb : w.heap[b]? = some (.map es clock)) :
    Calls Try.prog 34 #[.map (some b)] w fun e w' => e = .returned (.map (some w.heap.size)) ∧ w' = w.alloc (.map es clock) := by
  have hq := fun w => run_eql_map_nil_sl (P := Try.prog) w 56 _ _ (some b) Try.underlying56
  go_enter Try.func34, Try.ntmps34
  go_wp2
  rw [run_callFunc_extern (P := Try.prog) Try.func36 (by kernel_rfl) (by kernel_rfl) (by kernel_rfl) (e := Extern.MapsClone.clone) (by kernel_rfl), run_maps_clone_sl w 56 hb]
  simp only [Result.andThen]
  rw [Oper.upon_value]
  go_wp2
  rw [run_typeAssert_map_sl _ 56 20 _ _ _ Try.underlying56]
  simp only [Result.andThen]
  rw [Oper.upon_value]
  go_wp2
  go_ret
  exact ⟨rfl, rfl⟩

theorem tcells_one (n : Int) (bv bp : Nat) (T : List Tv) : ∀ u ∈ tcells n bv bp T, u.oneCell' = true := by
  intro u hu
  simp only [tcells, List.mem_append, List.mem_cons, List.mem_map] at hu
  rcases hu with (rfl | rfl | rfl | h) | ⟨p, _, rfl⟩ <;> first | rfl | cases h
def zTally : Array Value := (.int .i64 0 :: .map none :: .map none :: List.replicate 64 (.int .i64 0) : List Value).toArray
set_option maxHeartbeats 4000000 in
theorem tlclone_any (w : World) (S : List Nat) (g : Nat) (n : Int) (T : List Tv) (h : Tl w S g n T) :
    Calls Try.prog 19 #[.pointer (some ⟨g, 0, none⟩)] w fun e w' => ∃ S' g', e = .returned (.pointer (some ⟨g', 0, none⟩)) ∧ Tl w' S' g' n T ∧ Fr [] w w' ∧ ∀ y ∈ S', w.heap.size ≤ y := by
  obtain ⟨bv, bp, lv, lp, -, hne, c0, c1, c2, hb, hv, hp, hlv, hlp, hll, hlq⟩ := h.cell0
  obtain ⟨ev, kv, hev, hrv⟩ := hv.raw
  obtain ⟨ep, kp, hep, hrp⟩ := hp.raw
  have HEV := Lib.hid hev
  have HEP := Lib.hid hep
  have HRV := Lib.hid hrv
  have HRP := Lib.hid hrp
  have HLV := Lib.hid hlv
  have HLP := Lib.hid hlp
  have HLL := Lib.hid (show _ ∧ _ from ⟨hll, hlq⟩)
  have HC1 := Lib.hid c1
  have HC2 := Lib.hid c2
  have HGW : Hid (g < w.heap.size) := Lib.hid hb.lt
  have HRG : Hid (w.rangeAt g 0 (tcells n bv bp T)) := Lib.hid (Blk.range hb)
  have HHA : Hid (((tcells n bv bp T).toArray.all (·.oneCell')) = true) := Lib.hid (all_oneCell_toArray (tcells_one n bv bp T))
  have HLN : Hid ((tcells n bv bp T).length = 67) := Lib.hid (tcells_len n bv bp T)
  have HST : Hid (∀ x y, ((tcells n bv bp T).toArray.setIfInBounds 1 (.map (some x))).setIfInBounds 2 (.map (some y)) = (tcells n x y T).toArray) := Lib.hid (fun x y => by simp [tcells])
  obtain ⟨D, hD⟩ : ∃ D, D = tcells n bv bp T := ⟨_, rfl⟩
  rw [← hD] at HRG HHA HLN HST
  have HHS : Hid ((Try.prog.info? 59).map (·.size) = some D.toArray.size) := Lib.hid (by rw [List.size_toArray, HLN.out]; kernel_rfl)
  have HHZ : Hid (zTally.size = D.toArray.size) := Lib.hid (by rw [show zTally.size = 67 from rfl, List.size_toArray, HLN.out])
  clear h hb hv hp hlv hlp hll hlq hev hep hrv hrp c0 c1 c2 hD
  go_enter Try.func19, Try.ntmps19
  have hz : (zeroValue 59).run Try.prog w = .ok (.agg zTally) w := by kernel_rfl
  go_upto_region 2 with (first
    | (refine wpList_row rfl 59 _ rfl g 0 rfl _ HRG.out (row_tally.of HLN.out) ?_)
    | (refine wpList_store_blk rfl 59 _ _ rfl w.heap.size D.toArray rfl rfl 59 zTally (Blk.new w _ _) HHS.out HHZ.out HHA.out ?_; intro w1 hb1 hf1))
  have HFW : Hid (Fr [] w w1) := Lib.hid (((Fr.refl [] w).alloc _).and hf1 (by simp))
  have HB1 := Lib.hid hb1
  have HG1 : Hid (w.heap.size < w1.heap.size) := Lib.hid hb1.lt
  have c1 := HFW.out.cell HC1.out (by simp)
  have c2 := HFW.out.cell HC2.out (by simp)
  obtain ⟨gc, hgc⟩ : ∃ gc, gc = w.heap.size := ⟨_, rfl⟩
  have HGC := Lib.hid hgc
  rw [← hgc] at HB1 HG1 HGW ⊢
  clear hb1 hf1 hgc hz
  have HNS : Hid (¬ g ∈ [gc]) := Lib.hid (by have := HGW.out; simp; omega)
  refine wp_region_held_drew (S := Fr [gc] w1) (by kernel_rfl) (Fr.drew (Fr.refl _ w1)) (fun hHeld => ?_)
  have HFD : Hid (Fr [] w1 w1.drew) := Lib.hid (Fr.drew (Fr.refl _ w1))
  generalize w1.drew = wd at *
  refine run_at (i := 0) (v := ?_) rfl (by kernel_rfl) (by rfl) (fun _ _ _ h => h) hHeld (fun w1 hw1 => ?_) ?_
  rotate_left 1
  · skip
    go_simp
    (try (first | with_reducible rfl | (apply And.intro <;> rfl)))
  simp only [Act.put, List.setIfInBounds_toArray, List.set_cons_zero, List.set_cons_succ]
  refine run_at (i := 1) (v := ?_) rfl (by kernel_rfl) (by rfl) (fun _ _ _ h => h) hHeld (fun w1 hw1 => ?_) ?_
  rotate_left 1
  · skip
    go_simp
    (try (first | with_reducible rfl | (apply And.intro <;> rfl)))
  simp only [Act.put, List.setIfInBounds_toArray, List.set_cons_zero, List.set_cons_succ]
  refine run_at (i := 2) (v := ?_) rfl (by kernel_rfl) (by rfl) (fun _ _ _ h => h) hHeld (fun w1 hw1 => ?_) ?_
  rotate_left 1
  · skip
    go_simp
    (try (first | with_reducible rfl | (apply And.intro <;> rfl)))
  simp only [Act.put, List.setIfInBounds_toArray, List.set_cons_zero, List.set_cons_succ]
  refine run_at (i := 3) (v := ?_) rfl (by kernel_rfl) (by rfl) (fun _ _ _ h => h) hHeld (fun w1 hw1 => ?_) ?_
  rotate_left 1
  · skip
    have hcw0 := hw1.cell (c1) (by first | (simp; done) | exact HNS.out | exact HNW.out | (intro hm; have hlt := HSB.out _ hm; (try dsimp only at hlt); omega))
    go_simp
    (try (first | with_reducible rfl | (apply And.intro <;> rfl)))
  simp only [Act.put, List.setIfInBounds_toArray, List.set_cons_zero, List.set_cons_succ]
  refine run_at (i := 5) (v := ?_) rfl (by kernel_rfl) (by rfl) (fun _ _ _ h => h) hHeld (fun w1 hw1 => ?_) ?_
  rotate_left 1
  · skip
    go_simp
    (try (first | with_reducible rfl | (apply And.intro <;> rfl)))
  simp only [Act.put, List.setIfInBounds_toArray, List.set_cons_zero, List.set_cons_succ]
  refine run_at (i := 6) (v := ?_) rfl (by kernel_rfl) (by rfl) (fun _ _ _ h => h) hHeld (fun w1 hw1 => ?_) ?_
  rotate_left 1
  · skip
    go_simp
    (try (first | with_reducible rfl | (apply And.intro <;> rfl)))
  simp only [Act.put, List.setIfInBounds_toArray, List.set_cons_zero, List.set_cons_succ]
  refine run_at (i := 7) (v := ?_) rfl (by kernel_rfl) (by rfl) (fun _ _ _ h => h) hHeld (fun w1 hw1 => ?_) ?_
  rotate_left 1
  · skip
    go_simp
    (try (first | with_reducible rfl | (apply And.intro <;> rfl)))
  simp only [Act.put, List.setIfInBounds_toArray, List.set_cons_zero, List.set_cons_succ]
  refine run_at (i := 8) (v := ?_) rfl (by kernel_rfl) (by rfl) (fun _ _ _ h => h) hHeld (fun w1 hw1 => ?_) ?_
  rotate_left 1
  · skip
    have hcw0 := hw1.cell (c2) (by first | (simp; done) | exact HNS.out | exact HNW.out | (intro hm; have hlt := HSB.out _ hm; (try dsimp only at hlt); omega))
    go_simp
    (try (first | with_reducible rfl | (apply And.intro <;> rfl)))
  simp only [Act.put, List.setIfInBounds_toArray, List.set_cons_zero, List.set_cons_succ]
  refine call_at (i := 4) (f := ?_) (args := ?_) rfl (by kernel_rfl) (by rfl) ?_ ?_
  rotate_left 2
  · go_simp
    (try (first | with_reducible rfl | (apply And.intro <;> rfl)))
  refine (tclone_b wd bv ev kv ((HFW.out.and HFD.out (by simp)).heap HEV.out (by simp))).mono ?_
  rintro e w2 ⟨rfl, hw2⟩
  have HF2 : Hid (Fr [] wd w2) := Lib.hid (by rw [hw2]; exact (Fr.refl [] wd).alloc _)
  have HM2 : Hid (w2.heap[wd.heap.size]? = some (.map ev kv)) := Lib.hid (by rw [hw2]; exact (MapKept.heap_alloc wd _).1)
  have HL2 : Hid (wd.heap.size < w2.heap.size) := Lib.hid (by rw [hw2]; simp)
  refine ⟨_, rfl, hHeld.trans (HF2.out.mono (T := [gc]) (by simp)) (fun x hx _ => hx), fun hHeld => ?_⟩
  clear hw2
  simp only [Act.put, List.setIfInBounds_toArray, List.set_cons_zero, List.set_cons_succ]
  refine call_at (i := 9) (f := ?_) (args := ?_) rfl (by kernel_rfl) (by rfl) ?_ ?_
  rotate_left 2
  · go_simp
    (try (first | with_reducible rfl | (apply And.intro <;> rfl)))
  refine (tclone_p w2 bp ep kp (((HFW.out.and HFD.out (by simp)).and HF2.out (by simp)).heap HEP.out (by simp))).mono ?_
  rintro e w3 ⟨rfl, hw3⟩
  have HF3 : Hid (Fr [] w2 w3) := Lib.hid (by rw [hw3]; exact (Fr.refl [] w2).alloc _)
  have HM3 : Hid (w3.heap[w2.heap.size]? = some (.map ep kp)) := Lib.hid (by rw [hw3]; exact (MapKept.heap_alloc w2 _).1)
  have HB3 := Lib.hid (((HB1.out.keep HFD.out (by simp)).keep HF2.out (by simp)).keep HF3.out (by simp))
  have HM23 : Hid (w3.heap[wd.heap.size]? = some (.map ev kv)) := Lib.hid (HF3.out.heap HM2.out (by simp))
  have HGD : Hid (gc < wd.heap.size) := Lib.hid (by have := HFD.out.size; have := HG1.out; omega)
  refine ⟨_, rfl, hHeld.trans (HF3.out.mono (T := [gc]) (by simp)) (fun x hx _ => hx), fun hHeld => ?_⟩
  clear hw3
  obtain ⟨g1, hg1⟩ : ∃ g1, g1 = wd.heap.size := ⟨_, rfl⟩
  obtain ⟨g2, hg2⟩ : ∃ g2, g2 = w2.heap.size := ⟨_, rfl⟩
  have HS1 : Hid (wd.heap.size = g1) := Lib.hid hg1.symm
  rw [← hg1] at HM23 HGD HL2 ⊢
  rw [← hg2] at HM3 HL2 ⊢
  clear hg1 hg2
  simp only [Act.put, List.setIfInBounds_toArray, List.set_cons_zero, List.set_cons_succ]
  refine run_at (i := 10) (v := ?_) rfl (by kernel_rfl) (by rfl) (fun _ _ _ h => h) hHeld (fun w1 hw1 => ?_) ?_
  rotate_left 1
  · skip
    go_simp
    (try (first | with_reducible rfl | (apply And.intro <;> rfl)))
  simp only [Act.put, List.setIfInBounds_toArray, List.set_cons_zero, List.set_cons_succ]
  refine step_at (i := 11) rfl (by kernel_rfl) (by rfl) (fun K hK => ?_)
  refine wp_store_cell1 55 _ _ rfl gc 1 (.map (some g1)) rfl rfl rfl 59 _ HB3.out (by rw [List.size_toArray, HLN.out]; decide) (by kernel_rfl) ?_
  have HB4 := Lib.hid (HB3.out.set 1 (.map (some g1)))
  have HF4 : Hid (Fr [gc] w3 (w3.setCell ⟨gc, 1, none⟩ (.map (some g1)))) := Lib.hid ((Fr.refl [gc] w3).setCell _ (fun _ => by simp) _)
  refine hK.out _ _ (hHeld.trans HF4.out (fun x hx _ => hx)) (fun hHeld => ?_)
  clear hK K
  generalize w3.setCell ⟨gc, 1, none⟩ (.map (some g1)) = w4 at *
  simp only [Act.put, List.setIfInBounds_toArray, List.set_cons_zero, List.set_cons_succ]
  refine run_at (i := 12) (v := ?_) rfl (by kernel_rfl) (by rfl) (fun _ _ _ h => h) hHeld (fun w1 hw1 => ?_) ?_
  rotate_left 1
  · skip
    go_simp
    (try (first | with_reducible rfl | (apply And.intro <;> rfl)))
  simp only [Act.put, List.setIfInBounds_toArray, List.set_cons_zero, List.set_cons_succ]
  refine step_at (i := 13) rfl (by kernel_rfl) (by rfl) (fun K hK => ?_)
  refine wp_store_cell1 56 _ _ rfl gc 2 (.map (some g2)) rfl rfl rfl 59 _ HB4.out (by rw [Array.size_setIfInBounds, List.size_toArray, HLN.out]; decide) (by kernel_rfl) ?_
  have HB5 := Lib.hid (HB4.out.set 2 (.map (some g2)))
  have HF5 : Hid (Fr [gc] w4 (w4.setCell ⟨gc, 2, none⟩ (.map (some g2)))) := Lib.hid ((Fr.refl [gc] w4).setCell _ (fun _ => by simp) _)
  refine hK.out _ _ (hHeld.trans HF5.out (fun x hx _ => hx)) (fun hHeld => ?_)
  clear hK K
  generalize w4.setCell ⟨gc, 2, none⟩ (.map (some g2)) = w5 at *
  simp only [Act.put, List.setIfInBounds_toArray, List.set_cons_zero, List.set_cons_succ]
  refine wpAnyH_done (by kernel_rfl) ?_ _
  have HFF := Lib.hid hHeld
  clear hHeld c1 c2
  go_wp2
  go_ret
  have hn1 : ¬ g1 ∈ [gc] := by have := HGD.out; simp; omega
  have hn2 : ¬ g2 ∈ [gc] := by have := HGD.out; have := HL2.out; simp; omega
  refine ⟨[gc, g1, g2], gc, rfl, ⟨g1, g2, lv, lp, rfl, by have := HL2.out; omega, ?_, ((HRV.out _ _ HM23.out).keep HF4.out hn1).keep HF5.out hn1, ((HRP.out _ _ HM3.out).keep HF4.out hn2).keep HF5.out hn2, HLV.out, HLP.out, HLL.out⟩, HFW.out.trans HFF.out (fun x hx hl => by have := HGC.out; simp at hx; omega), fun y hy => ?_⟩
  · rw [← HST.out]
    exact HB5.out
  · have := HGD.out
    have := HL2.out
    have := HGC.out
    simp at hy
    omega
end Go.Proofs.Ytfmkegblhpnfcaa

namespace Go.Proofs.Ytfmkegblhpnfcaa
set_option maxRecDepth 100000
theorem last_ge {T : List Tv} {k r : Int} {p : Nat} (h : hasV T k r p = true) : r ≤ lastV T p := by
  induction T with
  | nil => simp [hasV] at h
  | cons v T ih =>
    unfold hasV at h ih
    rw [List.any_cons, Bool.or_eq_true] at h
    unfold lastV
    rcases h with h | h
    · have h := of_decide_eq_true h
      rw [if_pos h.2.2]
      have := h.2.1
      omega
    · have := ih h
      split <;> omega
theorem last_one {n : Int} {T : List Tv} (hT : Gd n T) {p : Nat} (h : lastV T p ≠ -1) : (p : Int) < n := by
  induction T with
  | nil => exact absurd rfl h
  | cons v T ih =>
    unfold lastV at h
    by_cases hp : v.p = p
    · have := hT.1.p
      omega
    · rw [if_neg hp] at h
      exact ih hT.2.2 h
theorem count_has {n : Int} {T : List Tv} (hT : Gd n T) (hn : n ≤ 64) (k r : Int) : (List.range 64).countP (hasV T k r) = cntA T k r := by
  induction T with
  | nil => simp [hasV, cntA]
  | cons v T ih =>
    rw [cntA_cons, ← ih hT.2.2]
    by_cases hc : v.k = k ∧ v.r = r
    · rw [if_pos hc]
      have hv : v.p < 64 := by have := hT.1.p; omega
      have hno : hasV T k r v.p = false := by
        have := hT.2.1
        rwa [hc.1, hc.2] at this
      have e : ∀ m, v.p < m → (List.range m).countP (hasV (v :: T) k r) = (List.range m).countP (hasV T k r) + 1 := by
        intro m
        induction m with
        | zero => intro h; omega
        | succ m ihm =>
          intro h
          rw [List.range_succ, List.countP_append, List.countP_append]
          by_cases hm : v.p < m
          · rw [ihm hm]
            have e2 : hasV (v :: T) k r m = hasV T k r m := by
              unfold hasV
              rw [List.any_cons]
              have : decide (v.k = k ∧ v.r = r ∧ v.p = m) = false := decide_eq_false (fun q => by have := q.2.2; omega)
              rw [this]
              rfl
            simp only [List.countP_cons, List.countP_nil, e2]
            omega
          · have hm2 : v.p = m := by omega
            have e1 : (List.range m).countP (hasV (v :: T) k r) = (List.range m).countP (hasV T k r) := by
              apply List.countP_congr
              intro i hi
              have hi' := List.mem_range.1 hi
              have e2 : hasV (v :: T) k r i = hasV T k r i := by
                unfold hasV
                rw [List.any_cons]
                have : decide (v.k = k ∧ v.r = r ∧ v.p = i) = false := decide_eq_false (fun q => by have := q.2.2; omega)
                rw [this]
                rfl
              rw [e2]
            have e3 : hasV (v :: T) k r m = true := by
              unfold hasV
              rw [List.any_cons]
              simp [hc, hm2]
            rw [e1]
            simp only [List.countP_cons, List.countP_nil, e3]
            rw [hm2] at hno
            simp [hno]
      exact e 64 hv
    · rw [if_neg hc, Nat.add_zero]
      apply List.countP_congr
      intro i _
      have e2 : hasV (v :: T) k r i = hasV T k r i := by
        unfold hasV
        rw [List.any_cons]
        have : decide (v.k = k ∧ v.r = r ∧ v.p = i) = false := decide_eq_false (fun q => hc ⟨q.1, q.2.1⟩)
        rw [this]
        rfl
      rw [e2]
theorem all_heard {n : Int} {T : List Tv} (hT : Gd n T) (hn : n ≤ 64) (k r : Int) (hr : 0 ≤ r) : cntA T k r ≤ heardV T r := by
  rw [← count_has hT hn]
  apply List.countP_mono_left
  intro p _ h
  have := last_ge h
  unfold heardP
  simp
  omega
theorem heard_mono (T : List Tv) (x y : Int) (h : x ≤ y) : heardV T y ≤ heardV T x := by
  apply List.countP_mono_left
  intro p _ h2
  unfold heardP at *
  simp at *
  exact ⟨h2.1, by omega⟩
theorem heard_le {n : Nat} {T : List Tv} (hT : Gd (n : Int) T) (hn : n ≤ 64) (x : Int) : heardV T x ≤ n := by
  refine Nat.le_trans (List.countP_mono_left (q := fun p => decide (p < n)) ?_) (Nat.le_of_eq (count_below 64 n hn))
  intro p _ h
  unfold heardP at h
  have h2 := (of_decide_eq_true h).1
  have := last_one hT h2
  simp
  omega
/-- votes for three hashes alone -/
def Three (T : List Tv) : Prop := ∀ v ∈ T, v.h = h1b 0 ∨ v.h = h1b 1 ∨ v.h = h1b 2
theorem h1b_ne : h1b 0 ≠ h1b 1 ∧ h1b 0 ≠ h1b 2 ∧ h1b 1 ≠ h1b 2 := by decide
theorem three_sum {T : List Tv} (h : Three T) (k r : Int) : cntH T k r (h1b 0) + cntH T k r (h1b 1) + cntH T k r (h1b 2) = cntA T k r := by
  induction T with
  | nil => rfl
  | cons v T ih =>
    have h1 := ih (fun x hx => h x (by simp [hx]))
    rw [cntH_cons, cntH_cons, cntH_cons, cntA_cons]
    obtain ⟨n1, n2, n3⟩ := h1b_ne
    by_cases hc : v.k = k ∧ v.r = r
    · rw [if_pos hc]
      rcases h v (by simp) with e | e | e
      · rw [if_pos ⟨hc.1, hc.2, e⟩, if_neg (fun q => n1 (e.symm.trans q.2.2)), if_neg (fun q => n2 (e.symm.trans q.2.2))]
        omega
      · rw [if_neg (fun q => n1 (q.2.2.symm.trans e)), if_pos ⟨hc.1, hc.2, e⟩, if_neg (fun q => n3 (e.symm.trans q.2.2))]
        omega
      · rw [if_neg (fun q => n2 (q.2.2.symm.trans e)), if_neg (fun q => n3 (q.2.2.symm.trans e)), if_pos ⟨hc.1, hc.2, e⟩]
        omega
    · rw [if_neg hc, if_neg (fun q => hc ⟨q.1, q.2.1⟩), if_neg (fun q => hc ⟨q.1, q.2.1⟩), if_neg (fun q => hc ⟨q.1, q.2.1⟩)]
      omega
theorem byte3 (b : UInt8) : h1b (b % 3) = h1b 0 ∨ h1b (b % 3) = h1b 1 ∨ h1b (b % 3) = h1b 2 := by
  have h : (b % 3).toNat < 3 := by rw [UInt8.toNat_mod]; exact Nat.mod_lt _ (by decide)
  have e : ∀ c : UInt8, c.toNat < 3 → c = 0 ∨ c = 1 ∨ c = 2 := fun c hc => by
    have : c.toNat = 0 ∨ c.toNat = 1 ∨ c.toNat = 2 := by omega
    rcases this with q | q | q
    · exact .inl (UInt8.toNat_inj.1 q)
    · exact .inr (.inl (UInt8.toNat_inj.1 q))
    · exact .inr (.inr (UInt8.toNat_inj.1 q))
  rcases e _ h with q | q | q <;> rw [q] <;> simp
theorem add_cnt {n : Int} {T : List Tv} (k r p : Int) (h : List UInt8) : cntA (addV n T k r p h) k r = cntA T k r + if mayV n T k r p = true then 1 else 0 := by
  unfold addV
  split
  · rw [cntA_cons]
    simp
  · simp
theorem add_twice {n : Int} {T : List Tv} (k r p : Int) (h : List UInt8) (hm : (k = 1 ∨ k = 2) ∧ 0 ≤ r ∧ r ≤ 1048576 ∧ 0 ≤ p ∧ p < n) : mayV n (addV n T k r p h) k r p = false := by
  unfold mayV
  have e : hasV (addV n T k r p h) k r p.toNat = true := by
    unfold addV
    split
    · unfold hasV
      rw [List.any_cons]
      simp
    · rename_i hn
      unfold mayV at hn
      rw [decide_eq_true hm] at hn
      simpa using hn
  rw [e]
  simp
theorem add_three3 {n : Int} {T : List Tv} (hT : Three T) (k r p : Int) (b : UInt8) : Three (addV n T k r p (h1b (b % 3))) := by
  unfold addV
  split
  · intro v hv
    rcases List.mem_cons.1 hv with rfl | hv
    · exact byte3 b
    · exact hT v hv
  · exact hT
end Go.Proofs.Ytfmkegblhpnfcaa

namespace Go.Proofs.Ytfmkegblhpnfcaa
set_option maxRecDepth 100000
theorem rmost_cons (c : List UInt8 → Nat) (k r : Int) (v : Tv) (T : List Tv) : rmost c k r (v :: T).reverse = rstep c k r (rmost c k r T.reverse) v := by
  unfold rmost
  rw [List.reverse_cons, List.foldl_append]
  rfl
theorem rmost_inv (c : List UInt8 → Nat) (k r : Int) (T : List Tv) (hl : ∀ v ∈ T, v.h.length = 32) (hc : ∀ v ∈ T, v.k = k → v.r = r → 0 < c v.h) :
    (∀ v ∈ T, v.k = k → v.r = r → c v.h ≤ (rmost c k r T.reverse).2 ∧ (c v.h = (rmost c k r T.reverse).2 → v.h = (rmost c k r T.reverse).1 ∨ lessB (rmost c k r T.reverse).1 v.h = true)) ∧
      (((rmost c k r T.reverse) = (zh32, 0) ∧ ∀ v ∈ T, ¬ (v.k = k ∧ v.r = r)) ∨ ((rmost c k r T.reverse).2 = c (rmost c k r T.reverse).1 ∧ 0 < (rmost c k r T.reverse).2)) := by
  induction T with
  | nil => exact ⟨fun v hv => by simp at hv, .inl ⟨rfl, fun v hv => by simp at hv⟩⟩
  | cons v T ih =>
    obtain ⟨i1, i2⟩ := ih (fun u hu => hl u (by simp [hu])) (fun u hu => hc u (by simp [hu]))
    have hs : (rmost c k r T.reverse).1.length = 32 := rmost_len c k r _ (fun u hu => hl u (by simp at hu; simp [hu]))
    rw [rmost_cons]
    generalize rmost c k r T.reverse = s at *
    by_cases hk : v.k = k ∧ v.r = r
    · have hp := hc v (by simp) hk.1 hk.2
      by_cases hb : s.2 < c v.h ∨ (c v.h = s.2 ∧ lessB v.h s.1 = true)
      · have e : rstep c k r s v = (v.h, c v.h) := by unfold rstep; rw [if_pos hk, if_pos hb]
        rw [e]
        refine ⟨fun u hu h1 h2 => ?_, .inr ⟨rfl, hp⟩⟩
        rcases List.mem_cons.1 hu with rfl | hu
        · exact ⟨Nat.le_refl _, fun _ => .inl rfl⟩
        · obtain ⟨j1, j2⟩ := i1 u hu h1 h2
          rcases hb with hb | ⟨hb, hb2⟩
          · exact ⟨by show c u.h ≤ c v.h; omega, fun hq => by have hq' : c u.h = c v.h := hq; omega⟩
          · refine ⟨by show c u.h ≤ c v.h; omega, fun hq => ?_⟩
            have hq' : c u.h = c v.h := hq
            rcases j2 (by omega) with h | h
            · right; show lessB v.h u.h = true; rw [h]; exact hb2
            · right; exact Ord.lessB_trans hb2 h
      · have e : rstep c k r s v = s := by unfold rstep; rw [if_pos hk, if_neg hb]
        rw [e]
        have hle : c v.h ≤ s.2 := Nat.le_of_not_lt (fun h => hb (.inl h))
        refine ⟨fun u hu h1 h2 => ?_, ?_⟩
        · rcases List.mem_cons.1 hu with rfl | hu
          · refine ⟨hle, fun hq => ?_⟩
            by_cases hq2 : u.h = s.1
            · exact .inl hq2
            · rcases less_tot (by rw [hs, hl u (by simp)]) hq2 with h | h
              · exact absurd (.inr ⟨hq, h⟩) hb
              · exact .inr h
          · exact i1 u hu h1 h2
        · rcases i2 with ⟨i2, _⟩ | i2
          · rw [i2] at hle
            have : c v.h ≤ 0 := hle
            omega
          · exact .inr i2
    · have e : rstep c k r s v = s := by unfold rstep; rw [if_neg hk]
      rw [e]
      refine ⟨fun u hu h1 h2 => ?_, ?_⟩
      · rcases List.mem_cons.1 hu with rfl | hu
        · exact absurd ⟨h1, h2⟩ hk
        · exact i1 u hu h1 h2
      · rcases i2 with ⟨i2, i3⟩ | i2
        · refine .inl ⟨i2, fun u hu => ?_⟩
          rcases List.mem_cons.1 hu with rfl | hu
          · exact hk
          · exact i3 u hu
        · exact .inr i2
theorem rmost_most {n : Int} {T : List Tv} (hT : Gd n T) (k r : Int) : rmost (cntH T k r) k r T.reverse = (mstV T k r, cntH T k r (mstV T k r)) := by
  have hpos : ∀ v ∈ T, v.k = k → v.r = r → 0 < cntH T k r v.h := fun v hv h1 h2 => by
    unfold cntH
    exact List.countP_pos_iff.2 ⟨v, hv, by simp [h1, h2]⟩
  obtain ⟨i1, i2⟩ := rmost_inv (cntH T k r) k r T (fun v hv => (hT.mem v hv).h) hpos
  generalize rmost (cntH T k r) k r T.reverse = s at *
  have hb := mst_best hT k r
  have hmem : ∀ x, 0 < cntH T k r x → ∃ v ∈ T, v.k = k ∧ v.r = r ∧ v.h = x := fun x hx => by
    unfold cntH at hx
    obtain ⟨v, hv, h⟩ := List.countP_pos_iff.1 hx
    exact ⟨v, hv, of_decide_eq_true h⟩
  rcases i2 with ⟨i2, i3⟩ | ⟨i2, i3⟩
  · have ha : cntA T k r = 0 := by
      unfold cntA
      rw [List.countP_eq_zero]
      intro v hv
      have := i3 v hv
      simpa using this
    have hm : mstV T k r = zh32 := mst_zero ha
    have hz : cntH T k r zh32 = 0 := by
      rcases Nat.eq_zero_or_pos (cntH T k r zh32) with h | h
      · exact h
      · obtain ⟨v, hv, h1, h2, _⟩ := hmem _ h
        exact absurd ⟨h1, h2⟩ (i3 v hv)
    rw [hm, hz, i2]
  · have hbs : Best (cntH T k r) s.1 := by
      refine ⟨fun x => ?_, fun _ x hx => ?_⟩
      · rcases Nat.eq_zero_or_pos (cntH T k r x) with h | h
        · omega
        · obtain ⟨v, hv, h1, h2, rfl⟩ := hmem _ h
          have := (i1 v hv h1 h2).1
          omega
      · obtain ⟨v, hv, h1, h2, rfl⟩ := hmem x (by omega)
        exact (i1 v hv h1 h2).2 (by omega)
    have he := best_one hbs hb (by omega)
    rw [← he, ← i2]
theorem last_m {T : List Tv} (p : Nat) : -1 ≤ lastV T p := by
  induction T with
  | nil => simp [lastV]
  | cons v T ih => unfold lastV; split <;> omega
theorem heard_iff {T : List Tv} (h0 : ∀ v ∈ T, 0 ≤ v.r) (x : Int) (p : Nat) : heardP T x p = true ↔ ∃ v ∈ T, v.p = p ∧ x ≤ v.r := by
  unfold heardP
  rw [decide_eq_true_iff]
  induction T with
  | nil => simp [lastV]
  | cons v T ih =>
    have ih := ih (fun u hu => h0 u (by simp [hu]))
    have hv := h0 v (by simp)
    have hm := last_m (T := T) p
    rw [show lastV (v :: T) p = if v.p = p then max (lastV T p) v.r else lastV T p from rfl]
    by_cases hp : v.p = p
    · rw [if_pos hp]
      constructor
      · rintro ⟨h1, h2⟩
        by_cases hx : x ≤ v.r
        · exact ⟨v, by simp, hp, hx⟩
        · obtain ⟨u, hu, h3⟩ := ih.1 ⟨by omega, by omega⟩
          exact ⟨u, by simp [hu], h3⟩
      · rintro ⟨u, hu, h3, h4⟩
        rcases List.mem_cons.1 hu with rfl | hu
        · exact ⟨by omega, by omega⟩
        · have := ih.2 ⟨u, hu, h3, h4⟩
          exact ⟨by omega, by omega⟩
    · rw [if_neg hp, ih]
      constructor
      · rintro ⟨u, hu, h3⟩
        exact ⟨u, by simp [hu], h3⟩
      · rintro ⟨u, hu, h3, h4⟩
        rcases List.mem_cons.1 hu with rfl | hu
        · exact absurd h3 hp
        · exact ⟨u, hu, h3, h4⟩
theorem hrd_cons (x : Int) (v : Tv) (T : List Tv) : hrdL x (v :: T).reverse = stepH x (hrdL x T.reverse) v := by
  unfold hrdL
  rw [List.reverse_cons, List.foldl_append]
  rfl
theorem hrd_mem (x : Int) (T : List Tv) (p : Nat) : p ∈ hrdL x T.reverse ↔ ∃ v ∈ T, v.p = p ∧ x ≤ v.r := by
  induction T with
  | nil => simp [hrdL]
  | cons v T ih =>
    rw [hrd_cons]
    unfold stepH
    by_cases hc : x ≤ v.r ∧ ¬ v.p ∈ hrdL x T.reverse
    · rw [if_pos hc, List.mem_append, ih]
      simp only [List.mem_cons, List.not_mem_nil, or_false]
      constructor
      · rintro (⟨u, hu, h⟩ | rfl)
        · exact ⟨u, .inr hu, h⟩
        · exact ⟨v, .inl rfl, rfl, hc.1⟩
      · rintro ⟨u, rfl | hu, h⟩
        · exact .inr h.1.symm
        · exact .inl ⟨u, hu, h⟩
    · rw [if_neg hc, ih]
      constructor
      · rintro ⟨u, hu, h⟩
        exact ⟨u, by simp [hu], h⟩
      · rintro ⟨u, hu, h⟩
        rcases List.mem_cons.1 hu with rfl | hu
        · have : u.p ∈ hrdL x T.reverse := Classical.byContradiction fun hn => hc ⟨h.2, hn⟩
          rw [h.1] at this
          exact ih.1 this
        · exact ⟨u, hu, h⟩
theorem hrd_nodup (x : Int) (T : List Tv) : (hrdL x T.reverse).Nodup := by
  induction T with
  | nil => simp [hrdL]
  | cons v T ih =>
    rw [hrd_cons]
    unfold stepH
    by_cases hc : x ≤ v.r ∧ ¬ v.p ∈ hrdL x T.reverse
    · rw [if_pos hc, List.nodup_append]
      exact ⟨ih, by simp, fun a ha b hb => by simp at hb; subst hb; exact fun e => hc.2 (e ▸ ha)⟩
    · rw [if_neg hc]
      exact ih
theorem count_eqN (n a : Nat) : (List.range n).countP (fun p => decide (p = a)) = if a < n then 1 else 0 := by
  induction n with
  | zero => simp
  | succ n ih =>
    rw [List.range_succ, List.countP_append, ih]
    by_cases h : a < n
    · rw [if_pos h, if_pos (by omega)]
      have : ¬ n = a := by omega
      simp [this]
    · rw [if_neg h]
      by_cases h2 : n = a
      · rw [if_pos (by omega)]; simp [h2]
      · rw [if_neg (by omega)]; simp [h2]
theorem count_mem (n : Nat) (l : List Nat) (hn : l.Nodup) (hl : ∀ a ∈ l, a < n) : (List.range n).countP (fun p => decide (p ∈ l)) = l.length := by
  induction l with
  | nil => simp
  | cons a l ih =>
    obtain ⟨h1, h2⟩ := List.nodup_cons.1 hn
    have ih := ih h2 (fun b hb => hl b (by simp [hb]))
    have ha := count_eqN n a
    rw [if_pos (hl a (by simp))] at ha
    have key : ∀ L : List Nat, L.countP (fun p => decide (p ∈ a :: l)) = L.countP (fun p => decide (p = a)) + L.countP (fun p => decide (p ∈ l)) := by
      intro L
      induction L with
      | nil => simp
      | cons b L ihL =>
        rw [List.countP_cons, List.countP_cons, List.countP_cons, ihL]
        by_cases hb : b = a
        · subst hb
          simp [h1]
          omega
        · simp [hb]
          omega
    rw [key, ha, ih, List.length_cons]
    omega
theorem hrd_heard {n : Int} {T : List Tv} (hT : Gd n T) (hn : n ≤ 64) (x : Int) : (hrdL x T.reverse).length = heardV T x := by
  have h0 : ∀ v ∈ T, 0 ≤ v.r := fun v hv => (hT.mem v hv).r.1
  rw [← count_mem 64 (hrdL x T.reverse) (hrd_nodup x T) (fun a ha => by
    obtain ⟨v, hv, rfl, _⟩ := (hrd_mem x T a).1 ha
    have := (hT.mem v hv).p
    omega)]
  unfold heardV
  congr 1
  funext p
  rw [Bool.eq_iff_iff, decide_eq_true_iff, hrd_mem, heard_iff h0]
end Go.Proofs.Ytfmkegblhpnfcaa

namespace Go.Proofs.Ytfmkegblhpnfcaa
set_option maxRecDepth 100000
open Go.RowKit
structure V3 where
  k : Int
  r : Int
  p : Int
  h : List UInt8
  s : Bool
def V3.cells (v : V3) : List Value := .int .i64 v.k :: .int .i64 v.r :: .int .i64 v.p :: (v.h.map by8 ++ [.bool v.s])
structure V3.Ok (v : V3) : Prop where
  k : i64In v.k
  r : i64In v.r
  p : i64In v.p
  h : v.h.length = 32
theorem V3.len {v : V3} (h : v.Ok) : v.cells.length = 36 := by simp [V3.cells, h.h]
def V3L (w : World) (A : Option Addr) (n : Nat) (l : List V3) : Prop := Lst 36 V3.cells (fun _ v => v.Ok) w A n l
theorem i64In_w {z : Int} (h : (Lit.int .i64 z).wf = true) : i64In z := i64_of h
theorem cut3 {α : Type} (l : List α) (o n k : Nat) (hk : o + n = k) : l.drop o = (l.drop o).take n ++ l.drop k := by
  rw [← hk, ← List.drop_drop]
  exact (List.take_append_drop n (l.drop o)).symm
theorem v3_of_trod {H : Type} {enc : TypeId × Value → H} {W : World} {sp : Nat → Bool} {held : Bool} {fuel : Nat} {cs : List Value} {x0 : DataW H × List MemPlace} (h : DataW.trod enc Try.prog W 0 sp held fuel 32 cs = some x0) :
    ∃ x : V3, x.Ok ∧ cs = x.cells := by
  obtain ⟨xs, m, _, _, hlen, hxl, hat⟩ := DataW.trod_struct Try.underlying32 h
  rw [show Try.prog.cellsOf 32 = 36 by kernel_rfl] at hlen
  have hx : ∀ i (hi : i < 5), xs[i]? = some (xs[i]'(by rw [hxl]; exact hi)) := fun i hi => List.getElem?_eq_getElem _
  have f0 : DataW.trod enc Try.prog W 0 sp held m 3 ((cs.drop 0).take (Try.prog.cellsOf 3)) = _ := (hat 0 _ rfl).trans (hx 0 (by omega))
  rw [show Try.prog.cellsOf 3 = 1 by kernel_rfl] at f0
  obtain ⟨a0, e0, _, w0⟩ := DataW.trod_int Try.underlying3 f0
  have f1 : DataW.trod enc Try.prog W 0 sp held m 3 ((cs.drop 1).take (Try.prog.cellsOf 3)) = _ := (hat 1 _ rfl).trans (hx 1 (by omega))
  rw [show Try.prog.cellsOf 3 = 1 by kernel_rfl] at f1
  obtain ⟨a1, e1, _, w1⟩ := DataW.trod_int Try.underlying3 f1
  have f2 : DataW.trod enc Try.prog W 0 sp held m 3 ((cs.drop 2).take (Try.prog.cellsOf 3)) = _ := (hat 2 _ rfl).trans (hx 2 (by omega))
  rw [show Try.prog.cellsOf 3 = 1 by kernel_rfl] at f2
  obtain ⟨a2, e2, _, w2⟩ := DataW.trod_int Try.underlying3 f2
  have f3 : DataW.trod enc Try.prog W 0 sp held m 30 ((cs.drop 3).take (Try.prog.cellsOf 30)) = _ := (hat 3 _ rfl).trans (hx 3 (by omega))
  rw [show Try.prog.cellsOf 30 = 32 by kernel_rfl] at f3
  obtain ⟨hh, w3, e3⟩ := hash_of_trod f3
  have f4 : DataW.trod enc Try.prog W 0 sp held m 4 ((cs.drop 35).take (Try.prog.cellsOf 4)) = _ := (hat 4 _ rfl).trans (hx 4 (by omega))
  rw [show Try.prog.cellsOf 4 = 1 by kernel_rfl] at f4
  obtain ⟨bb, e4, _⟩ := DataW.trod_bool Try.underlying4 f4
  refine ⟨⟨a0, a1, a2, hh, bb⟩, ⟨i64In_w w0, i64In_w w1, i64In_w w2, w3⟩, ?_⟩
  have z : cs.drop 36 = [] := List.drop_eq_nil_of_le (by omega)
  have s0 : cs = cs.drop 0 := rfl
  rw [s0, cut3 cs 0 1 1 rfl, e0, cut3 cs 1 1 2 rfl, e1, cut3 cs 2 1 3 rfl, e2, cut3 cs 3 32 35 rfl, e3, cut3 cs 35 1 36 rfl, e4, z]
  simp [V3.cells]
theorem v3l_of_trod {H : Type} {enc : TypeId × Value → H} {w : World} {spare : Nat → Bool} {held : Bool} {fuel : Nat} {A : Option Addr} {len cap : Nat} {x : DataW H × List MemPlace} (h : DataW.trod enc Try.prog w 0 spare held fuel 22 [.slice A len cap] = some x) :
    ∃ l, V3L w A len l ∧ len ≤ cap ∧ cap ≤ maxLen := by
  haveI : Inhabited V3 := ⟨⟨0, 0, 0, [], false⟩⟩
  exact lst_of_trod (ok := fun _ v => V3.Ok v) (cells := V3.cells) (k := 36) Try.underlying22 (by kernel_rfl) (fun _ _ _ h => v3_of_trod h) h
/-- replica σ i votes for g (σ i), one behind the other -/
def permV (q r : Int) (g : Nat → List UInt8) (σ : Nat → Nat) : Nat → List Tv
  | 0 => []
  | k + 1 => ⟨q, r, σ k, g (σ k)⟩ :: permV q r g σ k
theorem permV_has (q r : Int) (g : Nat → List UInt8) (σ : Nat → Nat) (k p : Nat) (h : ∀ i, i < k → σ i ≠ p) : hasV (permV q r g σ k) q r p = false := by
  induction k with
  | zero => rfl
  | succ k ih =>
    unfold permV hasV
    rw [List.any_cons]
    have h1 := ih (fun i hi => h i (by omega))
    unfold hasV at h1
    rw [h1]
    simp [h k (by omega)]
theorem permV_gd {n q r : Int} (hq : q = 1 ∨ q = 2) (hr : 0 ≤ r ∧ r ≤ 1048576) (g : Nat → List UInt8) (σ : Nat → Nat) (hg : ∀ i, (g i).length = 32) (k : Nat) (hσ : ∀ i, i < k → (σ i : Int) < n) (hi : ∀ i j, i < j → j < k → σ i ≠ σ j) : Gd n (permV q r g σ k) := by
  induction k with
  | zero => trivial
  | succ k ih => exact ⟨⟨hq, hr, hσ k (by omega), hg _⟩, permV_has q r g σ k _ (fun i hik => hi i k hik (by omega)), ih (fun i h => hσ i (by omega)) (fun i j h1 h2 => hi i j h1 (by omega))⟩
theorem permV_len (q r : Int) (g : Nat → List UInt8) (σ : Nat → Nat) (k : Nat) : (permV q r g σ k).length = k := by
  induction k with
  | zero => rfl
  | succ k ih => simp [permV, ih]
theorem permV_add {n q r : Int} (hq : q = 1 ∨ q = 2) (hr : 0 ≤ r ∧ r ≤ 1048576) (g : Nat → List UInt8) (σ : Nat → Nat) (k : Nat) (hk : (σ k : Int) < n) (hi : ∀ i, i < k → σ i ≠ σ k) : addV n (permV q r g σ k) q r (σ k : Int) (g (σ k)) = permV q r g σ (k + 1) := by
  have hm : mayV n (permV q r g σ k) q r (σ k : Int) = true := by
    unfold mayV
    rw [show ((σ k : Int)).toNat = σ k by simp, permV_has q r g σ k _ hi]
    rw [show decide ((q = 1 ∨ q = 2) ∧ 0 ≤ r ∧ r ≤ 1048576 ∧ 0 ≤ (σ k : Int) ∧ (σ k : Int) < n) = true from decide_eq_true ⟨hq, hr.1, hr.2, by omega, hk⟩]
    rfl
  unfold addV
  rw [hm]
  simp [permV]
theorem permV_for (q r : Int) (g : Nat → List UInt8) (σ : Nat → Nat) (k : Nat) (x : List UInt8) : cntH (permV q r g σ k) q r x = (List.range k).countP fun i => decide (g (σ i) = x) := by
  induction k with
  | zero => rfl
  | succ k ih =>
    unfold permV
    rw [cntH_cons, ih, List.range_succ, List.countP_append]
    simp
theorem count_turn (p : Nat → Bool) (n L : Nat) (hL : L < n) : (List.range n).countP (fun i => p ((i + L) % n)) = (List.range n).countP p := by
  have h1 : List.range n = List.range (n - L) ++ (List.range L).map ((n - L) + ·) := by
    rw [← List.range_add]
    congr 1
    omega
  have h2 : List.range n = List.range L ++ (List.range (n - L)).map (L + ·) := by
    rw [← List.range_add]
    congr 1
    omega
  have e1 : (List.range n).countP (fun i => p ((i + L) % n)) = (List.range (n - L)).countP (fun i => p (L + i)) + (List.range L).countP p := by
    rw [h1, List.countP_append, List.countP_map]
    congr 1
    · apply List.countP_congr
      intro i hi
      have hi' := List.mem_range.1 hi
      rw [Nat.mod_eq_of_lt (by omega), Nat.add_comm]
    · apply List.countP_congr
      intro i hi
      have hi' := List.mem_range.1 hi
      simp only [Function.comp]
      rw [show n - L + i + L = i + n by omega, Nat.add_mod_right, Nat.mod_eq_of_lt (by omega)]
  have e2 : (List.range n).countP p = (List.range L).countP p + (List.range (n - L)).countP (fun i => p (L + i)) := by
    conv => lhs; rw [h2]
    rw [List.countP_append, List.countP_map]
    rfl
  rw [e1, e2]
  omega
theorem turn_inj (n L : Nat) (hL : L < n) : ∀ i j, i < j → j < n → (i + L) % n ≠ (j + L) % n := by
  intro i j h1 h2 h
  have e : ∀ q, q < n → (q + L) % n = if q + L < n then q + L else q + L - n := fun q hq => by
    split
    · exact Nat.mod_eq_of_lt (by assumption)
    · rw [Nat.mod_eq_sub_mod (by omega), Nat.mod_eq_of_lt (by omega)]
  rw [e i (by omega), e j h2] at h
  split at h <;> split at h <;> omega
end Go.Proofs.Ytfmkegblhpnfcaa

namespace Go.Proofs.Ytfmkegblhpnfcaa
set_option maxRecDepth 100000
open Go.RowKit
theorem Blk.mid {g : Nat} {t : TypeId} : ∀ (V M P Z : List Value) (w : World), V.length = M.length → Blk w g t (P ++ (M ++ Z)).toArray → Blk (w.setCells g P.length V) g t (P ++ (V ++ Z)).toArray
  | [], M, P, Z, w, h, hb => by
    have : M = [] := List.eq_nil_of_length_eq_zero (by simpa using h.symm)
    subst this
    exact hb
  | v :: V, [], P, Z, w, h, hb => by simp at h
  | v :: V, m :: M, P, Z, w, h, hb => by
    have h1 := hb.set P.length v
    rw [List.setIfInBounds_toArray, List.set_append_right _ _ (Nat.le_refl _), Nat.sub_self] at h1
    have h2 := Blk.mid V M (P ++ [v]) Z (w.setCell ⟨g, P.length, none⟩ v) (by simpa using h) (by simpa using h1)
    have e : (P ++ [v]).length = P.length + 1 := by simp
    rw [e] at h2
    simpa [World.setCells] using h2
theorem Blk.mid_at {g : Nat} {t : TypeId} {w : World} (V M P Z : List Value) (o : Nat) (ho : P.length = o) (h : V.length = M.length) (cs cs' : List Value) (hc : cs = P ++ (M ++ Z)) (hc' : cs' = P ++ (V ++ Z)) (hb : Blk w g t cs.toArray) : Blk (w.setCells g o V) g t cs'.toArray := by
  subst ho
  subst hc
  subst hc'
  exact Blk.mid V M P Z w h hb
theorem Fr.setCells {S : List Nat} {a : World} {g : Nat} (hg : g < a.heap.size → g ∈ S) : ∀ (V : List Value) (o : Nat) (w : World), Fr S a w → Fr S a (w.setCells g o V)
  | [], _, _, h => h
  | v :: V, o, w, h => Fr.setCells hg V (o + 1) _ (h.setCell ⟨g, o, none⟩ hg v)
theorem rem3u (b : UInt8) : ((b.toNat : Nat) : Int).tmod 3 = (((b % 3 : UInt8).toNat : Nat) : Int) := by
  have h : ∀ n : Fin 256, ((n.val : Nat) : Int).tmod 3 = ((n.val % 3 : Nat) : Int) := by decide +kernel
  have h2 := h ⟨b.toNat, b.toNat_lt⟩
  simp only at h2
  rw [h2, UInt8.toNat_mod]
  rfl
/-- a vote as it is counted -/
def cutV (v : V3) : V3 := if v.s = true then ⟨1 + v.k % 2, v.r % 3, v.p % 7, h1b (v.h.headD 0 % 3), v.s⟩ else v
theorem cutV_ok {v : V3} (h : v.Ok) : (cutV v).Ok := by
  unfold cutV
  split
  · exact ⟨⟨by simp only; omega, by simp only; omega⟩, ⟨by simp only; omega, by simp only; omega⟩, ⟨by simp only; omega, by simp only; omega⟩, h1b_len _⟩
  · exact h
def zV3 : V3 := ⟨0, 0, 0, zh32, false⟩
theorem row_v3 : RowTy Try.prog 32 36 := ⟨by kernel_rfl, by kernel_rfl⟩
theorem V3.one (v : V3) : (v.cells.toArray.all (·.oneCell')) = true := all_oneCell_toArray (by
  intro u hu
  simp only [V3.cells, List.mem_cons, List.mem_append, List.not_mem_nil, or_false] at hu
  rcases hu with rfl | rfl | rfl | hu | rfl
  · rfl
  · rfl
  · rfl
  · exact by8_one _ u hu
  · rfl)
theorem v3_size {v : V3} (h : v.Ok) : (Try.prog.info? 32).map (·.size) = some v.cells.toArray.size := by rw [List.size_toArray, V3.len h]; kernel_rfl
theorem V3.at35 {v : V3} (h : v.Ok) : v.cells[35]? = some (.bool v.s) := by
  have e : v.cells = (.int .i64 v.k :: .int .i64 v.r :: .int .i64 v.p :: v.h.map by8) ++ [.bool v.s] := by simp [V3.cells]
  rw [e, List.getElem?_append_right (by simp [h.h])]
  simp [h.h]
set_option maxHeartbeats 2000000 in
theorem vcut_any (v : V3) (hv : v.Ok) (w : World) : Calls Try.prog 8 #[.agg v.cells.toArray] w fun e w' => e = .returned (.agg (cutV v).cells.toArray) ∧ Fr [] w w' := by
  obtain ⟨wa, hwa⟩ : ∃ wa, wa = (w.alloc (Obj.cells v.cells.toArray 32)).alloc (Obj.cells zV3.cells.toArray 32) := ⟨_, rfl⟩
  have hf0 : Fr [] w wa := by rw [hwa]; exact ((Fr.refl [] w).alloc _).alloc _
  have hb1 : Blk wa w.heap.size 32 v.cells.toArray := by rw [hwa]; exact blk_alloc (Blk.new _ _ _)
  have hb2 : Blk wa (w.heap.size + 1) 32 zV3.cells.toArray := by
    have := Blk.new (w.alloc (Obj.cells v.cells.toArray 32)) 32 zV3.cells.toArray
    rw [hwa]
    simpa using this
  obtain ⟨b, hs, hbh⟩ : ∃ b hs, v.h = b :: hs := by
    cases hh : v.h with
    | nil => have := hv.h; rw [hh] at this; cases this
    | cons b hs => exact ⟨b, hs, rfl⟩
  obtain ⟨gb, hgb⟩ : ∃ gb, gb = w.heap.size := ⟨_, rfl⟩
  obtain ⟨gr, hgr⟩ : ∃ gr, gr = w.heap.size + 1 := ⟨_, rfl⟩
  rw [← hgb] at hb1
  rw [← hgr] at hb2
  have c0 : wa.cell? ⟨gb, 0, none⟩ = some (.int .i64 v.k) := (hb1.cell 0).trans rfl
  have c1 : wa.cell? ⟨gb, 1, none⟩ = some (.int .i64 v.r) := (hb1.cell 1).trans rfl
  have c2 : wa.cell? ⟨gb, 2, none⟩ = some (.int .i64 v.p) := (hb1.cell 2).trans rfl
  have c3 : wa.cell? ⟨gb, 3, none⟩ = some (.int .u8 (b.toNat : Int)) := by
    rw [hb1.cell 3, List.getElem?_toArray]
    simp [V3.cells, hbh]
    rfl
  have c35 : wa.cell? ⟨gb, 35, none⟩ = some (.bool v.s) := by
    rw [hb1.cell 35, List.getElem?_toArray]
    exact V3.at35 hv
  have HB1 := Lib.hid hb1
  have HB2 := Lib.hid hb2
  have HF0 := Lib.hid hf0
  have HV := Lib.hid hv
  have HLT : Hid (w.heap.size ≤ gb ∧ w.heap.size ≤ gr ∧ gb ≠ gr) := Lib.hid (by omega)
  have HRZ : Hid (RowTy Try.prog 32 v.cells.length) := Lib.hid (row_v3.of (V3.len hv))
  have HBH := Lib.hid hbh
  have HWA := Lib.hid hwa
  clear hf0 hb1 hb2 hv hbh hwa
  go_enter Try.func8, Try.ntmps8
  go_upto_region 1 with (fail)
  change Code.wp _ _ _ _ ((w.alloc (Obj.cells v.cells.toArray 32)).alloc (Obj.cells zV3.cells.toArray 32))
  rw [← HWA.out, ← hgr, ← hgb]
  clear hgr hgb
  cases hvs : v.s with
  | false =>
    rw [hvs] at c35
    have HSZ := Lib.hid (v3_size HV.out)
    have HSE : Hid (zV3.cells.toArray.size = v.cells.toArray.size) := Lib.hid (by rw [List.size_toArray, List.size_toArray, V3.len HV.out]; rfl)
    have HAL := Lib.hid v.one
    have HR : Hid (wa.rangeAt gb 0 v.cells) := Lib.hid HB1.out.range
    have HE : Hid (cutV v = v) := Lib.hid (by unfold cutV; rw [if_neg (by rw [hvs]; simp)])
    generalize hC : v.cells = C at *
    have HC := Lib.hid hC
    clear hC
    go_wp2_with (first
      | (refine wpList_row rfl 32 _ rfl gb 0 rfl C HR.out HRZ.out ?_)
      | (refine wpList_store_blk rfl 32 _ _ rfl gr C.toArray rfl rfl 32 _ HB2.out HSZ.out HSE.out HAL.out ?_; intro w3 hb3 hf3))
    exact bodyPost_ret (v := .agg C.toArray) (results_cell_row Try.results8 _ _ gr 32 C.toArray _ _ rfl hb3 Try.underlying32 rfl HSZ.out) rfl ⟨by rw [HE.out, HC.out], HF0.out.and hf3 (by have := HLT.out; simp; omega)⟩
  | true =>
    rw [hvs] at c35
    have HOC := Lib.hid (cutV_ok HV.out)
    have HE : Hid ((cutV v).cells = .int .i64 (1 + v.k % 2) :: .int .i64 (v.r % 3) :: .int .i64 (v.p % 7) :: ((h1b (b % 3)).map by8 ++ [.bool true])) := Lib.hid (by
      unfold cutV
      rw [if_pos hvs, HBH.out, hvs]
      rfl)
    have hw1 := fun W => within_pos v.k 2 HV.out.k.1 HV.out.k.2 (by omega) (by omega) W
    have hw2 := fun W => within_pos v.r 3 HV.out.r.1 HV.out.r.2 (by omega) (by omega) W
    have hw3 := fun W => within_pos v.p 7 HV.out.p.1 HV.out.p.2 (by omega) (by omega) W
    obtain ⟨k2, hk2⟩ : ∃ k2, k2 = v.k % 2 := ⟨_, rfl⟩
    obtain ⟨r3, hr3⟩ : ∃ r3, r3 = v.r % 3 := ⟨_, rfl⟩
    obtain ⟨p7, hp7⟩ : ∃ p7, p7 = v.p % 7 := ⟨_, rfl⟩
    have hk2b : 0 ≤ k2 ∧ k2 < 2 := by omega
    have hk2l := hk2b.1
    have hk2h := hk2b.2
    rw [← hk2] at hw1 HE
    rw [← hr3] at hw2 HE
    rw [← hp7] at hw3 HE
    have HW1 := Lib.hid hw1
    have HW2 := Lib.hid hw2
    have HW3 := Lib.hid hw3
    clear hk2 hr3 hp7 hk2b hw1 hw2 hw3
    have hrm := rem3u b
    obtain ⟨H, hH⟩ : ∃ H : List Value, H = (h1b (b % 3)).map by8 := ⟨_, rfl⟩
    have HHL : Hid (H.length = 32) := Lib.hid (by rw [hH, List.length_map]; exact h1b_len _)
    have HHO : Hid ((H.toArray.all (·.oneCell')) = true) := Lib.hid (all_oneCell_toArray (by rw [hH]; exact by8_one _))
    have HBU : Hid (Try.prog.built 30 [(0, .int .u8 ((b % 3 : UInt8).toNat : Int))] = some H.toArray) := Lib.hid (by rw [hH]; exact built_h (b % 3))
    rw [← hH] at HE
    obtain ⟨R, hR⟩ : ∃ R : List Value, R = v.h.map by8 := ⟨_, rfl⟩
    have HRL : Hid (R.length = 32) := Lib.hid (by rw [hR, List.length_map]; exact HV.out.h)
    clear hH
    go_upto_region 2 with (fail)
    refine wp_region_till 16 (Fr [gb] wa) (Fr [] wa) (by kernel_rfl) (Fr.drew (Fr.refl _ wa)) (Fr.drew (Fr.refl _ wa)) (fun hA hB => ?_)
    have HB1d : Hid (Blk wa.drew gb 32 v.cells.toArray) := Lib.hid HB1.out.drew
    have HB2d : Hid (Blk wa.drew gr 32 zV3.cells.toArray) := Lib.hid HB2.out.drew
    have HFd : Hid (Fr [] w wa.drew) := Lib.hid HF0.out.drew
    have hAd : Fr [gb] wa wa.drew := hA
    generalize wa.drew = wd at *
    refine till_run (i := 0) (v := ?_) rfl (by kernel_rfl) (by rfl) (fun _ _ _ h => h) hA hB (fun w1 hw1 => ?_) ?_
    rotate_left 1
    · skip
      go_simp
      (try (first | with_reducible rfl | (apply And.intro <;> rfl)))
    simp only [Act.put, List.setIfInBounds_toArray, List.set_cons_zero, List.set_cons_succ]
    refine till_run (i := 1) (v := ?_) rfl (by kernel_rfl) (by rfl) (fun _ _ _ h => h) hA hB (fun w1 hw1 => ?_) ?_
    rotate_left 1
    · skip
      have hcw0 := hw1.cell (c0) (by first | (simp; done) | exact HNS.out | exact HNW.out | (intro hm; have hlt := HSB.out _ hm; (try dsimp only at hlt); omega))
      go_simp
      (try (first | with_reducible rfl | (apply And.intro <;> rfl)))
    simp only [Act.put, List.setIfInBounds_toArray, List.set_cons_zero, List.set_cons_succ]
    refine till_run (i := 4) (v := ?_) rfl (by kernel_rfl) (by rfl) (fun _ _ _ h => h) hA hB (fun w1 hw1 => ?_) ?_
    rotate_left 1
    · skip
      go_simp
      (try (first | with_reducible rfl | (apply And.intro <;> rfl)))
    simp only [Act.put, List.setIfInBounds_toArray, List.set_cons_zero, List.set_cons_succ]
    refine till_run (i := 5) (v := ?_) rfl (by kernel_rfl) (by rfl) (fun _ _ _ h => h) hA hB (fun w1 hw1 => ?_) ?_
    rotate_left 1
    · skip
      have hcw0 := hw1.cell (c1) (by first | (simp; done) | exact HNS.out | exact HNW.out | (intro hm; have hlt := HSB.out _ hm; (try dsimp only at hlt); omega))
      go_simp
      (try (first | with_reducible rfl | (apply And.intro <;> rfl)))
    simp only [Act.put, List.setIfInBounds_toArray, List.set_cons_zero, List.set_cons_succ]
    refine till_run (i := 7) (v := ?_) rfl (by kernel_rfl) (by rfl) (fun _ _ _ h => h) hA hB (fun w1 hw1 => ?_) ?_
    rotate_left 1
    · skip
      go_simp
      (try (first | with_reducible rfl | (apply And.intro <;> rfl)))
    simp only [Act.put, List.setIfInBounds_toArray, List.set_cons_zero, List.set_cons_succ]
    refine till_run (i := 8) (v := ?_) rfl (by kernel_rfl) (by rfl) (fun _ _ _ h => h) hA hB (fun w1 hw1 => ?_) ?_
    rotate_left 1
    · skip
      have hcw0 := hw1.cell (c2) (by first | (simp; done) | exact HNS.out | exact HNW.out | (intro hm; have hlt := HSB.out _ hm; (try dsimp only at hlt); omega))
      go_simp
      (try (first | with_reducible rfl | (apply And.intro <;> rfl)))
    simp only [Act.put, List.setIfInBounds_toArray, List.set_cons_zero, List.set_cons_succ]
    refine till_run (i := 10) (v := ?_) rfl (by kernel_rfl) (by rfl) (fun _ _ _ h => h) hA hB (fun w1 hw1 => ?_) ?_
    rotate_left 1
    · skip
      go_simp
      (try (first | with_reducible rfl | (apply And.intro <;> rfl)))
    simp only [Act.put, List.setIfInBounds_toArray, List.set_cons_zero, List.set_cons_succ]
    refine till_run (i := 11) (v := ?_) rfl (by kernel_rfl) (by rfl) (fun _ _ _ h => h) hA hB (fun w1 hw1 => ?_) ?_
    rotate_left 1
    · skip
      go_simp
      (try (first | with_reducible rfl | (apply And.intro <;> rfl)))
    simp only [Act.put, List.setIfInBounds_toArray, List.set_cons_zero, List.set_cons_succ]
    refine till_run (i := 12) (v := ?_) rfl (by kernel_rfl) (by rfl) (fun _ _ _ h => h) hA hB (fun w1 hw1 => ?_) ?_
    rotate_left 1
    · skip
      have hcw0 := hw1.cell (c3) (by first | (simp; done) | exact HNS.out | exact HNW.out | (intro hm; have hlt := HSB.out _ hm; (try dsimp only at hlt); omega))
      go_simp
      (try (first | with_reducible rfl | (apply And.intro <;> rfl)))
    simp only [Act.put, List.setIfInBounds_toArray, List.set_cons_zero, List.set_cons_succ]
    refine till_freeAt (i := 13) (v := ?_) rfl (by kernel_rfl) (by decide) (by rfl) (fun _ _ _ h => h) hA (fun _ => hB) (fun w1 hw1 => ?_) ?_
    rotate_left 1
    · skip
      go_simp
      (try (first | with_reducible rfl | (apply And.intro <;> rfl)))
    simp only [Act.put, List.setIfInBounds_toArray, List.set_cons_zero, List.set_cons_succ]
    refine till_fbuild (i := 14) rfl (by kernel_rfl) (by decide) (by rfl) _ _ rfl _ _ (HBU.out) rfl (fun _ _ _ h => h) hA (fun _ => hB) ?_
    simp only [Act.put, List.setIfInBounds_toArray, List.set_cons_zero, List.set_cons_succ]
    refine till_call (i := 2) (f := ?_) (args := ?_) rfl (by kernel_rfl) (by rfl) ?_ ?_
    rotate_left 2
    · go_simp
      (try (first | with_reducible rfl | (apply And.intro <;> rfl)))
    refine (HW1.out wd).mono ?_
    rintro e w1 ⟨rfl, rfl⟩
    refine ⟨_, rfl, ⟨hA, hB⟩, fun hB => ?_⟩
    simp only [Act.put, List.setIfInBounds_toArray, List.set_cons_zero, List.set_cons_succ]
    have hwr : IntKind.i64.wrap (1 + k2) = 1 + k2 := by rw [IntKind.wrap_i64]; omega
    refine till_run (i := 3) (v := ?_) rfl (by kernel_rfl) (by rfl) (fun _ _ _ h => h) hA hB (fun w1 hw1 => ?_) ?_
    rotate_left 1
    · skip
      go_simp
      (try (first | with_reducible rfl | (apply And.intro <;> rfl)))
    simp only [Act.put, List.setIfInBounds_toArray, List.set_cons_zero, List.set_cons_succ]
    refine till_run (i := 15) (v := ?_) rfl (by kernel_rfl) (by rfl) (fun _ _ _ h => h) hA hB (fun w1 hw1 => ?_) ?_
    rotate_left 1
    · skip
      go_simp
      (try (first | with_reducible rfl | (apply And.intro <;> rfl)))
    simp only [Act.put, List.setIfInBounds_toArray, List.set_cons_zero, List.set_cons_succ]
    refine till_call (i := 6) (f := ?_) (args := ?_) rfl (by kernel_rfl) (by rfl) ?_ ?_
    rotate_left 2
    · go_simp
      (try (first | with_reducible rfl | (apply And.intro <;> rfl)))
    refine (HW2.out wd).mono ?_
    rintro e w1 ⟨rfl, rfl⟩
    refine ⟨_, rfl, ⟨hA, hB⟩, fun hB => ?_⟩
    simp only [Act.put, List.setIfInBounds_toArray, List.set_cons_zero, List.set_cons_succ]
    refine till_call (i := 9) (f := ?_) (args := ?_) rfl (by kernel_rfl) (by rfl) ?_ ?_
    rotate_left 2
    · go_simp
      (try (first | with_reducible rfl | (apply And.intro <;> rfl)))
    refine (HW3.out wd).mono ?_
    rintro e w1 ⟨rfl, rfl⟩
    refine ⟨_, rfl, ⟨hA, hB⟩, fun hB => ?_⟩
    simp only [Act.put, List.setIfInBounds_toArray, List.set_cons_zero, List.set_cons_succ]
    clear hwr hrm
    have hb1 : Blk wd gb 32 (.int .i64 v.k :: .int .i64 v.r :: .int .i64 v.p :: (R ++ [.bool true]) : List Value).toArray := by
      have h := HB1d.out
      unfold V3.cells at h
      rw [hvs, ← hR] at h
      exact h
    have hba := hb1.set 0 (.int .i64 (1 + k2))
    have hbb := hba.set 1 (.int .i64 r3)
    have hbc := hbb.set 2 (.int .i64 p7)
    simp only [List.setIfInBounds_toArray, List.set_cons_zero, List.set_cons_succ] at hba hbb hbc
    have hbd := Blk.mid_at H R [.int .i64 (1 + k2), .int .i64 r3, .int .i64 p7] [.bool true] 3 rfl (by rw [HHL.out, HRL.out]) _ (cutV v).cells rfl (by rw [HE.out]; rfl) hbc
    have HBa := Lib.hid hb1
    have HBb := Lib.hid hba
    have HBc := Lib.hid hbb
    have HBd := Lib.hid hbc
    have HBe := Lib.hid hbd
    have hfe : Fr [gb] wd ((((wd.setCell ⟨gb, 0, none⟩ (.int .i64 (1 + k2))).setCell ⟨gb, 1, none⟩ (.int .i64 r3)).setCell ⟨gb, 2, none⟩ (.int .i64 p7)).setCells gb 3 H) := Fr.setCells (fun _ => by simp) H 3 _ ((((Fr.refl [gb] wd).setCell _ (fun _ => by simp) _).setCell _ (fun _ => by simp) _).setCell _ (fun _ => by simp) _)
    have HFe := Lib.hid hfe
    have HSX : Hid (∀ a1 a2 a3 : Value, (a1 :: a2 :: a3 :: (R ++ [.bool true]) : List Value).toArray.size = 36) := Lib.hid (fun a1 a2 a3 => by rw [List.size_toArray]; simp [HRL.out])
    clear hb1 hba hbb hbc hbd hfe hR hB
    refine till_step (i := 16) rfl (by kernel_rfl) (by kernel_rfl) (by rfl) (fun K hK => ?_)
    refine wp_store_cell1 3 _ _ rfl gb 0 (.int .i64 (1 + k2)) rfl rfl rfl 32 _ HBa.out (by rw [HSX.out]; omega) (by kernel_rfl) ?_
    refine hK.out _ _ (hA.trans ((Fr.refl [gb] wd).setCell _ (by simp) _) (fun x hx _ => hx)) (fun hA => ?_)
    clear hK K
    simp only [Act.put, List.setIfInBounds_toArray, List.set_cons_zero, List.set_cons_succ]
    refine till_step (i := 17) rfl (by kernel_rfl) (by kernel_rfl) (by rfl) (fun K hK => ?_)
    refine wp_run (v := ?_) (w' := ?_) ?_ ?_
    rotate_left 2
    · go_simp
      (try (first | with_reducible rfl | (apply And.intro <;> rfl)))
    refine hK.out _ _ hA (fun hA => ?_)
    clear hK K
    simp only [Act.put, List.setIfInBounds_toArray, List.set_cons_zero, List.set_cons_succ]
    refine till_step (i := 18) rfl (by kernel_rfl) (by kernel_rfl) (by rfl) (fun K hK => ?_)
    refine wp_store_cell1 3 _ _ rfl gb 1 (.int .i64 r3) rfl rfl rfl 32 _ HBb.out (by rw [HSX.out]; omega) (by kernel_rfl) ?_
    refine hK.out _ _ (hA.trans ((Fr.refl [gb] _).setCell _ (by simp) _) (fun x hx _ => hx)) (fun hA => ?_)
    clear hK K
    simp only [Act.put, List.setIfInBounds_toArray, List.set_cons_zero, List.set_cons_succ]
    refine till_step (i := 19) rfl (by kernel_rfl) (by kernel_rfl) (by rfl) (fun K hK => ?_)
    refine wp_run (v := ?_) (w' := ?_) ?_ ?_
    rotate_left 2
    · go_simp
      (try (first | with_reducible rfl | (apply And.intro <;> rfl)))
    refine hK.out _ _ hA (fun hA => ?_)
    clear hK K
    simp only [Act.put, List.setIfInBounds_toArray, List.set_cons_zero, List.set_cons_succ]
    refine till_step (i := 20) rfl (by kernel_rfl) (by kernel_rfl) (by rfl) (fun K hK => ?_)
    refine wp_store_cell1 3 _ _ rfl gb 2 (.int .i64 p7) rfl rfl rfl 32 _ HBc.out (by rw [HSX.out]; omega) (by kernel_rfl) ?_
    refine hK.out _ _ (hA.trans ((Fr.refl [gb] _).setCell _ (by simp) _) (fun x hx _ => hx)) (fun hA => ?_)
    clear hK K
    simp only [Act.put, List.setIfInBounds_toArray, List.set_cons_zero, List.set_cons_succ]
    refine till_step (i := 21) rfl (by kernel_rfl) (by kernel_rfl) (by rfl) (fun K hK => ?_)
    refine wp_run (v := ?_) (w' := ?_) ?_ ?_
    rotate_left 2
    · go_simp
      (try (first | with_reducible rfl | (apply And.intro <;> rfl)))
    refine hK.out _ _ hA (fun hA => ?_)
    clear hK K
    simp only [Act.put, List.setIfInBounds_toArray, List.set_cons_zero, List.set_cons_succ]
    refine till_step (i := 22) rfl (by kernel_rfl) (by kernel_rfl) (by rfl) (fun K hK => ?_)
    refine wp_store_mid 30 _ _ rfl gb 3 H.toArray rfl rfl (HBd.out.there 3 _ (by rw [HSX.out, List.size_toArray, HHL.out]; omega)) (by rw [List.size_toArray, HHL.out]; kernel_rfl) HHO.out ?_
    change K _ ((((wd.setCell ⟨gb, 0, none⟩ (.int .i64 (1 + k2))).setCell ⟨gb, 1, none⟩ (.int .i64 r3)).setCell ⟨gb, 2, none⟩ (.int .i64 p7)).setCells gb 3 H)
    have HAe := Lib.hid (hAd.trans HFe.out (fun x hx _ => hx))
    generalize (((wd.setCell ⟨gb, 0, none⟩ (.int .i64 (1 + k2))).setCell ⟨gb, 1, none⟩ (.int .i64 r3)).setCell ⟨gb, 2, none⟩ (.int .i64 p7)).setCells gb 3 H = we at *
    refine hK.out _ _ HAe.out (fun hA => ?_)
    clear hK K
    simp only [Act.put, List.setIfInBounds_toArray, List.set_cons_zero, List.set_cons_succ]
    refine till_done (by kernel_rfl) ?_ _
    clear hA hAd
    have HB2e := Lib.hid (HB2d.out.keep HFe.out (by have := HLT.out; simp; omega))
    have HFW := Lib.hid (HFd.out.and HFe.out (by have := HLT.out; simp; omega))
    have HSZ := Lib.hid (v3_size HOC.out)
    have HSE : Hid (zV3.cells.toArray.size = (cutV v).cells.toArray.size) := Lib.hid (by rw [List.size_toArray, List.size_toArray, V3.len HOC.out]; rfl)
    have HAL := Lib.hid (cutV v).one
    have HR : Hid (we.rangeAt gb 0 (cutV v).cells) := Lib.hid HBe.out.range
    have HRY : Hid (RowTy Try.prog 32 (cutV v).cells.length) := Lib.hid (row_v3.of (V3.len HOC.out))
    generalize hD : (cutV v).cells = D at *
    have HD := Lib.hid hD
    clear hD
    go_wp2_with (first
      | (refine wpList_row rfl 32 _ rfl gb 0 rfl D HR.out HRY.out ?_)
      | (refine wpList_store_blk rfl 32 _ _ rfl gr D.toArray rfl rfl 32 _ HB2e.out HSZ.out HSE.out HAL.out ?_; intro w3 hb3 hf3))
    exact bodyPost_ret (v := .agg D.toArray) (results_cell_row Try.results8 _ _ gr 32 D.toArray _ _ rfl hb3 Try.underlying32 rfl HSZ.out) rfl ⟨by rw [HD.out], HFW.out.and hf3 (by have := HLT.out; simp; omega)⟩
end Go.Proofs.Ytfmkegblhpnfcaa

namespace Go.Proofs.Ytfmkegblhpnfcaa
set_option maxRecDepth 100000
open Go.RowKit
/-- the sum of the first q of three -/
def s3 (C : List UInt8 → Nat) : Nat → Nat
  | 0 => 0
  | q + 1 => s3 C q + C (h1b (UInt8.ofNat q))
theorem s3_le (C : List UInt8 → Nat) (h : ∀ x, C x ≤ 60) (q : Nat) (hq : q ≤ 3) : s3 C q ≤ 180 := by
  have e : ∀ q, s3 C q ≤ 60 * q := by
    intro q
    induction q with
    | zero => exact Nat.le_refl _
    | succ q ih =>
      have h1 := h (h1b (UInt8.ofNat q))
      unfold s3
      omega
  have := e q
  omega
theorem s3_zero (C : List UInt8 → Nat) (h : ∀ x, C x = 0) (q : Nat) : s3 C q = 0 := by
  induction q with
  | zero => rfl
  | succ q ih =>
    unfold s3
    rw [ih, h]
theorem V3.set35 {v : V3} (h : v.Ok) : v.cells.toArray.setIfInBounds 35 (.bool true) = ({v with s := true} : V3).cells.toArray := by
  have e : ∀ s, ({v with s := s} : V3).cells = (.int .i64 v.k :: .int .i64 v.r :: .int .i64 v.p :: v.h.map by8) ++ [.bool s] := fun s => by simp [V3.cells]
  have hl : (.int .i64 v.k :: .int .i64 v.r :: .int .i64 v.p :: v.h.map by8 : List Value).length = 35 := by simp [h.h]
  rw [List.setIfInBounds_toArray, e true, show v.cells = _ from e v.s, List.set_append_right _ _ (by omega), hl]
  rfl
theorem V3.range3 {w : World} {g : Nat} {t : TypeId} {u : V3} (h : Blk w g t u.cells.toArray) (hu : u.h.length = 32) : w.rangeAt g 3 (u.h.map by8) := fun j x hx => by
  have h1 := h.cell (3 + j)
  rw [h1, List.getElem?_toArray]
  have hj : j < (u.h.map by8).length := (List.getElem?_eq_some_iff.1 hx).1
  have e : u.cells = [.int .i64 u.k, .int .i64 u.r, .int .i64 u.p] ++ ((u.h.map by8) ++ [.bool u.s]) := rfl
  rw [e, List.getElem?_append_right (by simp), show 3 + j - [Value.int .i64 u.k, .int .i64 u.r, .int .i64 u.p].length = j by simp, List.getElem?_append_left hj]
  exact hx
set_option maxHeartbeats 4000000 in
theorem tallyCounts_walk (w : World) (A : Option Addr) (n0 c0 : Nat) (l : List V3) (hl : V3L w A n0 l) (hnc : n0 ≤ c0) (hcm : c0 ≤ maxLen) :
    Calls Try.prog 3 #[.slice A n0 c0] w fun e w' => e = .returned (.bool true) ∧ Fr [] w w' := by
  have HL := Lib.hid hl
  have HNC := Lib.hid (And.intro hnc hcm)
  have hcb : Try.prog.built 24 [(0, .int .i64 2), (1, .int .i64 1)] = some #[.int .i64 2, .int .i64 1] := by kernel_rfl
  clear hl hnc hcm
  go_enter Try.func3, Try.ntmps3
  go_upto_region 2 with (first
    | (refine wpList_builtg rfl 24 _ rfl _ _ hcb rfl ?_)
    | (refine wpList_store_blk rfl 24 _ _ rfl w.heap.size #[.int .i64 2, .int .i64 1] rfl rfl 24 #[.int .i64 0, .int .i64 0] (Blk.new w _ _) (by kernel_rfl) rfl (by simp [Value.oneCell']) ?_; intro w2 hb3 hf2))
  have HF2 : Hid (Fr [] w w2) := Lib.hid (((Fr.refl [] w).alloc _).and hf2 (by simp))
  have HB3 := Lib.hid hb3
  obtain ⟨g3, hg3⟩ : ∃ g3, g3 = w.heap.size := ⟨_, rfl⟩
  rw [← hg3] at HB3 ⊢
  have HG3E := Lib.hid hg3
  clear hg3 hb3 hf2 hcb
  go_wp2_with (refine wpList_row rfl 24 _ rfl _ _ rfl _ (Blk.range HB3.out) row_conf2 ?_)
  refine (tnew_ok 2 1 (by decide) w2).mono ?_
  rw [show (3 : Int) * 2 + 1 = 7 by decide]
  rintro e w4 ⟨S, g, rfl, ht4, hf4, hs4⟩
  have HT4 := Lib.hid ht4
  have HF4 := Lib.hid (HF2.out.and hf4 (by simp))
  have HB4 := Lib.hid (HB3.out.keep hf4 (by simp))
  have HS : Hid (∀ y ∈ S, w.heap.size ≤ y ∧ y ≠ g3) := Lib.hid (fun y hy => by
    have h1 := hs4 y hy
    have h2 := HB3.out.lt
    have h3 := HG3E.out
    omega)
  clear ht4 hf4 hs4
  go_wp2_with fail
  go_loopw [6] (fun s6 wr => ∃ (k : Nat) (T : List Tv), k ≤ 60 ∧ s6 = .int .i64 k ∧ T.length ≤ k ∧ Gd 7 T ∧ Three T ∧ Tl wr S g 7 T ∧ Blk wr g3 24 #[.int .i64 2, .int .i64 1] ∧ Fr [] w wr) (fun s6 _ => 60 - (intOf s6).toNat)
  case atStart => exact ⟨0, [], by omega, rfl, by simp, trivial, (fun v hv => by simp at hv), HT4.out, HB4.out, HF4.out⟩
  case round =>
    obtain ⟨k, T, hk, rfl, hTl, hGd, h3T, h1, h2, h3⟩ := hrel
    have HTL := Lib.hid hTl
    have HGD := Lib.hid hGd
    have H3T := Lib.hid h3T
    have HT := Lib.hid h1
    have HB := Lib.hid h2
    have HF := Lib.hid h3
    clear hTl hGd h3T h1 h2 h3
    have hk60 : (k : Int) ≤ 60 := by omega
    have hk0 : (0 : Int) ≤ k := by omega
    by_cases hlt : k < n0 ∧ k < 60
    · obtain ⟨hlt1, hlt2⟩ := hlt
      obtain ⟨ad, v, rfl, hv, hvl, hvo, hcells⟩ := HL.out.at hlt1
      have HVO := Lib.hid hvo
      have HCL := Lib.hid (fun j u hu => HF.out.cell (hcells j u hu) (by simp))
      have HVL := Lib.hid hvl
      clear hvo hcells hvl hv
      have HRV : Hid (RowTy Try.prog 32 v.cells.length) := Lib.hid (row_v3.of HVL.out)
      have HSZ := Lib.hid (v3_size HVO.out)
      have HSE : Hid (zV3.cells.toArray.size = v.cells.toArray.size) := Lib.hid (by rw [List.size_toArray, List.size_toArray, HVL.out]; rfl)
      have HAL := Lib.hid v.one
      obtain ⟨v1, hv1⟩ : ∃ v1 : V3, v1 = {v with s := true} := ⟨_, rfl⟩
      have HV1O : Hid v1.Ok := Lib.hid (by rw [hv1]; exact ⟨HVO.out.k, HVO.out.r, HVO.out.p, HVO.out.h⟩)
      have HS35 : Hid (v.cells.toArray.setIfInBounds 35 (.bool true) = v1.cells.toArray) := Lib.hid (by rw [hv1]; exact V3.set35 HVO.out)
      have HUD : Hid (∃ b : UInt8, cutV v1 = ⟨1 + v.k % 2, v.r % 3, v.p % 7, h1b (b % 3), true⟩) := Lib.hid ⟨v.h.headD 0, by rw [hv1]; rfl⟩
      clear hv1
      go_upto_region 9 with (first
        | (refine wpList_cells rfl 32 _ rfl _ rfl v.cells HCL.out HRV.out ?_)
        | (refine wpList_store_blk rfl 32 _ _ rfl wr.heap.size v.cells.toArray rfl rfl 32 zV3.cells.toArray (Blk.new wr _ _) HSZ.out HSE.out HAL.out ?_; intro w7 hb7 hf7))
      have HB7 := Lib.hid hb7
      have hf7' : Fr [] wr w7 := ((Fr.refl [] wr).alloc _).and hf7 (by simp)
      have HG7 : Hid (g3 < wr.heap.size ∧ (∀ y ∈ S, y < wr.heap.size) ∧ w.heap.size ≤ wr.heap.size) := Lib.hid ⟨HB.out.lt, HT.out.lt, HF.out.size⟩
      obtain ⟨g7, hg7⟩ : ∃ g7, g7 = wr.heap.size := ⟨_, rfl⟩
      rw [← hg7] at HB7 HG7 ⊢
      have hb8 := HB7.out.set 35 (.bool true)
      rw [HS35.out] at hb8
      have hf8 : Fr [g7] w7 (w7.setCell ⟨g7, 35, none⟩ (.bool true)) := (Fr.refl [g7] w7).setCell _ (by simp) _
      have hfr8 : Fr [g7] wr (w7.setCell ⟨g7, 35, none⟩ (.bool true)) := (hf7'.mono (T := [g7]) (by simp)).trans hf8 (fun x hx _ => hx)
      have HB8 := Lib.hid hb8
      have HT8 := Lib.hid (HT.out.keep hfr8 (fun y hy hm => by have := HG7.out.2.1 y hy; simp at hm; omega))
      have HC8 := Lib.hid (HB.out.keep hfr8 (by have := HG7.out.1; simp; omega))
      have HF8 := Lib.hid (HF.out.and hfr8 (by have := HG7.out; simp; omega))
      clear hb7 hf7 hf7' hb8 hf8 hfr8 hg7
      go_upto_region 10 with (refine wpList_plain rfl (fun K hK => wp_store_cell1 4 _ _ rfl g7 35 (.bool true) rfl rfl rfl 32 _ HB7.out (by rw [List.size_toArray, HVL.out]; omega) (by kernel_rfl) (hK _ _ ?_)))
      generalize w7.setCell ⟨g7, 35, none⟩ (.bool true) = w8 at *
      have HR8 : Hid (w8.rangeAt g7 0 v1.cells) := Lib.hid HB8.out.range
      have HRV1 : Hid (RowTy Try.prog 32 v1.cells.length) := Lib.hid (row_v3.of (V3.len HV1O.out))
      go_wp2_with (refine wpList_row rfl 32 _ rfl g7 0 rfl v1.cells HR8.out HRV1.out ?_)
      refine (vcut_any v1 HV1O.out w8).mono ?_
      obtain ⟨b, hb⟩ := HUD.out
      rw [hb]
      obtain ⟨u, hu⟩ : ∃ u : V3, u = ⟨1 + v.k % 2, v.r % 3, v.p % 7, h1b (b % 3), true⟩ := ⟨_, rfl⟩
      rw [← hu]
      have HUO : Hid u.Ok := Lib.hid (by rw [hu, ← hb]; exact cutV_ok HV1O.out)
      have HUR : Hid ((u.k = 1 ∨ u.k = 2) ∧ 0 ≤ u.r ∧ u.r ≤ 1048576 ∧ 0 ≤ u.p ∧ u.p < 7) := Lib.hid (by rw [hu]; simp only; omega)
      have HUH : Hid (u.h = h1b (b % 3)) := Lib.hid (by rw [hu])
      clear hu hb
      rintro e w9 ⟨rfl, hf9⟩
      have HB9 := Lib.hid (HB8.out.keep hf9 (by simp))
      have HT9 := Lib.hid (HT8.out.keep hf9 (by simp))
      have HC9 := Lib.hid (HC8.out.keep hf9 (by simp))
      have HF9 := Lib.hid (HF8.out.and hf9 (by simp))
      have HUS := Lib.hid (v3_size HUO.out)
      have HUE : Hid (v1.cells.toArray.size = u.cells.toArray.size) := Lib.hid (by rw [List.size_toArray, List.size_toArray, V3.len HUO.out, V3.len HV1O.out])
      have HUA := Lib.hid u.one
      clear hf9
      go_upto_region 11 with (refine wpList_store_blk rfl 32 _ _ rfl g7 u.cells.toArray rfl rfl 32 v1.cells.toArray HB9.out HUS.out HUE.out HUA.out ?_; intro w10 hb10 hf10)
      have HB10 := Lib.hid hb10
      have HT10 := Lib.hid (HT9.out.keep hf10 (fun y hy hm => by have := HG7.out.2.1 y hy; simp at hm; omega))
      have HC10 := Lib.hid (HC9.out.keep hf10 (by have := HG7.out.1; simp; omega))
      have HF10 := Lib.hid (HF9.out.and hf10 (by have := HG7.out; simp; omega))
      clear hf10
      have u0 : w10.cell? ⟨g7, 0, none⟩ = some (.int .i64 u.k) := (hb10.cell 0).trans rfl
      have u1 : w10.cell? ⟨g7, 1, none⟩ = some (.int .i64 u.r) := (hb10.cell 1).trans rfl
      have u2' : w10.cell? ⟨g7, 2, none⟩ = some (.int .i64 u.p) := (hb10.cell 2).trans rfl
      have HRH : Hid (w10.rangeAt g7 3 (u.h.map by8)) := Lib.hid (V3.range3 hb10 HUO.out.h)
      have HRHT : Hid (RowTy Try.prog 30 (u.h.map by8).length) := Lib.hid (row_hash.of (by rw [List.length_map]; exact HUO.out.h))
      clear hb10
      have HOK : Hid (TOk 7 T) := Lib.hid ⟨HGD.out, by omega, by have := HTL.out; omega⟩
      go_wp2_with fail
      refine (all_any w10 S g 7 T HT10.out HOK.out u.k u.r HUO.out.k HUO.out.r).mono ?_
      rintro e w11 ⟨rfl, rfl⟩
      go_wp2_with (refine wpList_row rfl 30 _ rfl g7 3 rfl (u.h.map by8) HRH.out HRHT.out ?_)
      refine (tadd_any w10 S g 7 T HT10.out HOK.out u.k u.r u.p u.h HUO.out.h).mono ?_
      obtain ⟨m, hm⟩ : ∃ m, m = mayV 7 T u.k u.r u.p := ⟨_, rfl⟩
      obtain ⟨T', hT'⟩ : ∃ T', T' = addV 7 T u.k u.r u.p u.h := ⟨_, rfl⟩
      obtain ⟨cA, hcA⟩ : ∃ cA, cA = cntA T u.k u.r := ⟨_, rfl⟩
      have HCA : Hid (cntA T' u.k u.r = cA + if m = true then 1 else 0) := Lib.hid (by rw [hT', hm, hcA]; exact add_cnt u.k u.r u.p u.h)
      have HM2 : Hid (mayV 7 T' u.k u.r u.p = false) := Lib.hid (by rw [hT']; exact add_twice u.k u.r u.p u.h HUR.out)
      have H3T2 : Hid (Three T') := Lib.hid (by rw [hT', HUH.out]; exact add_three3 H3T.out u.k u.r u.p b)
      have HTL2 : Hid (T'.length ≤ k + 1) := Lib.hid (by rw [hT']; have := addV_len 7 T u.k u.r u.p u.h; have := HTL.out; omega)
      have HOK2 : Hid (TOk 7 T') := Lib.hid ⟨by rw [hT']; exact HGD.out.add u.k u.r u.p HUO.out.h, by omega, by have := HTL2.out; omega⟩
      have hcb : cA ≤ 60 := by rw [hcA]; have := cntA_le T u.k u.r; have := HTL.out; omega
      have hcA64 : (cA : Int) ≤ 60 := by omega
      have HAD2 : Hid (∀ W, Tl W S g 7 T' → Calls Try.prog 10 #[.pointer (some ⟨g, 0, none⟩), .int .i64 u.k, .int .i64 u.r, .int .i64 u.p, .agg ((h1b 9).map by8).toArray] W fun e w' => e = .returned (.bool false) ∧ Tl w' S g 7 T' ∧ Fr S W w') := Lib.hid (fun W h => by
        have h2 := tadd_any W S g 7 T' h HOK2.out u.k u.r u.p (h1b 9) (h1b_len 9)
        have e : addV 7 T' u.k u.r u.p (h1b 9) = T' := by unfold addV; rw [HM2.out]; rfl
        rw [e, HM2.out] at h2
        exact h2)
      have HB9h : Hid (Try.prog.built 30 [(0, .int .u8 9)] = some ((h1b 9).map by8).toArray) := Lib.hid (built_h 9)
      rw [← hm, ← hT', ← hcA]
      rintro e w12 ⟨rfl, ht12, hf12⟩
      have HT12 := Lib.hid ht12
      have HGS : Hid (¬ g7 ∈ S) := Lib.hid (fun hmm => by have := HG7.out.2.1 _ hmm; omega)
      have u02 := hf12.cell u0 HGS.out
      have u12 := hf12.cell u1 HGS.out
      have u22 := hf12.cell u2' HGS.out
      have HC12 := Lib.hid (HC10.out.keep hf12 (fun hmm => (HS.out _ hmm).2 rfl))
      have HF12 := Lib.hid (HF10.out.and hf12 (fun y hy => (HS.out y hy).1))
      clear ht12 hf12 u0 u1 u2' hm hT' hcA hcb
      cases m with
      | true =>
        have HCN : Hid (cntA T' u.k u.r = cA + 1) := Lib.hid (by rw [HCA.out]; simp)
        have hnn : ((cA : Int) + 1 != (cA : Int) + 1) = false := by simp
        have hnn2 : (((cA + 1 : Nat) : Int) != (cA : Int) + 1) = false := by simp
        go_wp2_with fail
        refine (all_any w12 S g 7 T' HT12.out HOK2.out u.k u.r HUO.out.k HUO.out.r).mono ?_
        rw [HCN.out]
        rintro e w13 ⟨rfl, rfl⟩
        go_wp2_with (refine wpList_builtg rfl 30 _ rfl _ _ HB9h.out rfl ?_)
        refine (HAD2.out w12 HT12.out).mono ?_
        rintro e w13 ⟨rfl, ht13, hf13⟩
        have HT13 := Lib.hid ht13
        have HC13 := Lib.hid (HC12.out.keep hf13 (fun hm => (HS.out _ hm).2 rfl))
        have HF13 := Lib.hid (HF12.out.and hf13 (fun y hy => (HS.out y hy).1))
        clear ht13 hf13
        go_wp2_with fail
        go_roundw
        case rel => exact ⟨k + 1, T', by omega, by go_num, HTL2.out, HOK2.out.gd, H3T2.out, HT13.out, HC13.out, HF13.out⟩
        case measure => simp [intOf]; omega
      | false =>
        have HCN : Hid (cntA T' u.k u.r = cA) := Lib.hid (by rw [HCA.out]; simp)
        have hnn : ((cA : Int) != (cA : Int)) = false := by simp
        go_wp2_with fail
        refine (all_any w12 S g 7 T' HT12.out HOK2.out u.k u.r HUO.out.k HUO.out.r).mono ?_
        rw [HCN.out]
        rintro e w13 ⟨rfl, rfl⟩
        go_wp2_with (refine wpList_builtg rfl 30 _ rfl _ _ HB9h.out rfl ?_)
        refine (HAD2.out w12 HT12.out).mono ?_
        rintro e w13 ⟨rfl, ht13, hf13⟩
        have HT13 := Lib.hid ht13
        have HC13 := Lib.hid (HC12.out.keep hf13 (fun hm => (HS.out _ hm).2 rfl))
        have HF13 := Lib.hid (HF12.out.and hf13 (fun y hy => (HS.out y hy).1))
        clear ht13 hf13
        go_wp2_with fail
        go_roundw
        case rel => exact ⟨k + 1, T', by omega, by go_num, HTL2.out, HOK2.out.gd, H3T2.out, HT13.out, HC13.out, HF13.out⟩
        case measure => simp [intOf]; omega
    · have HG := HGD.out
      by_cases hlt1 : k < n0
      · have hn2 : ¬ k < 60 := fun h => hlt ⟨hlt1, h⟩
        have hd60 : decide (k < 60) = false := decide_eq_false hn2
        have hd60i : decide ((k : Int) < 60) = false := decide_eq_false (by omega)
        clear hlt HG
        have HOK : Hid (TOk 7 T) := Lib.hid ⟨HGD.out, by omega, by have := HTL.out; omega⟩
        have HTB : Hid (T.length ≤ 60) := Lib.hid (by have := HTL.out; omega)
        have HN7 := Lib.hid (fun W => tn_any 2 1 (by omega) W)
        go_wp2_with fail
        go_loopw [10] (fun s10 wk => ∃ kk : Nat, 1 ≤ kk ∧ kk ≤ 3 ∧ s10 = .int .i64 kk ∧ Tl wk S g 7 T ∧ Blk wk g3 24 #[.int .i64 2, .int .i64 1] ∧ Fr [] w wk) (fun s10 _ => 3 - (intOf s10).toNat)
        case atStart => exact ⟨1, by omega, by omega, rfl, HT.out, HB.out, HF.out⟩
        case round =>
          obtain ⟨kk, hk1, hk3, rfl, h1, h2, h3⟩ := hrel
          rename World => wk
          have HTk := Lib.hid h1
          have HBk := Lib.hid h2
          have HFk := Lib.hid h3
          clear h1 h2 h3
          by_cases hk2 : kk ≤ 2
          · have hki : (kk : Int) ≤ 2 := by omega
            have HKI : Hid (i64In (kk : Int)) := Lib.hid ⟨by omega, by omega⟩
            go_wp2_with fail
            go_loopw [11] (fun s11 wx => ∃ rr : Nat, rr ≤ 4 ∧ s11 = .int .i64 rr ∧ Tl wx S g 7 T ∧ Blk wx g3 24 #[.int .i64 2, .int .i64 1] ∧ Fr [] w wx) (fun s11 _ => 4 - (intOf s11).toNat)
            case atStart => exact ⟨0, by omega, rfl, HTk.out, HBk.out, HFk.out⟩
            case round =>
              obtain ⟨rr, hr4, rfl, h1, h2, h3⟩ := hrel
              rename World => wx
              have HTx := Lib.hid h1
              have HBx := Lib.hid h2
              have HFx := Lib.hid h3
              clear h1 h2 h3
              by_cases hr3 : rr < 4
              · have hri : (rr : Int) < 4 := by omega
                have HRI : Hid (i64In (rr : Int)) := Lib.hid ⟨by omega, by omega⟩
                obtain ⟨C, hC⟩ : ∃ C : List UInt8 → Nat, C = cntH T kk rr := ⟨_, rfl⟩
                obtain ⟨cA, hcA⟩ : ∃ cA, cA = cntA T kk rr := ⟨_, rfl⟩
                have HCB : Hid (∀ x, C x ≤ 60) := Lib.hid (fun x => by rw [hC]; have := cntH_le T kk rr x; have := HTB.out; omega)
                have HS3 : Hid (s3 C 3 = cA) := Lib.hid (by
                  have h := three_sum H3T.out kk rr
                  rw [hC, hcA, ← h]
                  show 0 + _ + _ + _ = _
                  simp)
                have HFOR : Hid (∀ W x, x.length = 32 → Tl W S g 7 T → Calls Try.prog 11 #[.pointer (some ⟨g, 0, none⟩), .int .i64 kk, .int .i64 rr, .agg (x.map by8).toArray] W fun e w' => e = .returned (.int .i64 (C x : Nat)) ∧ Fr [] W w') := Lib.hid (fun W x hx h => by
                  rw [hC]
                  exact for_any W S g 7 T h kk rr HKI.out HRI.out x hx)
                obtain ⟨M, hM⟩ : ∃ M, M = mstV T kk rr := ⟨_, rfl⟩
                have HML : Hid (M.length = 32) := Lib.hid (by rw [hM]; exact mstV_len HGD.out kk rr)
                have HMO : Hid (∀ W, Tl W S g 7 T → Calls Try.prog 12 #[.pointer (some ⟨g, 0, none⟩), .int .i64 kk, .int .i64 rr] W fun e w' => e = .returned (.tuple #[.agg (M.map by8).toArray, .int .i64 (C M : Nat)]) ∧ Fr [] W w') := Lib.hid (fun W h => by
                  rw [hM, hC]
                  exact most_any W S g 7 T h HOK.out kk rr HKI.out HRI.out)
                have HAL : Hid (∀ W, Tl W S g 7 T → Calls Try.prog 9 #[.pointer (some ⟨g, 0, none⟩), .int .i64 kk, .int .i64 rr] W fun e w' => e = .returned (.int .i64 (cA : Nat)) ∧ W = w') := Lib.hid (fun W h => by
                  rw [hcA]
                  exact all_any W S g 7 T h HOK.out kk rr HKI.out HRI.out)
                obtain ⟨q0, hq0⟩ : ∃ q0, q0 = heardV T rr := ⟨_, rfl⟩
                obtain ⟨q1, hq1⟩ : ∃ q1, q1 = heardV T ((rr : Int) + 1) := ⟨_, rfl⟩
                have HH0 : Hid (∀ W, Tl W S g 7 T → Calls Try.prog 14 #[.pointer (some ⟨g, 0, none⟩), .int .i64 rr] W fun e w' => e = .returned (.int .i64 (q0 : Nat)) ∧ W = w') := Lib.hid (fun W h => by
                  rw [hq0]
                  exact heard_any W S g 7 T h rr)
                have HH1 : Hid (∀ W, Tl W S g 7 T → Calls Try.prog 14 #[.pointer (some ⟨g, 0, none⟩), .int .i64 ((rr : Int) + 1)] W fun e w' => e = .returned (.int .i64 (q1 : Nat)) ∧ W = w') := Lib.hid (fun W h => by
                  rw [hq1]
                  exact heard_any W S g 7 T h ((rr : Int) + 1))
                have HQ : Hid (q1 ≤ q0 ∧ cA ≤ q0 ∧ q0 ≤ 7) := Lib.hid ⟨by rw [hq0, hq1]; exact heard_mono T _ _ (by omega), by rw [hq0, hcA]; exact all_heard HGD.out (by omega) kk rr (by omega), by rw [hq0]; exact heard_le (n := 7) HGD.out (by omega) rr⟩
                have HZ : Hid (C M = 0 → cA = 0 ∧ M = zh32) := Lib.hid (fun h => by
                  have hb := (mst_best HGD.out kk rr).most
                  rw [← hC, ← hM] at hb
                  have e : cA = 0 := by
                    rw [← HS3.out]
                    exact s3_zero C (fun x => by have := hb x; omega) 3
                  exact ⟨e, by rw [hM]; exact mst_zero (by rw [← hcA]; exact e)⟩)
                clear hC hcA hM hq0 hq1
                go_wp2_with fail
                go_loopw [12, 13] (fun s12 s13 wh => ∃ q : Nat, q ≤ 3 ∧ s13 = .int .i64 q ∧ s12 = .int .i64 (s3 C q : Nat) ∧ Tl wh S g 7 T ∧ Blk wh g3 24 #[.int .i64 2, .int .i64 1] ∧ Fr [] w wh) (fun _ s13 _ => 3 - (intOf s13).toNat)
                case atStart => exact ⟨0, by omega, rfl, rfl, HTx.out, HBx.out, HFx.out⟩
                case round =>
                  obtain ⟨q, hq3, rfl, rfl, h1, h2, h3⟩ := hrel
                  rename World => wh
                  have HTh := Lib.hid h1
                  have HBh := Lib.hid h2
                  have HFh := Lib.hid h3
                  clear h1 h2 h3
                  have HSB : Hid (s3 C q ≤ 180) := Lib.hid (s3_le C HCB.out q hq3)
                  by_cases hq : q < 3
                  · have hqi : (q : Int) < 3 := by omega
                    have hs64 : ((s3 C q : Nat) : Int) ≤ 180 := by have := HSB.out; omega
                    have HBU : Hid (Try.prog.built 30 [(0, .int .u8 (q : Int))] = some ((h1b (UInt8.ofNat q)).map by8).toArray) := Lib.hid (by
                      have h := built_h (UInt8.ofNat q)
                      unfold by8 at h
                      rw [UInt8.toNat_ofNat', Nat.mod_eq_of_lt (by omega)] at h
                      exact h)
                    have hcx : ((C (h1b (UInt8.ofNat q)) : Nat) : Int) ≤ 60 := by have := HCB.out (h1b (UInt8.ofNat q)); omega
                    go_wp2_with (refine wpList_builtg rfl 30 _ rfl _ _ HBU.out rfl ?_)
                    refine (HFOR.out wh (h1b (UInt8.ofNat q)) (h1b_len _) HTh.out).mono ?_
                    rintro e wj ⟨rfl, hfj⟩
                    have HTj := Lib.hid (HTh.out.keep hfj (by simp))
                    have HBj := Lib.hid (HBh.out.keep hfj (by simp))
                    have HFj := Lib.hid (HFh.out.and hfj (by simp))
                    clear hfj
                    go_wp2_with fail
                    go_roundw
                    case rel => exact ⟨q + 1, by omega, by go_num, by show _ = Value.int .i64 ((s3 C q + C (h1b (UInt8.ofNat q)) : Nat) : Int); go_num, HTj.out, HBj.out, HFj.out⟩
                    case measure => simp [intOf]; omega
                  · have hqe : q = 3 := by omega
                    subst hqe
                    rw [HS3.out]
                    have hc7 : (cA : Int) ≤ 7 := by have := HQ.out; omega
                    have hnn : ((cA : Int) != (cA : Int)) = false := by simp
                    have hd7 : decide (7 < cA) = false := decide_eq_false (by have := HQ.out; omega)
                    have hd7i : decide ((7 : Int) < (cA : Int)) = false := decide_eq_false (by omega)
                    have hdq : decide (q0 < q1) = false := decide_eq_false (by have := HQ.out; omega)
                    have hdqi : decide ((q0 : Int) < (q1 : Int)) = false := decide_eq_false (by have := HQ.out; omega)
                    have hda : decide (q0 < cA) = false := decide_eq_false (by have := HQ.out; omega)
                    have hdai : decide ((q0 : Int) < (cA : Int)) = false := decide_eq_false (by have := HQ.out; omega)
                    have HHS : Hid ((Try.prog.info? 30).map (·.size) = some (M.map by8).toArray.size) := Lib.hid (by rw [List.size_toArray, List.length_map, HML.out]; kernel_rfl)
                    have HHZ : Hid (zeroH.size = (M.map by8).toArray.size) := Lib.hid (by rw [show zeroH.size = 32 from rfl, List.size_toArray, List.length_map, HML.out])
                    have HHA : Hid (((M.map by8).toArray.all (·.oneCell')) = true) := Lib.hid (all_oneCell_toArray (by8_one M))
                    have HRM : Hid (RowTy Try.prog 30 (M.map by8).length) := Lib.hid (row_hash.of (by rw [List.length_map]; exact HML.out))
                    clear hq
                    go_wp2_with fail
                    refine (HMO.out wh HTh.out).mono ?_
                    rintro e w1 ⟨rfl, hf1⟩
                    have HT1 := Lib.hid (HTh.out.keep hf1 (by simp))
                    have HB1 := Lib.hid (HBh.out.keep hf1 (by simp))
                    have HF1 := Lib.hid (HFh.out.and hf1 (by simp))
                    clear hf1
                    go_upto_region 27 with (refine wpList_store_blk rfl 30 _ _ rfl w1.heap.size (M.map by8).toArray rfl rfl 30 zeroH (Blk.new w1 _ _) HHS.out HHZ.out HHA.out ?_; intro w2 hb2 hf2)
                    have HFs2 : Hid (Fr [] w1 w2) := Lib.hid (((Fr.refl [] w1).alloc _).and hf2 (by simp))
                    have HRg : Hid (w2.rangeAt w1.heap.size 0 (M.map by8)) := Lib.hid hb2.range
                    have HT2 := Lib.hid (HT1.out.keep HFs2.out (by simp))
                    have HB2 := Lib.hid (HB1.out.keep HFs2.out (by simp))
                    have HF2 := Lib.hid (HF1.out.and HFs2.out (by simp))
                    obtain ⟨gm, hgm⟩ : ∃ gm, gm = w1.heap.size := ⟨_, rfl⟩
                    rw [← hgm] at HRg ⊢
                    clear hb2 hf2 hgm
                    go_wp2_with fail
                    refine (HAL.out w2 HT2.out).mono ?_
                    rintro e w3 ⟨rfl, rfl⟩
                    go_wp2_with (refine wpList_row rfl 24 _ rfl _ _ rfl _ (Blk.range HB2.out) row_conf2 ?_)
                    refine (HN7.out w2).mono ?_
                    rw [show (3 : Int) * 2 + 1 = 7 by decide]
                    rintro e w3 ⟨rfl, hf3⟩
                    have HT3 := Lib.hid (HT2.out.keep hf3 (by simp))
                    have HB3 := Lib.hid (HB2.out.keep hf3 (by simp))
                    have HF3 := Lib.hid (HF2.out.and hf3 (by simp))
                    have HRg3 : Hid (w3.rangeAt gm 0 (M.map by8)) := Lib.hid (hf3.range HRg.out (by simp))
                    clear hf3
                    have hcm : ((C M : Nat) : Int) ≤ 60 := by have := HCB.out M; omega
                    by_cases hz : C M = 0
                    · obtain ⟨ha0, hm0⟩ := HZ.out hz
                      have hdz : decide (0 < C M) = false := decide_eq_false (by omega)
                      have hdzi : decide ((0 : Int) < ((C M : Nat) : Int)) = false := decide_eq_false (by omega)
                      have hez : (((C M : Nat) : Int) == 0) = true := by simp; omega
                      have haz : ((cA : Int) != 0) = false := by simp; omega
                      have hq : ∀ W : World, (Op.equalIn 10000 30 (.agg (M.map by8).toArray) (.agg zeroH)).run Try.prog W = .ok true W := fun W => by
                        have h := eql_hash M zh32 HML.out rfl 9998 W
                        rw [show decide (M = zh32) = true by simp [hm0]] at h
                        exact h
                      have HBZ : Hid (Try.prog.built 30 [] = some zeroH) := Lib.hid (by kernel_rfl)
                      clear ha0 hm0 hz
                      go_wp2_with (first
                        | (refine wpList_row rfl 30 (.tmp 14) rfl gm 0 rfl (M.map by8) HRg3.out HRM.out ?_)
                        | (refine wpList_builtg rfl 30 _ rfl _ _ HBZ.out rfl ?_))
                      refine (HH1.out w3 HT3.out).mono ?_
                      rintro e w4 ⟨rfl, rfl⟩
                      go_wp2_with fail
                      refine (HH0.out w3 HT3.out).mono ?_
                      rintro e w4 ⟨rfl, rfl⟩
                      go_wp2_with fail
                      refine (HAL.out w3 HT3.out).mono ?_
                      rintro e w4 ⟨rfl, rfl⟩
                      go_wp2_with fail
                      refine (HH0.out w3 HT3.out).mono ?_
                      rintro e w4 ⟨rfl, rfl⟩
                      go_wp2_with fail
                      go_roundw
                      case rel => exact ⟨rr + 1, by omega, by go_num, HT3.out, HB3.out, HF3.out⟩
                      case measure => simp [intOf]; omega
                    · have hdz : decide (0 < C M) = true := decide_eq_true (by omega)
                      have hdzi : decide ((0 : Int) < ((C M : Nat) : Int)) = true := decide_eq_true (by omega)
                      have hez : (((C M : Nat) : Int) == 0) = false := by simp; omega
                      have hcc : (((C M : Nat) : Int) != ((C M : Nat) : Int)) = false := by simp
                      go_wp2_with (refine wpList_row rfl 30 (.tmp 14) rfl gm 0 rfl (M.map by8) HRg3.out HRM.out ?_)
                      refine (HFOR.out w3 M HML.out HT3.out).mono ?_
                      rintro e w4 ⟨rfl, hf4⟩
                      have HT3 := Lib.hid (HT3.out.keep hf4 (by simp))
                      have HB3 := Lib.hid (HB3.out.keep hf4 (by simp))
                      have HF3 := Lib.hid (HF3.out.and hf4 (by simp))
                      clear hf4
                      generalize w4 = w3' at *
                      go_wp2_with fail
                      refine (HH1.out w3' HT3.out).mono ?_
                      rintro e w5 ⟨rfl, rfl⟩
                      go_wp2_with fail
                      refine (HH0.out w3' HT3.out).mono ?_
                      rintro e w5 ⟨rfl, rfl⟩
                      go_wp2_with fail
                      refine (HAL.out w3' HT3.out).mono ?_
                      rintro e w5 ⟨rfl, rfl⟩
                      go_wp2_with fail
                      refine (HH0.out w3' HT3.out).mono ?_
                      rintro e w5 ⟨rfl, rfl⟩
                      go_wp2_with fail
                      go_roundw
                      case rel => exact ⟨rr + 1, by omega, by go_num, HT3.out, HB3.out, HF3.out⟩
                      case measure => simp [intOf]; omega
              · have hre : rr = 4 := by omega
                subst hre
                go_wp2_with fail
                go_roundw
                case rel => exact ⟨kk + 1, by omega, by omega, by go_num, HTx.out, HBx.out, HFx.out⟩
                case measure => simp [intOf]; omega
          · have hke : kk = 3 := by omega
            subst hke
            have hq8 : Hid (heardV T 0 ≤ 7) := Lib.hid (heard_le (n := 7) HGD.out (by omega) 0)
            obtain ⟨q0, hq0⟩ : ∃ q0, q0 = heardV T 0 := ⟨_, rfl⟩
            have HH0 : Hid (∀ W, Tl W S g 7 T → Calls Try.prog 14 #[.pointer (some ⟨g, 0, none⟩), .int .i64 0] W fun e w' => e = .returned (.int .i64 (q0 : Nat)) ∧ W = w') := Lib.hid (fun W h => by
              rw [hq0]
              exact heard_any W S g 7 T h 0)
            rw [← hq0] at hq8
            have HWI : Hid (∀ W, Calls Try.prog 15 #[.int .i64 (q0 : Int), .int .i64 8] W fun e w' => e = .returned (.int .i64 (q0 : Int)) ∧ W = w') := Lib.hid (fun W => by
              have h := within_pos (q0 : Int) 8 (by omega) (by have := hq8.out; omega) (by omega) (by omega) W
              rw [show (q0 : Int) % 8 = (q0 : Int) by have := hq8.out; omega] at h
              exact h)
            clear hq0
            have hqq : ((q0 : Int) == (q0 : Int)) = true := by simp
            go_wp2_with fail
            refine (HH0.out wk HTk.out).mono ?_
            rintro e wz ⟨rfl, rfl⟩
            go_wp2_with fail
            refine (HWI.out wk).mono ?_
            rintro e wz ⟨rfl, rfl⟩
            go_wp2_with fail
            refine (HH0.out wk HTk.out).mono ?_
            rintro e wz ⟨rfl, rfl⟩
            go_wp2_with fail
            refine (twakes_any wk).mono ?_
            rintro e wz ⟨rfl, hfz⟩
            have HFz := Lib.hid (HFk.out.and hfz (by simp))
            clear hfz
            go_wp2_with fail
            go_ret
            exact ⟨rfl, HFz.out⟩
      · have hdn : decide (k < n0) = false := decide_eq_false hlt1
        clear hlt HG
        have HOK : Hid (TOk 7 T) := Lib.hid ⟨HGD.out, by omega, by have := HTL.out; omega⟩
        have HTB : Hid (T.length ≤ 60) := Lib.hid (by have := HTL.out; omega)
        have HN7 := Lib.hid (fun W => tn_any 2 1 (by omega) W)
        go_wp2_with fail
        go_loopw [10] (fun s10 wk => ∃ kk : Nat, 1 ≤ kk ∧ kk ≤ 3 ∧ s10 = .int .i64 kk ∧ Tl wk S g 7 T ∧ Blk wk g3 24 #[.int .i64 2, .int .i64 1] ∧ Fr [] w wk) (fun s10 _ => 3 - (intOf s10).toNat)
        case atStart => exact ⟨1, by omega, by omega, rfl, HT.out, HB.out, HF.out⟩
        case round =>
          obtain ⟨kk, hk1, hk3, rfl, h1, h2, h3⟩ := hrel
          rename World => wk
          have HTk := Lib.hid h1
          have HBk := Lib.hid h2
          have HFk := Lib.hid h3
          clear h1 h2 h3
          by_cases hk2 : kk ≤ 2
          · have hki : (kk : Int) ≤ 2 := by omega
            have HKI : Hid (i64In (kk : Int)) := Lib.hid ⟨by omega, by omega⟩
            go_wp2_with fail
            go_loopw [11] (fun s11 wx => ∃ rr : Nat, rr ≤ 4 ∧ s11 = .int .i64 rr ∧ Tl wx S g 7 T ∧ Blk wx g3 24 #[.int .i64 2, .int .i64 1] ∧ Fr [] w wx) (fun s11 _ => 4 - (intOf s11).toNat)
            case atStart => exact ⟨0, by omega, rfl, HTk.out, HBk.out, HFk.out⟩
            case round =>
              obtain ⟨rr, hr4, rfl, h1, h2, h3⟩ := hrel
              rename World => wx
              have HTx := Lib.hid h1
              have HBx := Lib.hid h2
              have HFx := Lib.hid h3
              clear h1 h2 h3
              by_cases hr3 : rr < 4
              · have hri : (rr : Int) < 4 := by omega
                have HRI : Hid (i64In (rr : Int)) := Lib.hid ⟨by omega, by omega⟩
                obtain ⟨C, hC⟩ : ∃ C : List UInt8 → Nat, C = cntH T kk rr := ⟨_, rfl⟩
                obtain ⟨cA, hcA⟩ : ∃ cA, cA = cntA T kk rr := ⟨_, rfl⟩
                have HCB : Hid (∀ x, C x ≤ 60) := Lib.hid (fun x => by rw [hC]; have := cntH_le T kk rr x; have := HTB.out; omega)
                have HS3 : Hid (s3 C 3 = cA) := Lib.hid (by
                  have h := three_sum H3T.out kk rr
                  rw [hC, hcA, ← h]
                  show 0 + _ + _ + _ = _
                  simp)
                have HFOR : Hid (∀ W x, x.length = 32 → Tl W S g 7 T → Calls Try.prog 11 #[.pointer (some ⟨g, 0, none⟩), .int .i64 kk, .int .i64 rr, .agg (x.map by8).toArray] W fun e w' => e = .returned (.int .i64 (C x : Nat)) ∧ Fr [] W w') := Lib.hid (fun W x hx h => by
                  rw [hC]
                  exact for_any W S g 7 T h kk rr HKI.out HRI.out x hx)
                obtain ⟨M, hM⟩ : ∃ M, M = mstV T kk rr := ⟨_, rfl⟩
                have HML : Hid (M.length = 32) := Lib.hid (by rw [hM]; exact mstV_len HGD.out kk rr)
                have HMO : Hid (∀ W, Tl W S g 7 T → Calls Try.prog 12 #[.pointer (some ⟨g, 0, none⟩), .int .i64 kk, .int .i64 rr] W fun e w' => e = .returned (.tuple #[.agg (M.map by8).toArray, .int .i64 (C M : Nat)]) ∧ Fr [] W w') := Lib.hid (fun W h => by
                  rw [hM, hC]
                  exact most_any W S g 7 T h HOK.out kk rr HKI.out HRI.out)
                have HAL : Hid (∀ W, Tl W S g 7 T → Calls Try.prog 9 #[.pointer (some ⟨g, 0, none⟩), .int .i64 kk, .int .i64 rr] W fun e w' => e = .returned (.int .i64 (cA : Nat)) ∧ W = w') := Lib.hid (fun W h => by
                  rw [hcA]
                  exact all_any W S g 7 T h HOK.out kk rr HKI.out HRI.out)
                obtain ⟨q0, hq0⟩ : ∃ q0, q0 = heardV T rr := ⟨_, rfl⟩
                obtain ⟨q1, hq1⟩ : ∃ q1, q1 = heardV T ((rr : Int) + 1) := ⟨_, rfl⟩
                have HH0 : Hid (∀ W, Tl W S g 7 T → Calls Try.prog 14 #[.pointer (some ⟨g, 0, none⟩), .int .i64 rr] W fun e w' => e = .returned (.int .i64 (q0 : Nat)) ∧ W = w') := Lib.hid (fun W h => by
                  rw [hq0]
                  exact heard_any W S g 7 T h rr)
                have HH1 : Hid (∀ W, Tl W S g 7 T → Calls Try.prog 14 #[.pointer (some ⟨g, 0, none⟩), .int .i64 ((rr : Int) + 1)] W fun e w' => e = .returned (.int .i64 (q1 : Nat)) ∧ W = w') := Lib.hid (fun W h => by
                  rw [hq1]
                  exact heard_any W S g 7 T h ((rr : Int) + 1))
                have HQ : Hid (q1 ≤ q0 ∧ cA ≤ q0 ∧ q0 ≤ 7) := Lib.hid ⟨by rw [hq0, hq1]; exact heard_mono T _ _ (by omega), by rw [hq0, hcA]; exact all_heard HGD.out (by omega) kk rr (by omega), by rw [hq0]; exact heard_le (n := 7) HGD.out (by omega) rr⟩
                have HZ : Hid (C M = 0 → cA = 0 ∧ M = zh32) := Lib.hid (fun h => by
                  have hb := (mst_best HGD.out kk rr).most
                  rw [← hC, ← hM] at hb
                  have e : cA = 0 := by
                    rw [← HS3.out]
                    exact s3_zero C (fun x => by have := hb x; omega) 3
                  exact ⟨e, by rw [hM]; exact mst_zero (by rw [← hcA]; exact e)⟩)
                clear hC hcA hM hq0 hq1
                go_wp2_with fail
                go_loopw [12, 13] (fun s12 s13 wh => ∃ q : Nat, q ≤ 3 ∧ s13 = .int .i64 q ∧ s12 = .int .i64 (s3 C q : Nat) ∧ Tl wh S g 7 T ∧ Blk wh g3 24 #[.int .i64 2, .int .i64 1] ∧ Fr [] w wh) (fun _ s13 _ => 3 - (intOf s13).toNat)
                case atStart => exact ⟨0, by omega, rfl, rfl, HTx.out, HBx.out, HFx.out⟩
                case round =>
                  obtain ⟨q, hq3, rfl, rfl, h1, h2, h3⟩ := hrel
                  rename World => wh
                  have HTh := Lib.hid h1
                  have HBh := Lib.hid h2
                  have HFh := Lib.hid h3
                  clear h1 h2 h3
                  have HSB : Hid (s3 C q ≤ 180) := Lib.hid (s3_le C HCB.out q hq3)
                  by_cases hq : q < 3
                  · have hqi : (q : Int) < 3 := by omega
                    have hs64 : ((s3 C q : Nat) : Int) ≤ 180 := by have := HSB.out; omega
                    have HBU : Hid (Try.prog.built 30 [(0, .int .u8 (q : Int))] = some ((h1b (UInt8.ofNat q)).map by8).toArray) := Lib.hid (by
                      have h := built_h (UInt8.ofNat q)
                      unfold by8 at h
                      rw [UInt8.toNat_ofNat', Nat.mod_eq_of_lt (by omega)] at h
                      exact h)
                    have hcx : ((C (h1b (UInt8.ofNat q)) : Nat) : Int) ≤ 60 := by have := HCB.out (h1b (UInt8.ofNat q)); omega
                    go_wp2_with (refine wpList_builtg rfl 30 _ rfl _ _ HBU.out rfl ?_)
                    refine (HFOR.out wh (h1b (UInt8.ofNat q)) (h1b_len _) HTh.out).mono ?_
                    rintro e wj ⟨rfl, hfj⟩
                    have HTj := Lib.hid (HTh.out.keep hfj (by simp))
                    have HBj := Lib.hid (HBh.out.keep hfj (by simp))
                    have HFj := Lib.hid (HFh.out.and hfj (by simp))
                    clear hfj
                    go_wp2_with fail
                    go_roundw
                    case rel => exact ⟨q + 1, by omega, by go_num, by show _ = Value.int .i64 ((s3 C q + C (h1b (UInt8.ofNat q)) : Nat) : Int); go_num, HTj.out, HBj.out, HFj.out⟩
                    case measure => simp [intOf]; omega
                  · have hqe : q = 3 := by omega
                    subst hqe
                    rw [HS3.out]
                    have hc7 : (cA : Int) ≤ 7 := by have := HQ.out; omega
                    have hnn : ((cA : Int) != (cA : Int)) = false := by simp
                    have hd7 : decide (7 < cA) = false := decide_eq_false (by have := HQ.out; omega)
                    have hd7i : decide ((7 : Int) < (cA : Int)) = false := decide_eq_false (by omega)
                    have hdq : decide (q0 < q1) = false := decide_eq_false (by have := HQ.out; omega)
                    have hdqi : decide ((q0 : Int) < (q1 : Int)) = false := decide_eq_false (by have := HQ.out; omega)
                    have hda : decide (q0 < cA) = false := decide_eq_false (by have := HQ.out; omega)
                    have hdai : decide ((q0 : Int) < (cA : Int)) = false := decide_eq_false (by have := HQ.out; omega)
                    have HHS : Hid ((Try.prog.info? 30).map (·.size) = some (M.map by8).toArray.size) := Lib.hid (by rw [List.size_toArray, List.length_map, HML.out]; kernel_rfl)
                    have HHZ : Hid (zeroH.size = (M.map by8).toArray.size) := Lib.hid (by rw [show zeroH.size = 32 from rfl, List.size_toArray, List.length_map, HML.out])
                    have HHA : Hid (((M.map by8).toArray.all (·.oneCell')) = true) := Lib.hid (all_oneCell_toArray (by8_one M))
                    have HRM : Hid (RowTy Try.prog 30 (M.map by8).length) := Lib.hid (row_hash.of (by rw [List.length_map]; exact HML.out))
                    clear hq
                    go_wp2_with fail
                    refine (HMO.out wh HTh.out).mono ?_
                    rintro e w1 ⟨rfl, hf1⟩
                    have HT1 := Lib.hid (HTh.out.keep hf1 (by simp))
                    have HB1 := Lib.hid (HBh.out.keep hf1 (by simp))
                    have HF1 := Lib.hid (HFh.out.and hf1 (by simp))
                    clear hf1
                    go_upto_region 27 with (refine wpList_store_blk rfl 30 _ _ rfl w1.heap.size (M.map by8).toArray rfl rfl 30 zeroH (Blk.new w1 _ _) HHS.out HHZ.out HHA.out ?_; intro w2 hb2 hf2)
                    have HFs2 : Hid (Fr [] w1 w2) := Lib.hid (((Fr.refl [] w1).alloc _).and hf2 (by simp))
                    have HRg : Hid (w2.rangeAt w1.heap.size 0 (M.map by8)) := Lib.hid hb2.range
                    have HT2 := Lib.hid (HT1.out.keep HFs2.out (by simp))
                    have HB2 := Lib.hid (HB1.out.keep HFs2.out (by simp))
                    have HF2 := Lib.hid (HF1.out.and HFs2.out (by simp))
                    obtain ⟨gm, hgm⟩ : ∃ gm, gm = w1.heap.size := ⟨_, rfl⟩
                    rw [← hgm] at HRg ⊢
                    clear hb2 hf2 hgm
                    go_wp2_with fail
                    refine (HAL.out w2 HT2.out).mono ?_
                    rintro e w3 ⟨rfl, rfl⟩
                    go_wp2_with (refine wpList_row rfl 24 _ rfl _ _ rfl _ (Blk.range HB2.out) row_conf2 ?_)
                    refine (HN7.out w2).mono ?_
                    rw [show (3 : Int) * 2 + 1 = 7 by decide]
                    rintro e w3 ⟨rfl, hf3⟩
                    have HT3 := Lib.hid (HT2.out.keep hf3 (by simp))
                    have HB3 := Lib.hid (HB2.out.keep hf3 (by simp))
                    have HF3 := Lib.hid (HF2.out.and hf3 (by simp))
                    have HRg3 : Hid (w3.rangeAt gm 0 (M.map by8)) := Lib.hid (hf3.range HRg.out (by simp))
                    clear hf3
                    have hcm : ((C M : Nat) : Int) ≤ 60 := by have := HCB.out M; omega
                    by_cases hz : C M = 0
                    · obtain ⟨ha0, hm0⟩ := HZ.out hz
                      have hdz : decide (0 < C M) = false := decide_eq_false (by omega)
                      have hdzi : decide ((0 : Int) < ((C M : Nat) : Int)) = false := decide_eq_false (by omega)
                      have hez : (((C M : Nat) : Int) == 0) = true := by simp; omega
                      have haz : ((cA : Int) != 0) = false := by simp; omega
                      have hq : ∀ W : World, (Op.equalIn 10000 30 (.agg (M.map by8).toArray) (.agg zeroH)).run Try.prog W = .ok true W := fun W => by
                        have h := eql_hash M zh32 HML.out rfl 9998 W
                        rw [show decide (M = zh32) = true by simp [hm0]] at h
                        exact h
                      have HBZ : Hid (Try.prog.built 30 [] = some zeroH) := Lib.hid (by kernel_rfl)
                      clear ha0 hm0 hz
                      go_wp2_with (first
                        | (refine wpList_row rfl 30 (.tmp 14) rfl gm 0 rfl (M.map by8) HRg3.out HRM.out ?_)
                        | (refine wpList_builtg rfl 30 _ rfl _ _ HBZ.out rfl ?_))
                      refine (HH1.out w3 HT3.out).mono ?_
                      rintro e w4 ⟨rfl, rfl⟩
                      go_wp2_with fail
                      refine (HH0.out w3 HT3.out).mono ?_
                      rintro e w4 ⟨rfl, rfl⟩
                      go_wp2_with fail
                      refine (HAL.out w3 HT3.out).mono ?_
                      rintro e w4 ⟨rfl, rfl⟩
                      go_wp2_with fail
                      refine (HH0.out w3 HT3.out).mono ?_
                      rintro e w4 ⟨rfl, rfl⟩
                      go_wp2_with fail
                      go_roundw
                      case rel => exact ⟨rr + 1, by omega, by go_num, HT3.out, HB3.out, HF3.out⟩
                      case measure => simp [intOf]; omega
                    · have hdz : decide (0 < C M) = true := decide_eq_true (by omega)
                      have hdzi : decide ((0 : Int) < ((C M : Nat) : Int)) = true := decide_eq_true (by omega)
                      have hez : (((C M : Nat) : Int) == 0) = false := by simp; omega
                      have hcc : (((C M : Nat) : Int) != ((C M : Nat) : Int)) = false := by simp
                      go_wp2_with (refine wpList_row rfl 30 (.tmp 14) rfl gm 0 rfl (M.map by8) HRg3.out HRM.out ?_)
                      refine (HFOR.out w3 M HML.out HT3.out).mono ?_
                      rintro e w4 ⟨rfl, hf4⟩
                      have HT3 := Lib.hid (HT3.out.keep hf4 (by simp))
                      have HB3 := Lib.hid (HB3.out.keep hf4 (by simp))
                      have HF3 := Lib.hid (HF3.out.and hf4 (by simp))
                      clear hf4
                      generalize w4 = w3' at *
                      go_wp2_with fail
                      refine (HH1.out w3' HT3.out).mono ?_
                      rintro e w5 ⟨rfl, rfl⟩
                      go_wp2_with fail
                      refine (HH0.out w3' HT3.out).mono ?_
                      rintro e w5 ⟨rfl, rfl⟩
                      go_wp2_with fail
                      refine (HAL.out w3' HT3.out).mono ?_
                      rintro e w5 ⟨rfl, rfl⟩
                      go_wp2_with fail
                      refine (HH0.out w3' HT3.out).mono ?_
                      rintro e w5 ⟨rfl, rfl⟩
                      go_wp2_with fail
                      go_roundw
                      case rel => exact ⟨rr + 1, by omega, by go_num, HT3.out, HB3.out, HF3.out⟩
                      case measure => simp [intOf]; omega
              · have hre : rr = 4 := by omega
                subst hre
                go_wp2_with fail
                go_roundw
                case rel => exact ⟨kk + 1, by omega, by omega, by go_num, HTx.out, HBx.out, HFx.out⟩
                case measure => simp [intOf]; omega
          · have hke : kk = 3 := by omega
            subst hke
            have hq8 : Hid (heardV T 0 ≤ 7) := Lib.hid (heard_le (n := 7) HGD.out (by omega) 0)
            obtain ⟨q0, hq0⟩ : ∃ q0, q0 = heardV T 0 := ⟨_, rfl⟩
            have HH0 : Hid (∀ W, Tl W S g 7 T → Calls Try.prog 14 #[.pointer (some ⟨g, 0, none⟩), .int .i64 0] W fun e w' => e = .returned (.int .i64 (q0 : Nat)) ∧ W = w') := Lib.hid (fun W h => by
              rw [hq0]
              exact heard_any W S g 7 T h 0)
            rw [← hq0] at hq8
            have HWI : Hid (∀ W, Calls Try.prog 15 #[.int .i64 (q0 : Int), .int .i64 8] W fun e w' => e = .returned (.int .i64 (q0 : Int)) ∧ W = w') := Lib.hid (fun W => by
              have h := within_pos (q0 : Int) 8 (by omega) (by have := hq8.out; omega) (by omega) (by omega) W
              rw [show (q0 : Int) % 8 = (q0 : Int) by have := hq8.out; omega] at h
              exact h)
            clear hq0
            have hqq : ((q0 : Int) == (q0 : Int)) = true := by simp
            go_wp2_with fail
            refine (HH0.out wk HTk.out).mono ?_
            rintro e wz ⟨rfl, rfl⟩
            go_wp2_with fail
            refine (HWI.out wk).mono ?_
            rintro e wz ⟨rfl, rfl⟩
            go_wp2_with fail
            refine (HH0.out wk HTk.out).mono ?_
            rintro e wz ⟨rfl, rfl⟩
            go_wp2_with fail
            refine (twakes_any wk).mono ?_
            rintro e wz ⟨rfl, hfz⟩
            have HFz := Lib.hid (HFk.out.and hfz (by simp))
            clear hfz
            go_wp2_with fail
            go_ret
            exact ⟨rfl, HFz.out⟩
end Go.Proofs.Ytfmkegblhpnfcaa

namespace Go.Proofs.Ytfmkegblhpnfcaa
set_option maxRecDepth 100000
open Go.RowKit
/-- both tallies hold the votes T -/
structure Bth (w : World) (S R : List Nat) (g gr : Nat) (f c : Int) (T : List Tv) : Prop where
  t : Tl w S g (3 * f + 1) T
  r : Rt w R gr f c T
  d : ∀ y ∈ S, ¬ y ∈ R
  gd : Gd (3 * f + 1) T
theorem Bth.keep {w w' : World} {S R X : List Nat} {g gr : Nat} {f c : Int} {T : List Tv} (h : Bth w S R g gr f c T) (hf : Fr X w w') (hs : ∀ y ∈ S, ¬ y ∈ X) (hr : ∀ y ∈ R, ¬ y ∈ X) : Bth w' S R g gr f c T :=
  ⟨h.t.keep hf hs, h.r.keep hf hr, h.d, h.gd⟩
theorem Rt.gmem {w : World} {S : List Nat} {g : Nat} {f c : Int} {T : List Tv} (h : Rt w S g f c T) : g ∈ S := by
  obtain ⟨A, d, rfl, _⟩ := h
  simp
set_option maxHeartbeats 8000000 in
theorem play_any (w : World) (S R : List Nat) (g gr : Nat) (f c : Int) (T : List Tv) (h : Bth w S R g gr f c T) (hf : 1 ≤ f ∧ f ≤ 21) (hT : T.length ≤ 1000) (A : Option Addr) (n0 c0 : Nat) (l : List V3) (hl : V3L w A n0 l) (hA : 0 < n0 → ∀ a, A = some a → ¬ a.block ∈ gr :: S) (hn : n0 ≤ maxLen) :
    Calls Try.prog 18 #[.pointer (some ⟨g, 0, none⟩), .pointer (some ⟨gr, 0, none⟩), .slice A n0 c0] w fun e w' => e = .returned (.bool true) ∧ ∃ T' R', Bth w' S R' g gr f c T' ∧ T'.length ≤ T.length + 40 ∧ (∀ y ∈ R', y ∈ R ∨ w.heap.size ≤ y) ∧ Fr (gr :: S) w w' := by
  have HL := Lib.hid hl
  have HA := Lib.hid hA
  have HN0 := Lib.hid hn
  have H0 := Lib.hid h
  have HFF := Lib.hid hf
  have HTT := Lib.hid hT
  have HGR := Lib.hid h.r.gmem
  have HSL := Lib.hid h.t.lt
  have HRL := Lib.hid h.r.lt
  clear hl hA hn h hf hT
  go_enter Try.func18, Try.ntmps18
  go_wp2_with fail
  go_loopw [7] (fun s7 wr => ∃ (k : Nat) (T' : List Tv) (R' : List Nat), k ≤ 40 ∧ s7 = .int .i64 k ∧ Hid (T'.length ≤ T.length + k) ∧ Hid (Bth wr S R' g gr f c T') ∧ Hid (∀ y ∈ R', y ∈ R ∨ w.heap.size ≤ y) ∧ Hid (Fr (gr :: S) w wr)) (fun s7 _ => 40 - (intOf s7).toNat)
  case atStart => exact ⟨0, T, R, by omega, rfl, Lib.hid (by omega), H0, Lib.hid (fun y hy => Or.inl hy), Lib.hid (Fr.refl _ _)⟩
  case round =>
    obtain ⟨k, U, V, hk, rfl, HUL, HB, HV, HF⟩ := hrel
    rename World => wr
    have hk40 : (k : Int) ≤ 40 := by omega
    have hk0 : (0 : Int) ≤ k := by omega
    have hn064 : (n0 : Int) ≤ 9223372036854775807 := by have := HN0.out; unfold maxLen at this; omega
    by_cases hlt1 : k < n0
    case neg =>
      have hd1 : decide (k < n0) = false := decide_eq_false hlt1
      go_wp2_with fail
      go_ret
      exact ⟨rfl, U, V, HB.out, by have := HUL.out; omega, HV.out, HF.out⟩
    by_cases hlt2 : k < 40
    case neg =>
      have hd1 : decide (k < n0) = true := decide_eq_true hlt1
      have hd2 : decide ((k : Int) < 40) = false := decide_eq_false (by omega)
      go_wp2_with fail
      go_ret
      exact ⟨rfl, U, V, HB.out, by have := HUL.out; omega, HV.out, HF.out⟩
    have hd1 : decide (k < n0) = true := decide_eq_true hlt1
    have hd2 : decide ((k : Int) < 40) = true := decide_eq_true (by omega)
    obtain ⟨ad, v, rfl, hv, hvl, hvo, hcells⟩ := (HL.out.keep HF.out (fun a ha => HA.out (by omega) a ha) (fun _ _ q => q)).at hlt1
    have HVO := Lib.hid hvo
    have HCL := Lib.hid hcells
    have HVL := Lib.hid hvl
    clear hvo hcells hvl hv
    have HRV : Hid (RowTy Try.prog 32 v.cells.length) := Lib.hid (row_v3.of HVL.out)
    obtain ⟨u, hu⟩ : ∃ u, u = cutV v := ⟨_, rfl⟩
    have HUO : Hid u.Ok := Lib.hid (by rw [hu]; exact cutV_ok HVO.out)
    have HCUT := Lib.hid (fun W => vcut_any v HVO.out W)
    rw [← hu] at HCUT
    clear hu
    have HUS := Lib.hid (v3_size HUO.out)
    have HUE : Hid (zV3.cells.toArray.size = u.cells.toArray.size) := Lib.hid (by rw [List.size_toArray, List.size_toArray, V3.len HUO.out]; rfl)
    have HUA := Lib.hid u.one
    go_wp2_with (refine wpList_cells rfl 32 _ rfl _ rfl v.cells HCL.out HRV.out ?_)
    refine (HCUT.out wr).mono ?_
    rintro e w1 ⟨rfl, hf1⟩
    have HF1 := Lib.hid hf1
    clear hf1
    go_upto_region 5 with (refine wpList_store_blk rfl 32 _ _ rfl w1.heap.size u.cells.toArray rfl rfl 32 zV3.cells.toArray (Blk.new w1 _ _) HUS.out HUE.out HUA.out ?_; intro w2 hb2 hf2)
    have hf2' : Fr [] w1 w2 := ((Fr.refl [] w1).alloc _).and hf2 (by simp)
    have HF2 := Lib.hid (HF1.out.and hf2' (by simp))
    have HB2 := Lib.hid (HB.out.keep HF2.out (by simp) (by simp))
    have HSL2 := Lib.hid (fun y (hy : y ∈ gr :: S) => (show y < w1.heap.size from by
      have h1 := HF1.out.size
      rcases List.mem_cons.1 hy with rfl | hy
      · have := HB.out.r.lt _ HB.out.r.gmem; omega
      · have := HB.out.t.lt _ hy; omega))
    have HVL2 := Lib.hid (fun y (hy : y ∈ V) => (show y < w1.heap.size from by
      have h1 := HF1.out.size
      have := HB.out.r.lt _ hy
      omega))
    have HW1 : Hid (wr.heap.size ≤ w1.heap.size) := Lib.hid HF1.out.size
    have HBU := Lib.hid hb2
    obtain ⟨gb, hgb⟩ : ∃ gb, gb = w1.heap.size := ⟨_, rfl⟩
    rw [← hgb] at HSL2 HVL2 HBU HW1 ⊢
    clear hb2 hf2 hf2' hgb
    have HFW2 := Lib.hid (HF.out.trans (HF2.out.mono (T := gr :: S) (by simp)) (fun x hx _ => hx))
    have u0 : w2.cell? ⟨gb, 0, none⟩ = some (.int .i64 u.k) := (HBU.out.cell 0).trans rfl
    have u1 : w2.cell? ⟨gb, 1, none⟩ = some (.int .i64 u.r) := (HBU.out.cell 1).trans rfl
    have u2' : w2.cell? ⟨gb, 2, none⟩ = some (.int .i64 u.p) := (HBU.out.cell 2).trans rfl
    have HRH : Hid (w2.rangeAt gb 3 (u.h.map by8)) := Lib.hid (V3.range3 HBU.out HUO.out.h)
    have HUH : Hid ((u.h.map by8).length = 32) := Lib.hid (by rw [List.length_map]; exact HUO.out.h)
    have HNS : Hid (¬ gb ∈ gr :: S) := Lib.hid (fun hm => by have := HSL2.out _ hm; omega)
    refine wp_region_held_drew (S := Fr (gr :: S) w2) (by kernel_rfl) (Fr.drew (Fr.refl _ w2)) (fun hHeld => ?_)
    have HFD : Hid (Fr [] w2 w2.drew) := Lib.hid (Fr.drew (Fr.refl _ w2))
    generalize w2.drew = wd at *
    refine run_at (i := 0) (v := ?_) rfl (by kernel_rfl) (by rfl) (fun _ _ _ h => h) hHeld (fun w1 hw1 => ?_) ?_
    rotate_left 1
    · skip
      go_simp
      (try (first | with_reducible rfl | (apply And.intro <;> rfl)))
    simp only [Act.put, List.setIfInBounds_toArray, List.set_cons_zero, List.set_cons_succ]
    refine run_at (i := 1) (v := ?_) rfl (by kernel_rfl) (by rfl) (fun _ _ _ h => h) hHeld (fun w1 hw1 => ?_) ?_
    rotate_left 1
    · skip
      go_simp
      (try (first | with_reducible rfl | (apply And.intro <;> rfl)))
    simp only [Act.put, List.setIfInBounds_toArray, List.set_cons_zero, List.set_cons_succ]
    refine run_at (i := 2) (v := ?_) rfl (by kernel_rfl) (by rfl) (fun _ _ _ h => h) hHeld (fun w1 hw1 => ?_) ?_
    rotate_left 1
    · skip
      have hcw0 := hw1.cell (u0) (by first | (simp; done) | exact HNS.out | exact HNW.out | (intro hm; have hlt := HSB.out _ hm; (try dsimp only at hlt); omega))
      go_simp
      (try (first | with_reducible rfl | (apply And.intro <;> rfl)))
    simp only [Act.put, List.setIfInBounds_toArray, List.set_cons_zero, List.set_cons_succ]
    refine run_at (i := 3) (v := ?_) rfl (by kernel_rfl) (by rfl) (fun _ _ _ h => h) hHeld (fun w1 hw1 => ?_) ?_
    rotate_left 1
    · skip
      go_simp
      (try (first | with_reducible rfl | (apply And.intro <;> rfl)))
    simp only [Act.put, List.setIfInBounds_toArray, List.set_cons_zero, List.set_cons_succ]
    refine run_at (i := 4) (v := ?_) rfl (by kernel_rfl) (by rfl) (fun _ _ _ h => h) hHeld (fun w1 hw1 => ?_) ?_
    rotate_left 1
    · skip
      have hcw0 := hw1.cell (u1) (by first | (simp; done) | exact HNS.out | exact HNW.out | (intro hm; have hlt := HSB.out _ hm; (try dsimp only at hlt); omega))
      go_simp
      (try (first | with_reducible rfl | (apply And.intro <;> rfl)))
    simp only [Act.put, List.setIfInBounds_toArray, List.set_cons_zero, List.set_cons_succ]
    refine run_at (i := 5) (v := ?_) rfl (by kernel_rfl) (by rfl) (fun _ _ _ h => h) hHeld (fun w1 hw1 => ?_) ?_
    rotate_left 1
    · skip
      go_simp
      (try (first | with_reducible rfl | (apply And.intro <;> rfl)))
    simp only [Act.put, List.setIfInBounds_toArray, List.set_cons_zero, List.set_cons_succ]
    refine run_at (i := 6) (v := ?_) rfl (by kernel_rfl) (by rfl) (fun _ _ _ h => h) hHeld (fun w1 hw1 => ?_) ?_
    rotate_left 1
    · skip
      have hcw0 := hw1.cell (u2') (by first | (simp; done) | exact HNS.out | exact HNW.out | (intro hm; have hlt := HSB.out _ hm; (try dsimp only at hlt); omega))
      go_simp
      (try (first | with_reducible rfl | (apply And.intro <;> rfl)))
    simp only [Act.put, List.setIfInBounds_toArray, List.set_cons_zero, List.set_cons_succ]
    refine run_at (i := 7) (v := ?_) rfl (by kernel_rfl) (by rfl) (fun _ _ _ h => h) hHeld (fun w1 hw1 => ?_) ?_
    rotate_left 1
    · skip
      go_simp
      (try (first | with_reducible rfl | (apply And.intro <;> rfl)))
    simp only [Act.put, List.setIfInBounds_toArray, List.set_cons_zero, List.set_cons_succ]
    refine row_at (i := 8) rfl (by kernel_rfl) (by rfl) _ _ rfl _ _ rfl _ (fun w1 hw1 => hw1.range (HRH.out) (by first | (simp; done) | exact HNS.out | exact HNW.out | (intro hm; have hlt := HSB.out _ hm; (try dsimp only at hlt); omega))) (row_hash.of HUH.out) (fun _ _ _ h => h) hHeld ?_
    simp only [Act.put, List.setIfInBounds_toArray, List.set_cons_zero, List.set_cons_succ]
    refine run_at (i := 10) (v := ?_) rfl (by kernel_rfl) (by rfl) (fun _ _ _ h => h) hHeld (fun w1 hw1 => ?_) ?_
    rotate_left 1
    · skip
      go_simp
      (try (first | with_reducible rfl | (apply And.intro <;> rfl)))
    simp only [Act.put, List.setIfInBounds_toArray, List.set_cons_zero, List.set_cons_succ]
    refine run_at (i := 11) (v := ?_) rfl (by kernel_rfl) (by rfl) (fun _ _ _ h => h) hHeld (fun w1 hw1 => ?_) ?_
    rotate_left 1
    · skip
      go_simp
      (try (first | with_reducible rfl | (apply And.intro <;> rfl)))
    simp only [Act.put, List.setIfInBounds_toArray, List.set_cons_zero, List.set_cons_succ]
    refine run_at (i := 12) (v := ?_) rfl (by kernel_rfl) (by rfl) (fun _ _ _ h => h) hHeld (fun w1 hw1 => ?_) ?_
    rotate_left 1
    · skip
      have hcw0 := hw1.cell (u0) (by first | (simp; done) | exact HNS.out | exact HNW.out | (intro hm; have hlt := HSB.out _ hm; (try dsimp only at hlt); omega))
      go_simp
      (try (first | with_reducible rfl | (apply And.intro <;> rfl)))
    simp only [Act.put, List.setIfInBounds_toArray, List.set_cons_zero, List.set_cons_succ]
    refine run_at (i := 13) (v := ?_) rfl (by kernel_rfl) (by rfl) (fun _ _ _ h => h) hHeld (fun w1 hw1 => ?_) ?_
    rotate_left 1
    · skip
      go_simp
      (try (first | with_reducible rfl | (apply And.intro <;> rfl)))
    simp only [Act.put, List.setIfInBounds_toArray, List.set_cons_zero, List.set_cons_succ]
    refine run_at (i := 14) (v := ?_) rfl (by kernel_rfl) (by rfl) (fun _ _ _ h => h) hHeld (fun w1 hw1 => ?_) ?_
    rotate_left 1
    · skip
      have hcw0 := hw1.cell (u1) (by first | (simp; done) | exact HNS.out | exact HNW.out | (intro hm; have hlt := HSB.out _ hm; (try dsimp only at hlt); omega))
      go_simp
      (try (first | with_reducible rfl | (apply And.intro <;> rfl)))
    simp only [Act.put, List.setIfInBounds_toArray, List.set_cons_zero, List.set_cons_succ]
    refine run_at (i := 15) (v := ?_) rfl (by kernel_rfl) (by rfl) (fun _ _ _ h => h) hHeld (fun w1 hw1 => ?_) ?_
    rotate_left 1
    · skip
      go_simp
      (try (first | with_reducible rfl | (apply And.intro <;> rfl)))
    simp only [Act.put, List.setIfInBounds_toArray, List.set_cons_zero, List.set_cons_succ]
    refine run_at (i := 16) (v := ?_) rfl (by kernel_rfl) (by rfl) (fun _ _ _ h => h) hHeld (fun w1 hw1 => ?_) ?_
    rotate_left 1
    · skip
      have hcw0 := hw1.cell (u2') (by first | (simp; done) | exact HNS.out | exact HNW.out | (intro hm; have hlt := HSB.out _ hm; (try dsimp only at hlt); omega))
      go_simp
      (try (first | with_reducible rfl | (apply And.intro <;> rfl)))
    simp only [Act.put, List.setIfInBounds_toArray, List.set_cons_zero, List.set_cons_succ]
    refine run_at (i := 17) (v := ?_) rfl (by kernel_rfl) (by rfl) (fun _ _ _ h => h) hHeld (fun w1 hw1 => ?_) ?_
    rotate_left 1
    · skip
      go_simp
      (try (first | with_reducible rfl | (apply And.intro <;> rfl)))
    simp only [Act.put, List.setIfInBounds_toArray, List.set_cons_zero, List.set_cons_succ]
    refine row_at (i := 18) rfl (by kernel_rfl) (by rfl) _ _ rfl _ _ rfl _ (fun w1 hw1 => hw1.range (HRH.out) (by first | (simp; done) | exact HNS.out | exact HNW.out | (intro hm; have hlt := HSB.out _ hm; (try dsimp only at hlt); omega))) (row_hash.of HUH.out) (fun _ _ _ h => h) hHeld ?_
    simp only [Act.put, List.setIfInBounds_toArray, List.set_cons_zero, List.set_cons_succ]
    refine call_at (i := 9) (f := ?_) (args := ?_) rfl (by kernel_rfl) (by rfl) ?_ ?_
    rotate_left 2
    · go_simp
      (try (first | with_reducible rfl | (apply And.intro <;> rfl)))
    have HBd := Lib.hid (HB2.out.keep HFD.out (by simp) (by simp))
    refine (tadd_any wd S g (3 * f + 1) U HBd.out.t ⟨HB.out.gd, by have := HFF.out; omega, by have := HUL.out; have := HTT.out; omega⟩ u.k u.r u.p u.h HUO.out.h).mono ?_
    rintro e w3 ⟨rfl, ht3, hf3⟩
    have HT3 := Lib.hid ht3
    have HF3 := Lib.hid hf3
    refine ⟨_, rfl, hHeld.trans hf3 (fun x hx _ => List.mem_cons_of_mem _ hx), fun hHeld => ?_⟩
    clear ht3 hf3
    simp only [Act.put, List.setIfInBounds_toArray, List.set_cons_zero, List.set_cons_succ]
    refine call_at (i := 19) (f := ?_) (args := ?_) rfl (by kernel_rfl) (by rfl) ?_ ?_
    rotate_left 2
    · go_simp
      (try (first | with_reducible rfl | (apply And.intro <;> rfl)))
    refine (radd_any w3 V gr f c U (HBd.out.r.keep HF3.out (fun y hy hs => HB.out.d y hs hy)) (by have := HFF.out; omega) (by have := HUL.out; have := HTT.out; omega) u.k u.r u.p u.h HUO.out.h).mono ?_
    rintro e w4 ⟨rfl, ⟨V2, hr4, hv4⟩, hf4⟩
    have HR4 := Lib.hid hr4
    have HV4 := Lib.hid hv4
    have HF4 := Lib.hid hf4
    refine ⟨_, rfl, hHeld.trans hf4 (fun x hx _ => by simp at hx; simp [hx]), fun hHeld => ?_⟩
    clear hr4 hv4 hf4
    obtain ⟨m, hm⟩ : ∃ m, m = mayV (3 * f + 1) U u.k u.r u.p := ⟨_, rfl⟩
    rw [← hm]
    have HG2 : Hid (Gd (3 * f + 1) (addV (3 * f + 1) U u.k u.r u.p u.h)) := Lib.hid (HB.out.gd.add u.k u.r u.p HUO.out.h)
    have HLN2 : Hid ((addV (3 * f + 1) U u.k u.r u.p u.h).length ≤ T.length + (k + 1)) := Lib.hid (by have := addV_len (3 * f + 1) U u.k u.r u.p u.h; have := HUL.out; omega)
    generalize addV (3 * f + 1) U u.k u.r u.p u.h = U2 at *
    clear hm
    have hmm : (m != m) = false := by simp
    simp only [Act.put, List.setIfInBounds_toArray, List.set_cons_zero, List.set_cons_succ]
    refine run_at (i := 20) (v := ?_) rfl (by kernel_rfl) (by rfl) (fun _ _ _ h => h) hHeld (fun w1 hw1 => ?_) ?_
    rotate_left 1
    · skip
      go_simp
      (try (first | with_reducible rfl | (apply And.intro <;> rfl)))
    simp only [Act.put, List.setIfInBounds_toArray, List.set_cons_zero, List.set_cons_succ]
    refine wpAnyH_done (by kernel_rfl) ?_ _
    have HFW4 := Lib.hid (HFW2.out.trans hHeld (fun x hx _ => hx))
    have HRH4 := Lib.hid (hHeld.range HRH.out HNS.out)
    have v0 := hHeld.cell u0 HNS.out
    have v1 := hHeld.cell u1 HNS.out
    have HW24 : Hid (w2.heap.size ≤ w4.heap.size) := Lib.hid hHeld.size
    have HGB2 : Hid (gb < w2.heap.size) := Lib.hid HBU.out.lt
    have HVD : Hid (∀ y ∈ V2, y ∈ V ∨ w3.heap.size ≤ y) := HV4
    have HW3 : Hid (w2.heap.size ≤ w3.heap.size) := Lib.hid (by have h1 := HFD.out.size; have h2 := HF3.out.size; omega)
    have HB4 : Hid (Bth w4 S V2 g gr f c U2) := Lib.hid ⟨HT3.out.keep HF4.out (fun y hy hm => by
      simp at hm
      subst hm
      exact HB.out.d _ hy HB.out.r.gmem), HR4.out, fun y hy hm => by
      rcases HV4.out y hm with h | h
      · exact HB.out.d y hy h
      · have h1 := HB2.out.t.lt y hy
        have h2 := HW3.out
        omega, HG2.out⟩
    clear hHeld u0 u1 u2' hmm
    go_upto_region 7 with (fail)
    obtain ⟨n1, hn1⟩ : ∃ n1, cntH U2 u.k u.r u.h = n1 := ⟨_, rfl⟩
    obtain ⟨n2, hn2⟩ : ∃ n2, cntA U2 u.k u.r = n2 := ⟨_, rfl⟩
    obtain ⟨n3, hn3⟩ : ∃ n3, heardV U2 u.r = n3 := ⟨_, rfl⟩
    have HN1 := Lib.hid hn1
    have HN2 := Lib.hid hn2
    have HN3 := Lib.hid hn3
    clear hn1 hn2 hn3
    have b1 : ((n1 : Int) != (n1 : Int)) = false := by simp
    have b2 : ((n2 : Int) != (n2 : Int)) = false := by simp
    have b3 : ((n3 : Int) != (n3 : Int)) = false := by simp
    have HU2 : Hid (U2.length ≤ 1040) := Lib.hid (by have := HLN2.out; have := HTT.out; omega)
    have HOK : Hid (TOk (3 * f + 1) U2) := Lib.hid ⟨HG2.out, by have := HFF.out; omega, by have := HU2.out; omega⟩
    have HHD : Hid (∀ x, (hrdL x U2.reverse).length = heardV U2 x) := Lib.hid (fun x => hrd_heard HG2.out (by have := HFF.out; omega) x)
    refine wp_region_held_drew (S := Fr [] w4) (by kernel_rfl) (Fr.drew (Fr.refl _ w4)) (fun hHeld => ?_)
    refine run_at (i := 0) (v := ?_) rfl (by kernel_rfl) (by rfl) (fun _ _ _ h => h) hHeld (fun w1 hw1 => ?_) ?_
    rotate_left 1
    · skip
      go_simp
      (try (first | with_reducible rfl | (apply And.intro <;> rfl)))
    simp only [Act.put, List.setIfInBounds_toArray, List.set_cons_zero, List.set_cons_succ]
    refine run_at (i := 1) (v := ?_) rfl (by kernel_rfl) (by rfl) (fun _ _ _ h => h) hHeld (fun w1 hw1 => ?_) ?_
    rotate_left 1
    · skip
      go_simp
      (try (first | with_reducible rfl | (apply And.intro <;> rfl)))
    simp only [Act.put, List.setIfInBounds_toArray, List.set_cons_zero, List.set_cons_succ]
    refine run_at (i := 2) (v := ?_) rfl (by kernel_rfl) (by rfl) (fun _ _ _ h => h) hHeld (fun w1 hw1 => ?_) ?_
    rotate_left 1
    · skip
      have hcw0 := hw1.cell (v0) (by first | (simp; done) | exact HNS.out | exact HNW.out | (intro hm; have hlt := HSB.out _ hm; (try dsimp only at hlt); omega))
      go_simp
      (try (first | with_reducible rfl | (apply And.intro <;> rfl)))
    simp only [Act.put, List.setIfInBounds_toArray, List.set_cons_zero, List.set_cons_succ]
    refine run_at (i := 3) (v := ?_) rfl (by kernel_rfl) (by rfl) (fun _ _ _ h => h) hHeld (fun w1 hw1 => ?_) ?_
    rotate_left 1
    · skip
      go_simp
      (try (first | with_reducible rfl | (apply And.intro <;> rfl)))
    simp only [Act.put, List.setIfInBounds_toArray, List.set_cons_zero, List.set_cons_succ]
    refine run_at (i := 4) (v := ?_) rfl (by kernel_rfl) (by rfl) (fun _ _ _ h => h) hHeld (fun w1 hw1 => ?_) ?_
    rotate_left 1
    · skip
      have hcw0 := hw1.cell (v1) (by first | (simp; done) | exact HNS.out | exact HNW.out | (intro hm; have hlt := HSB.out _ hm; (try dsimp only at hlt); omega))
      go_simp
      (try (first | with_reducible rfl | (apply And.intro <;> rfl)))
    simp only [Act.put, List.setIfInBounds_toArray, List.set_cons_zero, List.set_cons_succ]
    refine run_at (i := 5) (v := ?_) rfl (by kernel_rfl) (by rfl) (fun _ _ _ h => h) hHeld (fun w1 hw1 => ?_) ?_
    rotate_left 1
    · skip
      go_simp
      (try (first | with_reducible rfl | (apply And.intro <;> rfl)))
    simp only [Act.put, List.setIfInBounds_toArray, List.set_cons_zero, List.set_cons_succ]
    refine row_at (i := 6) rfl (by kernel_rfl) (by rfl) _ _ rfl _ _ rfl _ (fun w1 hw1 => hw1.range (HRH4.out) (by first | (simp; done) | exact HNS.out | exact HNW.out | (intro hm; have hlt := HSB.out _ hm; (try dsimp only at hlt); omega))) (row_hash.of HUH.out) (fun _ _ _ h => h) hHeld ?_
    simp only [Act.put, List.setIfInBounds_toArray, List.set_cons_zero, List.set_cons_succ]
    refine run_at (i := 8) (v := ?_) rfl (by kernel_rfl) (by rfl) (fun _ _ _ h => h) hHeld (fun w1 hw1 => ?_) ?_
    rotate_left 1
    · skip
      go_simp
      (try (first | with_reducible rfl | (apply And.intro <;> rfl)))
    simp only [Act.put, List.setIfInBounds_toArray, List.set_cons_zero, List.set_cons_succ]
    refine run_at (i := 9) (v := ?_) rfl (by kernel_rfl) (by rfl) (fun _ _ _ h => h) hHeld (fun w1 hw1 => ?_) ?_
    rotate_left 1
    · skip
      go_simp
      (try (first | with_reducible rfl | (apply And.intro <;> rfl)))
    simp only [Act.put, List.setIfInBounds_toArray, List.set_cons_zero, List.set_cons_succ]
    refine run_at (i := 10) (v := ?_) rfl (by kernel_rfl) (by rfl) (fun _ _ _ h => h) hHeld (fun w1 hw1 => ?_) ?_
    rotate_left 1
    · skip
      have hcw0 := hw1.cell (v0) (by first | (simp; done) | exact HNS.out | exact HNW.out | (intro hm; have hlt := HSB.out _ hm; (try dsimp only at hlt); omega))
      go_simp
      (try (first | with_reducible rfl | (apply And.intro <;> rfl)))
    simp only [Act.put, List.setIfInBounds_toArray, List.set_cons_zero, List.set_cons_succ]
    refine run_at (i := 11) (v := ?_) rfl (by kernel_rfl) (by rfl) (fun _ _ _ h => h) hHeld (fun w1 hw1 => ?_) ?_
    rotate_left 1
    · skip
      go_simp
      (try (first | with_reducible rfl | (apply And.intro <;> rfl)))
    simp only [Act.put, List.setIfInBounds_toArray, List.set_cons_zero, List.set_cons_succ]
    refine run_at (i := 12) (v := ?_) rfl (by kernel_rfl) (by rfl) (fun _ _ _ h => h) hHeld (fun w1 hw1 => ?_) ?_
    rotate_left 1
    · skip
      have hcw0 := hw1.cell (v1) (by first | (simp; done) | exact HNS.out | exact HNW.out | (intro hm; have hlt := HSB.out _ hm; (try dsimp only at hlt); omega))
      go_simp
      (try (first | with_reducible rfl | (apply And.intro <;> rfl)))
    simp only [Act.put, List.setIfInBounds_toArray, List.set_cons_zero, List.set_cons_succ]
    refine run_at (i := 13) (v := ?_) rfl (by kernel_rfl) (by rfl) (fun _ _ _ h => h) hHeld (fun w1 hw1 => ?_) ?_
    rotate_left 1
    · skip
      go_simp
      (try (first | with_reducible rfl | (apply And.intro <;> rfl)))
    simp only [Act.put, List.setIfInBounds_toArray, List.set_cons_zero, List.set_cons_succ]
    refine row_at (i := 14) rfl (by kernel_rfl) (by rfl) _ _ rfl _ _ rfl _ (fun w1 hw1 => hw1.range (HRH4.out) (by first | (simp; done) | exact HNS.out | exact HNW.out | (intro hm; have hlt := HSB.out _ hm; (try dsimp only at hlt); omega))) (row_hash.of HUH.out) (fun _ _ _ h => h) hHeld ?_
    simp only [Act.put, List.setIfInBounds_toArray, List.set_cons_zero, List.set_cons_succ]
    refine call_at (i := 7) (f := ?_) (args := ?_) rfl (by kernel_rfl) (by rfl) ?_ ?_
    rotate_left 2
    · go_simp
      (try (first | with_reducible rfl | (apply And.intro <;> rfl)))
    have hc := for_any _ S g (3 * f + 1) U2 (HB4.out.t.keep hHeld (by simp)) u.k u.r HUO.out.k HUO.out.r u.h HUO.out.h
    rw [HN1.out] at hc
    refine hc.mono ?_
    rintro e x1 ⟨rfl, hfx⟩
    refine ⟨_, rfl, hHeld.and hfx (by simp), fun hHeld => ?_⟩
    clear hfx hc
    simp only [Act.put, List.setIfInBounds_toArray, List.set_cons_zero, List.set_cons_succ]
    refine call_at (i := 15) (f := ?_) (args := ?_) rfl (by kernel_rfl) (by rfl) ?_ ?_
    rotate_left 2
    · go_simp
      (try (first | with_reducible rfl | (apply And.intro <;> rfl)))
    have hc := rfor_any _ V2 gr f c U2 (HB4.out.r.keep hHeld (by simp)) (by have := HU2.out; omega) u.k u.r u.h HUO.out.h
    rw [HN1.out] at hc
    refine hc.mono ?_
    rintro e x2 ⟨rfl, hfx⟩
    refine ⟨_, rfl, hHeld.and hfx (by simp), fun hHeld => ?_⟩
    clear hfx hc
    simp only [Act.put, List.setIfInBounds_toArray, List.set_cons_zero, List.set_cons_succ]
    refine run_at (i := 16) (v := ?_) rfl (by kernel_rfl) (by rfl) (fun _ _ _ h => h) hHeld (fun w1 hw1 => ?_) ?_
    rotate_left 1
    · skip
      go_simp
      (try (first | with_reducible rfl | (apply And.intro <;> rfl)))
    simp only [Act.put, List.setIfInBounds_toArray, List.set_cons_zero, List.set_cons_succ]
    refine run_at (i := 17) (v := ?_) rfl (by kernel_rfl) (by rfl) (fun _ _ _ h => h) hHeld (fun w1 hw1 => ?_) ?_
    rotate_left 1
    · skip
      go_simp
      (try (first | with_reducible rfl | (apply And.intro <;> rfl)))
    simp only [Act.put, List.setIfInBounds_toArray, List.set_cons_zero, List.set_cons_succ]
    refine run_at (i := 18) (v := ?_) rfl (by kernel_rfl) (by rfl) (fun _ _ _ h => h) hHeld (fun w1 hw1 => ?_) ?_
    rotate_left 1
    · skip
      go_simp
      (try (first | with_reducible rfl | (apply And.intro <;> rfl)))
    simp only [Act.put, List.setIfInBounds_toArray, List.set_cons_zero, List.set_cons_succ]
    refine run_at (i := 19) (v := ?_) rfl (by kernel_rfl) (by rfl) (fun _ _ _ h => h) hHeld (fun w1 hw1 => ?_) ?_
    rotate_left 1
    · skip
      go_simp
      (try (first | with_reducible rfl | (apply And.intro <;> rfl)))
    simp only [Act.put, List.setIfInBounds_toArray, List.set_cons_zero, List.set_cons_succ]
    refine run_at (i := 20) (v := ?_) rfl (by kernel_rfl) (by rfl) (fun _ _ _ h => h) hHeld (fun w1 hw1 => ?_) ?_
    rotate_left 1
    · skip
      have hcw0 := hw1.cell (v0) (by first | (simp; done) | exact HNS.out | exact HNW.out | (intro hm; have hlt := HSB.out _ hm; (try dsimp only at hlt); omega))
      go_simp
      (try (first | with_reducible rfl | (apply And.intro <;> rfl)))
    simp only [Act.put, List.setIfInBounds_toArray, List.set_cons_zero, List.set_cons_succ]
    refine run_at (i := 21) (v := ?_) rfl (by kernel_rfl) (by rfl) (fun _ _ _ h => h) hHeld (fun w1 hw1 => ?_) ?_
    rotate_left 1
    · skip
      go_simp
      (try (first | with_reducible rfl | (apply And.intro <;> rfl)))
    simp only [Act.put, List.setIfInBounds_toArray, List.set_cons_zero, List.set_cons_succ]
    refine run_at (i := 22) (v := ?_) rfl (by kernel_rfl) (by rfl) (fun _ _ _ h => h) hHeld (fun w1 hw1 => ?_) ?_
    rotate_left 1
    · skip
      have hcw0 := hw1.cell (v1) (by first | (simp; done) | exact HNS.out | exact HNW.out | (intro hm; have hlt := HSB.out _ hm; (try dsimp only at hlt); omega))
      go_simp
      (try (first | with_reducible rfl | (apply And.intro <;> rfl)))
    simp only [Act.put, List.setIfInBounds_toArray, List.set_cons_zero, List.set_cons_succ]
    refine run_at (i := 24) (v := ?_) rfl (by kernel_rfl) (by rfl) (fun _ _ _ h => h) hHeld (fun w1 hw1 => ?_) ?_
    rotate_left 1
    · skip
      go_simp
      (try (first | with_reducible rfl | (apply And.intro <;> rfl)))
    simp only [Act.put, List.setIfInBounds_toArray, List.set_cons_zero, List.set_cons_succ]
    refine run_at (i := 25) (v := ?_) rfl (by kernel_rfl) (by rfl) (fun _ _ _ h => h) hHeld (fun w1 hw1 => ?_) ?_
    rotate_left 1
    · skip
      go_simp
      (try (first | with_reducible rfl | (apply And.intro <;> rfl)))
    simp only [Act.put, List.setIfInBounds_toArray, List.set_cons_zero, List.set_cons_succ]
    refine run_at (i := 26) (v := ?_) rfl (by kernel_rfl) (by rfl) (fun _ _ _ h => h) hHeld (fun w1 hw1 => ?_) ?_
    rotate_left 1
    · skip
      have hcw0 := hw1.cell (v0) (by first | (simp; done) | exact HNS.out | exact HNW.out | (intro hm; have hlt := HSB.out _ hm; (try dsimp only at hlt); omega))
      go_simp
      (try (first | with_reducible rfl | (apply And.intro <;> rfl)))
    simp only [Act.put, List.setIfInBounds_toArray, List.set_cons_zero, List.set_cons_succ]
    refine run_at (i := 27) (v := ?_) rfl (by kernel_rfl) (by rfl) (fun _ _ _ h => h) hHeld (fun w1 hw1 => ?_) ?_
    rotate_left 1
    · skip
      go_simp
      (try (first | with_reducible rfl | (apply And.intro <;> rfl)))
    simp only [Act.put, List.setIfInBounds_toArray, List.set_cons_zero, List.set_cons_succ]
    refine run_at (i := 28) (v := ?_) rfl (by kernel_rfl) (by rfl) (fun _ _ _ h => h) hHeld (fun w1 hw1 => ?_) ?_
    rotate_left 1
    · skip
      have hcw0 := hw1.cell (v1) (by first | (simp; done) | exact HNS.out | exact HNW.out | (intro hm; have hlt := HSB.out _ hm; (try dsimp only at hlt); omega))
      go_simp
      (try (first | with_reducible rfl | (apply And.intro <;> rfl)))
    simp only [Act.put, List.setIfInBounds_toArray, List.set_cons_zero, List.set_cons_succ]
    refine call_at (i := 23) (f := ?_) (args := ?_) rfl (by kernel_rfl) (by rfl) ?_ ?_
    rotate_left 2
    · go_simp
      (try (first | with_reducible rfl | (apply And.intro <;> rfl)))
    have hc := all_any _ S g (3 * f + 1) U2 (HB4.out.t.keep hHeld (by simp)) HOK.out u.k u.r HUO.out.k HUO.out.r
    rw [HN2.out] at hc
    refine hc.mono ?_
    rintro e x3 ⟨rfl, rfl⟩
    refine ⟨_, rfl, hHeld, fun hHeld => ?_⟩
    clear hc
    simp only [Act.put, List.setIfInBounds_toArray, List.set_cons_zero, List.set_cons_succ]
    refine call_at (i := 29) (f := ?_) (args := ?_) rfl (by kernel_rfl) (by rfl) ?_ ?_
    rotate_left 2
    · go_simp
      (try (first | with_reducible rfl | (apply And.intro <;> rfl)))
    have hc := rall_any _ V2 gr f c U2 (HB4.out.r.keep hHeld (by simp)) (by have := HU2.out; omega) u.k u.r
    rw [HN2.out] at hc
    refine hc.mono ?_
    rintro e x4 ⟨rfl, rfl⟩
    refine ⟨_, rfl, hHeld, fun hHeld => ?_⟩
    clear hc
    simp only [Act.put, List.setIfInBounds_toArray, List.set_cons_zero, List.set_cons_succ]
    refine run_at (i := 30) (v := ?_) rfl (by kernel_rfl) (by rfl) (fun _ _ _ h => h) hHeld (fun w1 hw1 => ?_) ?_
    rotate_left 1
    · skip
      go_simp
      (try (first | with_reducible rfl | (apply And.intro <;> rfl)))
    simp only [Act.put, List.setIfInBounds_toArray, List.set_cons_zero, List.set_cons_succ]
    refine run_at (i := 31) (v := ?_) rfl (by kernel_rfl) (by rfl) (fun _ _ _ h => h) hHeld (fun w1 hw1 => ?_) ?_
    rotate_left 1
    · skip
      go_simp
      (try (first | with_reducible rfl | (apply And.intro <;> rfl)))
    simp only [Act.put, List.setIfInBounds_toArray, List.set_cons_zero, List.set_cons_succ]
    refine run_at (i := 32) (v := ?_) rfl (by kernel_rfl) (by rfl) (fun _ _ _ h => h) hHeld (fun w1 hw1 => ?_) ?_
    rotate_left 1
    · skip
      go_simp
      (try (first | with_reducible rfl | (apply And.intro <;> rfl)))
    simp only [Act.put, List.setIfInBounds_toArray, List.set_cons_zero, List.set_cons_succ]
    refine run_at (i := 33) (v := ?_) rfl (by kernel_rfl) (by rfl) (fun _ _ _ h => h) hHeld (fun w1 hw1 => ?_) ?_
    rotate_left 1
    · skip
      go_simp
      (try (first | with_reducible rfl | (apply And.intro <;> rfl)))
    simp only [Act.put, List.setIfInBounds_toArray, List.set_cons_zero, List.set_cons_succ]
    refine run_at (i := 34) (v := ?_) rfl (by kernel_rfl) (by rfl) (fun _ _ _ h => h) hHeld (fun w1 hw1 => ?_) ?_
    rotate_left 1
    · skip
      go_simp
      (try (first | with_reducible rfl | (apply And.intro <;> rfl)))
    simp only [Act.put, List.setIfInBounds_toArray, List.set_cons_zero, List.set_cons_succ]
    refine run_at (i := 35) (v := ?_) rfl (by kernel_rfl) (by rfl) (fun _ _ _ h => h) hHeld (fun w1 hw1 => ?_) ?_
    rotate_left 1
    · skip
      have hcw0 := hw1.cell (v1) (by first | (simp; done) | exact HNS.out | exact HNW.out | (intro hm; have hlt := HSB.out _ hm; (try dsimp only at hlt); omega))
      go_simp
      (try (first | with_reducible rfl | (apply And.intro <;> rfl)))
    simp only [Act.put, List.setIfInBounds_toArray, List.set_cons_zero, List.set_cons_succ]
    refine run_at (i := 37) (v := ?_) rfl (by kernel_rfl) (by rfl) (fun _ _ _ h => h) hHeld (fun w1 hw1 => ?_) ?_
    rotate_left 1
    · skip
      go_simp
      (try (first | with_reducible rfl | (apply And.intro <;> rfl)))
    simp only [Act.put, List.setIfInBounds_toArray, List.set_cons_zero, List.set_cons_succ]
    refine run_at (i := 38) (v := ?_) rfl (by kernel_rfl) (by rfl) (fun _ _ _ h => h) hHeld (fun w1 hw1 => ?_) ?_
    rotate_left 1
    · skip
      go_simp
      (try (first | with_reducible rfl | (apply And.intro <;> rfl)))
    simp only [Act.put, List.setIfInBounds_toArray, List.set_cons_zero, List.set_cons_succ]
    refine run_at (i := 39) (v := ?_) rfl (by kernel_rfl) (by rfl) (fun _ _ _ h => h) hHeld (fun w1 hw1 => ?_) ?_
    rotate_left 1
    · skip
      have hcw0 := hw1.cell (v1) (by first | (simp; done) | exact HNS.out | exact HNW.out | (intro hm; have hlt := HSB.out _ hm; (try dsimp only at hlt); omega))
      go_simp
      (try (first | with_reducible rfl | (apply And.intro <;> rfl)))
    simp only [Act.put, List.setIfInBounds_toArray, List.set_cons_zero, List.set_cons_succ]
    refine call_at (i := 36) (f := ?_) (args := ?_) rfl (by kernel_rfl) (by rfl) ?_ ?_
    rotate_left 2
    · go_simp
      (try (first | with_reducible rfl | (apply And.intro <;> rfl)))
    have hc := heard_any _ S g (3 * f + 1) U2 (HB4.out.t.keep hHeld (by simp)) u.r
    rw [HN3.out] at hc
    refine hc.mono ?_
    rintro e x5 ⟨rfl, rfl⟩
    refine ⟨_, rfl, hHeld, fun hHeld => ?_⟩
    clear hc
    simp only [Act.put, List.setIfInBounds_toArray, List.set_cons_zero, List.set_cons_succ]
    refine call_at (i := 40) (f := ?_) (args := ?_) rfl (by kernel_rfl) (by rfl) ?_ ?_
    rotate_left 2
    · go_simp
      (try (first | with_reducible rfl | (apply And.intro <;> rfl)))
    have hc := rheard_any _ V2 gr f c U2 (HB4.out.r.keep hHeld (by simp)) (by have := HU2.out; omega) u.r
    rw [HHD.out, HN3.out] at hc
    refine hc.mono ?_
    rintro e x6 ⟨rfl, hfx⟩
    refine ⟨_, rfl, hHeld.and hfx (by simp), fun hHeld => ?_⟩
    clear hfx hc
    simp only [Act.put, List.setIfInBounds_toArray, List.set_cons_zero, List.set_cons_succ]
    refine run_at (i := 41) (v := ?_) rfl (by kernel_rfl) (by rfl) (fun _ _ _ h => h) hHeld (fun w1 hw1 => ?_) ?_
    rotate_left 1
    · skip
      go_simp
      (try (first | with_reducible rfl | (apply And.intro <;> rfl)))
    simp only [Act.put, List.setIfInBounds_toArray, List.set_cons_zero, List.set_cons_succ]
    refine run_at (i := 42) (v := ?_) rfl (by kernel_rfl) (by rfl) (fun _ _ _ h => h) hHeld (fun w1 hw1 => ?_) ?_
    rotate_left 1
    · skip
      go_simp
      (try (first | with_reducible rfl | (apply And.intro <;> rfl)))
    simp only [Act.put, List.setIfInBounds_toArray, List.set_cons_zero, List.set_cons_succ]
    refine run_at (i := 43) (v := ?_) rfl (by kernel_rfl) (by rfl) (fun _ _ _ h => h) hHeld (fun w1 hw1 => ?_) ?_
    rotate_left 1
    · skip
      go_simp
      (try (first | with_reducible rfl | (apply And.intro <;> rfl)))
    simp only [Act.put, List.setIfInBounds_toArray, List.set_cons_zero, List.set_cons_succ]
    refine run_at (i := 44) (v := ?_) rfl (by kernel_rfl) (by rfl) (fun _ _ _ h => h) hHeld (fun w1 hw1 => ?_) ?_
    rotate_left 1
    · skip
      go_simp
      (try (first | with_reducible rfl | (apply And.intro <;> rfl)))
    simp only [Act.put, List.setIfInBounds_toArray, List.set_cons_zero, List.set_cons_succ]
    refine run_at (i := 45) (v := ?_) rfl (by kernel_rfl) (by rfl) (fun _ _ _ h => h) hHeld (fun w1 hw1 => ?_) ?_
    rotate_left 1
    · skip
      go_simp
      (try (first | with_reducible rfl | (apply And.intro <;> rfl)))
    simp only [Act.put, List.setIfInBounds_toArray, List.set_cons_zero, List.set_cons_succ]
    refine run_at (i := 46) (v := ?_) rfl (by kernel_rfl) (by rfl) (fun _ _ _ h => h) hHeld (fun w1 hw1 => ?_) ?_
    rotate_left 1
    · skip
      go_simp
      (try (first | with_reducible rfl | (apply And.intro <;> rfl)))
    simp only [Act.put, List.setIfInBounds_toArray, List.set_cons_zero, List.set_cons_succ]
    refine run_at (i := 48) (v := ?_) rfl (by kernel_rfl) (by rfl) (fun _ _ _ h => h) hHeld (fun w1 hw1 => ?_) ?_
    rotate_left 1
    · skip
      go_simp
      (try (first | with_reducible rfl | (apply And.intro <;> rfl)))
    simp only [Act.put, List.setIfInBounds_toArray, List.set_cons_zero, List.set_cons_succ]
    refine run_at (i := 49) (v := ?_) rfl (by kernel_rfl) (by rfl) (fun _ _ _ h => h) hHeld (fun w1 hw1 => ?_) ?_
    rotate_left 1
    · skip
      go_simp
      (try (first | with_reducible rfl | (apply And.intro <;> rfl)))
    simp only [Act.put, List.setIfInBounds_toArray, List.set_cons_zero, List.set_cons_succ]
    refine run_at (i := 50) (v := ?_) rfl (by kernel_rfl) (by rfl) (fun _ _ _ h => h) hHeld (fun w1 hw1 => ?_) ?_
    rotate_left 1
    · skip
      go_simp
      (try (first | with_reducible rfl | (apply And.intro <;> rfl)))
    simp only [Act.put, List.setIfInBounds_toArray, List.set_cons_zero, List.set_cons_succ]
    refine call_at (i := 47) (f := ?_) (args := ?_) rfl (by kernel_rfl) (by rfl) ?_ ?_
    rotate_left 2
    · go_simp
      (try (first | with_reducible rfl | (apply And.intro <;> rfl)))
    refine (heard_any _ S g (3 * f + 1) U2 (HB4.out.t.keep hHeld (by simp)) _).mono ?_
    rintro e x7 ⟨rfl, rfl⟩
    refine ⟨_, rfl, hHeld, fun hHeld => ?_⟩
    simp only [Act.put, List.setIfInBounds_toArray, List.set_cons_zero, List.set_cons_succ]
    refine call_at (i := 51) (f := ?_) (args := ?_) rfl (by kernel_rfl) (by rfl) ?_ ?_
    rotate_left 2
    · go_simp
      (try (first | with_reducible rfl | (apply And.intro <;> rfl)))
    have hc := fun x => rheard_any _ V2 gr f c U2 (HB4.out.r.keep hHeld (by simp)) (by have := HU2.out; omega) x
    simp only [HHD.out] at hc
    refine (hc _).mono ?_
    rintro e x8 ⟨rfl, hfx⟩
    refine ⟨_, rfl, hHeld.and hfx (by simp), fun hHeld => ?_⟩
    clear hfx hc
    simp only [Act.put, List.setIfInBounds_toArray, List.set_cons_zero, List.set_cons_succ]
    refine run_at (i := 52) (v := ?_) rfl (by kernel_rfl) (by rfl) (fun _ _ _ h => h) hHeld (fun w1 hw1 => ?_) ?_
    rotate_left 1
    · skip
      go_simp
      (try (first | with_reducible rfl | (apply And.intro <;> rfl)))
    simp only [Act.put, List.setIfInBounds_toArray, List.set_cons_zero, List.set_cons_succ]
    refine run_at (i := 53) (v := ?_) rfl (by kernel_rfl) (by rfl) (fun _ _ _ h => h) hHeld (fun w1 hw1 => ?_) ?_
    rotate_left 1
    · skip
      go_simp
      (try (first | with_reducible rfl | (apply And.intro <;> rfl)))
    simp only [Act.put, List.setIfInBounds_toArray, List.set_cons_zero, List.set_cons_succ]
    refine wpAnyH_done (by kernel_rfl) ?_ _
    have HF8 := Lib.hid hHeld
    have w0 := hHeld.cell v0 (by simp)
    have w1' := hHeld.cell v1 (by simp)
    clear hHeld v0 v1 b1 b2 b3
    obtain ⟨M, hM⟩ : ∃ M, M = mstV U2 u.k u.r := ⟨_, rfl⟩
    obtain ⟨cM, hcM⟩ : ∃ cM, cM = cntH U2 u.k u.r M := ⟨_, rfl⟩
    have HML : Hid (M.length = 32) := Lib.hid (by rw [hM]; exact mstV_len HG2.out u.k u.r)
    have HMo : Hid (∀ W, Tl W S g (3 * f + 1) U2 → Calls Try.prog 12 #[.pointer (some ⟨g, 0, none⟩), .int .i64 u.k, .int .i64 u.r] W fun e w' => e = .returned (.tuple #[.agg (M.map by8).toArray, .int .i64 (cM : Nat)]) ∧ Fr [] W w') := Lib.hid (fun W h => by
      rw [hcM, hM]
      exact most_any W S g (3 * f + 1) U2 h HOK.out u.k u.r HUO.out.k HUO.out.r)
    have HMr : Hid (∀ W, Rt W V2 gr f c U2 → Calls Try.prog 32 #[.pointer (some ⟨gr, 0, none⟩), .int .i64 u.k, .int .i64 u.r] W fun e w' => e = .returned (.tuple #[.agg (M.map by8).toArray, .int .i64 (cM : Nat)]) ∧ Fr [] W w') := Lib.hid (fun W h => by
      have hc := rmost_any W V2 gr f c U2 h (by have := HU2.out; omega) u.k u.r
      rw [rmost_most HG2.out] at hc
      rw [hcM, hM]
      exact hc)
    have HHS : Hid ((Try.prog.info? 30).map (·.size) = some (M.map by8).toArray.size) := Lib.hid (by rw [List.size_toArray, List.length_map, HML.out]; kernel_rfl)
    have HHZ : Hid (zeroH.size = (M.map by8).toArray.size) := Lib.hid (by rw [show zeroH.size = 32 from rfl, List.size_toArray, List.length_map, HML.out])
    have HHA : Hid (((M.map by8).toArray.all (·.oneCell')) = true) := Lib.hid (all_oneCell_toArray (by8_one M))
    have HRM : Hid (RowTy Try.prog 30 (M.map by8).length) := Lib.hid (row_hash.of (by rw [List.length_map]; exact HML.out))
    clear hM hcM
    have HB8 := Lib.hid (HB4.out.keep HF8.out (by simp) (by simp))
    generalize x8 = w8 at *
    go_wp2_with fail
    refine (HMo.out w8 HB8.out.t).mono ?_
    rintro e w9 ⟨rfl, hf9⟩
    have HF9 := Lib.hid (HF8.out.and hf9 (by simp))
    have y0 := hf9.cell w0 (by simp)
    have y1 := hf9.cell w1' (by simp)
    clear hf9 w0 w1'
    go_upto_region 10 with (refine wpList_store_blk rfl 30 _ _ rfl w9.heap.size (M.map by8).toArray rfl rfl 30 zeroH (Blk.new w9 _ _) HHS.out HHZ.out HHA.out ?_; intro w10 hb10 hf10)
    have hf10' : Fr [] w9 w10 := ((Fr.refl [] w9).alloc _).and hf10 (by simp)
    have HF10 := Lib.hid (HF9.out.and hf10' (by simp))
    have HBA := Lib.hid hb10
    have z0 := hf10'.cell y0 (by simp)
    have z1 := hf10'.cell y1 (by simp)
    obtain ⟨ga, hga⟩ : ∃ ga, ga = w9.heap.size := ⟨_, rfl⟩
    rw [← hga] at HBA ⊢
    clear hb10 hf10 hf10' hga y0 y1
    go_wp2_with fail
    refine (HMr.out w10 (HB4.out.r.keep HF10.out (by simp))).mono ?_
    rintro e w11 ⟨rfl, hf11⟩
    have HF11 := Lib.hid (HF10.out.and hf11 (by simp))
    have HBA1 := Lib.hid (HBA.out.keep hf11 (by simp))
    clear hf11
    go_upto_region 11 with (refine wpList_store_blk rfl 30 _ _ rfl w11.heap.size (M.map by8).toArray rfl rfl 30 zeroH (Blk.new w11 _ _) HHS.out HHZ.out HHA.out ?_; intro w12 hb12 hf12)
    have hf12' : Fr [] w11 w12 := ((Fr.refl [] w11).alloc _).and hf12 (by simp)
    have HF12 := Lib.hid (HF11.out.and hf12' (by simp))
    have HRB : Hid (w12.rangeAt w11.heap.size 0 (M.map by8)) := Lib.hid hb12.range
    have HRA : Hid (w12.rangeAt ga 0 (M.map by8)) := Lib.hid ((HBA1.out.keep hf12' (by simp)).range)
    obtain ⟨gz, hgz⟩ : ∃ gz, gz = w11.heap.size := ⟨_, rfl⟩
    rw [← hgz] at HRB ⊢
    clear hb12 hf12 hf12' hgz
    have hq := fun W => eql_hash M M HML.out HML.out 9998 W
    rw [show decide (M = M) = true by simp] at hq
    have hcc : ((cM : Int) != (cM : Int)) = false := by simp
    go_wp2_with (first
      | (refine wpList_row rfl 30 _ rfl ga 0 rfl _ HRA.out HRM.out ?_)
      | (refine wpList_row rfl 30 _ rfl gz 0 rfl _ HRB.out HRM.out ?_))
    go_roundw
    case rel => exact ⟨k + 1, U2, V2, by omega, by go_num, HLN2, Lib.hid (HB4.out.keep HF12.out (by simp) (by simp)), Lib.hid (fun y hy => by
      rcases HVD.out y hy with h | h
      · exact HV.out y h
      · have h1 := HF.out.size
        have h2 := HW1.out
        have h3 := HGB2.out
        have h4 := HW3.out
        exact Or.inr (by omega)), Lib.hid (HFW4.out.trans (HF12.out.mono (T := gr :: S) (by simp)) (fun x hx _ => hx))⟩
    case measure => simp [intOf]; omega
end Go.Proofs.Ytfmkegblhpnfcaa
