/- CertRaw's walk. (written by gen_cew.py) -/
import Derived.Test.YtglphddjinmhoaaKG5
namespace Go.Proofs.Ytglphddjinmhoaa
open Go.RowKit
set_option maxRecDepth 100000

theorem row_cer : RowTy Try.prog 54 38 := ⟨by kernel_rfl, by kernel_rfl⟩
set_option maxHeartbeats 4000000 in
theorem certRaw_walk (w : World) (F0 K : Int) (hF0 : i64In F0) (hK : i64In K) (x : Wce) (hx : x.In w) (s : Wst) (hs : s.Ok) :
    Calls Try.prog 9 #[.agg #[.int .i64 F0, .int .i64 K], x.val, s.val] w fun e w' => e = .returned (.bool true) ∧ Fr [] w w' := by
  obtain ⟨KC, hKC⟩ : ∃ KC, KC = x.k.cells := ⟨_, rfl⟩
  obtain ⟨SC, hSC⟩ : ∃ SC, SC = s.cells := ⟨_, rfl⟩
  obtain ⟨wa, hwa⟩ : ∃ wa, wa = ((w.alloc (Obj.cells #[.int .i64 F0, .int .i64 K] 34)).alloc (Obj.cells (KC ++ [Value.slice x.A x.n x.d]).toArray 54)).alloc (Obj.cells SC.toArray 51) := ⟨_, rfl⟩
  have hf0 : Fr [] w wa := by rw [hwa]; exact (((Fr.refl [] w).alloc _).alloc _).alloc _
  have hb0 : Blk wa w.heap.size 34 #[.int .i64 F0, .int .i64 K] := by rw [hwa]; exact blk_alloc (blk_alloc (Blk.new _ _ _))
  have hb1 : Blk wa (w.heap.size + 1) 54 (KC ++ [Value.slice x.A x.n x.d]).toArray := by
    have := Blk.new (w.alloc (Obj.cells #[.int .i64 F0, .int .i64 K] 34)) 54 (KC ++ [Value.slice x.A x.n x.d]).toArray
    rw [hwa]; exact blk_alloc (by simpa using this)
  have hb2 : Blk wa (w.heap.size + 2) 51 SC.toArray := by
    have := Blk.new ((w.alloc (Obj.cells #[.int .i64 F0, .int .i64 K] 34)).alloc (Obj.cells (KC ++ [Value.slice x.A x.n x.d]).toArray 54)) 51 SC.toArray
    rw [hwa]; simpa using this
  have hKL : KC.length = 37 := by rw [hKC]; exact Wcm.len hx.k.h
  have hSL : SC.length = 38 := by rw [hSC]; exact Wst.len hs.h
  rw [show x.val = .agg (KC ++ [Value.slice x.A x.n x.d]).toArray by unfold Wce.val Wce.cells; rw [hKC], show s.val = .agg SC.toArray by unfold Wst.val; rw [hSC]]
  have HKC := Lib.hid hKC
  have HSC := Lib.hid hSC
  have HF0 := Lib.hid hf0
  have HWA := Lib.hid hwa
  have HB0 := Lib.hid hb0
  have HB1 := Lib.hid hb1
  have HB2 := Lib.hid hb2
  have HKL := Lib.hid hKL
  have HSL := Lib.hid hSL
  have HX := Lib.hid hx
  have HS := Lib.hid hs
  have HFB := Lib.hid hF0
  have HSZ : Hid (w.heap.size + 2 < wa.heap.size) := Lib.hid hb2.lt
  clear hKC hSC hf0 hwa hb0 hb1 hb2 hKL hSL hx hs hF0 hK
  go_enter Try.func9, Try.ntmps9
  go_upto_region 1 with (fail)
  change Code.wp _ _ _ _ (((w.alloc (Obj.cells #[.int .i64 F0, .int .i64 K] 34)).alloc (Obj.cells (KC ++ [Value.slice x.A x.n x.d]).toArray 54)).alloc (Obj.cells SC.toArray 51))
  rw [← HWA.out]
  have h0 := HB0.out.cell 0
  simp only [List.getElem?_toArray, List.getElem?_cons_zero, List.getElem?_cons_succ] at h0
  have h1 : wa.cell? ⟨w.heap.size, 0, none⟩ = some (.int .i64 F0) := by simpa using h0
  clear h0
  have hz := HB0.out.frozen 0
  go_cut [16] (fun s16 wx => ∃ B : Bool, s16 = .bool B ∧ Hid (B = false → -1099511627776 ≤ F0 ∧ F0 ≤ 1099511627776) ∧ wa = wx)
  case first =>
    by_cases ha : (1099511627776 : Int) < F0
    · go_wp2_with fail
      go_meet
      exact ⟨true, rfl, Lib.hid (by simp), rfl⟩
    · by_cases hb : F0 < -1099511627776
      · go_wp2_with fail
        go_meet
        exact ⟨true, rfl, Lib.hid (by simp), rfl⟩
      · go_wp2_with fail
        go_meet
        exact ⟨false, rfl, Lib.hid (fun _ => by omega), rfl⟩
  case rest =>
  obtain ⟨B, rfl, HBB, rfl⟩ := hcut
  rename_i Ka ha Kb hb
  refine hb _ _ ?_
  clear hb Kb
  go_cut [3] (fun s3 wx => s3 = .pointer (some ⟨w.heap.size, 0, none⟩) ∧ ∃ F : Int, Hid (-1099511627776 ≤ F ∧ F ≤ 1099511627776) ∧ Hid (Blk wx w.heap.size 34 #[.int .i64 F, .int .i64 K]) ∧ Hid (Fr [w.heap.size] wa wx))
  case first =>
    have hset := HB0.out.set 0 (.int .i64 1)
    have hfr : Fr [w.heap.size] wa (wa.setCell ⟨w.heap.size, 0, none⟩ (.int .i64 1)) := (Fr.refl _ wa).setCell ⟨w.heap.size, 0, none⟩ (fun _ => by simp) (.int .i64 1)
    have HSET := Lib.hid hset
    have HFR := Lib.hid hfr
    clear hset hfr
    cases B
    case true =>
      go_wp2_with fail
      go_meet
      exact ⟨rfl, 1, Lib.hid (by omega), Lib.hid (by simpa using HSET.out), Lib.hid HFR.out⟩
    case false =>
      go_wp2_with fail
      go_meet
      exact ⟨rfl, F0, Lib.hid (by have := HBB.out; simpa using this), Lib.hid HB0.out, Lib.hid (Fr.refl _ wa)⟩
  case rest =>
  obtain ⟨rfl, F, HFF, HBF, HFX⟩ := hcut
  clear h1 hz HFB
  rename World => wx
  have HGX : Hid (Fr [] w wx) := Lib.hid (HF0.out.and HFX.out (by simp))
  have HCE := Lib.hid (HB1.out.keep HFX.out (by simp))
  have HST := Lib.hid (HB2.out.keep HFX.out (by simp))
  have hc : wx.cell? ⟨w.heap.size + 1, 37, none⟩ = some (.slice x.A x.n x.d) := by
    have := HCE.out.range 37 (.slice x.A x.n x.d) (by rw [List.getElem?_append_right (by have := HKL.out; omega), HKL.out]; rfl)
    simpa using this
  clear HF0 HWA HB0 HB1 HB2
  have HSZX : Hid (w.heap.size + 2 < wx.heap.size) := Lib.hid (Nat.lt_of_lt_of_le HSZ.out HFX.out.size)
  clear HFX HSZ
  go_wp2_with fail
  rw [show (9 : Int) = ((9 : Nat) : Int) from rfl]
  refine (cutStamps_any x.A x.n x.d 9 x.l wx (HX.out.keep HGX.out).l HX.out.n HX.out.d (by decide)).mono ?_
  rintro e w1 ⟨A1, d1, rfl, hN⟩
  have h9 : (x.l.take 9).length ≤ 9 := List.length_take_le _ _
  have hok : ∀ v ∈ x.l.take 9, v.Ok := fun v hv => (HX.out.l.2.1 v (List.mem_of_mem_take hv)).2
  generalize x.l.take 9 = l9 at *
  generalize hln : l9.length = n9 at *
  have HLN := Lib.hid hln
  have HOK := Lib.hid hok
  clear hln hok
  have HN := Lib.hid hN
  have hce1 := HCE.out.keep hN.2.1 (by simp)
  have hz := hce1.frozen 37
  have hc1 := hN.2.1.cell hc (by simp)
  have HW1 := Lib.hid (hce1.set 37 (Value.slice A1 n9 d1))
  have HSET := Lib.hid (set_last KC HKL.out (Value.slice x.A x.n x.d) (Value.slice A1 n9 d1))
  have hfr : Fr [w.heap.size + 1] w1 (w1.setCell ⟨w.heap.size + 1, 37, none⟩ (Value.slice A1 n9 d1)) := (Fr.refl _ w1).setCell ⟨w.heap.size + 1, 37, none⟩ (fun _ => by simp) _
  have HBF1 := Lib.hid ((HBF.out.keep hN.2.1 (by simp)).keep hfr (by simp))
  have HST1 := Lib.hid ((HST.out.keep hN.2.1 (by simp)).keep hfr (by simp))
  have HL1 : Hid (Lst 38 Wst.cells (fun _ v => v.Ok) (w1.setCell ⟨w.heap.size + 1, 37, none⟩ (Value.slice A1 n9 d1)) A1 n9 l9) := Lib.hid ((Lst.of_own hN.1 HLN.out (fun v hv => ⟨Wst.len (HOK.out v hv).h, HOK.out v hv⟩)).keep hfr (fun a ha hm => by
    have h1 := hN.2.2 a.block (by simp [bk, ha])
    have h2 := HSZX.out
    simp at hm
    omega) (fun _ _ h => h))
  have HFW : Hid (Fr [] w (w1.setCell ⟨w.heap.size + 1, 37, none⟩ (Value.slice A1 n9 d1))) := Lib.hid ((HGX.out.and hN.2.1 (by simp)).and hfr (by simp))
  have HCAP : Hid (n9 ≤ d1) := Lib.hid (own_capn hN.1)
  clear hc hN HN hce1 hfr HBF HST HCE
  go_wp2_with fail
  rw [HSET.out] at HW1
  generalize w1.setCell ⟨w.heap.size + 1, 37, none⟩ (Value.slice A1 n9 d1) = w2 at *
  clear hc1 hz HGX HSZX HSET
  refine (cenew_any w2).mono ?_
  rintro e w3 ⟨Sb, gb, gr, rfl, hb3, hr3, hf3, hn3, hg3, hng⟩
  have HBK3 := Lib.hid hb3
  have HRB3 := Lib.hid hr3
  have HF3 := Lib.hid hf3
  clear hb3 hr3 hf3 hn3 hg3 hng
  go_upto_region 5 with (refine wpList_store_box rfl 38 _ _ rfl #[.pointer none, .pointer none] 38 [.pointer (some ⟨gb, 0, none⟩), .pointer (some ⟨gr, 0, none⟩)] rfl rfl (by kernel_rfl) rfl (by intro v hv; simp at hv; rcases hv with rfl | rfl <;> rfl) ?_; intro w4 hb4 hf4)
  have HF34 := Lib.hid (HF3.out.trans hf4 (by simp))
  have HFW4 := Lib.hid (HFW.out.and HF34.out (by simp))
  have HBK := Lib.hid (HBK3.out.keep hf4 (by simp))
  have HRB := Lib.hid (HRB3.out.keep hf4 (by simp))
  have HCF5 := Lib.hid (HBF1.out.keep HF34.out (by simp)).range
  have HCE5 := Lib.hid (HW1.out.keep HF34.out (by simp)).range
  have HST5 := Lib.hid (HST1.out.keep HF34.out (by simp)).range
  have hp0 := hb4.cell 0
  have hp1 := hb4.cell 1
  simp only [List.getElem?_toArray, List.getElem?_cons_zero, List.getElem?_cons_succ] at hp0 hp1
  have HP0 : Hid (w4.cell? ⟨w3.heap.size, 0, none⟩ = some (.pointer (some ⟨gb, 0, none⟩))) := Lib.hid (by simpa using hp0)
  have HP1 : Hid (w4.cell? ⟨w3.heap.size, 1, none⟩ = some (.pointer (some ⟨gr, 0, none⟩))) := Lib.hid (by simpa using hp1)
  obtain ⟨X, hXe⟩ : ∃ X : Wce, X = ⟨x.k, A1, n9, d1, l9⟩ := ⟨_, rfl⟩
  obtain ⟨C, hC⟩ : ∃ C, C = KC ++ [Value.slice A1 n9 d1] := ⟨_, rfl⟩
  have HC : Hid (X.cells = C) := Lib.hid (by rw [hXe, hC, HKC.out]; rfl)
  have HXI : Hid (X.In w4) := Lib.hid (by rw [hXe]; exact ⟨HX.out.k, HL1.out.keep' HF34.out (by simp) (fun _ _ h => h), by show n9 ≤ maxLen; unfold maxLen; omega, HCAP.out⟩)
  have HN50 : Hid (X.n < 50) := Lib.hid (by rw [hXe]; show n9 < 50; omega)
  have HCL : Hid (C.length = 38) := Lib.hid (by rw [hC]; simp [HKL.out])
  rw [← hC] at HCE5
  have HSE : Hid (SC = s.cells) := HSC
  clear hp0 hp1 hf4 hb4 HF3 HF34 HBK3 HRB3 HBF1 HW1 HST1 HX HL1 HOK HLN HCAP HFW hXe hC HKC HKL h9
  obtain ⟨r1, hr1⟩ : ∃ r, certB F K [] X = r := ⟨_, rfl⟩
  have HR1 := Lib.hid hr1
  obtain ⟨r2, hr2⟩ : ∃ r, stampB F [] s = r := ⟨_, rfl⟩
  have HR2 := Lib.hid hr2
  clear hr1 hr2
  obtain ⟨gk, hgk⟩ : ∃ gk, gk = w3.heap.size := ⟨_, rfl⟩
  rw [← hgk] at HP0 HP1 ⊢
  clear hgk
  refine wp_region_held_drew (S := Fr [] w4) (by kernel_rfl) (Fr.drew (Fr.refl _ w4)) (fun hHeld => ?_)
  refine run_at (i := 0) (v := ?_) rfl (by kernel_rfl) (by rfl) (fun _ _ _ h => h) hHeld (fun w1 hw1 => ?_) ?_
  rotate_left 1
  · skip
    go_simp
    (try (first | with_reducible rfl | (apply And.intro <;> rfl)))
  simp only [Act.put, List.setIfInBounds_toArray, List.set_cons_zero, List.set_cons_succ]
  refine run_at (i := 1) (v := ?_) rfl (by kernel_rfl) (by rfl) (fun _ _ _ h => h) hHeld (fun w1 hw1 => ?_) ?_
  rotate_left 1
  · skip
    go_simp
    (try (first | with_reducible rfl | (apply And.intro <;> rfl)))
  simp only [Act.put, List.setIfInBounds_toArray, List.set_cons_zero, List.set_cons_succ]
  refine row_at (i := 2) rfl (by kernel_rfl) (by rfl) _ _ rfl _ _ rfl _ (fun w1 hw1 => hw1.range (HCF5.out) (by first | (simp; done) | exact HNS.out | exact HNW.out | (intro hm; have hlt := HSB.out _ hm; (try dsimp only at hlt); omega))) (row_conf) (fun _ _ _ h => h) hHeld ?_
  simp only [Act.put, List.setIfInBounds_toArray, List.set_cons_zero, List.set_cons_succ]
  refine run_at (i := 3) (v := ?_) rfl (by kernel_rfl) (by rfl) (fun _ _ _ h => h) hHeld (fun w1 hw1 => ?_) ?_
  rotate_left 1
  · skip
    go_simp
    (try (first | with_reducible rfl | (apply And.intro <;> rfl)))
  simp only [Act.put, List.setIfInBounds_toArray, List.set_cons_zero, List.set_cons_succ]
  refine run_at (i := 4) (v := ?_) rfl (by kernel_rfl) (by rfl) (fun _ _ _ h => h) hHeld (fun w1 hw1 => ?_) ?_
  rotate_left 1
  · skip
    have hcw0 := hw1.cell (HP0.out) (by first | (simp; done) | exact HNS.out | exact HNW.out | (intro hm; have hlt := HSB.out _ hm; (try dsimp only at hlt); omega))
    go_simp
    (try (first | with_reducible rfl | (apply And.intro <;> rfl)))
  simp only [Act.put, List.setIfInBounds_toArray, List.set_cons_zero, List.set_cons_succ]
  refine row_at (i := 5) rfl (by kernel_rfl) (by rfl) _ _ rfl _ _ rfl _ (fun w1 hw1 => hw1.range (HCE5.out) (by first | (simp; done) | exact HNS.out | exact HNW.out | (intro hm; have hlt := HSB.out _ hm; (try dsimp only at hlt); omega))) (row_cer.of HCL.out) (fun _ _ _ h => h) hHeld ?_
  simp only [Act.put, List.setIfInBounds_toArray, List.set_cons_zero, List.set_cons_succ]
  refine row_at (i := 7) rfl (by kernel_rfl) (by rfl) _ _ rfl _ _ rfl _ (fun w1 hw1 => hw1.range (HCF5.out) (by first | (simp; done) | exact HNS.out | exact HNW.out | (intro hm; have hlt := HSB.out _ hm; (try dsimp only at hlt); omega))) (row_conf) (fun _ _ _ h => h) hHeld ?_
  simp only [Act.put, List.setIfInBounds_toArray, List.set_cons_zero, List.set_cons_succ]
  refine run_at (i := 8) (v := ?_) rfl (by kernel_rfl) (by rfl) (fun _ _ _ h => h) hHeld (fun w1 hw1 => ?_) ?_
  rotate_left 1
  · skip
    go_simp
    (try (first | with_reducible rfl | (apply And.intro <;> rfl)))
  simp only [Act.put, List.setIfInBounds_toArray, List.set_cons_zero, List.set_cons_succ]
  refine run_at (i := 9) (v := ?_) rfl (by kernel_rfl) (by rfl) (fun _ _ _ h => h) hHeld (fun w1 hw1 => ?_) ?_
  rotate_left 1
  · skip
    have hcw0 := hw1.cell (HP1.out) (by first | (simp; done) | exact HNS.out | exact HNW.out | (intro hm; have hlt := HSB.out _ hm; (try dsimp only at hlt); omega))
    go_simp
    (try (first | with_reducible rfl | (apply And.intro <;> rfl)))
  simp only [Act.put, List.setIfInBounds_toArray, List.set_cons_zero, List.set_cons_succ]
  refine row_at (i := 10) rfl (by kernel_rfl) (by rfl) _ _ rfl _ _ rfl _ (fun w1 hw1 => hw1.range (HCE5.out) (by first | (simp; done) | exact HNS.out | exact HNW.out | (intro hm; have hlt := HSB.out _ hm; (try dsimp only at hlt); omega))) (row_cer.of HCL.out) (fun _ _ _ h => h) hHeld ?_
  simp only [Act.put, List.setIfInBounds_toArray, List.set_cons_zero, List.set_cons_succ]
  refine call_at (i := 6) (f := ?_) (args := ?_) rfl (by kernel_rfl) (by rfl) ?_ ?_
  rotate_left 2
  · go_simp
    (try (first | with_reducible rfl | (apply And.intro <;> rfl)))
  have hh := cert_any F K HFF.out X _ (HXI.out.keep hHeld) C HC.out Sb gb [] (HBK.out.keep hHeld (by simp))
  rw [HR1.out] at hh
  refine hh.mono ?_
  rintro e w2 ⟨rfl, hf2⟩
  refine ⟨_, rfl, hHeld.and hf2 (by simp), fun hHeld => ?_⟩
  clear hf2 hh
  simp only [Act.put, List.setIfInBounds_toArray, List.set_cons_zero, List.set_cons_succ]
  refine call_at (i := 11) (f := ?_) (args := ?_) rfl (by kernel_rfl) (by rfl) ?_ ?_
  rotate_left 2
  · go_simp
    (try (first | with_reducible rfl | (apply And.intro <;> rfl)))
  have hh := refcert_any F K HFF.out X _ (HXI.out.keep hHeld) C HC.out [gr] gr [] (HRB.out.keep hHeld (by simp)) List.nodup_nil (.inr rfl)
  rw [HR1.out] at hh
  refine hh.mono ?_
  rintro e w2 ⟨rfl, hf2⟩
  refine ⟨_, rfl, hHeld.and hf2 (by simp), fun hHeld => ?_⟩
  clear hf2 hh
  simp only [Act.put, List.setIfInBounds_toArray, List.set_cons_zero, List.set_cons_succ]
  refine run_at (i := 12) (v := ?_) rfl (by kernel_rfl) (by rfl) (fun _ _ _ h => h) hHeld (fun w1 hw1 => ?_) ?_
  rotate_left 1
  · skip
    go_simp
    (try (first | with_reducible rfl | (apply And.intro <;> rfl)))
  simp only [Act.put, List.setIfInBounds_toArray, List.set_cons_zero, List.set_cons_succ]
  refine run_at (i := 13) (v := ?_) rfl (by kernel_rfl) (by rfl) (fun _ _ _ h => h) hHeld (fun w1 hw1 => ?_) ?_
  rotate_left 1
  · skip
    go_simp
    (try (first | with_reducible rfl | (apply And.intro <;> rfl)))
  simp only [Act.put, List.setIfInBounds_toArray, List.set_cons_zero, List.set_cons_succ]
  refine run_at (i := 14) (v := ?_) rfl (by kernel_rfl) (by rfl) (fun _ _ _ h => h) hHeld (fun w1 hw1 => ?_) ?_
  rotate_left 1
  · skip
    go_simp
    (try (first | with_reducible rfl | (apply And.intro <;> rfl)))
  simp only [Act.put, List.setIfInBounds_toArray, List.set_cons_zero, List.set_cons_succ]
  refine row_at (i := 15) rfl (by kernel_rfl) (by rfl) _ _ rfl _ _ rfl _ (fun w1 hw1 => hw1.range (HCE5.out) (by first | (simp; done) | exact HNS.out | exact HNW.out | (intro hm; have hlt := HSB.out _ hm; (try dsimp only at hlt); omega))) (row_cer.of HCL.out) (fun _ _ _ h => h) hHeld ?_
  simp only [Act.put, List.setIfInBounds_toArray, List.set_cons_zero, List.set_cons_succ]
  refine row_at (i := 17) rfl (by kernel_rfl) (by rfl) _ _ rfl _ _ rfl _ (fun w1 hw1 => hw1.range (HCE5.out) (by first | (simp; done) | exact HNS.out | exact HNW.out | (intro hm; have hlt := HSB.out _ hm; (try dsimp only at hlt); omega))) (row_cer.of HCL.out) (fun _ _ _ h => h) hHeld ?_
  simp only [Act.put, List.setIfInBounds_toArray, List.set_cons_zero, List.set_cons_succ]
  refine call_at (i := 16) (f := ?_) (args := ?_) rfl (by kernel_rfl) (by rfl) ?_ ?_
  rotate_left 2
  · go_simp
    (try (first | with_reducible rfl | (apply And.intro <;> rfl)))
  have hh := time_any X _ (HXI.out.keep hHeld) HN50.out C HC.out
  refine hh.mono ?_
  rintro e w2 ⟨m1, rfl, hm1, hz1, hf2⟩
  refine ⟨_, rfl, hHeld.and hf2 (by simp), fun hHeld => ?_⟩
  have HM1 := Lib.hid (And.intro hm1 hz1)
  clear hf2 hh hm1 hz1
  simp only [Act.put, List.setIfInBounds_toArray, List.set_cons_zero, List.set_cons_succ]
  refine call_at (i := 18) (f := ?_) (args := ?_) rfl (by kernel_rfl) (by rfl) ?_ ?_
  rotate_left 2
  · go_simp
    (try (first | with_reducible rfl | (apply And.intro <;> rfl)))
  have hh := reftime_any X _ (HXI.out.keep hHeld) HN50.out C HC.out
  refine hh.mono ?_
  rintro e w2 ⟨m2, rfl, hm2, hz2, hf2⟩
  refine ⟨_, rfl, hHeld.and hf2 (by simp), fun hHeld => ?_⟩
  have hmm : m1 = m2 := by
    rcases Nat.mod_two_eq_zero_or_one X.n with h | h
    · rw [HM1.out.2 h, hz2 h]
    · exact (HM1.out.1 h).one (hm2 h)
  subst hmm
  clear hf2 hh hm2 hz2
  simp only [Act.put, List.setIfInBounds_toArray, List.set_cons_zero, List.set_cons_succ]
  refine run_at (i := 19) (v := ?_) rfl (by kernel_rfl) (by rfl) (fun _ _ _ h => h) hHeld (fun w1 hw1 => ?_) ?_
  rotate_left 1
  · skip
    go_simp
    (try (first | with_reducible rfl | (apply And.intro <;> rfl)))
  simp only [Act.put, List.setIfInBounds_toArray, List.set_cons_zero, List.set_cons_succ]
  refine run_at (i := 20) (v := ?_) rfl (by kernel_rfl) (by rfl) (fun _ _ _ h => h) hHeld (fun w1 hw1 => ?_) ?_
  rotate_left 1
  · skip
    go_simp
    (try (first | with_reducible rfl | (apply And.intro <;> rfl)))
  simp only [Act.put, List.setIfInBounds_toArray, List.set_cons_zero, List.set_cons_succ]
  refine run_at (i := 21) (v := ?_) rfl (by kernel_rfl) (by rfl) (fun _ _ _ h => h) hHeld (fun w1 hw1 => ?_) ?_
  rotate_left 1
  · skip
    go_simp
    (try (first | with_reducible rfl | (apply And.intro <;> rfl)))
  simp only [Act.put, List.setIfInBounds_toArray, List.set_cons_zero, List.set_cons_succ]
  refine row_at (i := 22) rfl (by kernel_rfl) (by rfl) _ _ rfl _ _ rfl _ (fun w1 hw1 => hw1.range (HCF5.out) (by first | (simp; done) | exact HNS.out | exact HNW.out | (intro hm; have hlt := HSB.out _ hm; (try dsimp only at hlt); omega))) (row_conf) (fun _ _ _ h => h) hHeld ?_
  simp only [Act.put, List.setIfInBounds_toArray, List.set_cons_zero, List.set_cons_succ]
  refine run_at (i := 23) (v := ?_) rfl (by kernel_rfl) (by rfl) (fun _ _ _ h => h) hHeld (fun w1 hw1 => ?_) ?_
  rotate_left 1
  · skip
    go_simp
    (try (first | with_reducible rfl | (apply And.intro <;> rfl)))
  simp only [Act.put, List.setIfInBounds_toArray, List.set_cons_zero, List.set_cons_succ]
  refine run_at (i := 24) (v := ?_) rfl (by kernel_rfl) (by rfl) (fun _ _ _ h => h) hHeld (fun w1 hw1 => ?_) ?_
  rotate_left 1
  · skip
    have hcw0 := hw1.cell (HP0.out) (by first | (simp; done) | exact HNS.out | exact HNW.out | (intro hm; have hlt := HSB.out _ hm; (try dsimp only at hlt); omega))
    go_simp
    (try (first | with_reducible rfl | (apply And.intro <;> rfl)))
  simp only [Act.put, List.setIfInBounds_toArray, List.set_cons_zero, List.set_cons_succ]
  refine row_at (i := 25) rfl (by kernel_rfl) (by rfl) _ _ rfl _ _ rfl _ (fun w1 hw1 => hw1.range (HST5.out) (by first | (simp; done) | exact HNS.out | exact HNW.out | (intro hm; have hlt := HSB.out _ hm; (try dsimp only at hlt); omega))) (row_stamp.of HSL.out) (fun _ _ _ h => h) hHeld ?_
  simp only [Act.put, List.setIfInBounds_toArray, List.set_cons_zero, List.set_cons_succ]
  refine row_at (i := 27) rfl (by kernel_rfl) (by rfl) _ _ rfl _ _ rfl _ (fun w1 hw1 => hw1.range (HCF5.out) (by first | (simp; done) | exact HNS.out | exact HNW.out | (intro hm; have hlt := HSB.out _ hm; (try dsimp only at hlt); omega))) (row_conf) (fun _ _ _ h => h) hHeld ?_
  simp only [Act.put, List.setIfInBounds_toArray, List.set_cons_zero, List.set_cons_succ]
  refine run_at (i := 28) (v := ?_) rfl (by kernel_rfl) (by rfl) (fun _ _ _ h => h) hHeld (fun w1 hw1 => ?_) ?_
  rotate_left 1
  · skip
    go_simp
    (try (first | with_reducible rfl | (apply And.intro <;> rfl)))
  simp only [Act.put, List.setIfInBounds_toArray, List.set_cons_zero, List.set_cons_succ]
  refine run_at (i := 29) (v := ?_) rfl (by kernel_rfl) (by rfl) (fun _ _ _ h => h) hHeld (fun w1 hw1 => ?_) ?_
  rotate_left 1
  · skip
    have hcw0 := hw1.cell (HP1.out) (by first | (simp; done) | exact HNS.out | exact HNW.out | (intro hm; have hlt := HSB.out _ hm; (try dsimp only at hlt); omega))
    go_simp
    (try (first | with_reducible rfl | (apply And.intro <;> rfl)))
  simp only [Act.put, List.setIfInBounds_toArray, List.set_cons_zero, List.set_cons_succ]
  refine row_at (i := 30) rfl (by kernel_rfl) (by rfl) _ _ rfl _ _ rfl _ (fun w1 hw1 => hw1.range (HST5.out) (by first | (simp; done) | exact HNS.out | exact HNW.out | (intro hm; have hlt := HSB.out _ hm; (try dsimp only at hlt); omega))) (row_stamp.of HSL.out) (fun _ _ _ h => h) hHeld ?_
  simp only [Act.put, List.setIfInBounds_toArray, List.set_cons_zero, List.set_cons_succ]
  refine call_at (i := 26) (f := ?_) (args := ?_) rfl (by kernel_rfl) (by rfl) ?_ ?_
  rotate_left 2
  · go_simp
    (try (first | with_reducible rfl | (apply And.intro <;> rfl)))
  have hh := rstamp_any F K s HS.out _ Sb gb [] (HBK.out.keep hHeld (by simp))
  unfold Wst.val at hh
  rw [HR2.out, ← HSC.out] at hh
  refine hh.mono ?_
  rintro e w2 ⟨rfl, hf2⟩
  refine ⟨_, rfl, hHeld.and hf2 (by simp), fun hHeld => ?_⟩
  clear hf2 hh
  simp only [Act.put, List.setIfInBounds_toArray, List.set_cons_zero, List.set_cons_succ]
  refine call_at (i := 31) (f := ?_) (args := ?_) rfl (by kernel_rfl) (by rfl) ?_ ?_
  rotate_left 2
  · go_simp
    (try (first | with_reducible rfl | (apply And.intro <;> rfl)))
  have hh := refstamp_any F K HFF.out s HS.out _ [gr] gr [] (HRB.out.keep hHeld (by simp)) List.nodup_nil
  unfold Wst.val at hh
  rw [HR2.out, ← HSC.out] at hh
  refine hh.mono ?_
  rintro e w2 ⟨rfl, hf2⟩
  refine ⟨_, rfl, hHeld.and hf2 (by simp), fun hHeld => ?_⟩
  clear hf2 hh
  simp only [Act.put, List.setIfInBounds_toArray, List.set_cons_zero, List.set_cons_succ]
  refine run_at (i := 32) (v := ?_) rfl (by kernel_rfl) (by rfl) (fun _ _ _ h => h) hHeld (fun w1 hw1 => ?_) ?_
  rotate_left 1
  · skip
    go_simp
    (try (first | with_reducible rfl | (apply And.intro <;> rfl)))
  simp only [Act.put, List.setIfInBounds_toArray, List.set_cons_zero, List.set_cons_succ]
  refine run_at (i := 33) (v := ?_) rfl (by kernel_rfl) (by rfl) (fun _ _ _ h => h) hHeld (fun w1 hw1 => ?_) ?_
  rotate_left 1
  · skip
    go_simp
    (try (first | with_reducible rfl | (apply And.intro <;> rfl)))
  simp only [Act.put, List.setIfInBounds_toArray, List.set_cons_zero, List.set_cons_succ]
  refine run_at (i := 34) (v := ?_) rfl (by kernel_rfl) (by rfl) (fun _ _ _ h => h) hHeld (fun w1 hw1 => ?_) ?_
  rotate_left 1
  · skip
    go_simp
    (try (first | with_reducible rfl | (apply And.intro <;> rfl)))
  simp only [Act.put, List.setIfInBounds_toArray, List.set_cons_zero, List.set_cons_succ]
  refine call_at (i := 35) (f := ?_) (args := ?_) rfl (by kernel_rfl) (by rfl) ?_ ?_
  rotate_left 2
  · go_simp
    (try (first | with_reducible rfl | (apply And.intro <;> rfl)))
  refine (cewakes_any _).mono ?_
  rintro e w2 ⟨rfl, hf2⟩
  refine ⟨_, rfl, hHeld.and hf2 (by simp), fun hHeld => ?_⟩
  clear hf2
  simp only [Act.put, List.setIfInBounds_toArray, List.set_cons_zero, List.set_cons_succ]
  refine run_at (i := 36) (v := ?_) rfl (by kernel_rfl) (by rfl) (fun _ _ _ h => h) hHeld (fun w1 hw1 => ?_) ?_
  rotate_left 1
  · skip
    go_simp
    (try (first | with_reducible rfl | (apply And.intro <;> rfl)))
  simp only [Act.put, List.setIfInBounds_toArray, List.set_cons_zero, List.set_cons_succ]
  refine run_at (i := 37) (v := ?_) rfl (by kernel_rfl) (by rfl) (fun _ _ _ h => h) hHeld (fun w1 hw1 => ?_) ?_
  rotate_left 1
  · skip
    go_simp
    (try (first | with_reducible rfl | (apply And.intro <;> rfl)))
  simp only [Act.put, List.setIfInBounds_toArray, List.set_cons_zero, List.set_cons_succ]
  refine wpAnyH_done (by kernel_rfl) ?_ _
  go_wp2
  go_ret
  exact ⟨rfl, HFW4.out.and hHeld (by simp)⟩
end Go.Proofs.Ytglphddjinmhoaa
