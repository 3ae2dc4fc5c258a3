/- WireHashes: the walk. (written by gen_whs.py) -/
import Derived.Test.YtjpmiigoglcoaaaDoorKB5
import Derived.Deep.CutBlock
import Derived.Deep.DeepCutAuto
import Derived.Laws.BitsAllLaws
namespace Go.Proofs.YtjpmiigoglcoaaaDoor
open Go.RowKit
set_option maxRecDepth 100000

set_option maxHeartbeats 16000000 in
theorem wireHashes_walk (w : World) (b : Wba) (hb : b.In w) (what : Int) (hw1 : -9223372036854775808 ≤ what) (hw2 : what < 9223372036854775808) (hK : KW w) :
    Calls Tryd.prog 3 #[b.val, .int .i64 what] w fun e w' => e = .returned (.bool true) ∧ Fr [] w w' := by
  unfold Wba.val
  have HC0 : Hid (b.cells.length = 5) := Lib.hid rfl
  have HCO := Lib.hid (all_oneCell_toArray (Wba.one b))
  obtain ⟨BL, hBL⟩ : ∃ BL, b.cells = BL := ⟨_, rfl⟩
  rw [hBL] at HC0 HCO ⊢
  have HBL := Lib.hid hBL
  obtain ⟨wa, hwa⟩ : ∃ wa, wa = w.alloc (Obj.cells BL.toArray 27) := ⟨_, rfl⟩
  have hf0 : Fr [] w wa := by rw [hwa]; exact (Fr.refl [] w).alloc _
  have HB0 : Hid (Blk wa w.heap.size 27 BL.toArray) := Lib.hid (by rw [hwa]; exact Blk.new _ _ _)
  have HF0 := Lib.hid hf0
  have HWA := Lib.hid hwa
  have HB := Lib.hid (hb.keep hf0)
  have HK := Lib.hid hK
  have HR0 : Hid (wa.rangeAt w.heap.size 0 BL) := Lib.hid HB0.out.range
  have HRW : Hid ((Tryd.prog.info? 27).map (·.size) = some BL.length) := Lib.hid (by rw [HC0.out]; kernel_rfl)
  clear hBL hwa hf0 hb hK
  go_enter Tryd.func3, Tryd.ntmps3
  go_upto_region 1 with (fail)
  rw [← HWA.out]
  go_wp2_with (first | (refine wpList_load_mid rfl 27 _ rfl w.heap.size 0 rfl BL _ HR0.out Tryd.underlying27 rfl HRW.out ?_))
  refine (batchCut4_any b wa HB.out BL HBL.out).mono ?_
  rintro e w1 ⟨y, rfl, hyok, hf1, hy2, hy3⟩
  have HYO : Hid (y.Ok w1 []) := Lib.hid (hyok [] (by simp))
  have HY23 := Lib.hid (And.intro hy2 hy3)
  have HF1 := Lib.hid hf1
  have hgs : w.heap.size < wa.heap.size := HB0.out.lt
  have HGS := Lib.hid hgs
  clear hyok hf1 hy2 hy3 hgs
  unfold Wba.val
  obtain ⟨YL, hYL⟩ : ∃ YL, y.cells = YL := ⟨_, rfl⟩
  rw [hYL]
  go_wp2_with fail
  refine (niceBatch_any y w1 HYO.out YL hYL).mono ?_
  clear hYL
  rintro e w2 ⟨z, rfl, hzok, hzr, hzn, hf2⟩
  have HZ2 : Hid (z.Ok w2 [w.heap.size]) := Lib.hid (hzok _ (by have h1 := HGS.out; have h2 := HF1.out.size; simp; omega))
  have HZR := Lib.hid hzr
  have HZN : Hid (z.n ≤ 4 ∧ z.n2 ≤ 4 ∧ z.n3 ≤ 4 ∧ z.n ≤ z.d) := Lib.hid (by have h1 := HYO.out.n; have h2 := HY23.out; omega)
  have HB2 := Lib.hid ((HB0.out.keep HF1.out (by simp)).keep hf2 (by simp))
  have HF2 : Hid (Fr [] w w2) := Lib.hid ((HF0.out.and HF1.out (by simp)).and hf2 (by simp))
  have HGS2 : Hid (w.heap.size < w2.heap.size) := Lib.hid HB2.out.lt
  clear hzok hzr hzn hf2 HB HF0 HF1 HB0 HGS
  unfold Wba.val
  obtain ⟨ZL, hZL⟩ : ∃ ZL, z.cells = ZL := ⟨_, rfl⟩
  have HZL := Lib.hid hZL
  have HZ5 : Hid (ZL.length = 5) := Lib.hid (by rw [← hZL]; rfl)
  have HZO : Hid (ZL.toArray.all (·.oneCell') = true) := Lib.hid (by rw [← hZL]; exact all_oneCell_toArray (Wba.one z))
  have HZW : Hid ((Tryd.prog.info? 27).map (·.size) = some ZL.toArray.size) := Lib.hid (by rw [List.size_toArray, HZ5.out]; kernel_rfl)
  have HZW2 : Hid ((Tryd.prog.info? 27).map (·.size) = some ZL.length) := Lib.hid (by rw [HZ5.out]; kernel_rfl)
  have HZS : Hid (ZL.toArray.size = 5) := Lib.hid (by rw [List.size_toArray, HZ5.out])
  have HBZ : Hid (BL.toArray.size = ZL.toArray.size) := Lib.hid (by rw [List.size_toArray, List.size_toArray, HC0.out, HZ5.out])
  rw [hZL]
  clear hZL
  go_upto_region 2 with (first
    | (refine wpList_store_blk rfl 27 _ _ rfl w.heap.size ZL.toArray rfl rfl 27 BL.toArray HB2.out HZW.out HBZ.out HZO.out ?_
       intro w3 hb3 hf3
       have HB3 := Lib.hid hb3
       have HF3 := Lib.hid hf3
       clear hb3 hf3))
  have HR3 : Hid (w3.rangeAt w.heap.size 0 ZL) := Lib.hid HB3.out.range
  have HW3 : Hid (Fr [] w w3) := Lib.hid (HF2.out.and HF3.out (by simp))
  have HZ3 : Hid (z.Ok w3 [w.heap.size]) := Lib.hid (HZ2.out.keep HF3.out (fun k hk _ => hk))
  have HGS3 : Hid (w.heap.size < w3.heap.size) := Lib.hid HB3.out.lt
  clear HZ2 HB2 HF2 HGS2
  go_upto_region 3 with (first
    | (refine wpList_load_mid rfl 27 _ rfl w.heap.size 0 rfl ZL _ HR3.out Tryd.underlying27 rfl HZW2.out ?_)
    | (refine wpList_store_blk rfl 27 _ _ rfl w3.heap.size ZL.toArray rfl rfl 27 _ (Blk.new w3 _ _) HZW.out (by rw [HZS.out]; rfl) HZO.out ?_
       intro w4 hb4 hf4
       have HB4 := Lib.hid hb4
       have HF4 : Hid (Fr [] w3 w4) := Lib.hid (((Fr.refl [] w3).alloc _).and hf4 (by simp))
       clear hb4 hf4))
  have HB0 := Lib.hid (HB3.out.keep HF4.out (by simp))
  have HW4 : Hid (Fr [] w w4) := Lib.hid (HW3.out.and HF4.out (by simp))
  have HZ4 : Hid (z.Ok w4 [w.heap.size, w3.heap.size]) := Lib.hid (HZ3.out.keep (HF4.out.mono (by simp)) (fun k hk hl => by simp at hk; rcases hk with h | h; simp [h]; omega))
  have HG : Hid (w.heap.size < w3.heap.size ∧ w3.heap.size < w4.heap.size) := Lib.hid ⟨HGS3.out, HB4.out.lt⟩
  clear HZ3 HB3 HF3 HW3 HF4 HGS3 HR3
  generalize hg0 : w.heap.size = g0 at *
  have HG0 := Lib.hid hg0
  generalize w3.heap.size = g5 at *
  go_wp2_with fail
  refine (within_pos what 4 hw1 hw2 (by omega) (by omega) _).mono ?_
  rintro e_ w5 ⟨rfl, rfl⟩
  have hq0 : 0 ≤ what % 4 := Int.emod_nonneg _ (by omega)
  have hq4 : what % 4 < 4 := Int.emod_lt_of_pos _ (by omega)
  clear hw1 hw2 hg0
  generalize what % 4 = q at *
  go_upto_block 0 with (fail)
  go_cut [17] (fun _ wx => ∃ (c : Wba) (sb : Bool), Hid (Blk wx g0 27 ZL.toArray) ∧ Hid (Blk wx g5 27 c.cells.toArray) ∧ Hid (z.Ok wx []) ∧ Hid (c.Ok wx []) ∧ Hid (∀ W, Fr [] wx W → Calls Tryd.prog 7 #[.agg ZL.toArray, .agg c.cells.toArray] W fun e w' => e = .returned (.bool sb) ∧ Fr [] W w') ∧ Hid (decide (z.full = c.full) = sb) ∧ Hid (Fr [] w wx))
  case first =>
    have HRZ : Hid (w4.rangeAt g0 0 ZL) := Lib.hid HB0.out.range
    obtain hq | hq | hq | hq : q = 0 ∨ q = 1 ∨ q = 2 ∨ q = 3 := by omega
    · have hqs : True := trivial
      have hq0 : (q == 0) = true := by simp [hq]
      clear hq hq4 hqs
      have hc : w4.cell? ⟨g0, 3, none⟩ = some (.slice z.A2 z.n2 z.d2) := by have h := HB0.out.range 3 _ (by rw [← HZL.out]; rfl); simpa using h
      have HOL : Hid (op3.cells.length = 34) := Lib.hid (Wop.len (x := op3) rfl)
      have HOO := Lib.hid (Wop.one op3)
      obtain ⟨OC, hOC⟩ : ∃ OC, op3.cells = OC := ⟨_, rfl⟩
      have HBU : Hid (Tryd.prog.built 34 [(0, .int .i64 3)] = some OC.toArray) := Lib.hid (by rw [← hOC]; exact built_op3)
      have HOC := Lib.hid hOC
      rw [hOC] at HOL HOO
      clear hOC
      have HFB : Hid (Fr [] w4 (w4.alloc (Obj.cells OC.toArray 34))) := Lib.hid ((Fr.refl [] w4).alloc _)
      have hcA : (w4.alloc (Obj.cells OC.toArray 34)).cell? ⟨g0, 3, none⟩ = some (.slice z.A2 z.n2 z.d2) := HFB.out.cell hc (by simp)
      clear hc
      go_wp2_with (first
        | (refine wpList_builtg rfl 34 _ rfl _ _ HBU.out rfl ?_)
        | (refine wpList_build_one rfl 24 34 _ rfl Tryd.underlying24 OC 64 (by rw [HOL.out]; exact el_opn) rfl (by rw [HOL.out]; decide) (by rw [HOL.out]; decide) ?_)
        | (at_builtin; refine Stop.mk ?_))
      refine Stop.go ?_
      refine wpList_append_onto (ok := fun w v => Wop.Ok w [g0, g5] v) _ rfl (.tmp 20) (.tmp 22) _ rfl 34 34 64 Tryd.underlying24 el_opn (by decide) (by decide) Wop.one (.slice (some ⟨w4.heap.size, 0, none⟩) 1 1) 1 [op3] rfl ⟨by simp [HOC.out, HOL.out], .inr ⟨w4.heap.size, 1, OC.toArray, rfl, Nat.zero_le _, heap_alloc_new w4 _, Nat.le_refl _, by decide, by simp [HOL.out], by
        have h : [op3].flatMap Wop.cells = OC := by simp [HOC.out]
        rw [h]
        exact List.take_of_length_le (by have := HOL.out; simp; omega)⟩⟩ z.A2 z.n2 z.d2 z.l2 rfl (HZ4.out.l2.keep' HFB.out (by simp) (fun _ _ h => Wop.Ok.keep h (HFB.out.mono (by simp)) (fun k hk _ => hk))) (by have := HZN.out; omega) ?_
      intro A6 c6 w6 ho6 hg6 hb6
      clear hcA
      have HF6 : Hid (Fr [] w4 w6) := Lib.hid (HFB.out.grown hg6 (fun k hk hl => by simp [Value.ownBlock] at hk; omega))
      have HA6 : Hid (∀ q ∈ bk A6, w4.heap.size ≤ q) := Lib.hid (fun q hq => by rcases hb6 with h | h <;> rw [h] at hq <;> simp [Value.ownBlock] at hq <;> omega)
      have HO6 := Lib.hid ho6
      have hb5 := HB4.out.keep HF6.out (by simp)
      have hz5 := hb5.frozen 3
      have hc5 : w6.cell? ⟨g5, 3, none⟩ = some (.slice z.A2 z.n2 z.d2) := by have h := hb5.range 3 _ (by rw [← HZL.out]; rfl); simpa using h
      have hb7 : Blk (w6.setCell ⟨g5, 3, none⟩ (.slice A6 (1 + z.n2) c6)) g5 27 (Wba.cells ⟨z.e, z.t, z.A, z.n, z.d, z.l, A6, 1 + z.n2, c6, [op3] ++ z.l2, z.A3, z.n3, z.d3, z.l3⟩).toArray := by have h := hb5.set 3 (.slice A6 (1 + z.n2) c6); rw [← HZL.out] at h; exact h
      have HB7 := Lib.hid hb7
      have HF7 : Hid (Fr [g5] w4 (w6.setCell ⟨g5, 3, none⟩ (.slice A6 (1 + z.n2) c6))) := Lib.hid ((HF6.out.mono (T := [g5]) (by simp)).setCell _ (fun _ => by simp) _)
      have HO7 := Lib.hid (own_setCell ho6 ⟨g5, 3, none⟩ (by intro he; rw [bk_mem] at he; have h1 := HA6.out g5 he; have h2 := HG.out; omega) (.slice A6 (1 + z.n2) c6))
      clear ho6 hg6 hb6 hb5 hb7
      go_wp2_with fail
      clear hz5 hc5
      go_meet
      generalize w6.setCell ⟨g5, 3, none⟩ (.slice A6 (1 + z.n2) c6) = w7 at *
      have hzk := HZ4.out.keep (S' := []) (HF7.out.mono (by simp)) (by simp)
      have hkk : ∀ S', (∀ q ∈ S', q ∈ [g0, g5]) → ∀ u ∈ z.l2, Wop.Ok w7 S' u := fun S' hS u hu => ((HZ4.out.l2.2.1 u hu).2).keep (HF7.out.mono (by simp)) (fun k hk _ => hS k hk)
      have hcok : Wba.Ok w7 [] ⟨z.e, z.t, z.A, z.n, z.d, z.l, A6, 1 + z.n2, c6, [op3] ++ z.l2, z.A3, z.n3, z.d3, z.l3⟩ := ⟨hzk.e, hzk.t, hzk.l, hzk.n, hzk.ap, Lst.of_own HO7.out (by simp; rw [HZ4.out.l2.1]; omega) (fun u hu => by
        rcases List.mem_append.1 hu with h | h
        · rw [List.mem_singleton.1 h]
          exact ⟨Wop.len rfl, ⟨show i64In 3 from ⟨by decide, by decide⟩, By.nil _ _, by decide, by simp [op3, bk], by simp [op3, bk], rfl, by decide⟩⟩
        · exact ⟨(HZ4.out.l2.2.1 u h).1, hkk [] (by simp) u h⟩), (by have := HZN.out; show 1 + z.n2 ≤ 5; omega), by simp, hzk.l3, hzk.n3, hzk.ap3⟩
      refine ⟨⟨z.e, z.t, z.A, z.n, z.d, z.l, A6, 1 + z.n2, c6, [op3] ++ z.l2, z.A3, z.n3, z.d3, z.l3⟩, false, Lib.hid (HB0.out.keep HF7.out (by have := HG.out; simp; omega)), HB7, Lib.hid hzk, Lib.hid hcok, Lib.hid (fun W hW => ?_), Lib.hid (decide_eq_false (full_open z _ op3 rfl rfl rfl rfl rfl rfl (by rw [HZ4.out.l2.1]; have := HZN.out; omega))), Lib.hid (HW4.out.trans HF7.out (fun x hx hl => by simp at hx; have h1 := HG.out; have h2 := HG0.out; omega))⟩
      rw [← HZL.out]
      exact kb_open z ⟨z.e, z.t, z.A, z.n, z.d, z.l, A6, 1 + z.n2, c6, [op3] ++ z.l2, z.A3, z.n3, z.d3, z.l3⟩ W (Wba.Ok.keep (S' := []) hzk hW (by simp)) rfl rfl rfl (by show 1 + z.n2 ≠ z.n2; omega) ⟨hcok.n2, hcok.n3, hcok.n⟩ _ _ rfl rfl
    · have hqs : True := trivial
      have hq0 : (q == 0) = false := by simp [hq]
      have hq1 : (q == 1) = true := by simp [hq]
      clear hq hq4 hqs
      have hc : w4.cell? ⟨g0, 4, none⟩ = some (.slice z.A3 z.n3 z.d3) := by have h := HB0.out.range 4 _ (by rw [← HZL.out]; rfl); simpa using h
      have HOL : Hid (tb3.cells.length = 2) := Lib.hid rfl
      have HOO := Lib.hid (Wtb.one tb3)
      obtain ⟨OC, hOC⟩ : ∃ OC, tb3.cells = OC := ⟨_, rfl⟩
      have HBU : Hid (Tryd.prog.built 37 [(0, .int .i64 3)] = some OC.toArray) := Lib.hid (by rw [← hOC]; exact built_tb3)
      have HOC := Lib.hid hOC
      rw [hOC] at HOL HOO
      clear hOC
      have HFB : Hid (Fr [] w4 (w4.alloc (Obj.cells OC.toArray 37))) := Lib.hid ((Fr.refl [] w4).alloc _)
      have hcA : (w4.alloc (Obj.cells OC.toArray 37)).cell? ⟨g0, 4, none⟩ = some (.slice z.A3 z.n3 z.d3) := HFB.out.cell hc (by simp)
      clear hc
      go_wp2_with (first
        | (refine wpList_builtg rfl 37 _ rfl _ _ HBU.out rfl ?_)
        | (refine wpList_build_one rfl 25 37 _ rfl Tryd.underlying25 OC 32 (by rw [HOL.out]; exact el_tomb) rfl (by rw [HOL.out]; decide) (by rw [HOL.out]; decide) ?_)
        | (at_builtin; refine Stop.mk ?_))
      refine Stop.go ?_
      refine wpList_append_onto (ok := fun w v => Wtb.Ok w [g0, g5] v) _ rfl (.tmp 28) (.tmp 30) _ rfl 37 2 32 Tryd.underlying25 el_tomb (by decide) (by decide) Wtb.one (.slice (some ⟨w4.heap.size, 0, none⟩) 1 1) 1 [tb3] rfl ⟨by simp [HOC.out, HOL.out], .inr ⟨w4.heap.size, 1, OC.toArray, rfl, Nat.zero_le _, heap_alloc_new w4 _, Nat.le_refl _, by decide, by simp [HOL.out], by
        have h : [tb3].flatMap Wtb.cells = OC := by simp [HOC.out]
        rw [h]
        exact List.take_of_length_le (by have := HOL.out; simp; omega)⟩⟩ z.A3 z.n3 z.d3 z.l3 rfl (HZ4.out.l3.keep' HFB.out (by simp) (fun _ _ h => Wtb.Ok.keep h (HFB.out.mono (by simp)) (fun k hk _ => hk))) (by have := HZN.out; omega) ?_
      intro A6 c6 w6 ho6 hg6 hb6
      clear hcA
      have HF6 : Hid (Fr [] w4 w6) := Lib.hid (HFB.out.grown hg6 (fun k hk hl => by simp [Value.ownBlock] at hk; omega))
      have HA6 : Hid (∀ q ∈ bk A6, w4.heap.size ≤ q) := Lib.hid (fun q hq => by rcases hb6 with h | h <;> rw [h] at hq <;> simp [Value.ownBlock] at hq <;> omega)
      have HO6 := Lib.hid ho6
      have hb5 := HB4.out.keep HF6.out (by simp)
      have hz5 := hb5.frozen 4
      have hc5 : w6.cell? ⟨g5, 4, none⟩ = some (.slice z.A3 z.n3 z.d3) := by have h := hb5.range 4 _ (by rw [← HZL.out]; rfl); simpa using h
      have hb7 : Blk (w6.setCell ⟨g5, 4, none⟩ (.slice A6 (1 + z.n3) c6)) g5 27 (Wba.cells ⟨z.e, z.t, z.A, z.n, z.d, z.l, z.A2, z.n2, z.d2, z.l2, A6, 1 + z.n3, c6, [tb3] ++ z.l3⟩).toArray := by have h := hb5.set 4 (.slice A6 (1 + z.n3) c6); rw [← HZL.out] at h; exact h
      have HB7 := Lib.hid hb7
      have HF7 : Hid (Fr [g5] w4 (w6.setCell ⟨g5, 4, none⟩ (.slice A6 (1 + z.n3) c6))) := Lib.hid ((HF6.out.mono (T := [g5]) (by simp)).setCell _ (fun _ => by simp) _)
      have HO7 := Lib.hid (own_setCell ho6 ⟨g5, 4, none⟩ (by intro he; rw [bk_mem] at he; have h1 := HA6.out g5 he; have h2 := HG.out; omega) (.slice A6 (1 + z.n3) c6))
      clear ho6 hg6 hb6 hb5 hb7
      go_wp2_with fail
      clear hz5 hc5
      go_meet
      generalize w6.setCell ⟨g5, 4, none⟩ (.slice A6 (1 + z.n3) c6) = w7 at *
      have hzk := HZ4.out.keep (S' := []) (HF7.out.mono (by simp)) (by simp)
      have hkk : ∀ S', (∀ q ∈ S', q ∈ [g0, g5]) → ∀ u ∈ z.l3, Wtb.Ok w7 S' u := fun S' hS u hu => ((HZ4.out.l3.2.1 u hu).2).keep (HF7.out.mono (by simp)) (fun k hk _ => hS k hk)
      have hcok : Wba.Ok w7 [] ⟨z.e, z.t, z.A, z.n, z.d, z.l, z.A2, z.n2, z.d2, z.l2, A6, 1 + z.n3, c6, [tb3] ++ z.l3⟩ := ⟨hzk.e, hzk.t, hzk.l, hzk.n, hzk.ap, hzk.l2, hzk.n2, hzk.ap2, Lst.of_own HO7.out (by simp; rw [HZ4.out.l3.1]; omega) (fun u hu => by
        rcases List.mem_append.1 hu with h | h
        · rw [List.mem_singleton.1 h]
          exact ⟨rfl, ⟨show i64In 3 from ⟨by decide, by decide⟩, Lst.nil _, by decide, by simp⟩⟩
        · exact ⟨rfl, hkk [] (by simp) u h⟩), (by have := HZN.out; show 1 + z.n3 ≤ 5; omega), by simp⟩
      refine ⟨⟨z.e, z.t, z.A, z.n, z.d, z.l, z.A2, z.n2, z.d2, z.l2, A6, 1 + z.n3, c6, [tb3] ++ z.l3⟩, false, Lib.hid (HB0.out.keep HF7.out (by have := HG.out; simp; omega)), HB7, Lib.hid hzk, Lib.hid hcok, Lib.hid (fun W hW => ?_), Lib.hid (decide_eq_false (full_tomb z _ tb3 rfl rfl rfl rfl rfl (by rw [HZ4.out.l3.1]; have := HZN.out; omega))), Lib.hid (HW4.out.trans HF7.out (fun x hx hl => by simp at hx; have h1 := HG.out; have h2 := HG0.out; omega))⟩
      rw [← HZL.out]
      exact kb_tomb z ⟨z.e, z.t, z.A, z.n, z.d, z.l, z.A2, z.n2, z.d2, z.l2, A6, 1 + z.n3, c6, [tb3] ++ z.l3⟩ W (Wba.Ok.keep (S' := []) hzk hW (by simp)) rfl rfl rfl ⟨rfl, rfl, rfl⟩ (by show 1 + z.n3 ≠ z.n3; omega) ⟨hcok.n2, hcok.n3, hcok.n⟩ _ _ rfl rfl
    · have hq0 : (q == 0) = false := by simp [hq]
      have hq1 : (q == 1) = false := by simp [hq]
      have hq2 : (q == 2) = true := by simp [hq]
      clear hq hq4
      have hc : w4.cell? ⟨g0, 2, none⟩ = some (.slice z.A z.n z.d) := by have h := HB0.out.range 2 _ (by rw [← HZL.out]; rfl); simpa using h
      have hz5 := HB4.out.frozen 2
      have hc5 : w4.cell? ⟨g5, 2, none⟩ = some (.slice z.A z.n z.d) := by have h := HB4.out.range 2 _ (by rw [← HZL.out]; rfl); simpa using h
      by_cases hz0 : 0 < z.n
      · obtain ⟨ad, had, _⟩ := HZ4.out.l.2.2 hz0
        have HAD := Lib.hid had
        rw [had] at hc hc5
        have hn1 : 1 ≤ z.n := hz0
        have hnd : z.n ≤ z.d := HZN.out.2.2.2
        have HLS : Hid (Lst 6 Wpr.cells (fun w v => v.Ok w [g0, g5]) w4 (some ad) z.n z.l) := Lib.hid (had ▸ HZ4.out.l)
        clear had
        by_cases hd : z.d = 1
        · go_wp2_with fail
          clear hc hc5 hz5
          go_meet
          have hn : z.n = 1 := by omega
          have hb7 : Blk (w4.setCell ⟨g5, 2, none⟩ (.slice (some ad) (z.n - 1) 0)) g5 27 (Wba.cells ⟨z.e, z.t, some ad, z.n - 1, 0, z.l.drop 1, z.A2, z.n2, z.d2, z.l2, z.A3, z.n3, z.d3, z.l3⟩).toArray := by have h := HB4.out.set 2 (.slice (some ad) (z.n - 1) 0); rw [← HZL.out] at h; exact h
          have HB7 := Lib.hid hb7
          have HF7 : Hid (Fr [g5] w4 (w4.setCell ⟨g5, 2, none⟩ (.slice (some ad) (z.n - 1) 0))) := Lib.hid ((Fr.refl [g5] w4).setCell _ (fun _ => by simp) _)
          clear hb7
          generalize w4.setCell ⟨g5, 2, none⟩ (.slice (some ad) (z.n - 1) 0) = w7 at *
          have hzk := HZ4.out.keep (S' := []) (HF7.out.mono (by simp)) (by simp)
          have hcok : Wba.Ok w7 [] ⟨z.e, z.t, some ad, z.n - 1, 0, z.l.drop 1, z.A2, z.n2, z.d2, z.l2, z.A3, z.n3, z.d3, z.l3⟩ := ⟨hzk.e, hzk.t, by rw [show z.n - 1 = 0 by omega, List.drop_of_length_le (by rw [HLS.out.1]; omega)]; exact Lst.nil _, by have := HZN.out; show z.n - 1 ≤ 4; omega, by simp, hzk.l2, hzk.n2, hzk.ap2, hzk.l3, hzk.n3, hzk.ap3⟩
          refine ⟨⟨z.e, z.t, some ad, z.n - 1, 0, z.l.drop 1, z.A2, z.n2, z.d2, z.l2, z.A3, z.n3, z.d3, z.l3⟩, false, Lib.hid (HB0.out.keep HF7.out (by have := HG.out; simp; omega)), HB7, Lib.hid hzk, Lib.hid hcok, Lib.hid (fun W hW => ?_), Lib.hid (decide_eq_false (full_prom z _ (by rw [HLS.out.1]; omega) (by rw [HLS.out.1]; have := HZN.out; omega) rfl rfl rfl rfl rfl)), Lib.hid (HW4.out.trans HF7.out (fun x hx hl => by simp at hx; have h1 := HG.out; have h2 := HG0.out; omega))⟩
          rw [← HZL.out]
          exact kb_prom z ⟨z.e, z.t, some ad, z.n - 1, 0, z.l.drop 1, z.A2, z.n2, z.d2, z.l2, z.A3, z.n3, z.d3, z.l3⟩ W (Wba.Ok.keep (S' := []) hzk hW (by simp)) rfl rfl (by show z.n - 1 ≠ z.n; omega) ⟨hcok.n2, hcok.n3, hcok.n⟩ _ _ rfl rfl
        · go_wp2_with fail
          clear hc hc5 hz5
          go_meet
          have hb7 : Blk (w4.setCell ⟨g5, 2, none⟩ (.slice (some ⟨ad.block, ad.off + 6, none⟩) (z.n - 1) (z.d - 1))) g5 27 (Wba.cells ⟨z.e, z.t, some (ad.add 6), z.n - 1, z.d - 1, z.l.drop 1, z.A2, z.n2, z.d2, z.l2, z.A3, z.n3, z.d3, z.l3⟩).toArray := by have h := HB4.out.set 2 (.slice (some ⟨ad.block, ad.off + 6, none⟩) (z.n - 1) (z.d - 1)); rw [← HZL.out] at h; exact h
          have HB7 := Lib.hid hb7
          have HF7 : Hid (Fr [g5] w4 (w4.setCell ⟨g5, 2, none⟩ (.slice (some ⟨ad.block, ad.off + 6, none⟩) (z.n - 1) (z.d - 1)))) := Lib.hid ((Fr.refl [g5] w4).setCell _ (fun _ => by simp) _)
          clear hb7
          generalize w4.setCell ⟨g5, 2, none⟩ (.slice (some ⟨ad.block, ad.off + 6, none⟩) (z.n - 1) (z.d - 1)) = w7 at *
          have hzk := HZ4.out.keep (S' := []) (HF7.out.mono (by simp)) (by simp)
          have hcok : Wba.Ok w7 [] ⟨z.e, z.t, some (ad.add 6), z.n - 1, z.d - 1, z.l.drop 1, z.A2, z.n2, z.d2, z.l2, z.A3, z.n3, z.d3, z.l3⟩ := ⟨hzk.e, hzk.t, HLS.out.tail.keep' (HF7.out.mono (T := [g0, g5]) (by simp)) (fun hp a ha => by injection ha with ha; rw [← ha, add_block]; exact HZ4.out.ap hz0 ad HAD.out) (fun u hu h => Wpr.Ok.keep (S' := []) h (HF7.out.mono (by simp)) (by simp)), by have := HZN.out; show z.n - 1 ≤ 4; omega, by simp, hzk.l2, hzk.n2, hzk.ap2, hzk.l3, hzk.n3, hzk.ap3⟩
          refine ⟨⟨z.e, z.t, some (ad.add 6), z.n - 1, z.d - 1, z.l.drop 1, z.A2, z.n2, z.d2, z.l2, z.A3, z.n3, z.d3, z.l3⟩, false, Lib.hid (HB0.out.keep HF7.out (by have := HG.out; simp; omega)), HB7, Lib.hid hzk, Lib.hid hcok, Lib.hid (fun W hW => ?_), Lib.hid (decide_eq_false (full_prom z _ (by rw [HLS.out.1]; omega) (by rw [HLS.out.1]; have := HZN.out; omega) rfl rfl rfl rfl rfl)), Lib.hid (HW4.out.trans HF7.out (fun x hx hl => by simp at hx; have h1 := HG.out; have h2 := HG0.out; omega))⟩
          rw [← HZL.out]
          exact kb_prom z ⟨z.e, z.t, some (ad.add 6), z.n - 1, z.d - 1, z.l.drop 1, z.A2, z.n2, z.d2, z.l2, z.A3, z.n3, z.d3, z.l3⟩ W (Wba.Ok.keep (S' := []) hzk hW (by simp)) rfl rfl (by show z.n - 1 ≠ z.n; omega) ⟨hcok.n2, hcok.n3, hcok.n⟩ _ _ rfl rfl
      · have hn0 : z.n = 0 := by omega
        have HN0 := Lib.hid hn0
        rw [hn0] at hc
        clear hz0 hn0 hc5 hz5
        go_wp2_with fail
        clear hc
        go_meet
        have hzk := HZ4.out.keep (S' := []) (Fr.refl _ _) (by simp)
        refine ⟨z, true, HB0, Lib.hid (by rw [HZL.out]; exact HB4.out), Lib.hid hzk, Lib.hid hzk, Lib.hid (fun W hW => ?_), Lib.hid (by simp), HW4⟩
        rw [← HZL.out]
        exact kb_same z z W (Wba.Ok.keep (S' := []) hzk hW (by simp)) rfl rfl rfl HN0.out ⟨rfl, rfl, rfl⟩ ⟨rfl, rfl, rfl⟩ ⟨hzk.n2, hzk.n3, hzk.n⟩ _ _ rfl rfl
    · have hq0 : (q == 0) = false := by simp [hq]
      have hq1 : (q == 1) = false := by simp [hq]
      have hq2 : (q == 2) = false := by simp [hq]
      clear hq hq4
      have hc : w4.cell? ⟨g0, 1, none⟩ = some (.int .u64 (z.t : Int)) := by have h := HB0.out.range 1 _ (by rw [← HZL.out]; rfl); simpa using h
      have hz5 := HB4.out.frozen 1
      have hc5 : w4.cell? ⟨g5, 1, none⟩ = some (.int .u64 (z.t : Int)) := by have h := HB4.out.range 1 _ (by rw [← HZL.out]; rfl); simpa using h
      go_wp2_with fail
      clear hc hz5 hc5
      go_meet
      rw [show bits BinOp.xor IntKind.u64 ((z.t : Nat) : Int) 1 = ((z.t ^^^ 1 : Nat) : Int) from u64_xor_nat z.t 1 HZ4.out.t (by omega)]
      have hxt : z.t ^^^ 1 < 18446744073709551616 := Nat.xor_lt_two_pow (n := 64) HZ4.out.t (by decide)
      have hb7 : Blk (w4.setCell ⟨g5, 1, none⟩ (.int .u64 ((z.t ^^^ 1 : Nat) : Int))) g5 27 (Wba.cells ⟨z.e, z.t ^^^ 1, z.A, z.n, z.d, z.l, z.A2, z.n2, z.d2, z.l2, z.A3, z.n3, z.d3, z.l3⟩).toArray := by have h := HB4.out.set 1 (.int .u64 ((z.t ^^^ 1 : Nat) : Int)); rw [← HZL.out] at h; exact h
      have HB7 := Lib.hid hb7
      have HF7 : Hid (Fr [g5] w4 (w4.setCell ⟨g5, 1, none⟩ (.int .u64 ((z.t ^^^ 1 : Nat) : Int)))) := Lib.hid ((Fr.refl [g5] w4).setCell _ (fun _ => by simp) _)
      clear hb7
      generalize w4.setCell ⟨g5, 1, none⟩ (.int .u64 ((z.t ^^^ 1 : Nat) : Int)) = w7 at *
      have hzk := HZ4.out.keep (S' := []) (HF7.out.mono (by simp)) (by simp)
      have hcok : Wba.Ok w7 [] ⟨z.e, z.t ^^^ 1, z.A, z.n, z.d, z.l, z.A2, z.n2, z.d2, z.l2, z.A3, z.n3, z.d3, z.l3⟩ := ⟨hzk.e, hxt, hzk.l, hzk.n, hzk.ap, hzk.l2, hzk.n2, hzk.ap2, hzk.l3, hzk.n3, hzk.ap3⟩
      refine ⟨⟨z.e, z.t ^^^ 1, z.A, z.n, z.d, z.l, z.A2, z.n2, z.d2, z.l2, z.A3, z.n3, z.d3, z.l3⟩, false, Lib.hid (HB0.out.keep HF7.out (by have := HG.out; simp; omega)), HB7, Lib.hid hzk, Lib.hid hcok, Lib.hid (fun W hW => ?_), Lib.hid (decide_eq_false (full_time z _ (xor_one_ne z.t) rfl)), Lib.hid (HW4.out.trans HF7.out (fun x hx hl => by simp at hx; have h1 := HG.out; have h2 := HG0.out; omega))⟩
      rw [← HZL.out]
      exact kb_time z ⟨z.e, z.t ^^^ 1, z.A, z.n, z.d, z.l, z.A2, z.n2, z.d2, z.l2, z.A3, z.n3, z.d3, z.l3⟩ W (Wba.Ok.keep (S' := []) hzk hW (by simp)) rfl (xor_one_ne z.t) ⟨hcok.n2, hcok.n3, hcok.n⟩ _ _ rfl rfl
  case rest =>
    obtain ⟨c, sb, HX0, HX5, HXZ, HXC, HKB, HSB, HXW⟩ := hcut
    rename World => wx
    clear HB0 HB4 HZ4 HW4 HG
    obtain ⟨CL, hCL⟩ : ∃ CL, c.cells = CL := ⟨_, rfl⟩
    have HCL := Lib.hid hCL
    rw [hCL] at HX5 HKB
    have HC5 : Hid (CL.length = 5) := Lib.hid (by rw [← hCL]; rfl)
    have HR0 : Hid (wx.rangeAt g0 0 ZL) := Lib.hid HX0.out.range
    have HR5 : Hid (wx.rangeAt g5 0 CL) := Lib.hid HX5.out.range
    have HCW : Hid ((Tryd.prog.info? 27).map (·.size) = some CL.length) := Lib.hid (by rw [HC5.out]; kernel_rfl)
    clear hCL
    go_wp2_with (first
      | (refine wpList_load_mid rfl 27 _ rfl g0 0 rfl ZL _ HR0.out Tryd.underlying27 rfl HZW2.out ?_)
      | (refine wpList_load_mid rfl 27 _ rfl g5 0 rfl CL _ HR5.out Tryd.underlying27 rfl HCW.out ?_))
    refine (HKB.out wx (Fr.refl _ _)).mono ?_
    rintro e_ wk ⟨rfl, hfk⟩
    have HFK := Lib.hid hfk
    have HXK : Hid (Fr [] w wk) := Lib.hid (HXW.out.and hfk (by simp))
    have HZK : Hid (z.Ok wk []) := Lib.hid (HXZ.out.keep hfk (by simp))
    have HCK : Hid (c.Ok wk []) := Lib.hid (HXC.out.keep hfk (by simp))
    have HRK0 : Hid (wk.rangeAt g0 0 ZL) := Lib.hid (hfk.range HR0.out (by simp))
    have HRK5 : Hid (wk.rangeAt g5 0 CL) := Lib.hid (hfk.range HR5.out (by simp))
    have HKK : Hid (KW wk) := Lib.hid (HK.out.keep HXK.out (by simp))
    clear hfk HKB HR0 HR5
    go_upto_region 13 with (fail)
    have HEQ : Hid (∀ (l : List UInt8) (_ : l.length = 32) (W : World), (Op.equalIn 10000 32 (.agg (l.map by8).toArray) (.agg (l.map by8).toArray)).run Tryd.prog W = .ok true W) := Lib.hid (fun l hl W => by
      have h := eql_hash l l hl hl 9998 W
      simpa using h)
    have HSL : Hid (∀ l : List UInt8, (sumL l).length = 32) := Lib.hid sumL_len
    refine wp_region_held_drew (S := Fr [] wk) (by kernel_rfl) (Fr.drew (Fr.refl _ wk)) (fun hHeld => ?_)
    generalize wk.drew = wd at *
    refine row_at (i := 0) rfl (by kernel_rfl) (by rfl) _ _ rfl _ _ rfl _ (fun w1 hw1 => hw1.range (HRK0.out) (by first | (simp; done) | exact HNS.out | exact HNW.out | (intro hm; have hlt := HSB.out _ hm; (try dsimp only at hlt); omega))) (row_baH.of HZ5.out) (fun _ _ _ h => h) hHeld ?_
    simp only [Act.put, List.setIfInBounds_toArray, List.set_cons_zero, List.set_cons_succ]
    refine row_at (i := 2) rfl (by kernel_rfl) (by rfl) _ _ rfl _ _ rfl _ (fun w1 hw1 => hw1.range (HRK0.out) (by first | (simp; done) | exact HNS.out | exact HNW.out | (intro hm; have hlt := HSB.out _ hm; (try dsimp only at hlt); omega))) (row_baH.of HZ5.out) (fun _ _ _ h => h) hHeld ?_
    simp only [Act.put, List.setIfInBounds_toArray, List.set_cons_zero, List.set_cons_succ]
    refine call_at (i := 1) (f := ?_) (args := ?_) rfl (by kernel_rfl) (by rfl) ?_ ?_
    rotate_left 2
    · go_simp
      (try (first | with_reducible rfl | (apply And.intro <;> rfl)))
    refine (batchHash_any z wd (HZK.out.keep hHeld (by simp)) (HKK.out.keep hHeld (by simp)) ZL HZL.out).mono ?_
    rintro e_ x1 ⟨rfl, hf⟩
    refine ⟨_, rfl, hHeld.and hf (by simp), fun hHeld => ?_⟩
    clear hf
    simp only [Act.put, List.setIfInBounds_toArray, List.set_cons_zero, List.set_cons_succ]
    refine call_at (i := 3) (f := ?_) (args := ?_) rfl (by kernel_rfl) (by rfl) ?_ ?_
    rotate_left 2
    · go_simp
      (try (first | with_reducible rfl | (apply And.intro <;> rfl)))
    refine (niceBatch_any z x1 (HZK.out.keep hHeld (by simp)) ZL HZL.out).mono ?_
    rintro e_ x2 ⟨z2, rfl, hok2, hr2, _, hf⟩
    refine ⟨_, rfl, hHeld.and hf (by simp), fun hHeld => ?_⟩
    have HOK2 := Lib.hid (hok2 [] (by simp))
    have HFU : Hid (z2.full = z.full) := Lib.hid (nba_idem HZR.out hr2 HZK.out HOK2.out)
    clear hf hok2 hr2
    unfold Wba.val
    obtain ⟨Z2L, hZ2L⟩ : ∃ Z2L, z2.cells = Z2L := ⟨_, rfl⟩
    have HZ2L := Lib.hid hZ2L
    rw [hZ2L]
    clear hZ2L
    simp only [Act.put, List.setIfInBounds_toArray, List.set_cons_zero, List.set_cons_succ]
    refine call_at (i := 4) (f := ?_) (args := ?_) rfl (by kernel_rfl) (by rfl) ?_ ?_
    rotate_left 2
    · go_simp
      (try (first | with_reducible rfl | (apply And.intro <;> rfl)))
    refine (batchHash_any z2 x2 HOK2.out (HKK.out.keep hHeld (by simp)) Z2L HZ2L.out).mono ?_
    rintro e_ x3 ⟨rfl, hf⟩
    refine ⟨_, rfl, hHeld.and hf (by simp), fun hHeld => ?_⟩
    clear hf
    rw [HFU.out]
    simp only [Act.put, List.setIfInBounds_toArray, List.set_cons_zero, List.set_cons_succ]
    refine eql_at (i := 5) rfl (by kernel_rfl) (by rfl) _ _ _ _ rfl _ _ rfl rfl _ (by kernel_rfl) (HEQ.out _ (HSL.out _)) (fun _ _ _ h => h) hHeld ?_
    simp only [Act.put, List.setIfInBounds_toArray, List.set_cons_zero, List.set_cons_succ]
    refine run_at (i := 6) (v := ?_) rfl (by kernel_rfl) (by rfl) (fun _ _ _ h => h) hHeld (fun w1 hw1 => ?_) ?_
    rotate_left 1
    · skip
      go_simp
      (try (first | with_reducible rfl | (apply And.intro <;> rfl)))
    simp only [Act.put, List.setIfInBounds_toArray, List.set_cons_zero, List.set_cons_succ]
    refine row_at (i := 7) rfl (by kernel_rfl) (by rfl) _ _ rfl _ _ rfl _ (fun w1 hw1 => hw1.range (HRK0.out) (by first | (simp; done) | exact HNS.out | exact HNW.out | (intro hm; have hlt := HSB.out _ hm; (try dsimp only at hlt); omega))) (row_baH.of HZ5.out) (fun _ _ _ h => h) hHeld ?_
    simp only [Act.put, List.setIfInBounds_toArray, List.set_cons_zero, List.set_cons_succ]
    refine row_at (i := 9) rfl (by kernel_rfl) (by rfl) _ _ rfl _ _ rfl _ (fun w1 hw1 => hw1.range (HRK5.out) (by first | (simp; done) | exact HNS.out | exact HNW.out | (intro hm; have hlt := HSB.out _ hm; (try dsimp only at hlt); omega))) (row_baH.of HC5.out) (fun _ _ _ h => h) hHeld ?_
    simp only [Act.put, List.setIfInBounds_toArray, List.set_cons_zero, List.set_cons_succ]
    refine run_at (i := 12) (v := ?_) rfl (by kernel_rfl) (by rfl) (fun _ _ _ h => h) hHeld (fun w1 hw1 => ?_) ?_
    rotate_left 1
    · skip
      go_simp
      (try (first | with_reducible rfl | (apply And.intro <;> rfl)))
    simp only [Act.put, List.setIfInBounds_toArray, List.set_cons_zero, List.set_cons_succ]
    refine call_at (i := 8) (f := ?_) (args := ?_) rfl (by kernel_rfl) (by rfl) ?_ ?_
    rotate_left 2
    · go_simp
      (try (first | with_reducible rfl | (apply And.intro <;> rfl)))
    refine (refputBatch_any z x3 (HZK.out.keep hHeld (by simp)) ZL HZL.out).mono ?_
    rintro e_ x4 ⟨A4, c4, rfl, hN4⟩
    refine ⟨_, rfl, hHeld.and hN4.2.1 (by simp), fun hHeld => ?_⟩
    have HN4 := Lib.hid hN4
    clear hN4
    have HZLN : Hid (z.full.length ≤ 1073741824) := Lib.hid (by have := Wba.full_len HZK.out; omega)
    obtain ⟨zn, hzn⟩ : ∃ zn, z.full.length = zn := ⟨_, rfl⟩
    rw [hzn] at HN4 HZLN ⊢
    clear hzn
    simp only [Act.put, List.setIfInBounds_toArray, List.set_cons_zero, List.set_cons_succ]
    refine call_at (i := 10) (f := ?_) (args := ?_) rfl (by kernel_rfl) (by rfl) ?_ ?_
    rotate_left 2
    · go_simp
      (try (first | with_reducible rfl | (apply And.intro <;> rfl)))
    refine (refputBatch_any c x4 (HCK.out.keep hHeld (by simp)) CL HCL.out).mono ?_
    rintro e_ x5 ⟨A5, c5, rfl, hN5⟩
    refine ⟨_, rfl, hHeld.and hN5.2.1 (by simp), fun hHeld => ?_⟩
    have HN5 := Lib.hid hN5
    clear hN5
    obtain ⟨cn, hcn⟩ : ∃ cn, c.full.length = cn := ⟨_, rfl⟩
    rw [hcn] at HN5 ⊢
    clear hcn
    simp only [Act.put, List.setIfInBounds_toArray, List.set_cons_zero, List.set_cons_succ]
    refine call_at (i := 11) (f := ?_) (args := ?_) rfl (by kernel_rfl) (by rfl) ?_ ?_
    rotate_left 2
    · go_simp
      (try (first | with_reducible rfl | (apply And.intro <;> rfl)))
    refine (same_any A4 A5 zn cn c4 c5 z.full c.full x5 (HN4.out.by.keep HN5.out.2.1 (by simp)) HN5.out.by HZLN.out).mono ?_
    rintro e_ x6 ⟨rfl, k6, rfl⟩
    refine ⟨_, rfl, Fr.drewN hHeld _, fun hHeld => ?_⟩
    rw [HSB.out]
    simp only [Act.put, List.setIfInBounds_toArray, List.set_cons_zero, List.set_cons_succ]
    generalize x5.drewN k6 = x6 at *
    have HBB : Hid ((sb == sb) = true) := Lib.hid (by simp)
    refine run_at (i := 13) (v := ?_) rfl (by kernel_rfl) (by rfl) (fun _ _ _ h => h) hHeld (fun w1 hw1 => ?_) ?_
    rotate_left 1
    · skip
      go_simp
      (try (first | with_reducible rfl | (apply And.intro <;> rfl)))
    simp only [Act.put, List.setIfInBounds_toArray, List.set_cons_zero, List.set_cons_succ]
    try rw [HBB.out]
    refine run_at (i := 14) (v := ?_) rfl (by kernel_rfl) (by rfl) (fun _ _ _ h => h) hHeld (fun w1 hw1 => ?_) ?_
    rotate_left 1
    · skip
      go_simp
      (try (first | with_reducible rfl | (apply And.intro <;> rfl)))
    simp only [Act.put, List.setIfInBounds_toArray, List.set_cons_zero, List.set_cons_succ]
    refine run_at (i := 15) (v := ?_) rfl (by kernel_rfl) (by rfl) (fun _ _ _ h => h) hHeld (fun w1 hw1 => ?_) ?_
    rotate_left 1
    · skip
      go_simp
      (try (first | with_reducible rfl | (apply And.intro <;> rfl)))
    simp only [Act.put, List.setIfInBounds_toArray, List.set_cons_zero, List.set_cons_succ]
    refine run_at (i := 16) (v := ?_) rfl (by kernel_rfl) (by rfl) (fun _ _ _ h => h) hHeld (fun w1 hw1 => ?_) ?_
    rotate_left 1
    · skip
      go_simp
      (try (first | with_reducible rfl | (apply And.intro <;> rfl)))
    simp only [Act.put, List.setIfInBounds_toArray, List.set_cons_zero, List.set_cons_succ]
    refine run_at (i := 17) (v := ?_) rfl (by kernel_rfl) (by rfl) (fun _ _ _ h => h) hHeld (fun w1 hw1 => ?_) ?_
    rotate_left 1
    · skip
      go_simp
      (try (first | with_reducible rfl | (apply And.intro <;> rfl)))
    simp only [Act.put, List.setIfInBounds_toArray, List.set_cons_zero, List.set_cons_succ]
    refine run_at (i := 18) (v := ?_) rfl (by kernel_rfl) (by rfl) (fun _ _ _ h => h) hHeld (fun w1 hw1 => ?_) ?_
    rotate_left 1
    · skip
      go_simp
      (try (first | with_reducible rfl | (apply And.intro <;> rfl)))
    simp only [Act.put, List.setIfInBounds_toArray, List.set_cons_zero, List.set_cons_succ]
    rcases sb with _ | _
    · skip
      refine skip_at (i := 19) rfl (by kernel_rfl) (fun _ _ _ h => h) (by rfl) hHeld ?_
      simp only [Act.put, List.setIfInBounds_toArray, List.set_cons_zero, List.set_cons_succ]
      refine skip_at (i := 20) rfl (by kernel_rfl) (fun _ _ _ h => h) (by rfl) hHeld ?_
      simp only [Act.put, List.setIfInBounds_toArray, List.set_cons_zero, List.set_cons_succ]
      refine skip_at (i := 21) rfl (by kernel_rfl) (fun _ _ _ h => h) (by rfl) hHeld ?_
      simp only [Act.put, List.setIfInBounds_toArray, List.set_cons_zero, List.set_cons_succ]
      refine skip_at (i := 22) rfl (by kernel_rfl) (fun _ _ _ h => h) (by rfl) hHeld ?_
      simp only [Act.put, List.setIfInBounds_toArray, List.set_cons_zero, List.set_cons_succ]
      refine skip_at (i := 23) rfl (by kernel_rfl) (fun _ _ _ h => h) (by rfl) hHeld ?_
      simp only [Act.put, List.setIfInBounds_toArray, List.set_cons_zero, List.set_cons_succ]
      refine run_at (i := 24) (v := ?_) rfl (by kernel_rfl) (by rfl) (fun _ _ _ h => h) hHeld (fun w1 hw1 => ?_) ?_
      rotate_left 1
      · skip
        go_simp
        (try (first | with_reducible rfl | (apply And.intro <;> rfl)))
      simp only [Act.put, List.setIfInBounds_toArray, List.set_cons_zero, List.set_cons_succ]
      refine run_at (i := 25) (v := ?_) rfl (by kernel_rfl) (by rfl) (fun _ _ _ h => h) hHeld (fun w1 hw1 => ?_) ?_
      rotate_left 1
      · skip
        go_simp
        (try (first | with_reducible rfl | (apply And.intro <;> rfl)))
      simp only [Act.put, List.setIfInBounds_toArray, List.set_cons_zero, List.set_cons_succ]
      refine run_at (i := 26) (v := ?_) rfl (by kernel_rfl) (by rfl) (fun _ _ _ h => h) hHeld (fun w1 hw1 => ?_) ?_
      rotate_left 1
      · skip
        go_simp
        (try (first | with_reducible rfl | (apply And.intro <;> rfl)))
      simp only [Act.put, List.setIfInBounds_toArray, List.set_cons_zero, List.set_cons_succ]
      refine row_at (i := 27) rfl (by kernel_rfl) (by rfl) _ _ rfl _ _ rfl _ (fun w1 hw1 => hw1.range (HRK5.out) (by first | (simp; done) | exact HNS.out | exact HNW.out | (intro hm; have hlt := HSB.out _ hm; (try dsimp only at hlt); omega))) (row_baH.of HC5.out) (fun _ _ _ h => h) hHeld ?_
      simp only [Act.put, List.setIfInBounds_toArray, List.set_cons_zero, List.set_cons_succ]
      refine row_at (i := 29) rfl (by kernel_rfl) (by rfl) _ _ rfl _ _ rfl _ (fun w1 hw1 => hw1.range (HRK5.out) (by first | (simp; done) | exact HNS.out | exact HNW.out | (intro hm; have hlt := HSB.out _ hm; (try dsimp only at hlt); omega))) (row_baH.of HC5.out) (fun _ _ _ h => h) hHeld ?_
      simp only [Act.put, List.setIfInBounds_toArray, List.set_cons_zero, List.set_cons_succ]
      refine call_at (i := 28) (f := ?_) (args := ?_) rfl (by kernel_rfl) (by rfl) ?_ ?_
      rotate_left 2
      · go_simp
        (try (first | with_reducible rfl | (apply And.intro <;> rfl)))
      refine (batchHash_any c x6 (HCK.out.keep hHeld (by simp)) (HKK.out.keep hHeld (by simp)) CL HCL.out).mono ?_
      rintro e_ y1 ⟨rfl, hf⟩
      refine ⟨_, rfl, hHeld.and hf (by simp), fun hHeld => ?_⟩
      clear hf
      simp only [Act.put, List.setIfInBounds_toArray, List.set_cons_zero, List.set_cons_succ]
      refine call_at (i := 30) (f := ?_) (args := ?_) rfl (by kernel_rfl) (by rfl) ?_ ?_
      rotate_left 2
      · go_simp
        (try (first | with_reducible rfl | (apply And.intro <;> rfl)))
      refine (refbatchHash_any c y1 (HCK.out.keep hHeld (by simp)) CL HCL.out).mono ?_
      rintro e_ y2 ⟨rfl, hf⟩
      refine ⟨_, rfl, hHeld.and hf (by simp), fun hHeld => ?_⟩
      clear hf
      simp only [Act.put, List.setIfInBounds_toArray, List.set_cons_zero, List.set_cons_succ]
      refine eql_at (i := 31) rfl (by kernel_rfl) (by rfl) _ _ _ _ rfl _ _ rfl rfl _ (by kernel_rfl) (HEQ.out _ (HSL.out _)) (fun _ _ _ h => h) hHeld ?_
      simp only [Act.put, List.setIfInBounds_toArray, List.set_cons_zero, List.set_cons_succ]
      refine run_at (i := 32) (v := ?_) rfl (by kernel_rfl) (by rfl) (fun _ _ _ h => h) hHeld (fun w1 hw1 => ?_) ?_
      rotate_left 1
      · skip
        go_simp
        (try (first | with_reducible rfl | (apply And.intro <;> rfl)))
      simp only [Act.put, List.setIfInBounds_toArray, List.set_cons_zero, List.set_cons_succ]
      refine run_at (i := 33) (v := ?_) rfl (by kernel_rfl) (by rfl) (fun _ _ _ h => h) hHeld (fun w1 hw1 => ?_) ?_
      rotate_left 1
      · skip
        go_simp
        (try (first | with_reducible rfl | (apply And.intro <;> rfl)))
      simp only [Act.put, List.setIfInBounds_toArray, List.set_cons_zero, List.set_cons_succ]
      refine call_at (i := 34) (f := ?_) (args := ?_) rfl (by kernel_rfl) (by rfl) ?_ ?_
      rotate_left 2
      · go_simp
        (try (first | with_reducible rfl | (apply And.intro <;> rfl)))
      refine (wwakes_any y2).mono ?_
      rintro e_ y3 ⟨rfl, hf⟩
      refine ⟨_, rfl, hHeld.and hf (by simp), fun hHeld => ?_⟩
      clear hf
      simp only [Act.put, List.setIfInBounds_toArray, List.set_cons_zero, List.set_cons_succ]
      refine run_at (i := 35) (v := ?_) rfl (by kernel_rfl) (by rfl) (fun _ _ _ h => h) hHeld (fun w1 hw1 => ?_) ?_
      rotate_left 1
      · skip
        go_simp
        (try (first | with_reducible rfl | (apply And.intro <;> rfl)))
      simp only [Act.put, List.setIfInBounds_toArray, List.set_cons_zero, List.set_cons_succ]
      refine run_at (i := 36) (v := ?_) rfl (by kernel_rfl) (by rfl) (fun _ _ _ h => h) hHeld (fun w1 hw1 => ?_) ?_
      rotate_left 1
      · skip
        go_simp
        (try (first | with_reducible rfl | (apply And.intro <;> rfl)))
      simp only [Act.put, List.setIfInBounds_toArray, List.set_cons_zero, List.set_cons_succ]
      refine wpAnyH_done (by kernel_rfl) ?_ _
      have HFIN := Lib.hid (HXK.out.and hHeld (by simp))
      clear hHeld
      go_wp2
      go_ret
      exact ⟨rfl, HFIN.out⟩
    · have hzc : z.full = c.full := by simpa using HSB.out
      have HZC := Lib.hid hzc
      clear hzc
      refine row_at (i := 19) rfl (by kernel_rfl) (by rfl) _ _ rfl _ _ rfl _ (fun w1 hw1 => hw1.range (HRK0.out) (by first | (simp; done) | exact HNS.out | exact HNW.out | (intro hm; have hlt := HSB.out _ hm; (try dsimp only at hlt); omega))) (row_baH.of HZ5.out) (fun _ _ _ h => h) hHeld ?_
      simp only [Act.put, List.setIfInBounds_toArray, List.set_cons_zero, List.set_cons_succ]
      refine row_at (i := 21) rfl (by kernel_rfl) (by rfl) _ _ rfl _ _ rfl _ (fun w1 hw1 => hw1.range (HRK5.out) (by first | (simp; done) | exact HNS.out | exact HNW.out | (intro hm; have hlt := HSB.out _ hm; (try dsimp only at hlt); omega))) (row_baH.of HC5.out) (fun _ _ _ h => h) hHeld ?_
      simp only [Act.put, List.setIfInBounds_toArray, List.set_cons_zero, List.set_cons_succ]
      refine call_at (i := 20) (f := ?_) (args := ?_) rfl (by kernel_rfl) (by rfl) ?_ ?_
      rotate_left 2
      · go_simp
        (try (first | with_reducible rfl | (apply And.intro <;> rfl)))
      refine (batchHash_any z x6 (HZK.out.keep hHeld (by simp)) (HKK.out.keep hHeld (by simp)) ZL HZL.out).mono ?_
      rintro e_ x7 ⟨rfl, hf⟩
      refine ⟨_, rfl, hHeld.and hf (by simp), fun hHeld => ?_⟩
      clear hf
      rw [HZC.out]
      simp only [Act.put, List.setIfInBounds_toArray, List.set_cons_zero, List.set_cons_succ]
      refine call_at (i := 22) (f := ?_) (args := ?_) rfl (by kernel_rfl) (by rfl) ?_ ?_
      rotate_left 2
      · go_simp
        (try (first | with_reducible rfl | (apply And.intro <;> rfl)))
      refine (batchHash_any c x7 (HCK.out.keep hHeld (by simp)) (HKK.out.keep hHeld (by simp)) CL HCL.out).mono ?_
      rintro e_ x8 ⟨rfl, hf⟩
      refine ⟨_, rfl, hHeld.and hf (by simp), fun hHeld => ?_⟩
      clear hf
      simp only [Act.put, List.setIfInBounds_toArray, List.set_cons_zero, List.set_cons_succ]
      refine eql_at (i := 23) rfl (by kernel_rfl) (by rfl) _ _ _ _ rfl _ _ rfl rfl _ (by kernel_rfl) (HEQ.out _ (HSL.out _)) (fun _ _ _ h => h) hHeld ?_
      simp only [Act.put, List.setIfInBounds_toArray, List.set_cons_zero, List.set_cons_succ]
      refine run_at (i := 24) (v := ?_) rfl (by kernel_rfl) (by rfl) (fun _ _ _ h => h) hHeld (fun w1 hw1 => ?_) ?_
      rotate_left 1
      · skip
        go_simp
        (try (first | with_reducible rfl | (apply And.intro <;> rfl)))
      simp only [Act.put, List.setIfInBounds_toArray, List.set_cons_zero, List.set_cons_succ]
      refine run_at (i := 25) (v := ?_) rfl (by kernel_rfl) (by rfl) (fun _ _ _ h => h) hHeld (fun w1 hw1 => ?_) ?_
      rotate_left 1
      · skip
        go_simp
        (try (first | with_reducible rfl | (apply And.intro <;> rfl)))
      simp only [Act.put, List.setIfInBounds_toArray, List.set_cons_zero, List.set_cons_succ]
      refine run_at (i := 26) (v := ?_) rfl (by kernel_rfl) (by rfl) (fun _ _ _ h => h) hHeld (fun w1 hw1 => ?_) ?_
      rotate_left 1
      · skip
        go_simp
        (try (first | with_reducible rfl | (apply And.intro <;> rfl)))
      simp only [Act.put, List.setIfInBounds_toArray, List.set_cons_zero, List.set_cons_succ]
      clear HZC
      refine row_at (i := 27) rfl (by kernel_rfl) (by rfl) _ _ rfl _ _ rfl _ (fun w1 hw1 => hw1.range (HRK5.out) (by first | (simp; done) | exact HNS.out | exact HNW.out | (intro hm; have hlt := HSB.out _ hm; (try dsimp only at hlt); omega))) (row_baH.of HC5.out) (fun _ _ _ h => h) hHeld ?_
      simp only [Act.put, List.setIfInBounds_toArray, List.set_cons_zero, List.set_cons_succ]
      refine row_at (i := 29) rfl (by kernel_rfl) (by rfl) _ _ rfl _ _ rfl _ (fun w1 hw1 => hw1.range (HRK5.out) (by first | (simp; done) | exact HNS.out | exact HNW.out | (intro hm; have hlt := HSB.out _ hm; (try dsimp only at hlt); omega))) (row_baH.of HC5.out) (fun _ _ _ h => h) hHeld ?_
      simp only [Act.put, List.setIfInBounds_toArray, List.set_cons_zero, List.set_cons_succ]
      refine call_at (i := 28) (f := ?_) (args := ?_) rfl (by kernel_rfl) (by rfl) ?_ ?_
      rotate_left 2
      · go_simp
        (try (first | with_reducible rfl | (apply And.intro <;> rfl)))
      refine (batchHash_any c x8 (HCK.out.keep hHeld (by simp)) (HKK.out.keep hHeld (by simp)) CL HCL.out).mono ?_
      rintro e_ y1 ⟨rfl, hf⟩
      refine ⟨_, rfl, hHeld.and hf (by simp), fun hHeld => ?_⟩
      clear hf
      simp only [Act.put, List.setIfInBounds_toArray, List.set_cons_zero, List.set_cons_succ]
      refine call_at (i := 30) (f := ?_) (args := ?_) rfl (by kernel_rfl) (by rfl) ?_ ?_
      rotate_left 2
      · go_simp
        (try (first | with_reducible rfl | (apply And.intro <;> rfl)))
      refine (refbatchHash_any c y1 (HCK.out.keep hHeld (by simp)) CL HCL.out).mono ?_
      rintro e_ y2 ⟨rfl, hf⟩
      refine ⟨_, rfl, hHeld.and hf (by simp), fun hHeld => ?_⟩
      clear hf
      simp only [Act.put, List.setIfInBounds_toArray, List.set_cons_zero, List.set_cons_succ]
      refine eql_at (i := 31) rfl (by kernel_rfl) (by rfl) _ _ _ _ rfl _ _ rfl rfl _ (by kernel_rfl) (HEQ.out _ (HSL.out _)) (fun _ _ _ h => h) hHeld ?_
      simp only [Act.put, List.setIfInBounds_toArray, List.set_cons_zero, List.set_cons_succ]
      refine run_at (i := 32) (v := ?_) rfl (by kernel_rfl) (by rfl) (fun _ _ _ h => h) hHeld (fun w1 hw1 => ?_) ?_
      rotate_left 1
      · skip
        go_simp
        (try (first | with_reducible rfl | (apply And.intro <;> rfl)))
      simp only [Act.put, List.setIfInBounds_toArray, List.set_cons_zero, List.set_cons_succ]
      refine run_at (i := 33) (v := ?_) rfl (by kernel_rfl) (by rfl) (fun _ _ _ h => h) hHeld (fun w1 hw1 => ?_) ?_
      rotate_left 1
      · skip
        go_simp
        (try (first | with_reducible rfl | (apply And.intro <;> rfl)))
      simp only [Act.put, List.setIfInBounds_toArray, List.set_cons_zero, List.set_cons_succ]
      refine call_at (i := 34) (f := ?_) (args := ?_) rfl (by kernel_rfl) (by rfl) ?_ ?_
      rotate_left 2
      · go_simp
        (try (first | with_reducible rfl | (apply And.intro <;> rfl)))
      refine (wwakes_any y2).mono ?_
      rintro e_ y3 ⟨rfl, hf⟩
      refine ⟨_, rfl, hHeld.and hf (by simp), fun hHeld => ?_⟩
      clear hf
      simp only [Act.put, List.setIfInBounds_toArray, List.set_cons_zero, List.set_cons_succ]
      refine run_at (i := 35) (v := ?_) rfl (by kernel_rfl) (by rfl) (fun _ _ _ h => h) hHeld (fun w1 hw1 => ?_) ?_
      rotate_left 1
      · skip
        go_simp
        (try (first | with_reducible rfl | (apply And.intro <;> rfl)))
      simp only [Act.put, List.setIfInBounds_toArray, List.set_cons_zero, List.set_cons_succ]
      refine run_at (i := 36) (v := ?_) rfl (by kernel_rfl) (by rfl) (fun _ _ _ h => h) hHeld (fun w1 hw1 => ?_) ?_
      rotate_left 1
      · skip
        go_simp
        (try (first | with_reducible rfl | (apply And.intro <;> rfl)))
      simp only [Act.put, List.setIfInBounds_toArray, List.set_cons_zero, List.set_cons_succ]
      refine wpAnyH_done (by kernel_rfl) ?_ _
      have HFIN := Lib.hid (HXK.out.and hHeld (by simp))
      clear hHeld
      go_wp2
      go_ret
      exact ⟨rfl, HFIN.out⟩
end Go.Proofs.YtjpmiigoglcoaaaDoor
