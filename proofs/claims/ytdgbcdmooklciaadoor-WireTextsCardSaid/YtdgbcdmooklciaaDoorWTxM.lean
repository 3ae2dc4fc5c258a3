/- WireTexts: what is signed of a stamp, an ack, a promise, a denial, a proposal, a vote is what the document says. (written by gen_wtx.py) -/
import Derived.Test.YtdgbcdmooklciaaDoorKA5
namespace Go.Proofs.YtdgbcdmooklciaaDoor
open Go.RowKit
set_option maxRecDepth 100000
theorem setCells_ba (w : World) (g : Nat) (y : Wba) : w.setCells g 4 y.cells = ((((w.setCell ⟨g, 4, none⟩ (.int .i64 y.e)).setCell ⟨g, 5, none⟩ (.int .u64 (y.t : Int))).setCell ⟨g, 6, none⟩ (.slice y.A y.n y.d)).setCell ⟨g, 7, none⟩ (.slice y.A2 y.n2 y.d2)).setCell ⟨g, 8, none⟩ (.slice y.A3 y.n3 y.d3) := rfl
theorem blk_ba {w : World} {g : Nat} {t : TypeId} (x : Wpo) (y : Wba) (h : Blk w g t x.cells.toArray) : Blk (w.setCells g 4 y.cells) g t (Wpo.cells ⟨x.e, x.r, x.v, x.p, y, x.b, x.m⟩).toArray := by
  rw [setCells_ba]
  exact ((((h.set 4 (.int .i64 y.e)).set 5 (.int .u64 (y.t : Int))).set 6 (.slice y.A y.n y.d)).set 7 (.slice y.A2 y.n2 y.d2)).set 8 (.slice y.A3 y.n3 y.d3)
theorem fr_ba (w : World) (g : Nat) (y : Wba) : Fr [g] w (w.setCells g 4 y.cells) := by
  rw [setCells_ba]
  exact (((((Fr.refl [g] w).setCell _ (fun _ => by simp) _).setCell _ (fun _ => by simp) _).setCell _ (fun _ => by simp) _).setCell _ (fun _ => by simp) _).setCell _ (fun _ => by simp) _
theorem Wpo.text_len {w : World} {x : Wpo} (hx : x.Ok w) : x.text.length ≤ 1000 := by
  have b5 := Wpo.head_len hx.e hx.r hx.v hx.p
  have b1 := enc_ten (m := wWpo.length) (by decide)
  have b2 : wWpo.length = 8 := rfl
  have b3 := sumL_len x.k.full
  simp only [Wpo.text, List.length_append]
  omega

set_option maxHeartbeats 8000000 in
theorem wireTexts_walk (w : World) (s : Wst) (hs : s.Ok) (a : Wst) (ha : a.Ok) (p : Wpr) (hp : p.In w) (d : Wdn) (hd : d.Ok) (o : Wpo) (ho : o.In w) (v : Wvt) (hv : v.Ok) (hK : KW w) :
    Calls Tryd.prog 6 #[s.val, a.val, p.val, d.val, o.val, v.val] w fun e w' => e = .returned (.bool true) ∧ Fr [] w w' := by
  obtain ⟨wa, hwa⟩ : ∃ wa, wa = ((((((w.alloc (Obj.cells s.cells.toArray 79)).alloc (Obj.cells a.cells.toArray 81)).alloc (Obj.cells p.cells.toArray 62)).alloc (Obj.cells d.cells.toArray 83)).alloc (Obj.cells o.cells.toArray 85)).alloc (Obj.cells v.cells.toArray 87)) := ⟨_, rfl⟩
  have hf0 : Fr [] w wa := by rw [hwa]; exact ((((((Fr.refl [] w).alloc _).alloc _).alloc _).alloc _).alloc _).alloc _
  have hn0 : wa.heap.size = w.heap.size + 6 := by rw [hwa]; simp
  have hb0 : Blk wa (w.heap.size + 0) 79 s.cells.toArray := by
    have h := Blk.new w 79 s.cells.toArray
    rw [hwa]
    exact blk_alloc (blk_alloc (blk_alloc (blk_alloc (blk_alloc ((by simpa using h))))))
  have hb1 : Blk wa (w.heap.size + 1) 81 a.cells.toArray := by
    have h := Blk.new (w.alloc (Obj.cells s.cells.toArray 79)) 81 a.cells.toArray
    rw [hwa]
    exact blk_alloc (blk_alloc (blk_alloc (blk_alloc ((by simpa using h)))))
  have hb2 : Blk wa (w.heap.size + 2) 62 p.cells.toArray := by
    have h := Blk.new ((w.alloc (Obj.cells s.cells.toArray 79)).alloc (Obj.cells a.cells.toArray 81)) 62 p.cells.toArray
    rw [hwa]
    exact blk_alloc (blk_alloc (blk_alloc ((by simpa using h))))
  have hb3 : Blk wa (w.heap.size + 3) 83 d.cells.toArray := by
    have h := Blk.new (((w.alloc (Obj.cells s.cells.toArray 79)).alloc (Obj.cells a.cells.toArray 81)).alloc (Obj.cells p.cells.toArray 62)) 83 d.cells.toArray
    rw [hwa]
    exact blk_alloc (blk_alloc ((by simpa using h)))
  have hb4 : Blk wa (w.heap.size + 4) 85 o.cells.toArray := by
    have h := Blk.new ((((w.alloc (Obj.cells s.cells.toArray 79)).alloc (Obj.cells a.cells.toArray 81)).alloc (Obj.cells p.cells.toArray 62)).alloc (Obj.cells d.cells.toArray 83)) 85 o.cells.toArray
    rw [hwa]
    exact blk_alloc ((by simpa using h))
  have hb5 : Blk wa (w.heap.size + 5) 87 v.cells.toArray := by
    have h := Blk.new (((((w.alloc (Obj.cells s.cells.toArray 79)).alloc (Obj.cells a.cells.toArray 81)).alloc (Obj.cells p.cells.toArray 62)).alloc (Obj.cells d.cells.toArray 83)).alloc (Obj.cells o.cells.toArray 85)) 87 v.cells.toArray
    rw [hwa]
    exact (by simpa using h)
  have HB0 := Lib.hid hb0
  have HB1 := Lib.hid hb1
  have HB2 := Lib.hid hb2
  have HB3 := Lib.hid hb3
  have HB4 := Lib.hid hb4
  have HB5 := Lib.hid hb5
  have HBT0 : wa.rangeAt (w.heap.size + 4) 4 o.k.cells := rangeAt_sub (xs := [.int .i64 o.e, .int .i64 o.r, .int .i64 o.v, .int .i64 o.p]) (ys := o.k.cells) (zs := [.int .i64 o.b, .int .i64 o.m]) hb4.range
  have HBT := Lib.hid HBT0
  have HN0 := Lib.hid hn0
  have HF0 := Lib.hid hf0
  have HWA := Lib.hid hwa
  have HS := Lib.hid hs
  have HA := Lib.hid ha
  have HP := Lib.hid hp
  have HD := Lib.hid hd
  have HO := Lib.hid ho
  have HV := Lib.hid hv
  have HKLT := Lib.hid (World.block_lt_of_cell? w _ (hK 0 (by decide)))
  have HK := Lib.hid (hK.keep hf0 (by simp))
  have HSL : Hid (s.cells.length = 38) := Lib.hid (Wst.len hs.h)
  have HAL : Hid (a.cells.length = 38) := Lib.hid (Wst.len ha.h)
  have HVL : Hid (v.cells.length = 38) := Lib.hid (Wvt.len hv.h)
  have HPL : Hid (p.cells.length = 6) := Lib.hid (Wpr.len p)
  have HKL : Hid (o.k.cells.length = 5) := Lib.hid (Wba.len o.k)
  clear hwa hf0 hb0 hb1 hb2 hb3 hb4 hb5 hn0 hs ha hp hd ho hv hK HBT0
  unfold Wst.val Wdn.val Wvt.val Wpr.val Wpo.val
  generalize hPL : p.cells = PL at *
  have HRP := Lib.hid hPL
  clear hPL
  generalize hKL : o.k.cells = KL at *
  have HRK := Lib.hid hKL
  clear hKL
  have HOC : Hid (∀ X : Array Value, o.cells.toArray = X → Blk wa (w.heap.size + 4) 85 X) := Lib.hid (fun X h => h ▸ HB4.out)
  go_enter Tryd.func6, Tryd.ntmps6
  go_upto_region 1 with (fail)
  change Code.wp _ _ _ _ ((((((w.alloc (Obj.cells s.cells.toArray 79)).alloc (Obj.cells a.cells.toArray 81)).alloc (Obj.cells PL.toArray 62)).alloc (Obj.cells d.cells.toArray 83)).alloc (Obj.cells o.cells.toArray 85)).alloc (Obj.cells v.cells.toArray 87))
  rw [← HWA.out]
  have hpc := promiseCut_any p
  rw [HRP.out] at hpc
  refine wp_region_till 5 (Fr [w.heap.size + 2, w.heap.size + 4] wa) (Fr [] wa) (by kernel_rfl) (Fr.drew (Fr.refl _ wa)) (Fr.drew (Fr.refl _ wa)) (fun hA hB => ?_)
  have HWS : Hid (wa.drew.heap.size = wa.heap.size) := Lib.hid rfl
  have HFD : Hid (Fr [] wa wa.drew) := Lib.hid (Fr.drew (Fr.refl [] wa))
  generalize wa.drew = wd at *
  refine till_row (i := 0) rfl (by kernel_rfl) (by rfl) _ _ rfl _ _ rfl _ (fun w1 hw1 => hw1.range (HB2.out.range) (by first | (simp; done) | exact HNS.out | exact HNW.out | (intro hm; have hlt := HSB.out _ hm; (try dsimp only at hlt); omega))) (row_prm.of HPL.out) (fun _ _ _ h => h) hA hB ?_
  simp only [Act.put, List.setIfInBounds_toArray, List.set_cons_zero, List.set_cons_succ]
  refine till_run (i := 2) (v := ?_) rfl (by kernel_rfl) (by rfl) (fun _ _ _ h => h) hA hB (fun w1 hw1 => ?_) ?_
  rotate_left 1
  · skip
    go_simp
    (try (first | with_reducible rfl | (apply And.intro <;> rfl)))
  simp only [Act.put, List.setIfInBounds_toArray, List.set_cons_zero, List.set_cons_succ]
  refine till_row (i := 3) rfl (by kernel_rfl) (by rfl) _ _ rfl _ _ rfl _ (fun w1 hw1 => hw1.range (HBT.out) (by first | (simp; done) | exact HNS.out | exact HNW.out | (intro hm; have hlt := HSB.out _ hm; (try dsimp only at hlt); omega))) (row_bat.of HKL.out) (fun _ _ _ h => h) hA hB ?_
  simp only [Act.put, List.setIfInBounds_toArray, List.set_cons_zero, List.set_cons_succ]
  refine till_call (i := 1) (f := ?_) (args := ?_) rfl (by kernel_rfl) (by rfl) ?_ ?_
  rotate_left 2
  · go_simp
    (try (first | with_reducible rfl | (apply And.intro <;> rfl)))
  refine (hpc wd HP.out.r HP.out.e HP.out.t HP.out.b HP.out.m (HP.out.l.keep' (HF0.out.and HFD.out (by simp)) (by simp) (fun _ _ h => h.keep (HF0.out.and HFD.out (by simp)))) HP.out.n).mono ?_
  clear hpc
  rintro e w1 ⟨A1, d1, ys, rfl, hok, -, hf1⟩
  have hok2 := hok [w.heap.size + 2, w.heap.size + 4] (by have h1 := HN0.out; have h2 := HWS.out; simp; omega)
  generalize hq : (⟨p.r, p.e, p.t, A1, (p.l.take 3).length, d1, ys, p.b, p.m⟩ : Wpr) = q at *
  clear hq hok
  have HQ := Lib.hid hok2
  have HF1 := Lib.hid hf1
  refine ⟨_, rfl, ⟨hA.go hf1 (by simp), hB.and hf1 (by simp)⟩, fun hB => ?_⟩
  replace hA := hA.go hf1 (by simp)
  clear hok2 hf1
  simp only [Act.put, List.setIfInBounds_toArray, List.set_cons_zero, List.set_cons_succ]
  refine till_call (i := 4) (f := ?_) (args := ?_) rfl (by kernel_rfl) (by rfl) ?_ ?_
  rotate_left 2
  · go_simp
    (try (first | with_reducible rfl | (apply And.intro <;> rfl)))
  refine (batchCut_any o.k w1 (HO.out.k.keep ((HF0.out.and HFD.out (by simp)).and HF1.out (by simp))) KL HRK.out).mono ?_
  rintro e w2 ⟨y, rfl, hyk, hf2⟩
  have hyk2 := hyk [w.heap.size + 2, w.heap.size + 4] (by have h1 := HN0.out; have h2 := HWS.out; have h3 := HF1.out.size; simp; omega)
  have HY := Lib.hid hyk2
  have HQ : Hid (q.Ok w2 [w.heap.size + 2, w.heap.size + 4]) := Lib.hid (HQ.out.keep (hf2.mono (by simp)) (fun k hk _ => hk))
  have HF2 : Hid (Fr [] wa w2) := Lib.hid ((HFD.out.and HF1.out (by simp)).and hf2 (by simp))
  refine ⟨_, rfl, ⟨hA.go hf2 (by simp), hB.and hf2 (by simp)⟩, fun hB => ?_⟩
  replace hA := hA.go hf2 (by simp)
  clear hyk hyk2 hf2 HF1 HFD
  unfold Wba.val
  simp only [Act.put, List.setIfInBounds_toArray, List.set_cons_zero, List.set_cons_succ]
  have HB0 := Lib.hid (HB0.out.keep HF2.out (by simp))
  have HB1 := Lib.hid (HB1.out.keep HF2.out (by simp))
  have HB2 := Lib.hid (HB2.out.keep HF2.out (by simp))
  have HB3 := Lib.hid (HB3.out.keep HF2.out (by simp))
  have HB4 := Lib.hid (HB4.out.keep HF2.out (by simp))
  have HB5 := Lib.hid (HB5.out.keep HF2.out (by simp))
  have HQL : Hid (q.cells.length = 6) := Lib.hid (Wpr.len q)
  have HQO := Lib.hid (all_oneCell_toArray (Wpr.one q))
  have HYL : Hid (y.cells.length = 5) := Lib.hid (Wba.len y)
  have HYO := Lib.hid (all_oneCell_toArray (Wba.one y))
  refine till_step (i := 5) rfl (by kernel_rfl) (by kernel_rfl) (by rfl) (fun K hK => ?_)
  refine wp_store_blk _ _ _ rfl (w.heap.size + 2) q.cells.toArray rfl rfl 62 PL.toArray HB2.out (by rw [List.size_toArray, HQL.out]; kernel_rfl) (by rw [List.size_toArray, List.size_toArray, HPL.out, HQL.out]) HQO.out (fun w3 hb hf => ?_)
  refine hK.out _ _ (hA.trans hf (fun x hx _ => by rw [List.mem_singleton.1 hx]; simp)) (fun hA => ?_)
  clear hK K
  have HB0 := Lib.hid (HB0.out.keep hf (by simp))
  have HB1 := Lib.hid (HB1.out.keep hf (by simp))
  have HB3 := Lib.hid (HB3.out.keep hf (by simp))
  have HB4 := Lib.hid (HB4.out.keep hf (by simp))
  have HB5 := Lib.hid (HB5.out.keep hf (by simp))
  have HB2 := Lib.hid hb
  have HQ : Hid (q.Ok w3 [w.heap.size + 4]) := Lib.hid (HQ.out.keep (hf.mono (by intro k hk _; simp at hk; simp [hk])) (fun k hk _ => by simp at hk; simp [hk]))
  have HY : Hid (y.Ok w3 [w.heap.size + 4]) := Lib.hid (HY.out.keep (hf.mono (by intro k hk _; simp at hk; simp [hk])) (fun k hk _ => by simp at hk; simp [hk]))
  clear hb hf
  simp only [Act.put, List.setIfInBounds_toArray, List.set_cons_zero, List.set_cons_succ]
  refine till_step (i := 6) rfl (by kernel_rfl) (by kernel_rfl) (by rfl) (fun K hK => ?_)
  refine wp_run (v := ?_) (w' := ?_) ?_ ?_
  rotate_left 2
  · go_simp
    (try (first | with_reducible rfl | (apply And.intro <;> rfl)))
  refine hK.out _ _ hA (fun hA => ?_)
  clear hK K
  simp only [Act.put, List.setIfInBounds_toArray, List.set_cons_zero, List.set_cons_succ]
  refine till_step (i := 7) rfl (by kernel_rfl) (by kernel_rfl) (by rfl) (fun K hK => ?_)
  refine wp_store_mid 39 _ _ rfl (w.heap.size + 4) 4 y.cells.toArray rfl rfl (HB4.out.there 4 5 (by rw [List.size_toArray]; exact (by decide : 4 + 5 ≤ 11))) (by rw [List.size_toArray, HYL.out]; kernel_rfl) HYO.out ?_
  have hb4 := blk_ba o y HB4.out
  have hf4 := fr_ba w3 (w.heap.size + 4) y
  rw [show y.cells.toArray.toList = y.cells from rfl]
  generalize w3.setCells (w.heap.size + 4) 4 y.cells = w4 at *
  refine hK.out _ _ (hA.trans hf4 (fun x hx _ => by rw [List.mem_singleton.1 hx]; simp)) (fun hA => ?_)
  clear hK K
  have HB0 := Lib.hid (HB0.out.keep hf4 (by simp))
  have HB1 := Lib.hid (HB1.out.keep hf4 (by simp))
  have HB2 := Lib.hid (HB2.out.keep hf4 (by simp))
  have HB3 := Lib.hid (HB3.out.keep hf4 (by simp))
  have HB5 := Lib.hid (HB5.out.keep hf4 (by simp))
  have HB4 := Lib.hid hb4
  have HQ : Hid (q.Ok w4 [w.heap.size + 4]) := Lib.hid (HQ.out.keep hf4 (fun k hk _ => hk))
  have HY : Hid (y.Ok w4 [w.heap.size + 4]) := Lib.hid (HY.out.keep hf4 (fun k hk _ => hk))
  have HFA : Hid (Fr [w.heap.size + 2, w.heap.size + 4] wa w4) := Lib.hid hA
  clear hb4 hf4 HBT HWA HOC HP HF2 HQL HQO HYL HYO
  simp only [Act.put, List.setIfInBounds_toArray, List.set_cons_zero, List.set_cons_succ]
  refine till_done (by kernel_rfl) ?_ _
  clear hA hB
  have hc := HB4.out.cell 2
  simp only [Wpo.cells, List.cons_append, List.nil_append, List.getElem?_toArray, List.getElem?_cons_succ, List.getElem?_cons_zero] at hc
  go_upto_if 21 with (fail)
  go_cut [21] (fun _ wx => ∃ v', i64In v' ∧ v' < 9223372036854775807 ∧ Blk wx (w.heap.size + 4) 85 (Wpo.cells ⟨o.e, o.r, v', o.p, y, o.b, o.m⟩).toArray ∧ Fr [w.heap.size + 4] w4 wx)
  case first =>
    have hz := HB4.out.frozen 2
    by_cases hv : o.v = 9223372036854775807
    · go_wp2_with fail
      all_goals
        go_meet
        exact ⟨0, ⟨by decide, by decide⟩, by decide, HB4.out.set 2 (.int .i64 0), (Fr.refl _ w4).setCell _ (fun _ => by simp) _⟩
    · go_wp2_with fail
      all_goals
        go_meet
        exact ⟨o.v, HO.out.v, by have := HO.out.v.2; omega, HB4.out, Fr.refl _ w4⟩
  case rest =>
    obtain ⟨v', hv1, hv2, hb4, hf4⟩ := hcut
    have HB0 := Lib.hid (HB0.out.keep hf4 (by simp))
    have HB1 := Lib.hid (HB1.out.keep hf4 (by simp))
    have HB2 := Lib.hid (HB2.out.keep hf4 (by simp))
    have HB3 := Lib.hid (HB3.out.keep hf4 (by simp))
    have HB5 := Lib.hid (HB5.out.keep hf4 (by simp))
    have HQ : Hid (q.Ok wc []) := Lib.hid (HQ.out.keep hf4 (by simp))
    have HY : Hid (y.Ok wc []) := Lib.hid (HY.out.keep hf4 (by simp))
    have HFB : Hid (Fr [w.heap.size + 2, w.heap.size + 4] wa wc) := Lib.hid (HFA.out.trans hf4 (fun x hx _ => by rw [List.mem_singleton.1 hx]; simp))
    have HFA : Hid (Fr [] w wc) := Lib.hid (HF0.out.and (HFA.out.trans hf4 (fun x hx _ => by rw [List.mem_singleton.1 hx]; simp)) (by intro x hx; simp at hx; omega))
    have HKC : Hid (KW wc) := Lib.hid (HK.out.keep (HFB.out) (by first | (simp; done) | (have := HKLT.out; simp; omega)))
    have HPO : Hid ((⟨o.e, o.r, v', o.p, y, o.b, o.m⟩ : Wpo).Ok wc) := Lib.hid ⟨HO.out.e, HO.out.r, hv1, HO.out.p, HY.out, HO.out.b, HO.out.m⟩
    have HV2 := Lib.hid hv2
    have HB4 := Lib.hid hb4
    clear hv1 hv2 hb4 hf4 HY HK HF0 HN0 hc
    generalize hz : (⟨o.e, o.r, v', o.p, y, o.b, o.m⟩ : Wpo) = z at *
    have HZV : Hid (z.v < 9223372036854775807) := Lib.hid (by rw [← hz]; exact HV2.out)
    clear hz HV2
    go_wp2_with fail
    refine wp_region_held_drew (S := Fr [] wc) (by kernel_rfl) (Fr.drew (Fr.refl _ wc)) (fun hHeld => ?_)
    generalize wc.drew = x0 at *
    refine row_at (i := 0) rfl (by kernel_rfl) (by rfl) _ _ rfl _ _ rfl _ (fun w1 hw1 => hw1.range (HB0.out.range) (by first | (simp; done) | exact HNS.out | exact HNW.out | (intro hm; have hlt := HSB.out _ hm; (try dsimp only at hlt); omega))) (row_stamp.of HSL.out) (fun _ _ _ h => h) hHeld ?_
    simp only [Act.put, List.setIfInBounds_toArray, List.set_cons_zero, List.set_cons_succ]
    refine row_at (i := 2) rfl (by kernel_rfl) (by rfl) _ _ rfl _ _ rfl _ (fun w1 hw1 => hw1.range (HB0.out.range) (by first | (simp; done) | exact HNS.out | exact HNW.out | (intro hm; have hlt := HSB.out _ hm; (try dsimp only at hlt); omega))) (row_stamp.of HSL.out) (fun _ _ _ h => h) hHeld ?_
    simp only [Act.put, List.setIfInBounds_toArray, List.set_cons_zero, List.set_cons_succ]
    refine call_at (i := 1) (f := ?_) (args := ?_) rfl (by kernel_rfl) (by rfl) ?_ ?_
    rotate_left 2
    · go_simp
      (try (first | with_reducible rfl | (apply And.intro <;> rfl)))
    refine (stampText_any s HS.out x0).mono ?_
    rintro e_ x1 ⟨A0, c0, rfl, hn⟩
    have HY0 := Lib.hid hn.by
    refine ⟨_, rfl, hHeld.and hn.2.1 (by simp), fun hHeld => ?_⟩
    clear hn
    simp only [Act.put, List.setIfInBounds_toArray, List.set_cons_zero, List.set_cons_succ]
    refine call_at (i := 3) (f := ?_) (args := ?_) rfl (by kernel_rfl) (by rfl) ?_ ?_
    rotate_left 2
    · go_simp
      (try (first | with_reducible rfl | (apply And.intro <;> rfl)))
    refine (refstampText_any s HS.out _ rfl x1).mono ?_
    rintro e_ x2 ⟨A1, c1, rfl, hn⟩
    have HY1 := Lib.hid hn.by
    have HY0 := Lib.hid (HY0.out.keep hn.2.1 (by simp))
    refine ⟨_, rfl, hHeld.and hn.2.1 (by simp), fun hHeld => ?_⟩
    clear hn
    simp only [Act.put, List.setIfInBounds_toArray, List.set_cons_zero, List.set_cons_succ]
    have hsm := same_any A0 A1 _ _ c0 c1 (s.text) (s.text) x2 HY0.out HY1.out (by have := Wst.text_len HS.out; omega)
    rw [show decide (s.text = s.text) = true from decide_eq_true rfl] at hsm
    refine call_at (i := 4) (f := ?_) (args := ?_) rfl (by kernel_rfl) (by rfl) ?_ ?_
    rotate_left 2
    · go_simp
      (try (first | with_reducible rfl | (apply And.intro <;> rfl)))
    refine hsm.mono ?_
    rintro e_ x3 ⟨rfl, kk, hx⟩
    have hHeld' := hHeld.drewN kk
    rw [← hx] at hHeld'
    clear hsm hx HY0 HY1
    refine ⟨_, rfl, hHeld', fun hHeld => ?_⟩
    clear hHeld'
    simp only [Act.put, List.setIfInBounds_toArray, List.set_cons_zero, List.set_cons_succ]
    refine run_at (i := 5) (v := ?_) rfl (by kernel_rfl) (by rfl) (fun _ _ _ h => h) hHeld (fun w1 hw1 => ?_) ?_
    rotate_left 1
    · skip
      go_simp
      (try (first | with_reducible rfl | (apply And.intro <;> rfl)))
    simp only [Act.put, List.setIfInBounds_toArray, List.set_cons_zero, List.set_cons_succ]
    refine row_at (i := 6) rfl (by kernel_rfl) (by rfl) _ _ rfl _ _ rfl _ (fun w1 hw1 => hw1.range (HB1.out.range) (by first | (simp; done) | exact HNS.out | exact HNW.out | (intro hm; have hlt := HSB.out _ hm; (try dsimp only at hlt); omega))) (row_ack.of HAL.out) (fun _ _ _ h => h) hHeld ?_
    simp only [Act.put, List.setIfInBounds_toArray, List.set_cons_zero, List.set_cons_succ]
    refine row_at (i := 8) rfl (by kernel_rfl) (by rfl) _ _ rfl _ _ rfl _ (fun w1 hw1 => hw1.range (HB1.out.range) (by first | (simp; done) | exact HNS.out | exact HNW.out | (intro hm; have hlt := HSB.out _ hm; (try dsimp only at hlt); omega))) (row_ack.of HAL.out) (fun _ _ _ h => h) hHeld ?_
    simp only [Act.put, List.setIfInBounds_toArray, List.set_cons_zero, List.set_cons_succ]
    refine call_at (i := 7) (f := ?_) (args := ?_) rfl (by kernel_rfl) (by rfl) ?_ ?_
    rotate_left 2
    · go_simp
      (try (first | with_reducible rfl | (apply And.intro <;> rfl)))
    refine (ackText_any a HA.out x3).mono ?_
    rintro e_ x4 ⟨A0, c0, rfl, hn⟩
    have HY0 := Lib.hid hn.by
    refine ⟨_, rfl, hHeld.and hn.2.1 (by simp), fun hHeld => ?_⟩
    clear hn
    simp only [Act.put, List.setIfInBounds_toArray, List.set_cons_zero, List.set_cons_succ]
    refine call_at (i := 9) (f := ?_) (args := ?_) rfl (by kernel_rfl) (by rfl) ?_ ?_
    rotate_left 2
    · go_simp
      (try (first | with_reducible rfl | (apply And.intro <;> rfl)))
    refine (refackText_any a HA.out _ rfl x4).mono ?_
    rintro e_ x5 ⟨A1, c1, rfl, hn⟩
    have HY1 := Lib.hid hn.by
    have HY0 := Lib.hid (HY0.out.keep hn.2.1 (by simp))
    refine ⟨_, rfl, hHeld.and hn.2.1 (by simp), fun hHeld => ?_⟩
    clear hn
    simp only [Act.put, List.setIfInBounds_toArray, List.set_cons_zero, List.set_cons_succ]
    have hsm := same_any A0 A1 _ _ c0 c1 (a.ack) (a.ack) x5 HY0.out HY1.out (by have := Wst.ack_len HA.out; omega)
    rw [show decide (a.ack = a.ack) = true from decide_eq_true rfl] at hsm
    refine call_at (i := 10) (f := ?_) (args := ?_) rfl (by kernel_rfl) (by rfl) ?_ ?_
    rotate_left 2
    · go_simp
      (try (first | with_reducible rfl | (apply And.intro <;> rfl)))
    refine hsm.mono ?_
    rintro e_ x6 ⟨rfl, kk, hx⟩
    have hHeld' := hHeld.drewN kk
    rw [← hx] at hHeld'
    clear hsm hx HY0 HY1
    refine ⟨_, rfl, hHeld', fun hHeld => ?_⟩
    clear hHeld'
    simp only [Act.put, List.setIfInBounds_toArray, List.set_cons_zero, List.set_cons_succ]
    refine run_at (i := 11) (v := ?_) rfl (by kernel_rfl) (by rfl) (fun _ _ _ h => h) hHeld (fun w1 hw1 => ?_) ?_
    rotate_left 1
    · skip
      go_simp
      (try (first | with_reducible rfl | (apply And.intro <;> rfl)))
    simp only [Act.put, List.setIfInBounds_toArray, List.set_cons_zero, List.set_cons_succ]
    refine run_at (i := 12) (v := ?_) rfl (by kernel_rfl) (by rfl) (fun _ _ _ h => h) hHeld (fun w1 hw1 => ?_) ?_
    rotate_left 1
    · skip
      go_simp
      (try (first | with_reducible rfl | (apply And.intro <;> rfl)))
    simp only [Act.put, List.setIfInBounds_toArray, List.set_cons_zero, List.set_cons_succ]
    refine row_at (i := 13) rfl (by kernel_rfl) (by rfl) _ _ rfl _ _ rfl _ (fun w1 hw1 => hw1.range (HB2.out.range) (by first | (simp; done) | exact HNS.out | exact HNW.out | (intro hm; have hlt := HSB.out _ hm; (try dsimp only at hlt); omega))) (row_prm.of (Wpr.len q)) (fun _ _ _ h => h) hHeld ?_
    simp only [Act.put, List.setIfInBounds_toArray, List.set_cons_zero, List.set_cons_succ]
    refine row_at (i := 15) rfl (by kernel_rfl) (by rfl) _ _ rfl _ _ rfl _ (fun w1 hw1 => hw1.range (HB2.out.range) (by first | (simp; done) | exact HNS.out | exact HNW.out | (intro hm; have hlt := HSB.out _ hm; (try dsimp only at hlt); omega))) (row_prm.of (Wpr.len q)) (fun _ _ _ h => h) hHeld ?_
    simp only [Act.put, List.setIfInBounds_toArray, List.set_cons_zero, List.set_cons_succ]
    refine call_at (i := 14) (f := ?_) (args := ?_) rfl (by kernel_rfl) (by rfl) ?_ ?_
    rotate_left 2
    · go_simp
      (try (first | with_reducible rfl | (apply And.intro <;> rfl)))
    refine (promiseText_any q x6 (HQ.out.keep hHeld (by simp))).mono ?_
    rintro e_ x7 ⟨A0, c0, rfl, hn⟩
    have HY0 := Lib.hid hn.by
    refine ⟨_, rfl, hHeld.and hn.2.1 (by simp), fun hHeld => ?_⟩
    clear hn
    simp only [Act.put, List.setIfInBounds_toArray, List.set_cons_zero, List.set_cons_succ]
    refine call_at (i := 16) (f := ?_) (args := ?_) rfl (by kernel_rfl) (by rfl) ?_ ?_
    rotate_left 2
    · go_simp
      (try (first | with_reducible rfl | (apply And.intro <;> rfl)))
    refine (refpromiseText_any q x7 (HQ.out.keep hHeld (by simp)) _ rfl).mono ?_
    rintro e_ x8 ⟨A1, c1, rfl, hn⟩
    have HY1 := Lib.hid hn.by
    have HY0 := Lib.hid (HY0.out.keep hn.2.1 (by simp))
    refine ⟨_, rfl, hHeld.and hn.2.1 (by simp), fun hHeld => ?_⟩
    clear hn
    simp only [Act.put, List.setIfInBounds_toArray, List.set_cons_zero, List.set_cons_succ]
    have hsm := same_any A0 A1 _ _ c0 c1 (q.text) (q.text) x8 HY0.out HY1.out (by have := Wpr.text_len HQ.out; omega)
    rw [show decide (q.text = q.text) = true from decide_eq_true rfl] at hsm
    refine call_at (i := 17) (f := ?_) (args := ?_) rfl (by kernel_rfl) (by rfl) ?_ ?_
    rotate_left 2
    · go_simp
      (try (first | with_reducible rfl | (apply And.intro <;> rfl)))
    refine hsm.mono ?_
    rintro e_ x9 ⟨rfl, kk, hx⟩
    have hHeld' := hHeld.drewN kk
    rw [← hx] at hHeld'
    clear hsm hx HY0 HY1
    refine ⟨_, rfl, hHeld', fun hHeld => ?_⟩
    clear hHeld'
    simp only [Act.put, List.setIfInBounds_toArray, List.set_cons_zero, List.set_cons_succ]
    refine run_at (i := 18) (v := ?_) rfl (by kernel_rfl) (by rfl) (fun _ _ _ h => h) hHeld (fun w1 hw1 => ?_) ?_
    rotate_left 1
    · skip
      go_simp
      (try (first | with_reducible rfl | (apply And.intro <;> rfl)))
    simp only [Act.put, List.setIfInBounds_toArray, List.set_cons_zero, List.set_cons_succ]
    refine run_at (i := 19) (v := ?_) rfl (by kernel_rfl) (by rfl) (fun _ _ _ h => h) hHeld (fun w1 hw1 => ?_) ?_
    rotate_left 1
    · skip
      go_simp
      (try (first | with_reducible rfl | (apply And.intro <;> rfl)))
    simp only [Act.put, List.setIfInBounds_toArray, List.set_cons_zero, List.set_cons_succ]
    refine row_at (i := 20) rfl (by kernel_rfl) (by rfl) _ _ rfl _ _ rfl _ (fun w1 hw1 => hw1.range (HB3.out.range) (by first | (simp; done) | exact HNS.out | exact HNW.out | (intro hm; have hlt := HSB.out _ hm; (try dsimp only at hlt); omega))) (row_deny) (fun _ _ _ h => h) hHeld ?_
    simp only [Act.put, List.setIfInBounds_toArray, List.set_cons_zero, List.set_cons_succ]
    refine row_at (i := 22) rfl (by kernel_rfl) (by rfl) _ _ rfl _ _ rfl _ (fun w1 hw1 => hw1.range (HB3.out.range) (by first | (simp; done) | exact HNS.out | exact HNW.out | (intro hm; have hlt := HSB.out _ hm; (try dsimp only at hlt); omega))) (row_deny) (fun _ _ _ h => h) hHeld ?_
    simp only [Act.put, List.setIfInBounds_toArray, List.set_cons_zero, List.set_cons_succ]
    refine call_at (i := 21) (f := ?_) (args := ?_) rfl (by kernel_rfl) (by rfl) ?_ ?_
    rotate_left 2
    · go_simp
      (try (first | with_reducible rfl | (apply And.intro <;> rfl)))
    refine (denyText_any d HD.out x9).mono ?_
    rintro e_ x10 ⟨A0, c0, rfl, hn⟩
    have HY0 := Lib.hid hn.by
    refine ⟨_, rfl, hHeld.and hn.2.1 (by simp), fun hHeld => ?_⟩
    clear hn
    simp only [Act.put, List.setIfInBounds_toArray, List.set_cons_zero, List.set_cons_succ]
    refine call_at (i := 23) (f := ?_) (args := ?_) rfl (by kernel_rfl) (by rfl) ?_ ?_
    rotate_left 2
    · go_simp
      (try (first | with_reducible rfl | (apply And.intro <;> rfl)))
    refine (refdenyText_any d HD.out _ rfl x10).mono ?_
    rintro e_ x11 ⟨A1, c1, rfl, hn⟩
    have HY1 := Lib.hid hn.by
    have HY0 := Lib.hid (HY0.out.keep hn.2.1 (by simp))
    refine ⟨_, rfl, hHeld.and hn.2.1 (by simp), fun hHeld => ?_⟩
    clear hn
    simp only [Act.put, List.setIfInBounds_toArray, List.set_cons_zero, List.set_cons_succ]
    have hsm := same_any A0 A1 _ _ c0 c1 (d.text) (d.text) x11 HY0.out HY1.out (by have := Wdn.text_len HD.out; omega)
    rw [show decide (d.text = d.text) = true from decide_eq_true rfl] at hsm
    refine call_at (i := 24) (f := ?_) (args := ?_) rfl (by kernel_rfl) (by rfl) ?_ ?_
    rotate_left 2
    · go_simp
      (try (first | with_reducible rfl | (apply And.intro <;> rfl)))
    refine hsm.mono ?_
    rintro e_ x12 ⟨rfl, kk, hx⟩
    have hHeld' := hHeld.drewN kk
    rw [← hx] at hHeld'
    clear hsm hx HY0 HY1
    refine ⟨_, rfl, hHeld', fun hHeld => ?_⟩
    clear hHeld'
    simp only [Act.put, List.setIfInBounds_toArray, List.set_cons_zero, List.set_cons_succ]
    refine run_at (i := 25) (v := ?_) rfl (by kernel_rfl) (by rfl) (fun _ _ _ h => h) hHeld (fun w1 hw1 => ?_) ?_
    rotate_left 1
    · skip
      go_simp
      (try (first | with_reducible rfl | (apply And.intro <;> rfl)))
    simp only [Act.put, List.setIfInBounds_toArray, List.set_cons_zero, List.set_cons_succ]
    refine run_at (i := 26) (v := ?_) rfl (by kernel_rfl) (by rfl) (fun _ _ _ h => h) hHeld (fun w1 hw1 => ?_) ?_
    rotate_left 1
    · skip
      go_simp
      (try (first | with_reducible rfl | (apply And.intro <;> rfl)))
    simp only [Act.put, List.setIfInBounds_toArray, List.set_cons_zero, List.set_cons_succ]
    refine row_at (i := 27) rfl (by kernel_rfl) (by rfl) _ _ rfl _ _ rfl _ (fun w1 hw1 => hw1.range (HB4.out.range) (by first | (simp; done) | exact HNS.out | exact HNW.out | (intro hm; have hlt := HSB.out _ hm; (try dsimp only at hlt); omega))) (row_prop.of (Wpo.len z)) (fun _ _ _ h => h) hHeld ?_
    simp only [Act.put, List.setIfInBounds_toArray, List.set_cons_zero, List.set_cons_succ]
    refine row_at (i := 29) rfl (by kernel_rfl) (by rfl) _ _ rfl _ _ rfl _ (fun w1 hw1 => hw1.range (HB4.out.range) (by first | (simp; done) | exact HNS.out | exact HNW.out | (intro hm; have hlt := HSB.out _ hm; (try dsimp only at hlt); omega))) (row_prop.of (Wpo.len z)) (fun _ _ _ h => h) hHeld ?_
    simp only [Act.put, List.setIfInBounds_toArray, List.set_cons_zero, List.set_cons_succ]
    refine call_at (i := 28) (f := ?_) (args := ?_) rfl (by kernel_rfl) (by rfl) ?_ ?_
    rotate_left 2
    · go_simp
      (try (first | with_reducible rfl | (apply And.intro <;> rfl)))
    refine (proposalText_any z x12 ⟨HPO.out.e, HPO.out.r, HPO.out.v, HPO.out.p, HPO.out.k.keep hHeld (by simp), HPO.out.b, HPO.out.m⟩ (HKC.out.keep hHeld (by simp))).mono ?_
    rintro e_ x13 ⟨A0, c0, rfl, hn⟩
    have HY0 := Lib.hid hn.by
    refine ⟨_, rfl, hHeld.and hn.2.1 (by simp), fun hHeld => ?_⟩
    clear hn
    simp only [Act.put, List.setIfInBounds_toArray, List.set_cons_zero, List.set_cons_succ]
    refine call_at (i := 30) (f := ?_) (args := ?_) rfl (by kernel_rfl) (by rfl) ?_ ?_
    rotate_left 2
    · go_simp
      (try (first | with_reducible rfl | (apply And.intro <;> rfl)))
    refine (refproposalText_any z x13 ⟨HPO.out.e, HPO.out.r, HPO.out.v, HPO.out.p, HPO.out.k.keep hHeld (by simp), HPO.out.b, HPO.out.m⟩ HZV.out _ rfl).mono ?_
    rintro e_ x14 ⟨A1, c1, rfl, hn⟩
    have HY1 := Lib.hid hn.by
    have HY0 := Lib.hid (HY0.out.keep hn.2.1 (by simp))
    refine ⟨_, rfl, hHeld.and hn.2.1 (by simp), fun hHeld => ?_⟩
    clear hn
    simp only [Act.put, List.setIfInBounds_toArray, List.set_cons_zero, List.set_cons_succ]
    have hsm := same_any A0 A1 _ _ c0 c1 (z.text) (z.text) x14 HY0.out HY1.out (by have := Wpo.text_len HPO.out; omega)
    rw [show decide (z.text = z.text) = true from decide_eq_true rfl] at hsm
    refine call_at (i := 31) (f := ?_) (args := ?_) rfl (by kernel_rfl) (by rfl) ?_ ?_
    rotate_left 2
    · go_simp
      (try (first | with_reducible rfl | (apply And.intro <;> rfl)))
    refine hsm.mono ?_
    rintro e_ x15 ⟨rfl, kk, hx⟩
    have hHeld' := hHeld.drewN kk
    rw [← hx] at hHeld'
    clear hsm hx HY0 HY1
    refine ⟨_, rfl, hHeld', fun hHeld => ?_⟩
    clear hHeld'
    simp only [Act.put, List.setIfInBounds_toArray, List.set_cons_zero, List.set_cons_succ]
    refine run_at (i := 32) (v := ?_) rfl (by kernel_rfl) (by rfl) (fun _ _ _ h => h) hHeld (fun w1 hw1 => ?_) ?_
    rotate_left 1
    · skip
      go_simp
      (try (first | with_reducible rfl | (apply And.intro <;> rfl)))
    simp only [Act.put, List.setIfInBounds_toArray, List.set_cons_zero, List.set_cons_succ]
    refine run_at (i := 33) (v := ?_) rfl (by kernel_rfl) (by rfl) (fun _ _ _ h => h) hHeld (fun w1 hw1 => ?_) ?_
    rotate_left 1
    · skip
      go_simp
      (try (first | with_reducible rfl | (apply And.intro <;> rfl)))
    simp only [Act.put, List.setIfInBounds_toArray, List.set_cons_zero, List.set_cons_succ]
    refine row_at (i := 34) rfl (by kernel_rfl) (by rfl) _ _ rfl _ _ rfl _ (fun w1 hw1 => hw1.range (HB5.out.range) (by first | (simp; done) | exact HNS.out | exact HNW.out | (intro hm; have hlt := HSB.out _ hm; (try dsimp only at hlt); omega))) (row_vote.of HVL.out) (fun _ _ _ h => h) hHeld ?_
    simp only [Act.put, List.setIfInBounds_toArray, List.set_cons_zero, List.set_cons_succ]
    refine row_at (i := 36) rfl (by kernel_rfl) (by rfl) _ _ rfl _ _ rfl _ (fun w1 hw1 => hw1.range (HB5.out.range) (by first | (simp; done) | exact HNS.out | exact HNW.out | (intro hm; have hlt := HSB.out _ hm; (try dsimp only at hlt); omega))) (row_vote.of HVL.out) (fun _ _ _ h => h) hHeld ?_
    simp only [Act.put, List.setIfInBounds_toArray, List.set_cons_zero, List.set_cons_succ]
    refine call_at (i := 35) (f := ?_) (args := ?_) rfl (by kernel_rfl) (by rfl) ?_ ?_
    rotate_left 2
    · go_simp
      (try (first | with_reducible rfl | (apply And.intro <;> rfl)))
    refine (voteText_any v HV.out x15).mono ?_
    rintro e_ x16 ⟨A0, c0, rfl, hn⟩
    have HY0 := Lib.hid hn.by
    refine ⟨_, rfl, hHeld.and hn.2.1 (by simp), fun hHeld => ?_⟩
    clear hn
    simp only [Act.put, List.setIfInBounds_toArray, List.set_cons_zero, List.set_cons_succ]
    refine call_at (i := 37) (f := ?_) (args := ?_) rfl (by kernel_rfl) (by rfl) ?_ ?_
    rotate_left 2
    · go_simp
      (try (first | with_reducible rfl | (apply And.intro <;> rfl)))
    refine (refvoteText_any v HV.out _ rfl x16).mono ?_
    rintro e_ x17 ⟨A1, c1, rfl, hn⟩
    have HY1 := Lib.hid hn.by
    have HY0 := Lib.hid (HY0.out.keep hn.2.1 (by simp))
    refine ⟨_, rfl, hHeld.and hn.2.1 (by simp), fun hHeld => ?_⟩
    clear hn
    simp only [Act.put, List.setIfInBounds_toArray, List.set_cons_zero, List.set_cons_succ]
    have hsm := same_any A0 A1 _ _ c0 c1 (v.text) (v.text) x17 HY0.out HY1.out (by have := Wvt.text_len HV.out; omega)
    rw [show decide (v.text = v.text) = true from decide_eq_true rfl] at hsm
    refine call_at (i := 38) (f := ?_) (args := ?_) rfl (by kernel_rfl) (by rfl) ?_ ?_
    rotate_left 2
    · go_simp
      (try (first | with_reducible rfl | (apply And.intro <;> rfl)))
    refine hsm.mono ?_
    rintro e_ x18 ⟨rfl, kk, hx⟩
    have hHeld' := hHeld.drewN kk
    rw [← hx] at hHeld'
    clear hsm hx HY0 HY1
    refine ⟨_, rfl, hHeld', fun hHeld => ?_⟩
    clear hHeld'
    simp only [Act.put, List.setIfInBounds_toArray, List.set_cons_zero, List.set_cons_succ]
    refine run_at (i := 39) (v := ?_) rfl (by kernel_rfl) (by rfl) (fun _ _ _ h => h) hHeld (fun w1 hw1 => ?_) ?_
    rotate_left 1
    · skip
      go_simp
      (try (first | with_reducible rfl | (apply And.intro <;> rfl)))
    simp only [Act.put, List.setIfInBounds_toArray, List.set_cons_zero, List.set_cons_succ]
    refine run_at (i := 40) (v := ?_) rfl (by kernel_rfl) (by rfl) (fun _ _ _ h => h) hHeld (fun w1 hw1 => ?_) ?_
    rotate_left 1
    · skip
      go_simp
      (try (first | with_reducible rfl | (apply And.intro <;> rfl)))
    simp only [Act.put, List.setIfInBounds_toArray, List.set_cons_zero, List.set_cons_succ]
    refine call_at (i := 41) (f := ?_) (args := ?_) rfl (by kernel_rfl) (by rfl) ?_ ?_
    rotate_left 2
    · go_simp
      (try (first | with_reducible rfl | (apply And.intro <;> rfl)))
    refine (wwakes_any _).mono ?_
    rintro e_ wv ⟨rfl, hfv⟩
    refine ⟨_, rfl, hHeld.and hfv (by simp), fun hHeld => ?_⟩
    simp only [Act.put, List.setIfInBounds_toArray, List.set_cons_zero, List.set_cons_succ]
    refine run_at (i := 42) (v := ?_) rfl (by kernel_rfl) (by rfl) (fun _ _ _ h => h) hHeld (fun w1 hw1 => ?_) ?_
    rotate_left 1
    · skip
      go_simp
      (try (first | with_reducible rfl | (apply And.intro <;> rfl)))
    simp only [Act.put, List.setIfInBounds_toArray, List.set_cons_zero, List.set_cons_succ]
    refine run_at (i := 43) (v := ?_) rfl (by kernel_rfl) (by rfl) (fun _ _ _ h => h) hHeld (fun w1 hw1 => ?_) ?_
    rotate_left 1
    · skip
      go_simp
      (try (first | with_reducible rfl | (apply And.intro <;> rfl)))
    simp only [Act.put, List.setIfInBounds_toArray, List.set_cons_zero, List.set_cons_succ]
    refine wpAnyH_done (by kernel_rfl) ?_ _
    go_wp2
    go_ret
    exact ⟨rfl, HFA.out.and hHeld (by simp)⟩
end Go.Proofs.YtdgbcdmooklciaaDoor
