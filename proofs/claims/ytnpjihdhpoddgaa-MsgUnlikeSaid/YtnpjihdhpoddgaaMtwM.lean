/- gavellaw06.MsgUnlike, walked. (written by gen_mtw.py) -/
import Derived.Test.YtnpjihdhpoddgaaKM6
import Derived.Deep.CutBlock
namespace Go.Proofs.Ytnpjihdhpoddgaa
open Go.RowKit
set_option maxRecDepth 100000
theorem Wmg.In.len {w : World} {x : Wmg} (h : x.In w) : x.Len := ⟨h.cm.h, h.st.h, h.ce.k.h, h.ak.h, h.vt.h, h.en.h, h.op.h⟩
theorem Wmg.In.tin {w : World} {x : Wmg} (h : x.In w) : x.Tin := ⟨h.len, h.f, h.t, h.e, h.r, h.i, h.vt.r, h.vt.p, h.en.s⟩
theorem tn_len (k : Int) (a : Wmg) : (tn k a).Len := by
  unfold tn
  split
  · exact ⟨rfl, rfl, rfl, rfl, rfl, rfl, rfl⟩
  · split
    · exact ⟨rfl, rfl, rfl, rfl, rfl, rfl, rfl⟩
    · split <;> exact ⟨rfl, rfl, rfl, rfl, rfl, rfl, rfl⟩
theorem tn_li (k : Int) (a : Wmg) (w : World) (S : List Nat) : (tn k a).Li w S := by
  have h := mz_li w S 0 0 0
  have b3 : ∀ z : Int, i64In (z % 3) := fun z => by unfold i64In; omega
  have n3 : ∀ z : Nat, z % 3 < 18446744073709551616 := fun z => by omega
  have o1 : i64In 1 := by unfold i64In; omega
  unfold tn
  split
  · exact ⟨h.cm, h.st, h.ce, h.ak, h.pr, h.po, h.vt, h.en, h.op, h.dn, h.de⟩
  · split
    · exact ⟨h.cm, h.st, h.ce, h.ak, h.pr, h.po, h.vt, h.en, h.op, h.dn, h.de⟩
    · split
      · exact ⟨h.cm, h.st, h.ce, h.ak, h.pr, h.po, h.vt, ⟨zero_in, b3 _, rfl, n3 _⟩, h.op, h.dn, h.de⟩
      · exact ⟨h.cm, h.st, h.ce, h.ak, h.pr, h.po, ⟨o1, zero_in, b3 _, b3 _, rfl, zero_in, zero_in⟩, h.en, h.op, h.dn, h.de⟩
theorem tn_same (k : Int) (a b : Wmg) : (tn k a).q = (tn k b).q ∧ (tn k a).cm = (tn k b).cm ∧ (tn k a).st = (tn k b).st ∧ (tn k a).ce.con = (tn k b).ce.con ∧ (tn k a).ak = (tn k b).ak ∧ (tn k a).pr.con = (tn k b).pr.con ∧ (tn k a).po.con = (tn k b).po.con ∧ (tn k a).op.con = (tn k b).op.con ∧ (tn k a).dn = (tn k b).dn ∧ (tn k a).rp = (tn k b).rp ∧ (tn k a).de.con = (tn k b).de.con := by
  unfold tn
  split
  · exact ⟨rfl, rfl, rfl, rfl, rfl, rfl, rfl, rfl, rfl, rfl, rfl⟩
  · split
    · exact ⟨rfl, rfl, rfl, rfl, rfl, rfl, rfl, rfl, rfl, rfl, rfl⟩
    · split <;> exact ⟨rfl, rfl, rfl, rfl, rfl, rfl, rfl, rfl, rfl, rfl, rfl⟩
theorem tn_eq_iff (k : Int) (a b : Wmg) : ((tn k a).f = (tn k b).f ∧ (tn k a).t = (tn k b).t ∧ (tn k a).e = (tn k b).e ∧ (tn k a).r = (tn k b).r ∧ (tn k a).tm = (tn k b).tm ∧ (tn k a).vt = (tn k b).vt ∧ (tn k a).i = (tn k b).i ∧ (tn k a).en = (tn k b).en) ↔ tn k a = tn k b := by
  refine ⟨fun h => ?_, fun h => by rw [h]; exact ⟨rfl, rfl, rfl, rfl, rfl, rfl, rfl, rfl⟩⟩
  obtain ⟨h1, h2, h3, h4, h5, h6, h7, h8⟩ := h
  unfold tn at h1 h2 h3 h4 h5 h6 h7 h8 ⊢
  by_cases h0 : k = 0
  · simp only [if_pos h0] at *
    simp only [tn0, mz] at *
    rw [h1, h2, h3, h4, h5]
  · simp only [if_neg h0] at *
    by_cases h0 : k = 1
    · simp only [if_pos h0] at *
      simp only [tn1, mz] at *
      rw [h1, h2, h7]
    · simp only [if_neg h0] at *
      by_cases h0 : k = 2
      · simp only [if_pos h0] at *
        simp only [tn2, mz] at *
        rw [h1, h2, h7, h8]
      · simp only [if_neg h0] at *
        simp only [tn3, mz] at *
        rw [h1, h2, h6]
theorem ktn_any (k : Int) (a b : Wmg) (w : World) (C D : List Value) (hC : (tn k a).cells = C) (hD : (tn k b).cells = D) :
    Calls Try.prog 6 #[.agg C.toArray, .agg D.toArray] w fun e w' => e = .returned (.bool (decide ((tn k a).bytes = (tn k b).bytes))) ∧ Fr [] w w' := by
  obtain ⟨s1, s2, s3, s4, s5, s6, s7, s8, s9, s10, s11⟩ := tn_same k a b
  refine (kmsg_any (tn k a) (tn k b) w (tn_li _ _ _ _) (tn_li _ _ _ _) s1 s2 s3 s4 s5 s6 s7 s8 s9 s10 s11 C D hC hD).mono ?_
  rintro e w' ⟨q, rfl, hb, hf⟩
  rw [tn_eq_iff] at hb
  refine ⟨?_, hf⟩
  have : q = decide ((tn k a).bytes = (tn k b).bytes) := by
    cases q
    · have h : ¬ tn k a = tn k b := by simpa using hb
      rw [decide_eq_false (fun e => h (tn_inj k a b e))]
    · have h : tn k a = tn k b := hb.1 rfl
      rw [h, decide_eq_true rfl]
  rw [this]
set_option maxHeartbeats 8000000 in
theorem msgUnlike_walk (w : World) (x : Wmg) (hx : x.In w) (y : Wmg) (hy : y.In w) (kind : Int) (hk1 : -9223372036854775808 ≤ kind) (hk2 : kind < 9223372036854775808) (other : Int) (ho1 : -9223372036854775808 ≤ other) (ho2 : other < 9223372036854775808) :
    Calls Try.prog 3 #[x.val, y.val, .int .i64 kind, .int .i64 other] w fun e w' => e = .returned (.bool true) ∧ Fr [] w w' := by
  unfold Wmg.val
  have HX := Lib.hid hx.tin
  have HY := Lib.hid hy.tin
  obtain ⟨C, hC⟩ : ∃ C, x.cells = C := ⟨_, rfl⟩
  obtain ⟨D, hD⟩ : ∃ D, y.cells = D := ⟨_, rfl⟩
  rw [hC, hD]
  obtain ⟨wa, hwa⟩ : ∃ wa, wa = (w.alloc (Obj.cells C.toArray 61)).alloc (Obj.cells D.toArray 61) := ⟨_, rfl⟩
  have hf0 : Fr [] w wa := by rw [hwa]; exact ((Fr.refl [] w).alloc _).alloc _
  have hb0 : Blk wa w.heap.size 61 C.toArray := by rw [hwa]; exact blk_alloc (Blk.new _ _ _)
  have hb1 : Blk wa (w.heap.size + 1) 61 D.toArray := by
    have := Blk.new (w.alloc (Obj.cells C.toArray 61)) 61 D.toArray
    rw [hwa]
    simpa using this
  have HCL : Hid (C.length = 295) := Lib.hid (by rw [← hC]; exact Wmg.lenz hx.len)
  have HDL : Hid (D.length = 295) := Lib.hid (by rw [← hD]; exact Wmg.lenz hy.len)
  have HRC : Hid (wa.rangeAt w.heap.size 0 C) := Lib.hid hb0.range
  have HRD : Hid (wa.rangeAt (w.heap.size + 1) 0 D) := Lib.hid hb1.range
  have HC := Lib.hid hC
  have HD := Lib.hid hD
  have HF0 := Lib.hid hf0
  have HWA := Lib.hid hwa
  obtain ⟨k, hk⟩ : ∃ k, k = kind % 4 := ⟨_, rfl⟩
  obtain ⟨k', hk'⟩ : ∃ k', k' = other % 4 := ⟨_, rfl⟩
  have HK : Hid (0 ≤ k ∧ k < 4) := Lib.hid (by omega)
  have HK' : Hid (0 ≤ k' ∧ k' < 4) := Lib.hid (by omega)
  obtain ⟨E, hE⟩ : ∃ E, (tn k x).cells = E := ⟨_, rfl⟩
  obtain ⟨G, hG⟩ : ∃ G, (tn k y).cells = G := ⟨_, rfl⟩
  have HEL : Hid (E.length = 295) := Lib.hid (by rw [← hE]; exact Wmg.lenz (tn_len _ _))
  have HGL : Hid (G.length = 295) := Lib.hid (by rw [← hG]; exact Wmg.lenz (tn_len _ _))
  have HEO : Hid (E.toArray.all (·.oneCell') = true) := Lib.hid (by rw [← hE]; exact all_oneCell_toArray (Wmg.one _))
  have HGO : Hid (G.toArray.all (·.oneCell') = true) := Lib.hid (by rw [← hG]; exact all_oneCell_toArray (Wmg.one _))
  have HES : Hid ((Try.prog.info? 61).map (·.size) = some E.toArray.size) := Lib.hid (by rw [List.size_toArray, HEL.out]; kernel_rfl)
  have HGS : Hid ((Try.prog.info? 61).map (·.size) = some G.toArray.size) := Lib.hid (by rw [List.size_toArray, HGL.out]; kernel_rfl)
  have HEM : Hid (mz00.size = E.toArray.size) := Lib.hid (by unfold mz00; rw [List.size_toArray, List.size_toArray, HEL.out, Wmg.lenz (mz_len _ _ _)])
  have HGM : Hid (mz00.size = G.toArray.size) := Lib.hid (by unfold mz00; rw [List.size_toArray, List.size_toArray, HGL.out, Wmg.lenz (mz_len _ _ _)])
  have HTX : Hid (∀ W : World, Calls Try.prog 4 #[.agg C.toArray, .int .i64 kind] W fun e w' => e = .returned (.agg E.toArray) ∧ Fr [] W w') := Lib.hid (fun W => by have h := tiny_any x HX.out kind hk1 hk2 C hC W; rw [← hk, hE] at h; exact h)
  have HTY : Hid (∀ W : World, Calls Try.prog 4 #[.agg D.toArray, .int .i64 kind] W fun e w' => e = .returned (.agg G.toArray) ∧ Fr [] W w') := Lib.hid (fun W => by have h := tiny_any y HY.out kind hk1 hk2 D hD W; rw [← hk, hG] at h; exact h)
  have HE := Lib.hid hE
  have HG := Lib.hid hG
  have HKE := Lib.hid hk
  have HKE' := Lib.hid hk'
  clear hx hy hC hD hwa hf0 hb0 hb1 hE hG hk hk'
  go_enter Try.func3, Try.ntmps3
  go_upto_region 1 with (fail)
  change Code.wp _ _ _ _ ((w.alloc (Obj.cells C.toArray 61)).alloc (Obj.cells D.toArray 61))
  rw [← HWA.out]
  go_cut [9, 10] (fun s9 s10 wx => ∃ g6 g7, s9 = .pointer (some ⟨g6, 0, none⟩) ∧ s10 = .pointer (some ⟨g7, 0, none⟩) ∧ Blk wx g6 61 E.toArray ∧ Blk wx g7 61 G.toArray ∧ Fr [] wa wx)
  case first =>
    refine wp_region_held_drew (S := Fr [] wa) (by kernel_rfl) (Fr.drew (Fr.refl _ wa)) (fun hHeld => ?_)
    refine row_at (i := 0) rfl (by kernel_rfl) (by rfl) _ _ rfl _ _ rfl _ (fun w1 hw1 => hw1.range (HRC.out) (by first | (simp; done) | exact HNS.out | exact HNW.out | (intro hm; have hlt := HSB.out _ hm; (try dsimp only at hlt); omega))) (row_msg.of HCL.out) (fun _ _ _ h => h) hHeld ?_
    simp only [Act.put, List.setIfInBounds_toArray, List.set_cons_zero, List.set_cons_succ]
    refine run_at (i := 1) (v := ?_) rfl (by kernel_rfl) (by rfl) (fun _ _ _ h => h) hHeld (fun w1 hw1 => ?_) ?_
    rotate_left 1
    · skip
      go_simp
      (try (first | with_reducible rfl | (apply And.intro <;> rfl)))
    simp only [Act.put, List.setIfInBounds_toArray, List.set_cons_zero, List.set_cons_succ]
    refine row_at (i := 3) rfl (by kernel_rfl) (by rfl) _ _ rfl _ _ rfl _ (fun w1 hw1 => hw1.range (HRD.out) (by first | (simp; done) | exact HNS.out | exact HNW.out | (intro hm; have hlt := HSB.out _ hm; (try dsimp only at hlt); omega))) (row_msg.of HDL.out) (fun _ _ _ h => h) hHeld ?_
    simp only [Act.put, List.setIfInBounds_toArray, List.set_cons_zero, List.set_cons_succ]
    refine run_at (i := 4) (v := ?_) rfl (by kernel_rfl) (by rfl) (fun _ _ _ h => h) hHeld (fun w1 hw1 => ?_) ?_
    rotate_left 1
    · skip
      go_simp
      (try (first | with_reducible rfl | (apply And.intro <;> rfl)))
    simp only [Act.put, List.setIfInBounds_toArray, List.set_cons_zero, List.set_cons_succ]
    have hHeld0 : Fr [] wa wa.drew := hHeld
    obtain ⟨v0, hv0⟩ : ∃ v0, v0 = wa.drew := ⟨_, rfl⟩
    rw [← hv0] at hHeld hHeld0 ⊢
    clear hv0
    refine three_at (i := 2) (j := 6) (k := 7) rfl rfl rfl (by kernel_rfl) (by rfl) (by rfl) (by rfl) (fun K hK => ?_) (fun K hK => ?_) (fun K hK => ?_)
    · skip
      refine wp_call (f := ?_) (args := ?_) ?_ ?_
      rotate_left 2
      · go_simp
        (try (first | with_reducible rfl | (apply And.intro <;> rfl)))
      refine (HTX.out v0).mono ?_
      rintro e_ v1 ⟨rfl, hn⟩
      refine ⟨_, rfl, hK.out _ _ (hHeld.and hn (by simp)) (fun hHeld => ?_)⟩
      clear hK K
      simp only [Act.put, List.setIfInBounds_toArray, List.set_cons_zero, List.set_cons_succ]
      clear hn
      refine three_at (i := 5) (j := 6) (k := 7) rfl rfl rfl (by kernel_rfl) (by rfl) (by rfl) (by rfl) (fun K hK => ?_) (fun K hK => ?_) (fun K hK => ?_)
      · skip
        refine wp_call (f := ?_) (args := ?_) ?_ ?_
        rotate_left 2
        · go_simp
          (try (first | with_reducible rfl | (apply And.intro <;> rfl)))
        refine (HTY.out v1).mono ?_
        rintro e_ v2 ⟨rfl, hn⟩
        refine ⟨_, rfl, hK.out _ _ (hHeld.and hn (by simp)) (fun hHeld => ?_)⟩
        clear hK K
        simp only [Act.put, List.setIfInBounds_toArray, List.set_cons_zero, List.set_cons_succ]
        clear hn
        refine two_at (i := 6) (j := 7) rfl rfl (by kernel_rfl) (by rfl) (by rfl) (fun K hK => ?_) (fun K hK => ?_)
        · skip
          refine wp_run (v := ?_) (w' := ?_) ?_ ?_
          rotate_left 2
          · go_simp
            (try (first | with_reducible rfl | (apply And.intro <;> rfl)))
          have HS6 : Hid (wa.heap.size ≤ v2.heap.size) := Lib.hid hHeld.size
          refine hK.out _ (v2.alloc (Obj.cells mz00 61)) (hHeld.alloc _) (fun hHeld => ?_)
          clear hK K
          simp only [Act.put, List.setIfInBounds_toArray, List.set_cons_zero, List.set_cons_succ]
          obtain ⟨g6, hg6⟩ : ∃ g, g = v2.heap.size := ⟨_, rfl⟩
          have HG6 : Hid (Blk (v2.alloc (Obj.cells mz00 61)) g6 61 mz00) := Lib.hid (by rw [hg6]; exact Blk.new _ _ _)
          have HW6 : Hid (wa.heap.size ≤ g6) := Lib.hid (by rw [hg6]; exact HS6.out)
          have HX6 : Hid (g6 < (v2.alloc (Obj.cells mz00 61)).heap.size) := Lib.hid (by rw [hg6]; simp)
          rw [← hg6]
          clear hg6
          generalize (v2.alloc (Obj.cells mz00 61)) = v3 at *
          refine step_at (i := 7) rfl (by kernel_rfl) (by rfl) (fun K hK => ?_)
          refine wp_run (v := ?_) (w' := ?_) ?_ ?_
          rotate_left 2
          · go_simp
            (try (first | with_reducible rfl | (apply And.intro <;> rfl)))
          have HS7 : Hid (wa.heap.size ≤ v3.heap.size) := Lib.hid hHeld.size
          refine hK.out _ (v3.alloc (Obj.cells mz00 61)) (hHeld.alloc _) (fun hHeld => ?_)
          clear hK K
          simp only [Act.put, List.setIfInBounds_toArray, List.set_cons_zero, List.set_cons_succ]
          obtain ⟨g7, hg7⟩ : ∃ g, g = v3.heap.size := ⟨_, rfl⟩
          have HG7 : Hid (Blk (v3.alloc (Obj.cells mz00 61)) g7 61 mz00) := Lib.hid (by rw [hg7]; exact Blk.new _ _ _)
          have HW7 : Hid (wa.heap.size ≤ g7) := Lib.hid (by rw [hg7]; exact HS7.out)
          have HX7 : Hid (g7 < (v3.alloc (Obj.cells mz00 61)).heap.size) := Lib.hid (by rw [hg7]; simp)
          have HN : Hid (g6 ≠ g7) := Lib.hid (by have := HX6.out; omega)
          have HG6 := Lib.hid (HG6.out.keep ((Fr.refl [] v3).alloc (Obj.cells mz00 61)) (by simp))
          have HX6 : Hid (g6 < (v3.alloc (Obj.cells mz00 61)).heap.size) := Lib.hid (Nat.lt_of_lt_of_le HX6.out ((Fr.refl [] v3).alloc (Obj.cells mz00 61)).size)
          rw [← hg7]
          clear hg7
          generalize (v3.alloc (Obj.cells mz00 61)) = v4 at *
          refine step_at (i := 8) rfl (by kernel_rfl) (by rfl) (fun K hK => ?_)
          refine wp_store_blk 61 _ _ rfl g6 E.toArray rfl rfl 61 mz00 HG6.out HES.out HEM.out HEO.out ?_
          intro wy hby hfy
          refine hK.out _ _ (hHeld.go hfy (by have := HW6.out; simpa using this)) (fun hHeld => ?_)
          clear hK K
          simp only [Act.put, List.setIfInBounds_toArray, List.set_cons_zero, List.set_cons_succ]
          have HG7 := Lib.hid (HG7.out.keep hfy (by have := HN.out; simp; exact fun h => this h.symm))
          refine step_at (i := 9) rfl (by kernel_rfl) (by rfl) (fun K hK => ?_)
          refine wp_store_blk 61 _ _ rfl g7 G.toArray rfl rfl 61 mz00 HG7.out HGS.out HGM.out HGO.out ?_
          intro wz hbz hfz
          refine hK.out _ _ (hHeld.go hfz (by have := HW7.out; simpa using this)) (fun hHeld => ?_)
          clear hK K
          simp only [Act.put, List.setIfInBounds_toArray, List.set_cons_zero, List.set_cons_succ]
          refine wpAnyH_done (by kernel_rfl) ?_ _
          go_wp2_with fail
          go_meet
          exact ⟨g6, g7, rfl, rfl, hby.keep hfz (by have := HN.out; simpa using this), hbz, hHeld⟩
        · skip
          refine wp_run (v := ?_) (w' := ?_) ?_ ?_
          rotate_left 2
          · go_simp
            (try (first | with_reducible rfl | (apply And.intro <;> rfl)))
          have HS7 : Hid (wa.heap.size ≤ v2.heap.size) := Lib.hid hHeld.size
          refine hK.out _ (v2.alloc (Obj.cells mz00 61)) (hHeld.alloc _) (fun hHeld => ?_)
          clear hK K
          simp only [Act.put, List.setIfInBounds_toArray, List.set_cons_zero, List.set_cons_succ]
          obtain ⟨g7, hg7⟩ : ∃ g, g = v2.heap.size := ⟨_, rfl⟩
          have HG7 : Hid (Blk (v2.alloc (Obj.cells mz00 61)) g7 61 mz00) := Lib.hid (by rw [hg7]; exact Blk.new _ _ _)
          have HW7 : Hid (wa.heap.size ≤ g7) := Lib.hid (by rw [hg7]; exact HS7.out)
          have HX7 : Hid (g7 < (v2.alloc (Obj.cells mz00 61)).heap.size) := Lib.hid (by rw [hg7]; simp)
          rw [← hg7]
          clear hg7
          generalize (v2.alloc (Obj.cells mz00 61)) = v3 at *
          refine step_at (i := 6) rfl (by kernel_rfl) (by rfl) (fun K hK => ?_)
          refine wp_run (v := ?_) (w' := ?_) ?_ ?_
          rotate_left 2
          · go_simp
            (try (first | with_reducible rfl | (apply And.intro <;> rfl)))
          have HS6 : Hid (wa.heap.size ≤ v3.heap.size) := Lib.hid hHeld.size
          refine hK.out _ (v3.alloc (Obj.cells mz00 61)) (hHeld.alloc _) (fun hHeld => ?_)
          clear hK K
          simp only [Act.put, List.setIfInBounds_toArray, List.set_cons_zero, List.set_cons_succ]
          obtain ⟨g6, hg6⟩ : ∃ g, g = v3.heap.size := ⟨_, rfl⟩
          have HG6 : Hid (Blk (v3.alloc (Obj.cells mz00 61)) g6 61 mz00) := Lib.hid (by rw [hg6]; exact Blk.new _ _ _)
          have HW6 : Hid (wa.heap.size ≤ g6) := Lib.hid (by rw [hg6]; exact HS6.out)
          have HX6 : Hid (g6 < (v3.alloc (Obj.cells mz00 61)).heap.size) := Lib.hid (by rw [hg6]; simp)
          have HN : Hid (g6 ≠ g7) := Lib.hid (by have := HX7.out; omega)
          have HG7 := Lib.hid (HG7.out.keep ((Fr.refl [] v3).alloc (Obj.cells mz00 61)) (by simp))
          have HX7 : Hid (g7 < (v3.alloc (Obj.cells mz00 61)).heap.size) := Lib.hid (Nat.lt_of_lt_of_le HX7.out ((Fr.refl [] v3).alloc (Obj.cells mz00 61)).size)
          rw [← hg6]
          clear hg6
          generalize (v3.alloc (Obj.cells mz00 61)) = v4 at *
          refine step_at (i := 8) rfl (by kernel_rfl) (by rfl) (fun K hK => ?_)
          refine wp_store_blk 61 _ _ rfl g6 E.toArray rfl rfl 61 mz00 HG6.out HES.out HEM.out HEO.out ?_
          intro wy hby hfy
          refine hK.out _ _ (hHeld.go hfy (by have := HW6.out; simpa using this)) (fun hHeld => ?_)
          clear hK K
          simp only [Act.put, List.setIfInBounds_toArray, List.set_cons_zero, List.set_cons_succ]
          have HG7 := Lib.hid (HG7.out.keep hfy (by have := HN.out; simp; exact fun h => this h.symm))
          refine step_at (i := 9) rfl (by kernel_rfl) (by rfl) (fun K hK => ?_)
          refine wp_store_blk 61 _ _ rfl g7 G.toArray rfl rfl 61 mz00 HG7.out HGS.out HGM.out HGO.out ?_
          intro wz hbz hfz
          refine hK.out _ _ (hHeld.go hfz (by have := HW7.out; simpa using this)) (fun hHeld => ?_)
          clear hK K
          simp only [Act.put, List.setIfInBounds_toArray, List.set_cons_zero, List.set_cons_succ]
          refine wpAnyH_done (by kernel_rfl) ?_ _
          go_wp2_with fail
          go_meet
          exact ⟨g6, g7, rfl, rfl, hby.keep hfz (by have := HN.out; simpa using this), hbz, hHeld⟩
      · skip
        refine wp_run (v := ?_) (w' := ?_) ?_ ?_
        rotate_left 2
        · go_simp
          (try (first | with_reducible rfl | (apply And.intro <;> rfl)))
        have HS6 : Hid (wa.heap.size ≤ v1.heap.size) := Lib.hid hHeld.size
        refine hK.out _ (v1.alloc (Obj.cells mz00 61)) (hHeld.alloc _) (fun hHeld => ?_)
        clear hK K
        simp only [Act.put, List.setIfInBounds_toArray, List.set_cons_zero, List.set_cons_succ]
        obtain ⟨g6, hg6⟩ : ∃ g, g = v1.heap.size := ⟨_, rfl⟩
        have HG6 : Hid (Blk (v1.alloc (Obj.cells mz00 61)) g6 61 mz00) := Lib.hid (by rw [hg6]; exact Blk.new _ _ _)
        have HW6 : Hid (wa.heap.size ≤ g6) := Lib.hid (by rw [hg6]; exact HS6.out)
        have HX6 : Hid (g6 < (v1.alloc (Obj.cells mz00 61)).heap.size) := Lib.hid (by rw [hg6]; simp)
        rw [← hg6]
        clear hg6
        generalize (v1.alloc (Obj.cells mz00 61)) = v2 at *
        refine two_at (i := 5) (j := 7) rfl rfl (by kernel_rfl) (by rfl) (by rfl) (fun K hK => ?_) (fun K hK => ?_)
        · skip
          refine wp_call (f := ?_) (args := ?_) ?_ ?_
          rotate_left 2
          · go_simp
            (try (first | with_reducible rfl | (apply And.intro <;> rfl)))
          refine (HTY.out v2).mono ?_
          rintro e_ v3 ⟨rfl, hn⟩
          refine ⟨_, rfl, hK.out _ _ (hHeld.and hn (by simp)) (fun hHeld => ?_)⟩
          clear hK K
          simp only [Act.put, List.setIfInBounds_toArray, List.set_cons_zero, List.set_cons_succ]
          have HG6 := Lib.hid (HG6.out.keep hn (by simp))
          have HX6 : Hid (g6 < v3.heap.size) := Lib.hid (Nat.lt_of_lt_of_le HX6.out hn.size)
          clear hn
          refine step_at (i := 7) rfl (by kernel_rfl) (by rfl) (fun K hK => ?_)
          refine wp_run (v := ?_) (w' := ?_) ?_ ?_
          rotate_left 2
          · go_simp
            (try (first | with_reducible rfl | (apply And.intro <;> rfl)))
          have HS7 : Hid (wa.heap.size ≤ v3.heap.size) := Lib.hid hHeld.size
          refine hK.out _ (v3.alloc (Obj.cells mz00 61)) (hHeld.alloc _) (fun hHeld => ?_)
          clear hK K
          simp only [Act.put, List.setIfInBounds_toArray, List.set_cons_zero, List.set_cons_succ]
          obtain ⟨g7, hg7⟩ : ∃ g, g = v3.heap.size := ⟨_, rfl⟩
          have HG7 : Hid (Blk (v3.alloc (Obj.cells mz00 61)) g7 61 mz00) := Lib.hid (by rw [hg7]; exact Blk.new _ _ _)
          have HW7 : Hid (wa.heap.size ≤ g7) := Lib.hid (by rw [hg7]; exact HS7.out)
          have HX7 : Hid (g7 < (v3.alloc (Obj.cells mz00 61)).heap.size) := Lib.hid (by rw [hg7]; simp)
          have HN : Hid (g6 ≠ g7) := Lib.hid (by have := HX6.out; omega)
          have HG6 := Lib.hid (HG6.out.keep ((Fr.refl [] v3).alloc (Obj.cells mz00 61)) (by simp))
          have HX6 : Hid (g6 < (v3.alloc (Obj.cells mz00 61)).heap.size) := Lib.hid (Nat.lt_of_lt_of_le HX6.out ((Fr.refl [] v3).alloc (Obj.cells mz00 61)).size)
          rw [← hg7]
          clear hg7
          generalize (v3.alloc (Obj.cells mz00 61)) = v4 at *
          refine step_at (i := 8) rfl (by kernel_rfl) (by rfl) (fun K hK => ?_)
          refine wp_store_blk 61 _ _ rfl g6 E.toArray rfl rfl 61 mz00 HG6.out HES.out HEM.out HEO.out ?_
          intro wy hby hfy
          refine hK.out _ _ (hHeld.go hfy (by have := HW6.out; simpa using this)) (fun hHeld => ?_)
          clear hK K
          simp only [Act.put, List.setIfInBounds_toArray, List.set_cons_zero, List.set_cons_succ]
          have HG7 := Lib.hid (HG7.out.keep hfy (by have := HN.out; simp; exact fun h => this h.symm))
          refine step_at (i := 9) rfl (by kernel_rfl) (by rfl) (fun K hK => ?_)
          refine wp_store_blk 61 _ _ rfl g7 G.toArray rfl rfl 61 mz00 HG7.out HGS.out HGM.out HGO.out ?_
          intro wz hbz hfz
          refine hK.out _ _ (hHeld.go hfz (by have := HW7.out; simpa using this)) (fun hHeld => ?_)
          clear hK K
          simp only [Act.put, List.setIfInBounds_toArray, List.set_cons_zero, List.set_cons_succ]
          refine wpAnyH_done (by kernel_rfl) ?_ _
          go_wp2_with fail
          go_meet
          exact ⟨g6, g7, rfl, rfl, hby.keep hfz (by have := HN.out; simpa using this), hbz, hHeld⟩
        · skip
          refine wp_run (v := ?_) (w' := ?_) ?_ ?_
          rotate_left 2
          · go_simp
            (try (first | with_reducible rfl | (apply And.intro <;> rfl)))
          have HS7 : Hid (wa.heap.size ≤ v2.heap.size) := Lib.hid hHeld.size
          refine hK.out _ (v2.alloc (Obj.cells mz00 61)) (hHeld.alloc _) (fun hHeld => ?_)
          clear hK K
          simp only [Act.put, List.setIfInBounds_toArray, List.set_cons_zero, List.set_cons_succ]
          obtain ⟨g7, hg7⟩ : ∃ g, g = v2.heap.size := ⟨_, rfl⟩
          have HG7 : Hid (Blk (v2.alloc (Obj.cells mz00 61)) g7 61 mz00) := Lib.hid (by rw [hg7]; exact Blk.new _ _ _)
          have HW7 : Hid (wa.heap.size ≤ g7) := Lib.hid (by rw [hg7]; exact HS7.out)
          have HX7 : Hid (g7 < (v2.alloc (Obj.cells mz00 61)).heap.size) := Lib.hid (by rw [hg7]; simp)
          have HN : Hid (g6 ≠ g7) := Lib.hid (by have := HX6.out; omega)
          have HG6 := Lib.hid (HG6.out.keep ((Fr.refl [] v2).alloc (Obj.cells mz00 61)) (by simp))
          have HX6 : Hid (g6 < (v2.alloc (Obj.cells mz00 61)).heap.size) := Lib.hid (Nat.lt_of_lt_of_le HX6.out ((Fr.refl [] v2).alloc (Obj.cells mz00 61)).size)
          rw [← hg7]
          clear hg7
          generalize (v2.alloc (Obj.cells mz00 61)) = v3 at *
          refine step_at (i := 5) rfl (by kernel_rfl) (by rfl) (fun K hK => ?_)
          refine wp_call (f := ?_) (args := ?_) ?_ ?_
          rotate_left 2
          · go_simp
            (try (first | with_reducible rfl | (apply And.intro <;> rfl)))
          refine (HTY.out v3).mono ?_
          rintro e_ v4 ⟨rfl, hn⟩
          refine ⟨_, rfl, hK.out _ _ (hHeld.and hn (by simp)) (fun hHeld => ?_)⟩
          clear hK K
          simp only [Act.put, List.setIfInBounds_toArray, List.set_cons_zero, List.set_cons_succ]
          have HG6 := Lib.hid (HG6.out.keep hn (by simp))
          have HX6 : Hid (g6 < v4.heap.size) := Lib.hid (Nat.lt_of_lt_of_le HX6.out hn.size)
          have HG7 := Lib.hid (HG7.out.keep hn (by simp))
          have HX7 : Hid (g7 < v4.heap.size) := Lib.hid (Nat.lt_of_lt_of_le HX7.out hn.size)
          clear hn
          refine step_at (i := 8) rfl (by kernel_rfl) (by rfl) (fun K hK => ?_)
          refine wp_store_blk 61 _ _ rfl g6 E.toArray rfl rfl 61 mz00 HG6.out HES.out HEM.out HEO.out ?_
          intro wy hby hfy
          refine hK.out _ _ (hHeld.go hfy (by have := HW6.out; simpa using this)) (fun hHeld => ?_)
          clear hK K
          simp only [Act.put, List.setIfInBounds_toArray, List.set_cons_zero, List.set_cons_succ]
          have HG7 := Lib.hid (HG7.out.keep hfy (by have := HN.out; simp; exact fun h => this h.symm))
          refine step_at (i := 9) rfl (by kernel_rfl) (by rfl) (fun K hK => ?_)
          refine wp_store_blk 61 _ _ rfl g7 G.toArray rfl rfl 61 mz00 HG7.out HGS.out HGM.out HGO.out ?_
          intro wz hbz hfz
          refine hK.out _ _ (hHeld.go hfz (by have := HW7.out; simpa using this)) (fun hHeld => ?_)
          clear hK K
          simp only [Act.put, List.setIfInBounds_toArray, List.set_cons_zero, List.set_cons_succ]
          refine wpAnyH_done (by kernel_rfl) ?_ _
          go_wp2_with fail
          go_meet
          exact ⟨g6, g7, rfl, rfl, hby.keep hfz (by have := HN.out; simpa using this), hbz, hHeld⟩
      · skip
        refine wp_run (v := ?_) (w' := ?_) ?_ ?_
        rotate_left 2
        · go_simp
          (try (first | with_reducible rfl | (apply And.intro <;> rfl)))
        have HS7 : Hid (wa.heap.size ≤ v1.heap.size) := Lib.hid hHeld.size
        refine hK.out _ (v1.alloc (Obj.cells mz00 61)) (hHeld.alloc _) (fun hHeld => ?_)
        clear hK K
        simp only [Act.put, List.setIfInBounds_toArray, List.set_cons_zero, List.set_cons_succ]
        obtain ⟨g7, hg7⟩ : ∃ g, g = v1.heap.size := ⟨_, rfl⟩
        have HG7 : Hid (Blk (v1.alloc (Obj.cells mz00 61)) g7 61 mz00) := Lib.hid (by rw [hg7]; exact Blk.new _ _ _)
        have HW7 : Hid (wa.heap.size ≤ g7) := Lib.hid (by rw [hg7]; exact HS7.out)
        have HX7 : Hid (g7 < (v1.alloc (Obj.cells mz00 61)).heap.size) := Lib.hid (by rw [hg7]; simp)
        rw [← hg7]
        clear hg7
        generalize (v1.alloc (Obj.cells mz00 61)) = v2 at *
        refine two_at (i := 5) (j := 6) rfl rfl (by kernel_rfl) (by rfl) (by rfl) (fun K hK => ?_) (fun K hK => ?_)
        · skip
          refine wp_call (f := ?_) (args := ?_) ?_ ?_
          rotate_left 2
          · go_simp
            (try (first | with_reducible rfl | (apply And.intro <;> rfl)))
          refine (HTY.out v2).mono ?_
          rintro e_ v3 ⟨rfl, hn⟩
          refine ⟨_, rfl, hK.out _ _ (hHeld.and hn (by simp)) (fun hHeld => ?_)⟩
          clear hK K
          simp only [Act.put, List.setIfInBounds_toArray, List.set_cons_zero, List.set_cons_succ]
          have HG7 := Lib.hid (HG7.out.keep hn (by simp))
          have HX7 : Hid (g7 < v3.heap.size) := Lib.hid (Nat.lt_of_lt_of_le HX7.out hn.size)
          clear hn
          refine step_at (i := 6) rfl (by kernel_rfl) (by rfl) (fun K hK => ?_)
          refine wp_run (v := ?_) (w' := ?_) ?_ ?_
          rotate_left 2
          · go_simp
            (try (first | with_reducible rfl | (apply And.intro <;> rfl)))
          have HS6 : Hid (wa.heap.size ≤ v3.heap.size) := Lib.hid hHeld.size
          refine hK.out _ (v3.alloc (Obj.cells mz00 61)) (hHeld.alloc _) (fun hHeld => ?_)
          clear hK K
          simp only [Act.put, List.setIfInBounds_toArray, List.set_cons_zero, List.set_cons_succ]
          obtain ⟨g6, hg6⟩ : ∃ g, g = v3.heap.size := ⟨_, rfl⟩
          have HG6 : Hid (Blk (v3.alloc (Obj.cells mz00 61)) g6 61 mz00) := Lib.hid (by rw [hg6]; exact Blk.new _ _ _)
          have HW6 : Hid (wa.heap.size ≤ g6) := Lib.hid (by rw [hg6]; exact HS6.out)
          have HX6 : Hid (g6 < (v3.alloc (Obj.cells mz00 61)).heap.size) := Lib.hid (by rw [hg6]; simp)
          have HN : Hid (g6 ≠ g7) := Lib.hid (by have := HX7.out; omega)
          have HG7 := Lib.hid (HG7.out.keep ((Fr.refl [] v3).alloc (Obj.cells mz00 61)) (by simp))
          have HX7 : Hid (g7 < (v3.alloc (Obj.cells mz00 61)).heap.size) := Lib.hid (Nat.lt_of_lt_of_le HX7.out ((Fr.refl [] v3).alloc (Obj.cells mz00 61)).size)
          rw [← hg6]
          clear hg6
          generalize (v3.alloc (Obj.cells mz00 61)) = v4 at *
          refine step_at (i := 8) rfl (by kernel_rfl) (by rfl) (fun K hK => ?_)
          refine wp_store_blk 61 _ _ rfl g6 E.toArray rfl rfl 61 mz00 HG6.out HES.out HEM.out HEO.out ?_
          intro wy hby hfy
          refine hK.out _ _ (hHeld.go hfy (by have := HW6.out; simpa using this)) (fun hHeld => ?_)
          clear hK K
          simp only [Act.put, List.setIfInBounds_toArray, List.set_cons_zero, List.set_cons_succ]
          have HG7 := Lib.hid (HG7.out.keep hfy (by have := HN.out; simp; exact fun h => this h.symm))
          refine step_at (i := 9) rfl (by kernel_rfl) (by rfl) (fun K hK => ?_)
          refine wp_store_blk 61 _ _ rfl g7 G.toArray rfl rfl 61 mz00 HG7.out HGS.out HGM.out HGO.out ?_
          intro wz hbz hfz
          refine hK.out _ _ (hHeld.go hfz (by have := HW7.out; simpa using this)) (fun hHeld => ?_)
          clear hK K
          simp only [Act.put, List.setIfInBounds_toArray, List.set_cons_zero, List.set_cons_succ]
          refine wpAnyH_done (by kernel_rfl) ?_ _
          go_wp2_with fail
          go_meet
          exact ⟨g6, g7, rfl, rfl, hby.keep hfz (by have := HN.out; simpa using this), hbz, hHeld⟩
        · skip
          refine wp_run (v := ?_) (w' := ?_) ?_ ?_
          rotate_left 2
          · go_simp
            (try (first | with_reducible rfl | (apply And.intro <;> rfl)))
          have HS6 : Hid (wa.heap.size ≤ v2.heap.size) := Lib.hid hHeld.size
          refine hK.out _ (v2.alloc (Obj.cells mz00 61)) (hHeld.alloc _) (fun hHeld => ?_)
          clear hK K
          simp only [Act.put, List.setIfInBounds_toArray, List.set_cons_zero, List.set_cons_succ]
          obtain ⟨g6, hg6⟩ : ∃ g, g = v2.heap.size := ⟨_, rfl⟩
          have HG6 : Hid (Blk (v2.alloc (Obj.cells mz00 61)) g6 61 mz00) := Lib.hid (by rw [hg6]; exact Blk.new _ _ _)
          have HW6 : Hid (wa.heap.size ≤ g6) := Lib.hid (by rw [hg6]; exact HS6.out)
          have HX6 : Hid (g6 < (v2.alloc (Obj.cells mz00 61)).heap.size) := Lib.hid (by rw [hg6]; simp)
          have HN : Hid (g6 ≠ g7) := Lib.hid (by have := HX7.out; omega)
          have HG7 := Lib.hid (HG7.out.keep ((Fr.refl [] v2).alloc (Obj.cells mz00 61)) (by simp))
          have HX7 : Hid (g7 < (v2.alloc (Obj.cells mz00 61)).heap.size) := Lib.hid (Nat.lt_of_lt_of_le HX7.out ((Fr.refl [] v2).alloc (Obj.cells mz00 61)).size)
          rw [← hg6]
          clear hg6
          generalize (v2.alloc (Obj.cells mz00 61)) = v3 at *
          refine step_at (i := 5) rfl (by kernel_rfl) (by rfl) (fun K hK => ?_)
          refine wp_call (f := ?_) (args := ?_) ?_ ?_
          rotate_left 2
          · go_simp
            (try (first | with_reducible rfl | (apply And.intro <;> rfl)))
          refine (HTY.out v3).mono ?_
          rintro e_ v4 ⟨rfl, hn⟩
          refine ⟨_, rfl, hK.out _ _ (hHeld.and hn (by simp)) (fun hHeld => ?_)⟩
          clear hK K
          simp only [Act.put, List.setIfInBounds_toArray, List.set_cons_zero, List.set_cons_succ]
          have HG6 := Lib.hid (HG6.out.keep hn (by simp))
          have HX6 : Hid (g6 < v4.heap.size) := Lib.hid (Nat.lt_of_lt_of_le HX6.out hn.size)
          have HG7 := Lib.hid (HG7.out.keep hn (by simp))
          have HX7 : Hid (g7 < v4.heap.size) := Lib.hid (Nat.lt_of_lt_of_le HX7.out hn.size)
          clear hn
          refine step_at (i := 8) rfl (by kernel_rfl) (by rfl) (fun K hK => ?_)
          refine wp_store_blk 61 _ _ rfl g6 E.toArray rfl rfl 61 mz00 HG6.out HES.out HEM.out HEO.out ?_
          intro wy hby hfy
          refine hK.out _ _ (hHeld.go hfy (by have := HW6.out; simpa using this)) (fun hHeld => ?_)
          clear hK K
          simp only [Act.put, List.setIfInBounds_toArray, List.set_cons_zero, List.set_cons_succ]
          have HG7 := Lib.hid (HG7.out.keep hfy (by have := HN.out; simp; exact fun h => this h.symm))
          refine step_at (i := 9) rfl (by kernel_rfl) (by rfl) (fun K hK => ?_)
          refine wp_store_blk 61 _ _ rfl g7 G.toArray rfl rfl 61 mz00 HG7.out HGS.out HGM.out HGO.out ?_
          intro wz hbz hfz
          refine hK.out _ _ (hHeld.go hfz (by have := HW7.out; simpa using this)) (fun hHeld => ?_)
          clear hK K
          simp only [Act.put, List.setIfInBounds_toArray, List.set_cons_zero, List.set_cons_succ]
          refine wpAnyH_done (by kernel_rfl) ?_ _
          go_wp2_with fail
          go_meet
          exact ⟨g6, g7, rfl, rfl, hby.keep hfz (by have := HN.out; simpa using this), hbz, hHeld⟩
    · skip
      refine wp_run (v := ?_) (w' := ?_) ?_ ?_
      rotate_left 2
      · go_simp
        (try (first | with_reducible rfl | (apply And.intro <;> rfl)))
      have HS6 : Hid (wa.heap.size ≤ v0.heap.size) := Lib.hid hHeld.size
      refine hK.out _ (v0.alloc (Obj.cells mz00 61)) (hHeld.alloc _) (fun hHeld => ?_)
      clear hK K
      simp only [Act.put, List.setIfInBounds_toArray, List.set_cons_zero, List.set_cons_succ]
      obtain ⟨g6, hg6⟩ : ∃ g, g = v0.heap.size := ⟨_, rfl⟩
      have HG6 : Hid (Blk (v0.alloc (Obj.cells mz00 61)) g6 61 mz00) := Lib.hid (by rw [hg6]; exact Blk.new _ _ _)
      have HW6 : Hid (wa.heap.size ≤ g6) := Lib.hid (by rw [hg6]; exact HS6.out)
      have HX6 : Hid (g6 < (v0.alloc (Obj.cells mz00 61)).heap.size) := Lib.hid (by rw [hg6]; simp)
      rw [← hg6]
      clear hg6
      generalize (v0.alloc (Obj.cells mz00 61)) = v1 at *
      refine two_at (i := 2) (j := 7) rfl rfl (by kernel_rfl) (by rfl) (by rfl) (fun K hK => ?_) (fun K hK => ?_)
      · skip
        refine wp_call (f := ?_) (args := ?_) ?_ ?_
        rotate_left 2
        · go_simp
          (try (first | with_reducible rfl | (apply And.intro <;> rfl)))
        refine (HTX.out v1).mono ?_
        rintro e_ v2 ⟨rfl, hn⟩
        refine ⟨_, rfl, hK.out _ _ (hHeld.and hn (by simp)) (fun hHeld => ?_)⟩
        clear hK K
        simp only [Act.put, List.setIfInBounds_toArray, List.set_cons_zero, List.set_cons_succ]
        have HG6 := Lib.hid (HG6.out.keep hn (by simp))
        have HX6 : Hid (g6 < v2.heap.size) := Lib.hid (Nat.lt_of_lt_of_le HX6.out hn.size)
        clear hn
        refine two_at (i := 5) (j := 7) rfl rfl (by kernel_rfl) (by rfl) (by rfl) (fun K hK => ?_) (fun K hK => ?_)
        · skip
          refine wp_call (f := ?_) (args := ?_) ?_ ?_
          rotate_left 2
          · go_simp
            (try (first | with_reducible rfl | (apply And.intro <;> rfl)))
          refine (HTY.out v2).mono ?_
          rintro e_ v3 ⟨rfl, hn⟩
          refine ⟨_, rfl, hK.out _ _ (hHeld.and hn (by simp)) (fun hHeld => ?_)⟩
          clear hK K
          simp only [Act.put, List.setIfInBounds_toArray, List.set_cons_zero, List.set_cons_succ]
          have HG6 := Lib.hid (HG6.out.keep hn (by simp))
          have HX6 : Hid (g6 < v3.heap.size) := Lib.hid (Nat.lt_of_lt_of_le HX6.out hn.size)
          clear hn
          refine step_at (i := 7) rfl (by kernel_rfl) (by rfl) (fun K hK => ?_)
          refine wp_run (v := ?_) (w' := ?_) ?_ ?_
          rotate_left 2
          · go_simp
            (try (first | with_reducible rfl | (apply And.intro <;> rfl)))
          have HS7 : Hid (wa.heap.size ≤ v3.heap.size) := Lib.hid hHeld.size
          refine hK.out _ (v3.alloc (Obj.cells mz00 61)) (hHeld.alloc _) (fun hHeld => ?_)
          clear hK K
          simp only [Act.put, List.setIfInBounds_toArray, List.set_cons_zero, List.set_cons_succ]
          obtain ⟨g7, hg7⟩ : ∃ g, g = v3.heap.size := ⟨_, rfl⟩
          have HG7 : Hid (Blk (v3.alloc (Obj.cells mz00 61)) g7 61 mz00) := Lib.hid (by rw [hg7]; exact Blk.new _ _ _)
          have HW7 : Hid (wa.heap.size ≤ g7) := Lib.hid (by rw [hg7]; exact HS7.out)
          have HX7 : Hid (g7 < (v3.alloc (Obj.cells mz00 61)).heap.size) := Lib.hid (by rw [hg7]; simp)
          have HN : Hid (g6 ≠ g7) := Lib.hid (by have := HX6.out; omega)
          have HG6 := Lib.hid (HG6.out.keep ((Fr.refl [] v3).alloc (Obj.cells mz00 61)) (by simp))
          have HX6 : Hid (g6 < (v3.alloc (Obj.cells mz00 61)).heap.size) := Lib.hid (Nat.lt_of_lt_of_le HX6.out ((Fr.refl [] v3).alloc (Obj.cells mz00 61)).size)
          rw [← hg7]
          clear hg7
          generalize (v3.alloc (Obj.cells mz00 61)) = v4 at *
          refine step_at (i := 8) rfl (by kernel_rfl) (by rfl) (fun K hK => ?_)
          refine wp_store_blk 61 _ _ rfl g6 E.toArray rfl rfl 61 mz00 HG6.out HES.out HEM.out HEO.out ?_
          intro wy hby hfy
          refine hK.out _ _ (hHeld.go hfy (by have := HW6.out; simpa using this)) (fun hHeld => ?_)
          clear hK K
          simp only [Act.put, List.setIfInBounds_toArray, List.set_cons_zero, List.set_cons_succ]
          have HG7 := Lib.hid (HG7.out.keep hfy (by have := HN.out; simp; exact fun h => this h.symm))
          refine step_at (i := 9) rfl (by kernel_rfl) (by rfl) (fun K hK => ?_)
          refine wp_store_blk 61 _ _ rfl g7 G.toArray rfl rfl 61 mz00 HG7.out HGS.out HGM.out HGO.out ?_
          intro wz hbz hfz
          refine hK.out _ _ (hHeld.go hfz (by have := HW7.out; simpa using this)) (fun hHeld => ?_)
          clear hK K
          simp only [Act.put, List.setIfInBounds_toArray, List.set_cons_zero, List.set_cons_succ]
          refine wpAnyH_done (by kernel_rfl) ?_ _
          go_wp2_with fail
          go_meet
          exact ⟨g6, g7, rfl, rfl, hby.keep hfz (by have := HN.out; simpa using this), hbz, hHeld⟩
        · skip
          refine wp_run (v := ?_) (w' := ?_) ?_ ?_
          rotate_left 2
          · go_simp
            (try (first | with_reducible rfl | (apply And.intro <;> rfl)))
          have HS7 : Hid (wa.heap.size ≤ v2.heap.size) := Lib.hid hHeld.size
          refine hK.out _ (v2.alloc (Obj.cells mz00 61)) (hHeld.alloc _) (fun hHeld => ?_)
          clear hK K
          simp only [Act.put, List.setIfInBounds_toArray, List.set_cons_zero, List.set_cons_succ]
          obtain ⟨g7, hg7⟩ : ∃ g, g = v2.heap.size := ⟨_, rfl⟩
          have HG7 : Hid (Blk (v2.alloc (Obj.cells mz00 61)) g7 61 mz00) := Lib.hid (by rw [hg7]; exact Blk.new _ _ _)
          have HW7 : Hid (wa.heap.size ≤ g7) := Lib.hid (by rw [hg7]; exact HS7.out)
          have HX7 : Hid (g7 < (v2.alloc (Obj.cells mz00 61)).heap.size) := Lib.hid (by rw [hg7]; simp)
          have HN : Hid (g6 ≠ g7) := Lib.hid (by have := HX6.out; omega)
          have HG6 := Lib.hid (HG6.out.keep ((Fr.refl [] v2).alloc (Obj.cells mz00 61)) (by simp))
          have HX6 : Hid (g6 < (v2.alloc (Obj.cells mz00 61)).heap.size) := Lib.hid (Nat.lt_of_lt_of_le HX6.out ((Fr.refl [] v2).alloc (Obj.cells mz00 61)).size)
          rw [← hg7]
          clear hg7
          generalize (v2.alloc (Obj.cells mz00 61)) = v3 at *
          refine step_at (i := 5) rfl (by kernel_rfl) (by rfl) (fun K hK => ?_)
          refine wp_call (f := ?_) (args := ?_) ?_ ?_
          rotate_left 2
          · go_simp
            (try (first | with_reducible rfl | (apply And.intro <;> rfl)))
          refine (HTY.out v3).mono ?_
          rintro e_ v4 ⟨rfl, hn⟩
          refine ⟨_, rfl, hK.out _ _ (hHeld.and hn (by simp)) (fun hHeld => ?_)⟩
          clear hK K
          simp only [Act.put, List.setIfInBounds_toArray, List.set_cons_zero, List.set_cons_succ]
          have HG6 := Lib.hid (HG6.out.keep hn (by simp))
          have HX6 : Hid (g6 < v4.heap.size) := Lib.hid (Nat.lt_of_lt_of_le HX6.out hn.size)
          have HG7 := Lib.hid (HG7.out.keep hn (by simp))
          have HX7 : Hid (g7 < v4.heap.size) := Lib.hid (Nat.lt_of_lt_of_le HX7.out hn.size)
          clear hn
          refine step_at (i := 8) rfl (by kernel_rfl) (by rfl) (fun K hK => ?_)
          refine wp_store_blk 61 _ _ rfl g6 E.toArray rfl rfl 61 mz00 HG6.out HES.out HEM.out HEO.out ?_
          intro wy hby hfy
          refine hK.out _ _ (hHeld.go hfy (by have := HW6.out; simpa using this)) (fun hHeld => ?_)
          clear hK K
          simp only [Act.put, List.setIfInBounds_toArray, List.set_cons_zero, List.set_cons_succ]
          have HG7 := Lib.hid (HG7.out.keep hfy (by have := HN.out; simp; exact fun h => this h.symm))
          refine step_at (i := 9) rfl (by kernel_rfl) (by rfl) (fun K hK => ?_)
          refine wp_store_blk 61 _ _ rfl g7 G.toArray rfl rfl 61 mz00 HG7.out HGS.out HGM.out HGO.out ?_
          intro wz hbz hfz
          refine hK.out _ _ (hHeld.go hfz (by have := HW7.out; simpa using this)) (fun hHeld => ?_)
          clear hK K
          simp only [Act.put, List.setIfInBounds_toArray, List.set_cons_zero, List.set_cons_succ]
          refine wpAnyH_done (by kernel_rfl) ?_ _
          go_wp2_with fail
          go_meet
          exact ⟨g6, g7, rfl, rfl, hby.keep hfz (by have := HN.out; simpa using this), hbz, hHeld⟩
      · skip
        refine wp_run (v := ?_) (w' := ?_) ?_ ?_
        rotate_left 2
        · go_simp
          (try (first | with_reducible rfl | (apply And.intro <;> rfl)))
        have HS7 : Hid (wa.heap.size ≤ v1.heap.size) := Lib.hid hHeld.size
        refine hK.out _ (v1.alloc (Obj.cells mz00 61)) (hHeld.alloc _) (fun hHeld => ?_)
        clear hK K
        simp only [Act.put, List.setIfInBounds_toArray, List.set_cons_zero, List.set_cons_succ]
        obtain ⟨g7, hg7⟩ : ∃ g, g = v1.heap.size := ⟨_, rfl⟩
        have HG7 : Hid (Blk (v1.alloc (Obj.cells mz00 61)) g7 61 mz00) := Lib.hid (by rw [hg7]; exact Blk.new _ _ _)
        have HW7 : Hid (wa.heap.size ≤ g7) := Lib.hid (by rw [hg7]; exact HS7.out)
        have HX7 : Hid (g7 < (v1.alloc (Obj.cells mz00 61)).heap.size) := Lib.hid (by rw [hg7]; simp)
        have HN : Hid (g6 ≠ g7) := Lib.hid (by have := HX6.out; omega)
        have HG6 := Lib.hid (HG6.out.keep ((Fr.refl [] v1).alloc (Obj.cells mz00 61)) (by simp))
        have HX6 : Hid (g6 < (v1.alloc (Obj.cells mz00 61)).heap.size) := Lib.hid (Nat.lt_of_lt_of_le HX6.out ((Fr.refl [] v1).alloc (Obj.cells mz00 61)).size)
        rw [← hg7]
        clear hg7
        generalize (v1.alloc (Obj.cells mz00 61)) = v2 at *
        refine step_at (i := 2) rfl (by kernel_rfl) (by rfl) (fun K hK => ?_)
        refine wp_call (f := ?_) (args := ?_) ?_ ?_
        rotate_left 2
        · go_simp
          (try (first | with_reducible rfl | (apply And.intro <;> rfl)))
        refine (HTX.out v2).mono ?_
        rintro e_ v3 ⟨rfl, hn⟩
        refine ⟨_, rfl, hK.out _ _ (hHeld.and hn (by simp)) (fun hHeld => ?_)⟩
        clear hK K
        simp only [Act.put, List.setIfInBounds_toArray, List.set_cons_zero, List.set_cons_succ]
        have HG6 := Lib.hid (HG6.out.keep hn (by simp))
        have HX6 : Hid (g6 < v3.heap.size) := Lib.hid (Nat.lt_of_lt_of_le HX6.out hn.size)
        have HG7 := Lib.hid (HG7.out.keep hn (by simp))
        have HX7 : Hid (g7 < v3.heap.size) := Lib.hid (Nat.lt_of_lt_of_le HX7.out hn.size)
        clear hn
        refine step_at (i := 5) rfl (by kernel_rfl) (by rfl) (fun K hK => ?_)
        refine wp_call (f := ?_) (args := ?_) ?_ ?_
        rotate_left 2
        · go_simp
          (try (first | with_reducible rfl | (apply And.intro <;> rfl)))
        refine (HTY.out v3).mono ?_
        rintro e_ v4 ⟨rfl, hn⟩
        refine ⟨_, rfl, hK.out _ _ (hHeld.and hn (by simp)) (fun hHeld => ?_)⟩
        clear hK K
        simp only [Act.put, List.setIfInBounds_toArray, List.set_cons_zero, List.set_cons_succ]
        have HG6 := Lib.hid (HG6.out.keep hn (by simp))
        have HX6 : Hid (g6 < v4.heap.size) := Lib.hid (Nat.lt_of_lt_of_le HX6.out hn.size)
        have HG7 := Lib.hid (HG7.out.keep hn (by simp))
        have HX7 : Hid (g7 < v4.heap.size) := Lib.hid (Nat.lt_of_lt_of_le HX7.out hn.size)
        clear hn
        refine step_at (i := 8) rfl (by kernel_rfl) (by rfl) (fun K hK => ?_)
        refine wp_store_blk 61 _ _ rfl g6 E.toArray rfl rfl 61 mz00 HG6.out HES.out HEM.out HEO.out ?_
        intro wy hby hfy
        refine hK.out _ _ (hHeld.go hfy (by have := HW6.out; simpa using this)) (fun hHeld => ?_)
        clear hK K
        simp only [Act.put, List.setIfInBounds_toArray, List.set_cons_zero, List.set_cons_succ]
        have HG7 := Lib.hid (HG7.out.keep hfy (by have := HN.out; simp; exact fun h => this h.symm))
        refine step_at (i := 9) rfl (by kernel_rfl) (by rfl) (fun K hK => ?_)
        refine wp_store_blk 61 _ _ rfl g7 G.toArray rfl rfl 61 mz00 HG7.out HGS.out HGM.out HGO.out ?_
        intro wz hbz hfz
        refine hK.out _ _ (hHeld.go hfz (by have := HW7.out; simpa using this)) (fun hHeld => ?_)
        clear hK K
        simp only [Act.put, List.setIfInBounds_toArray, List.set_cons_zero, List.set_cons_succ]
        refine wpAnyH_done (by kernel_rfl) ?_ _
        go_wp2_with fail
        go_meet
        exact ⟨g6, g7, rfl, rfl, hby.keep hfz (by have := HN.out; simpa using this), hbz, hHeld⟩
    · skip
      refine wp_run (v := ?_) (w' := ?_) ?_ ?_
      rotate_left 2
      · go_simp
        (try (first | with_reducible rfl | (apply And.intro <;> rfl)))
      have HS7 : Hid (wa.heap.size ≤ v0.heap.size) := Lib.hid hHeld.size
      refine hK.out _ (v0.alloc (Obj.cells mz00 61)) (hHeld.alloc _) (fun hHeld => ?_)
      clear hK K
      simp only [Act.put, List.setIfInBounds_toArray, List.set_cons_zero, List.set_cons_succ]
      obtain ⟨g7, hg7⟩ : ∃ g, g = v0.heap.size := ⟨_, rfl⟩
      have HG7 : Hid (Blk (v0.alloc (Obj.cells mz00 61)) g7 61 mz00) := Lib.hid (by rw [hg7]; exact Blk.new _ _ _)
      have HW7 : Hid (wa.heap.size ≤ g7) := Lib.hid (by rw [hg7]; exact HS7.out)
      have HX7 : Hid (g7 < (v0.alloc (Obj.cells mz00 61)).heap.size) := Lib.hid (by rw [hg7]; simp)
      rw [← hg7]
      clear hg7
      generalize (v0.alloc (Obj.cells mz00 61)) = v1 at *
      refine two_at (i := 2) (j := 6) rfl rfl (by kernel_rfl) (by rfl) (by rfl) (fun K hK => ?_) (fun K hK => ?_)
      · skip
        refine wp_call (f := ?_) (args := ?_) ?_ ?_
        rotate_left 2
        · go_simp
          (try (first | with_reducible rfl | (apply And.intro <;> rfl)))
        refine (HTX.out v1).mono ?_
        rintro e_ v2 ⟨rfl, hn⟩
        refine ⟨_, rfl, hK.out _ _ (hHeld.and hn (by simp)) (fun hHeld => ?_)⟩
        clear hK K
        simp only [Act.put, List.setIfInBounds_toArray, List.set_cons_zero, List.set_cons_succ]
        have HG7 := Lib.hid (HG7.out.keep hn (by simp))
        have HX7 : Hid (g7 < v2.heap.size) := Lib.hid (Nat.lt_of_lt_of_le HX7.out hn.size)
        clear hn
        refine two_at (i := 5) (j := 6) rfl rfl (by kernel_rfl) (by rfl) (by rfl) (fun K hK => ?_) (fun K hK => ?_)
        · skip
          refine wp_call (f := ?_) (args := ?_) ?_ ?_
          rotate_left 2
          · go_simp
            (try (first | with_reducible rfl | (apply And.intro <;> rfl)))
          refine (HTY.out v2).mono ?_
          rintro e_ v3 ⟨rfl, hn⟩
          refine ⟨_, rfl, hK.out _ _ (hHeld.and hn (by simp)) (fun hHeld => ?_)⟩
          clear hK K
          simp only [Act.put, List.setIfInBounds_toArray, List.set_cons_zero, List.set_cons_succ]
          have HG7 := Lib.hid (HG7.out.keep hn (by simp))
          have HX7 : Hid (g7 < v3.heap.size) := Lib.hid (Nat.lt_of_lt_of_le HX7.out hn.size)
          clear hn
          refine step_at (i := 6) rfl (by kernel_rfl) (by rfl) (fun K hK => ?_)
          refine wp_run (v := ?_) (w' := ?_) ?_ ?_
          rotate_left 2
          · go_simp
            (try (first | with_reducible rfl | (apply And.intro <;> rfl)))
          have HS6 : Hid (wa.heap.size ≤ v3.heap.size) := Lib.hid hHeld.size
          refine hK.out _ (v3.alloc (Obj.cells mz00 61)) (hHeld.alloc _) (fun hHeld => ?_)
          clear hK K
          simp only [Act.put, List.setIfInBounds_toArray, List.set_cons_zero, List.set_cons_succ]
          obtain ⟨g6, hg6⟩ : ∃ g, g = v3.heap.size := ⟨_, rfl⟩
          have HG6 : Hid (Blk (v3.alloc (Obj.cells mz00 61)) g6 61 mz00) := Lib.hid (by rw [hg6]; exact Blk.new _ _ _)
          have HW6 : Hid (wa.heap.size ≤ g6) := Lib.hid (by rw [hg6]; exact HS6.out)
          have HX6 : Hid (g6 < (v3.alloc (Obj.cells mz00 61)).heap.size) := Lib.hid (by rw [hg6]; simp)
          have HN : Hid (g6 ≠ g7) := Lib.hid (by have := HX7.out; omega)
          have HG7 := Lib.hid (HG7.out.keep ((Fr.refl [] v3).alloc (Obj.cells mz00 61)) (by simp))
          have HX7 : Hid (g7 < (v3.alloc (Obj.cells mz00 61)).heap.size) := Lib.hid (Nat.lt_of_lt_of_le HX7.out ((Fr.refl [] v3).alloc (Obj.cells mz00 61)).size)
          rw [← hg6]
          clear hg6
          generalize (v3.alloc (Obj.cells mz00 61)) = v4 at *
          refine step_at (i := 8) rfl (by kernel_rfl) (by rfl) (fun K hK => ?_)
          refine wp_store_blk 61 _ _ rfl g6 E.toArray rfl rfl 61 mz00 HG6.out HES.out HEM.out HEO.out ?_
          intro wy hby hfy
          refine hK.out _ _ (hHeld.go hfy (by have := HW6.out; simpa using this)) (fun hHeld => ?_)
          clear hK K
          simp only [Act.put, List.setIfInBounds_toArray, List.set_cons_zero, List.set_cons_succ]
          have HG7 := Lib.hid (HG7.out.keep hfy (by have := HN.out; simp; exact fun h => this h.symm))
          refine step_at (i := 9) rfl (by kernel_rfl) (by rfl) (fun K hK => ?_)
          refine wp_store_blk 61 _ _ rfl g7 G.toArray rfl rfl 61 mz00 HG7.out HGS.out HGM.out HGO.out ?_
          intro wz hbz hfz
          refine hK.out _ _ (hHeld.go hfz (by have := HW7.out; simpa using this)) (fun hHeld => ?_)
          clear hK K
          simp only [Act.put, List.setIfInBounds_toArray, List.set_cons_zero, List.set_cons_succ]
          refine wpAnyH_done (by kernel_rfl) ?_ _
          go_wp2_with fail
          go_meet
          exact ⟨g6, g7, rfl, rfl, hby.keep hfz (by have := HN.out; simpa using this), hbz, hHeld⟩
        · skip
          refine wp_run (v := ?_) (w' := ?_) ?_ ?_
          rotate_left 2
          · go_simp
            (try (first | with_reducible rfl | (apply And.intro <;> rfl)))
          have HS6 : Hid (wa.heap.size ≤ v2.heap.size) := Lib.hid hHeld.size
          refine hK.out _ (v2.alloc (Obj.cells mz00 61)) (hHeld.alloc _) (fun hHeld => ?_)
          clear hK K
          simp only [Act.put, List.setIfInBounds_toArray, List.set_cons_zero, List.set_cons_succ]
          obtain ⟨g6, hg6⟩ : ∃ g, g = v2.heap.size := ⟨_, rfl⟩
          have HG6 : Hid (Blk (v2.alloc (Obj.cells mz00 61)) g6 61 mz00) := Lib.hid (by rw [hg6]; exact Blk.new _ _ _)
          have HW6 : Hid (wa.heap.size ≤ g6) := Lib.hid (by rw [hg6]; exact HS6.out)
          have HX6 : Hid (g6 < (v2.alloc (Obj.cells mz00 61)).heap.size) := Lib.hid (by rw [hg6]; simp)
          have HN : Hid (g6 ≠ g7) := Lib.hid (by have := HX7.out; omega)
          have HG7 := Lib.hid (HG7.out.keep ((Fr.refl [] v2).alloc (Obj.cells mz00 61)) (by simp))
          have HX7 : Hid (g7 < (v2.alloc (Obj.cells mz00 61)).heap.size) := Lib.hid (Nat.lt_of_lt_of_le HX7.out ((Fr.refl [] v2).alloc (Obj.cells mz00 61)).size)
          rw [← hg6]
          clear hg6
          generalize (v2.alloc (Obj.cells mz00 61)) = v3 at *
          refine step_at (i := 5) rfl (by kernel_rfl) (by rfl) (fun K hK => ?_)
          refine wp_call (f := ?_) (args := ?_) ?_ ?_
          rotate_left 2
          · go_simp
            (try (first | with_reducible rfl | (apply And.intro <;> rfl)))
          refine (HTY.out v3).mono ?_
          rintro e_ v4 ⟨rfl, hn⟩
          refine ⟨_, rfl, hK.out _ _ (hHeld.and hn (by simp)) (fun hHeld => ?_)⟩
          clear hK K
          simp only [Act.put, List.setIfInBounds_toArray, List.set_cons_zero, List.set_cons_succ]
          have HG6 := Lib.hid (HG6.out.keep hn (by simp))
          have HX6 : Hid (g6 < v4.heap.size) := Lib.hid (Nat.lt_of_lt_of_le HX6.out hn.size)
          have HG7 := Lib.hid (HG7.out.keep hn (by simp))
          have HX7 : Hid (g7 < v4.heap.size) := Lib.hid (Nat.lt_of_lt_of_le HX7.out hn.size)
          clear hn
          refine step_at (i := 8) rfl (by kernel_rfl) (by rfl) (fun K hK => ?_)
          refine wp_store_blk 61 _ _ rfl g6 E.toArray rfl rfl 61 mz00 HG6.out HES.out HEM.out HEO.out ?_
          intro wy hby hfy
          refine hK.out _ _ (hHeld.go hfy (by have := HW6.out; simpa using this)) (fun hHeld => ?_)
          clear hK K
          simp only [Act.put, List.setIfInBounds_toArray, List.set_cons_zero, List.set_cons_succ]
          have HG7 := Lib.hid (HG7.out.keep hfy (by have := HN.out; simp; exact fun h => this h.symm))
          refine step_at (i := 9) rfl (by kernel_rfl) (by rfl) (fun K hK => ?_)
          refine wp_store_blk 61 _ _ rfl g7 G.toArray rfl rfl 61 mz00 HG7.out HGS.out HGM.out HGO.out ?_
          intro wz hbz hfz
          refine hK.out _ _ (hHeld.go hfz (by have := HW7.out; simpa using this)) (fun hHeld => ?_)
          clear hK K
          simp only [Act.put, List.setIfInBounds_toArray, List.set_cons_zero, List.set_cons_succ]
          refine wpAnyH_done (by kernel_rfl) ?_ _
          go_wp2_with fail
          go_meet
          exact ⟨g6, g7, rfl, rfl, hby.keep hfz (by have := HN.out; simpa using this), hbz, hHeld⟩
      · skip
        refine wp_run (v := ?_) (w' := ?_) ?_ ?_
        rotate_left 2
        · go_simp
          (try (first | with_reducible rfl | (apply And.intro <;> rfl)))
        have HS6 : Hid (wa.heap.size ≤ v1.heap.size) := Lib.hid hHeld.size
        refine hK.out _ (v1.alloc (Obj.cells mz00 61)) (hHeld.alloc _) (fun hHeld => ?_)
        clear hK K
        simp only [Act.put, List.setIfInBounds_toArray, List.set_cons_zero, List.set_cons_succ]
        obtain ⟨g6, hg6⟩ : ∃ g, g = v1.heap.size := ⟨_, rfl⟩
        have HG6 : Hid (Blk (v1.alloc (Obj.cells mz00 61)) g6 61 mz00) := Lib.hid (by rw [hg6]; exact Blk.new _ _ _)
        have HW6 : Hid (wa.heap.size ≤ g6) := Lib.hid (by rw [hg6]; exact HS6.out)
        have HX6 : Hid (g6 < (v1.alloc (Obj.cells mz00 61)).heap.size) := Lib.hid (by rw [hg6]; simp)
        have HN : Hid (g6 ≠ g7) := Lib.hid (by have := HX7.out; omega)
        have HG7 := Lib.hid (HG7.out.keep ((Fr.refl [] v1).alloc (Obj.cells mz00 61)) (by simp))
        have HX7 : Hid (g7 < (v1.alloc (Obj.cells mz00 61)).heap.size) := Lib.hid (Nat.lt_of_lt_of_le HX7.out ((Fr.refl [] v1).alloc (Obj.cells mz00 61)).size)
        rw [← hg6]
        clear hg6
        generalize (v1.alloc (Obj.cells mz00 61)) = v2 at *
        refine step_at (i := 2) rfl (by kernel_rfl) (by rfl) (fun K hK => ?_)
        refine wp_call (f := ?_) (args := ?_) ?_ ?_
        rotate_left 2
        · go_simp
          (try (first | with_reducible rfl | (apply And.intro <;> rfl)))
        refine (HTX.out v2).mono ?_
        rintro e_ v3 ⟨rfl, hn⟩
        refine ⟨_, rfl, hK.out _ _ (hHeld.and hn (by simp)) (fun hHeld => ?_)⟩
        clear hK K
        simp only [Act.put, List.setIfInBounds_toArray, List.set_cons_zero, List.set_cons_succ]
        have HG6 := Lib.hid (HG6.out.keep hn (by simp))
        have HX6 : Hid (g6 < v3.heap.size) := Lib.hid (Nat.lt_of_lt_of_le HX6.out hn.size)
        have HG7 := Lib.hid (HG7.out.keep hn (by simp))
        have HX7 : Hid (g7 < v3.heap.size) := Lib.hid (Nat.lt_of_lt_of_le HX7.out hn.size)
        clear hn
        refine step_at (i := 5) rfl (by kernel_rfl) (by rfl) (fun K hK => ?_)
        refine wp_call (f := ?_) (args := ?_) ?_ ?_
        rotate_left 2
        · go_simp
          (try (first | with_reducible rfl | (apply And.intro <;> rfl)))
        refine (HTY.out v3).mono ?_
        rintro e_ v4 ⟨rfl, hn⟩
        refine ⟨_, rfl, hK.out _ _ (hHeld.and hn (by simp)) (fun hHeld => ?_)⟩
        clear hK K
        simp only [Act.put, List.setIfInBounds_toArray, List.set_cons_zero, List.set_cons_succ]
        have HG6 := Lib.hid (HG6.out.keep hn (by simp))
        have HX6 : Hid (g6 < v4.heap.size) := Lib.hid (Nat.lt_of_lt_of_le HX6.out hn.size)
        have HG7 := Lib.hid (HG7.out.keep hn (by simp))
        have HX7 : Hid (g7 < v4.heap.size) := Lib.hid (Nat.lt_of_lt_of_le HX7.out hn.size)
        clear hn
        refine step_at (i := 8) rfl (by kernel_rfl) (by rfl) (fun K hK => ?_)
        refine wp_store_blk 61 _ _ rfl g6 E.toArray rfl rfl 61 mz00 HG6.out HES.out HEM.out HEO.out ?_
        intro wy hby hfy
        refine hK.out _ _ (hHeld.go hfy (by have := HW6.out; simpa using this)) (fun hHeld => ?_)
        clear hK K
        simp only [Act.put, List.setIfInBounds_toArray, List.set_cons_zero, List.set_cons_succ]
        have HG7 := Lib.hid (HG7.out.keep hfy (by have := HN.out; simp; exact fun h => this h.symm))
        refine step_at (i := 9) rfl (by kernel_rfl) (by rfl) (fun K hK => ?_)
        refine wp_store_blk 61 _ _ rfl g7 G.toArray rfl rfl 61 mz00 HG7.out HGS.out HGM.out HGO.out ?_
        intro wz hbz hfz
        refine hK.out _ _ (hHeld.go hfz (by have := HW7.out; simpa using this)) (fun hHeld => ?_)
        clear hK K
        simp only [Act.put, List.setIfInBounds_toArray, List.set_cons_zero, List.set_cons_succ]
        refine wpAnyH_done (by kernel_rfl) ?_ _
        go_wp2_with fail
        go_meet
        exact ⟨g6, g7, rfl, rfl, hby.keep hfz (by have := HN.out; simpa using this), hbz, hHeld⟩
  case rest =>
    obtain ⟨g6, g7, rfl, rfl, hb6, hb7, hfz⟩ := hcut
    have HF1 : Hid (Fr [] w wc) := Lib.hid (HF0.out.and hfz (by simp))
    have HB6 := Lib.hid hb6
    have HB7 := Lib.hid hb7
    have HR6 : Hid (wc.rangeAt g6 0 E) := Lib.hid hb6.range
    have HRC := Lib.hid (hfz.range HRC.out (by simp))
    clear hb6 hb7 hfz HRD HTX HTY
    go_wp2_with (refine wpList_load_mid rfl 61 _ rfl g6 0 rfl E _ HR6.out Try.underlying61 rfl (row_msg.of HEL.out).2 ?_)
    refine (mpack_any (tn k x) wc (tn_ok _ _ _ _) E HE.out).mono ?_
    intro e_ w1 hp
    have hqq : ∀ (j : Int) (a : Wmg), 1 ≤ (tn j a).q ∧ (tn j a).q ≤ 14 := fun j a => by rw [tn_q]; split <;> (try decide); split <;> (try decide); split <;> decide
    have HQQ := Lib.hid hqq
    unfold PackPost at hp
    rw [if_pos (hqq k x)] at hp
    clear hqq
    obtain ⟨A1, c1, rfl, hn1⟩ := hp
    have HN1 := Lib.hid hn1
    have HP : Hid ((tn k x).bytes.length ≤ 15030) := Lib.hid (Wmg.bytes_len (tn_ok k x wc []))
    obtain ⟨P, hP⟩ : ∃ P, (tn k x).bytes = P := ⟨_, rfl⟩
    rw [hP] at HN1 HP ⊢
    have HPE := Lib.hid hP
    have HR7 : Hid (w1.rangeAt g7 0 G) := Lib.hid ((HB7.out.keep hn1.2.1 (by simp)).range)
    clear hn1 hP
    go_wp2_with (refine wpList_load_mid rfl 61 _ rfl g7 0 rfl G _ HR7.out Try.underlying61 rfl (row_msg.of HGL.out).2 ?_)
    refine (mpack_any (tn k y) w1 (tn_ok _ _ _ _) G HG.out).mono ?_
    intro e_ w2 hp
    unfold PackPost at hp
    rw [if_pos (HQQ.out k y)] at hp
    obtain ⟨A2, c2, rfl, hn2⟩ := hp
    have HN2 := Lib.hid hn2
    obtain ⟨Q, hQ⟩ : ∃ Q, (tn k y).bytes = Q := ⟨_, rfl⟩
    rw [hQ] at HN2 ⊢
    have HQE := Lib.hid hQ
    have HF2 : Hid (Fr [] wc w2) := Lib.hid (HN1.out.2.1.and hn2.2.1 (by simp))
    have HRC := Lib.hid (HF2.out.range HRC.out (by simp))
    clear hn2 hQ
    go_wp2_with (refine wpList_load_mid rfl 61 _ rfl w.heap.size 0 rfl C _ HRC.out Try.underlying61 rfl (row_msg.of HCL.out).2 ?_)
    refine (tiny_any x HX.out other ho1 ho2 C HC.out w2).mono ?_
    rintro e_ w3 ⟨rfl, hf3⟩
    rw [← HKE'.out]
    have HF3 := Lib.hid hf3
    clear hf3
    obtain ⟨R0, hR0⟩ : ∃ R0, (tn k' x).cells = R0 := ⟨_, rfl⟩
    rw [hR0]
    go_wp2_with fail
    refine (mpack_any (tn k' x) w3 (tn_ok _ _ _ _) R0 hR0).mono ?_
    intro e_ w4 hp
    unfold PackPost at hp
    rw [if_pos (HQQ.out k' x)] at hp
    obtain ⟨A4, c4, rfl, hn4⟩ := hp
    have HN4 := Lib.hid hn4
    obtain ⟨R, hR⟩ : ∃ R, (tn k' x).bytes = R := ⟨_, rfl⟩
    rw [hR] at HN4 ⊢
    have HRE := Lib.hid hR
    have HF4 : Hid (Fr [] w2 w4) := Lib.hid (HF3.out.and hn4.2.1 (by simp))
    have HR6 : Hid (w4.rangeAt g6 0 E) := Lib.hid ((HB6.out.keep (HF2.out.and HF4.out (by simp)) (by simp)).range)
    have HR7 : Hid (w4.rangeAt g7 0 G) := Lib.hid ((HB7.out.keep (HF2.out.and HF4.out (by simp)) (by simp)).range)
    clear hn4 hR hR0
    go_wp2_with (first
      | (refine wpList_load_mid rfl 61 _ rfl g6 0 rfl E _ HR6.out Try.underlying61 rfl (row_msg.of HEL.out).2 ?_)
      | (refine wpList_load_mid rfl 61 _ rfl g7 0 rfl G _ HR7.out Try.underlying61 rfl (row_msg.of HGL.out).2 ?_))
    refine (ktn_any k x y w4 E G HE.out HG.out).mono ?_
    rintro e_ w5 ⟨rfl, hf5⟩
    rw [HPE.out, HQE.out]
    have HF5 := Lib.hid hf5
    clear hf5
    go_wp2_with fail
    refine (within_pos kind 4 hk1 hk2 (by omega) (by omega) _).mono ?_
    rintro e_ w_ ⟨rfl, rfl⟩
    rw [← HKE.out]
    go_wp2_with fail
    refine (within_pos other 4 ho1 ho2 (by omega) (by omega) _).mono ?_
    rintro e_ w_ ⟨rfl, rfl⟩
    rw [← HKE'.out]
    clear hk1 hk2 ho1 ho2
    go_wp2_with fail
    have HF45 : Hid (Fr [] w4 w5) := HF5
    refine (same_any A1 A2 _ _ c1 c2 P Q w5 (HN1.out.by.keep (HN2.out.2.1.and (HF4.out.and HF5.out (by simp)) (by simp)) (by simp)) (HN2.out.by.keep (HF4.out.and HF5.out (by simp)) (by simp)) (by have := HP.out; omega)).mono ?_
    rintro e_ w6 ⟨rfl, k6, hw6⟩
    have HF6 : Hid (Fr [] w5 w6) := Lib.hid (by rw [hw6]; exact (Fr.refl [] w5).drewN _)
    clear hw6
    obtain ⟨bb, hbb⟩ : ∃ bb, bb = decide (P = Q) := ⟨_, rfl⟩
    rw [← hbb]
    clear hbb
    have hbb : (bb == bb) = true := by simp
    have hfin : Fr [] w w6 := ((HF1.out.and HF2.out (by simp)).and (HF4.out.and HF5.out (by simp)) (by simp)).and HF6.out (by simp)
    have HFIN := Lib.hid hfin
    clear hfin
    by_cases hkk : k = k'
    · have hne : (k != k') = false := by simp [hkk]
      clear hkk
      go_wp2_with fail
      refine (mwakes_any _).mono ?_
      rintro e_ w8 ⟨rfl, hf8⟩
      have HF8 := Lib.hid hf8
      clear hf8
      go_wp2_with fail
      go_ret
      exact ⟨rfl, HFIN.out.and HF8.out (by simp)⟩
    · have hne : (k != k') = true := by simp [hkk]
      have HPR : Hid (¬ P = R) := Lib.hid (by rw [← HPE.out, ← HRE.out]; exact tn_unlike k k' HK.out HK'.out hkk x x)
      clear hkk
      go_wp2_with fail
      refine (same_any A1 A4 _ _ c1 c4 P R w6 (HN1.out.by.keep ((HN2.out.2.1.and (HF4.out.and HF5.out (by simp)) (by simp)).and HF6.out (by simp)) (by simp)) (HN4.out.by.keep (HF5.out.and HF6.out (by simp)) (by simp)) (by have := HP.out; omega)).mono ?_
      rintro e_ w7 ⟨rfl, k7, hw7⟩
      have HF7 : Hid (Fr [] w6 w7) := Lib.hid (by rw [hw7]; exact (Fr.refl [] w6).drewN _)
      rw [decide_eq_false HPR.out]
      clear hw7
      go_wp2_with fail
      refine (mwakes_any _).mono ?_
      rintro e_ w8 ⟨rfl, hf8⟩
      have HF8 := Lib.hid hf8
      clear hf8
      go_wp2_with fail
      go_ret
      exact ⟨rfl, (HFIN.out.and HF7.out (by simp)).and HF8.out (by simp)⟩
end Go.Proofs.Ytnpjihdhpoddgaa
