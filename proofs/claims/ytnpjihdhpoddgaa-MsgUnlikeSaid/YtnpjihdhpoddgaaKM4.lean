/- Texts that the proof stands on: gavellaw06.tiny: a message of small numbers. (written by gen_mtb.py) | '==' of two structs in a region that draws its order. | Equality of structs, field by field: names, signatures, stamps, votes, denials. | gavelkeep's Openings and Tombs of one list on both sides. (written by gen_slf.py) | Package commit: the document's example (wakes). | Package commit: an opening is built of its parts. | Package commit: a commitment is equal to itself. | gavelkeep's Cert, Promise, Batch of parts that say the same, wherever they lie. (written by gen_keq.py) | Equality of acks, entries, whatever they say. (written by gen_mq.py) | What is behind a false '&&': operations that are not met, picks and moves, all at once. -/
import Derived.Test.YtnpjihdhpoddgaaKM3
import Derived.Deep.CutBlock
import Derived.Test.YtnpjihdhpoddgaaReg
import Derived.Test.YtnpjihdhpoddgaaPut
import Derived.Test.YtnpjihdhpoddgaaRead
import Derived.Laws.StructEq
import Derived.Test.YtnpjihdhpoddgaaRegT
import Derived.Test.YtnpjihdhpoddgaaReg2
import Derived.Test.YtnpjihdhpoddgaaMem
set_option maxRecDepth 100000

namespace Go.Proofs.Ytnpjihdhpoddgaa
open Go.RowKit
set_option maxRecDepth 100000
theorem Wmg.at_len {w : World} {g : Nat} {x : Wmg} (hr : w.rangeAt g 0 x.cells) (hx : x.Len) : x.At w g := by
  unfold Wmg.cells at hr
  have t0 := ra_tail hr (k := 1) (rfl)
  have t1 := ra_tail t0 (k := 1) (rfl)
  have t2 := ra_tail t1 (k := 1) (rfl)
  have t3 := ra_tail t2 (k := 37) (Wcm.len hx.cm)
  have t4 := ra_tail t3 (k := 38) (Wst.len hx.st)
  have t5 := ra_tail t4 (k := 38) (Wce.len hx.ce)
  have t6 := ra_tail t5 (k := 38) (Wst.len hx.ak)
  have t7 := ra_tail t6 (k := 1) (rfl)
  have t8 := ra_tail t7 (k := 1) (rfl)
  have t9 := ra_tail t8 (k := 1) (rfl)
  have t10 := ra_tail t9 (k := 6) (Wpr.len x.pr)
  have t11 := ra_tail t10 (k := 11) (Wpo.len x.po)
  have t12 := ra_tail t11 (k := 38) (Wvt.len hx.vt)
  have t13 := ra_tail t12 (k := 1) (rfl)
  have t14 := ra_tail t13 (k := 35) (Wen.len hx.en)
  have t15 := ra_tail t14 (k := 34) (Wop.len hx.op)
  have t16 := ra_tail t15 (k := 4) (Wdn.len x.dn)
  have t17 := ra_tail t16 (k := 1) (rfl)
  exact ⟨ra_head hr, ra_head t0, ra_head t1, ra_head t2, ra_head t3, ra_head t4, ra_head t5, ra_head t6, ra_head t7, ra_head t8, ra_head t9, ra_head t10, ra_head t11, ra_head t12, ra_head t13, ra_head t14, ra_head t15, ra_head t16, t17⟩
theorem Wmg.blk_q {w : World} {g : Nat} {t : TypeId} {x : Wmg} (v : Int) (hb : Blk w g t x.cells.toArray) : Blk (w.setCells g 0 [.int .i64 v]) g t ({x with q := v} : Wmg).cells.toArray :=
  Blk.mid_at [.int .i64 v] [.int .i64 x.q] [] ([.int .i64 x.f] ++ ([.int .i64 x.t] ++ (x.cm.cells ++ (x.st.cells ++ (x.ce.cells ++ (x.ak.cells ++ ([.int .i64 x.e] ++ ([.int .i64 x.r] ++ ([.int .u64 (x.tm : Int)] ++ (x.pr.cells ++ (x.po.cells ++ (x.vt.cells ++ ([.int .i64 x.i] ++ (x.en.cells ++ (x.op.cells ++ (x.dn.cells ++ ([.string ⟨x.rp.toArray⟩] ++ (x.de.cells)))))))))))))))))) 0 rfl rfl _ _ (by simp only [Wmg.cells, List.append_assoc, List.append_nil, List.nil_append]) (by simp only [Wmg.cells, List.append_assoc, List.append_nil, List.nil_append]) hb
theorem built_mg12 (f t : Int) : Try.prog.built 61 [(1, .int .i64 f), (2, .int .i64 t)] = some (mz 0 f t).cells.toArray := by kernel_rfl
theorem built_tv (r p : Int) : Try.prog.built 49 [(0, .int .i64 1), (2, .int .i64 r), (3, .int .i64 p)] = some (Wvt.cells ⟨1, 0, r, p, mh0, 0, 0⟩).toArray := by kernel_rfl
theorem built_tn (s : Int) : Try.prog.built 23 [(1, .int .i64 s)] = some #[.int .i64 0, .int .i64 s] := by kernel_rfl
theorem built_te (s : Int) (t : Nat) : Try.prog.built 51 [(0, .agg #[.int .i64 0, .int .i64 s]), (2, .int .u64 (t : Int))] = some (Wen.cells ⟨0, s, mh0, t⟩).toArray := by kernel_rfl
/-- what tiny asks of its argument -/
structure Wmg.Tin (a : Wmg) : Prop where
  len : a.Len
  f : i64In a.f
  t : i64In a.t
  e : i64In a.e
  r : i64In a.r
  i : i64In a.i
  vr : i64In a.vt.r
  vp : i64In a.vt.p
  es : i64In a.en.s
def mz00 : Array Value := (mz 0 0 0).cells.toArray
set_option maxHeartbeats 4000000 in
theorem tiny_any (a : Wmg) (ha : a.Tin) (kind : Int) (hk1 : -9223372036854775808 ≤ kind) (hk2 : kind < 9223372036854775808) (C : List Value) (hC : a.cells = C) (w : World) :
    Calls Try.prog 4 #[.agg C.toArray, .int .i64 kind] w fun e w' => e = .returned (.agg (tn (kind % 4) a).cells.toArray) ∧ Fr [] w w' := by
  obtain ⟨wa, hwa⟩ : ∃ wa, wa = (w.alloc (Obj.cells C.toArray 61)).alloc (Obj.cells mz00 61) := ⟨_, rfl⟩
  have hf0 : Fr [] w wa := by rw [hwa]; exact ((Fr.refl [] w).alloc _).alloc _
  have hb0 : Blk wa w.heap.size 61 a.cells.toArray := by rw [hwa, hC]; exact blk_alloc (Blk.new _ _ _)
  have hb1 : Blk wa (w.heap.size + 1) 61 mz00 := by
    have := Blk.new (w.alloc (Obj.cells C.toArray 61)) 61 mz00
    rw [hwa]
    simpa using this
  have hsz : wa.heap.size = w.heap.size + 2 := by rw [hwa]; simp
  have hat : a.At wa w.heap.size := Wmg.at_len hb0.range ha.len
  have HCf : Hid (wa.cell? ⟨w.heap.size, 0 + 1, none⟩ = some (.int .i64 a.f)) := Lib.hid (by have h := hat.f 0 _ rfl; simpa using h)
  have HCt : Hid (wa.cell? ⟨w.heap.size, 0 + 2, none⟩ = some (.int .i64 a.t)) := Lib.hid (by have h := hat.t 0 _ rfl; simpa using h)
  have HCe : Hid (wa.cell? ⟨w.heap.size, 0 + 154, none⟩ = some (.int .i64 a.e)) := Lib.hid (by have h := hat.e 0 _ rfl; simpa using h)
  have HCr : Hid (wa.cell? ⟨w.heap.size, 0 + 155, none⟩ = some (.int .i64 a.r)) := Lib.hid (by have h := hat.r 0 _ rfl; simpa using h)
  have HCm : Hid (wa.cell? ⟨w.heap.size, 0 + 156, none⟩ = some (.int .u64 (a.tm : Int))) := Lib.hid (by have h := hat.tm 0 _ rfl; simpa using h)
  have HCi : Hid (wa.cell? ⟨w.heap.size, 0 + 212, none⟩ = some (.int .i64 a.i)) := Lib.hid (by have h := hat.i 0 _ rfl; simpa using h)
  have HCvr : Hid (wa.cell? ⟨w.heap.size, 0 + 174 + 2, none⟩ = some (.int .i64 a.vt.r)) := Lib.hid (by have h := hat.vt 2 _ rfl; simpa using h)
  have HCvp : Hid (wa.cell? ⟨w.heap.size, 0 + 174 + 3, none⟩ = some (.int .i64 a.vt.p)) := Lib.hid (by have h := hat.vt 3 _ rfl; simpa using h)
  have HCes : Hid (wa.cell? ⟨w.heap.size, 0 + 213 + 0 + 1, none⟩ = some (.int .i64 a.en.s)) := Lib.hid (by have h := hat.en 1 _ rfl; simpa using h)
  have HCet : Hid (wa.cell? ⟨w.heap.size, 0 + 213 + 34, none⟩ = some (.int .u64 (a.en.t : Int))) := Lib.hid (by have h := hat.en 34 _ (post_cell [.int .i64 a.en.c, .int .i64 a.en.s] (a.en.h.map by8) [.int .u64 (a.en.t : Int)] (by rw [List.length_map]; exact ha.len.en) 0 rfl); simpa using h)
  have HF0 := Lib.hid hf0
  have HB1 := Lib.hid hb1
  have HWA := Lib.hid hwa
  have HA := Lib.hid ha
  have HSZ := Lib.hid hsz
  have HSI : Hid ((Try.prog.info? 3).map (·.size) = some 1) := Lib.hid (by kernel_rfl)
  have HSU : Hid ((Try.prog.info? 30).map (·.size) = some 1) := Lib.hid (by kernel_rfl)
  have HLT : Hid (∀ y : Wmg, y.Len → ∀ k < 295, k < y.cells.toArray.size) := Lib.hid (fun y hy k hk => by rw [List.size_toArray, Wmg.lenz hy]; exact hk)
  obtain ⟨k, hk⟩ : ∃ k, k = kind % 4 := ⟨_, rfl⟩
  have HK : Hid (0 ≤ k ∧ k < 4) := Lib.hid (by omega)
  obtain ⟨f, hf⟩ : ∃ f, f = a.f % 3 := ⟨_, rfl⟩
  obtain ⟨t, ht⟩ : ∃ t, t = a.t % 3 := ⟨_, rfl⟩
  have HTN : Hid (tn k a = if k = 0 then tn0 f t (a.e % 3) (a.r % 3) (a.tm % 3) else if k = 1 then tn1 f t (a.i % 3) else if k = 2 then tn2 f t (a.i % 3) (a.en.s % 3) (a.en.t % 3) else tn3 f t (a.vt.r % 3) (a.vt.p % 3)) := Lib.hid (by rw [hf, ht]; rfl)
  obtain ⟨Z, hZ⟩ : ∃ Z, Z = (mz 0 f t).cells := ⟨_, rfl⟩
  have HBU : Hid (Try.prog.built 61 [(1, .int .i64 f), (2, .int .i64 t)] = some Z.toArray) := Lib.hid (by rw [hZ]; exact built_mg12 _ _)
  have HZL : Hid ((Try.prog.info? 61).map (·.size) = some Z.toArray.size) := Lib.hid (by rw [hZ]; exact msg_size (mz_len _ _ _))
  have HZM : Hid (mz00.size = Z.toArray.size) := Lib.hid (by rw [hZ]; unfold mz00; rw [List.size_toArray, List.size_toArray, Wmg.lenz (mz_len _ _ _), Wmg.lenz (mz_len _ _ _)])
  have HZO : Hid (Z.toArray.all (·.oneCell') = true) := Lib.hid (by rw [hZ]; exact all_oneCell_toArray (Wmg.one _))
  have HZ := Lib.hid hZ
  rw [← hk]
  clear hwa hf0 hb0 hb1 hat ha hC hsz hZ
  go_enter Try.func4, Try.ntmps4
  go_upto_region 1 with (fail)
  change Code.wp _ _ _ _ ((w.alloc (Obj.cells C.toArray 61)).alloc (Obj.cells mz00 61))
  rw [← HWA.out]
  go_cut [5] (fun s5 wx => s5 = .pointer (some ⟨w.heap.size + 2, 0, none⟩) ∧ Blk wx (w.heap.size + 2) 61 Z.toArray ∧ Fr [] wa wx)
  case first =>
    refine wp_region_held_drew (S := Fr [] wa) (by kernel_rfl) (Fr.drew (Fr.refl _ wa)) (fun hHeld => ?_)
    refine run_at (i := 0) (v := ?_) rfl (by kernel_rfl) (by rfl) (fun _ _ _ h => h) hHeld (fun w1 hw1 => ?_) ?_
    rotate_left 1
    · skip
      go_simp
      (try (first | with_reducible rfl | (apply And.intro <;> rfl)))
    simp only [Act.put, List.setIfInBounds_toArray, List.set_cons_zero, List.set_cons_succ]
    refine run_at (i := 1) (v := ?_) rfl (by kernel_rfl) (by rfl) (fun _ _ _ h => h) hHeld (fun w1 hw1 => ?_) ?_
    rotate_left 1
    · skip
      have hcw0 := hw1.cell (HCf.out) (by first | (simp; done) | exact HNS.out | exact HNW.out | (intro hm; have hlt := HSB.out _ hm; (try dsimp only at hlt); omega))
      go_simp
      (try (first | with_reducible rfl | (apply And.intro <;> rfl)))
    simp only [Act.put, List.setIfInBounds_toArray, List.set_cons_zero, List.set_cons_succ]
    refine run_at (i := 3) (v := ?_) rfl (by kernel_rfl) (by rfl) (fun _ _ _ h => h) hHeld (fun w1 hw1 => ?_) ?_
    rotate_left 1
    · skip
      go_simp
      (try (first | with_reducible rfl | (apply And.intro <;> rfl)))
    simp only [Act.put, List.setIfInBounds_toArray, List.set_cons_zero, List.set_cons_succ]
    refine run_at (i := 4) (v := ?_) rfl (by kernel_rfl) (by rfl) (fun _ _ _ h => h) hHeld (fun w1 hw1 => ?_) ?_
    rotate_left 1
    · skip
      have hcw0 := hw1.cell (HCt.out) (by first | (simp; done) | exact HNS.out | exact HNW.out | (intro hm; have hlt := HSB.out _ hm; (try dsimp only at hlt); omega))
      go_simp
      (try (first | with_reducible rfl | (apply And.intro <;> rfl)))
    simp only [Act.put, List.setIfInBounds_toArray, List.set_cons_zero, List.set_cons_succ]
    refine two_at (i := 2) (j := 7) rfl rfl (by kernel_rfl) (by rfl) (by rfl) (fun K hK => ?_) (fun K hK => ?_)
    · skip
      refine wp_call (f := ?_) (args := ?_) ?_ ?_
      rotate_left 2
      · go_simp
        (try (first | with_reducible rfl | (apply And.intro <;> rfl)))
      refine (within_pos a.f 3 HA.out.f.1 HA.out.f.2 (by omega) (by omega) _).mono ?_
      rintro e_ w_ ⟨rfl, rfl⟩
      refine ⟨_, rfl, ?_⟩
      refine hK.out _ _ hHeld (fun hHeld => ?_)
      clear hK K
      simp only [Act.put, List.setIfInBounds_toArray, List.set_cons_zero, List.set_cons_succ]
      refine two_at (i := 5) (j := 7) rfl rfl (by kernel_rfl) (by rfl) (by rfl) (fun K hK => ?_) (fun K hK => ?_)
      · skip
        refine wp_call (f := ?_) (args := ?_) ?_ ?_
        rotate_left 2
        · go_simp
          (try (first | with_reducible rfl | (apply And.intro <;> rfl)))
        refine (within_pos a.t 3 HA.out.t.1 HA.out.t.2 (by omega) (by omega) _).mono ?_
        rintro e_ w_ ⟨rfl, rfl⟩
        refine ⟨_, rfl, ?_⟩
        refine hK.out _ _ hHeld (fun hHeld => ?_)
        clear hK K
        simp only [Act.put, List.setIfInBounds_toArray, List.set_cons_zero, List.set_cons_succ]
        (try rw [← hf])
        (try rw [← ht])
        refine build_at (i := 6) rfl (by kernel_rfl) (by rfl) _ _ rfl _ _ (HBU.out) rfl (fun _ _ _ h => h) hHeld ?_
        simp only [Act.put, List.setIfInBounds_toArray, List.set_cons_zero, List.set_cons_succ]
        refine step_at (i := 7) rfl (by kernel_rfl) (by rfl) (fun K hK => ?_)
        refine wp_run (v := ?_) (w' := ?_) ?_ ?_
        rotate_left 2
        · go_simp
          (try (first | with_reducible rfl | (apply And.intro <;> rfl)))
        refine hK.out _ (wa.drew.alloc (Obj.cells mz00 61)) (hHeld.alloc _) (fun hHeld => ?_)
        clear hK K
        simp only [Act.put, List.setIfInBounds_toArray, List.set_cons_zero, List.set_cons_succ]
        have HGB : Hid (Blk (wa.drew.alloc (Obj.cells mz00 61)) (w.heap.size + 2) 61 mz00) := Lib.hid (by have h := Blk.new wa.drew 61 mz00; rw [show wa.drew.heap.size = w.heap.size + 2 from HSZ.out] at h; exact h)
        refine step_at (i := 8) rfl (by kernel_rfl) (by rfl) (fun K hK => ?_)
        refine wp_store_blk 61 _ _ rfl (w.heap.size + 2) Z.toArray (by go_simp; exact HSZ.out) rfl 61 mz00 HGB.out HZL.out HZM.out HZO.out ?_
        intro w6 hb6 hf6
        refine hK.out _ _ (hHeld.go hf6 (by have := HSZ.out; simp; omega)) (fun hHeld => ?_)
        clear hK K
        simp only [Act.put, List.setIfInBounds_toArray, List.set_cons_zero, List.set_cons_succ]
        refine wpAnyH_done (by kernel_rfl) ?_ _
        go_wp2_with fail
        go_meet
        exact ⟨by rw [HSZ.out], hb6, hHeld⟩
      · skip
        refine wp_run (v := ?_) (w' := ?_) ?_ ?_
        rotate_left 2
        · go_simp
          (try (first | with_reducible rfl | (apply And.intro <;> rfl)))
        refine hK.out _ (wa.drew.alloc (Obj.cells mz00 61)) (hHeld.alloc _) (fun hHeld => ?_)
        clear hK K
        simp only [Act.put, List.setIfInBounds_toArray, List.set_cons_zero, List.set_cons_succ]
        have HGB : Hid (Blk (wa.drew.alloc (Obj.cells mz00 61)) (w.heap.size + 2) 61 mz00) := Lib.hid (by have h := Blk.new wa.drew 61 mz00; rw [show wa.drew.heap.size = w.heap.size + 2 from HSZ.out] at h; exact h)
        refine call_at (i := 5) (f := ?_) (args := ?_) rfl (by kernel_rfl) (by rfl) ?_ ?_
        rotate_left 2
        · go_simp
          (try (first | with_reducible rfl | (apply And.intro <;> rfl)))
        refine (within_pos a.t 3 HA.out.t.1 HA.out.t.2 (by omega) (by omega) _).mono ?_
        rintro e_ w_ ⟨rfl, rfl⟩
        refine ⟨_, rfl, hHeld, fun hHeld => ?_⟩
        simp only [Act.put, List.setIfInBounds_toArray, List.set_cons_zero, List.set_cons_succ]
        (try rw [← hf])
        (try rw [← ht])
        refine build_at (i := 6) rfl (by kernel_rfl) (by rfl) _ _ rfl _ _ (HBU.out) rfl (fun _ _ _ h => h) hHeld ?_
        simp only [Act.put, List.setIfInBounds_toArray, List.set_cons_zero, List.set_cons_succ]
        refine step_at (i := 8) rfl (by kernel_rfl) (by rfl) (fun K hK => ?_)
        refine wp_store_blk 61 _ _ rfl (w.heap.size + 2) Z.toArray (by go_simp; exact HSZ.out) rfl 61 mz00 HGB.out HZL.out HZM.out HZO.out ?_
        intro w6 hb6 hf6
        refine hK.out _ _ (hHeld.go hf6 (by have := HSZ.out; simp; omega)) (fun hHeld => ?_)
        clear hK K
        simp only [Act.put, List.setIfInBounds_toArray, List.set_cons_zero, List.set_cons_succ]
        refine wpAnyH_done (by kernel_rfl) ?_ _
        go_wp2_with fail
        go_meet
        exact ⟨by rw [HSZ.out], hb6, hHeld⟩
    · skip
      refine wp_run (v := ?_) (w' := ?_) ?_ ?_
      rotate_left 2
      · go_simp
        (try (first | with_reducible rfl | (apply And.intro <;> rfl)))
      refine hK.out _ (wa.drew.alloc (Obj.cells mz00 61)) (hHeld.alloc _) (fun hHeld => ?_)
      clear hK K
      simp only [Act.put, List.setIfInBounds_toArray, List.set_cons_zero, List.set_cons_succ]
      have HGB : Hid (Blk (wa.drew.alloc (Obj.cells mz00 61)) (w.heap.size + 2) 61 mz00) := Lib.hid (by have h := Blk.new wa.drew 61 mz00; rw [show wa.drew.heap.size = w.heap.size + 2 from HSZ.out] at h; exact h)
      refine call_at (i := 2) (f := ?_) (args := ?_) rfl (by kernel_rfl) (by rfl) ?_ ?_
      rotate_left 2
      · go_simp
        (try (first | with_reducible rfl | (apply And.intro <;> rfl)))
      refine (within_pos a.f 3 HA.out.f.1 HA.out.f.2 (by omega) (by omega) _).mono ?_
      rintro e_ w_ ⟨rfl, rfl⟩
      refine ⟨_, rfl, hHeld, fun hHeld => ?_⟩
      simp only [Act.put, List.setIfInBounds_toArray, List.set_cons_zero, List.set_cons_succ]
      refine call_at (i := 5) (f := ?_) (args := ?_) rfl (by kernel_rfl) (by rfl) ?_ ?_
      rotate_left 2
      · go_simp
        (try (first | with_reducible rfl | (apply And.intro <;> rfl)))
      refine (within_pos a.t 3 HA.out.t.1 HA.out.t.2 (by omega) (by omega) _).mono ?_
      rintro e_ w_ ⟨rfl, rfl⟩
      refine ⟨_, rfl, hHeld, fun hHeld => ?_⟩
      simp only [Act.put, List.setIfInBounds_toArray, List.set_cons_zero, List.set_cons_succ]
      (try rw [← hf])
      (try rw [← ht])
      refine build_at (i := 6) rfl (by kernel_rfl) (by rfl) _ _ rfl _ _ (HBU.out) rfl (fun _ _ _ h => h) hHeld ?_
      simp only [Act.put, List.setIfInBounds_toArray, List.set_cons_zero, List.set_cons_succ]
      refine step_at (i := 8) rfl (by kernel_rfl) (by rfl) (fun K hK => ?_)
      refine wp_store_blk 61 _ _ rfl (w.heap.size + 2) Z.toArray (by go_simp; exact HSZ.out) rfl 61 mz00 HGB.out HZL.out HZM.out HZO.out ?_
      intro w6 hb6 hf6
      refine hK.out _ _ (hHeld.go hf6 (by have := HSZ.out; simp; omega)) (fun hHeld => ?_)
      clear hK K
      simp only [Act.put, List.setIfInBounds_toArray, List.set_cons_zero, List.set_cons_succ]
      refine wpAnyH_done (by kernel_rfl) ?_ _
      go_wp2_with fail
      go_meet
      exact ⟨by rw [HSZ.out], hb6, hHeld⟩
  case rest =>
    obtain ⟨rfl, hbz, hfz⟩ := hcut
    have HBZ := Lib.hid hbz
    have HFZ : Hid (Fr [] w wc) := Lib.hid (HF0.out.and hfz (by simp))
    have HCe := Lib.hid (hfz.cell HCe.out (by simp))
    have HCr := Lib.hid (hfz.cell HCr.out (by simp))
    have HCm := Lib.hid (hfz.cell HCm.out (by simp))
    have HCi := Lib.hid (hfz.cell HCi.out (by simp))
    have HCvr := Lib.hid (hfz.cell HCvr.out (by simp))
    have HCvp := Lib.hid (hfz.cell HCvp.out (by simp))
    have HCes := Lib.hid (hfz.cell HCes.out (by simp))
    have HCet := Lib.hid (hfz.cell HCet.out (by simp))
    have HB1 := Lib.hid (HB1.out.keep hfz (by simp))
    clear hbz hfz HF0 HBU HZL HZM HZO HCf HCt
    go_wp2_with fail
    refine (within_pos kind 4 hk1 hk2 (by omega) (by omega) _).mono ?_
    rintro e_ w_ ⟨rfl, rfl⟩
    rw [← hk]
    clear hk1 hk2 hk
    have HZ0 := Lib.hid (mz_len 0 f t)
    rw [HZ.out] at HBZ
    clear HZ
    by_cases h0 : k = 0
    · skip
      have HTK := Lib.hid HTN.out
      rw [if_pos h0] at HTK
      have hk0 : (k == 0) = true := by rw [h0]; rfl
      clear HTN h0
      go_upto_region 5 with (fail)
      refine wp_region_held_drew (S := Fr [w.heap.size + 2] wc) (by kernel_rfl) (Fr.drew (Fr.refl _ wc)) (fun hHeld => ?_)
      refine run_at (i := 0) (v := ?_) rfl (by kernel_rfl) (by rfl) (fun _ _ _ h => h) hHeld (fun w1 hw1 => ?_) ?_
      rotate_left 1
      · skip
        go_simp
        (try (first | with_reducible rfl | (apply And.intro <;> rfl)))
      simp only [Act.put, List.setIfInBounds_toArray, List.set_cons_zero, List.set_cons_succ]
      refine run_at (i := 1) (v := ?_) rfl (by kernel_rfl) (by rfl) (fun _ _ _ h => h) hHeld (fun w1 hw1 => ?_) ?_
      rotate_left 1
      · skip
        have hcw0 := hw1.cell (HCe.out) (by first | (simp; done) | exact HNS.out | exact HNW.out | (intro hm; have hlt := HSB.out _ hm; (try dsimp only at hlt); omega))
        go_simp
        (try (first | with_reducible rfl | (apply And.intro <;> rfl)))
      simp only [Act.put, List.setIfInBounds_toArray, List.set_cons_zero, List.set_cons_succ]
      refine run_at (i := 3) (v := ?_) rfl (by kernel_rfl) (by rfl) (fun _ _ _ h => h) hHeld (fun w1 hw1 => ?_) ?_
      rotate_left 1
      · skip
        go_simp
        (try (first | with_reducible rfl | (apply And.intro <;> rfl)))
      simp only [Act.put, List.setIfInBounds_toArray, List.set_cons_zero, List.set_cons_succ]
      refine run_at (i := 4) (v := ?_) rfl (by kernel_rfl) (by rfl) (fun _ _ _ h => h) hHeld (fun w1 hw1 => ?_) ?_
      rotate_left 1
      · skip
        have hcw0 := hw1.cell (HCr.out) (by first | (simp; done) | exact HNS.out | exact HNW.out | (intro hm; have hlt := HSB.out _ hm; (try dsimp only at hlt); omega))
        go_simp
        (try (first | with_reducible rfl | (apply And.intro <;> rfl)))
      simp only [Act.put, List.setIfInBounds_toArray, List.set_cons_zero, List.set_cons_succ]
      refine run_at (i := 6) (v := ?_) rfl (by kernel_rfl) (by rfl) (fun _ _ _ h => h) hHeld (fun w1 hw1 => ?_) ?_
      rotate_left 1
      · skip
        go_simp
        (try (first | with_reducible rfl | (apply And.intro <;> rfl)))
      simp only [Act.put, List.setIfInBounds_toArray, List.set_cons_zero, List.set_cons_succ]
      refine run_at (i := 7) (v := ?_) rfl (by kernel_rfl) (by rfl) (fun _ _ _ h => h) hHeld (fun w1 hw1 => ?_) ?_
      rotate_left 1
      · skip
        have hcw0 := hw1.cell (HCm.out) (by first | (simp; done) | exact HNS.out | exact HNW.out | (intro hm; have hlt := HSB.out _ hm; (try dsimp only at hlt); omega))
        go_simp
        (try (first | with_reducible rfl | (apply And.intro <;> rfl)))
      simp only [Act.put, List.setIfInBounds_toArray, List.set_cons_zero, List.set_cons_succ]
      refine run_at (i := 8) (v := ?_) rfl (by kernel_rfl) (by rfl) (fun _ _ _ h => h) hHeld (fun w1 hw1 => ?_) ?_
      rotate_left 1
      · skip
        go_simp
        (try (first | with_reducible rfl | (apply And.intro <;> rfl)))
      simp only [Act.put, List.setIfInBounds_toArray, List.set_cons_zero, List.set_cons_succ]
      rw [show (a.tm : Int).tmod 3 = ((a.tm % 3 : Nat) : Int) by rw [Int.tmod_eq_emod_of_nonneg (by omega)]; simp]
      refine run_at (i := 9) (v := ?_) rfl (by kernel_rfl) (by rfl) (fun _ _ _ h => h) hHeld (fun w1 hw1 => ?_) ?_
      rotate_left 1
      · skip
        go_simp
        (try (first | with_reducible rfl | (apply And.intro <;> rfl)))
      simp only [Act.put, List.setIfInBounds_toArray, List.set_cons_zero, List.set_cons_succ]
      refine call_at (i := 2) (f := ?_) (args := ?_) rfl (by kernel_rfl) (by rfl) ?_ ?_
      rotate_left 2
      · go_simp
        (try (first | with_reducible rfl | (apply And.intro <;> rfl)))
      refine (within_pos a.e 3 HA.out.e.1 HA.out.e.2 (by omega) (by omega) _).mono ?_
      rintro e_ w_ ⟨rfl, rfl⟩
      refine ⟨_, rfl, hHeld, fun hHeld => ?_⟩
      simp only [Act.put, List.setIfInBounds_toArray, List.set_cons_zero, List.set_cons_succ]
      refine call_at (i := 5) (f := ?_) (args := ?_) rfl (by kernel_rfl) (by rfl) ?_ ?_
      rotate_left 2
      · go_simp
        (try (first | with_reducible rfl | (apply And.intro <;> rfl)))
      refine (within_pos a.r 3 HA.out.r.1 HA.out.r.2 (by omega) (by omega) _).mono ?_
      rintro e_ w_ ⟨rfl, rfl⟩
      refine ⟨_, rfl, hHeld, fun hHeld => ?_⟩
      simp only [Act.put, List.setIfInBounds_toArray, List.set_cons_zero, List.set_cons_succ]
      have HBD := Lib.hid (HBZ.out.drew)
      refine step_at (i := 10) rfl (by kernel_rfl) (by rfl) (fun K hK => ?_)
      refine wp_store_at 3 _ _ rfl (w.heap.size + 2) 0 (.int .i64 5) rfl rfl rfl 61 _ HBD.out (HLT.out _ HZ0.out 0 (by omega)) HSI.out ?_
      refine hK.out _ _ (Fr.setCells (fun _ => by simp) [.int .i64 5] 0 _ hHeld) (fun hHeld => ?_)
      clear hK K
      have HQ1 := Lib.hid (Wmg.blk_q 5 HBD.out)
      have HZ1 : Hid (Wmg.Len {mz 0 f t with q := 5}) := Lib.hid ⟨HZ0.out.cm, HZ0.out.st, HZ0.out.ce, HZ0.out.ak, HZ0.out.vt, HZ0.out.en, HZ0.out.op⟩
      generalize wc.drew.setCells (w.heap.size + 2) 0 [.int .i64 5] = v1 at *
      simp only [Act.put, List.setIfInBounds_toArray, List.set_cons_zero, List.set_cons_succ]
      refine run_at (i := 11) (v := ?_) rfl (by kernel_rfl) (by rfl) (fun _ _ _ h => h) hHeld (fun w1 hw1 => ?_) ?_
      rotate_left 1
      · skip
        go_simp
        (try (first | with_reducible rfl | (apply And.intro <;> rfl)))
      simp only [Act.put, List.setIfInBounds_toArray, List.set_cons_zero, List.set_cons_succ]
      refine step_at (i := 12) rfl (by kernel_rfl) (by rfl) (fun K hK => ?_)
      refine wp_store_at 3 _ _ rfl (w.heap.size + 2) 154 (.int .i64 (a.e % 3)) rfl rfl rfl 61 _ HQ1.out (HLT.out _ HZ1.out 154 (by omega)) HSI.out ?_
      refine hK.out _ _ (Fr.setCells (fun _ => by simp) [.int .i64 (a.e % 3)] 154 _ hHeld) (fun hHeld => ?_)
      clear hK K
      have HQ2 := Lib.hid (Wmg.blk_e HZ1.out (a.e % 3) HQ1.out)
      have HZ2 : Hid (Wmg.Len {mz 0 f t with q := 5, e := a.e % 3}) := Lib.hid ⟨HZ0.out.cm, HZ0.out.st, HZ0.out.ce, HZ0.out.ak, HZ0.out.vt, HZ0.out.en, HZ0.out.op⟩
      generalize v1.setCells (w.heap.size + 2) 154 [.int .i64 (a.e % 3)] = v2 at *
      simp only [Act.put, List.setIfInBounds_toArray, List.set_cons_zero, List.set_cons_succ]
      refine run_at (i := 13) (v := ?_) rfl (by kernel_rfl) (by rfl) (fun _ _ _ h => h) hHeld (fun w1 hw1 => ?_) ?_
      rotate_left 1
      · skip
        go_simp
        (try (first | with_reducible rfl | (apply And.intro <;> rfl)))
      simp only [Act.put, List.setIfInBounds_toArray, List.set_cons_zero, List.set_cons_succ]
      refine step_at (i := 14) rfl (by kernel_rfl) (by rfl) (fun K hK => ?_)
      refine wp_store_at 3 _ _ rfl (w.heap.size + 2) 155 (.int .i64 (a.r % 3)) rfl rfl rfl 61 _ HQ2.out (HLT.out _ HZ2.out 155 (by omega)) HSI.out ?_
      refine hK.out _ _ (Fr.setCells (fun _ => by simp) [.int .i64 (a.r % 3)] 155 _ hHeld) (fun hHeld => ?_)
      clear hK K
      have HQ3 := Lib.hid (Wmg.blk_r HZ2.out (a.r % 3) HQ2.out)
      have HZ3 : Hid (Wmg.Len {mz 0 f t with q := 5, e := a.e % 3, r := a.r % 3}) := Lib.hid ⟨HZ0.out.cm, HZ0.out.st, HZ0.out.ce, HZ0.out.ak, HZ0.out.vt, HZ0.out.en, HZ0.out.op⟩
      generalize v2.setCells (w.heap.size + 2) 155 [.int .i64 (a.r % 3)] = v3 at *
      simp only [Act.put, List.setIfInBounds_toArray, List.set_cons_zero, List.set_cons_succ]
      refine run_at (i := 15) (v := ?_) rfl (by kernel_rfl) (by rfl) (fun _ _ _ h => h) hHeld (fun w1 hw1 => ?_) ?_
      rotate_left 1
      · skip
        go_simp
        (try (first | with_reducible rfl | (apply And.intro <;> rfl)))
      simp only [Act.put, List.setIfInBounds_toArray, List.set_cons_zero, List.set_cons_succ]
      refine step_at (i := 16) rfl (by kernel_rfl) (by rfl) (fun K hK => ?_)
      refine wp_store_at 30 _ _ rfl (w.heap.size + 2) 156 (.int .u64 ((a.tm % 3 : Nat) : Int)) rfl rfl rfl 61 _ HQ3.out (HLT.out _ HZ3.out 156 (by omega)) HSU.out ?_
      refine hK.out _ _ (Fr.setCells (fun _ => by simp) [.int .u64 ((a.tm % 3 : Nat) : Int)] 156 _ hHeld) (fun hHeld => ?_)
      clear hK K
      have HBL := Lib.hid (Wmg.blk_tm HZ3.out (a.tm % 3) HQ3.out)
      have HZL0 : Hid (Wmg.Len (tn0 f t (a.e % 3) (a.r % 3) (a.tm % 3))) := Lib.hid ⟨HZ0.out.cm, HZ0.out.st, HZ0.out.ce, HZ0.out.ak, HZ0.out.vt, HZ0.out.en, HZ0.out.op⟩
      generalize v3.setCells (w.heap.size + 2) 156 [.int .u64 ((a.tm % 3 : Nat) : Int)] = WE at *
      simp only [Act.put, List.setIfInBounds_toArray, List.set_cons_zero, List.set_cons_succ]
      refine wpAnyH_done (by kernel_rfl) ?_ _
      have HBE : Hid (Blk WE (w.heap.size + 2) 61 (tn0 f t (a.e % 3) (a.r % 3) (a.tm % 3)).cells.toArray) := Lib.hid HBL.out
      obtain ⟨E, hE⟩ : ∃ E, E = (tn0 f t (a.e % 3) (a.r % 3) (a.tm % 3)).cells := ⟨_, rfl⟩
      have HEL : Hid (E.length = 295) := Lib.hid (by rw [hE]; exact Wmg.lenz (HZL0.out))
      rw [← hE] at HBE
      have HEO : Hid (E.toArray.all (·.oneCell') = true) := Lib.hid (by rw [hE]; exact all_oneCell_toArray (Wmg.one _))
      have HES : Hid ((Try.prog.info? 61).map (·.size) = some E.toArray.size) := Lib.hid (by rw [List.size_toArray, HEL.out]; kernel_rfl)
      have HEM : Hid (mz00.size = E.toArray.size) := Lib.hid (by unfold mz00; rw [List.size_toArray, List.size_toArray, HEL.out, Wmg.lenz (mz_len _ _ _)])
      have HFE : Hid (Fr [] w WE) := Lib.hid (HFZ.out.go hHeld (by simp))
      have HB9 := Lib.hid (HB1.out.keep hHeld (by simp))
      have HER : Hid (WE.rangeAt (w.heap.size + 2) 0 E) := Lib.hid HBE.out.range
      go_wp2_with (first | (refine wpList_load_mid rfl 61 _ rfl (w.heap.size + 2) 0 rfl E _ HER.out Try.underlying61 rfl (row_msg.of HEL.out).2 ?_) | (refine wpList_store_blk rfl 61 _ _ rfl (w.heap.size + 1) E.toArray rfl rfl 61 mz00 HB9.out HES.out HEM.out HEO.out ?_; intro w8 hb8 hf8))
      rw [hE] at hb8 HES
      exact bodyPost_ret (v := .agg (tn0 f t (a.e % 3) (a.r % 3) (a.tm % 3)).cells.toArray) (results_cell_row Try.results4 _ _ (w.heap.size + 1) 61 (tn0 f t (a.e % 3) (a.r % 3) (a.tm % 3)).cells.toArray _ _ rfl hb8 Try.underlying61 rfl HES.out) rfl ⟨by rw [HTK.out], HFE.out.go hf8 (by simp)⟩
    · skip
      by_cases h1 : k = 1
      · skip
        have HTK := Lib.hid HTN.out
        rw [if_neg h0, if_pos h1] at HTK
        have hk0 : (k == 0) = false := by rw [h1]; rfl
        have hk1 : (k == 1) = true := by rw [h1]; rfl
        have hci := HCi.out
        simp only [Nat.zero_add] at hci
        clear HTN h0 h1
        go_wp2_with fail
        refine (within_pos a.i 3 HA.out.i.1 HA.out.i.2 (by omega) (by omega) _).mono ?_
        rintro e_ w_ ⟨rfl, rfl⟩
        have HQ1 := Lib.hid (Wmg.blk_q 11 HBZ.out)
        have HZ1 : Hid (Wmg.Len {mz 0 f t with q := 11}) := Lib.hid ⟨HZ0.out.cm, HZ0.out.st, HZ0.out.ce, HZ0.out.ak, HZ0.out.vt, HZ0.out.en, HZ0.out.op⟩
        have HBL := Lib.hid (Wmg.blk_i HZ1.out (a.i % 3) HQ1.out)
        have HZL0 : Hid (Wmg.Len (tn1 f t (a.i % 3))) := Lib.hid ⟨HZ0.out.cm, HZ0.out.st, HZ0.out.ce, HZ0.out.ak, HZ0.out.vt, HZ0.out.en, HZ0.out.op⟩
        have hHeld : Fr [w.heap.size + 2] wc ((wc.setCells (w.heap.size + 2) 0 [.int .i64 11]).setCells (w.heap.size + 2) 212 [.int .i64 (a.i % 3)]) := Fr.setCells (fun _ => by simp) _ 212 _ (Fr.setCells (fun _ => by simp) _ 0 _ (Fr.refl _ _))
        go_upto_region 10 with (first | (refine wpList_store_at rfl 3 _ _ rfl (w.heap.size + 2) 0 (.int .i64 11) rfl rfl rfl 61 _ HBZ.out (HLT.out _ HZ0.out 0 (by omega)) HSI.out ?_) | (refine wpList_store_at rfl 3 _ _ rfl (w.heap.size + 2) 212 (.int .i64 (a.i % 3)) rfl rfl rfl 61 _ HQ1.out (HLT.out _ HZ1.out 212 (by omega)) HSI.out ?_))
        change Code.wp _ _ _ _ ((wc.setCells (w.heap.size + 2) 0 [.int .i64 11]).setCells (w.heap.size + 2) 212 [.int .i64 (a.i % 3)])
        generalize (wc.setCells (w.heap.size + 2) 0 [.int .i64 11]).setCells (w.heap.size + 2) 212 [.int .i64 (a.i % 3)] = WE at *
        have HBE : Hid (Blk WE (w.heap.size + 2) 61 (tn1 f t (a.i % 3)).cells.toArray) := Lib.hid HBL.out
        obtain ⟨E, hE⟩ : ∃ E, E = (tn1 f t (a.i % 3)).cells := ⟨_, rfl⟩
        have HEL : Hid (E.length = 295) := Lib.hid (by rw [hE]; exact Wmg.lenz (HZL0.out))
        rw [← hE] at HBE
        have HEO : Hid (E.toArray.all (·.oneCell') = true) := Lib.hid (by rw [hE]; exact all_oneCell_toArray (Wmg.one _))
        have HES : Hid ((Try.prog.info? 61).map (·.size) = some E.toArray.size) := Lib.hid (by rw [List.size_toArray, HEL.out]; kernel_rfl)
        have HEM : Hid (mz00.size = E.toArray.size) := Lib.hid (by unfold mz00; rw [List.size_toArray, List.size_toArray, HEL.out, Wmg.lenz (mz_len _ _ _)])
        have HFE : Hid (Fr [] w WE) := Lib.hid (HFZ.out.go hHeld (by simp))
        have HB9 := Lib.hid (HB1.out.keep hHeld (by simp))
        have HER : Hid (WE.rangeAt (w.heap.size + 2) 0 E) := Lib.hid HBE.out.range
        go_wp2_with (first | (refine wpList_load_mid rfl 61 _ rfl (w.heap.size + 2) 0 rfl E _ HER.out Try.underlying61 rfl (row_msg.of HEL.out).2 ?_) | (refine wpList_store_blk rfl 61 _ _ rfl (w.heap.size + 1) E.toArray rfl rfl 61 mz00 HB9.out HES.out HEM.out HEO.out ?_; intro w8 hb8 hf8))
        rw [hE] at hb8 HES
        exact bodyPost_ret (v := .agg (tn1 f t (a.i % 3)).cells.toArray) (results_cell_row Try.results4 _ _ (w.heap.size + 1) 61 (tn1 f t (a.i % 3)).cells.toArray _ _ rfl hb8 Try.underlying61 rfl HES.out) rfl ⟨by rw [HTK.out], HFE.out.go hf8 (by simp)⟩
      · skip
        by_cases h2 : k = 2
        · skip
          have HTK := Lib.hid HTN.out
          rw [if_neg h0, if_neg h1, if_pos h2] at HTK
          have hk0 : (k == 0) = false := by rw [h2]; rfl
          have hk1 : (k == 1) = false := by rw [h2]; rfl
          have hk2 : (k == 2) = true := by rw [h2]; rfl
          clear HTN h0 h1 h2
          go_upto_region 9 with (fail)
          refine wp_region_held_drew (S := Fr [w.heap.size + 2] wc) (by kernel_rfl) (Fr.drew (Fr.refl _ wc)) (fun hHeld => ?_)
          refine run_at (i := 0) (v := ?_) rfl (by kernel_rfl) (by rfl) (fun _ _ _ h => h) hHeld (fun w1 hw1 => ?_) ?_
          rotate_left 1
          · skip
            go_simp
            (try (first | with_reducible rfl | (apply And.intro <;> rfl)))
          simp only [Act.put, List.setIfInBounds_toArray, List.set_cons_zero, List.set_cons_succ]
          refine run_at (i := 1) (v := ?_) rfl (by kernel_rfl) (by rfl) (fun _ _ _ h => h) hHeld (fun w1 hw1 => ?_) ?_
          rotate_left 1
          · skip
            have hcw0 := hw1.cell (HCi.out) (by first | (simp; done) | exact HNS.out | exact HNW.out | (intro hm; have hlt := HSB.out _ hm; (try dsimp only at hlt); omega))
            go_simp
            (try (first | with_reducible rfl | (apply And.intro <;> rfl)))
          simp only [Act.put, List.setIfInBounds_toArray, List.set_cons_zero, List.set_cons_succ]
          refine run_at (i := 3) (v := ?_) rfl (by kernel_rfl) (by rfl) (fun _ _ _ h => h) hHeld (fun w1 hw1 => ?_) ?_
          rotate_left 1
          · skip
            go_simp
            (try (first | with_reducible rfl | (apply And.intro <;> rfl)))
          simp only [Act.put, List.setIfInBounds_toArray, List.set_cons_zero, List.set_cons_succ]
          refine run_at (i := 4) (v := ?_) rfl (by kernel_rfl) (by rfl) (fun _ _ _ h => h) hHeld (fun w1 hw1 => ?_) ?_
          rotate_left 1
          · skip
            go_simp
            (try (first | with_reducible rfl | (apply And.intro <;> rfl)))
          simp only [Act.put, List.setIfInBounds_toArray, List.set_cons_zero, List.set_cons_succ]
          refine run_at (i := 5) (v := ?_) rfl (by kernel_rfl) (by rfl) (fun _ _ _ h => h) hHeld (fun w1 hw1 => ?_) ?_
          rotate_left 1
          · skip
            go_simp
            (try (first | with_reducible rfl | (apply And.intro <;> rfl)))
          simp only [Act.put, List.setIfInBounds_toArray, List.set_cons_zero, List.set_cons_succ]
          refine run_at (i := 6) (v := ?_) rfl (by kernel_rfl) (by rfl) (fun _ _ _ h => h) hHeld (fun w1 hw1 => ?_) ?_
          rotate_left 1
          · skip
            have hcw0 := hw1.cell (HCes.out) (by first | (simp; done) | exact HNS.out | exact HNW.out | (intro hm; have hlt := HSB.out _ hm; (try dsimp only at hlt); omega))
            go_simp
            (try (first | with_reducible rfl | (apply And.intro <;> rfl)))
          simp only [Act.put, List.setIfInBounds_toArray, List.set_cons_zero, List.set_cons_succ]
          refine run_at (i := 9) (v := ?_) rfl (by kernel_rfl) (by rfl) (fun _ _ _ h => h) hHeld (fun w1 hw1 => ?_) ?_
          rotate_left 1
          · skip
            go_simp
            (try (first | with_reducible rfl | (apply And.intro <;> rfl)))
          simp only [Act.put, List.setIfInBounds_toArray, List.set_cons_zero, List.set_cons_succ]
          refine run_at (i := 10) (v := ?_) rfl (by kernel_rfl) (by rfl) (fun _ _ _ h => h) hHeld (fun w1 hw1 => ?_) ?_
          rotate_left 1
          · skip
            go_simp
            (try (first | with_reducible rfl | (apply And.intro <;> rfl)))
          simp only [Act.put, List.setIfInBounds_toArray, List.set_cons_zero, List.set_cons_succ]
          refine run_at (i := 11) (v := ?_) rfl (by kernel_rfl) (by rfl) (fun _ _ _ h => h) hHeld (fun w1 hw1 => ?_) ?_
          rotate_left 1
          · skip
            have hcw0 := hw1.cell (HCet.out) (by first | (simp; done) | exact HNS.out | exact HNW.out | (intro hm; have hlt := HSB.out _ hm; (try dsimp only at hlt); omega))
            go_simp
            (try (first | with_reducible rfl | (apply And.intro <;> rfl)))
          simp only [Act.put, List.setIfInBounds_toArray, List.set_cons_zero, List.set_cons_succ]
          refine run_at (i := 12) (v := ?_) rfl (by kernel_rfl) (by rfl) (fun _ _ _ h => h) hHeld (fun w1 hw1 => ?_) ?_
          rotate_left 1
          · skip
            go_simp
            (try (first | with_reducible rfl | (apply And.intro <;> rfl)))
          simp only [Act.put, List.setIfInBounds_toArray, List.set_cons_zero, List.set_cons_succ]
          rw [show (a.en.t : Int).tmod 3 = ((a.en.t % 3 : Nat) : Int) by rw [Int.tmod_eq_emod_of_nonneg (by omega)]; simp]
          refine run_at (i := 14) (v := ?_) rfl (by kernel_rfl) (by rfl) (fun _ _ _ h => h) hHeld (fun w1 hw1 => ?_) ?_
          rotate_left 1
          · skip
            go_simp
            (try (first | with_reducible rfl | (apply And.intro <;> rfl)))
          simp only [Act.put, List.setIfInBounds_toArray, List.set_cons_zero, List.set_cons_succ]
          refine call_at (i := 2) (f := ?_) (args := ?_) rfl (by kernel_rfl) (by rfl) ?_ ?_
          rotate_left 2
          · go_simp
            (try (first | with_reducible rfl | (apply And.intro <;> rfl)))
          refine (within_pos a.i 3 HA.out.i.1 HA.out.i.2 (by omega) (by omega) _).mono ?_
          rintro e_ w_ ⟨rfl, rfl⟩
          refine ⟨_, rfl, hHeld, fun hHeld => ?_⟩
          simp only [Act.put, List.setIfInBounds_toArray, List.set_cons_zero, List.set_cons_succ]
          refine call_at (i := 7) (f := ?_) (args := ?_) rfl (by kernel_rfl) (by rfl) ?_ ?_
          rotate_left 2
          · go_simp
            (try (first | with_reducible rfl | (apply And.intro <;> rfl)))
          refine (within_pos a.en.s 3 HA.out.es.1 HA.out.es.2 (by omega) (by omega) _).mono ?_
          rintro e_ w_ ⟨rfl, rfl⟩
          refine ⟨_, rfl, hHeld, fun hHeld => ?_⟩
          simp only [Act.put, List.setIfInBounds_toArray, List.set_cons_zero, List.set_cons_succ]
          refine build_at (i := 8) rfl (by kernel_rfl) (by rfl) _ _ rfl _ _ (built_tn (a.en.s % 3)) rfl (fun _ _ _ h => h) hHeld ?_
          simp only [Act.put, List.setIfInBounds_toArray, List.set_cons_zero, List.set_cons_succ]
          refine build_at (i := 13) rfl (by kernel_rfl) (by rfl) _ _ rfl _ _ (built_te (a.en.s % 3) (a.en.t % 3)) rfl (fun _ _ _ h => h) hHeld ?_
          simp only [Act.put, List.setIfInBounds_toArray, List.set_cons_zero, List.set_cons_succ]
          have HBD := Lib.hid (HBZ.out.drew)
          refine step_at (i := 15) rfl (by kernel_rfl) (by rfl) (fun K hK => ?_)
          refine wp_store_at 3 _ _ rfl (w.heap.size + 2) 0 (.int .i64 9) rfl rfl rfl 61 _ HBD.out (HLT.out _ HZ0.out 0 (by omega)) HSI.out ?_
          refine hK.out _ _ (Fr.setCells (fun _ => by simp) [.int .i64 9] 0 _ hHeld) (fun hHeld => ?_)
          clear hK K
          have HQ1 := Lib.hid (Wmg.blk_q 9 HBD.out)
          have HZ1 : Hid (Wmg.Len {mz 0 f t with q := 9}) := Lib.hid ⟨HZ0.out.cm, HZ0.out.st, HZ0.out.ce, HZ0.out.ak, HZ0.out.vt, HZ0.out.en, HZ0.out.op⟩
          generalize wc.drew.setCells (w.heap.size + 2) 0 [.int .i64 9] = v1 at *
          simp only [Act.put, List.setIfInBounds_toArray, List.set_cons_zero, List.set_cons_succ]
          refine run_at (i := 16) (v := ?_) rfl (by kernel_rfl) (by rfl) (fun _ _ _ h => h) hHeld (fun w1 hw1 => ?_) ?_
          rotate_left 1
          · skip
            go_simp
            (try (first | with_reducible rfl | (apply And.intro <;> rfl)))
          simp only [Act.put, List.setIfInBounds_toArray, List.set_cons_zero, List.set_cons_succ]
          refine step_at (i := 17) rfl (by kernel_rfl) (by rfl) (fun K hK => ?_)
          refine wp_store_at 3 _ _ rfl (w.heap.size + 2) 212 (.int .i64 (a.i % 3)) rfl rfl rfl 61 _ HQ1.out (HLT.out _ HZ1.out 212 (by omega)) HSI.out ?_
          refine hK.out _ _ (Fr.setCells (fun _ => by simp) [.int .i64 (a.i % 3)] 212 _ hHeld) (fun hHeld => ?_)
          clear hK K
          have HQ2 := Lib.hid (Wmg.blk_i HZ1.out (a.i % 3) HQ1.out)
          have HZ2 : Hid (Wmg.Len {mz 0 f t with q := 9, i := a.i % 3}) := Lib.hid ⟨HZ0.out.cm, HZ0.out.st, HZ0.out.ce, HZ0.out.ak, HZ0.out.vt, HZ0.out.en, HZ0.out.op⟩
          generalize v1.setCells (w.heap.size + 2) 212 [.int .i64 (a.i % 3)] = v2 at *
          simp only [Act.put, List.setIfInBounds_toArray, List.set_cons_zero, List.set_cons_succ]
          refine run_at (i := 18) (v := ?_) rfl (by kernel_rfl) (by rfl) (fun _ _ _ h => h) hHeld (fun w1 hw1 => ?_) ?_
          rotate_left 1
          · skip
            go_simp
            (try (first | with_reducible rfl | (apply And.intro <;> rfl)))
          simp only [Act.put, List.setIfInBounds_toArray, List.set_cons_zero, List.set_cons_succ]
          refine step_at (i := 19) rfl (by kernel_rfl) (by rfl) (fun K hK => ?_)
          refine wp_store_mid 51 _ _ rfl (w.heap.size + 2) 213 (⟨0, a.en.s % 3, mh0, a.en.t % 3⟩ : Wen).cells.toArray rfl rfl (Blk.thereM HQ2.out 213 _ (by rw [List.size_toArray, List.size_toArray, Wmg.lenz HZ2.out]; exact (show 213 + 35 ≤ 295 by decide))) (by kernel_rfl) (by kernel_rfl) ?_
          refine hK.out _ _ (Fr.setCells (fun _ => by simp) (⟨0, a.en.s % 3, mh0, a.en.t % 3⟩ : Wen).cells 213 _ hHeld) (fun hHeld => ?_)
          clear hK K
          have HBL := Lib.hid (Wmg.blk_en HZ2.out (⟨0, a.en.s % 3, mh0, a.en.t % 3⟩ : Wen) rfl HQ2.out)
          have HZL0 : Hid (Wmg.Len (tn2 f t (a.i % 3) (a.en.s % 3) (a.en.t % 3))) := Lib.hid ⟨HZ0.out.cm, HZ0.out.st, HZ0.out.ce, HZ0.out.ak, HZ0.out.vt, rfl, HZ0.out.op⟩
          generalize v2.setCells (w.heap.size + 2) 213 (⟨0, a.en.s % 3, mh0, a.en.t % 3⟩ : Wen).cells = WE at *
          simp only [Act.put, List.setIfInBounds_toArray, List.set_cons_zero, List.set_cons_succ]
          refine wpAnyH_done (by kernel_rfl) ?_ _
          have HBE : Hid (Blk WE (w.heap.size + 2) 61 (tn2 f t (a.i % 3) (a.en.s % 3) (a.en.t % 3)).cells.toArray) := Lib.hid HBL.out
          obtain ⟨E, hE⟩ : ∃ E, E = (tn2 f t (a.i % 3) (a.en.s % 3) (a.en.t % 3)).cells := ⟨_, rfl⟩
          have HEL : Hid (E.length = 295) := Lib.hid (by rw [hE]; exact Wmg.lenz (HZL0.out))
          rw [← hE] at HBE
          have HEO : Hid (E.toArray.all (·.oneCell') = true) := Lib.hid (by rw [hE]; exact all_oneCell_toArray (Wmg.one _))
          have HES : Hid ((Try.prog.info? 61).map (·.size) = some E.toArray.size) := Lib.hid (by rw [List.size_toArray, HEL.out]; kernel_rfl)
          have HEM : Hid (mz00.size = E.toArray.size) := Lib.hid (by unfold mz00; rw [List.size_toArray, List.size_toArray, HEL.out, Wmg.lenz (mz_len _ _ _)])
          have HFE : Hid (Fr [] w WE) := Lib.hid (HFZ.out.go hHeld (by simp))
          have HB9 := Lib.hid (HB1.out.keep hHeld (by simp))
          have HER : Hid (WE.rangeAt (w.heap.size + 2) 0 E) := Lib.hid HBE.out.range
          go_wp2_with (first | (refine wpList_load_mid rfl 61 _ rfl (w.heap.size + 2) 0 rfl E _ HER.out Try.underlying61 rfl (row_msg.of HEL.out).2 ?_) | (refine wpList_store_blk rfl 61 _ _ rfl (w.heap.size + 1) E.toArray rfl rfl 61 mz00 HB9.out HES.out HEM.out HEO.out ?_; intro w8 hb8 hf8))
          rw [hE] at hb8 HES
          exact bodyPost_ret (v := .agg (tn2 f t (a.i % 3) (a.en.s % 3) (a.en.t % 3)).cells.toArray) (results_cell_row Try.results4 _ _ (w.heap.size + 1) 61 (tn2 f t (a.i % 3) (a.en.s % 3) (a.en.t % 3)).cells.toArray _ _ rfl hb8 Try.underlying61 rfl HES.out) rfl ⟨by rw [HTK.out], HFE.out.go hf8 (by simp)⟩
        · skip
          have HTK := Lib.hid HTN.out
          rw [if_neg h0, if_neg h1, if_neg h2] at HTK
          have hk0 : (k == 0) = false := by simpa using h0
          have hk1 : (k == 1) = false := by simpa using h1
          have hk2 : (k == 2) = false := by simpa using h2
          clear HTN h0 h1 h2
          go_upto_region 3 with (fail)
          refine wp_region_held_drew (S := Fr [w.heap.size + 2] wc) (by kernel_rfl) (Fr.drew (Fr.refl _ wc)) (fun hHeld => ?_)
          refine run_at (i := 0) (v := ?_) rfl (by kernel_rfl) (by rfl) (fun _ _ _ h => h) hHeld (fun w1 hw1 => ?_) ?_
          rotate_left 1
          · skip
            go_simp
            (try (first | with_reducible rfl | (apply And.intro <;> rfl)))
          simp only [Act.put, List.setIfInBounds_toArray, List.set_cons_zero, List.set_cons_succ]
          refine run_at (i := 1) (v := ?_) rfl (by kernel_rfl) (by rfl) (fun _ _ _ h => h) hHeld (fun w1 hw1 => ?_) ?_
          rotate_left 1
          · skip
            go_simp
            (try (first | with_reducible rfl | (apply And.intro <;> rfl)))
          simp only [Act.put, List.setIfInBounds_toArray, List.set_cons_zero, List.set_cons_succ]
          refine run_at (i := 2) (v := ?_) rfl (by kernel_rfl) (by rfl) (fun _ _ _ h => h) hHeld (fun w1 hw1 => ?_) ?_
          rotate_left 1
          · skip
            have hcw0 := hw1.cell (HCvr.out) (by first | (simp; done) | exact HNS.out | exact HNW.out | (intro hm; have hlt := HSB.out _ hm; (try dsimp only at hlt); omega))
            go_simp
            (try (first | with_reducible rfl | (apply And.intro <;> rfl)))
          simp only [Act.put, List.setIfInBounds_toArray, List.set_cons_zero, List.set_cons_succ]
          refine run_at (i := 4) (v := ?_) rfl (by kernel_rfl) (by rfl) (fun _ _ _ h => h) hHeld (fun w1 hw1 => ?_) ?_
          rotate_left 1
          · skip
            go_simp
            (try (first | with_reducible rfl | (apply And.intro <;> rfl)))
          simp only [Act.put, List.setIfInBounds_toArray, List.set_cons_zero, List.set_cons_succ]
          refine run_at (i := 5) (v := ?_) rfl (by kernel_rfl) (by rfl) (fun _ _ _ h => h) hHeld (fun w1 hw1 => ?_) ?_
          rotate_left 1
          · skip
            go_simp
            (try (first | with_reducible rfl | (apply And.intro <;> rfl)))
          simp only [Act.put, List.setIfInBounds_toArray, List.set_cons_zero, List.set_cons_succ]
          refine run_at (i := 6) (v := ?_) rfl (by kernel_rfl) (by rfl) (fun _ _ _ h => h) hHeld (fun w1 hw1 => ?_) ?_
          rotate_left 1
          · skip
            have hcw0 := hw1.cell (HCvp.out) (by first | (simp; done) | exact HNS.out | exact HNW.out | (intro hm; have hlt := HSB.out _ hm; (try dsimp only at hlt); omega))
            go_simp
            (try (first | with_reducible rfl | (apply And.intro <;> rfl)))
          simp only [Act.put, List.setIfInBounds_toArray, List.set_cons_zero, List.set_cons_succ]
          refine run_at (i := 9) (v := ?_) rfl (by kernel_rfl) (by rfl) (fun _ _ _ h => h) hHeld (fun w1 hw1 => ?_) ?_
          rotate_left 1
          · skip
            go_simp
            (try (first | with_reducible rfl | (apply And.intro <;> rfl)))
          simp only [Act.put, List.setIfInBounds_toArray, List.set_cons_zero, List.set_cons_succ]
          refine call_at (i := 3) (f := ?_) (args := ?_) rfl (by kernel_rfl) (by rfl) ?_ ?_
          rotate_left 2
          · go_simp
            (try (first | with_reducible rfl | (apply And.intro <;> rfl)))
          refine (within_pos a.vt.r 3 HA.out.vr.1 HA.out.vr.2 (by omega) (by omega) _).mono ?_
          rintro e_ w_ ⟨rfl, rfl⟩
          refine ⟨_, rfl, hHeld, fun hHeld => ?_⟩
          simp only [Act.put, List.setIfInBounds_toArray, List.set_cons_zero, List.set_cons_succ]
          refine call_at (i := 7) (f := ?_) (args := ?_) rfl (by kernel_rfl) (by rfl) ?_ ?_
          rotate_left 2
          · go_simp
            (try (first | with_reducible rfl | (apply And.intro <;> rfl)))
          refine (within_pos a.vt.p 3 HA.out.vp.1 HA.out.vp.2 (by omega) (by omega) _).mono ?_
          rintro e_ w_ ⟨rfl, rfl⟩
          refine ⟨_, rfl, hHeld, fun hHeld => ?_⟩
          simp only [Act.put, List.setIfInBounds_toArray, List.set_cons_zero, List.set_cons_succ]
          refine build_at (i := 8) rfl (by kernel_rfl) (by rfl) _ _ rfl _ _ (built_tv (a.vt.r % 3) (a.vt.p % 3)) rfl (fun _ _ _ h => h) hHeld ?_
          simp only [Act.put, List.setIfInBounds_toArray, List.set_cons_zero, List.set_cons_succ]
          have HBD := Lib.hid (HBZ.out.drew)
          refine step_at (i := 10) rfl (by kernel_rfl) (by rfl) (fun K hK => ?_)
          refine wp_store_at 3 _ _ rfl (w.heap.size + 2) 0 (.int .i64 8) rfl rfl rfl 61 _ HBD.out (HLT.out _ HZ0.out 0 (by omega)) HSI.out ?_
          refine hK.out _ _ (Fr.setCells (fun _ => by simp) [.int .i64 8] 0 _ hHeld) (fun hHeld => ?_)
          clear hK K
          have HQ1 := Lib.hid (Wmg.blk_q 8 HBD.out)
          have HZ1 : Hid (Wmg.Len {mz 0 f t with q := 8}) := Lib.hid ⟨HZ0.out.cm, HZ0.out.st, HZ0.out.ce, HZ0.out.ak, HZ0.out.vt, HZ0.out.en, HZ0.out.op⟩
          generalize wc.drew.setCells (w.heap.size + 2) 0 [.int .i64 8] = v1 at *
          simp only [Act.put, List.setIfInBounds_toArray, List.set_cons_zero, List.set_cons_succ]
          refine run_at (i := 11) (v := ?_) rfl (by kernel_rfl) (by rfl) (fun _ _ _ h => h) hHeld (fun w1 hw1 => ?_) ?_
          rotate_left 1
          · skip
            go_simp
            (try (first | with_reducible rfl | (apply And.intro <;> rfl)))
          simp only [Act.put, List.setIfInBounds_toArray, List.set_cons_zero, List.set_cons_succ]
          refine step_at (i := 12) rfl (by kernel_rfl) (by rfl) (fun K hK => ?_)
          refine wp_store_mid 49 _ _ rfl (w.heap.size + 2) 174 (⟨1, 0, a.vt.r % 3, a.vt.p % 3, mh0, 0, 0⟩ : Wvt).cells.toArray rfl rfl (Blk.thereM HQ1.out 174 _ (by rw [List.size_toArray, List.size_toArray, Wmg.lenz HZ1.out]; exact (show 174 + 38 ≤ 295 by decide))) (by kernel_rfl) (by kernel_rfl) ?_
          refine hK.out _ _ (Fr.setCells (fun _ => by simp) (⟨1, 0, a.vt.r % 3, a.vt.p % 3, mh0, 0, 0⟩ : Wvt).cells 174 _ hHeld) (fun hHeld => ?_)
          clear hK K
          have HBL := Lib.hid (Wmg.blk_vt HZ1.out (⟨1, 0, a.vt.r % 3, a.vt.p % 3, mh0, 0, 0⟩ : Wvt) rfl HQ1.out)
          have HZL0 : Hid (Wmg.Len (tn3 f t (a.vt.r % 3) (a.vt.p % 3))) := Lib.hid ⟨HZ0.out.cm, HZ0.out.st, HZ0.out.ce, HZ0.out.ak, rfl, HZ0.out.en, HZ0.out.op⟩
          generalize v1.setCells (w.heap.size + 2) 174 (⟨1, 0, a.vt.r % 3, a.vt.p % 3, mh0, 0, 0⟩ : Wvt).cells = WE at *
          simp only [Act.put, List.setIfInBounds_toArray, List.set_cons_zero, List.set_cons_succ]
          refine wpAnyH_done (by kernel_rfl) ?_ _
          have HBE : Hid (Blk WE (w.heap.size + 2) 61 (tn3 f t (a.vt.r % 3) (a.vt.p % 3)).cells.toArray) := Lib.hid HBL.out
          obtain ⟨E, hE⟩ : ∃ E, E = (tn3 f t (a.vt.r % 3) (a.vt.p % 3)).cells := ⟨_, rfl⟩
          have HEL : Hid (E.length = 295) := Lib.hid (by rw [hE]; exact Wmg.lenz (HZL0.out))
          rw [← hE] at HBE
          have HEO : Hid (E.toArray.all (·.oneCell') = true) := Lib.hid (by rw [hE]; exact all_oneCell_toArray (Wmg.one _))
          have HES : Hid ((Try.prog.info? 61).map (·.size) = some E.toArray.size) := Lib.hid (by rw [List.size_toArray, HEL.out]; kernel_rfl)
          have HEM : Hid (mz00.size = E.toArray.size) := Lib.hid (by unfold mz00; rw [List.size_toArray, List.size_toArray, HEL.out, Wmg.lenz (mz_len _ _ _)])
          have HFE : Hid (Fr [] w WE) := Lib.hid (HFZ.out.go hHeld (by simp))
          have HB9 := Lib.hid (HB1.out.keep hHeld (by simp))
          have HER : Hid (WE.rangeAt (w.heap.size + 2) 0 E) := Lib.hid HBE.out.range
          go_wp2_with (first | (refine wpList_load_mid rfl 61 _ rfl (w.heap.size + 2) 0 rfl E _ HER.out Try.underlying61 rfl (row_msg.of HEL.out).2 ?_) | (refine wpList_store_blk rfl 61 _ _ rfl (w.heap.size + 1) E.toArray rfl rfl 61 mz00 HB9.out HES.out HEM.out HEO.out ?_; intro w8 hb8 hf8))
          rw [hE] at hb8 HES
          exact bodyPost_ret (v := .agg (tn3 f t (a.vt.r % 3) (a.vt.p % 3)).cells.toArray) (results_cell_row Try.results4 _ _ (w.heap.size + 1) 61 (tn3 f t (a.vt.r % 3) (a.vt.p % 3)).cells.toArray _ _ rfl hb8 Try.underlying61 rfl HES.out) rfl ⟨by rw [HTK.out], HFE.out.go hf8 (by simp)⟩
end Go.Proofs.Ytnpjihdhpoddgaa

namespace Go.Proofs.Ytnpjihdhpoddgaa
open Go.RowKit
set_option maxRecDepth 100000
theorem exec_eql {P : Program} {ev : Operand → Value} {o : Oper} {w : World} (ty r : TypeId) (x y : Operand) (ho : o.op = .binOp .eql ty x y r) (C D : Array Value) (hx : ev x = .agg C) (hy : ev y = .agg D) (b : Bool)
    (hg : P.eqGuardType P.depth ty = false) (hq : (Op.equalIn 10000 ty (.agg C) (.agg D)).run P w = .ok b w) : (execOp ev o).run P w = .ok (.value (.bool b)) w := by
  have hq' : (Op.equal ty (.agg C) (.agg D)).run P w = .ok b w := hq
  unfold execOp
  simp only [ho, hx, hy]
  simp [eqGuard, binOp, hg, hq', Result.andThen]
theorem eql_at {P : Program} {l : List Oper} {Q : Exit → Act → World → Prop} {md : Region.Mode} {S : World → Prop} {fuel : Nat} {listed : Array Bool} {a : Act} {w : World}
    {i : Nat} {oi : Oper} (hi : nthOp l i = some oi) (ht : takeOk md l.toArray listed i = true) (hw : Region.wanted oi (yielded l.toArray a.tmps) = true)
    (ty r : TypeId) (x y : Operand) (ho : oi.op = .binOp .eql ty x y r) (C D : Array Value) (hx : a.eval x = .agg C) (hy : a.eval y = .agg D) (b : Bool) (hg : P.eqGuardType P.depth ty = false)
    (hq : ∀ w, (Op.equalIn 10000 ty (.agg C) (.agg D)).run P w = .ok b w)
    (hQ : ∀ c a w, Q (.panic c) (a.put oi.dst (.bool b)) w → Q (.panic c) a w) (hS : S w)
    (h : wpAnyH P md l.toArray Q S fuel (listed.setIfInBounds i true) (a.put oi.dst (.bool b)) w) : wpAnyH P md l.toArray Q S (fuel + 1) listed a w :=
  run_at hi ht hw hQ hS (fun _ _ => exec_eql ty r x y ho C D hx hy b hg (hq _)) h
theorem exec_neq {P : Program} {ev : Operand → Value} {o : Oper} {w : World} (ty r : TypeId) (x y : Operand) (ho : o.op = .binOp .neq ty x y r) (C D : Array Value) (hx : ev x = .agg C) (hy : ev y = .agg D) (b : Bool)
    (hg : P.eqGuardType P.depth ty = false) (hq : (Op.equalIn 10000 ty (.agg C) (.agg D)).run P w = .ok b w) : (execOp ev o).run P w = .ok (.value (.bool (!b))) w := by
  have hq' : (Op.equal ty (.agg C) (.agg D)).run P w = .ok b w := hq
  unfold execOp
  simp only [ho, hx, hy]
  simp [eqGuard, binOp, hg, hq', Result.andThen]
theorem neq_at {P : Program} {l : List Oper} {Q : Exit → Act → World → Prop} {md : Region.Mode} {S : World → Prop} {fuel : Nat} {listed : Array Bool} {a : Act} {w : World}
    {i : Nat} {oi : Oper} (hi : nthOp l i = some oi) (ht : takeOk md l.toArray listed i = true) (hw : Region.wanted oi (yielded l.toArray a.tmps) = true)
    (ty r : TypeId) (x y : Operand) (ho : oi.op = .binOp .neq ty x y r) (C D : Array Value) (hx : a.eval x = .agg C) (hy : a.eval y = .agg D) (b : Bool) (hg : P.eqGuardType P.depth ty = false)
    (hq : ∀ w, (Op.equalIn 10000 ty (.agg C) (.agg D)).run P w = .ok b w)
    (hQ : ∀ c a w, Q (.panic c) (a.put oi.dst (.bool (!b))) w → Q (.panic c) a w) (hS : S w)
    (h : wpAnyH P md l.toArray Q S fuel (listed.setIfInBounds i true) (a.put oi.dst (.bool (!b))) w) : wpAnyH P md l.toArray Q S (fuel + 1) listed a w :=
  run_at hi ht hw hQ hS (fun _ _ => exec_neq ty r x y ho C D hx hy b hg (hq _)) h
end Go.Proofs.Ytnpjihdhpoddgaa

namespace Go.Proofs.Ytnpjihdhpoddgaa
open Go.RowKit
set_option maxRecDepth 100000

theorem eqFields_bool {P : Program} {d : Nat} {xs ys : Array Value} {f : Field} {fs : List Field} {u v : Value} {b : Bool} {w : World} (hn : f.name ≠ "_") (p : (part f.type xs f.offset).run P w = .ok u w) (p' : (part f.type ys f.offset).run P w = .ok v w)
    (q : (Op.equalIn d f.type u v).run P w = .ok b w) : (Op.eqFields d xs ys (f :: fs)).run P w = if b then (Op.eqFields d xs ys fs).run P w else .ok false w := by
  rw [Op.eqFields, if_pos hn]
  simp only [Sem.run_bind, p, p', Result.andThen_ok, q]
  cases b <;> simp
def FieldsEq (P : Program) (w : World) (d : Nat) (C D : Array Value) : List (TypeId × Nat) → List Bool → Prop
  | [], [] => True
  | (t, o) :: fs, b :: bs => (∃ u v, (part t C o).run P w = .ok u w ∧ (part t D o).run P w = .ok v w ∧ (Op.equalIn d t u v).run P w = .ok b w) ∧ FieldsEq P w d C D fs bs
  | _, _ => False
theorem eqFields_all {P : Program} {w : World} {d : Nat} {C D : Array Value} : ∀ (fs : List Field) (l : List (TypeId × Nat)) (bs : List Bool), fs.map (fun f => (f.type, f.offset, f.name == "_")) = l.map (fun x => (x.1, x.2, false)) →
    FieldsEq P w d C D l bs → (Op.eqFields d C D fs).run P w = .ok (bs.all id) w
  | [], [], [], _, _ => rfl
  | [], [], _ :: _, _, h => h.elim
  | [], _ :: _, _, h, _ => by simp at h
  | _ :: _, [], _, h, _ => by simp at h
  | _ :: _, _ :: _, [], _, h => h.elim
  | f :: fs, (t, o) :: l, b :: bs, h, hb => by
    simp only [List.map_cons, List.cons.injEq, Prod.mk.injEq, beq_eq_false_iff_ne] at h
    obtain ⟨⟨rfl, rfl, hn⟩, h⟩ := h
    obtain ⟨⟨u, v, p, p', q⟩, hr⟩ := hb
    rw [eqFields_bool hn p p' q, eqFields_all fs l bs h hr]
    cases b <;> simp
theorem part_rowx (ty : TypeId) (n off : Nat) (xs ys zs : List Value) (h : RowTy Try.prog ty n) (hx : xs.length = off) (hy : ys.length = n) (w : World) : (part ty (xs ++ (ys ++ zs)).toArray off).run Try.prog w = .ok (.agg ys.toArray) w := by
  obtain ⟨h1, h2⟩ := h
  cases hu : Try.prog.underlying ty with
  | none => rw [hu] at h1; cases h1
  | some d =>
    rw [hu] at h1
    cases hi : Try.prog.info? ty with
    | none => rw [hi] at h2; cases h2
    | some i =>
      have hs : i.size = n := by simpa [hi] using h2
      have hagg : (isAgg ty).run Try.prog w = .ok true w := by
        unfold isAgg
        rw [Sem.run_bind, run_underlying hu w]
        cases d <;> simp_all
      unfold part
      simp [hagg, sizeOf, typeInfo, hi, hs]
      subst hx
      subst hy
      simp
theorem eql_hash (a b : List UInt8) (ha : a.length = 32) (hb : b.length = 32) (d : Nat) (w : World) : (Op.equalIn (d + 2) 25 (.agg (a.map by8).toArray) (.agg (b.map by8).toArray)).run Try.prog w = .ok (decide (a = b)) w := by
  have h := run_equalIn_bytes (P := Try.prog) w d 25 5 32 Try.underlying25 Try.underlying5 u8_size1 a b ha hb
  rw [show decide (a = b) = (a == b) by rw [Bool.eq_iff_iff]; simp]
  exact h
theorem eql_int (y z : Int) (d : Nat) (w : World) : (Op.equalIn (d + 1) 3 (.int .i64 y) (.int .i64 z)).run Try.prog w = .ok (decide (y = z)) w := by
  have h := run_equalIn_int (P := Try.prog) w d 3 .i64 .i64 y z Try.underlying3
  rw [show decide (y = z) = (y == z) by rw [Bool.eq_iff_iff]; simp]
  exact h
theorem eql_u64 (y z : Int) (d : Nat) (w : World) : (Op.equalIn (d + 1) 30 (.int .u64 y) (.int .u64 z)).run Try.prog w = .ok (decide (y = z)) w := by
  have h := run_equalIn_int (P := Try.prog) w d 30 .u64 .u64 y z Try.underlying30
  rw [show decide (y = z) = (y == z) by rw [Bool.eq_iff_iff]; simp]
  exact h
theorem part_int (off : Nat) (cs : Array Value) (v : Value) (hv : cs[off]? = some v) (w : World) : (part 3 cs off).run Try.prog w = .ok v w := run_part_plain w (by kernel_rfl) hv
theorem part_u64 (off : Nat) (cs : Array Value) (v : Value) (hv : cs[off]? = some v) (w : World) : (part 30 cs off).run Try.prog w = .ok v w := run_part_plain w (by kernel_rfl) hv
theorem eql_of {ty : TypeId} {d : Nat} {C D : Array Value} {w : World} {l : List (TypeId × Nat)} {bs : List Bool} (e : (Op.equalIn (d + 1) ty (.agg C) (.agg D)).run Try.prog w = (Op.eqFields d C D (Try.prog.fieldsOf ty).toList).run Try.prog w)
    (hfs : (Try.prog.fieldsOf ty).toList.map (fun f => (f.type, f.offset, f.name == "_")) = l.map (fun x => (x.1, x.2, false))) (hb : FieldsEq Try.prog w d C D l bs) : (Op.equalIn (d + 1) ty (.agg C) (.agg D)).run Try.prog w = .ok (bs.all id) w := by
  rw [e]
  exact eqFields_all _ l bs hfs hb
theorem eql_name (a b a' b' : Int) (d : Nat) (w : World) : (Op.equalIn (d + 2) 23 (.agg #[.int .i64 a, .int .i64 b]) (.agg #[.int .i64 a', .int .i64 b'])).run Try.prog w = .ok (decide (a = a') && decide (b = b')) w := by
  have h := eql_of (l := [(3, 0), (3, 1)]) (run_equalIn_struct w (d + 1) 23 #[.int .i64 a, .int .i64 b] #[.int .i64 a', .int .i64 b'] (by kernel_rfl) (by kernel_rfl)) (by kernel_rfl)
    (bs := [decide (a = a'), decide (b = b')]) ⟨⟨_, _, part_int 0 _ _ rfl w, part_int 0 _ _ rfl w, eql_int a a' d w⟩, ⟨_, _, part_int 1 _ _ rfl w, part_int 1 _ _ rfl w, eql_int b b' d w⟩, trivial⟩
  rw [h]
  simp
theorem eql_sig (a b a' b' : Int) (d : Nat) (w : World) : (Op.equalIn (d + 2) 27 (.agg #[.int .i64 a, .int .i64 b]) (.agg #[.int .i64 a', .int .i64 b'])).run Try.prog w = .ok (decide (a = a') && decide (b = b')) w := by
  have h := eql_of (l := [(3, 0), (3, 1)]) (run_equalIn_struct w (d + 1) 27 #[.int .i64 a, .int .i64 b] #[.int .i64 a', .int .i64 b'] (by kernel_rfl) (by kernel_rfl)) (by kernel_rfl)
    (bs := [decide (a = a'), decide (b = b')]) ⟨⟨_, _, part_int 0 _ _ rfl w, part_int 0 _ _ rfl w, eql_int a a' d w⟩, ⟨_, _, part_int 1 _ _ rfl w, part_int 1 _ _ rfl w, eql_int b b' d w⟩, trivial⟩
  rw [h]
  simp
def Wst.eqB (x y : Wst) : Bool := [decide (x.r = y.r), (decide (x.c = y.c) && decide (x.s = y.s)), decide (x.h = y.h), decide ((x.t : Int) = (y.t : Int)), (decide (x.b = y.b) && decide (x.m = y.m))].all id
theorem Wst.eqB_iff (x y : Wst) : x.eqB y = true ↔ x = y := by
  obtain ⟨_, _, _, _, _, _, _⟩ := x
  obtain ⟨_, _, _, _, _, _, _⟩ := y
  simp [Wst.eqB, Wst.mk.injEq, and_assoc]
  (try omega)
set_option maxHeartbeats 1000000 in
theorem eql_Wst (x y : Wst) (hx : x.h.length = 32) (hy : y.h.length = 32) (w : World) : (Op.equalIn 10000 32 (.agg x.cells.toArray) (.agg y.cells.toArray)).run Try.prog w = .ok (x.eqB y) w :=
  eql_of (d := 9999) (C := x.cells.toArray) (D := y.cells.toArray) (l := [(3, 0), (23, 1), (25, 3), (30, 35), (27, 36)]) (run_equalIn_struct w 9999 32 x.cells.toArray y.cells.toArray (by kernel_rfl) (by kernel_rfl)) (by kernel_rfl)
    (bs := [decide (x.r = y.r), (decide (x.c = y.c) && decide (x.s = y.s)), decide (x.h = y.h), decide ((x.t : Int) = (y.t : Int)), (decide (x.b = y.b) && decide (x.m = y.m))])
    ⟨⟨_, _, part_int 0 _ _ (show x.cells.toArray[0]? = some (.int .i64 x.r) from rfl) w, part_int 0 _ _ (show y.cells.toArray[0]? = some (.int .i64 y.r) from rfl) w, eql_int _ _ 9998 w⟩,
      ⟨_, _, (part_rowx 23 2 1 [.int .i64 x.r] [.int .i64 x.c, .int .i64 x.s] ([] ++ (x.h.map by8 ++ [.int .u64 (x.t : Int), .int .i64 x.b, .int .i64 x.m])) row_name rfl rfl w), (part_rowx 23 2 1 [.int .i64 y.r] [.int .i64 y.c, .int .i64 y.s] ([] ++ (y.h.map by8 ++ [.int .u64 (y.t : Int), .int .i64 y.b, .int .i64 y.m])) row_name rfl rfl w), eql_name _ _ _ _ 9997 w⟩,
      ⟨_, _, (part_rowx 25 32 3 [.int .i64 x.r, .int .i64 x.c, .int .i64 x.s] (x.h.map by8) [.int .u64 (x.t : Int), .int .i64 x.b, .int .i64 x.m] row_hash rfl (by rw [List.length_map]; exact hx) w), (part_rowx 25 32 3 [.int .i64 y.r, .int .i64 y.c, .int .i64 y.s] (y.h.map by8) [.int .u64 (y.t : Int), .int .i64 y.b, .int .i64 y.m] row_hash rfl (by rw [List.length_map]; exact hy) w), eql_hash x.h y.h hx hy 9997 w⟩,
      ⟨_, _, part_u64 35 _ _ (show x.cells.toArray[35]? = some (.int .u64 (x.t : Int)) by rw [List.getElem?_toArray]; exact post_cell [.int .i64 x.r, .int .i64 x.c, .int .i64 x.s] (x.h.map by8) [.int .u64 (x.t : Int), .int .i64 x.b, .int .i64 x.m] (by rw [List.length_map]; exact hx) 0 rfl) w, part_u64 35 _ _ (show y.cells.toArray[35]? = some (.int .u64 (y.t : Int)) by rw [List.getElem?_toArray]; exact post_cell [.int .i64 y.r, .int .i64 y.c, .int .i64 y.s] (y.h.map by8) [.int .u64 (y.t : Int), .int .i64 y.b, .int .i64 y.m] (by rw [List.length_map]; exact hy) 0 rfl) w, eql_u64 _ _ 9998 w⟩,
      ⟨_, _, (show (part 27 x.cells.toArray 36).run Try.prog w = .ok (.agg [.int .i64 x.b, .int .i64 x.m].toArray) w by rw [show x.cells = ([.int .i64 x.r, .int .i64 x.c, .int .i64 x.s] ++ (x.h.map by8 ++ [.int .u64 (x.t : Int)])) ++ ([.int .i64 x.b, .int .i64 x.m] ++ []) by simp [Wst.cells]]; exact part_rowx 27 2 36 _ _ _ row_sig (by simp [hx]) rfl w), (show (part 27 y.cells.toArray 36).run Try.prog w = .ok (.agg [.int .i64 y.b, .int .i64 y.m].toArray) w by rw [show y.cells = ([.int .i64 y.r, .int .i64 y.c, .int .i64 y.s] ++ (y.h.map by8 ++ [.int .u64 (y.t : Int)])) ++ ([.int .i64 y.b, .int .i64 y.m] ++ []) by simp [Wst.cells]]; exact part_rowx 27 2 36 _ _ _ row_sig (by simp [hy]) rfl w), eql_sig _ _ _ _ 9997 w⟩, trivial⟩
def Wvt.eqB (x y : Wvt) : Bool := [decide (x.k = y.k), decide (x.e = y.e), decide (x.r = y.r), decide (x.p = y.p), decide (x.h = y.h), (decide (x.b = y.b) && decide (x.m = y.m))].all id
theorem Wvt.eqB_iff (x y : Wvt) : x.eqB y = true ↔ x = y := by
  obtain ⟨_, _, _, _, _, _, _⟩ := x
  obtain ⟨_, _, _, _, _, _, _⟩ := y
  simp [Wvt.eqB, Wvt.mk.injEq, and_assoc]
  (try omega)
set_option maxHeartbeats 1000000 in
theorem eql_Wvt (x y : Wvt) (hx : x.h.length = 32) (hy : y.h.length = 32) (w : World) : (Op.equalIn 10000 49 (.agg x.cells.toArray) (.agg y.cells.toArray)).run Try.prog w = .ok (x.eqB y) w :=
  eql_of (d := 9999) (C := x.cells.toArray) (D := y.cells.toArray) (l := [(3, 0), (3, 1), (3, 2), (3, 3), (25, 4), (27, 36)]) (run_equalIn_struct w 9999 49 x.cells.toArray y.cells.toArray (by kernel_rfl) (by kernel_rfl)) (by kernel_rfl)
    (bs := [decide (x.k = y.k), decide (x.e = y.e), decide (x.r = y.r), decide (x.p = y.p), decide (x.h = y.h), (decide (x.b = y.b) && decide (x.m = y.m))])
    ⟨⟨_, _, part_int 0 _ _ (show x.cells.toArray[0]? = some (.int .i64 x.k) from rfl) w, part_int 0 _ _ (show y.cells.toArray[0]? = some (.int .i64 y.k) from rfl) w, eql_int _ _ 9998 w⟩,
      ⟨_, _, part_int 1 _ _ (show x.cells.toArray[1]? = some (.int .i64 x.e) from rfl) w, part_int 1 _ _ (show y.cells.toArray[1]? = some (.int .i64 y.e) from rfl) w, eql_int _ _ 9998 w⟩,
      ⟨_, _, part_int 2 _ _ (show x.cells.toArray[2]? = some (.int .i64 x.r) from rfl) w, part_int 2 _ _ (show y.cells.toArray[2]? = some (.int .i64 y.r) from rfl) w, eql_int _ _ 9998 w⟩,
      ⟨_, _, part_int 3 _ _ (show x.cells.toArray[3]? = some (.int .i64 x.p) from rfl) w, part_int 3 _ _ (show y.cells.toArray[3]? = some (.int .i64 y.p) from rfl) w, eql_int _ _ 9998 w⟩,
      ⟨_, _, (part_rowx 25 32 4 [.int .i64 x.k, .int .i64 x.e, .int .i64 x.r, .int .i64 x.p] (x.h.map by8) [.int .i64 x.b, .int .i64 x.m] row_hash rfl (by rw [List.length_map]; exact hx) w), (part_rowx 25 32 4 [.int .i64 y.k, .int .i64 y.e, .int .i64 y.r, .int .i64 y.p] (y.h.map by8) [.int .i64 y.b, .int .i64 y.m] row_hash rfl (by rw [List.length_map]; exact hy) w), eql_hash x.h y.h hx hy 9997 w⟩,
      ⟨_, _, (show (part 27 x.cells.toArray 36).run Try.prog w = .ok (.agg [.int .i64 x.b, .int .i64 x.m].toArray) w by rw [show x.cells = ([.int .i64 x.k, .int .i64 x.e, .int .i64 x.r, .int .i64 x.p] ++ (x.h.map by8 ++ [])) ++ ([.int .i64 x.b, .int .i64 x.m] ++ []) by simp [Wvt.cells]]; exact part_rowx 27 2 36 _ _ _ row_sig (by simp [hx]) rfl w), (show (part 27 y.cells.toArray 36).run Try.prog w = .ok (.agg [.int .i64 y.b, .int .i64 y.m].toArray) w by rw [show y.cells = ([.int .i64 y.k, .int .i64 y.e, .int .i64 y.r, .int .i64 y.p] ++ (y.h.map by8 ++ [])) ++ ([.int .i64 y.b, .int .i64 y.m] ++ []) by simp [Wvt.cells]]; exact part_rowx 27 2 36 _ _ _ row_sig (by simp [hy]) rfl w), eql_sig _ _ _ _ 9997 w⟩, trivial⟩
def Wdn.eqB (x y : Wdn) : Bool := [decide (x.r = y.r), decide (x.i = y.i), (decide (x.b = y.b) && decide (x.m = y.m))].all id
theorem Wdn.eqB_iff (x y : Wdn) : x.eqB y = true ↔ x = y := by
  obtain ⟨_, _, _, _⟩ := x
  obtain ⟨_, _, _, _⟩ := y
  simp [Wdn.eqB, Wdn.mk.injEq, and_assoc]
  (try omega)
set_option maxHeartbeats 1000000 in
theorem eql_Wdn (x y : Wdn) (w : World) : (Op.equalIn 10000 56 (.agg x.cells.toArray) (.agg y.cells.toArray)).run Try.prog w = .ok (x.eqB y) w :=
  eql_of (d := 9999) (C := x.cells.toArray) (D := y.cells.toArray) (l := [(3, 0), (3, 1), (27, 2)]) (run_equalIn_struct w 9999 56 x.cells.toArray y.cells.toArray (by kernel_rfl) (by kernel_rfl)) (by kernel_rfl)
    (bs := [decide (x.r = y.r), decide (x.i = y.i), (decide (x.b = y.b) && decide (x.m = y.m))])
    ⟨⟨_, _, part_int 0 _ _ (show x.cells.toArray[0]? = some (.int .i64 x.r) from rfl) w, part_int 0 _ _ (show y.cells.toArray[0]? = some (.int .i64 y.r) from rfl) w, eql_int _ _ 9998 w⟩,
      ⟨_, _, part_int 1 _ _ (show x.cells.toArray[1]? = some (.int .i64 x.i) from rfl) w, part_int 1 _ _ (show y.cells.toArray[1]? = some (.int .i64 y.i) from rfl) w, eql_int _ _ 9998 w⟩,
      ⟨_, _, (part_rowx 27 2 2 [.int .i64 x.r, .int .i64 x.i] [.int .i64 x.b, .int .i64 x.m] [] row_sig rfl rfl w), (part_rowx 27 2 2 [.int .i64 y.r, .int .i64 y.i] [.int .i64 y.b, .int .i64 y.m] [] row_sig rfl rfl w), eql_sig _ _ _ _ 9997 w⟩, trivial⟩
end Go.Proofs.Ytnpjihdhpoddgaa

namespace Go.Proofs.Ytnpjihdhpoddgaa
open Go.RowKit
set_option maxRecDepth 100000
theorem add_off (g o j : Nat) : (⟨g, o, none⟩ : Addr).add j = ⟨g, o + j, none⟩ := by unfold Addr.add; split <;> simp_all
theorem wpList_eqlg {P : Program} {ops : Array Oper} {rest : List Oper} {op : Oper} {a : Act} {w : World} {Q : Exit → Act → World → Prop} (hw : Region.wanted op (yielded ops a.tmps) = true) (ty r : TypeId) (x y : Operand) (ho : op.op = .binOp .eql ty x y r) (C D : Array Value) (hx : a.eval x = .agg C) (hy : a.eval y = .agg D) (b : Bool)
    (hg : P.eqGuardType P.depth ty = false) (hq : (Op.equalIn 10000 ty (.agg C) (.agg D)).run P w = .ok b w) (h : wpList P ops Q rest (a.put op.dst (.bool b)) w) : wpList P ops Q (op :: rest) a w :=
  BigFrame.wpList_want hw fun _ hK => wp_run (exec_eql ty r x y ho C D hx hy b hg hq) (hK _ _ h)
theorem wpList_midg {P : Program} {ops : Array Oper} {rest : List Oper} {op : Oper} {a : Act} {w : World} {Q : Exit → Act → World → Prop} (hw : Region.wanted op (yielded ops a.tmps) = true) (ty : TypeId) (x : Operand) (ho : op.op = .load ty x)
    (b o : Nat) (hx : a.eval x = .pointer (some ⟨b, o, none⟩)) (cs : List Value) (hc : w.rangeAt b o cs) (hr : RowTy P ty cs.length) (h : wpList P ops Q rest (a.put op.dst (.agg cs.toArray)) w) : wpList P ops Q (op :: rest) a w :=
  wpList_cells hw ty x ho ⟨b, o, none⟩ hx cs (fun j v hv => by rw [add_off]; exact hc j v hv) hr h
section
variable {P : Program} {l : List Oper} {Q : Exit → Act → World → Prop} {md : Region.Mode} {S : World → Prop} {fuel : Nat} {listed : Array Bool} {a : Act} {w : World}
theorem crow_at {i : Nat} {oi : Oper} (hi : nthOp l i = some oi) (ht : takeOk md l.toArray listed i = true) (hw : Region.wanted oi (yielded l.toArray a.tmps) = true)
    (ty : TypeId) (x : Operand) (ho : oi.op = .load ty x) (ad : Addr) (hx : a.eval x = .pointer (some ad)) (cs : List Value) (hc : ∀ w1, S w1 → ∀ j v, cs[j]? = some v → w1.cell? (ad.add j) = some v) (hr : RowTy P ty cs.length)
    (hQ : ∀ c a w, Q (.panic c) (a.put oi.dst (.agg cs.toArray)) w → Q (.panic c) a w) (hS : S w)
    (h : wpAnyH P md l.toArray Q S fuel (listed.setIfInBounds i true) (a.put oi.dst (.agg cs.toArray)) w) : wpAnyH P md l.toArray Q S (fuel + 1) listed a w :=
  take_at hi ht hQ (.inl ⟨hw, fun w1 h1 => exec_cells ty x ho ad hx cs hr (hc w1 h1)⟩) hS h
end
theorem row_hs : RowTy Try.prog 25 32 := ⟨by kernel_rfl, by kernel_rfl⟩
theorem row_opS : RowTy Try.prog 54 34 := ⟨by kernel_rfl, by kernel_rfl⟩
theorem row_dnS : RowTy Try.prog 56 4 := ⟨by kernel_rfl, by kernel_rfl⟩

theorem fld_add (ad : Addr) (m j : Nat) : (ad.add m).add (j + 1) = ⟨(ad.add m).block, (ad.add m).off + (j + 1), none⟩ := rfl

set_option maxHeartbeats 2000000 in
theorem opening_self (x : Wop) (w : World) (hx : x.Ok w []) (C : List Value) (hC : x.cells = C) :
    Calls Try.prog 17 #[.agg C.toArray, .agg C.toArray] w fun e w' => e = .returned (.bool true) ∧ Fr [] w w' := by
  obtain ⟨wa, hwa⟩ : ∃ wa, wa = (w.alloc (Obj.cells C.toArray 54)).alloc (Obj.cells C.toArray 54) := ⟨_, rfl⟩
  have hf0 : Fr [] w wa := by rw [hwa]; exact ((Fr.refl [] w).alloc _).alloc _
  have hb0 : Blk wa w.heap.size 54 x.cells.toArray := by rw [hwa, hC]; exact blk_alloc (Blk.new _ _ _)
  have hb1 : Blk wa (w.heap.size + 1) 54 x.cells.toArray := by
    have := Blk.new (w.alloc (Obj.cells C.toArray 54)) 54 C.toArray
    rw [hwa, hC]
    simpa using this
  have hr0 := hb0.range
  have hr1 := hb1.range
  have h00 : wa.cell? ⟨w.heap.size, 0, none⟩ = some (.int .i64 x.i) := by have h := hr0 0 _ rfl; simpa using h
  have h10 : wa.cell? ⟨w.heap.size + 1, 0, none⟩ = some (.int .i64 x.i) := by have h := hr1 0 _ rfl; simpa using h
  have h01 : wa.cell? ⟨w.heap.size, 1, none⟩ = some (.slice x.A x.n x.d) := by have h := hr0 1 _ rfl; simpa using h
  have h11 : wa.cell? ⟨w.heap.size + 1, 1, none⟩ = some (.slice x.A x.n x.d) := by have h := hr1 1 _ rfl; simpa using h
  have HH0 : Hid (wa.rangeAt w.heap.size 2 (x.h.map by8)) := Lib.hid (rangeAt_sub (o := 0) (xs := [.int .i64 x.i, .slice x.A x.n x.d]) (ys := x.h.map by8) (zs := []) hr0)
  have HH1 : Hid (wa.rangeAt (w.heap.size + 1) 2 (x.h.map by8)) := Lib.hid (rangeAt_sub (o := 0) (xs := [.int .i64 x.i, .slice x.A x.n x.d]) (ys := x.h.map by8) (zs := []) hr1)
  have HHL : Hid ((x.h.map by8).length = 32) := Lib.hid (by rw [List.length_map]; exact hx.h)
  have HEQ : Hid ((Op.equalIn 10000 25 (.agg (x.h.map by8).toArray) (.agg (x.h.map by8).toArray)).run Try.prog wa = .ok true wa) := Lib.hid (by
    have h := eql_hash x.h x.h hx.h hx.h 9998 wa
    simpa using h)
  have HF0 := Lib.hid hf0
  have HWA := Lib.hid hwa
  have HX := Lib.hid hx
  have hii : (x.i == x.i) = true := by simp
  clear hwa hf0 hb0 hb1 hr0 hr1 hx hC
  generalize hHV : x.h.map by8 = HV at *
  clear hHV
  go_enter Try.func17, Try.ntmps17
  go_upto_region 1 with (fail)
  change Code.wp _ _ _ _ ((w.alloc (Obj.cells C.toArray 54)).alloc (Obj.cells C.toArray 54))
  rw [← HWA.out]
  go_wp2_with (first
    | (refine wpList_midg rfl 25 _ rfl w.heap.size 2 rfl HV HH0.out (row_hs.of HHL.out) ?_)
    | (refine wpList_midg rfl 25 _ rfl (w.heap.size + 1) 2 rfl HV HH1.out (row_hs.of HHL.out) ?_)
    | (refine wpList_eqlg rfl 25 _ _ _ rfl HV.toArray HV.toArray rfl rfl true (by kernel_rfl) HEQ.out ?_))
  refine (same_any x.A x.A x.n x.n x.d x.d x.p x.p wa (HX.out.p.keep HF0.out (by simp)) (HX.out.p.keep HF0.out (by simp)) (by have := HX.out.n; omega)).mono ?_
  rintro e w1 ⟨rfl, k1, hw1⟩
  simp only [decide_true]
  have HF1 : Hid (Fr [] w w1) := Lib.hid (by rw [hw1]; exact HF0.out.drewN _)
  clear hw1 h00 h10 h01 h11 hii
  go_wp2
  go_ret
  exact ⟨rfl, HF1.out⟩

set_option maxHeartbeats 4000000 in
theorem openings_self (A : Option Addr) (n d : Nat) (l : List Wop) (w : World) (hl : Lst 34 Wop.cells (fun w v => v.Ok w []) w A n l) (hn : n ≤ 1000) :
    Calls Try.prog 37 #[.slice A n d, .slice A n d] w fun e w' => e = .returned (.bool true) ∧ Fr [] w w' := by
  have HL := Lib.hid hl
  have HN := Lib.hid hn
  have hn1 : (n : Int) ≤ 9223372036854775807 := by omega
  have hnn : ((n : Int) != (n : Int)) = false := by simp
  clear hl hn
  go_enter Try.func37, Try.ntmps37
  go_wp2_with fail
  clear hnn
  go_loopw [13] (fun i wr => ∃ j : Nat, j ≤ n ∧ i = .int .i64 j ∧ Hid (Fr [] w wr)) (fun i _ => n - (intOf i).toNat)
  case atStart => exact ⟨0, by omega, rfl, Lib.hid (Fr.refl _ _)⟩
  case round =>
    obtain ⟨j, hj, rfl, HF⟩ := hrel
    by_cases hlt : j < n
    · obtain ⟨ad, v, hA, hv, hcl, hok, hcells⟩ := HL.out.at (i := j) hlt
      subst hA
      have HCELLS : Hid (∀ i u, (Wop.cells v)[i]? = some u → wr.cell? ((ad.add (j * 34)).add i) = some u) := Lib.hid (fun i u hu => HF.out.cell (hcells i u hu) (by simp))
      have HCL := Lib.hid hcl
      have HOK := Lib.hid hok
      have HJN := Lib.hid hlt
      have hj0 : (0 : Int) ≤ j := by omega
      clear hcells hcl hok hv
      go_upto_region 6 with (fail)
      refine wp_region_held_drew (S := Fr [] wr) (by kernel_rfl) (Fr.drew (Fr.refl _ wr)) (fun hHeld => ?_)
      generalize wr.drew = wd at *
      refine run_at (i := 0) (v := ?_) rfl (by kernel_rfl) (by rfl) (fun _ _ _ h => h) hHeld (fun w1 hw1 => ?_) ?_
      rotate_left 1
      · skip
        go_simp
        (try (first | with_reducible rfl | (apply And.intro <;> rfl)))
      simp only [Act.put, List.setIfInBounds_toArray, List.set_cons_zero, List.set_cons_succ]
      refine run_at (i := 1) (v := ?_) rfl (by kernel_rfl) (by rfl) (fun _ _ _ h => h) hHeld (fun w1 hw1 => ?_) ?_
      rotate_left 1
      · skip
        go_simp
        (try (first | with_reducible rfl | (apply And.intro <;> rfl)))
      simp only [Act.put, List.setIfInBounds_toArray, List.set_cons_zero, List.set_cons_succ]
      refine run_at (i := 2) (v := ?_) rfl (by kernel_rfl) (by rfl) (fun _ _ _ h => h) hHeld (fun w1 hw1 => ?_) ?_
      rotate_left 1
      · skip
        go_simp
        (try (first | with_reducible rfl | (apply And.intro <;> rfl)))
      simp only [Act.put, List.setIfInBounds_toArray, List.set_cons_zero, List.set_cons_succ]
      refine crow_at (i := 3) rfl (by kernel_rfl) (by rfl) _ _ rfl _ rfl _ (fun w1 hw1 j v hv => hw1.cell ((HCELLS.out) j v hv) (by simp)) (row_opS.of HCL.out) (fun _ _ _ h => h) hHeld ?_
      simp only [Act.put, List.setIfInBounds_toArray, List.set_cons_zero, List.set_cons_succ]
      refine run_at (i := 4) (v := ?_) rfl (by kernel_rfl) (by rfl) (fun _ _ _ h => h) hHeld (fun w1 hw1 => ?_) ?_
      rotate_left 1
      · skip
        go_simp
        (try (first | with_reducible rfl | (apply And.intro <;> rfl)))
      simp only [Act.put, List.setIfInBounds_toArray, List.set_cons_zero, List.set_cons_succ]
      refine run_at (i := 5) (v := ?_) rfl (by kernel_rfl) (by rfl) (fun _ _ _ h => h) hHeld (fun w1 hw1 => ?_) ?_
      rotate_left 1
      · skip
        go_simp
        (try (first | with_reducible rfl | (apply And.intro <;> rfl)))
      simp only [Act.put, List.setIfInBounds_toArray, List.set_cons_zero, List.set_cons_succ]
      refine run_at (i := 6) (v := ?_) rfl (by kernel_rfl) (by rfl) (fun _ _ _ h => h) hHeld (fun w1 hw1 => ?_) ?_
      rotate_left 1
      · skip
        go_simp
        (try (first | with_reducible rfl | (apply And.intro <;> rfl)))
      simp only [Act.put, List.setIfInBounds_toArray, List.set_cons_zero, List.set_cons_succ]
      refine crow_at (i := 7) rfl (by kernel_rfl) (by rfl) _ _ rfl _ rfl _ (fun w1 hw1 j v hv => hw1.cell ((HCELLS.out) j v hv) (by simp)) (row_opS.of HCL.out) (fun _ _ _ h => h) hHeld ?_
      simp only [Act.put, List.setIfInBounds_toArray, List.set_cons_zero, List.set_cons_succ]
      refine call_at (i := 8) (f := ?_) (args := ?_) rfl (by kernel_rfl) (by rfl) ?_ ?_
      rotate_left 2
      · go_simp
        (try (first | with_reducible rfl | (apply And.intro <;> rfl)))
      refine (opening_self v wd ((HOK.out.keep HF.out (by simp)).keep hHeld (by simp)) _ rfl).mono ?_
      rintro e_ w9 ⟨rfl, hf⟩
      refine ⟨_, rfl, hHeld.and hf (by simp), fun hHeld => ?_⟩
      clear hf
      simp only [Act.put, List.setIfInBounds_toArray, List.set_cons_zero, List.set_cons_succ]
      refine run_at (i := 9) (v := ?_) rfl (by kernel_rfl) (by rfl) (fun _ _ _ h => h) hHeld (fun w1 hw1 => ?_) ?_
      rotate_left 1
      · skip
        go_simp
        (try (first | with_reducible rfl | (apply And.intro <;> rfl)))
      simp only [Act.put, List.setIfInBounds_toArray, List.set_cons_zero, List.set_cons_succ]
      refine wpAnyH_done (by kernel_rfl) ?_ _
      have HF9 : Hid (Fr [] w w9) := Lib.hid (HF.out.and hHeld (by simp))
      clear hHeld HCELLS HCL
      clear HOK
      go_wp2
      go_roundw
      case rel => exact ⟨j + 1, by have := HJN.out; omega, by go_num, HF9⟩
      case measure => have := HJN.out; simp [intOf]; omega
    · have hjn : n = j := by omega
      subst hjn
      clear hlt hj
      go_wp2
      go_ret
      exact ⟨rfl, HF.out⟩

set_option maxHeartbeats 4000000 in
theorem denies_self (A : Option Addr) (n d : Nat) (l : List Wdn) (w : World) (hl : Lst 4 Wdn.cells (fun _ v => v.Ok) w A n l) (hn : n ≤ 1000) :
    Calls Try.prog 56 #[.slice A n d, .slice A n d] w fun e w' => e = .returned (.bool true) ∧ Fr [] w w' := by
  have HL := Lib.hid hl
  have HN := Lib.hid hn
  have hn1 : (n : Int) ≤ 9223372036854775807 := by omega
  have hnn : ((n : Int) != (n : Int)) = false := by simp
  clear hl hn
  go_enter Try.func56, Try.ntmps56
  go_wp2_with fail
  clear hnn
  go_loopw [5] (fun i wr => ∃ j : Nat, j ≤ n ∧ i = .int .i64 j ∧ Hid (Fr [] w wr)) (fun i _ => n - (intOf i).toNat)
  case atStart => exact ⟨0, by omega, rfl, Lib.hid (Fr.refl _ _)⟩
  case round =>
    obtain ⟨j, hj, rfl, HF⟩ := hrel
    by_cases hlt : j < n
    · obtain ⟨ad, v, hA, hv, hcl, hok, hcells⟩ := HL.out.at (i := j) hlt
      subst hA
      have HCELLS : Hid (∀ i u, (Wdn.cells v)[i]? = some u → wr.cell? ((ad.add (j * 4)).add i) = some u) := Lib.hid (fun i u hu => HF.out.cell (hcells i u hu) (by simp))
      have HCL := Lib.hid hcl
      have HOK := Lib.hid hok
      have HJN := Lib.hid hlt
      have hj0 : (0 : Int) ≤ j := by omega
      clear hcells hcl hok hv
      have HEQ : Hid (∀ W : World, (Op.equalIn 10000 56 (.agg v.cells.toArray) (.agg v.cells.toArray)).run Try.prog W = .ok true W) := Lib.hid (fun W => by
        have h := eql_Wdn v v W
        rw [(Wdn.eqB_iff v v).2 rfl] at h
        exact h)
      go_upto_region 6 with (fail)
      refine wp_region_held_drew (S := Fr [] wr) (by kernel_rfl) (Fr.drew (Fr.refl _ wr)) (fun hHeld => ?_)
      generalize wr.drew = w9 at *
      refine run_at (i := 0) (v := ?_) rfl (by kernel_rfl) (by rfl) (fun _ _ _ h => h) hHeld (fun w1 hw1 => ?_) ?_
      rotate_left 1
      · skip
        go_simp
        (try (first | with_reducible rfl | (apply And.intro <;> rfl)))
      simp only [Act.put, List.setIfInBounds_toArray, List.set_cons_zero, List.set_cons_succ]
      refine run_at (i := 1) (v := ?_) rfl (by kernel_rfl) (by rfl) (fun _ _ _ h => h) hHeld (fun w1 hw1 => ?_) ?_
      rotate_left 1
      · skip
        go_simp
        (try (first | with_reducible rfl | (apply And.intro <;> rfl)))
      simp only [Act.put, List.setIfInBounds_toArray, List.set_cons_zero, List.set_cons_succ]
      refine run_at (i := 2) (v := ?_) rfl (by kernel_rfl) (by rfl) (fun _ _ _ h => h) hHeld (fun w1 hw1 => ?_) ?_
      rotate_left 1
      · skip
        go_simp
        (try (first | with_reducible rfl | (apply And.intro <;> rfl)))
      simp only [Act.put, List.setIfInBounds_toArray, List.set_cons_zero, List.set_cons_succ]
      refine crow_at (i := 3) rfl (by kernel_rfl) (by rfl) _ _ rfl _ rfl _ (fun w1 hw1 j v hv => hw1.cell ((HCELLS.out) j v hv) (by simp)) (row_dnS.of HCL.out) (fun _ _ _ h => h) hHeld ?_
      simp only [Act.put, List.setIfInBounds_toArray, List.set_cons_zero, List.set_cons_succ]
      refine run_at (i := 4) (v := ?_) rfl (by kernel_rfl) (by rfl) (fun _ _ _ h => h) hHeld (fun w1 hw1 => ?_) ?_
      rotate_left 1
      · skip
        go_simp
        (try (first | with_reducible rfl | (apply And.intro <;> rfl)))
      simp only [Act.put, List.setIfInBounds_toArray, List.set_cons_zero, List.set_cons_succ]
      refine run_at (i := 5) (v := ?_) rfl (by kernel_rfl) (by rfl) (fun _ _ _ h => h) hHeld (fun w1 hw1 => ?_) ?_
      rotate_left 1
      · skip
        go_simp
        (try (first | with_reducible rfl | (apply And.intro <;> rfl)))
      simp only [Act.put, List.setIfInBounds_toArray, List.set_cons_zero, List.set_cons_succ]
      refine run_at (i := 6) (v := ?_) rfl (by kernel_rfl) (by rfl) (fun _ _ _ h => h) hHeld (fun w1 hw1 => ?_) ?_
      rotate_left 1
      · skip
        go_simp
        (try (first | with_reducible rfl | (apply And.intro <;> rfl)))
      simp only [Act.put, List.setIfInBounds_toArray, List.set_cons_zero, List.set_cons_succ]
      refine crow_at (i := 7) rfl (by kernel_rfl) (by rfl) _ _ rfl _ rfl _ (fun w1 hw1 j v hv => hw1.cell ((HCELLS.out) j v hv) (by simp)) (row_dnS.of HCL.out) (fun _ _ _ h => h) hHeld ?_
      simp only [Act.put, List.setIfInBounds_toArray, List.set_cons_zero, List.set_cons_succ]
      refine neq_at (i := 8) rfl (by kernel_rfl) (by rfl) _ _ _ _ rfl _ _ rfl rfl _ (by kernel_rfl) (HEQ.out) (fun _ _ _ h => h) hHeld ?_
      simp only [Act.put, List.setIfInBounds_toArray, List.set_cons_zero, List.set_cons_succ]
      refine wpAnyH_done (by kernel_rfl) ?_ _
      have HF9 : Hid (Fr [] w w9) := Lib.hid (HF.out.and hHeld (by simp))
      clear hHeld HCELLS HCL
      clear HOK
      go_wp2
      go_roundw
      case rel => exact ⟨j + 1, by have := HJN.out; omega, by go_num, HF9⟩
      case measure => have := HJN.out; simp [intOf]; omega
    · have hjn : n = j := by omega
      subst hjn
      clear hlt hj
      go_wp2
      go_ret
      exact ⟨rfl, HF.out⟩

set_option maxHeartbeats 4000000 in
theorem tombs_self (A : Option Addr) (n d : Nat) (l : List Wtb) (w : World) (hl : Lst 2 Wtb.cells (fun w v => v.Ok w []) w A n l) (hn : n ≤ 1000) :
    Calls Try.prog 38 #[.slice A n d, .slice A n d] w fun e w' => e = .returned (.bool true) ∧ Fr [] w w' := by
  have HL := Lib.hid hl
  have HN := Lib.hid hn
  have hn1 : (n : Int) ≤ 9223372036854775807 := by omega
  have hnn : ((n : Int) != (n : Int)) = false := by simp
  clear hl hn
  go_enter Try.func38, Try.ntmps38
  go_wp2_with fail
  clear hnn
  go_loopw [13] (fun i wr => ∃ j : Nat, j ≤ n ∧ i = .int .i64 j ∧ Hid (Fr [] w wr)) (fun i _ => n - (intOf i).toNat)
  case atStart => exact ⟨0, by omega, rfl, Lib.hid (Fr.refl _ _)⟩
  case round =>
    obtain ⟨j, hj, rfl, HF⟩ := hrel
    by_cases hlt : j < n
    · obtain ⟨ad, v, hA, hv, hcl, hok, hcells⟩ := HL.out.at (i := j) hlt
      subst hA
      have HCELLS : Hid (∀ i u, (Wtb.cells v)[i]? = some u → wr.cell? ((ad.add (j * 2)).add i) = some u) := Lib.hid (fun i u hu => HF.out.cell (hcells i u hu) (by simp))
      have HCL := Lib.hid hcl
      have HOK := Lib.hid hok
      have HJN := Lib.hid hlt
      have hj0 : (0 : Int) ≤ j := by omega
      clear hcells hcl hok hv
      have HC0 : Hid (wr.cell? (ad.add (j * 2)) = some (.int .i64 v.i)) := Lib.hid (by have h := HCELLS.out 0 _ rfl; simpa [Addr.add] using h)
      have HC1 : Hid (wr.cell? ⟨(ad.add (j * 2)).block, (ad.add (j * 2)).off + 1, none⟩ = some (.slice v.A v.n v.d)) := Lib.hid (by have h := HCELLS.out 1 _ rfl; rw [fld_add] at h; exact h)
      have HII : Hid ((v.i != v.i) = false) := Lib.hid (by simp)
      go_upto_region 6 with (fail)
      refine wp_region_held_drew (S := Fr [] wr) (by kernel_rfl) (Fr.drew (Fr.refl _ wr)) (fun hHeld => ?_)
      generalize wr.drew = wd at *
      refine run_at (i := 0) (v := ?_) rfl (by kernel_rfl) (by rfl) (fun _ _ _ h => h) hHeld (fun w1 hw1 => ?_) ?_
      rotate_left 1
      · skip
        go_simp
        (try (first | with_reducible rfl | (apply And.intro <;> rfl)))
      simp only [Act.put, List.setIfInBounds_toArray, List.set_cons_zero, List.set_cons_succ]
      refine run_at (i := 1) (v := ?_) rfl (by kernel_rfl) (by rfl) (fun _ _ _ h => h) hHeld (fun w1 hw1 => ?_) ?_
      rotate_left 1
      · skip
        go_simp
        (try (first | with_reducible rfl | (apply And.intro <;> rfl)))
      simp only [Act.put, List.setIfInBounds_toArray, List.set_cons_zero, List.set_cons_succ]
      refine run_at (i := 2) (v := ?_) rfl (by kernel_rfl) (by rfl) (fun _ _ _ h => h) hHeld (fun w1 hw1 => ?_) ?_
      rotate_left 1
      · skip
        go_simp
        (try (first | with_reducible rfl | (apply And.intro <;> rfl)))
      simp only [Act.put, List.setIfInBounds_toArray, List.set_cons_zero, List.set_cons_succ]
      refine run_at (i := 3) (v := ?_) rfl (by kernel_rfl) (by rfl) (fun _ _ _ h => h) hHeld (fun w1 hw1 => ?_) ?_
      rotate_left 1
      · skip
        go_simp
        (try (first | with_reducible rfl | (apply And.intro <;> rfl)))
      simp only [Act.put, List.setIfInBounds_toArray, List.set_cons_zero, List.set_cons_succ]
      refine run_at (i := 4) (v := ?_) rfl (by kernel_rfl) (by rfl) (fun _ _ _ h => h) hHeld (fun w1 hw1 => ?_) ?_
      rotate_left 1
      · skip
        have hcw0 := hw1.cell (HC0.out) (by first | (simp; done) | exact HNS.out | exact HNW.out | (intro hm; have hlt := HSB.out _ hm; (try dsimp only at hlt); omega))
        go_simp
        (try (first | with_reducible rfl | (apply And.intro <;> rfl)))
      simp only [Act.put, List.setIfInBounds_toArray, List.set_cons_zero, List.set_cons_succ]
      refine run_at (i := 5) (v := ?_) rfl (by kernel_rfl) (by rfl) (fun _ _ _ h => h) hHeld (fun w1 hw1 => ?_) ?_
      rotate_left 1
      · skip
        go_simp
        (try (first | with_reducible rfl | (apply And.intro <;> rfl)))
      simp only [Act.put, List.setIfInBounds_toArray, List.set_cons_zero, List.set_cons_succ]
      refine run_at (i := 6) (v := ?_) rfl (by kernel_rfl) (by rfl) (fun _ _ _ h => h) hHeld (fun w1 hw1 => ?_) ?_
      rotate_left 1
      · skip
        go_simp
        (try (first | with_reducible rfl | (apply And.intro <;> rfl)))
      simp only [Act.put, List.setIfInBounds_toArray, List.set_cons_zero, List.set_cons_succ]
      refine run_at (i := 7) (v := ?_) rfl (by kernel_rfl) (by rfl) (fun _ _ _ h => h) hHeld (fun w1 hw1 => ?_) ?_
      rotate_left 1
      · skip
        go_simp
        (try (first | with_reducible rfl | (apply And.intro <;> rfl)))
      simp only [Act.put, List.setIfInBounds_toArray, List.set_cons_zero, List.set_cons_succ]
      refine run_at (i := 8) (v := ?_) rfl (by kernel_rfl) (by rfl) (fun _ _ _ h => h) hHeld (fun w1 hw1 => ?_) ?_
      rotate_left 1
      · skip
        go_simp
        (try (first | with_reducible rfl | (apply And.intro <;> rfl)))
      simp only [Act.put, List.setIfInBounds_toArray, List.set_cons_zero, List.set_cons_succ]
      refine run_at (i := 9) (v := ?_) rfl (by kernel_rfl) (by rfl) (fun _ _ _ h => h) hHeld (fun w1 hw1 => ?_) ?_
      rotate_left 1
      · skip
        have hcw0 := hw1.cell (HC0.out) (by first | (simp; done) | exact HNS.out | exact HNW.out | (intro hm; have hlt := HSB.out _ hm; (try dsimp only at hlt); omega))
        go_simp
        (try (first | with_reducible rfl | (apply And.intro <;> rfl)))
      simp only [Act.put, List.setIfInBounds_toArray, List.set_cons_zero, List.set_cons_succ]
      refine run_at (i := 10) (v := ?_) rfl (by kernel_rfl) (by rfl) (fun _ _ _ h => h) hHeld (fun w1 hw1 => ?_) ?_
      rotate_left 1
      · skip
        go_simp
        (try (first | with_reducible rfl | (apply And.intro <;> rfl)))
      simp only [Act.put, List.setIfInBounds_toArray, List.set_cons_zero, List.set_cons_succ]
      try rw [HII.out]
      refine run_at (i := 11) (v := ?_) rfl (by kernel_rfl) (by rfl) (fun _ _ _ h => h) hHeld (fun w1 hw1 => ?_) ?_
      rotate_left 1
      · skip
        go_simp
        (try (first | with_reducible rfl | (apply And.intro <;> rfl)))
      simp only [Act.put, List.setIfInBounds_toArray, List.set_cons_zero, List.set_cons_succ]
      refine run_at (i := 12) (v := ?_) rfl (by kernel_rfl) (by rfl) (fun _ _ _ h => h) hHeld (fun w1 hw1 => ?_) ?_
      rotate_left 1
      · skip
        go_simp
        (try (first | with_reducible rfl | (apply And.intro <;> rfl)))
      simp only [Act.put, List.setIfInBounds_toArray, List.set_cons_zero, List.set_cons_succ]
      refine run_at (i := 13) (v := ?_) rfl (by kernel_rfl) (by rfl) (fun _ _ _ h => h) hHeld (fun w1 hw1 => ?_) ?_
      rotate_left 1
      · skip
        go_simp
        (try (first | with_reducible rfl | (apply And.intro <;> rfl)))
      simp only [Act.put, List.setIfInBounds_toArray, List.set_cons_zero, List.set_cons_succ]
      refine run_at (i := 14) (v := ?_) rfl (by kernel_rfl) (by rfl) (fun _ _ _ h => h) hHeld (fun w1 hw1 => ?_) ?_
      rotate_left 1
      · skip
        go_simp
        (try (first | with_reducible rfl | (apply And.intro <;> rfl)))
      simp only [Act.put, List.setIfInBounds_toArray, List.set_cons_zero, List.set_cons_succ]
      refine run_at (i := 15) (v := ?_) rfl (by kernel_rfl) (by rfl) (fun _ _ _ h => h) hHeld (fun w1 hw1 => ?_) ?_
      rotate_left 1
      · skip
        go_simp
        (try (first | with_reducible rfl | (apply And.intro <;> rfl)))
      simp only [Act.put, List.setIfInBounds_toArray, List.set_cons_zero, List.set_cons_succ]
      refine run_at (i := 16) (v := ?_) rfl (by kernel_rfl) (by rfl) (fun _ _ _ h => h) hHeld (fun w1 hw1 => ?_) ?_
      rotate_left 1
      · skip
        have hcw0 := hw1.cell (HC1.out) (by first | (simp; done) | exact HNS.out | exact HNW.out | (intro hm; have hlt := HSB.out _ hm; (try dsimp only at hlt); omega))
        go_simp
        (try (first | with_reducible rfl | (apply And.intro <;> rfl)))
      simp only [Act.put, List.setIfInBounds_toArray, List.set_cons_zero, List.set_cons_succ]
      refine run_at (i := 17) (v := ?_) rfl (by kernel_rfl) (by rfl) (fun _ _ _ h => h) hHeld (fun w1 hw1 => ?_) ?_
      rotate_left 1
      · skip
        go_simp
        (try (first | with_reducible rfl | (apply And.intro <;> rfl)))
      simp only [Act.put, List.setIfInBounds_toArray, List.set_cons_zero, List.set_cons_succ]
      refine run_at (i := 18) (v := ?_) rfl (by kernel_rfl) (by rfl) (fun _ _ _ h => h) hHeld (fun w1 hw1 => ?_) ?_
      rotate_left 1
      · skip
        go_simp
        (try (first | with_reducible rfl | (apply And.intro <;> rfl)))
      simp only [Act.put, List.setIfInBounds_toArray, List.set_cons_zero, List.set_cons_succ]
      refine run_at (i := 19) (v := ?_) rfl (by kernel_rfl) (by rfl) (fun _ _ _ h => h) hHeld (fun w1 hw1 => ?_) ?_
      rotate_left 1
      · skip
        go_simp
        (try (first | with_reducible rfl | (apply And.intro <;> rfl)))
      simp only [Act.put, List.setIfInBounds_toArray, List.set_cons_zero, List.set_cons_succ]
      refine run_at (i := 20) (v := ?_) rfl (by kernel_rfl) (by rfl) (fun _ _ _ h => h) hHeld (fun w1 hw1 => ?_) ?_
      rotate_left 1
      · skip
        go_simp
        (try (first | with_reducible rfl | (apply And.intro <;> rfl)))
      simp only [Act.put, List.setIfInBounds_toArray, List.set_cons_zero, List.set_cons_succ]
      refine run_at (i := 21) (v := ?_) rfl (by kernel_rfl) (by rfl) (fun _ _ _ h => h) hHeld (fun w1 hw1 => ?_) ?_
      rotate_left 1
      · skip
        have hcw0 := hw1.cell (HC1.out) (by first | (simp; done) | exact HNS.out | exact HNW.out | (intro hm; have hlt := HSB.out _ hm; (try dsimp only at hlt); omega))
        go_simp
        (try (first | with_reducible rfl | (apply And.intro <;> rfl)))
      simp only [Act.put, List.setIfInBounds_toArray, List.set_cons_zero, List.set_cons_succ]
      refine call_at (i := 22) (f := ?_) (args := ?_) rfl (by kernel_rfl) (by rfl) ?_ ?_
      rotate_left 2
      · go_simp
        (try (first | with_reducible rfl | (apply And.intro <;> rfl)))
      refine (denies_self v.A v.n v.d v.l wd (HOK.out.l.keep' (HF.out.and hHeld (by simp)) (by simp) (fun _ _ h => h)) (by have := HOK.out.n; omega)).mono ?_
      rintro e_ w9 ⟨rfl, hf⟩
      refine ⟨_, rfl, hHeld.and hf (by simp), fun hHeld => ?_⟩
      clear hf
      simp only [Act.put, List.setIfInBounds_toArray, List.set_cons_zero, List.set_cons_succ]
      refine run_at (i := 23) (v := ?_) rfl (by kernel_rfl) (by rfl) (fun _ _ _ h => h) hHeld (fun w1 hw1 => ?_) ?_
      rotate_left 1
      · skip
        go_simp
        (try (first | with_reducible rfl | (apply And.intro <;> rfl)))
      simp only [Act.put, List.setIfInBounds_toArray, List.set_cons_zero, List.set_cons_succ]
      refine run_at (i := 24) (v := ?_) rfl (by kernel_rfl) (by rfl) (fun _ _ _ h => h) hHeld (fun w1 hw1 => ?_) ?_
      rotate_left 1
      · skip
        go_simp
        (try (first | with_reducible rfl | (apply And.intro <;> rfl)))
      simp only [Act.put, List.setIfInBounds_toArray, List.set_cons_zero, List.set_cons_succ]
      refine wpAnyH_done (by kernel_rfl) ?_ _
      have HF9 : Hid (Fr [] w w9) := Lib.hid (HF.out.and hHeld (by simp))
      clear hHeld HCELLS HCL HC0 HC1
      clear HOK
      go_wp2
      go_roundw
      case rel => exact ⟨j + 1, by have := HJN.out; omega, by go_num, HF9⟩
      case measure => have := HJN.out; simp [intOf]; omega
    · have hjn : n = j := by omega
      subst hjn
      clear hlt hj
      go_wp2
      go_ret
      exact ⟨rfl, HF.out⟩
end Go.Proofs.Ytnpjihdhpoddgaa

namespace Go.Proofs.Ytnpjihdhpoddgaa
open Go.RowKit
set_option maxRecDepth 100000

theorem made_ok (c s : Int) (hc : 0 ≤ c ∧ c < 1099511627776) (hs : i64In s) (h b : List UInt8) (hb : b.length ≤ 1000000) (l : List Ent) (hl : l.length < 1048576) : (made c s h b l).Ok := by
  refine ⟨⟨by show _ ≤ c; omega, by show c < _; omega⟩, hs, sumL_len _, ⟨by show _ ≤ ((b.length : Nat) : Int); omega, by show ((b.length : Nat) : Int) < _; omega⟩, ⟨by show _ ≤ 1000 + c; omega, by show 1000 + c < _; omega⟩, ?_⟩
  show i64In (mrk _ _)
  unfold mrk i64In
  have h1 : List.idxOf (1000 + c, (made0 c s h b).text) (sgn l (1000 + c, (made0 c s h b).text)) ≤ (sgn l (1000 + c, (made0 c s h b).text)).length := List.idxOf_le_length
  have h2 : (sgn l (1000 + c, (made0 c s h b).text)).length ≤ l.length + 1 := by unfold sgn; split <;> simp
  omega
theorem made_right (c s : Int) (hc : 0 ≤ c) (h b : List UInt8) (l : List Ent) (k : Int) (hk : c < k) (hs : 1 ≤ s ∧ s ≤ 1048576) (hb : b.length ≤ 256) :
    rightC k (sgn l (1000 + c, (made0 c s h b).text)) (made c s h b l) = true := by
  unfold rightC
  have h1 : validB k (made c s h b l) = true := by
    unfold validB
    simp only [decide_eq_true_eq]
    exact ⟨hc, hk, hs.1, hs.2, by show (0 : Int) ≤ ((b.length : Nat) : Int); omega, by show ((b.length : Nat) : Int) ≤ 256; omega⟩
  have h2 : signB (made c s h b l).b (made c s h b l).c = true := by
    unfold signB
    simp only [decide_eq_true_eq]
    exact ⟨by show 1000 ≤ 1000 + c; omega, by show 1000 + c - 1000 = c; omega⟩
  rw [h1, h2, made_text]
  exact rightB_sgn l (1000 + c) (made0 c s h b).text

end Go.Proofs.Ytnpjihdhpoddgaa

namespace Go.Proofs.Ytnpjihdhpoddgaa
open Go.RowKit
set_option maxRecDepth 100000
def zeroOp : Array Value := (opnCells 0 none 0 0 (List.replicate 32 0)).toArray
theorem built_op (parts : List (Nat × Value)) : Try.prog.built 54 parts = Instr.fill ([(0, 1), (1, 1), (2, 32)].toArray[·]?) zeroOp parts := by kernel_rfl
theorem built_opening (A : Option Addr) (n c : Nat) (h : List UInt8) (hh : h.length = 32) :
    Try.prog.built 54 [(1, .slice A n c), (2, .agg (h.map by8).toArray)] = some (opnCells 0 A n c h).toArray := by
  have hz : zeroOp.size = 34 := rfl
  rw [built_op, fill_step _ _ 1 1 1 _ _ rfl rfl (by rw [hz]; omega), fill_step _ _ 2 2 32 _ _ rfl (by simp [Value.cells, hh]) (by simp [splice, zeroOp, opnCells, Value.cells]), Instr.fill]
  congr 2
  simp [splice, zeroOp, opnCells, Value.cells, hh]
theorem built_opening3 (i : Int) (A : Option Addr) (n c : Nat) (h : List UInt8) (hh : h.length = 32) :
    Try.prog.built 54 [(0, .int .i64 i), (1, .slice A n c), (2, .agg (h.map by8).toArray)] = some (opnCells i A n c h).toArray := by
  have hz : zeroOp.size = 34 := rfl
  rw [built_op, fill_step _ _ 0 0 1 _ _ rfl rfl (by rw [hz]; omega), fill_step _ _ 1 1 1 _ _ rfl rfl (by simp [splice, zeroOp, opnCells, Value.cells]), fill_step _ _ 2 2 32 _ _ rfl (by simp [Value.cells, hh]) (by simp [splice, zeroOp, opnCells, Value.cells]), Instr.fill]
  congr 2
  simp [splice, zeroOp, opnCells, Value.cells, hh]
theorem built_opening2 (h : List UInt8) (hh : h.length = 32) :
    Try.prog.built 54 [(2, .agg (h.map by8).toArray)] = some (opnCells 0 none 0 0 h).toArray := by
  have hz : zeroOp.size = 34 := rfl
  rw [built_op, fill_step _ _ 2 2 32 _ _ rfl (by simp [Value.cells, hh]) (by rw [hz]; omega), Instr.fill]
  congr 2
  simp [splice, zeroOp, opnCells, Value.cells, hh]
end Go.Proofs.Ytnpjihdhpoddgaa

namespace Go.Proofs.Ytnpjihdhpoddgaa
open Go.RowKit
set_option maxRecDepth 100000
theorem part_row (ty : TypeId) (n off : Nat) (xs ys zs : List Value) (h : RowTy Try.prog ty n) (hx : xs.length = off) (hy : ys.length = n) (w : World) : (part ty (xs ++ (ys ++ zs)).toArray off).run Try.prog w = .ok (.agg ys.toArray) w := by
  obtain ⟨h1, h2⟩ := h
  cases hu : Try.prog.underlying ty with
  | none => rw [hu] at h1; cases h1
  | some d =>
    rw [hu] at h1
    cases hi : Try.prog.info? ty with
    | none => rw [hi] at h2; cases h2
    | some i =>
      have hs : i.size = n := by simpa [hi] using h2
      have hagg : (isAgg ty).run Try.prog w = .ok true w := by
        unfold isAgg
        rw [Sem.run_bind, run_underlying hu w]
        cases d <;> simp_all
      unfold part
      simp [hagg, sizeOf, typeInfo, hi, hs]
      subst hx
      subst hy
      simp
theorem hash_selfd (xs : List UInt8) (hx : xs.length = 32) (d : Nat) (w : World) :
    (Op.equalIn (d + 2) 25 (.agg (xs.map by8).toArray) (.agg (xs.map by8).toArray)).run Try.prog w = .ok true w := by
  have h := run_equalIn_bytes (P := Try.prog) w d 25 5 32 Try.underlying25 Try.underlying5 u8_size1 xs xs hx hx
  rw [show (xs == xs) = true by simp] at h
  exact h
theorem int_selfd (z : Int) (d : Nat) (w : World) : (Op.equalIn (d + 1) 3 (.int .i64 z) (.int .i64 z)).run Try.prog w = .ok true w := by
  have h := run_equalIn_int (P := Try.prog) w d 3 .i64 .i64 z z Try.underlying3
  rw [show (z == z) = true by simp] at h
  exact h
theorem stood (t : TypeId) (h : Try.prog.stoodInHeld t = false) : Try.prog.stoodInHeld t = false := h
set_option maxHeartbeats 1000000 in
theorem name_selfd (a b : Int) (d : Nat) (w : World) : (Op.equalIn (d + 2) 23 (.agg #[.int .i64 a, .int .i64 b]) (.agg #[.int .i64 a, .int .i64 b])).run Try.prog w = .ok true w := by
  have h1 := int_selfd a d w
  have h2 := int_selfd b d w
  rw [run_equalIn_struct w (d + 1) 23 _ _ (by kernel_rfl) (by kernel_rfl)]
  go_simp
theorem sig_selfd (a b : Int) (d : Nat) (w : World) : (Op.equalIn (d + 2) 27 (.agg #[.int .i64 a, .int .i64 b]) (.agg #[.int .i64 a, .int .i64 b])).run Try.prog w = .ok true w := by
  have h1 := int_selfd a d w
  have h2 := int_selfd b d w
  rw [run_equalIn_struct w (d + 1) 27 _ _ (by kernel_rfl) (by kernel_rfl)]
  go_simp
theorem part_one (off : Nat) (cs : Array Value) (v : Value) (hv : cs[off]? = some v) (w : World) : (part 3 cs off).run Try.prog w = .ok v w :=
  run_part_plain w (by kernel_rfl) hv
theorem eqFields_step {P : Program} {d : Nat} {xs : Array Value} {f : Field} {fs : List Field} {v : Value} {w : World} (hn : f.name ≠ "_") (p : (part f.type xs f.offset).run P w = .ok v w) (q : (Op.equalIn d f.type v v).run P w = .ok true w) :
    (Op.eqFields d xs xs (f :: fs)).run P w = (Op.eqFields d xs xs fs).run P w := by
  rw [Op.eqFields, if_pos hn]
  simp only [Sem.run_bind, p, Result.andThen_ok, q]
  simp
theorem commit_self (x : Cm) (hh : x.h.length = 32) (w : World) : (Op.equalIn 10000 29 (.agg x.cells.toArray) (.agg x.cells.toArray)).run Try.prog w = .ok true w := by
  have hl : (x.h.map by8).length = 32 := by rw [List.length_map]; exact hh
  have p0 := part_row 23 2 0 [] [.int .i64 x.c, .int .i64 x.s] (x.h.map by8 ++ [.int .i64 x.n, .int .i64 x.b, .int .i64 x.m]) row_name rfl rfl w
  have p1 := part_row 25 32 2 [.int .i64 x.c, .int .i64 x.s] (x.h.map by8) [.int .i64 x.n, .int .i64 x.b, .int .i64 x.m] row_hash rfl hl w
  have p3 := part_row 27 2 35 ([.int .i64 x.c, .int .i64 x.s] ++ x.h.map by8 ++ [.int .i64 x.n]) [.int .i64 x.b, .int .i64 x.m] [] row_sig (by simp [hh]) rfl w
  have e1 : [] ++ ([.int .i64 x.c, .int .i64 x.s] ++ (x.h.map by8 ++ [.int .i64 x.n, .int .i64 x.b, .int .i64 x.m])) = x.cells := rfl
  have e2 : [.int .i64 x.c, .int .i64 x.s] ++ (x.h.map by8 ++ [.int .i64 x.n, .int .i64 x.b, .int .i64 x.m]) = x.cells := rfl
  have e3 : ([.int .i64 x.c, .int .i64 x.s] ++ x.h.map by8 ++ [.int .i64 x.n]) ++ ([.int .i64 x.b, .int .i64 x.m] ++ []) = x.cells := by simp [Cm.cells]
  rw [e1] at p0
  rw [e2] at p1
  rw [e3] at p3
  have h4 : x.cells.toArray[34]? = some (.int .i64 x.n) := by
    rw [List.getElem?_toArray, ← e3, List.getElem?_append_left (by simp [hh]), List.getElem?_append_right (by simp [hh])]; simp [hh]
  have p2 := part_one 34 x.cells.toArray _ h4 w
  have q0 : (Op.equalIn 9999 23 (.agg #[.int .i64 x.c, .int .i64 x.s]) (.agg #[.int .i64 x.c, .int .i64 x.s])).run Try.prog w = .ok true w := name_selfd x.c x.s 9997 w
  have q1 : (Op.equalIn 9999 25 (.agg (x.h.map by8).toArray) (.agg (x.h.map by8).toArray)).run Try.prog w = .ok true w := hash_selfd x.h hh 9997 w
  have q2 : (Op.equalIn 9999 3 (.int .i64 x.n) (.int .i64 x.n)).run Try.prog w = .ok true w := int_selfd x.n 9998 w
  have q3 : (Op.equalIn 9999 27 (.agg #[.int .i64 x.b, .int .i64 x.m]) (.agg #[.int .i64 x.b, .int .i64 x.m])).run Try.prog w = .ok true w := sig_selfd x.b x.m 9997 w
  clear e1 e2 e3 h4
  generalize x.cells.toArray = C at *
  rw [run_equalIn_struct w 9999 29 _ _ (by kernel_rfl) (by kernel_rfl)]
  have hfs : (Try.prog.fieldsOf 29).toList.map (fun f => (f.type, f.offset, f.name == "_")) = [(23, 0, false), (25, 2, false), (3, 34, false), (27, 35, false)] := by kernel_rfl
  generalize (Try.prog.fieldsOf 29).toList = fs at *
  have hl4 : fs.length = 4 := by have := congrArg List.length hfs; simpa using this
  match fs, hl4, hfs with
  | [a, b, c, d], _, hfs =>
    simp only [List.map_cons, List.map_nil, List.cons.injEq, Prod.mk.injEq, beq_eq_false_iff_ne, and_true] at hfs
    obtain ⟨⟨a1, a2, a3⟩, ⟨b1, b2, b3⟩, ⟨c1, c2, c3⟩, ⟨d1, d2, d3⟩⟩ := hfs
    rw [eqFields_step a3 (by rw [a1, a2]; exact p0) (by rw [a1]; exact q0), eqFields_step b3 (by rw [b1, b2]; exact p1) (by rw [b1]; exact q1), eqFields_step c3 (by rw [c1, c2]; exact p2) (by rw [c1]; exact q2), eqFields_step d3 (by rw [d1, d2]; exact p3) (by rw [d1]; exact q3)]
    rfl
end Go.Proofs.Ytnpjihdhpoddgaa

namespace Go.Proofs.Ytnpjihdhpoddgaa
open Go.RowKit
set_option maxRecDepth 100000
theorem map_at {α β : Type} {f : α → β} {l m : List α} {j : Nat} {v u : α} (h : l.map f = m.map f) (hv : l[j]? = some v) (hu : m[j]? = some u) : f v = f u := by
  have h1 := congrArg (·[j]?) h
  simpa [hv, hu] using h1
theorem eq_Wcm (x : Wcm) (hh : x.h.length = 32) (w : World) : (Op.equalIn 10000 29 (.agg x.cells.toArray) (.agg x.cells.toArray)).run Try.prog w = .ok true w := commit_self ⟨x.c, x.s, x.h, x.n, x.b, x.m⟩ hh w
theorem Wce.Ok.li {w : World} {S : List Nat} {x : Wce} (h : x.Ok w S) : x.Li w S := ⟨h.k, h.l, Nat.le_trans h.n (by omega), h.ap⟩
theorem Wtb.Ok.li {w : World} {S : List Nat} {x : Wtb} (h : x.Ok w S) : x.Li w S := ⟨h.i, h.l, Nat.le_trans h.n (by omega), h.ap⟩
theorem Wpr.Ok.li {w : World} {S : List Nat} {x : Wpr} (h : x.Ok w S) : x.Li w S := ⟨h.r, h.e, h.t, ⟨h.l.1, fun v hv => ⟨(h.l.2.1 v hv).1, (h.l.2.1 v hv).2.li⟩, h.l.2.2⟩, Nat.le_trans h.n (by omega), h.ap, h.b, h.m⟩
theorem Wba.Ok.li {w : World} {S : List Nat} {x : Wba} (h : x.Ok w S) : x.Li w S := ⟨h.e, h.t, ⟨h.l.1, fun v hv => ⟨(h.l.2.1 v hv).1, (h.l.2.1 v hv).2.li⟩, h.l.2.2⟩, Nat.le_trans h.n (by omega), h.ap, h.l2, Nat.le_trans h.n2 (by omega), h.ap2, ⟨h.l3.1, fun v hv => ⟨(h.l3.2.1 v hv).1, (h.l3.2.1 v hv).2.li⟩, h.l3.2.2⟩, Nat.le_trans h.n3 (by omega), h.ap3⟩

set_option maxHeartbeats 2000000 in
theorem opening_eq (x y : Wop) (w : World) (hx : x.Ok w []) (hy : y.Ok w []) (he : x.con = y.con) (C D : List Value) (hC : x.cells = C) (hD : y.cells = D) :
    Calls Try.prog 17 #[.agg C.toArray, .agg D.toArray] w fun e w' => e = .returned (.bool true) ∧ Fr [] w w' := by
  obtain ⟨wa, hwa⟩ : ∃ wa, wa = (w.alloc (Obj.cells C.toArray 54)).alloc (Obj.cells D.toArray 54) := ⟨_, rfl⟩
  have hf0 : Fr [] w wa := by rw [hwa]; exact ((Fr.refl [] w).alloc _).alloc _
  have hb0 : Blk wa w.heap.size 54 x.cells.toArray := by rw [hwa, hC]; exact blk_alloc (Blk.new _ _ _)
  have hb1 : Blk wa (w.heap.size + 1) 54 y.cells.toArray := by
    have := Blk.new (w.alloc (Obj.cells C.toArray 54)) 54 D.toArray
    rw [hwa, hD]
    simpa using this
  obtain ⟨i, A, n, d, p, h⟩ := x
  obtain ⟨i', B, m, d', p', h'⟩ := y
  unfold Wop.con at he
  simp only [Cop.mk.injEq] at he
  obtain ⟨rfl, rfl, rfl⟩ := he
  have hr0 := hb0.range
  have hr1 := hb1.range
  have h00 : wa.cell? ⟨w.heap.size, 0, none⟩ = some (.int .i64 i) := by have h := hr0 0 _ rfl; simpa using h
  have h10 : wa.cell? ⟨w.heap.size + 1, 0, none⟩ = some (.int .i64 i) := by have h := hr1 0 _ rfl; simpa using h
  have h01 : wa.cell? ⟨w.heap.size, 1, none⟩ = some (.slice A n d) := by have h := hr0 1 _ rfl; simpa using h
  have h11 : wa.cell? ⟨w.heap.size + 1, 1, none⟩ = some (.slice B m d') := by have h := hr1 1 _ rfl; simpa using h
  have HH0 : Hid (wa.rangeAt w.heap.size 2 (h.map by8)) := Lib.hid (rangeAt_sub (o := 0) (xs := [.int .i64 i, .slice A n d]) (ys := h.map by8) (zs := []) hr0)
  have HH1 : Hid (wa.rangeAt (w.heap.size + 1) 2 (h.map by8)) := Lib.hid (rangeAt_sub (o := 0) (xs := [.int .i64 i, .slice B m d']) (ys := h.map by8) (zs := []) hr1)
  have HHL : Hid ((h.map by8).length = 32) := Lib.hid (by rw [List.length_map]; exact hx.h)
  have HEQ : Hid ((Op.equalIn 10000 25 (.agg (h.map by8).toArray) (.agg (h.map by8).toArray)).run Try.prog wa = .ok true wa) := Lib.hid (by
    have h := eql_hash h h hx.h hx.h 9998 wa
    simpa using h)
  have HF0 := Lib.hid hf0
  have HWA := Lib.hid hwa
  have HX := Lib.hid hx
  have HY := Lib.hid hy
  have hii : (i == i) = true := by simp
  clear hwa hf0 hb0 hb1 hr0 hr1 hx hy hC hD
  generalize hHV : h.map by8 = HV at *
  clear hHV
  go_enter Try.func17, Try.ntmps17
  go_upto_region 1 with (fail)
  change Code.wp _ _ _ _ ((w.alloc (Obj.cells C.toArray 54)).alloc (Obj.cells D.toArray 54))
  rw [← HWA.out]
  go_wp2_with (first
    | (refine wpList_midg rfl 25 _ rfl w.heap.size 2 rfl HV HH0.out (row_hs.of HHL.out) ?_)
    | (refine wpList_midg rfl 25 _ rfl (w.heap.size + 1) 2 rfl HV HH1.out (row_hs.of HHL.out) ?_)
    | (refine wpList_eqlg rfl 25 _ _ _ rfl HV.toArray HV.toArray rfl rfl true (by kernel_rfl) HEQ.out ?_))
  refine (same_any A B n m d d' p p wa (HX.out.p.keep HF0.out (by simp)) (HY.out.p.keep HF0.out (by simp)) (by have h1 : n ≤ 260 := HX.out.n; omega)).mono ?_
  rintro e w1 ⟨rfl, k1, hw1⟩
  simp only [decide_true]
  have HF1 : Hid (Fr [] w w1) := Lib.hid (by rw [hw1]; exact HF0.out.drewN _)
  clear hw1 h00 h10 h01 h11 hii
  go_wp2
  go_ret
  exact ⟨rfl, HF1.out⟩

set_option maxHeartbeats 4000000 in
theorem denies_eq (A B : Option Addr) (n d d' : Nat) (l m : List Wdn) (w : World) (hl : Lst 4 Wdn.cells (fun _ v => v.Ok) w A n l) (hm : Lst 4 Wdn.cells (fun _ v => v.Ok) w B n m) (hlm : l.map id = m.map id) (hn : n ≤ 1000) :
    Calls Try.prog 56 #[.slice A n d, .slice B n d'] w fun e w' => e = .returned (.bool true) ∧ Fr [] w w' := by
  have HL := Lib.hid hl
  have HM := Lib.hid hm
  have HLM := Lib.hid hlm
  have HN := Lib.hid hn
  have hn1 : (n : Int) ≤ 9223372036854775807 := by omega
  have hnn : ((n : Int) != (n : Int)) = false := by simp
  clear hl hm hn hlm
  go_enter Try.func56, Try.ntmps56
  go_wp2_with fail
  clear hnn
  go_loopw [5] (fun i wr => ∃ j : Nat, j ≤ n ∧ i = .int .i64 j ∧ Hid (Fr [] w wr)) (fun i _ => n - (intOf i).toNat)
  case atStart => exact ⟨0, by omega, rfl, Lib.hid (Fr.refl _ _)⟩
  case round =>
    obtain ⟨j, hj, rfl, HF⟩ := hrel
    by_cases hlt : j < n
    · obtain ⟨ad, v, hA, hv, hcl, hok, hcells⟩ := HL.out.at (i := j) hlt
      obtain ⟨bd, u, hB, hu, hclu, hoku, hcellu⟩ := HM.out.at (i := j) hlt
      subst hA
      subst hB
      have HVU := Lib.hid (map_at HLM.out hv hu)
      have HCELLS : Hid (∀ i c, (Wdn.cells v)[i]? = some c → wr.cell? ((ad.add (j * 4)).add i) = some c) := Lib.hid (fun i c hc => HF.out.cell (hcells i c hc) (by simp))
      have HCELLU : Hid (∀ i c, (Wdn.cells u)[i]? = some c → wr.cell? ((bd.add (j * 4)).add i) = some c) := Lib.hid (fun i c hc => HF.out.cell (hcellu i c hc) (by simp))
      have HCL := Lib.hid hcl
      have HCLU := Lib.hid hclu
      have HOK := Lib.hid hok
      have HOKU := Lib.hid hoku
      have HJN := Lib.hid hlt
      have hj0 : (0 : Int) ≤ j := by omega
      clear hcells hcl hok hv hcellu hclu hoku hu
      have hvu : v = u := HVU.out
      subst hvu
      have HEQ : Hid (∀ W : World, (Op.equalIn 10000 56 (.agg v.cells.toArray) (.agg v.cells.toArray)).run Try.prog W = .ok true W) := Lib.hid (fun W => by have h := eql_Wdn v v W; rw [(Wdn.eqB_iff v v).2 rfl] at h; exact h)
      go_upto_region 6 with (fail)
      refine wp_region_held_drew (S := Fr [] wr) (by kernel_rfl) (Fr.drew (Fr.refl _ wr)) (fun hHeld => ?_)
      generalize wr.drew = w9 at *
      refine run_at (i := 0) (v := ?_) rfl (by kernel_rfl) (by rfl) (fun _ _ _ h => h) hHeld (fun w1 hw1 => ?_) ?_
      rotate_left 1
      · skip
        go_simp
        (try (first | with_reducible rfl | (apply And.intro <;> rfl)))
      simp only [Act.put, List.setIfInBounds_toArray, List.set_cons_zero, List.set_cons_succ]
      refine run_at (i := 1) (v := ?_) rfl (by kernel_rfl) (by rfl) (fun _ _ _ h => h) hHeld (fun w1 hw1 => ?_) ?_
      rotate_left 1
      · skip
        go_simp
        (try (first | with_reducible rfl | (apply And.intro <;> rfl)))
      simp only [Act.put, List.setIfInBounds_toArray, List.set_cons_zero, List.set_cons_succ]
      refine run_at (i := 2) (v := ?_) rfl (by kernel_rfl) (by rfl) (fun _ _ _ h => h) hHeld (fun w1 hw1 => ?_) ?_
      rotate_left 1
      · skip
        go_simp
        (try (first | with_reducible rfl | (apply And.intro <;> rfl)))
      simp only [Act.put, List.setIfInBounds_toArray, List.set_cons_zero, List.set_cons_succ]
      refine crow_at (i := 3) rfl (by kernel_rfl) (by rfl) _ _ rfl _ rfl _ (fun w1 hw1 j v hv => hw1.cell ((HCELLS.out) j v hv) (by simp)) (row_dnS.of HCL.out) (fun _ _ _ h => h) hHeld ?_
      simp only [Act.put, List.setIfInBounds_toArray, List.set_cons_zero, List.set_cons_succ]
      refine run_at (i := 4) (v := ?_) rfl (by kernel_rfl) (by rfl) (fun _ _ _ h => h) hHeld (fun w1 hw1 => ?_) ?_
      rotate_left 1
      · skip
        go_simp
        (try (first | with_reducible rfl | (apply And.intro <;> rfl)))
      simp only [Act.put, List.setIfInBounds_toArray, List.set_cons_zero, List.set_cons_succ]
      refine run_at (i := 5) (v := ?_) rfl (by kernel_rfl) (by rfl) (fun _ _ _ h => h) hHeld (fun w1 hw1 => ?_) ?_
      rotate_left 1
      · skip
        go_simp
        (try (first | with_reducible rfl | (apply And.intro <;> rfl)))
      simp only [Act.put, List.setIfInBounds_toArray, List.set_cons_zero, List.set_cons_succ]
      refine run_at (i := 6) (v := ?_) rfl (by kernel_rfl) (by rfl) (fun _ _ _ h => h) hHeld (fun w1 hw1 => ?_) ?_
      rotate_left 1
      · skip
        go_simp
        (try (first | with_reducible rfl | (apply And.intro <;> rfl)))
      simp only [Act.put, List.setIfInBounds_toArray, List.set_cons_zero, List.set_cons_succ]
      refine crow_at (i := 7) rfl (by kernel_rfl) (by rfl) _ _ rfl _ rfl _ (fun w1 hw1 j v hv => hw1.cell ((HCELLU.out) j v hv) (by simp)) (row_dnS.of HCLU.out) (fun _ _ _ h => h) hHeld ?_
      simp only [Act.put, List.setIfInBounds_toArray, List.set_cons_zero, List.set_cons_succ]
      refine neq_at (i := 8) rfl (by kernel_rfl) (by rfl) _ _ _ _ rfl _ _ rfl rfl _ (by kernel_rfl) (HEQ.out) (fun _ _ _ h => h) hHeld ?_
      simp only [Act.put, List.setIfInBounds_toArray, List.set_cons_zero, List.set_cons_succ]
      refine wpAnyH_done (by kernel_rfl) ?_ _
      have HF9 : Hid (Fr [] w w9) := Lib.hid (HF.out.and hHeld (by simp))
      clear hHeld HCELLS HCL HCELLU HCLU HVU
      clear HOK HOKU
      go_wp2
      go_roundw
      case rel => exact ⟨j + 1, by have := HJN.out; omega, by go_num, HF9⟩
      case measure => have := HJN.out; simp [intOf]; omega
    · have hjn : n = j := by omega
      subst hjn
      clear hlt hj
      go_wp2
      go_ret
      exact ⟨rfl, HF.out⟩

set_option maxHeartbeats 4000000 in
theorem stamps_eq (A B : Option Addr) (n d d' : Nat) (l m : List Wst) (w : World) (hl : Lst 38 Wst.cells (fun _ v => v.Ok) w A n l) (hm : Lst 38 Wst.cells (fun _ v => v.Ok) w B n m) (hlm : l.map id = m.map id) (hn : n ≤ 1000) :
    Calls Try.prog 35 #[.slice A n d, .slice B n d'] w fun e w' => e = .returned (.bool true) ∧ Fr [] w w' := by
  have HL := Lib.hid hl
  have HM := Lib.hid hm
  have HLM := Lib.hid hlm
  have HN := Lib.hid hn
  have hn1 : (n : Int) ≤ 9223372036854775807 := by omega
  have hnn : ((n : Int) != (n : Int)) = false := by simp
  clear hl hm hn hlm
  go_enter Try.func35, Try.ntmps35
  go_wp2_with fail
  clear hnn
  go_loopw [5] (fun i wr => ∃ j : Nat, j ≤ n ∧ i = .int .i64 j ∧ Hid (Fr [] w wr)) (fun i _ => n - (intOf i).toNat)
  case atStart => exact ⟨0, by omega, rfl, Lib.hid (Fr.refl _ _)⟩
  case round =>
    obtain ⟨j, hj, rfl, HF⟩ := hrel
    by_cases hlt : j < n
    · obtain ⟨ad, v, hA, hv, hcl, hok, hcells⟩ := HL.out.at (i := j) hlt
      obtain ⟨bd, u, hB, hu, hclu, hoku, hcellu⟩ := HM.out.at (i := j) hlt
      subst hA
      subst hB
      have HVU := Lib.hid (map_at HLM.out hv hu)
      have HCELLS : Hid (∀ i c, (Wst.cells v)[i]? = some c → wr.cell? ((ad.add (j * 38)).add i) = some c) := Lib.hid (fun i c hc => HF.out.cell (hcells i c hc) (by simp))
      have HCELLU : Hid (∀ i c, (Wst.cells u)[i]? = some c → wr.cell? ((bd.add (j * 38)).add i) = some c) := Lib.hid (fun i c hc => HF.out.cell (hcellu i c hc) (by simp))
      have HCL := Lib.hid hcl
      have HCLU := Lib.hid hclu
      have HOK := Lib.hid hok
      have HOKU := Lib.hid hoku
      have HJN := Lib.hid hlt
      have hj0 : (0 : Int) ≤ j := by omega
      clear hcells hcl hok hv hcellu hclu hoku hu
      have hvu : v = u := HVU.out
      subst hvu
      have HEQ : Hid (∀ W : World, (Op.equalIn 10000 32 (.agg v.cells.toArray) (.agg v.cells.toArray)).run Try.prog W = .ok true W) := Lib.hid (fun W => by have h := eql_Wst v v HOK.out.h HOK.out.h W; rw [(Wst.eqB_iff v v).2 rfl] at h; exact h)
      go_upto_region 6 with (fail)
      refine wp_region_held_drew (S := Fr [] wr) (by kernel_rfl) (Fr.drew (Fr.refl _ wr)) (fun hHeld => ?_)
      generalize wr.drew = w9 at *
      refine run_at (i := 0) (v := ?_) rfl (by kernel_rfl) (by rfl) (fun _ _ _ h => h) hHeld (fun w1 hw1 => ?_) ?_
      rotate_left 1
      · skip
        go_simp
        (try (first | with_reducible rfl | (apply And.intro <;> rfl)))
      simp only [Act.put, List.setIfInBounds_toArray, List.set_cons_zero, List.set_cons_succ]
      refine run_at (i := 1) (v := ?_) rfl (by kernel_rfl) (by rfl) (fun _ _ _ h => h) hHeld (fun w1 hw1 => ?_) ?_
      rotate_left 1
      · skip
        go_simp
        (try (first | with_reducible rfl | (apply And.intro <;> rfl)))
      simp only [Act.put, List.setIfInBounds_toArray, List.set_cons_zero, List.set_cons_succ]
      refine run_at (i := 2) (v := ?_) rfl (by kernel_rfl) (by rfl) (fun _ _ _ h => h) hHeld (fun w1 hw1 => ?_) ?_
      rotate_left 1
      · skip
        go_simp
        (try (first | with_reducible rfl | (apply And.intro <;> rfl)))
      simp only [Act.put, List.setIfInBounds_toArray, List.set_cons_zero, List.set_cons_succ]
      refine crow_at (i := 3) rfl (by kernel_rfl) (by rfl) _ _ rfl _ rfl _ (fun w1 hw1 j v hv => hw1.cell ((HCELLS.out) j v hv) (by simp)) (row_stm.of HCL.out) (fun _ _ _ h => h) hHeld ?_
      simp only [Act.put, List.setIfInBounds_toArray, List.set_cons_zero, List.set_cons_succ]
      refine run_at (i := 4) (v := ?_) rfl (by kernel_rfl) (by rfl) (fun _ _ _ h => h) hHeld (fun w1 hw1 => ?_) ?_
      rotate_left 1
      · skip
        go_simp
        (try (first | with_reducible rfl | (apply And.intro <;> rfl)))
      simp only [Act.put, List.setIfInBounds_toArray, List.set_cons_zero, List.set_cons_succ]
      refine run_at (i := 5) (v := ?_) rfl (by kernel_rfl) (by rfl) (fun _ _ _ h => h) hHeld (fun w1 hw1 => ?_) ?_
      rotate_left 1
      · skip
        go_simp
        (try (first | with_reducible rfl | (apply And.intro <;> rfl)))
      simp only [Act.put, List.setIfInBounds_toArray, List.set_cons_zero, List.set_cons_succ]
      refine run_at (i := 6) (v := ?_) rfl (by kernel_rfl) (by rfl) (fun _ _ _ h => h) hHeld (fun w1 hw1 => ?_) ?_
      rotate_left 1
      · skip
        go_simp
        (try (first | with_reducible rfl | (apply And.intro <;> rfl)))
      simp only [Act.put, List.setIfInBounds_toArray, List.set_cons_zero, List.set_cons_succ]
      refine crow_at (i := 7) rfl (by kernel_rfl) (by rfl) _ _ rfl _ rfl _ (fun w1 hw1 j v hv => hw1.cell ((HCELLU.out) j v hv) (by simp)) (row_stm.of HCLU.out) (fun _ _ _ h => h) hHeld ?_
      simp only [Act.put, List.setIfInBounds_toArray, List.set_cons_zero, List.set_cons_succ]
      refine neq_at (i := 8) rfl (by kernel_rfl) (by rfl) _ _ _ _ rfl _ _ rfl rfl _ (by kernel_rfl) (HEQ.out) (fun _ _ _ h => h) hHeld ?_
      simp only [Act.put, List.setIfInBounds_toArray, List.set_cons_zero, List.set_cons_succ]
      refine wpAnyH_done (by kernel_rfl) ?_ _
      have HF9 : Hid (Fr [] w w9) := Lib.hid (HF.out.and hHeld (by simp))
      clear hHeld HCELLS HCL HCELLU HCLU HVU
      clear HOK HOKU
      go_wp2
      go_roundw
      case rel => exact ⟨j + 1, by have := HJN.out; omega, by go_num, HF9⟩
      case measure => have := HJN.out; simp [intOf]; omega
    · have hjn : n = j := by omega
      subst hjn
      clear hlt hj
      go_wp2
      go_ret
      exact ⟨rfl, HF.out⟩

set_option maxHeartbeats 4000000 in
theorem openings_eq (A B : Option Addr) (n d d' : Nat) (l m : List Wop) (w : World) (hl : Lst 34 Wop.cells (fun w v => v.Ok w []) w A n l) (hm : Lst 34 Wop.cells (fun w v => v.Ok w []) w B n m) (hlm : l.map Wop.con = m.map Wop.con) (hn : n ≤ 1000) :
    Calls Try.prog 37 #[.slice A n d, .slice B n d'] w fun e w' => e = .returned (.bool true) ∧ Fr [] w w' := by
  have HL := Lib.hid hl
  have HM := Lib.hid hm
  have HLM := Lib.hid hlm
  have HN := Lib.hid hn
  have hn1 : (n : Int) ≤ 9223372036854775807 := by omega
  have hnn : ((n : Int) != (n : Int)) = false := by simp
  clear hl hm hn hlm
  go_enter Try.func37, Try.ntmps37
  go_wp2_with fail
  clear hnn
  go_loopw [13] (fun i wr => ∃ j : Nat, j ≤ n ∧ i = .int .i64 j ∧ Hid (Fr [] w wr)) (fun i _ => n - (intOf i).toNat)
  case atStart => exact ⟨0, by omega, rfl, Lib.hid (Fr.refl _ _)⟩
  case round =>
    obtain ⟨j, hj, rfl, HF⟩ := hrel
    by_cases hlt : j < n
    · obtain ⟨ad, v, hA, hv, hcl, hok, hcells⟩ := HL.out.at (i := j) hlt
      obtain ⟨bd, u, hB, hu, hclu, hoku, hcellu⟩ := HM.out.at (i := j) hlt
      subst hA
      subst hB
      have HVU := Lib.hid (map_at HLM.out hv hu)
      have HCELLS : Hid (∀ i c, (Wop.cells v)[i]? = some c → wr.cell? ((ad.add (j * 34)).add i) = some c) := Lib.hid (fun i c hc => HF.out.cell (hcells i c hc) (by simp))
      have HCELLU : Hid (∀ i c, (Wop.cells u)[i]? = some c → wr.cell? ((bd.add (j * 34)).add i) = some c) := Lib.hid (fun i c hc => HF.out.cell (hcellu i c hc) (by simp))
      have HCL := Lib.hid hcl
      have HCLU := Lib.hid hclu
      have HOK := Lib.hid hok
      have HOKU := Lib.hid hoku
      have HJN := Lib.hid hlt
      have hj0 : (0 : Int) ≤ j := by omega
      clear hcells hcl hok hv hcellu hclu hoku hu
      go_upto_region 6 with (fail)
      refine wp_region_held_drew (S := Fr [] wr) (by kernel_rfl) (Fr.drew (Fr.refl _ wr)) (fun hHeld => ?_)
      generalize wr.drew = wd at *
      refine run_at (i := 0) (v := ?_) rfl (by kernel_rfl) (by rfl) (fun _ _ _ h => h) hHeld (fun w1 hw1 => ?_) ?_
      rotate_left 1
      · skip
        go_simp
        (try (first | with_reducible rfl | (apply And.intro <;> rfl)))
      simp only [Act.put, List.setIfInBounds_toArray, List.set_cons_zero, List.set_cons_succ]
      refine run_at (i := 1) (v := ?_) rfl (by kernel_rfl) (by rfl) (fun _ _ _ h => h) hHeld (fun w1 hw1 => ?_) ?_
      rotate_left 1
      · skip
        go_simp
        (try (first | with_reducible rfl | (apply And.intro <;> rfl)))
      simp only [Act.put, List.setIfInBounds_toArray, List.set_cons_zero, List.set_cons_succ]
      refine run_at (i := 2) (v := ?_) rfl (by kernel_rfl) (by rfl) (fun _ _ _ h => h) hHeld (fun w1 hw1 => ?_) ?_
      rotate_left 1
      · skip
        go_simp
        (try (first | with_reducible rfl | (apply And.intro <;> rfl)))
      simp only [Act.put, List.setIfInBounds_toArray, List.set_cons_zero, List.set_cons_succ]
      refine crow_at (i := 3) rfl (by kernel_rfl) (by rfl) _ _ rfl _ rfl _ (fun w1 hw1 j v hv => hw1.cell ((HCELLS.out) j v hv) (by simp)) (row_opS.of HCL.out) (fun _ _ _ h => h) hHeld ?_
      simp only [Act.put, List.setIfInBounds_toArray, List.set_cons_zero, List.set_cons_succ]
      refine run_at (i := 4) (v := ?_) rfl (by kernel_rfl) (by rfl) (fun _ _ _ h => h) hHeld (fun w1 hw1 => ?_) ?_
      rotate_left 1
      · skip
        go_simp
        (try (first | with_reducible rfl | (apply And.intro <;> rfl)))
      simp only [Act.put, List.setIfInBounds_toArray, List.set_cons_zero, List.set_cons_succ]
      refine run_at (i := 5) (v := ?_) rfl (by kernel_rfl) (by rfl) (fun _ _ _ h => h) hHeld (fun w1 hw1 => ?_) ?_
      rotate_left 1
      · skip
        go_simp
        (try (first | with_reducible rfl | (apply And.intro <;> rfl)))
      simp only [Act.put, List.setIfInBounds_toArray, List.set_cons_zero, List.set_cons_succ]
      refine run_at (i := 6) (v := ?_) rfl (by kernel_rfl) (by rfl) (fun _ _ _ h => h) hHeld (fun w1 hw1 => ?_) ?_
      rotate_left 1
      · skip
        go_simp
        (try (first | with_reducible rfl | (apply And.intro <;> rfl)))
      simp only [Act.put, List.setIfInBounds_toArray, List.set_cons_zero, List.set_cons_succ]
      refine crow_at (i := 7) rfl (by kernel_rfl) (by rfl) _ _ rfl _ rfl _ (fun w1 hw1 j v hv => hw1.cell ((HCELLU.out) j v hv) (by simp)) (row_opS.of HCLU.out) (fun _ _ _ h => h) hHeld ?_
      simp only [Act.put, List.setIfInBounds_toArray, List.set_cons_zero, List.set_cons_succ]
      refine call_at (i := 8) (f := ?_) (args := ?_) rfl (by kernel_rfl) (by rfl) ?_ ?_
      rotate_left 2
      · go_simp
        (try (first | with_reducible rfl | (apply And.intro <;> rfl)))
      refine (opening_eq v u wd (Wop.Ok.keep HOK.out (HF.out.and hHeld (by simp)) (by simp)) (Wop.Ok.keep HOKU.out (HF.out.and hHeld (by simp)) (by simp)) HVU.out _ _ rfl rfl).mono ?_
      rintro e_ w9 ⟨rfl, hf⟩
      refine ⟨_, rfl, hHeld.and hf (by simp), fun hHeld => ?_⟩
      clear hf
      simp only [Act.put, List.setIfInBounds_toArray, List.set_cons_zero, List.set_cons_succ]
      refine run_at (i := 9) (v := ?_) rfl (by kernel_rfl) (by rfl) (fun _ _ _ h => h) hHeld (fun w1 hw1 => ?_) ?_
      rotate_left 1
      · skip
        go_simp
        (try (first | with_reducible rfl | (apply And.intro <;> rfl)))
      simp only [Act.put, List.setIfInBounds_toArray, List.set_cons_zero, List.set_cons_succ]
      refine wpAnyH_done (by kernel_rfl) ?_ _
      have HF9 : Hid (Fr [] w w9) := Lib.hid (HF.out.and hHeld (by simp))
      clear hHeld HCELLS HCL HCELLU HCLU HVU
      clear HOK HOKU
      go_wp2
      go_roundw
      case rel => exact ⟨j + 1, by have := HJN.out; omega, by go_num, HF9⟩
      case measure => have := HJN.out; simp [intOf]; omega
    · have hjn : n = j := by omega
      subst hjn
      clear hlt hj
      go_wp2
      go_ret
      exact ⟨rfl, HF.out⟩

set_option maxHeartbeats 4000000 in
theorem tombs_eq (A B : Option Addr) (n d d' : Nat) (l m : List Wtb) (w : World) (hl : Lst 2 Wtb.cells (fun w v => v.Li w []) w A n l) (hm : Lst 2 Wtb.cells (fun w v => v.Li w []) w B n m) (hlm : l.map Wtb.con = m.map Wtb.con) (hn : n ≤ 1000) :
    Calls Try.prog 38 #[.slice A n d, .slice B n d'] w fun e w' => e = .returned (.bool true) ∧ Fr [] w w' := by
  have HL := Lib.hid hl
  have HM := Lib.hid hm
  have HLM := Lib.hid hlm
  have HN := Lib.hid hn
  have hn1 : (n : Int) ≤ 9223372036854775807 := by omega
  have hnn : ((n : Int) != (n : Int)) = false := by simp
  clear hl hm hn hlm
  go_enter Try.func38, Try.ntmps38
  go_wp2_with fail
  clear hnn
  go_loopw [13] (fun i wr => ∃ j : Nat, j ≤ n ∧ i = .int .i64 j ∧ Hid (Fr [] w wr)) (fun i _ => n - (intOf i).toNat)
  case atStart => exact ⟨0, by omega, rfl, Lib.hid (Fr.refl _ _)⟩
  case round =>
    obtain ⟨j, hj, rfl, HF⟩ := hrel
    by_cases hlt : j < n
    · obtain ⟨ad, v, hA, hv, hcl, hok, hcells⟩ := HL.out.at (i := j) hlt
      obtain ⟨bd, u, hB, hu, hclu, hoku, hcellu⟩ := HM.out.at (i := j) hlt
      subst hA
      subst hB
      have HVU := Lib.hid (map_at HLM.out hv hu)
      have HCELLS : Hid (∀ i c, (Wtb.cells v)[i]? = some c → wr.cell? ((ad.add (j * 2)).add i) = some c) := Lib.hid (fun i c hc => HF.out.cell (hcells i c hc) (by simp))
      have HCELLU : Hid (∀ i c, (Wtb.cells u)[i]? = some c → wr.cell? ((bd.add (j * 2)).add i) = some c) := Lib.hid (fun i c hc => HF.out.cell (hcellu i c hc) (by simp))
      have HCL := Lib.hid hcl
      have HCLU := Lib.hid hclu
      have HOK := Lib.hid hok
      have HOKU := Lib.hid hoku
      have HJN := Lib.hid hlt
      have hj0 : (0 : Int) ≤ j := by omega
      clear hcells hcl hok hv hcellu hclu hoku hu
      have HC0 : Hid (wr.cell? (ad.add (j * 2)) = some (.int .i64 v.i)) := Lib.hid (by have h := HCELLS.out 0 _ rfl; simpa [Addr.add] using h)
      have HC1 : Hid (wr.cell? ⟨(ad.add (j * 2)).block, (ad.add (j * 2)).off + 1, none⟩ = some (.slice v.A v.n v.d)) := Lib.hid (by have h := HCELLS.out 1 _ rfl; rw [fld_add] at h; exact h)
      have HVI : Hid (v.i = u.i ∧ v.l = u.l) := Lib.hid (by have h := HVU.out; unfold Wtb.con at h; simpa using h)
      have HD0 : Hid (wr.cell? (bd.add (j * 2)) = some (.int .i64 v.i)) := Lib.hid (by rw [HVI.out.1]; have h := HCELLU.out 0 _ rfl; simpa [Addr.add] using h)
      have HNN : Hid (u.n = v.n) := Lib.hid (by rw [← HOKU.out.l.1, ← HOK.out.l.1, HVI.out.2])
      have HD1 : Hid (wr.cell? ⟨(bd.add (j * 2)).block, (bd.add (j * 2)).off + 1, none⟩ = some (.slice u.A v.n u.d)) := Lib.hid (by rw [← HNN.out]; have h := HCELLU.out 1 _ rfl; rw [fld_add] at h; exact h)
      have HII : Hid ((v.i != v.i) = false) := Lib.hid (by simp)
      go_upto_region 6 with (fail)
      refine wp_region_held_drew (S := Fr [] wr) (by kernel_rfl) (Fr.drew (Fr.refl _ wr)) (fun hHeld => ?_)
      generalize wr.drew = wd at *
      refine run_at (i := 0) (v := ?_) rfl (by kernel_rfl) (by rfl) (fun _ _ _ h => h) hHeld (fun w1 hw1 => ?_) ?_
      rotate_left 1
      · skip
        go_simp
        (try (first | with_reducible rfl | (apply And.intro <;> rfl)))
      simp only [Act.put, List.setIfInBounds_toArray, List.set_cons_zero, List.set_cons_succ]
      refine run_at (i := 1) (v := ?_) rfl (by kernel_rfl) (by rfl) (fun _ _ _ h => h) hHeld (fun w1 hw1 => ?_) ?_
      rotate_left 1
      · skip
        go_simp
        (try (first | with_reducible rfl | (apply And.intro <;> rfl)))
      simp only [Act.put, List.setIfInBounds_toArray, List.set_cons_zero, List.set_cons_succ]
      refine run_at (i := 2) (v := ?_) rfl (by kernel_rfl) (by rfl) (fun _ _ _ h => h) hHeld (fun w1 hw1 => ?_) ?_
      rotate_left 1
      · skip
        go_simp
        (try (first | with_reducible rfl | (apply And.intro <;> rfl)))
      simp only [Act.put, List.setIfInBounds_toArray, List.set_cons_zero, List.set_cons_succ]
      refine run_at (i := 3) (v := ?_) rfl (by kernel_rfl) (by rfl) (fun _ _ _ h => h) hHeld (fun w1 hw1 => ?_) ?_
      rotate_left 1
      · skip
        go_simp
        (try (first | with_reducible rfl | (apply And.intro <;> rfl)))
      simp only [Act.put, List.setIfInBounds_toArray, List.set_cons_zero, List.set_cons_succ]
      refine run_at (i := 4) (v := ?_) rfl (by kernel_rfl) (by rfl) (fun _ _ _ h => h) hHeld (fun w1 hw1 => ?_) ?_
      rotate_left 1
      · skip
        have hcw0 := hw1.cell (HC0.out) (by first | (simp; done) | exact HNS.out | exact HNW.out | (intro hm; have hlt := HSB.out _ hm; (try dsimp only at hlt); omega))
        go_simp
        (try (first | with_reducible rfl | (apply And.intro <;> rfl)))
      simp only [Act.put, List.setIfInBounds_toArray, List.set_cons_zero, List.set_cons_succ]
      refine run_at (i := 5) (v := ?_) rfl (by kernel_rfl) (by rfl) (fun _ _ _ h => h) hHeld (fun w1 hw1 => ?_) ?_
      rotate_left 1
      · skip
        go_simp
        (try (first | with_reducible rfl | (apply And.intro <;> rfl)))
      simp only [Act.put, List.setIfInBounds_toArray, List.set_cons_zero, List.set_cons_succ]
      refine run_at (i := 6) (v := ?_) rfl (by kernel_rfl) (by rfl) (fun _ _ _ h => h) hHeld (fun w1 hw1 => ?_) ?_
      rotate_left 1
      · skip
        go_simp
        (try (first | with_reducible rfl | (apply And.intro <;> rfl)))
      simp only [Act.put, List.setIfInBounds_toArray, List.set_cons_zero, List.set_cons_succ]
      refine run_at (i := 7) (v := ?_) rfl (by kernel_rfl) (by rfl) (fun _ _ _ h => h) hHeld (fun w1 hw1 => ?_) ?_
      rotate_left 1
      · skip
        go_simp
        (try (first | with_reducible rfl | (apply And.intro <;> rfl)))
      simp only [Act.put, List.setIfInBounds_toArray, List.set_cons_zero, List.set_cons_succ]
      refine run_at (i := 8) (v := ?_) rfl (by kernel_rfl) (by rfl) (fun _ _ _ h => h) hHeld (fun w1 hw1 => ?_) ?_
      rotate_left 1
      · skip
        go_simp
        (try (first | with_reducible rfl | (apply And.intro <;> rfl)))
      simp only [Act.put, List.setIfInBounds_toArray, List.set_cons_zero, List.set_cons_succ]
      refine run_at (i := 9) (v := ?_) rfl (by kernel_rfl) (by rfl) (fun _ _ _ h => h) hHeld (fun w1 hw1 => ?_) ?_
      rotate_left 1
      · skip
        have hcw0 := hw1.cell (HD0.out) (by first | (simp; done) | exact HNS.out | exact HNW.out | (intro hm; have hlt := HSB.out _ hm; (try dsimp only at hlt); omega))
        go_simp
        (try (first | with_reducible rfl | (apply And.intro <;> rfl)))
      simp only [Act.put, List.setIfInBounds_toArray, List.set_cons_zero, List.set_cons_succ]
      refine run_at (i := 10) (v := ?_) rfl (by kernel_rfl) (by rfl) (fun _ _ _ h => h) hHeld (fun w1 hw1 => ?_) ?_
      rotate_left 1
      · skip
        go_simp
        (try (first | with_reducible rfl | (apply And.intro <;> rfl)))
      simp only [Act.put, List.setIfInBounds_toArray, List.set_cons_zero, List.set_cons_succ]
      try rw [HII.out]
      refine run_at (i := 11) (v := ?_) rfl (by kernel_rfl) (by rfl) (fun _ _ _ h => h) hHeld (fun w1 hw1 => ?_) ?_
      rotate_left 1
      · skip
        go_simp
        (try (first | with_reducible rfl | (apply And.intro <;> rfl)))
      simp only [Act.put, List.setIfInBounds_toArray, List.set_cons_zero, List.set_cons_succ]
      refine run_at (i := 12) (v := ?_) rfl (by kernel_rfl) (by rfl) (fun _ _ _ h => h) hHeld (fun w1 hw1 => ?_) ?_
      rotate_left 1
      · skip
        go_simp
        (try (first | with_reducible rfl | (apply And.intro <;> rfl)))
      simp only [Act.put, List.setIfInBounds_toArray, List.set_cons_zero, List.set_cons_succ]
      refine run_at (i := 13) (v := ?_) rfl (by kernel_rfl) (by rfl) (fun _ _ _ h => h) hHeld (fun w1 hw1 => ?_) ?_
      rotate_left 1
      · skip
        go_simp
        (try (first | with_reducible rfl | (apply And.intro <;> rfl)))
      simp only [Act.put, List.setIfInBounds_toArray, List.set_cons_zero, List.set_cons_succ]
      refine run_at (i := 14) (v := ?_) rfl (by kernel_rfl) (by rfl) (fun _ _ _ h => h) hHeld (fun w1 hw1 => ?_) ?_
      rotate_left 1
      · skip
        go_simp
        (try (first | with_reducible rfl | (apply And.intro <;> rfl)))
      simp only [Act.put, List.setIfInBounds_toArray, List.set_cons_zero, List.set_cons_succ]
      refine run_at (i := 15) (v := ?_) rfl (by kernel_rfl) (by rfl) (fun _ _ _ h => h) hHeld (fun w1 hw1 => ?_) ?_
      rotate_left 1
      · skip
        go_simp
        (try (first | with_reducible rfl | (apply And.intro <;> rfl)))
      simp only [Act.put, List.setIfInBounds_toArray, List.set_cons_zero, List.set_cons_succ]
      refine run_at (i := 16) (v := ?_) rfl (by kernel_rfl) (by rfl) (fun _ _ _ h => h) hHeld (fun w1 hw1 => ?_) ?_
      rotate_left 1
      · skip
        have hcw0 := hw1.cell (HC1.out) (by first | (simp; done) | exact HNS.out | exact HNW.out | (intro hm; have hlt := HSB.out _ hm; (try dsimp only at hlt); omega))
        go_simp
        (try (first | with_reducible rfl | (apply And.intro <;> rfl)))
      simp only [Act.put, List.setIfInBounds_toArray, List.set_cons_zero, List.set_cons_succ]
      refine run_at (i := 17) (v := ?_) rfl (by kernel_rfl) (by rfl) (fun _ _ _ h => h) hHeld (fun w1 hw1 => ?_) ?_
      rotate_left 1
      · skip
        go_simp
        (try (first | with_reducible rfl | (apply And.intro <;> rfl)))
      simp only [Act.put, List.setIfInBounds_toArray, List.set_cons_zero, List.set_cons_succ]
      refine run_at (i := 18) (v := ?_) rfl (by kernel_rfl) (by rfl) (fun _ _ _ h => h) hHeld (fun w1 hw1 => ?_) ?_
      rotate_left 1
      · skip
        go_simp
        (try (first | with_reducible rfl | (apply And.intro <;> rfl)))
      simp only [Act.put, List.setIfInBounds_toArray, List.set_cons_zero, List.set_cons_succ]
      refine run_at (i := 19) (v := ?_) rfl (by kernel_rfl) (by rfl) (fun _ _ _ h => h) hHeld (fun w1 hw1 => ?_) ?_
      rotate_left 1
      · skip
        go_simp
        (try (first | with_reducible rfl | (apply And.intro <;> rfl)))
      simp only [Act.put, List.setIfInBounds_toArray, List.set_cons_zero, List.set_cons_succ]
      refine run_at (i := 20) (v := ?_) rfl (by kernel_rfl) (by rfl) (fun _ _ _ h => h) hHeld (fun w1 hw1 => ?_) ?_
      rotate_left 1
      · skip
        go_simp
        (try (first | with_reducible rfl | (apply And.intro <;> rfl)))
      simp only [Act.put, List.setIfInBounds_toArray, List.set_cons_zero, List.set_cons_succ]
      refine run_at (i := 21) (v := ?_) rfl (by kernel_rfl) (by rfl) (fun _ _ _ h => h) hHeld (fun w1 hw1 => ?_) ?_
      rotate_left 1
      · skip
        have hcw0 := hw1.cell (HD1.out) (by first | (simp; done) | exact HNS.out | exact HNW.out | (intro hm; have hlt := HSB.out _ hm; (try dsimp only at hlt); omega))
        go_simp
        (try (first | with_reducible rfl | (apply And.intro <;> rfl)))
      simp only [Act.put, List.setIfInBounds_toArray, List.set_cons_zero, List.set_cons_succ]
      refine call_at (i := 22) (f := ?_) (args := ?_) rfl (by kernel_rfl) (by rfl) ?_ ?_
      rotate_left 2
      · go_simp
        (try (first | with_reducible rfl | (apply And.intro <;> rfl)))
      refine (denies_eq v.A u.A v.n v.d u.d v.l u.l wd (HOK.out.l.keep' (HF.out.and hHeld (by simp)) (by simp) (fun _ _ h => h)) (by rw [← HNN.out]; exact HOKU.out.l.keep' (HF.out.and hHeld (by simp)) (by simp) (fun _ _ h => h)) (by rw [HVI.out.2]) (by have := HOK.out.n; omega)).mono ?_
      rintro e_ w9 ⟨rfl, hf⟩
      refine ⟨_, rfl, hHeld.and hf (by simp), fun hHeld => ?_⟩
      clear hf
      simp only [Act.put, List.setIfInBounds_toArray, List.set_cons_zero, List.set_cons_succ]
      refine run_at (i := 23) (v := ?_) rfl (by kernel_rfl) (by rfl) (fun _ _ _ h => h) hHeld (fun w1 hw1 => ?_) ?_
      rotate_left 1
      · skip
        go_simp
        (try (first | with_reducible rfl | (apply And.intro <;> rfl)))
      simp only [Act.put, List.setIfInBounds_toArray, List.set_cons_zero, List.set_cons_succ]
      refine run_at (i := 24) (v := ?_) rfl (by kernel_rfl) (by rfl) (fun _ _ _ h => h) hHeld (fun w1 hw1 => ?_) ?_
      rotate_left 1
      · skip
        go_simp
        (try (first | with_reducible rfl | (apply And.intro <;> rfl)))
      simp only [Act.put, List.setIfInBounds_toArray, List.set_cons_zero, List.set_cons_succ]
      refine wpAnyH_done (by kernel_rfl) ?_ _
      have HF9 : Hid (Fr [] w w9) := Lib.hid (HF.out.and hHeld (by simp))
      clear hHeld HCELLS HCL HC0 HC1 HCELLU HCLU HD0 HD1 HVU HVI HNN
      clear HOK HOKU
      go_wp2
      go_roundw
      case rel => exact ⟨j + 1, by have := HJN.out; omega, by go_num, HF9⟩
      case measure => have := HJN.out; simp [intOf]; omega
    · have hjn : n = j := by omega
      subst hjn
      clear hlt hj
      go_wp2
      go_ret
      exact ⟨rfl, HF.out⟩

set_option maxHeartbeats 2000000 in
theorem cert_eq (x y : Wce) (w : World) (hx : x.Li w []) (hy : y.Li w []) (he : x.con = y.con) (C D : List Value) (hC : x.cells = C) (hD : y.cells = D) :
    Calls Try.prog 14 #[.agg C.toArray, .agg D.toArray] w fun e w' => e = .returned (.bool true) ∧ Fr [] w w' := by
  obtain ⟨wa, hwa⟩ : ∃ wa, wa = (w.alloc (Obj.cells C.toArray 35)).alloc (Obj.cells D.toArray 35) := ⟨_, rfl⟩
  have hf0 : Fr [] w wa := by rw [hwa]; exact ((Fr.refl [] w).alloc _).alloc _
  have hb0 : Blk wa w.heap.size 35 x.cells.toArray := by rw [hwa, hC]; exact blk_alloc (Blk.new _ _ _)
  have hb1 : Blk wa (w.heap.size + 1) 35 y.cells.toArray := by
    have := Blk.new (w.alloc (Obj.cells C.toArray 35)) 35 D.toArray
    rw [hwa, hD]
    simpa using this
  obtain ⟨k, A, n, d, l⟩ := x
  obtain ⟨k', B, m, d', l'⟩ := y
  unfold Wce.con at he
  simp only [Prod.mk.injEq] at he
  obtain ⟨rfl, rfl⟩ := he
  have hnm : m = n := hy.l.1.symm.trans hx.l.1
  subst hnm
  have hr0 := hb0.range
  have hr1 := hb1.range
  have HKL : Hid (k.cells.length = 37) := Lib.hid (Wcm.len hx.k.h)
  have h01 : wa.cell? ⟨w.heap.size, 37, none⟩ = some (.slice A m d) := by have h := hr0 37 (.slice A m d) (by simp [Wce.cells, HKL.out]); simpa using h
  have h11 : wa.cell? ⟨w.heap.size + 1, 37, none⟩ = some (.slice B m d') := by have h := hr1 37 (.slice B m d') (by simp [Wce.cells, HKL.out]); simpa using h
  have HH0 : Hid (wa.rangeAt w.heap.size 0 k.cells) := Lib.hid (rangeAt_sub (o := 0) (xs := []) (ys := k.cells) (zs := [.slice A m d]) hr0)
  have HH1 : Hid (wa.rangeAt (w.heap.size + 1) 0 k.cells) := Lib.hid (rangeAt_sub (o := 0) (xs := []) (ys := k.cells) (zs := [.slice B m d']) hr1)
  have HEQ : Hid ((Op.equalIn 10000 29 (.agg k.cells.toArray) (.agg k.cells.toArray)).run Try.prog wa = .ok true wa) := Lib.hid (eq_Wcm k hx.k.h wa)
  have HF0 := Lib.hid hf0
  have HWA := Lib.hid hwa
  have HX := Lib.hid hx
  have HY := Lib.hid hy
  clear hwa hf0 hb0 hb1 hr0 hr1 hx hy hC hD
  generalize hKC : k.cells = KC at *
  clear hKC
  go_enter Try.func14, Try.ntmps14
  go_upto_region 1 with (fail)
  change Code.wp _ _ _ _ ((w.alloc (Obj.cells C.toArray 35)).alloc (Obj.cells D.toArray 35))
  rw [← HWA.out]
  go_wp2_with (first
    | (refine wpList_midg rfl 29 _ rfl w.heap.size 0 rfl KC HH0.out (row_cmt.of HKL.out) ?_)
    | (refine wpList_midg rfl 29 _ rfl (w.heap.size + 1) 0 rfl KC HH1.out (row_cmt.of HKL.out) ?_)
    | (refine wpList_eqlg rfl 29 _ _ _ rfl KC.toArray KC.toArray rfl rfl true (by kernel_rfl) HEQ.out ?_))
  refine (stamps_eq A B m d d' l l wa (HX.out.l.keep' HF0.out (by simp) (fun _ _ h => h)) (HY.out.l.keep' HF0.out (by simp) (fun _ _ h => h)) rfl (by have h1 : m ≤ 100 := HX.out.n; omega)).mono ?_
  rintro e w1 ⟨rfl, hf1⟩
  have HF1 : Hid (Fr [] w w1) := Lib.hid (HF0.out.and hf1 (by simp))
  clear hf1 h01 h11
  go_wp2
  go_ret
  exact ⟨rfl, HF1.out⟩

set_option maxHeartbeats 4000000 in
theorem certs_eq (A B : Option Addr) (n d d' : Nat) (l m : List Wce) (w : World) (hl : Lst 38 Wce.cells (fun w v => v.Li w []) w A n l) (hm : Lst 38 Wce.cells (fun w v => v.Li w []) w B n m) (hlm : l.map Wce.con = m.map Wce.con) (hn : n ≤ 1000) :
    Calls Try.prog 36 #[.slice A n d, .slice B n d'] w fun e w' => e = .returned (.bool true) ∧ Fr [] w w' := by
  have HL := Lib.hid hl
  have HM := Lib.hid hm
  have HLM := Lib.hid hlm
  have HN := Lib.hid hn
  have hn1 : (n : Int) ≤ 9223372036854775807 := by omega
  have hnn : ((n : Int) != (n : Int)) = false := by simp
  clear hl hm hn hlm
  go_enter Try.func36, Try.ntmps36
  go_wp2_with fail
  clear hnn
  go_loopw [13] (fun i wr => ∃ j : Nat, j ≤ n ∧ i = .int .i64 j ∧ Hid (Fr [] w wr)) (fun i _ => n - (intOf i).toNat)
  case atStart => exact ⟨0, by omega, rfl, Lib.hid (Fr.refl _ _)⟩
  case round =>
    obtain ⟨j, hj, rfl, HF⟩ := hrel
    by_cases hlt : j < n
    · obtain ⟨ad, v, hA, hv, hcl, hok, hcells⟩ := HL.out.at (i := j) hlt
      obtain ⟨bd, u, hB, hu, hclu, hoku, hcellu⟩ := HM.out.at (i := j) hlt
      subst hA
      subst hB
      have HVU := Lib.hid (map_at HLM.out hv hu)
      have HCELLS : Hid (∀ i c, (Wce.cells v)[i]? = some c → wr.cell? ((ad.add (j * 38)).add i) = some c) := Lib.hid (fun i c hc => HF.out.cell (hcells i c hc) (by simp))
      have HCELLU : Hid (∀ i c, (Wce.cells u)[i]? = some c → wr.cell? ((bd.add (j * 38)).add i) = some c) := Lib.hid (fun i c hc => HF.out.cell (hcellu i c hc) (by simp))
      have HCL := Lib.hid hcl
      have HCLU := Lib.hid hclu
      have HOK := Lib.hid hok
      have HOKU := Lib.hid hoku
      have HJN := Lib.hid hlt
      have hj0 : (0 : Int) ≤ j := by omega
      clear hcells hcl hok hv hcellu hclu hoku hu
      go_upto_region 6 with (fail)
      refine wp_region_held_drew (S := Fr [] wr) (by kernel_rfl) (Fr.drew (Fr.refl _ wr)) (fun hHeld => ?_)
      generalize wr.drew = wd at *
      refine run_at (i := 0) (v := ?_) rfl (by kernel_rfl) (by rfl) (fun _ _ _ h => h) hHeld (fun w1 hw1 => ?_) ?_
      rotate_left 1
      · skip
        go_simp
        (try (first | with_reducible rfl | (apply And.intro <;> rfl)))
      simp only [Act.put, List.setIfInBounds_toArray, List.set_cons_zero, List.set_cons_succ]
      refine run_at (i := 1) (v := ?_) rfl (by kernel_rfl) (by rfl) (fun _ _ _ h => h) hHeld (fun w1 hw1 => ?_) ?_
      rotate_left 1
      · skip
        go_simp
        (try (first | with_reducible rfl | (apply And.intro <;> rfl)))
      simp only [Act.put, List.setIfInBounds_toArray, List.set_cons_zero, List.set_cons_succ]
      refine run_at (i := 2) (v := ?_) rfl (by kernel_rfl) (by rfl) (fun _ _ _ h => h) hHeld (fun w1 hw1 => ?_) ?_
      rotate_left 1
      · skip
        go_simp
        (try (first | with_reducible rfl | (apply And.intro <;> rfl)))
      simp only [Act.put, List.setIfInBounds_toArray, List.set_cons_zero, List.set_cons_succ]
      refine crow_at (i := 3) rfl (by kernel_rfl) (by rfl) _ _ rfl _ rfl _ (fun w1 hw1 j v hv => hw1.cell ((HCELLS.out) j v hv) (by simp)) (row_crt.of HCL.out) (fun _ _ _ h => h) hHeld ?_
      simp only [Act.put, List.setIfInBounds_toArray, List.set_cons_zero, List.set_cons_succ]
      refine run_at (i := 4) (v := ?_) rfl (by kernel_rfl) (by rfl) (fun _ _ _ h => h) hHeld (fun w1 hw1 => ?_) ?_
      rotate_left 1
      · skip
        go_simp
        (try (first | with_reducible rfl | (apply And.intro <;> rfl)))
      simp only [Act.put, List.setIfInBounds_toArray, List.set_cons_zero, List.set_cons_succ]
      refine run_at (i := 5) (v := ?_) rfl (by kernel_rfl) (by rfl) (fun _ _ _ h => h) hHeld (fun w1 hw1 => ?_) ?_
      rotate_left 1
      · skip
        go_simp
        (try (first | with_reducible rfl | (apply And.intro <;> rfl)))
      simp only [Act.put, List.setIfInBounds_toArray, List.set_cons_zero, List.set_cons_succ]
      refine run_at (i := 6) (v := ?_) rfl (by kernel_rfl) (by rfl) (fun _ _ _ h => h) hHeld (fun w1 hw1 => ?_) ?_
      rotate_left 1
      · skip
        go_simp
        (try (first | with_reducible rfl | (apply And.intro <;> rfl)))
      simp only [Act.put, List.setIfInBounds_toArray, List.set_cons_zero, List.set_cons_succ]
      refine crow_at (i := 7) rfl (by kernel_rfl) (by rfl) _ _ rfl _ rfl _ (fun w1 hw1 j v hv => hw1.cell ((HCELLU.out) j v hv) (by simp)) (row_crt.of HCLU.out) (fun _ _ _ h => h) hHeld ?_
      simp only [Act.put, List.setIfInBounds_toArray, List.set_cons_zero, List.set_cons_succ]
      refine call_at (i := 8) (f := ?_) (args := ?_) rfl (by kernel_rfl) (by rfl) ?_ ?_
      rotate_left 2
      · go_simp
        (try (first | with_reducible rfl | (apply And.intro <;> rfl)))
      refine (cert_eq v u wd (Wce.Li.keep HOK.out (HF.out.and hHeld (by simp)) (by simp)) (Wce.Li.keep HOKU.out (HF.out.and hHeld (by simp)) (by simp)) HVU.out _ _ rfl rfl).mono ?_
      rintro e_ w9 ⟨rfl, hf⟩
      refine ⟨_, rfl, hHeld.and hf (by simp), fun hHeld => ?_⟩
      clear hf
      simp only [Act.put, List.setIfInBounds_toArray, List.set_cons_zero, List.set_cons_succ]
      refine run_at (i := 9) (v := ?_) rfl (by kernel_rfl) (by rfl) (fun _ _ _ h => h) hHeld (fun w1 hw1 => ?_) ?_
      rotate_left 1
      · skip
        go_simp
        (try (first | with_reducible rfl | (apply And.intro <;> rfl)))
      simp only [Act.put, List.setIfInBounds_toArray, List.set_cons_zero, List.set_cons_succ]
      refine wpAnyH_done (by kernel_rfl) ?_ _
      have HF9 : Hid (Fr [] w w9) := Lib.hid (HF.out.and hHeld (by simp))
      clear hHeld HCELLS HCL HCELLU HCLU HVU
      clear HOK HOKU
      go_wp2
      go_roundw
      case rel => exact ⟨j + 1, by have := HJN.out; omega, by go_num, HF9⟩
      case measure => have := HJN.out; simp [intOf]; omega
    · have hjn : n = j := by omega
      subst hjn
      clear hlt hj
      go_wp2
      go_ret
      exact ⟨rfl, HF.out⟩

set_option maxHeartbeats 2000000 in
theorem promise_eq (x y : Wpr) (w : World) (hx : x.Li w []) (hy : y.Li w []) (he : x.con = y.con) (C D : List Value) (hC : x.cells = C) (hD : y.cells = D) :
    Calls Try.prog 15 #[.agg C.toArray, .agg D.toArray] w fun e w' => e = .returned (.bool true) ∧ Fr [] w w' := by
  obtain ⟨wa, hwa⟩ : ∃ wa, wa = (w.alloc (Obj.cells C.toArray 40)).alloc (Obj.cells D.toArray 40) := ⟨_, rfl⟩
  have hf0 : Fr [] w wa := by rw [hwa]; exact ((Fr.refl [] w).alloc _).alloc _
  have hb0 : Blk wa w.heap.size 40 x.cells.toArray := by rw [hwa, hC]; exact blk_alloc (Blk.new _ _ _)
  have hb1 : Blk wa (w.heap.size + 1) 40 y.cells.toArray := by
    have := Blk.new (w.alloc (Obj.cells C.toArray 40)) 40 D.toArray
    rw [hwa, hD]
    simpa using this
  obtain ⟨r, e, t, A, n, d, l, b, mm⟩ := x
  obtain ⟨r', e', t', B, m, d', l', b', mm'⟩ := y
  unfold Wpr.con at he
  simp only [Cpr.mk.injEq] at he
  obtain ⟨rfl, rfl, rfl, hll, rfl, rfl⟩ := he
  have hnm : m = n := hy.l.1.symm.trans ((by have := congrArg List.length hll; simpa using this.symm : l'.length = l.length).trans hx.l.1)
  subst hnm
  have hr0 := hb0.range
  have hr1 := hb1.range
  have h00 : wa.cell? ⟨w.heap.size, 0, none⟩ = some (.int .i64 r) := by have h := hr0 0 _ rfl; simpa using h
  have h10 : wa.cell? ⟨w.heap.size + 1, 0, none⟩ = some (.int .i64 r) := by have h := hr1 0 _ rfl; simpa using h
  have h01 : wa.cell? ⟨w.heap.size, 1, none⟩ = some (.int .i64 e) := by have h := hr0 1 _ rfl; simpa using h
  have h11 : wa.cell? ⟨w.heap.size + 1, 1, none⟩ = some (.int .i64 e) := by have h := hr1 1 _ rfl; simpa using h
  have h02 : wa.cell? ⟨w.heap.size, 2, none⟩ = some (.int .u64 (t : Int)) := by have h := hr0 2 _ rfl; simpa using h
  have h12 : wa.cell? ⟨w.heap.size + 1, 2, none⟩ = some (.int .u64 (t : Int)) := by have h := hr1 2 _ rfl; simpa using h
  have h03 : wa.cell? ⟨w.heap.size, 3, none⟩ = some (.slice A m d) := by have h := hr0 3 _ rfl; simpa using h
  have h13 : wa.cell? ⟨w.heap.size + 1, 3, none⟩ = some (.slice B m d') := by have h := hr1 3 _ rfl; simpa using h
  have HH0 : Hid (wa.rangeAt w.heap.size 4 [.int .i64 b, .int .i64 mm]) := Lib.hid (rangeAt_sub (o := 0) (xs := [.int .i64 r, .int .i64 e, .int .u64 (t : Int), .slice A m d]) (ys := [.int .i64 b, .int .i64 mm]) (zs := []) hr0)
  have HH1 : Hid (wa.rangeAt (w.heap.size + 1) 4 [.int .i64 b, .int .i64 mm]) := Lib.hid (rangeAt_sub (o := 0) (xs := [.int .i64 r, .int .i64 e, .int .u64 (t : Int), .slice B m d']) (ys := [.int .i64 b, .int .i64 mm]) (zs := []) hr1)
  have HEQ : Hid ((Op.equalIn 10000 27 (.agg #[.int .i64 b, .int .i64 mm]) (.agg #[.int .i64 b, .int .i64 mm])).run Try.prog wa = .ok true wa) := Lib.hid (sig_selfd b mm 9998 wa)
  have HF0 := Lib.hid hf0
  have HWA := Lib.hid hwa
  have HX := Lib.hid hx
  have HY := Lib.hid hy
  have HLL := Lib.hid hll
  have hrr : (r == r) = true := by simp
  have hee : (e == e) = true := by simp
  have htt : (((t : Nat) : Int) == (t : Int)) = true := by simp
  clear hwa hf0 hb0 hb1 hr0 hr1 hx hy hC hD hll
  go_enter Try.func15, Try.ntmps15
  go_upto_region 1 with (fail)
  change Code.wp _ _ _ _ ((w.alloc (Obj.cells C.toArray 40)).alloc (Obj.cells D.toArray 40))
  rw [← HWA.out]
  go_wp2_with (first
    | (refine wpList_midg rfl 27 _ rfl w.heap.size 4 rfl [.int .i64 b, .int .i64 mm] HH0.out row_sg2 ?_)
    | (refine wpList_midg rfl 27 _ rfl (w.heap.size + 1) 4 rfl [.int .i64 b, .int .i64 mm] HH1.out row_sg2 ?_)
    | (refine wpList_eqlg rfl 27 _ _ _ rfl #[.int .i64 b, .int .i64 mm] #[.int .i64 b, .int .i64 mm] rfl rfl true (by kernel_rfl) HEQ.out ?_))
  refine (certs_eq A B m d d' l l' wa (HX.out.l.keep' HF0.out (by simp) (fun _ _ h => Wce.Li.keep (S' := []) h HF0.out (by simp))) (HY.out.l.keep' HF0.out (by simp) (fun _ _ h => Wce.Li.keep (S' := []) h HF0.out (by simp))) HLL.out (by have h1 : m ≤ 100 := HX.out.n; omega)).mono ?_
  rintro e_ w1 ⟨rfl, hf1⟩
  have HF1 : Hid (Fr [] w w1) := Lib.hid (HF0.out.and hf1 (by simp))
  clear hf1 h00 h10 h01 h11 h02 h12 h03 h13 hrr hee htt
  go_wp2
  go_ret
  exact ⟨rfl, HF1.out⟩

set_option maxHeartbeats 2000000 in
theorem batch_eq (x y : Wba) (w : World) (hx : x.Li w []) (hy : y.Li w []) (he : x.con = y.con) (C D : List Value) (hC : x.cells = C) (hD : y.cells = D) :
    Calls Try.prog 18 #[.agg C.toArray, .agg D.toArray] w fun e w' => e = .returned (.bool true) ∧ Fr [] w w' := by
  obtain ⟨wa, hwa⟩ : ∃ wa, wa = (w.alloc (Obj.cells C.toArray 45)).alloc (Obj.cells D.toArray 45) := ⟨_, rfl⟩
  have hf0 : Fr [] w wa := by rw [hwa]; exact ((Fr.refl [] w).alloc _).alloc _
  have hb0 : Blk wa w.heap.size 45 x.cells.toArray := by rw [hwa, hC]; exact blk_alloc (Blk.new _ _ _)
  have hb1 : Blk wa (w.heap.size + 1) 45 y.cells.toArray := by
    have := Blk.new (w.alloc (Obj.cells C.toArray 45)) 45 D.toArray
    rw [hwa, hD]
    simpa using this
  obtain ⟨e, t, A, n, d, l, A2, n2, d2, l2, A3, n3, d3, l3⟩ := x
  obtain ⟨e', t', B, m, d', l', B2, m2, d2', l2', B3, m3, d3', l3'⟩ := y
  unfold Wba.con at he
  simp only [Cba.mk.injEq] at he
  obtain ⟨rfl, rfl, hl1, hl2, hl3⟩ := he
  have hnm : m = n := hy.l.1.symm.trans ((by have := congrArg List.length hl1; simpa using this.symm : l'.length = l.length).trans hx.l.1)
  have hnm2 : m2 = n2 := hy.l2.1.symm.trans ((by have := congrArg List.length hl2; simpa using this.symm : l2'.length = l2.length).trans hx.l2.1)
  have hnm3 : m3 = n3 := hy.l3.1.symm.trans ((by have := congrArg List.length hl3; simpa using this.symm : l3'.length = l3.length).trans hx.l3.1)
  subst hnm
  subst hnm2
  subst hnm3
  have hr0 := hb0.range
  have hr1 := hb1.range
  have h00 : wa.cell? ⟨w.heap.size, 0, none⟩ = some (.int .i64 e) := by have h := hr0 0 _ rfl; simpa using h
  have h10 : wa.cell? ⟨w.heap.size + 1, 0, none⟩ = some (.int .i64 e) := by have h := hr1 0 _ rfl; simpa using h
  have h01 : wa.cell? ⟨w.heap.size, 1, none⟩ = some (.int .u64 (t : Int)) := by have h := hr0 1 _ rfl; simpa using h
  have h11 : wa.cell? ⟨w.heap.size + 1, 1, none⟩ = some (.int .u64 (t : Int)) := by have h := hr1 1 _ rfl; simpa using h
  have h02 : wa.cell? ⟨w.heap.size, 2, none⟩ = some (.slice A m d) := by have h := hr0 2 _ rfl; simpa using h
  have h12 : wa.cell? ⟨w.heap.size + 1, 2, none⟩ = some (.slice B m d') := by have h := hr1 2 _ rfl; simpa using h
  have h03 : wa.cell? ⟨w.heap.size, 3, none⟩ = some (.slice A2 m2 d2) := by have h := hr0 3 _ rfl; simpa using h
  have h13 : wa.cell? ⟨w.heap.size + 1, 3, none⟩ = some (.slice B2 m2 d2') := by have h := hr1 3 _ rfl; simpa using h
  have h04 : wa.cell? ⟨w.heap.size, 4, none⟩ = some (.slice A3 m3 d3) := by have h := hr0 4 _ rfl; simpa using h
  have h14 : wa.cell? ⟨w.heap.size + 1, 4, none⟩ = some (.slice B3 m3 d3') := by have h := hr1 4 _ rfl; simpa using h
  have HF0 := Lib.hid hf0
  have HWA := Lib.hid hwa
  have HX := Lib.hid hx
  have HY := Lib.hid hy
  have HL1 := Lib.hid hl1
  have HL2 := Lib.hid hl2
  have HL3 := Lib.hid hl3
  have HN : Hid (m ≤ 100) := Lib.hid hx.n
  have hee : (e != e) = false := by simp
  have htt : (((t : Nat) : Int) != (t : Int)) = false := by simp
  have hnn : (((m : Nat) : Int) != (m : Int)) = false := by simp
  clear hwa hf0 hb0 hb1 hr0 hr1 hx hy hC hD hl1 hl2 hl3
  go_enter Try.func18, Try.ntmps18
  go_upto_region 1 with (fail)
  change Code.wp _ _ _ _ ((w.alloc (Obj.cells C.toArray 45)).alloc (Obj.cells D.toArray 45))
  rw [← HWA.out]
  go_wp2_with fail
  refine (openings_eq A2 B2 m2 d2 d2' l2 l2' wa (HX.out.l2.keep' HF0.out (by simp) (fun _ _ h => Wop.Ok.keep (S' := []) h HF0.out (by simp))) (HY.out.l2.keep' HF0.out (by simp) (fun _ _ h => Wop.Ok.keep (S' := []) h HF0.out (by simp))) HL2.out (by have h1 : m2 ≤ 100 := HX.out.n2; omega)).mono ?_
  rintro e_ w1 ⟨rfl, hf1⟩
  have k04 := hf1.cell h04 (by simp)
  have k14 := hf1.cell h14 (by simp)
  have k02 := hf1.cell h02 (by simp)
  have k12 := hf1.cell h12 (by simp)
  have HF1 : Hid (Fr [] w w1) := Lib.hid (HF0.out.and hf1 (by simp))
  clear hf1 h00 h10 h01 h11 h02 h12 h03 h13 h04 h14 hee htt hnn
  go_wp2_with fail
  refine (tombs_eq A3 B3 m3 d3 d3' l3 l3' w1 (HX.out.l3.keep' HF1.out (by simp) (fun _ _ h => Wtb.Li.keep (S' := []) h HF1.out (by simp))) (HY.out.l3.keep' HF1.out (by simp) (fun _ _ h => Wtb.Li.keep (S' := []) h HF1.out (by simp))) HL3.out (by have h1 : m3 ≤ 100 := HX.out.n3; omega)).mono ?_
  rintro e_ w2 ⟨rfl, hf2⟩
  have m02 := hf2.cell k02 (by simp)
  have HC02 := Lib.hid m02
  have HC12 := Lib.hid (hf2.cell k12 (by simp))
  have HF2 : Hid (Fr [] w w2) := Lib.hid (HF1.out.and hf2 (by simp))
  clear hf2 k04 k14 k02 k12
  have hn1 : (m : Int) ≤ 9223372036854775807 := by have := HN.out; omega
  go_wp2_with fail
  clear m02
  go_loopw [46] (fun i wr => ∃ j : Nat, j ≤ m ∧ i = .int .i64 j ∧ Hid (Fr [] w2 wr)) (fun i _ => m - (intOf i).toNat)
  case atStart => exact ⟨0, by omega, rfl, Lib.hid (Fr.refl _ _)⟩
  case round =>
    obtain ⟨j, hj, rfl, HF⟩ := hrel
    by_cases hlt : j < m
    · obtain ⟨ad, v, hA, hv, hcl, hok, hcells⟩ := HX.out.l.at (i := j) hlt
      obtain ⟨bd, u, hB, hu, hclu, hoku, hcellu⟩ := HY.out.l.at (i := j) hlt
      have hA : A = some ad := hA
      have hB : B = some bd := hB
      subst hA
      subst hB
      have HVU := Lib.hid (map_at HL1.out hv hu)
      have HFW : Hid (Fr [] w wr) := Lib.hid (HF2.out.and HF.out (by simp))
      have HCELLS : Hid (∀ i c, (Wpr.cells v)[i]? = some c → wr.cell? ((ad.add (j * 6)).add i) = some c) := Lib.hid (fun i c hc => HFW.out.cell (hcells i c hc) (by simp))
      have HCELLU : Hid (∀ i c, (Wpr.cells u)[i]? = some c → wr.cell? ((bd.add (j * 6)).add i) = some c) := Lib.hid (fun i c hc => HFW.out.cell (hcellu i c hc) (by simp))
      have HCR0 := Lib.hid (HF.out.cell HC02.out (by simp))
      have HCR1 := Lib.hid (HF.out.cell HC12.out (by simp))
      have HOK := Lib.hid hok
      have HOKU := Lib.hid hoku
      have HJN := Lib.hid hlt
      have hj0 : (0 : Int) ≤ j := by omega
      clear hcells hcl hok hv hcellu hclu hoku hu
      go_upto_region 6 with (fail)
      refine wp_region_held_drew (S := Fr [] wr) (by kernel_rfl) (Fr.drew (Fr.refl _ wr)) (fun hHeld => ?_)
      generalize wr.drew = wd at *
      refine run_at (i := 0) (v := ?_) rfl (by kernel_rfl) (by rfl) (fun _ _ _ h => h) hHeld (fun w1 hw1 => ?_) ?_
      rotate_left 1
      · skip
        go_simp
        (try (first | with_reducible rfl | (apply And.intro <;> rfl)))
      simp only [Act.put, List.setIfInBounds_toArray, List.set_cons_zero, List.set_cons_succ]
      refine run_at (i := 1) (v := ?_) rfl (by kernel_rfl) (by rfl) (fun _ _ _ h => h) hHeld (fun w1 hw1 => ?_) ?_
      rotate_left 1
      · skip
        have hcw0 := hw1.cell (HCR0.out) (by first | (simp; done) | exact HNS.out | exact HNW.out | (intro hm; have hlt := HSB.out _ hm; (try dsimp only at hlt); omega))
        go_simp
        (try (first | with_reducible rfl | (apply And.intro <;> rfl)))
      simp only [Act.put, List.setIfInBounds_toArray, List.set_cons_zero, List.set_cons_succ]
      refine run_at (i := 2) (v := ?_) rfl (by kernel_rfl) (by rfl) (fun _ _ _ h => h) hHeld (fun w1 hw1 => ?_) ?_
      rotate_left 1
      · skip
        go_simp
        (try (first | with_reducible rfl | (apply And.intro <;> rfl)))
      simp only [Act.put, List.setIfInBounds_toArray, List.set_cons_zero, List.set_cons_succ]
      refine run_at (i := 3) (v := ?_) rfl (by kernel_rfl) (by rfl) (fun _ _ _ h => h) hHeld (fun w1 hw1 => ?_) ?_
      rotate_left 1
      · skip
        go_simp
        (try (first | with_reducible rfl | (apply And.intro <;> rfl)))
      simp only [Act.put, List.setIfInBounds_toArray, List.set_cons_zero, List.set_cons_succ]
      refine crow_at (i := 4) rfl (by kernel_rfl) (by rfl) _ _ rfl _ rfl _ (fun w1 hw1 j v hv => hw1.cell ((HCELLS.out) j v hv) (by simp)) (row_prm) (fun _ _ _ h => h) hHeld ?_
      simp only [Act.put, List.setIfInBounds_toArray, List.set_cons_zero, List.set_cons_succ]
      refine run_at (i := 5) (v := ?_) rfl (by kernel_rfl) (by rfl) (fun _ _ _ h => h) hHeld (fun w1 hw1 => ?_) ?_
      rotate_left 1
      · skip
        go_simp
        (try (first | with_reducible rfl | (apply And.intro <;> rfl)))
      simp only [Act.put, List.setIfInBounds_toArray, List.set_cons_zero, List.set_cons_succ]
      refine run_at (i := 6) (v := ?_) rfl (by kernel_rfl) (by rfl) (fun _ _ _ h => h) hHeld (fun w1 hw1 => ?_) ?_
      rotate_left 1
      · skip
        have hcw0 := hw1.cell (HCR1.out) (by first | (simp; done) | exact HNS.out | exact HNW.out | (intro hm; have hlt := HSB.out _ hm; (try dsimp only at hlt); omega))
        go_simp
        (try (first | with_reducible rfl | (apply And.intro <;> rfl)))
      simp only [Act.put, List.setIfInBounds_toArray, List.set_cons_zero, List.set_cons_succ]
      refine run_at (i := 7) (v := ?_) rfl (by kernel_rfl) (by rfl) (fun _ _ _ h => h) hHeld (fun w1 hw1 => ?_) ?_
      rotate_left 1
      · skip
        go_simp
        (try (first | with_reducible rfl | (apply And.intro <;> rfl)))
      simp only [Act.put, List.setIfInBounds_toArray, List.set_cons_zero, List.set_cons_succ]
      refine run_at (i := 8) (v := ?_) rfl (by kernel_rfl) (by rfl) (fun _ _ _ h => h) hHeld (fun w1 hw1 => ?_) ?_
      rotate_left 1
      · skip
        go_simp
        (try (first | with_reducible rfl | (apply And.intro <;> rfl)))
      simp only [Act.put, List.setIfInBounds_toArray, List.set_cons_zero, List.set_cons_succ]
      refine crow_at (i := 9) rfl (by kernel_rfl) (by rfl) _ _ rfl _ rfl _ (fun w1 hw1 j v hv => hw1.cell ((HCELLU.out) j v hv) (by simp)) (row_prm) (fun _ _ _ h => h) hHeld ?_
      simp only [Act.put, List.setIfInBounds_toArray, List.set_cons_zero, List.set_cons_succ]
      refine call_at (i := 10) (f := ?_) (args := ?_) rfl (by kernel_rfl) (by rfl) ?_ ?_
      rotate_left 2
      · go_simp
        (try (first | with_reducible rfl | (apply And.intro <;> rfl)))
      refine (promise_eq v u wd (Wpr.Li.keep HOK.out (HFW.out.and hHeld (by simp)) (by simp)) (Wpr.Li.keep HOKU.out (HFW.out.and hHeld (by simp)) (by simp)) HVU.out _ _ rfl rfl).mono ?_
      rintro e_ w9 ⟨rfl, hf⟩
      refine ⟨_, rfl, hHeld.and hf (by simp), fun hHeld => ?_⟩
      clear hf
      simp only [Act.put, List.setIfInBounds_toArray, List.set_cons_zero, List.set_cons_succ]
      refine run_at (i := 11) (v := ?_) rfl (by kernel_rfl) (by rfl) (fun _ _ _ h => h) hHeld (fun w1 hw1 => ?_) ?_
      rotate_left 1
      · skip
        go_simp
        (try (first | with_reducible rfl | (apply And.intro <;> rfl)))
      simp only [Act.put, List.setIfInBounds_toArray, List.set_cons_zero, List.set_cons_succ]
      refine wpAnyH_done (by kernel_rfl) ?_ _
      have HF9 : Hid (Fr [] w2 w9) := Lib.hid (HF.out.and hHeld (by simp))
      clear hHeld HCELLS HCELLU HVU HOK HOKU HCR0 HCR1 HFW
      go_wp2
      go_roundw
      case rel => exact ⟨j + 1, by have := HJN.out; omega, by go_num, HF9⟩
      case measure => have := HJN.out; simp [intOf]; omega
    · have hjn : m = j := by omega
      subst hjn
      clear hlt hj
      go_wp2
      go_ret
      exact ⟨rfl, HF2.out.and HF.out (by simp)⟩
end Go.Proofs.Ytnpjihdhpoddgaa

namespace Go.Proofs.Ytnpjihdhpoddgaa
open Go.RowKit
set_option maxRecDepth 100000
set_option maxHeartbeats 1000000 in
theorem eql_Wak (x y : Wst) (hx : x.h.length = 32) (hy : y.h.length = 32) (w : World) : (Op.equalIn 10000 37 (.agg x.cells.toArray) (.agg y.cells.toArray)).run Try.prog w = .ok (x.eqB y) w :=
  eql_of (d := 9999) (C := x.cells.toArray) (D := y.cells.toArray) (l := [(3, 0), (23, 1), (25, 3), (30, 35), (27, 36)]) (run_equalIn_struct w 9999 37 x.cells.toArray y.cells.toArray (by kernel_rfl) (by kernel_rfl)) (by kernel_rfl)
    (bs := [decide (x.r = y.r), (decide (x.c = y.c) && decide (x.s = y.s)), decide (x.h = y.h), decide ((x.t : Int) = (y.t : Int)), (decide (x.b = y.b) && decide (x.m = y.m))])
    ⟨⟨_, _, part_int 0 _ _ (show x.cells.toArray[0]? = some (.int .i64 x.r) from rfl) w, part_int 0 _ _ (show y.cells.toArray[0]? = some (.int .i64 y.r) from rfl) w, eql_int _ _ 9998 w⟩,
      ⟨_, _, (part_rowx 23 2 1 [.int .i64 x.r] [.int .i64 x.c, .int .i64 x.s] ([] ++ (x.h.map by8 ++ [.int .u64 (x.t : Int), .int .i64 x.b, .int .i64 x.m])) row_name rfl rfl w), (part_rowx 23 2 1 [.int .i64 y.r] [.int .i64 y.c, .int .i64 y.s] ([] ++ (y.h.map by8 ++ [.int .u64 (y.t : Int), .int .i64 y.b, .int .i64 y.m])) row_name rfl rfl w), eql_name _ _ _ _ 9997 w⟩,
      ⟨_, _, (part_rowx 25 32 3 [.int .i64 x.r, .int .i64 x.c, .int .i64 x.s] (x.h.map by8) [.int .u64 (x.t : Int), .int .i64 x.b, .int .i64 x.m] row_hash rfl (by rw [List.length_map]; exact hx) w), (part_rowx 25 32 3 [.int .i64 y.r, .int .i64 y.c, .int .i64 y.s] (y.h.map by8) [.int .u64 (y.t : Int), .int .i64 y.b, .int .i64 y.m] row_hash rfl (by rw [List.length_map]; exact hy) w), eql_hash x.h y.h hx hy 9997 w⟩,
      ⟨_, _, part_u64 35 _ _ (show x.cells.toArray[35]? = some (.int .u64 (x.t : Int)) by rw [List.getElem?_toArray]; exact post_cell [.int .i64 x.r, .int .i64 x.c, .int .i64 x.s] (x.h.map by8) [.int .u64 (x.t : Int), .int .i64 x.b, .int .i64 x.m] (by rw [List.length_map]; exact hx) 0 rfl) w, part_u64 35 _ _ (show y.cells.toArray[35]? = some (.int .u64 (y.t : Int)) by rw [List.getElem?_toArray]; exact post_cell [.int .i64 y.r, .int .i64 y.c, .int .i64 y.s] (y.h.map by8) [.int .u64 (y.t : Int), .int .i64 y.b, .int .i64 y.m] (by rw [List.length_map]; exact hy) 0 rfl) w, eql_u64 _ _ 9998 w⟩,
      ⟨_, _, (show (part 27 x.cells.toArray 36).run Try.prog w = .ok (.agg [.int .i64 x.b, .int .i64 x.m].toArray) w by rw [show x.cells = ([.int .i64 x.r, .int .i64 x.c, .int .i64 x.s] ++ (x.h.map by8 ++ [.int .u64 (x.t : Int)])) ++ ([.int .i64 x.b, .int .i64 x.m] ++ []) by simp [Wst.cells]]; exact part_rowx 27 2 36 _ _ _ row_sig (by simp [hx]) rfl w), (show (part 27 y.cells.toArray 36).run Try.prog w = .ok (.agg [.int .i64 y.b, .int .i64 y.m].toArray) w by rw [show y.cells = ([.int .i64 y.r, .int .i64 y.c, .int .i64 y.s] ++ (y.h.map by8 ++ [.int .u64 (y.t : Int)])) ++ ([.int .i64 y.b, .int .i64 y.m] ++ []) by simp [Wst.cells]]; exact part_rowx 27 2 36 _ _ _ row_sig (by simp [hy]) rfl w), eql_sig _ _ _ _ 9997 w⟩, trivial⟩
def Wen.eqB (x y : Wen) : Bool := [(decide (x.c = y.c) && decide (x.s = y.s)), decide (x.h = y.h), decide ((x.t : Int) = (y.t : Int))].all id
theorem Wen.eqB_iff (x y : Wen) : x.eqB y = true ↔ x = y := by
  obtain ⟨_, _, _, _⟩ := x
  obtain ⟨_, _, _, _⟩ := y
  simp [Wen.eqB, Wen.mk.injEq, and_assoc]
  (try omega)
set_option maxHeartbeats 1000000 in
theorem eql_Wen (x y : Wen) (hx : x.h.length = 32) (hy : y.h.length = 32) (w : World) : (Op.equalIn 10000 51 (.agg x.cells.toArray) (.agg y.cells.toArray)).run Try.prog w = .ok (x.eqB y) w :=
  eql_of (d := 9999) (C := x.cells.toArray) (D := y.cells.toArray) (l := [(23, 0), (25, 2), (30, 34)]) (run_equalIn_struct w 9999 51 x.cells.toArray y.cells.toArray (by kernel_rfl) (by kernel_rfl)) (by kernel_rfl)
    (bs := [(decide (x.c = y.c) && decide (x.s = y.s)), decide (x.h = y.h), decide ((x.t : Int) = (y.t : Int))])
    ⟨⟨_, _, (part_rowx 23 2 0 [] [.int .i64 x.c, .int .i64 x.s] ([] ++ (x.h.map by8 ++ [.int .u64 (x.t : Int)])) row_name rfl rfl w), (part_rowx 23 2 0 [] [.int .i64 y.c, .int .i64 y.s] ([] ++ (y.h.map by8 ++ [.int .u64 (y.t : Int)])) row_name rfl rfl w), eql_name _ _ _ _ 9997 w⟩,
      ⟨_, _, (part_rowx 25 32 2 [.int .i64 x.c, .int .i64 x.s] (x.h.map by8) [.int .u64 (x.t : Int)] row_hash rfl (by rw [List.length_map]; exact hx) w), (part_rowx 25 32 2 [.int .i64 y.c, .int .i64 y.s] (y.h.map by8) [.int .u64 (y.t : Int)] row_hash rfl (by rw [List.length_map]; exact hy) w), eql_hash x.h y.h hx hy 9997 w⟩,
      ⟨_, _, part_u64 34 _ _ (show x.cells.toArray[34]? = some (.int .u64 (x.t : Int)) by rw [List.getElem?_toArray]; exact post_cell [.int .i64 x.c, .int .i64 x.s] (x.h.map by8) [.int .u64 (x.t : Int)] (by rw [List.length_map]; exact hx) 0 rfl) w, part_u64 34 _ _ (show y.cells.toArray[34]? = some (.int .u64 (y.t : Int)) by rw [List.getElem?_toArray]; exact post_cell [.int .i64 y.c, .int .i64 y.s] (y.h.map by8) [.int .u64 (y.t : Int)] (by rw [List.length_map]; exact hy) 0 rfl) w, eql_u64 _ _ 9998 w⟩, trivial⟩
end Go.Proofs.Ytnpjihdhpoddgaa

namespace Go.Proofs.Ytnpjihdhpoddgaa
open Go.RowKit
set_option maxRecDepth 100000
/-- the slots that hold false behind these operations, if they ask nothing but what is false -/
def fallsF (n : Nat) (ops : List Oper) : List Oper → List Nat → Option (List Nat)
  | [], F => some F
  | o :: r, F =>
    match o.guard with
    | some (k, true) => match (nthOp ops k).bind (·.dst) with
      | some s => match F.contains s, o.dst with
        | true, some d => match F.contains d with
          | true => none
          | false => fallsF n ops r F
        | true, none => fallsF n ops r F
        | false, _ => none
      | none => none
    | some (_, false) => none
    | none => match o.dst with
      | none => none
      | some d => match Nat.blt d n with
        | false => none
        | true => match o.op with
          | .move (.tmp c) => match F.contains c with
            | true => fallsF n ops r (d :: F)
            | false => none
          | .assign (.tmp c) => match F.contains c with
            | true => fallsF n ops r (d :: F)
            | false => none
          | .pick (.tmp c) _ (.const (.bool false)) => match F.contains c with
            | true => fallsF n ops r (d :: F)
            | false => none
          | _ => none
def AllF (T : Array Value) (F : List Nat) : Prop := ∀ s ∈ F, T[s]? = some (.bool false)
theorem AllF.mem {T : Array Value} {F : List Nat} {c : Nat} (h : AllF T F) (hc : F.contains c = true) : T[c]? = some (.bool false) := h c (by simpa using hc)
theorem AllF.out {T : Array Value} {F : List Nat} {d : Nat} {v : Value} (h : AllF T F) (hd : F.contains d = false) : AllF (T.setIfInBounds d v) F := by
  intro s hs
  have hne : d ≠ s := by
    rintro rfl
    have : F.contains d = true := by simpa using hs
    rw [this] at hd
    cases hd
  rw [Array.getElem?_setIfInBounds_ne hne]
  exact h s hs
theorem AllF.add {T : Array Value} {F : List Nat} {d : Nat} (h : AllF T F) (hd : d < T.size) : AllF (T.setIfInBounds d (.bool false)) (d :: F) := by
  intro s hs
  by_cases e : d = s
  · subst e
    rw [Array.getElem?_setIfInBounds_self_of_lt hd]
  · rw [Array.getElem?_setIfInBounds_ne e]
    rcases List.mem_cons.1 hs with rfl | hs
    · exact absurd rfl e
    · exact h s hs
theorem getD_some {T : Array Value} {c : Nat} {v : Value} (h : T[c]? = some v) : T.getD c undef = v := by
  rw [Array.getD_eq_getD_getElem?, h]; rfl
theorem wp_run' {P : Program} {o : Oper} {a : Act} {w w' : World} {K : Act → World → Prop} {Q : Exit → Act → World → Prop} {v : Value} (he : (execOp a.eval o).run P w = .ok (.value v) w') (h : K (a.put o.dst v) w') : Oper.wp P o a w K Q := by
  unfold Oper.wp
  rw [he]
  exact h
theorem wpList_fallsF {P : Program} {ops : List Oper} {Q : Exit → Act → World → Prop} {w : World} {n : Nat} {F' : List Nat} : ∀ (l : List Oper) (T : Array Value) (D : List Deferred) (F : List Nat), AllF T F → T.size = n → fallsF n ops l F = some F' →
    (∀ T', AllF T' F' → Q .normal ⟨T', D⟩ w) → wpList P ops.toArray Q l ⟨T, D⟩ w
  | [], T, D, F, hF, hn, h, hQ => by
    unfold fallsF at h
    injection h with h
    subst h
    exact hQ T hF
  | o :: r, T, D, F, hF, hn, h, hQ => by
    unfold fallsF at h
    split at h
    · rename_i k hg
      split at h
      · rename_i s hs
        have hy : ∀ b, F.contains s = b → b = true → Region.wanted o (yielded ops.toArray T) = false := by
          intro b hb hbt
          subst hbt
          have h1 := hF.mem hb
          unfold Region.wanted
          rw [hg]
          simp only
          unfold yielded
          rw [show (ops.toArray[k]?) = nthOp ops k from by rw [List.getElem?_toArray, nthOp_eq], hs]
          simp [h1]
        split at h
        · rename_i d hc hd
          split at h
          · cases h
          · rename_i hdf
            refine wpList_skip (hy _ hc rfl) ?_
            rw [hd]
            exact wpList_fallsF r _ D F (hF.out hdf) (by simpa using hn) h hQ
        · rename_i hc hd
          refine wpList_skip (hy _ hc rfl) ?_
          rw [hd]
          exact wpList_fallsF r _ D F hF hn h hQ
        · cases h
      · cases h
    · cases h
    · rename_i hg
      split at h
      · cases h
      · rename_i d hd
        split at h
        · cases h
        · rename_i hlt
          have hlt : d < T.size := by rw [hn]; simpa using hlt
          have fin : (execOp (⟨T, D⟩ : Act).eval o).run P w = .ok (.value (.bool false)) w → fallsF n ops r (d :: F) = some F' → wpList P ops.toArray Q (o :: r) ⟨T, D⟩ w := fun he h =>
            wpList_plain hg fun K hK => wp_run' he (by
              rw [hd]
              exact hK _ _ (wpList_fallsF r _ D (d :: F) (hF.add hlt) (by simpa using hn) h hQ))
          split at h
          · rename_i c ho
            split at h
            · rename_i hc
              exact fin (by simp [execOp, ho, Act.eval, hF.mem hc]) h
            · cases h
          · rename_i c ho
            split at h
            · rename_i hc
              exact fin (by simp [execOp, ho, Act.eval, hF.mem hc]) h
            · cases h
          · rename_i c x ho
            split at h
            · rename_i hc
              exact fin (by simp [execOp, ho, Act.eval, hF.mem hc, asBool]) h
            · cases h
          · cases h
/-- all that is left of a region behind a false '&&': slot s holds false at its end; c is the slot that is false now -/
theorem wpList_false {P : Program} {ops : List Oper} {Q : Exit → Act → World → Prop} {w : World} {o : Oper} {r : List Oper} {T : Array Value} {D : List Deferred} (c s n : Nat) (hw : Region.wanted o (yielded ops.toArray T) = false) (hc : T[c]? = some (.bool false)) (hn : T.size = n)
    (h : ((fallsF n ops (o :: r) [c]).map (·.contains s)) = some true)
    (hQ : ∀ T : Array Value, T.getD s undef = .bool false → Q .normal ⟨T, D⟩ w) : wpList P ops.toArray Q (o :: r) ⟨T, D⟩ w := by
  cases hr : fallsF n ops (o :: r) [c] with
  | none => rw [hr] at h; cases h
  | some F =>
    rw [hr] at h
    injection h with h
    exact wpList_fallsF _ T D [c] (fun x hx => by simp at hx; subst hx; exact hc) hn hr (fun T' hT => hQ T' (getD_some (hT.mem h)))
end Go.Proofs.Ytnpjihdhpoddgaa
