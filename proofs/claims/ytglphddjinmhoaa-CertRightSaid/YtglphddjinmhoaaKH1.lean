/- Texts that the proof stands on: Package commit: the document's example (wakes). | gavellaw10's Books: a commitment in both books. (written by gen_cep.py) | gavellaw10's Books: a stamp in both books. (written by gen_cep.py) | Cells in the middle of a block; gavellaw05's up, niceName, niceSig. (written by gen_nic.py) | gavellaw10's Books: a certificate, signed in both books. (written by gen_cec.py) -/
import Derived.Test.YtglphddjinmhoaaKG5
import Derived.Deep.DeepCutAuto
import Derived.Deep.CutBlock
set_option maxRecDepth 100000

namespace Go.Proofs.Ytglphddjinmhoaa
open Go.RowKit
set_option maxRecDepth 100000

theorem made_ok (c s : Int) (hc : 0 ≤ c ∧ c < 1099511627776) (hs : i64In s) (h b : List UInt8) (hb : b.length ≤ 1000000) (l : List Ent) (hl : l.length < 1048576) : (made c s h b l).Ok := by
  refine ⟨⟨by show _ ≤ c; omega, by show c < _; omega⟩, hs, sumL_len _, ⟨by show _ ≤ ((b.length : Nat) : Int); omega, by show ((b.length : Nat) : Int) < _; omega⟩, ⟨by show _ ≤ 1000 + c; omega, by show 1000 + c < _; omega⟩, ?_⟩
  show i64In (mrk _ _)
  unfold mrk i64In
  have h1 : List.idxOf (1000 + c, (made0 c s h b).text) (sgn l (1000 + c, (made0 c s h b).text)) ≤ (sgn l (1000 + c, (made0 c s h b).text)).length := List.idxOf_le_length
  have h2 : (sgn l (1000 + c, (made0 c s h b).text)).length ≤ l.length + 1 := by unfold sgn; split <;> simp
  omega
theorem made_right (c s : Int) (hc : 0 ≤ c) (h b : List UInt8) (l : List Ent) (k : Int) (hk : c < k) (hs : 1 ≤ s ∧ s ≤ 1048576) (hb : b.length ≤ 256) :
    rightC k (sgn l (1000 + c, (made0 c s h b).text)) (made c s h b l) = true := by
  unfold rightC
  have h1 : validB k (made c s h b l) = true := by
    unfold validB
    simp only [decide_eq_true_eq]
    exact ⟨hc, hk, hs.1, hs.2, by show (0 : Int) ≤ ((b.length : Nat) : Int); omega, by show ((b.length : Nat) : Int) ≤ 256; omega⟩
  have h2 : signB (made c s h b l).b (made c s h b l).c = true := by
    unfold signB
    simp only [decide_eq_true_eq]
    exact ⟨by show 1000 ≤ 1000 + c; omega, by show 1000 + c - 1000 = c; omega⟩
  rw [h1, h2, made_text]
  exact rightB_sgn l (1000 + c) (made0 c s h b).text

end Go.Proofs.Ytglphddjinmhoaa

namespace Go.Proofs.Ytglphddjinmhoaa
open Go.RowKit
set_option maxRecDepth 100000

def hzC : List UInt8 := List.replicate 32 0
theorem built_hC : Try.prog.built 42 [] = some (hzC.map by8).toArray := by kernel_rfl
/-- both books hold the same signatures -/
structure BB (w : World) (Sb : List Nat) (gb : Nat) (Sr : List Nat) (gr : Nat) (l : List Ent) : Prop where
  b : Bok w Sb gb l
  r : RBk w Sr gr l
  nd : l.Nodup
  d : ∀ k ∈ Sr, ¬ k ∈ Sb
theorem BB.keep {w w' : World} {Sb Sr T : List Nat} {gb gr : Nat} {l : List Ent} (h : BB w Sb gb Sr gr l) (hf : Fr T w w') (hb : ∀ k ∈ Sb, ¬ k ∈ T) (hr : ∀ k ∈ Sr, ¬ k ∈ T) : BB w' Sb gb Sr gr l := ⟨h.b.keep hf hb, h.r.keep hf hr, h.nd, h.d⟩
theorem sgn_ndC {l : List Ent} {e : Ent} (h : l.Nodup) : (sgn l e).Nodup := by
  unfold sgn
  split
  · exact h
  · rename_i hn
    rw [List.nodup_append]
    exact ⟨h, by simp, fun a ha b hb => by simp at hb; subst hb; exact fun e => hn (e ▸ ha)⟩
theorem sgn_lenC (l : List Ent) (e : Ent) : (sgn l e).length ≤ l.length + 1 := by unfold sgn; split <;> simp
set_option maxHeartbeats 4000000 in
theorem bkCommit_any (C S : Int) (hc : 0 ≤ C ∧ C < 1099511627776) (hs : i64In S) (A : Option Addr) (n cap : Nat) (p : List UInt8) (w : World) (hp : By w A n p) (hA : ∀ k ∈ bk A, k < w.heap.size) (hn : n ≤ 1000)
    (Sb : List Nat) (gb : Nat) (Sr : List Nat) (gr : Nat) (l : List Ent) (hB : BB w Sb gb Sr gr l) (hl : l.length < 1048576) :
    Calls Try.prog 17 #[.agg #[.pointer (some ⟨gb, 0, none⟩), .pointer (some ⟨gr, 0, none⟩)], .agg #[.int .i64 C, .int .i64 S], .slice A n cap] w fun e w' => e = .returned (made C S hzC p l).val ∧
      ∃ Sr', BB w' Sb gb Sr' gr (sgn l (1000 + C, (made C S hzC p l).text)) ∧ Fr (Sb ++ Sr) w w' ∧ ∀ y ∈ Sr', y < w.heap.size → y ∈ Sr := by
  obtain ⟨wa, hwa⟩ : ∃ wa, wa = ((w.alloc (Obj.cells #[.pointer (some ⟨gb, 0, none⟩), .pointer (some ⟨gr, 0, none⟩)] 38)).alloc (Obj.cells #[.int .i64 C, .int .i64 S] 32)).alloc (Obj.cells zeroCm 46) := ⟨_, rfl⟩
  have hf0 : Fr [] w wa := by rw [hwa]; exact (((Fr.refl [] w).alloc _).alloc _).alloc _
  have hb1 : Blk wa w.heap.size 38 #[.pointer (some ⟨gb, 0, none⟩), .pointer (some ⟨gr, 0, none⟩)] := by rw [hwa]; exact blk_alloc (blk_alloc (Blk.new _ _ _))
  have hb2 : Blk wa (w.heap.size + 1) 32 #[.int .i64 C, .int .i64 S] := by
    have := blk_alloc (t' := 46) (cs' := zeroCm) (Blk.new (w.alloc (Obj.cells #[.pointer (some ⟨gb, 0, none⟩), .pointer (some ⟨gr, 0, none⟩)] 38)) 32 #[.int .i64 C, .int .i64 S])
    rw [hwa]
    simpa using this
  have hb3 : Blk wa (w.heap.size + 2) 46 zeroCm := by
    have := Blk.new ((w.alloc (Obj.cells #[.pointer (some ⟨gb, 0, none⟩), .pointer (some ⟨gr, 0, none⟩)] 38)).alloc (Obj.cells #[.int .i64 C, .int .i64 S] 32)) 46 zeroCm
    rw [hwa]
    simpa using this
  have hcp : wa.cell? ⟨w.heap.size, 1, none⟩ = some (.pointer (some ⟨gr, 0, none⟩)) := hb1.cell 1
  have HCP0 : Hid (wa.cell? ⟨w.heap.size, 0, none⟩ = some (.pointer (some ⟨gb, 0, none⟩))) := Lib.hid (hb1.cell 0)
  have HCC : Hid (wa.cell? ⟨w.heap.size + 1, 0, none⟩ = some (.int .i64 C)) := Lib.hid (hb2.cell 0)
  have HR2 := Lib.hid hb2.range
  have HB3 := Lib.hid hb3
  have HF0 := Lib.hid hf0
  have HWA := Lib.hid hwa
  have HSBw : Hid (∀ k ∈ Sb, k < w.heap.size) := Lib.hid hB.b.lt
  have HSRw : Hid (∀ k ∈ Sr, k < w.heap.size) := Lib.hid hB.r.lt
  have HDD := Lib.hid hB.d
  have HND := Lib.hid hB.nd
  have HBK := Lib.hid (hB.b.keep hf0 (by simp))
  have hmk := refmake_any C S hc hs hzC rfl A n cap p wa (hp.keep hf0 (by simp)) (fun k hk => by have := hA k hk; have := hf0.size; omega) hn Sr gr l (hB.r.keep hf0 (by simp)) hB.nd hl
  have hzok := made_ok C S hc hs hzC p (by have := hp.1; omega) l hl
  have hzb : (made C S hzC p l).b = 1000 + C := rfl
  have hzm : (made C S hzC p l).m = mrk (sgn l (1000 + C, (made C S hzC p l).text)) (1000 + C, (made C S hzC p l).text) := rfl
  rw [show (made0 C S hzC p).text = (made C S hzC p l).text from rfl] at hmk
  generalize made C S hzC p l = z at *
  have HCL := Lib.hid (Cm.len hzok.h)
  have HONE := Lib.hid z.one
  have HZOK := Lib.hid hzok
  have HZB := Lib.hid hzb
  have HZM := Lib.hid hzm
  have HMK := Lib.hid hmk
  have HC := Lib.hid hc
  have HL := Lib.hid hl
  have HSZ : Hid (w.heap.size + 2 < wa.heap.size) := Lib.hid hb3.lt
  clear hwa hf0 hb1 hb2 hb3 hp hA hn hB hmk hzok hzb hzm hc hs hl
  go_enter Try.func17, Try.ntmps17
  go_upto_region 1 with (fail)
  change Code.wp _ _ _ _ (((w.alloc (Obj.cells #[.pointer (some ⟨gb, 0, none⟩), .pointer (some ⟨gr, 0, none⟩)] 38)).alloc (Obj.cells #[.int .i64 C, .int .i64 S] 32)).alloc (Obj.cells zeroCm 46))
  rw [← HWA.out]
  go_upto_region 2 with (first
    | (refine wpList_row rfl 32 _ rfl _ _ rfl _ HR2.out row_name ?_)
    | (refine wpList_builtg rfl 42 _ rfl _ _ built_hC rfl ?_)
    | (go_at_call 38
       refine HMK.out.mono ?_
       rintro e_ w1 ⟨rfl, S1, hr1, hf1, hs1⟩
       have HR1 := Lib.hid hr1
       have HF1 := Lib.hid hf1
       have HS1 := Lib.hid hs1
       clear hr1 hf1 hs1)
    | (refine wpList_store_box rfl 46 _ _ rfl zeroCm 46 z.cells rfl rfl (by rw [HCL.out]; kernel_rfl) (by rw [HCL.out]; rfl) HONE.out ?_
       intro w3 hb7 hf7
       have HX3 := Lib.hid hb7
       have HF3 := Lib.hid hf7
       clear hb7 hf7))
  simp only [Act.put]
  generalize hg : w1.heap.size = g7 at *
  have HR1L : Hid (∀ k ∈ S1, k < g7) := Lib.hid (fun k hk => by have := HR1.out.lt k hk; omega)
  have HLT7 : Hid (w.heap.size + 2 < g7 ∧ g7 < w3.heap.size) := Lib.hid ⟨by have := HF1.out.size; have := HSZ.out; omega, HX3.out.lt⟩
  clear hg hcp
  obtain ⟨X, hX⟩ : ∃ X, z.text = X := ⟨_, rfl⟩
  obtain ⟨l2, hl2⟩ : ∃ l2, sgn l (1000 + C, X) = l2 := ⟨_, rfl⟩
  rw [hX] at HZM HR1
  rw [hl2] at HZM HR1
  have HND2 : Hid l2.Nodup := Lib.hid (by rw [← hl2]; exact sgn_ndC HND.out)
  have HXX := Lib.hid hX
  have HL2 := Lib.hid hl2
  clear hX hl2
  have HFR := Lib.hid (HF1.out.trans HF3.out (by simp))
  have HAT := Lib.hid (Cm.at_blk HX3.out HZOK.out.h)
  have HBK3 : Hid (Bok w3 Sb gb l) := Lib.hid (HBK.out.keep HFR.out (fun k hk hm => HDD.out k hm hk))
  have hwr : IntKind.i64.wrap (1000 + C) = 1000 + C := IntWalk.i64_in _ (by have := HC.out; omega)
  have HNS : Hid (¬ w.heap.size + 1 ∈ g7 :: Sb) := Lib.hid (fun hm => by
    rcases List.mem_cons.1 hm with hm | hm
    · have := HLT7.out; omega
    · have := HSBw.out _ hm; omega)
  have HNW : Hid (¬ w.heap.size ∈ g7 :: Sb) := Lib.hid (fun hm => by
    rcases List.mem_cons.1 hm with hm | hm
    · have := HLT7.out; omega
    · have := HSBw.out _ hm; omega)
  have HNG : Hid (¬ g7 ∈ Sb) := Lib.hid (fun hm => by have := HSBw.out _ hm; have := HLT7.out; omega)
  have HP0 := Lib.hid (HFR.out.cell HCP0.out (fun hm => by have := HSRw.out _ hm; simp at this))
  have HCC3 := Lib.hid (HFR.out.cell HCC.out (fun hm => by have := HSRw.out _ hm; simp at this; omega))
  have HT := Lib.hid (fun W => reftext_any z HZOK.out W)
  have HTL := Lib.hid (z.text_len HZOK.out)
  unfold Cm.val at HT
  refine wp_region_held_drew (S := Fr (g7 :: Sb) w3) (by kernel_rfl) (Fr.drew (Fr.refl _ w3)) (fun hHeld => ?_)
  refine run_at (i := 0) (v := ?_) rfl (by kernel_rfl) (by rfl) (fun _ _ _ h => h) hHeld (fun w1 hw1 => ?_) ?_
  rotate_left 1
  · skip
    go_simp
    (try (first | with_reducible rfl | (apply And.intro <;> rfl)))
  simp only [Act.put, List.setIfInBounds_toArray, List.set_cons_zero, List.set_cons_succ]
  refine run_at (i := 1) (v := ?_) rfl (by kernel_rfl) (by rfl) (fun _ _ _ h => h) hHeld (fun w1 hw1 => ?_) ?_
  rotate_left 1
  · skip
    have hcw0 := hw1.cell (HP0.out) (by first | (simp; done) | exact HNS.out | exact HNW.out | (intro hm; have hlt := HSB.out _ hm; (try dsimp only at hlt); omega))
    go_simp
    (try (first | with_reducible rfl | (apply And.intro <;> rfl)))
  simp only [Act.put, List.setIfInBounds_toArray, List.set_cons_zero, List.set_cons_succ]
  refine run_at (i := 2) (v := ?_) rfl (by kernel_rfl) (by rfl) (fun _ _ _ h => h) hHeld (fun w1 hw1 => ?_) ?_
  rotate_left 1
  · skip
    go_simp
    (try (first | with_reducible rfl | (apply And.intro <;> rfl)))
  simp only [Act.put, List.setIfInBounds_toArray, List.set_cons_zero, List.set_cons_succ]
  refine run_at (i := 3) (v := ?_) rfl (by kernel_rfl) (by rfl) (fun _ _ _ h => h) hHeld (fun w1 hw1 => ?_) ?_
  rotate_left 1
  · skip
    have hcw0 := hw1.cell (HCC3.out) (by first | (simp; done) | exact HNS.out | exact HNW.out | (intro hm; have hlt := HSB.out _ hm; (try dsimp only at hlt); omega))
    go_simp
    (try (first | with_reducible rfl | (apply And.intro <;> rfl)))
  simp only [Act.put, List.setIfInBounds_toArray, List.set_cons_zero, List.set_cons_succ]
  refine run_at (i := 4) (v := ?_) rfl (by kernel_rfl) (by rfl) (fun _ _ _ h => h) hHeld (fun w1 hw1 => ?_) ?_
  rotate_left 1
  · skip
    go_simp
    (try (first | with_reducible rfl | (apply And.intro <;> rfl)))
  simp only [Act.put, List.setIfInBounds_toArray, List.set_cons_zero, List.set_cons_succ]
  refine step_at (i := 5) rfl (by kernel_rfl) (by rfl) (fun K hK => ?_)
  refine wp_row _ _ rfl _ _ rfl _ (HAT.out.all) (row_commit.of HCL.out) ?_
  refine hK.out _ _ hHeld (fun hHeld => ?_)
  clear hK K
  simp only [Act.put, List.setIfInBounds_toArray, List.set_cons_zero, List.set_cons_succ]
  refine call_at (i := 6) (f := ?_) (args := ?_) rfl (by kernel_rfl) (by rfl) ?_ ?_
  rotate_left 2
  · go_simp
    (try (first | with_reducible rfl | (apply And.intro <;> rfl)))
  have h := HT.out w3.drew
  have HSG := Lib.hid (fun W (hW : Fr [] w3 W) A' n' c' (hy : By W A' n' X) (hn : n' ≤ maxLen) => sign_any W Sb gb l (HBK3.out.keep hW (by simp)) (1000 + C) (wf_i64 ⟨by have := HC.out; omega, by have := HC.out; omega⟩) A' n' c' X hy hn (by have := HL.out; omega))
  rw [HXX.out] at h HTL
  refine h.mono ?_
  rintro e w4 ⟨A4, c4, rfl, hn4⟩
  have HF4 : Hid (Fr [] w3 w4) := Lib.hid ((Fr.drew (Fr.refl [] w3)).and hn4.2.1 (by simp))
  refine ⟨_, rfl, HF4.out.mono (by simp), fun hHeld => ?_⟩
  have HN4 := Lib.hid hn4
  clear hn4 h
  simp only [Act.put, List.setIfInBounds_toArray, List.set_cons_zero, List.set_cons_succ]
  refine call_at (i := 7) (f := ?_) (args := ?_) rfl (by kernel_rfl) (by rfl) ?_ ?_
  rotate_left 2
  · go_simp
    (try (first | with_reducible rfl | (apply And.intro <;> rfl)))
  have h := HSG.out w4 HF4.out A4 _ c4 HN4.out.by (by have := HTL.out; unfold maxLen; omega)
  rw [HL2.out, ← HZM.out] at h
  refine h.mono ?_
  rintro e w5 ⟨rfl, hb5, hf5⟩
  refine ⟨_, rfl, hHeld.trans hf5 (fun x hx _ => List.mem_cons_of_mem _ hx), fun hHeld => ?_⟩
  have HB5 := Lib.hid hb5
  have HF5 := Lib.hid (HF4.out.mono (T := Sb) (by simp) |>.trans hf5 (fun x hx _ => hx))
  have HX5 := Lib.hid (HX3.out.keep HF5.out HNG.out)
  clear hb5 hf5 HN4 h
  simp only [Act.put, List.setIfInBounds_toArray, List.set_cons_zero, List.set_cons_succ]
  refine run_at (i := 8) (v := ?_) rfl (by kernel_rfl) (by rfl) (fun _ _ _ h => h) hHeld (fun w1 hw1 => ?_) ?_
  rotate_left 1
  · skip
    go_simp
    (try (first | with_reducible rfl | (apply And.intro <;> rfl)))
  simp only [Act.put, List.setIfInBounds_toArray, List.set_cons_zero, List.set_cons_succ]
  refine step_at (i := 9) rfl (by kernel_rfl) (by rfl) (fun K hK => ?_)
  refine wp_store_mid 44 _ _ rfl g7 35 #[.int .i64 (1000 + C), .int .i64 z.m] rfl rfl (HX5.out.there 35 2 (by rw [List.size_toArray, HCL.out]; omega)) (by kernel_rfl) (by kernel_rfl) ?_
  have hb6 := (HX5.out.set 35 (.int .i64 (1000 + C))).set 36 (.int .i64 z.m)
  rw [show z.cells.toArray = (Cm.cells ⟨z.c, z.s, z.h, z.n, z.b, z.m⟩).toArray from rfl, cells_sig _ _ _ _ _ _ _ _ HZOK.out.h, show (⟨z.c, z.s, z.h, z.n, 1000 + C, z.m⟩ : Cm) = z by rw [← HZB.out]] at hb6
  have hf6 : Fr [g7] w5 ((w5.setCell ⟨g7, 35, none⟩ (.int .i64 (1000 + C))).setCell ⟨g7, 36, none⟩ (.int .i64 z.m)) := ((Fr.refl [g7] w5).setCell _ (fun _ => by simp) _).setCell _ (fun _ => by simp) _
  change K _ ((w5.setCell ⟨g7, 35, none⟩ (.int .i64 (1000 + C))).setCell ⟨g7, 36, none⟩ (.int .i64 z.m))
  generalize (w5.setCell ⟨g7, 35, none⟩ (.int .i64 (1000 + C))).setCell ⟨g7, 36, none⟩ (.int .i64 z.m) = w6 at *
  refine hK.out _ _ (hHeld.trans hf6 (fun x hx _ => by simp at hx; simp [hx])) (fun hHeld => ?_)
  clear hK K
  simp only [Act.put, List.setIfInBounds_toArray, List.set_cons_zero, List.set_cons_succ]
  refine wpAnyH_done (by kernel_rfl) ?_ _
  have HB6 := Lib.hid hb6
  have HBK6 := Lib.hid (HB5.out.keep hf6 (fun x hx he => HNG.out (by simp at he; rw [← he]; exact hx)))
  have HALL6 := Lib.hid (Cm.all z)
  have HF56 := Lib.hid hf6
  clear hb6 hf6 hHeld
  have HVAL := Lib.hid (show z.val = .agg z.cells.toArray from rfl)
  have HSZD : Hid (z.cells.toArray.size = 37) := Lib.hid (by rw [List.size_toArray]; exact HCL.out)
  generalize z.cells.toArray = D at *
  have HB3r := Lib.hid ((((HB3.out.keep HF1.out (fun hm => by have := HSRw.out _ hm; omega)).keep HF3.out (by simp)).keep HF5.out (fun hm => by have := HSBw.out _ hm; omega)).keep HF56.out (by have := HLT7.out; simp; omega))
  go_wp2_with (first
    | (refine wpList_load_row rfl 46 _ rfl g7 rfl 46 D _ _ HB6.out Try.underlying46 rfl (by rw [HSZD.out]; kernel_rfl) ?_)
    | (refine wpList_store_row rfl 46 _ _ rfl (w.heap.size + 2) D rfl rfl 46 zeroCm HB3r.out (by rw [HSZD.out]; kernel_rfl) (by rw [HSZD.out]; rfl) HALL6.out ?_))
  have hgr := setRow_blk HB3r.out D
  have hfr := setRow_fr w6 (w.heap.size + 2) D
  have HS1o := HS1.out
  have hsw := HF0.out.size
  refine bodyPost_ret (v := .agg D) (results_cell_row Try.results17 _ _ (w.heap.size + 2) 46 D _ _ rfl hgr Try.underlying46 rfl (by rw [HSZD.out]; kernel_rfl)) rfl ⟨by rw [HVAL.out], S1, ?q5, ?q4, fun y hy hl => HS1o y hy (by omega)⟩
  case q5 =>
    rw [HXX.out, HL2.out]
    refine ⟨?_, ?_, HND2.out, ?_⟩
    · exact HBK6.out.keep hfr (fun x hx hm => by simp at hm; subst hm; have := HSBw.out _ hx; omega)
    · have hlt := HR1.out.lt
      have h3 := HR1.out.keep HF3.out (by simp)
      have hw1 := HF3.out.size
      have h5 := h3.keep HF5.out (fun x hx hm => HDD.out x (HS1o x hx (by have := HSBw.out _ hm; omega)) hm)
      have h6 := h5.keep HF56.out (fun x hx hm => by simp at hm; subst hm; have := HR1L.out _ hx; omega)
      exact h6.keep hfr (fun x hx hm => by simp at hm; subst hm; by_cases h : w.heap.size + 2 < wa.heap.size; have := HSRw.out _ (HS1o _ hx h); omega; exact h HSZ.out)
    · intro k hk hm
      exact HDD.out k (HS1o k hk (by have := HSBw.out _ hm; omega)) hm
  case q4 =>
    have h1 : Fr (Sb ++ Sr) w wa := HF0.out.mono (by simp)
    have h2 := h1.trans HFR.out (fun x hx _ => List.mem_append.2 (.inr hx))
    have h3 := h2.trans HF5.out (fun x hx _ => List.mem_append.2 (.inl hx))
    have h4 := h3.trans HF56.out (fun x hx hl => by simp at hx; subst hx; have := HLT7.out; omega)
    exact h4.trans hfr (fun x hx hl => by simp at hx; subst hx; omega)
end Go.Proofs.Ytglphddjinmhoaa

namespace Go.Proofs.Ytglphddjinmhoaa
open Go.RowKit
set_option maxRecDepth 100000

theorem builtC_eq (parts : List (Nat × Value)) : Try.prog.built 51 parts = Instr.fill ([(0, 1), (1, 2), (3, 32), (35, 1), (36, 2)].toArray[·]?) zStc.cells.toArray parts := by kernel_rfl
theorem built_stC (r c s : Int) (h : List UInt8) (t : Nat) (hh : h.length = 32) :
    Try.prog.built 51 [(0, .int .i64 r), (1, .agg #[.int .i64 c, .int .i64 s]), (2, .agg (h.map by8).toArray), (3, .int .u64 (t : Int))] = some (Wst.cells ⟨r, c, s, h, t, 0, 0⟩).toArray := by
  have hz : zStc.cells.toArray.size = 38 := rfl
  rw [builtC_eq, fill_step _ _ 0 0 1 _ _ rfl rfl (by rw [hz]; omega), fill_step _ _ 1 1 2 _ _ rfl rfl (by simp [splice, zStc, Wst.cells, Value.cells]), fill_step _ _ 2 3 32 _ _ rfl (by simp [Value.cells, hh]) (by simp [splice, zStc, Wst.cells, Value.cells]),
    fill_step _ _ 3 35 1 _ _ rfl rfl (by simp [splice, zStc, Wst.cells, Value.cells, hh]), Instr.fill]
  congr 2
  simp [splice, zStc, Wst.cells, Value.cells, hh, List.drop_append]
theorem cells_sigC (r c s b m b' m' : Int) (t : Nat) (h : List UInt8) (hh : h.length = 32) : (((Wst.cells ⟨r, c, s, h, t, b, m⟩).toArray.setIfInBounds 36 (.int .i64 b')).setIfInBounds 37 (.int .i64 m')) = (Wst.cells ⟨r, c, s, h, t, b', m'⟩).toArray := by
  simp [Wst.cells, List.set_append, hh]
theorem row_sigC : RowTy Try.prog 44 2 := ⟨by kernel_rfl, by kernel_rfl⟩
theorem mrk_in {l : List Ent} {e : Ent} (hl : l.length < 1048577) : i64In (mrk (sgn l e) e) := by
  unfold mrk i64In
  have h1 : List.idxOf e (sgn l e) ≤ (sgn l e).length := List.idxOf_le_length
  have h2 := sgn_lenC l e
  omega
theorem z64 : i64In 0 := ⟨by decide, by decide⟩
/-- the stamp of replica r for x, signed -/
def stOf (r : Int) (x : Cm) (t : Nat) (l : List Ent) : Wst := ⟨r, x.c, x.s, x.h, t, r, mrk (sgn l (r, (Wst.mk r x.c x.s x.h t 0 0).text)) (r, (Wst.mk r x.c x.s x.h t 0 0).text)⟩
def bkOf (r : Int) (x : Cm) (t : Nat) (l : List Ent) : List Ent := sgn l (r, (Wst.mk r x.c x.s x.h t 0 0).text)
theorem stOf_ok {r : Int} (hr : i64In r) {x : Cm} (hx : x.Ok) {t : Nat} (ht : t < 18446744073709551616) {l : List Ent} (hl : l.length < 1048577) : (stOf r x t l).Ok := ⟨hr, hx.c, hx.s, hx.h, ht, hr, mrk_in hl⟩
set_option maxHeartbeats 4000000 in
theorem bkStamp_any (r : Int) (hr : i64In r) (x : Cm) (hx : x.Ok) (t : Nat) (ht : t < 18446744073709551616) (w : World)
    (Sb : List Nat) (gb : Nat) (Sr : List Nat) (gr : Nat) (l : List Ent) (hB : BB w Sb gb Sr gr l) (hl : l.length < 1048576) :
    Calls Try.prog 18 #[.agg #[.pointer (some ⟨gb, 0, none⟩), .pointer (some ⟨gr, 0, none⟩)], .int .i64 r, .agg x.cells.toArray, .int .u64 (t : Int)] w fun e w' => e = .returned (stOf r x t l).val ∧
      ∃ Sr', BB w' Sb gb Sr' gr (bkOf r x t l) ∧ Fr (Sb ++ Sr) w w' ∧ ∀ y ∈ Sr', y < w.heap.size → y ∈ Sr := by
  obtain ⟨wa, hwa⟩ : ∃ wa, wa = ((w.alloc (Obj.cells #[.pointer (some ⟨gb, 0, none⟩), .pointer (some ⟨gr, 0, none⟩)] 38)).alloc (Obj.cells x.cells.toArray 46)).alloc (Obj.cells zStc.cells.toArray 51) := ⟨_, rfl⟩
  have hf0 : Fr [] w wa := by rw [hwa]; exact (((Fr.refl [] w).alloc _).alloc _).alloc _
  have hb1 : Blk wa w.heap.size 38 #[.pointer (some ⟨gb, 0, none⟩), .pointer (some ⟨gr, 0, none⟩)] := by rw [hwa]; exact blk_alloc (blk_alloc (Blk.new _ _ _))
  have hb2 : Blk wa (w.heap.size + 1) 46 x.cells.toArray := by
    have := blk_alloc (t' := 51) (cs' := zStc.cells.toArray) (Blk.new (w.alloc (Obj.cells #[.pointer (some ⟨gb, 0, none⟩), .pointer (some ⟨gr, 0, none⟩)] 38)) 46 x.cells.toArray)
    rw [hwa]
    simpa using this
  have hb3 : Blk wa (w.heap.size + 2) 51 zStc.cells.toArray := by
    have := Blk.new ((w.alloc (Obj.cells #[.pointer (some ⟨gb, 0, none⟩), .pointer (some ⟨gr, 0, none⟩)] 38)).alloc (Obj.cells x.cells.toArray 46)) 51 zStc.cells.toArray
    rw [hwa]
    simpa using this
  have HCP0 : Hid (wa.cell? ⟨w.heap.size, 0, none⟩ = some (.pointer (some ⟨gb, 0, none⟩))) := Lib.hid (hb1.cell 0)
  have HCP1 : Hid (wa.cell? ⟨w.heap.size, 1, none⟩ = some (.pointer (some ⟨gr, 0, none⟩))) := Lib.hid (hb1.cell 1)
  have HAX := Lib.hid (Cm.at_blk hb2 hx.h)
  have HB3 := Lib.hid hb3
  have HF0 := Lib.hid hf0
  have HWA := Lib.hid hwa
  have HSB : Hid (∀ k ∈ Sb, k < w.heap.size) := Lib.hid hB.b.lt
  have HSRw : Hid (∀ k ∈ Sr, k < w.heap.size) := Lib.hid hB.r.lt
  have HDD := Lib.hid hB.d
  have HND := Lib.hid hB.nd
  have HBK := Lib.hid (hB.b.keep hf0 (by simp))
  have HRK := Lib.hid (hB.r.keep hf0 (by simp))
  have HRR := Lib.hid hr
  have HSZ : Hid (w.heap.size + 2 < wa.heap.size) := Lib.hid hb3.lt
  have HBLT := Lib.hid (built_stC r x.c x.s x.h t hx.h)
  have HLXH : Hid ((x.h.map by8).length = 32) := Lib.hid (by rw [List.length_map]; exact hx.h)
  have hzok : (stOf r x t l).Ok := stOf_ok hr hx ht (by omega)
  have hz0ok : (Wst.mk r x.c x.s x.h t 0 0).Ok := ⟨hr, hx.c, hx.s, hx.h, ht, z64, z64⟩
  have HTL := Lib.hid (Wst.text_len hz0ok)
  have HT0 := Lib.hid (fun W => refstampText_any (Wst.mk r x.c x.s x.h t 0 0) hz0ok _ rfl W)
  have HT1 := Lib.hid (fun W => refstampText_any (stOf r x t l) hzok _ rfl W)
  have HTE : Hid ((stOf r x t l).text = (Wst.mk r x.c x.s x.h t 0 0).text) := Lib.hid rfl
  have HL := Lib.hid hl
  have HXH := Lib.hid hx.h
  have HZB : Hid ((stOf r x t l).b = r) := Lib.hid rfl
  have HZM : Hid ((stOf r x t l).m = mrk (bkOf r x t l) (r, (Wst.mk r x.c x.s x.h t 0 0).text)) := Lib.hid rfl
  have HSIG : Hid ((((Wst.cells ⟨r, x.c, x.s, x.h, t, 0, 0⟩).toArray.setIfInBounds 36 (.int .i64 r)).setIfInBounds 37 (.int .i64 (stOf r x t l).m)) = (stOf r x t l).cells.toArray) := Lib.hid (cells_sigC _ _ _ _ _ _ _ _ _ hx.h)
  have HZL := Lib.hid (Wst.len (x := stOf r x t l) hx.h)
  have HYL := Lib.hid (Wst.len (x := ⟨r, x.c, x.s, x.h, t, 0, 0⟩) hx.h)
  have HYO := Lib.hid (Wst.one ⟨r, x.c, x.s, x.h, t, 0, 0⟩)
  have HZO := Lib.hid (Wst.all (stOf r x t l))
  have HZH : Hid ((stOf r x t l).h.length = 32) := Lib.hid hx.h
  have HYH : Hid ((⟨r, x.c, x.s, x.h, t, 0, 0⟩ : Wst).h.length = 32) := Lib.hid hx.h
  have hbko : sgn l (r, (Wst.mk r x.c x.s x.h t 0 0).text) = bkOf r x t l := rfl
  have HBKO := Lib.hid hbko
  have HND2 : Hid (bkOf r x t l).Nodup := Lib.hid (sgn_ndC hB.nd)
  have HCELLS : Hid (x.cells = Cm.cells ⟨x.c, x.s, x.h, x.n, x.b, x.m⟩) := Lib.hid rfl
  generalize bkOf r x t l = l2 at *
  generalize stOf r x t l = z at *
  clear hwa hf0 hb1 hb2 hb3 hB hzok hz0ok hr ht hl hbko
  generalize hY : (⟨r, x.c, x.s, x.h, t, 0, 0⟩ : Wst) = y at *
  generalize hT : y.text = T at *
  clear hT hY
  go_enter Try.func18, Try.ntmps18
  go_upto_region 1 with (fail)
  change Code.wp _ _ _ _ (((w.alloc (Obj.cells #[.pointer (some ⟨gb, 0, none⟩), .pointer (some ⟨gr, 0, none⟩)] 38)).alloc (Obj.cells x.cells.toArray 46)).alloc (Obj.cells zStc.cells.toArray 51))
  rw [← HWA.out]
  go_upto_region 2 with (first
    | (refine wpList_midg rfl 32 _ rfl (w.heap.size + 1) 0 rfl _ HAX.out.name row_name ?_)
    | (refine wpList_midg rfl 42 _ rfl (w.heap.size + 1) 2 rfl _ HAX.out.hash (row_hash.of HLXH.out) ?_)
    | (refine wpList_builtg rfl 51 _ rfl _ _ HBLT.out rfl ?_)
    | (refine wpList_store_box rfl 51 _ _ rfl zStc.cells.toArray 51 y.cells rfl rfl (by rw [HYL.out]; kernel_rfl) (by rw [HYL.out]; rfl) HYO.out ?_
       intro w3 hb7 hf7
       have HX3 := Lib.hid hb7
       have HF3 := Lib.hid hf7
       clear hb7 hf7))
  simp only [Act.put]
  generalize hg : wa.heap.size = g9 at *
  have hlt9 : w.heap.size + 2 < g9 := HSZ.out
  have hlt9w : g9 < w3.heap.size := HX3.out.lt
  clear hg
  have HAT := Lib.hid (Wst.at_of HX3.out.range HYH.out)
  have HRK3 := Lib.hid (HRK.out.keep HF3.out (by simp))
  have HP1 := Lib.hid (HF3.out.cell HCP1.out (by simp))
  have HNW : Hid (¬ w.heap.size ∈ g9 :: Sr) := Lib.hid (fun hm => by
    rcases List.mem_cons.1 hm with hm | hm
    · omega
    · have := HSRw.out _ hm; omega)
  have HNG : Hid (¬ g9 ∈ Sr) := Lib.hid (fun hm => by have := HSRw.out _ hm; omega)
  have hswa := HF0.out.size
  refine wp_region_held_drew (S := Fr (g9 :: Sr) w3) (by kernel_rfl) (Fr.drew (Fr.refl _ w3)) (fun hHeld => ?_)
  refine run_at (i := 0) (v := ?_) rfl (by kernel_rfl) (by rfl) (fun _ _ _ h => h) hHeld (fun w1 hw1 => ?_) ?_
  rotate_left 1
  · skip
    go_simp
    (try (first | with_reducible rfl | (apply And.intro <;> rfl)))
  simp only [Act.put, List.setIfInBounds_toArray, List.set_cons_zero, List.set_cons_succ]
  refine run_at (i := 1) (v := ?_) rfl (by kernel_rfl) (by rfl) (fun _ _ _ h => h) hHeld (fun w1 hw1 => ?_) ?_
  rotate_left 1
  · skip
    have hcw0 := hw1.cell (HP1.out) (by first | (simp; done) | exact HNS.out | exact HNW.out | (intro hm; have hlt := HSB.out _ hm; (try dsimp only at hlt); omega))
    go_simp
    (try (first | with_reducible rfl | (apply And.intro <;> rfl)))
  simp only [Act.put, List.setIfInBounds_toArray, List.set_cons_zero, List.set_cons_succ]
  refine run_at (i := 2) (v := ?_) rfl (by kernel_rfl) (by rfl) (fun _ _ _ h => h) hHeld (fun w1 hw1 => ?_) ?_
  rotate_left 1
  · skip
    go_simp
    (try (first | with_reducible rfl | (apply And.intro <;> rfl)))
  simp only [Act.put, List.setIfInBounds_toArray, List.set_cons_zero, List.set_cons_succ]
  refine step_at (i := 3) rfl (by kernel_rfl) (by rfl) (fun K hK => ?_)
  refine wp_row _ _ rfl _ _ rfl _ (HAT.out.all) (row_stamp.of HYL.out) ?_
  refine hK.out _ _ hHeld (fun hHeld => ?_)
  clear hK K
  simp only [Act.put, List.setIfInBounds_toArray, List.set_cons_zero, List.set_cons_succ]
  refine call_at (i := 4) (f := ?_) (args := ?_) rfl (by kernel_rfl) (by rfl) ?_ ?_
  rotate_left 2
  · go_simp
    (try (first | with_reducible rfl | (apply And.intro <;> rfl)))
  have h := HT0.out w3.drew
  refine h.mono ?_
  rintro e w4 ⟨A4, c4, rfl, hn4⟩
  have HF4 : Hid (Fr [] w3 w4) := Lib.hid ((Fr.drew (Fr.refl [] w3)).and hn4.2.1 (by simp))
  refine ⟨_, rfl, HF4.out.mono (by simp), fun hHeld => ?_⟩
  have HN4 := Lib.hid hn4
  clear hn4 h
  simp only [Act.put, List.setIfInBounds_toArray, List.set_cons_zero, List.set_cons_succ]
  refine call_at (i := 5) (f := ?_) (args := ?_) rfl (by kernel_rfl) (by rfl) ?_ ?_
  rotate_left 2
  · go_simp
    (try (first | with_reducible rfl | (apply And.intro <;> rfl)))
  have h := refsign_any w4 Sr gr l (HRK3.out.keep HF4.out (by simp)) HND.out r A4 _ c4 T HN4.out.by HL.out
  rw [HBKO.out, ← HZM.out] at h
  refine h.mono ?_
  rintro e w5 ⟨rfl, S1, hb5, hf5, hs5⟩
  refine ⟨_, rfl, hHeld.trans hf5 (fun x hx _ => List.mem_cons_of_mem _ hx), fun hHeld => ?_⟩
  have HR5 := Lib.hid hb5
  have HS5 : Hid (∀ y ∈ S1, y < w4.heap.size → y ∈ Sr) := Lib.hid hs5
  have hw34 := HF4.out.size
  have HF5 := Lib.hid (HF4.out.mono (T := Sr) (by simp) |>.trans hf5 (fun x hx _ => hx))
  have HX5 := Lib.hid (HX3.out.keep HF5.out HNG.out)
  clear hb5 hf5 HN4 h hs5
  simp only [Act.put, List.setIfInBounds_toArray, List.set_cons_zero, List.set_cons_succ]
  refine run_at (i := 6) (v := ?_) rfl (by kernel_rfl) (by rfl) (fun _ _ _ h => h) hHeld (fun w1 hw1 => ?_) ?_
  rotate_left 1
  · skip
    go_simp
    (try (first | with_reducible rfl | (apply And.intro <;> rfl)))
  simp only [Act.put, List.setIfInBounds_toArray, List.set_cons_zero, List.set_cons_succ]
  refine step_at (i := 7) rfl (by kernel_rfl) (by rfl) (fun K hK => ?_)
  refine wp_store_mid 44 _ _ rfl g9 36 #[.int .i64 r, .int .i64 z.m] rfl rfl (HX5.out.there 36 2 (by rw [List.size_toArray, HYL.out]; omega)) (by kernel_rfl) (by kernel_rfl) ?_
  have hb6 := (HX5.out.set 36 (.int .i64 r)).set 37 (.int .i64 z.m)
  rw [HSIG.out] at hb6
  have hf6 : Fr [g9] w5 ((w5.setCell ⟨g9, 36, none⟩ (.int .i64 r)).setCell ⟨g9, 37, none⟩ (.int .i64 z.m)) := ((Fr.refl [g9] w5).setCell _ (fun _ => by simp) _).setCell _ (fun _ => by simp) _
  change K _ ((w5.setCell ⟨g9, 36, none⟩ (.int .i64 r)).setCell ⟨g9, 37, none⟩ (.int .i64 z.m))
  generalize (w5.setCell ⟨g9, 36, none⟩ (.int .i64 r)).setCell ⟨g9, 37, none⟩ (.int .i64 z.m) = w6 at *
  refine hK.out _ _ (hHeld.trans hf6 (fun x hx _ => by simp at hx; simp [hx])) (fun hHeld => ?_)
  clear hK K
  simp only [Act.put, List.setIfInBounds_toArray, List.set_cons_zero, List.set_cons_succ]
  refine wpAnyH_done (by kernel_rfl) ?_ _
  have HX6 := Lib.hid hb6
  have HNS1 : Hid (∀ k ∈ S1, k ≠ g9) := Lib.hid (fun k hk e => HNG.out (by rw [← e]; exact HS5.out k hk (by omega)))
  have HR6 := Lib.hid (HR5.out.keep hf6 (fun x hx hm => by simp at hm; exact HNS1.out x hx hm))
  have HF56 := Lib.hid hf6
  have HF36 : Hid (Fr (g9 :: Sr) w3 w6) := Lib.hid hHeld
  clear hb6 hf6 hHeld HX5 HR5
  have HATZ := Lib.hid (Wst.at_of HX6.out.range HZH.out)
  have HSG6 : Hid (w6.rangeAt g9 36 [.int .i64 r, .int .i64 z.m]) := Lib.hid (by have := HATZ.out.sig; rw [HZB.out] at this; simpa using this)
  have HP06 := Lib.hid (HF36.out.cell (HF3.out.cell HCP0.out (by simp)) HNW.out)
  have HBK6 : Hid (Bok w6 Sb gb l) := Lib.hid ((HBK.out.keep HF3.out (by simp)).keep HF36.out (fun k hk hm => by
    rcases List.mem_cons.1 hm with hm | hm
    · have := HSB.out _ hk; omega
    · exact HDD.out k hm hk))
  have HNGB : Hid (¬ g9 ∈ Sb) := Lib.hid (fun hm => by have := HSB.out _ hm; omega)
  have HEQ : Hid (∀ W : World, (Op.equalIn 10000 44 (.agg #[.int .i64 r, .int .i64 z.m]) (.agg #[.int .i64 r, .int .i64 z.m])).run Try.prog W = .ok true W) := Lib.hid (fun W => by have := eql_sig r z.m r z.m 9998 W; simpa using this)
  clear HNW
  have HNW : Hid (¬ w.heap.size ∈ Sb) := Lib.hid (fun hm => by have := HSB.out _ hm; omega)
  go_upto_region 3 with (fail)
  refine wp_region_held_drew (S := Fr Sb w6) (by kernel_rfl) (Fr.drew (Fr.refl _ w6)) (fun hHeld => ?_)
  refine run_at (i := 0) (v := ?_) rfl (by kernel_rfl) (by rfl) (fun _ _ _ h => h) hHeld (fun w1 hw1 => ?_) ?_
  rotate_left 1
  · skip
    go_simp
    (try (first | with_reducible rfl | (apply And.intro <;> rfl)))
  simp only [Act.put, List.setIfInBounds_toArray, List.set_cons_zero, List.set_cons_succ]
  refine row_at (i := 1) rfl (by kernel_rfl) (by rfl) _ _ rfl _ _ rfl _ (fun w1 hw1 => hw1.range (HSG6.out) (by first | (simp; done) | exact HNS.out | exact HNW.out | (intro hm; have hlt := HSB.out _ hm; (try dsimp only at hlt); omega))) (row_sig) (fun _ _ _ h => h) hHeld ?_
  simp only [Act.put, List.setIfInBounds_toArray, List.set_cons_zero, List.set_cons_succ]
  refine run_at (i := 2) (v := ?_) rfl (by kernel_rfl) (by rfl) (fun _ _ _ h => h) hHeld (fun w1 hw1 => ?_) ?_
  rotate_left 1
  · skip
    go_simp
    (try (first | with_reducible rfl | (apply And.intro <;> rfl)))
  simp only [Act.put, List.setIfInBounds_toArray, List.set_cons_zero, List.set_cons_succ]
  refine run_at (i := 3) (v := ?_) rfl (by kernel_rfl) (by rfl) (fun _ _ _ h => h) hHeld (fun w1 hw1 => ?_) ?_
  rotate_left 1
  · skip
    have hcw0 := hw1.cell (HP06.out) (by first | (simp; done) | exact HNS.out | exact HNW.out | (intro hm; have hlt := HSB.out _ hm; (try dsimp only at hlt); omega))
    go_simp
    (try (first | with_reducible rfl | (apply And.intro <;> rfl)))
  simp only [Act.put, List.setIfInBounds_toArray, List.set_cons_zero, List.set_cons_succ]
  refine run_at (i := 4) (v := ?_) rfl (by kernel_rfl) (by rfl) (fun _ _ _ h => h) hHeld (fun w1 hw1 => ?_) ?_
  rotate_left 1
  · skip
    go_simp
    (try (first | with_reducible rfl | (apply And.intro <;> rfl)))
  simp only [Act.put, List.setIfInBounds_toArray, List.set_cons_zero, List.set_cons_succ]
  refine step_at (i := 5) rfl (by kernel_rfl) (by rfl) (fun K hK => ?_)
  refine wp_row _ _ rfl _ _ rfl _ (HATZ.out.all) (row_stamp.of HZL.out) ?_
  refine hK.out _ _ hHeld (fun hHeld => ?_)
  clear hK K
  simp only [Act.put, List.setIfInBounds_toArray, List.set_cons_zero, List.set_cons_succ]
  refine call_at (i := 6) (f := ?_) (args := ?_) rfl (by kernel_rfl) (by rfl) ?_ ?_
  rotate_left 2
  · go_simp
    (try (first | with_reducible rfl | (apply And.intro <;> rfl)))
  have h := HT1.out w6.drew
  rw [HTE.out] at h
  refine h.mono ?_
  rintro e w7 ⟨A7, c7, rfl, hn7⟩
  have HF7 : Hid (Fr [] w6 w7) := Lib.hid ((Fr.drew (Fr.refl [] w6)).and hn7.2.1 (by simp))
  refine ⟨_, rfl, HF7.out.mono (by simp), fun hHeld => ?_⟩
  have HN7 := Lib.hid hn7
  clear hn7 h
  simp only [Act.put, List.setIfInBounds_toArray, List.set_cons_zero, List.set_cons_succ]
  refine call_at (i := 7) (f := ?_) (args := ?_) rfl (by kernel_rfl) (by rfl) ?_ ?_
  rotate_left 2
  · go_simp
    (try (first | with_reducible rfl | (apply And.intro <;> rfl)))
  have h := sign_any w7 Sb gb l (HBK6.out.keep HF7.out (by simp)) r (wf_i64 HRR.out) A7 _ c7 T HN7.out.by (by have := HTL.out; unfold maxLen; omega) (by have := HL.out; omega)
  rw [HBKO.out, ← HZM.out] at h
  refine h.mono ?_
  rintro e w8 ⟨rfl, hb8, hf8⟩
  refine ⟨_, rfl, hHeld.trans hf8 (fun x hx _ => hx), fun hHeld => ?_⟩
  have HB8 := Lib.hid hb8
  clear hb8 hf8 HN7 h
  simp only [Act.put, List.setIfInBounds_toArray, List.set_cons_zero, List.set_cons_succ]
  refine neq_at (i := 8) rfl (by kernel_rfl) (by rfl) _ _ _ _ rfl _ _ rfl rfl _ (by kernel_rfl) (HEQ.out) (fun _ _ _ h => h) hHeld ?_
  simp only [Act.put, List.setIfInBounds_toArray, List.set_cons_zero, List.set_cons_succ]
  refine wpAnyH_done (by kernel_rfl) ?_ _
  have HF68 : Hid (Fr Sb w6 w8) := Lib.hid hHeld
  clear hHeld
  have HX8 := Lib.hid (HX6.out.keep HF68.out HNGB.out)
  have HVAL := Lib.hid (show z.val = .agg z.cells.toArray from rfl)
  have HSZD : Hid (z.cells.toArray.size = 38) := Lib.hid (by rw [List.size_toArray]; exact HZL.out)
  generalize z.cells.toArray = D at *
  have HB3r := Lib.hid ((((HB3.out.keep HF3.out (by simp)).keep HF36.out (fun hm => by
    rcases List.mem_cons.1 hm with hm | hm
    · omega
    · have := HSRw.out _ hm; omega)).keep HF68.out (fun hm => by have := HSB.out _ hm; omega)))
  go_wp2_with (first
    | (refine wpList_load_row rfl 51 _ rfl g9 rfl 51 D _ _ HX8.out Try.underlying51 rfl (by rw [HSZD.out]; kernel_rfl) ?_)
    | (refine wpList_store_row rfl 51 _ _ rfl (w.heap.size + 2) D rfl rfl 51 zStc.cells.toArray HB3r.out (by rw [HSZD.out]; kernel_rfl) (by rw [HSZD.out]; rfl) HZO.out ?_))
  have hgr := setRow_blk HB3r.out D
  have hfr := setRow_fr w8 (w.heap.size + 2) D
  have HR8 := Lib.hid (HR6.out.keep HF68.out (fun k hk hm => HDD.out k (HS5.out k hk (by have := HSB.out _ hm; omega)) hm))
  refine bodyPost_ret (v := .agg D) (results_cell_row Try.results18 _ _ (w.heap.size + 2) 51 D _ _ rfl hgr Try.underlying51 rfl (by rw [HSZD.out]; kernel_rfl)) rfl ⟨by rw [HVAL.out], S1, ⟨?_, ?_, HND2.out, ?_⟩, ?_, fun y hy hl => HS5.out y hy (by omega)⟩
  · exact HB8.out.keep hfr (fun x hx hm => by simp at hm; subst hm; have := HSB.out _ hx; omega)
  · exact HR8.out.keep hfr (fun x hx hm => by simp at hm; subst hm; have := HSRw.out _ (HS5.out _ hx (by omega)); omega)
  · intro k hk hm
    exact HDD.out k (HS5.out k hk (by have := HSB.out _ hm; omega)) hm
  · have h1 : Fr (Sb ++ Sr) w wa := HF0.out.mono (by simp)
    have h2 := (h1.trans HF3.out (by simp)).trans HF36.out (fun x hx hl => by
      rcases List.mem_cons.1 hx with hm | hm
      · omega
      · exact List.mem_append.2 (.inr hm))
    have h3 := h2.trans HF68.out (fun x hx _ => List.mem_append.2 (.inl hx))
    exact h3.trans hfr (fun x hx hl => by simp at hx; subst hx; omega)
end Go.Proofs.Ytglphddjinmhoaa

namespace Go.Proofs.Ytglphddjinmhoaa
open Go.RowKit
set_option maxRecDepth 100000

theorem Blk.mid {g : Nat} {t : TypeId} : ∀ (V M P Z : List Value) (w : World), V.length = M.length → Blk w g t (P ++ (M ++ Z)).toArray → Blk (w.setCells g P.length V) g t (P ++ (V ++ Z)).toArray
  | [], M, P, Z, w, h, hb => by
    have : M = [] := List.eq_nil_of_length_eq_zero (by simpa using h.symm)
    subst this
    exact hb
  | v :: V, [], P, Z, w, h, hb => by simp at h
  | v :: V, m :: M, P, Z, w, h, hb => by
    have h1 := hb.set P.length v
    rw [List.setIfInBounds_toArray, List.set_append_right _ _ (Nat.le_refl _), Nat.sub_self] at h1
    have h2 := Blk.mid V M (P ++ [v]) Z (w.setCell ⟨g, P.length, none⟩ v) (by simpa using h) (by simpa using h1)
    have e : (P ++ [v]).length = P.length + 1 := by simp
    rw [e] at h2
    simpa [World.setCells] using h2
theorem Blk.mid_at {g : Nat} {t : TypeId} {w : World} (V M P Z : List Value) (o : Nat) (ho : P.length = o) (h : V.length = M.length) (cs cs' : List Value) (hc : cs = P ++ (M ++ Z)) (hc' : cs' = P ++ (V ++ Z)) (hb : Blk w g t cs.toArray) : Blk (w.setCells g o V) g t cs'.toArray := by
  subst ho
  subst hc
  subst hc'
  exact Blk.mid V M P Z w h hb
theorem Fr.setCells {S : List Nat} {a : World} {g : Nat} (hg : g < a.heap.size → g ∈ S) : ∀ (V : List Value) (o : Nat) (w : World), Fr S a w → Fr S a (w.setCells g o V)
  | [], _, _, h => h
  | v :: V, o, w, h => Fr.setCells hg V (o + 1) _ (h.setCell ⟨g, o, none⟩ hg v)
theorem own_blk {w : World} {base : Nat} {e : TypeId} {k n c g : Nat} {xs : List Value} (h : w.ownsRow base e k (.slice (some ⟨g, 0, none⟩) n c) n xs) : ∃ R : List Value, Blk w g e (xs ++ R).toArray ∧ (xs ++ R).length = c * k ∧ n ≤ c ∧ c ≤ maxLen ∧ base ≤ g := by
  rcases h.2 with ⟨hv, _⟩ | ⟨g', cap, cur, hv, hb, hh, hnc, hcm, hcs, htk⟩
  · injection hv with h1
    cases h1
  · injection hv with h1 h2 h3
    injection h1 with h1
    injection h1 with h1
    subst h1
    subst h3
    refine ⟨cur.toList.drop (n * k), ?_, ?_, hnc, hcm, hb⟩
    · have e : (xs ++ cur.toList.drop (n * k)).toArray = cur := by rw [← htk, List.take_append_drop]
      unfold Blk
      rw [e]
      exact hh
    · rw [← htk, List.take_append_drop]
      simpa using hcs
/-- an element of a row that the call owns is stored -/
theorem own_put {α : Type} {cells : α → List Value} {w : World} {base : Nat} {e : TypeId} {k n c g : Nat} {l : List α} (h : w.ownsRow base e k (.slice (some ⟨g, 0, none⟩) n c) n (l.flatMap cells)) (hk : ∀ v ∈ l, (cells v).length = k) {i : Nat} (hi : i < l.length) (v : α) (hv : (cells v).length = k) :
    (w.setCells g (i * k) (cells v)).ownsRow base e k (.slice (some ⟨g, 0, none⟩) n c) n ((l.set i v).flatMap cells) ∧ w.there g (i * k) k := by
  obtain ⟨P, x, Q, rfl, hP⟩ : ∃ P x Q, l = P ++ x :: Q ∧ P.length = i := ⟨l.take i, l[i], l.drop (i + 1), by simp, by simp; omega⟩
  obtain ⟨R, hb, hl, hnc, hcm, hbase⟩ := own_blk h
  have hp : (P.flatMap cells).length = i * k := by rw [cells_flat_len (fun u hu => hk u (by simp [hu])), hP]
  have hx : (cells x).length = k := hk x (by simp)
  have hs : (P ++ x :: Q).set i v = P ++ v :: Q := by rw [← hP, List.set_append_right _ _ (Nat.le_refl _), Nat.sub_self]; rfl
  rw [hs]
  have hc : (P ++ x :: Q).flatMap cells ++ R = P.flatMap cells ++ (cells x ++ (Q.flatMap cells ++ R)) := by simp
  have hc' : (P ++ v :: Q).flatMap cells ++ R = P.flatMap cells ++ (cells v ++ (Q.flatMap cells ++ R)) := by simp
  have hb2 := Blk.mid_at (cells v) (cells x) (P.flatMap cells) (Q.flatMap cells ++ R) (i * k) hp (by rw [hv, hx]) _ _ hc hc' hb
  have hlen : ((P ++ v :: Q).flatMap cells).length = ((P ++ x :: Q).flatMap cells).length := by simp [hv, hx]
  have h1 := h.1
  refine ⟨⟨by rw [hlen]; exact h1, .inr ⟨g, c, _, rfl, hbase, hb2, hnc, hcm, ?_, ?_⟩⟩, hb.there _ _ ?_⟩
  · rw [List.size_toArray, ← hl, List.length_append, List.length_append, hlen]
  · rw [← h1, ← hlen]
    exact List.take_left
  · rw [List.size_toArray, hc]
    simp only [List.length_append]
    omega
theorem add_at (g o : Nat) : (⟨g, 0, none⟩ : Addr).add o = ⟨g, o, none⟩ := by unfold Addr.add; split <;> simp_all

def upI (v : Int) : Int := v % 1099511627776
theorem upI_in (v : Int) : i64In (upI v) := by unfold i64In upI; omega
theorem upI_idem (v : Int) : upI (upI v) = upI v := by unfold upI; omega
theorem row_nm2 : RowTy Try.prog 32 2 := ⟨by kernel_rfl, by kernel_rfl⟩
theorem row_sg2 : RowTy Try.prog 44 2 := ⟨by kernel_rfl, by kernel_rfl⟩
theorem built_nm3 (c s : Int) : Try.prog.built 32 [(0, .int .i64 c), (1, .int .i64 s)] = some #[.int .i64 c, .int .i64 s] := by kernel_rfl
theorem built_sg3 (c s : Int) : Try.prog.built 44 [(0, .int .i64 c), (1, .int .i64 s)] = some #[.int .i64 c, .int .i64 s] := by kernel_rfl

end Go.Proofs.Ytglphddjinmhoaa

namespace Go.Proofs.Ytglphddjinmhoaa
open Go.RowKit
set_option maxRecDepth 100000
theorem wp_append_onec {P : Program} {o : Oper} {a : Act} {w : World} {K : Act → World → Prop} {Q : Exit → Act → World → Prop} (s x : Operand) (t e : TypeId)
    (ho : o.op = .call { callee := .builtin .append, args := #[s, x], argTypes := #[t, t] }) (ht : P.underlying t = some (.slice e)) (k bytes : Nat) (he : ElTy P e k bytes) (hk : 0 < k)
    (base : Nat) (v : Value) (n : Nat) (xs cs : List Value) (hs : a.eval s = v) (hown : w.ownsRow base e k v n xs) (hbase : base ≤ w.heap.size) (hcl : cs.length = k) (h1 : ∀ u ∈ cs, u.oneCell' = true)
    (g : Nat) (t' : TypeId) (hx : a.eval x = .slice (some ⟨g, 0, none⟩) 1 1) (hb : Blk w g t' cs.toArray) (hn : n < 1000000) (hby : bytes ≤ 1000)
    (h : ∀ A c w', w'.ownsRow base e k (.slice A (n + 1) c) (n + 1) (xs ++ cs) → Fr v.ownBlock.toList w w' → ((Value.slice A (n + 1) c).ownBlock = v.ownBlock ∨ (Value.slice A (n + 1) c).ownBlock = some w.heap.size) → K (a.put o.dst (.slice A (n + 1) c)) w') : o.wp P a w K Q := by
  obtain ⟨i, z, hi, hz, hzs, hsz, hbs⟩ := he
  refine wp_append_lies w s x t ho base e i z k bytes ht hi hz hsz hbs hzs hk v n xs hs hown ⟨g, 0, none⟩ 1 1 cs hx (by omega) (fun j u hu => ?_) h1 (by omega) (by simp only [maxLen]; omega)
    (Nat.le_trans (Nat.mul_le_mul (show n + 1 ≤ 1000000 by omega) hby) (by decide)) hbase _ rfl (fun g' cap w' h2 h3 h4 _ => ?_)
  · have hadd : (⟨g, 0, none⟩ : Addr).add j = ⟨g, j, none⟩ := by unfold Addr.add; split <;> simp_all
    rw [hadd, hb.cell j]
    simpa using hu
  · exact h _ _ w' h2 ((Fr.refl _ w).grown h3 (fun y hy _ => by simp [hy])) (h4.imp (fun e => e.symm) (fun e => by rw [e]; rfl))
theorem till_stepC {P : Program} {l : List Oper} {Q : Exit → Act → World → Prop} {md : Region.Mode} {T : Nat} {A B : World → Prop} {fuel : Nat} {L : Array Bool} {a : Act} {w : World} {i : Nat} {o : Oper} (hi : nthOp l i = some o) (hr : Region.ready md l.toArray L = [i]) (hw : Region.wanted o (yielded l.toArray a.tmps) = true)
    (h : ∀ K : Act → World → Prop, Shut (∀ a w, A w → B w → (A w → B w → wpTill P md l.toArray Q T A B fuel (L.setIfInBounds i true) a w) → K a w) → Oper.wp P o a w K Q) : wpTill P md l.toArray Q T A B (fuel + 1) L a w :=
  till_one hi hr hw (h _ (fun a w hA hB hW => ⟨⟨hA, fun _ => hB⟩, hW hA hB⟩))

theorem builtCe_eq (parts : List (Nat × Value)) : Try.prog.built 54 parts = Instr.fill ([(0, 37), (37, 1)].toArray[·]?) (Wce.cells ⟨⟨0, 0, List.replicate 32 0, 0, 0, 0⟩, none, 0, 0, []⟩).toArray parts := by kernel_rfl
theorem built_ceC (y : Cm) (hh : y.h.length = 32) : Try.prog.built 54 [(0, .agg y.cells.toArray)] = some (y.cells ++ [Value.slice none 0 0]).toArray := by
  have hk : y.cells.length = 37 := Cm.len hh
  rw [builtCe_eq, fill_step _ _ 0 0 37 _ _ rfl (by simp [Value.cells, hk]) (by show 0 + 37 ≤ 38; omega), Instr.fill]
  congr 2
  have tk : ∀ n, 32 ≤ n → (y.h.map by8).take n = y.h.map by8 := fun n hn => List.take_of_length_le (by simp [hh]; omega)
  have dk : ∀ n, 32 ≤ n → (y.h.map by8).drop n = [] := fun n hn => List.drop_of_length_le (by simp [hh]; omega)
  simp [splice, Wce.cells, Wcm.cells, Cm.cells, Value.cells, hh, List.drop_append, List.take_append, tk, dk]
theorem wrap_u64_nat (z : Int) : ∃ t : Nat, IntKind.u64.wrap z = (t : Int) ∧ t < 18446744073709551616 := ⟨(IntKind.u64.wrap z).toNat, by simp [IntKind.wrap, IntKind.bits, IntKind.signed]; omega, by simp [IntKind.wrap, IntKind.bits, IntKind.signed]; omega⟩
theorem row_books : RowTy Try.prog 38 2 := ⟨by kernel_rfl, by kernel_rfl⟩
def ceZ : Array Value := (Wce.cells ⟨⟨0, 0, List.replicate 32 0, 0, 0, 0⟩, none, 0, 0, []⟩).toArray
set_option maxHeartbeats 8000000 in
theorem bkCert_any (Fn : Nat) (hF : Fn ≤ 100) (K : Int) (y : Cm) (hy : y.Ok) (from_ : Int) (hf1 : -9223372036854775808 ≤ from_) (hf2 : from_ < 9223372036854775808) (w : World)
    (T : Option Addr) (nT cT : Nat) (lT : List Int) (hT : UL w T nT lT) (hTn : nT ≤ maxLen)
    (Sb : List Nat) (gb : Nat) (Sr : List Nat) (gr : Nat) (l : List Ent) (hB : BB w Sb gb Sr gr l) (hl : l.length ≤ 1000) (hTd : 0 < nT → ∀ a, T = some a → ¬ a.block ∈ Sb ++ Sr) :
    Calls Try.prog 23 #[.agg #[.pointer (some ⟨gb, 0, none⟩), .pointer (some ⟨gr, 0, none⟩)], .agg #[.int .i64 (Fn : Int), .int .i64 K], .agg y.cells.toArray, .int .i64 from_, .slice T nT cT] w fun e w' =>
      ∃ (A' : Option Addr) (c' : Nat) (L : List Wst) (l' : List Ent) (Sr' : List Nat), e = .returned (.agg (y.cells ++ [Value.slice A' (2 * Fn + 1) c']).toArray) ∧ L.length = 2 * Fn + 1 ∧ (∀ v ∈ L, v.Ok) ∧ w'.ownsRow w.heap.size 51 38 (.slice A' (2 * Fn + 1) c') (2 * Fn + 1) (L.flatMap Wst.cells) ∧
        BB w' Sb gb Sr' gr l' ∧ l'.length ≤ l.length + (2 * Fn + 1) ∧ Fr (Sb ++ Sr) w w' ∧ (∀ q ∈ Sr', q < w.heap.size → q ∈ Sr) ∧ (∀ q ∈ bk A', ¬ q ∈ Sr') := by
  obtain ⟨wa, hwa⟩ : ∃ wa, wa = (((w.alloc (Obj.cells #[.pointer (some ⟨gb, 0, none⟩), .pointer (some ⟨gr, 0, none⟩)] 38)).alloc (Obj.cells #[.int .i64 (Fn : Int), .int .i64 K] 34)).alloc (Obj.cells y.cells.toArray 46)).alloc (Obj.cells ceZ 54) := ⟨_, rfl⟩
  have hf0 : Fr [] w wa := by rw [hwa]; exact ((((Fr.refl [] w).alloc _).alloc _).alloc _).alloc _
  have hb1 : Blk wa w.heap.size 38 #[.pointer (some ⟨gb, 0, none⟩), .pointer (some ⟨gr, 0, none⟩)] := by rw [hwa]; exact blk_alloc (blk_alloc (blk_alloc (Blk.new _ _ _)))
  have hb2 : Blk wa (w.heap.size + 1) 34 #[.int .i64 (Fn : Int), .int .i64 K] := by
    have := Blk.new (w.alloc (Obj.cells #[.pointer (some ⟨gb, 0, none⟩), .pointer (some ⟨gr, 0, none⟩)] 38)) 34 #[.int .i64 (Fn : Int), .int .i64 K]
    rw [hwa]
    exact blk_alloc (blk_alloc (by simpa using this))
  have hb3 : Blk wa (w.heap.size + 2) 46 y.cells.toArray := by
    have := Blk.new ((w.alloc (Obj.cells #[.pointer (some ⟨gb, 0, none⟩), .pointer (some ⟨gr, 0, none⟩)] 38)).alloc (Obj.cells #[.int .i64 (Fn : Int), .int .i64 K] 34)) 46 y.cells.toArray
    rw [hwa]
    exact blk_alloc (by simpa using this)
  have hb4 : Blk wa (w.heap.size + 3) 54 ceZ := by
    have := Blk.new (((w.alloc (Obj.cells #[.pointer (some ⟨gb, 0, none⟩), .pointer (some ⟨gr, 0, none⟩)] 38)).alloc (Obj.cells #[.int .i64 (Fn : Int), .int .i64 K] 34)).alloc (Obj.cells y.cells.toArray 46)) 54 ceZ
    rw [hwa]
    simpa using this
  have hcf : wa.cell? ⟨w.heap.size + 1, 0, none⟩ = some (.int .i64 (Fn : Int)) := by simpa using hb2.cell 0
  have HR1 := Lib.hid hb1.range
  have HR2 := Lib.hid hb2.range
  have HR3 := Lib.hid hb3.range
  have HB4 := Lib.hid hb4
  have HF0 := Lib.hid hf0
  have HWA := Lib.hid hwa
  have HSBw : Hid (∀ k ∈ Sb, k < w.heap.size) := Lib.hid hB.b.lt
  have HSRw : Hid (∀ k ∈ Sr, k < w.heap.size) := Lib.hid hB.r.lt
  have HBB := Lib.hid (hB.keep hf0 (by simp) (by simp))
  have HT := Lib.hid (hT.keep hf0 (by simp))
  have HTD := Lib.hid hTd
  have HTB : Hid (0 < nT → ∀ a, T = some a → a.block < w.heap.size) := Lib.hid (fun hn a ha => hT.lt hn a ha)
  have HL := Lib.hid hl
  have HY := Lib.hid hy
  have HYL := Lib.hid (Cm.len hy.h)
  have HYO := Lib.hid (Cm.one y)
  have HBU := Lib.hid (built_ceC y hy.h)
  have HFR := Lib.hid (And.intro hf1 hf2)
  have HSZ : Hid (w.heap.size + 3 < wa.heap.size) := Lib.hid hb4.lt
  have hnT : (nT : Int) ≤ 9223372036854775807 := by unfold maxLen at hTn; omega
  have HCVL : Hid ((y.cells ++ [Value.slice none 0 0]).length = 38) := Lib.hid (by simp [HYL.out])
  have HCVO : Hid (∀ v ∈ y.cells ++ [Value.slice none 0 0], v.oneCell' = true) := Lib.hid (fun v hv => by
    rcases List.mem_append.1 hv with h | h
    · exact HYO.out v h
    · rw [List.mem_singleton.1 h]; rfl)
  have hF64 : (Fn : Int) ≤ 100 := by omega
  clear hwa hf0 hb1 hb2 hb3 hb4 hB hT hTd hl hy hf1 hf2 hTn hF
  obtain ⟨YC, hYC⟩ : ∃ YC, YC = y.cells := ⟨_, rfl⟩
  have HYC := Lib.hid hYC
  go_enter Try.func23, Try.ntmps23
  go_upto_region 1 with (fail)
  change Code.wp _ _ _ _ ((((w.alloc (Obj.cells #[.pointer (some ⟨gb, 0, none⟩), .pointer (some ⟨gr, 0, none⟩)] 38)).alloc (Obj.cells #[.int .i64 (Fn : Int), .int .i64 K] 34)).alloc (Obj.cells y.cells.toArray 46)).alloc (Obj.cells ceZ 54))
  rw [← HWA.out]
  go_upto_region 2 with (first
    | (refine wpList_row rfl 46 _ rfl _ _ rfl _ HR3.out (row_commit.of HYL.out) ?_)
    | (refine wpList_builtg rfl 54 _ rfl _ _ HBU.out rfl ?_)
    | (refine wpList_store_box rfl 54 _ _ rfl ceZ 54 (y.cells ++ [Value.slice none 0 0]) rfl rfl (by rw [HCVL.out]; kernel_rfl) (by rw [HCVL.out]; rfl) HCVO.out ?_
       intro w3 hb7 hf7
       have HX3 := Lib.hid hb7
       have HF3 := Lib.hid hf7
       clear hb7 hf7))
  simp only [Act.put]
  generalize hg : wa.heap.size = g11 at *
  have hlt11 : w.heap.size + 3 < g11 := HSZ.out
  have hlt11w : g11 < w3.heap.size := HX3.out.lt
  have hswa : w.heap.size ≤ g11 := by omega
  clear hg
  have HBB3 := Lib.hid (HBB.out.keep HF3.out (by simp) (by simp))
  have HT3 := Lib.hid (HT.out.keep HF3.out (by simp))
  have HB43 := Lib.hid (HB4.out.keep HF3.out (by simp))
  have hcf3 := HF3.out.cell hcf (by simp)
  have HR13 := Lib.hid (HF3.out.range HR1.out (by simp))
  have HR23 := Lib.hid (HF3.out.range HR2.out (by simp))
  have HR33 := Lib.hid (HF3.out.range HR3.out (by simp))
  have HFW3 := Lib.hid (HF0.out.trans HF3.out (by simp))
  clear HBB HT HB4 HR1 HR2 HR3 HWA HBU HCVO HCVL HF0 HF3
  clear hcf
  rw [← hYC] at HX3
  clear hYC
  have hw1 : IntKind.i64.wrap ((Fn : Int) + 1) = (Fn : Int) + 1 := IntWalk.i64_in _ (by omega)
  go_wp2_with fail
  refine (within_pos from_ ((Fn : Int) + 1) HFR.out.1 HFR.out.2 (by omega) (by omega) _).mono ?_
  rintro e w4 ⟨rfl, rfl⟩
  have h0 : 0 ≤ from_ % ((Fn : Int) + 1) := Int.emod_nonneg _ (by omega)
  have h1 : from_ % ((Fn : Int) + 1) < (Fn : Int) + 1 := Int.emod_lt_of_pos _ (by omega)
  generalize from_ % ((Fn : Int) + 1) = fr at *
  clear hw1
  go_wp2_with fail
  clear hcf3
  go_loopw [12] (fun i wr => ∃ (k : Nat) (A' : Option Addr) (c' : Nat) (L : List Wst) (l' : List Ent) (Sr' : List Nat), k ≤ 2 * Fn + 1 ∧ i = .int .i64 k ∧ Hid (L.length = k) ∧ Hid (∀ v ∈ L, v.Ok) ∧ Hid (Blk wr g11 54 (YC ++ [Value.slice A' k c']).toArray) ∧ Hid (wr.ownsRow w3.heap.size 51 38 (.slice A' k c') k (L.flatMap Wst.cells)) ∧ Hid (BB wr Sb gb Sr' gr l') ∧ Hid (l'.length ≤ l.length + k) ∧ Hid (∀ q ∈ Sr', q < w3.heap.size → q ∈ Sr) ∧ Hid (∀ q ∈ bk A', ¬ q ∈ Sr') ∧ Hid (Fr (g11 :: (Sb ++ Sr)) w3 wr)) (fun i _ => 2 * Fn + 2 - (intOf i).toNat)
  case atStart => exact ⟨0, none, 0, [], l, Sr, by omega, rfl, Lib.hid rfl, Lib.hid (by simp), HX3, Lib.hid ⟨by simp, .inl ⟨rfl, rfl⟩⟩, HBB3, Lib.hid (by omega), Lib.hid (fun q h _ => h), Lib.hid (by simp [bk]), Lib.hid (Fr.refl _ _)⟩
  case round =>
    obtain ⟨k, A', c', L, l', Sr', hk, rfl, HLL, HLO, HX, HO, HBK, HLK, HSN, HAD, HF⟩ := hrel
    rename World => wr
    have hkS : (k : Int) + 1 ≤ 1000 := by omega
    have hk0 : (0 : Int) ≤ k := by omega
    have hni : ∀ j, j < 3 → ¬ w.heap.size + j ∈ g11 :: (Sb ++ Sr) := fun j hj hm => by
      rcases List.mem_cons.1 hm with h | h
      · omega
      · rcases List.mem_append.1 h with h | h
        · have := HSBw.out _ h; omega
        · have := HSRw.out _ h; omega
    have HR1r := Lib.hid (HF.out.range HR13.out (hni 0 (by omega)))
    have HR2r := Lib.hid (HF.out.range HR23.out (hni 1 (by omega)))
    have HR3r := Lib.hid (HF.out.range HR33.out (hni 2 (by omega)))
    clear hni
    have hq := refquorum_any (Fn : Int) K (by omega) wr
    by_cases hlt : k < 2 * Fn + 1
    · have hkn : (k : Int) < 2 * (Fn : Int) + 1 := by omega
      go_upto_if 30 with (first
        | (refine wpList_row rfl 34 _ rfl _ _ rfl _ HR2r.out row_conf ?_)
        | (go_at_call 48; refine hq.mono ?_; rintro e wq ⟨rfl, hfq⟩))
      have HX := Lib.hid (HX.out.keep hfq (by simp))
      have HO := Lib.hid (own_keep HO.out hfq (by simp))
      have HBK := Lib.hid (HBK.out.keep hfq (by simp) (by simp))
      have HR1q := Lib.hid (hfq.range HR1r.out (by simp))
      have HR3q := Lib.hid (hfq.range HR3r.out (by simp))
      have HFq := Lib.hid (HF.out.trans hfq (by simp))
      clear HR1r HR2r HR3r hfq hq
      have HUL : Hid (UL wq T nT lT) := Lib.hid (Lst.keep' HT3.out HFq.out (fun hn a ha hm => by
        have hb := HTB.out hn a ha
        rcases List.mem_cons.1 hm with h | h
        · omega
        · exact HTD.out hn a ha h) (fun _ _ h => h))
      go_cut [13] (fun s wx => ∃ t : Nat, s = .int .u64 (t : Int) ∧ t < 18446744073709551616 ∧ wq = wx)
      case first =>
        by_cases hkT : k < nT
        · obtain ⟨ad, v, rfl, hv, hv0, hv1, hcell⟩ := HUL.out.get hkT
          obtain ⟨tt, ht1, ht2⟩ : ∃ tt : Nat, 1 + v % 1000 = (tt : Int) ∧ tt < 18446744073709551616 := ⟨(1 + v % 1000).toNat, by omega, by omega⟩
          have HT1 := Lib.hid ht1
          clear ht1
          go_wp2_with fail
          go_meet
          exact ⟨tt, congrArg (Value.int .u64) HT1.out, ht2, rfl⟩
        · go_wp2_with fail
          go_meet
          exact ⟨5, rfl, by omega, rfl⟩
      case rest =>
      obtain ⟨t, rfl, ht, rfl⟩ := hcut
      rename_i ha1 ha2
      refine ha2 _ _ ?_
      clear ha2
      have HTT := Lib.hid ht
      have HKN : Hid (k < 2 * Fn + 1) := Lib.hid hlt
      clear ht hlt hkn
      have hwf : IntKind.i64.wrap (fr + (k : Int)) = fr + (k : Int) := IntWalk.i64_in _ (by omega)
      have HFI : Hid (i64In (fr + (k : Int))) := Lib.hid ⟨by omega, by omega⟩
      have HXC : Hid (wq.cell? ⟨g11, 37, none⟩ = some (.slice A' k c')) := Lib.hid (by
        have h := HX.out.range 37 (.slice A' k c') (by rw [List.getElem?_append_right (by rw [HYC.out, HYL.out]; omega), HYC.out, HYL.out]; rfl)
        simpa using h)
      have HSRL := Lib.hid HBK.out.r.lt
      have HSBL := Lib.hid HBK.out.b.lt
      have HAGE := Lib.hid (fun q (hq : q ∈ bk A') => own_ge HO.out q hq)
      have HGN : Hid (¬ g11 ∈ Sb ++ Sr' ++ bk A') := Lib.hid (fun hm => by
        rcases List.mem_append.1 hm with hm | hm
        · rcases List.mem_append.1 hm with hm | hm
          · have := HSBw.out _ hm; omega
          · have := HSRw.out _ (HSN.out _ hm (by omega)); omega
        · have := HAGE.out _ hm; omega)
      have HNJ : Hid (∀ j, j < 3 → ¬ w.heap.size + j ∈ Sb ++ Sr' ++ bk A') := Lib.hid (fun j hj hm => by
        rcases List.mem_append.1 hm with hm | hm
        · rcases List.mem_append.1 hm with hm | hm
          · have := HSBw.out _ hm; omega
          · have := HSRw.out _ (HSN.out _ hm (by omega)); omega
        · have := HAGE.out _ hm; omega)
      have HN0 : Hid (¬ w.heap.size ∈ Sb ++ Sr' ++ bk A') := Lib.hid (HNJ.out 0 (by omega))
      have HN2 : Hid (¬ w.heap.size + 2 ∈ Sb ++ Sr' ++ bk A') := Lib.hid (HNJ.out 2 (by omega))
      have HNS : Hid (¬ g11 ∈ Sb ++ Sr' ++ bk A') := HGN
      have HNW : Hid (¬ w.heap.size ∈ Sb ++ Sr' ++ bk A') := HN0
      have HYLN := HYL
      refine wp_region_till 12 (Fr (g11 :: (Sb ++ Sr' ++ bk A')) wq) (Fr (Sb ++ Sr' ++ bk A') wq) (by kernel_rfl) (Fr.drew (Fr.refl _ wq)) (Fr.drew (Fr.refl _ wq)) (fun hA hB => ?_)
      have HWD : Hid (Fr [] wq wq.drew) := Lib.hid (Fr.drew (Fr.refl [] wq))
      have HBKd := Lib.hid (HBK.out.keep (Fr.drew (Fr.refl [] wq)) (by simp) (by simp))
      generalize wq.drew = wd at *
      refine till_run (i := 0) (v := ?_) rfl (by kernel_rfl) (by rfl) (fun _ _ _ h => h) hA hB (fun w1 hw1 => ?_) ?_
      rotate_left 1
      · skip
        go_simp
        (try (first | with_reducible rfl | (apply And.intro <;> rfl)))
      simp only [Act.put, List.setIfInBounds_toArray, List.set_cons_zero, List.set_cons_succ]
      refine till_run (i := 1) (v := ?_) rfl (by kernel_rfl) (by rfl) (fun _ _ _ h => h) hA hB (fun w1 hw1 => ?_) ?_
      rotate_left 1
      · skip
        have hcw0 := hw1.cell (HXC.out) (by first | (simp; done) | exact HNS.out | exact HNW.out | (intro hm; have hlt := HSB.out _ hm; (try dsimp only at hlt); omega))
        go_simp
        (try (first | with_reducible rfl | (apply And.intro <;> rfl)))
      simp only [Act.put, List.setIfInBounds_toArray, List.set_cons_zero, List.set_cons_succ]
      refine till_row (i := 2) rfl (by kernel_rfl) (by rfl) _ _ rfl _ _ rfl _ (fun w1 hw1 => hw1.range HR1q.out HN0.out) row_books (fun _ _ _ h => h) hA hB ?_
      simp only [Act.put, List.setIfInBounds_toArray, List.set_cons_zero, List.set_cons_succ]
      refine till_run (i := 3) (v := ?_) rfl (by kernel_rfl) (by rfl) (fun _ _ _ h => h) hA hB (fun w1 hw1 => ?_) ?_
      rotate_left 1
      · skip
        go_simp
        (try (first | with_reducible rfl | (apply And.intro <;> rfl)))
      simp only [Act.put, List.setIfInBounds_toArray, List.set_cons_zero, List.set_cons_succ]
      refine till_run (i := 4) (v := ?_) rfl (by kernel_rfl) (by rfl) (fun _ _ _ h => h) hA hB (fun w1 hw1 => ?_) ?_
      rotate_left 1
      · skip
        go_simp
        (try (first | with_reducible rfl | (apply And.intro <;> rfl)))
      simp only [Act.put, List.setIfInBounds_toArray, List.set_cons_zero, List.set_cons_succ]
      refine till_run (i := 5) (v := ?_) rfl (by kernel_rfl) (by rfl) (fun _ _ _ h => h) hA hB (fun w1 hw1 => ?_) ?_
      rotate_left 1
      · skip
        go_simp
        (try (first | with_reducible rfl | (apply And.intro <;> rfl)))
      simp only [Act.put, List.setIfInBounds_toArray, List.set_cons_zero, List.set_cons_succ]
      refine till_row (i := 6) rfl (by kernel_rfl) (by rfl) _ _ rfl _ _ rfl _ (fun w1 hw1 => hw1.range HR3q.out HN2.out) (row_commit.of HYL.out) (fun _ _ _ h => h) hA hB ?_
      simp only [Act.put, List.setIfInBounds_toArray, List.set_cons_zero, List.set_cons_succ]
      refine till_run (i := 7) (v := ?_) rfl (by kernel_rfl) (by rfl) (fun _ _ _ h => h) hA hB (fun w1 hw1 => ?_) ?_
      rotate_left 1
      · skip
        go_simp
        (try (first | with_reducible rfl | (apply And.intro <;> rfl)))
      simp only [Act.put, List.setIfInBounds_toArray, List.set_cons_zero, List.set_cons_succ]
      refine till_call (i := 8) (f := ?_) (args := ?_) rfl (by kernel_rfl) (by rfl) ?_ ?_
      rotate_left 2
      · go_simp
        (try (first | with_reducible rfl | (apply And.intro <;> rfl)))
      have hst := bkStamp_any (fr + (k : Int)) HFI.out y HY.out t HTT.out wd Sb gb Sr' gr l' HBKd.out (by have := HLK.out; have := HL.out; omega)
      refine hst.mono ?_
      rintro e_ w5 ⟨rfl, Sr2, hb2, hf2, hs2⟩
      have HVO : Hid (stOf (fr + (k : Int)) y t l').Ok := Lib.hid (stOf_ok HFI.out HY.out HTT.out (by have := HLK.out; have := HL.out; omega))
      have HL2 : Hid ((bkOf (fr + (k : Int)) y t l').length ≤ l'.length + 1) := Lib.hid (sgn_lenC _ _)
      have hwq : wq.heap.size ≤ wd.heap.size := HWD.out.size
      have hw3q : w3.heap.size ≤ wq.heap.size := HFq.out.size
      have HS2 : Hid (∀ q ∈ Sr2, q < wq.heap.size → q ∈ Sr') := Lib.hid (fun q hq h => hs2 q hq (by omega))
      have HF5 : Hid (Fr (Sb ++ Sr') wq w5) := Lib.hid ((HWD.out.mono (T := Sb ++ Sr') (by simp)).trans hf2 (fun x hx _ => hx))
      have HBK5 := Lib.hid hb2
      have HAB : Hid (∀ q ∈ bk A', ¬ q ∈ Sb ++ Sr') := Lib.hid (fun q hq hm => by
        rcases List.mem_append.1 hm with hm | hm
        · have := HAGE.out q hq; have := HSBw.out _ hm; omega
        · exact HAD.out q hq hm)
      have HAS2 : Hid (∀ q ∈ bk A', ¬ q ∈ Sr2) := Lib.hid (fun q hq hm => HAD.out q hq (HS2.out q hm (own_lt HO.out q ((bk_mem A' k c' q).2 hq))))
      have HO5 := Lib.hid (own_keep HO.out HF5.out (fun q hq => HAB.out q ((bk_mem A' k c' q).1 hq)))
      have HX5 := Lib.hid (HX.out.keep HF5.out (fun hm => HGN.out (List.mem_append.2 (.inl hm))))
      refine ⟨_, rfl, ⟨hA.trans hf2 (fun x hx _ => List.mem_cons_of_mem _ (List.mem_append.2 (.inl hx))), hB.trans hf2 (fun x hx _ => List.mem_append.2 (.inl hx))⟩, fun hB => ?_⟩
      replace hA := hA.trans hf2 (fun x hx _ => List.mem_cons_of_mem _ (List.mem_append.2 (.inl hx)))
      clear hb2 hf2 hs2 hst
      generalize bkOf (fr + (k : Int)) y t l' = l2 at *
      generalize stOf (fr + (k : Int)) y t l' = v at *
      have HD : Hid (v.cells.length = 38) := Lib.hid (Wst.len HVO.out.h)
      have HD1 := Lib.hid (Wst.one v)
      have HCY : Hid ((L ++ [v]).flatMap Wst.cells = L.flatMap Wst.cells ++ v.cells) := Lib.hid (by rw [List.flatMap_append, List.flatMap_singleton])
      unfold Wst.val
      obtain ⟨D, hD⟩ : ∃ D, v.cells = D := ⟨_, rfl⟩
      rw [hD] at HD HD1 HCY
      rw [hD]
      clear hD
      simp only [Act.put, List.setIfInBounds_toArray, List.set_cons_zero, List.set_cons_succ]
      refine till_stepC (i := 9) rfl (by kernel_rfl) (by rfl) (fun K hK => ?_)
      refine wp_build_one 49 51 _ rfl Try.underlying49 D 80 (by rw [HD.out]; exact el_stamp) rfl (by rw [HD.out]; decide) (by rw [HD.out]; decide) ?_
      refine hK.out _ _ (hA.alloc _) (hB.alloc _) (fun hA hB => ?_)
      clear hK K
      simp only [Act.put, List.setIfInBounds_toArray, List.set_cons_zero, List.set_cons_succ]
      refine till_stepC (i := 10) rfl (by kernel_rfl) (by rfl) (fun K hK => ?_)
      refine wp_append_onec _ _ 49 51 rfl Try.underlying49 38 80 el_stamp (by decide) w3.heap.size (.slice A' k c') k _ D rfl (HO5.out.alloc _) (by have := HF5.out.size; simp; omega) HD.out HD1.out w5.heap.size 51 rfl (Blk.new _ _ _) (by omega) (by decide) ?_
      intro A9 c9 w9 ho9 hf9 hb9
      rw [bk_own] at hf9
      have HF9 : Hid (Fr (bk A') w5 w9) := Lib.hid ((((Fr.refl [] w5).alloc _).mono (by simp)).trans hf9 (fun x hx _ => hx))
      have HA9 : Hid (∀ q ∈ bk A9, ¬ q ∈ Sr2) := Lib.hid (by
        intro q hq hm
        rw [← bk_own A9 (k + 1) c9] at hq
        rcases hb9 with h | h
        · rw [h, bk_own] at hq; exact HAS2.out q hq hm
        · rw [h] at hq; simp at hq; have h1 := HBK5.out.r.lt q hm; omega)
      have HO9 := Lib.hid ho9
      refine hK.out _ _ (hA.trans hf9 (fun x hx _ => List.mem_cons_of_mem _ (List.mem_append.2 (.inr hx)))) (hB.trans hf9 (fun x hx _ => List.mem_append.2 (.inr hx))) (fun hA hB => ?_)
      clear hK K ho9 hf9 hb9
      have HX9 := Lib.hid (HX5.out.keep HF9.out (fun hm => HGN.out (List.mem_append.2 (.inr hm))))
      have HBK9 := Lib.hid (HBK5.out.keep HF9.out (fun q hq hm => HAB.out q hm (List.mem_append.2 (.inl hq))) (fun q hq hm => HAS2.out q hm hq))
      simp only [Act.put, List.setIfInBounds_toArray, List.set_cons_zero, List.set_cons_succ]
      refine till_stepC (i := 11) rfl (by kernel_rfl) (by rfl) (fun K hK => ?_)
      refine wp_run (v := ?_) (w' := ?_) ?_ ?_
      rotate_left 2
      · go_simp
        (try (first | with_reducible rfl | (apply And.intro <;> rfl)))
      refine hK.out _ _ hA hB (fun hA hB => ?_)
      clear hK K
      simp only [Act.put, List.setIfInBounds_toArray, List.set_cons_zero, List.set_cons_succ]
      refine till_step (i := 12) rfl (by kernel_rfl) (by kernel_rfl) (by rfl) (fun K hK => ?_)
      refine wp_store_cell1 49 _ _ rfl g11 37 (.slice A9 (k + 1) c9) rfl rfl rfl 54 _ HX9.out (by simp [HYC.out, HYL.out]) (by kernel_rfl) ?_
      have hb7 := HX9.out.set 37 (.slice A9 (k + 1) c9)
      rw [set_last YC (by rw [HYC.out]; exact HYL.out) _ _] at hb7
      have HB7 := Lib.hid hb7
      have hf7 : Fr [g11] w9 (w9.setCell ⟨g11, 37, none⟩ (.slice A9 (k + 1) c9)) := (Fr.refl [g11] w9).setCell _ (fun _ => by simp) _
      have HF7 := Lib.hid hf7
      refine hK.out _ _ (hA.trans HF7.out (fun q hq _ => by simp at hq; simp [hq])) (fun hA => ?_)
      clear hK K hb7 hf7
      generalize w9.setCell ⟨g11, 37, none⟩ (.slice A9 (k + 1) c9) = w10 at *
      simp only [Act.put, List.setIfInBounds_toArray, List.set_cons_zero, List.set_cons_succ]
      refine till_done (by kernel_rfl) ?_ _
      have HFF : Hid (Fr (g11 :: (Sb ++ Sr)) w3 w10) := Lib.hid (HFq.out.trans hA (fun x hx hl => by
        rcases List.mem_cons.1 hx with h | hx
        · simp [h]
        · rcases List.mem_append.1 hx with hx | hx
          · rcases List.mem_append.1 hx with hx | hx
            · simp [hx]
            · have := HSN.out x hx hl; simp [this]
          · have := HAGE.out x hx; omega))
      have HO10 := Lib.hid (own_keep HO9.out HF7.out (fun q hq hm => by rw [bk_mem] at hq; have h1 := own_ge HO9.out q hq; simp at hm; omega))
      have HBK10 := Lib.hid (HBK9.out.keep HF7.out (fun q hq hm => by simp at hm; have := HSBw.out q hq; omega) (fun q hq hm => by simp at hm; exact HGN.out (by rw [← hm]; exact List.mem_append.2 (.inl (List.mem_append.2 (.inr (HS2.out q hq (by omega))))))))
      clear hA
      go_wp2
      go_roundw
      case rel =>
        refine ⟨k + 1, A9, c9, L ++ [v], l2, Sr2, by have := HKN.out; omega, by go_num, Lib.hid (by rw [List.length_append, HLL.out]; rfl), Lib.hid (fun u hu => ?_), HB7, Lib.hid (by rw [HCY.out]; exact HO10.out), HBK10, Lib.hid (by have := HL2.out; have := HLK.out; omega), Lib.hid (fun q hq h => HSN.out q (HS2.out q hq (by omega)) h), HA9, HFF⟩
        rcases List.mem_append.1 hu with h | h
        · exact HLO.out u h
        · rw [List.mem_singleton.1 h]; exact HVO.out
      case measure => have := HKN.out; simp [intOf]; omega
    · have hk2 : k = 2 * Fn + 1 := by omega
      subst hk2
      have HVL : Hid ((YC ++ [Value.slice A' (2 * Fn + 1) c']).length = 38) := Lib.hid (by simp [HYC.out, HYL.out])
      have HVO : Hid ((YC ++ [Value.slice A' (2 * Fn + 1) c']).toArray.all (·.oneCell') = true) := Lib.hid (all_oneCell_toArray (fun v hv => by
        rcases List.mem_append.1 hv with h | h
        · exact HYO.out v (by rw [← HYC.out]; exact h)
        · rw [List.mem_singleton.1 h]; rfl))
      have HBW := Lib.hid (HB43.out.keep HF.out (fun hm => by
        rcases List.mem_cons.1 hm with h | h
        · omega
        · rcases List.mem_append.1 h with h | h
          · have := HSBw.out _ h; omega
          · have := HSRw.out _ h; omega))
      have hn0 : ¬ ((2 * Fn + 1 : Nat) : Int) < 2 * (Fn : Int) + 1 := by omega
      have hq3 := hq
      clear hq
      have HSN' : Hid (∀ q ∈ Sr', q < w.heap.size → q ∈ Sr) := Lib.hid (fun q hq h => HSN.out q hq (by have := HFW3.out.size; omega))
      go_upto_region 10 with (first
        | (refine wpList_row rfl 34 _ rfl _ _ rfl _ HR2r.out row_conf ?_)
        | (go_at_call 48; refine hq3.mono ?_; rintro e wq ⟨rfl, hfq⟩))
      have HXq := Lib.hid (HX.out.keep hfq (by simp))
      have HOq := Lib.hid (own_keep HO.out hfq (by simp))
      have HBKq := Lib.hid (HBK.out.keep hfq (by simp) (by simp))
      have HBWq := Lib.hid (HBW.out.keep hfq (by simp))
      have HFq := Lib.hid (HF.out.trans hfq (by simp))
      clear hfq HX HO HBK HBW HF
      have HVT : Hid ((Try.prog.info? 54).map (·.size) = some (YC ++ [Value.slice A' (2 * Fn + 1) c']).toArray.size) := Lib.hid (by rw [List.size_toArray, HVL.out]; kernel_rfl)
      obtain ⟨V, hV⟩ : ∃ V, YC ++ [Value.slice A' (2 * Fn + 1) c'] = V := ⟨_, rfl⟩
      have HVV := Lib.hid hV
      rw [hV] at HVL HVO HVT HXq
      clear hV
      go_wp2_with (first
        | (refine wpList_load_row rfl 54 _ rfl g11 rfl 54 V.toArray _ _ HXq.out Try.underlying54 rfl HVT.out ?_)
        | (refine wpList_store_blk rfl 54 _ _ rfl (w.heap.size + 3) V.toArray rfl rfl 54 ceZ HBWq.out HVT.out ((show ceZ.size = 38 from rfl).trans (by rw [List.size_toArray, HVL.out])) HVO.out ?_
           intro w9 hb hf
           have HB9 := Lib.hid hb
           have HF9 := Lib.hid hf
           clear hb hf))
      have hs3 : w.heap.size ≤ w3.heap.size := HFW3.out.size
      refine bodyPost_ret (v := .agg V.toArray) (results_cell_row Try.results23 _ _ (w.heap.size + 3) 54 V.toArray _ _ rfl HB9.out Try.underlying54 rfl HVT.out) rfl ⟨A', c', L, l', Sr', by rw [← HVV.out, HYC.out], HLL.out, HLO.out, ?_, ?_, HLK.out, ?_, HSN'.out, HAD.out⟩
      · exact own_any (own_keep HOq.out HF9.out (fun q hq hm => by rw [bk_mem] at hq; have := own_ge HOq.out q hq; simp at hm; omega)) hs3
      · refine HBKq.out.keep HF9.out (fun q hq hm => ?_) (fun q hq hm => ?_)
        · simp at hm; have := HSBw.out q hq; omega
        · simp at hm; have := HSRw.out q (HSN.out q hq (by omega)); omega
      · have h1 : Fr (Sb ++ Sr) w w3 := HFW3.out.mono (by simp)
        have h2 := h1.trans HFq.out (fun x hx hl => by
          rcases List.mem_cons.1 hx with h | h
          · omega
          · exact h)
        exact h2.trans HF9.out (fun x hx hl => by simp at hx; omega)
end Go.Proofs.Ytglphddjinmhoaa
