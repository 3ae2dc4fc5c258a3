/- gavellaw09.StampRises: one round: a name that is there, the end of time. (written by gen_strs4.py) -/
import Derived.Test.YtacandocjjpfcaaDoorStrbM
namespace Go.Proofs.YtacandocjjpfcaaDoor
set_option maxRecDepth 100000
open Go.RowKit
set_option maxHeartbeats 40000000 in
theorem rounds_B (J K' : Act → World → Prop) (Q' : Exit → Act → World → Prop) (w0 : World) (n c : Nat) (HK : Hid (KW w0)) (S Sb : List Nat) (g gb bm : Nat) (HBM : Hid (w0.heap.size ≤ bm ∧ ∀ k ∈ S ++ Sb, ¬ k = bm)) (wr : World)
    (u2 u10 u11 u12 u13 u14 u15 u16 u17 u18 u37 u38 u39 u40 u41 u42 u43 u44 u45 u46 u47 u48 u49 u50 u51 u52 u53 u54 u55 u56 u57 u58 u59 u60 u61 u62 u63 u64 u65 u66 u67 u68 u69 u70 u71 u72 u73 u74 u75 u76 u77 u78 u79 u80 u81 u82 u83 u84 u85 u86 u87 u88 u89 u90 u91 u92 u93 u94 u95 u96 u97 u98 u99 u100 u101 u102 u103 u104 u105 u106 u107 u108 u109 u110 u111 u112 u113 u114 u115 u116 u117 u118 u119 u120 u121 u122 u123 u124 u125 u126 u127 u128 u129 u130 u131 u132 u133 u134 u135 u136 u137 u138 u139 u140 u141 u142 u143 u144 u145 u146 u147 u148 u149 u150 u151 u152 u153 u154 u155 u156 u157 u158 u159 u160 u161 u162 u163 u164 u165 u166 u167 u168 u169 u170 u171 u172 u173 u174 u175 u176 u177 u178 u179 u180 u181 u182 u183 u184 u185 u186 u187 u188 u189 u190 : Value) (k : Nat) (x : Sst) (l : List Ent) (la : Nat) (hk25 : k ≤ 25) (HLA : Hid (la = x.la)) (HXI : Hid (x.k = 3 ∧ x.r = 2 ∧ x.l.length ≤ k)) (HL : Hid (l.length ≤ 2 * k)) (HSB : Hid (SB w0 wr S Sb g gb x l)) (HMP : Hid (MapAt nameKey wr bm (encS x.l))) (HF : Hid (Fr [] w0 wr))
    (hkn : k < n) (hk6' : k < 25) (ad : Addr) (v : Act9) (HV : Hid (v.Ok wr)) (HV0 : Hid (v.Ok w0)) (HCE : Hid (∀ j u, v.cells[j]? = some u → wr.cell? ((ad.add (k * 6)).add j) = some u)) (hkn' : (k : Int) < n) (hk60 : (k : Int) < 25) (hk0 : (0 : Int) ≤ k)
    (hmeet : ∀ (a' : Act) (w' : World), (∃ u2 u7 u10 u11 u12 u13 u14 u15 u16 u17 u18 u37 u38 u39 u40 u41 u42 u43 u44 u45 u46 u47 u48 u49 u50 u51 u52 u53 u54 u55 u56 u57 u58 u59 u60 u61 u62 u63 u64 u65 u66 u67 u68 u69 u70 u71 u72 u73 u74 u75 u76 u77 u78 u79 u80 u81 u82 u83 u84 u85 u86 u87 u88 u89 u90 u91 u92 u93 u94 u95 u96 u97 u98 u99 u100 u101 u102 u103 u104 u105 u106 u107 u108 u109 u110 u111 u112 u113 u114 u115 u116 u117 u118 u119 u120 u121 u122 u123 u124 u125 u126 u127 u128 u129 u130 u131 u132 u133 u134 u135 u136 u137 u138 u139 u140 u141 u142 u143 u144 u145 u146 u147 u148 u149 u150 u151 u152 u153 u154 u155 u156 u157 u158 u159 u160 u161 u162 u163 u164 u165 u166 u167 u168 u169 u170 u171 u172 u173 u174 u175 u176 u177 u178 u179 u180 u181 u182 u183 u184 u185 u186 u187 u188 u189 u190, RRise w0 S Sb g gb bm k u7 w' ∧ a' = { tmps := #[Value.slice (some ad) n c, undef, u2, Value.pointer (some { block := w0.heap.size, off := 0 }), Value.pointer (some { block := gb, off := 0 }), Value.pointer (some { block := g, off := 0 }), Value.int IntKind.i64 0, u7, Value.map (some bm), Value.int IntKind.i64 (k : Int), u10, u11, u12, u13, u14, u15, u16, u17, u18, Value.agg #[Value.int IntKind.i64 1, Value.int IntKind.i64 3], Value.pointer (some { block := gb, off := 0 }), Value.tuple #[Value.pointer (some { block := g, off := 0 }), Value.int IntKind.i64 0], Value.agg #[Value.int IntKind.i64 1, Value.int IntKind.i64 3], Value.tuple #[Value.pointer (some { block := g, off := 0 }), Value.int IntKind.i64 0], Value.pointer (some { block := g, off := 0 }), Value.int IntKind.i64 0, Value.pointer (some { block := gb, off := 0 }), Value.bool false, Value.bool false, Value.int IntKind.i64 0, Value.bool false, Value.bool false, Value.bool false, Value.pointer (some { block := g, off := 0 }), Value.bool false, Value.bool false, Value.map (some bm), u37, u38, u39, u40, u41, u42, u43, u44, u45, u46, u47, u48, u49, u50, u51, u52, u53, u54, u55, u56, u57, u58, u59, u60, u61, u62, u63, u64, u65, u66, u67, u68, u69, u70, u71, u72, u73, u74, u75, u76, u77, u78, u79, u80, u81, u82, u83, u84, u85, u86, u87, u88, u89, u90, u91, u92, u93, u94, u95, u96, u97, u98, u99, u100, u101, u102, u103, u104, u105, u106, u107, u108, u109, u110, u111, u112, u113, u114, u115, u116, u117, u118, u119, u120, u121, u122, u123, u124, u125, u126, u127, u128, u129, u130, u131, u132, u133, u134, u135, u136, u137, u138, u139, u140, u141, u142, u143, u144, u145, u146, u147, u148, u149, u150, u151, u152, u153, u154, u155, u156, u157, u158, u159, u160, u161, u162, u163, u164, u165, u166, u167, u168, u169, u170, u171, u172, u173, u174, u175, u176, u177, u178, u179, u180, u181, u182, u183, u184, u185, u186, u187, u188, u189, u190, undef, undef, undef, undef, undef, undef, undef, undef], defers := [] }) → J a' w') (hmet : ∀ (a' : Act) (w' : World), Met J a' w' → K' a' w') (hpan : ∀ c (a : Act) (o : Oper) (u : Value) (w : World), Q' (.panic c) (a.put o.dst u) w → Q' (.panic c) a w)
    (HWY : Hid (¬ (v.d % 6 = 3 ∨ v.d % 6 = 4) ∧ ¬ v.d % 6 = 5)) (HCS0 : Hid (¬ (x.l.lookup (v.c % 3, 1 + v.s % 4) = none ∧ ¬ x.next = 18446744073709551615))) :
    Code.wp Tryd.prog (cFst (cSnd (cInn (cInn (cSnd (cFst (cSnd (cSnd (cSnd (cSnd (cSnd (cSnd (cSnd (cBody Tryd.f6)))))))))))))) (Exit.then K' Q') { tmps := #[Value.slice (some ad) n c, undef, u2, Value.pointer (some { block := w0.heap.size, off := 0 }), Value.pointer (some { block := gb, off := 0 }), Value.pointer (some { block := g, off := 0 }), Value.int IntKind.i64 0, Value.int IntKind.u64 (la : Int), Value.map (some bm), Value.int IntKind.i64 (k : Int), u10, u11, u12, u13, u14, u15, u16, u17, u18, Value.agg #[Value.int IntKind.i64 1, Value.int IntKind.i64 3], Value.pointer (some { block := gb, off := 0 }), Value.tuple #[Value.pointer (some { block := g, off := 0 }), Value.int IntKind.i64 0], Value.agg #[Value.int IntKind.i64 1, Value.int IntKind.i64 3], Value.tuple #[Value.pointer (some { block := g, off := 0 }), Value.int IntKind.i64 0], Value.pointer (some { block := g, off := 0 }), Value.int IntKind.i64 0, Value.pointer (some { block := gb, off := 0 }), Value.bool false, Value.bool false, Value.int IntKind.i64 0, Value.bool false, Value.bool false, Value.bool false, Value.pointer (some { block := g, off := 0 }), Value.bool false, Value.bool false, Value.map (some bm), Value.int IntKind.i64 (k : Int), Value.slice (some ad) n c, Value.int IntKind.i64 (n : Int), Value.bool true, Value.bool true, Value.int IntKind.i64 (k : Int), Value.bool true, Value.bool true, u45, u46, u47, u48, u49, u50, u51, u52, u53, u54, u55, u56, u57, u58, u59, u60, u61, u62, u63, u64, u65, u66, u67, u68, u69, u70, u71, u72, u73, u74, u75, u76, u77, u78, u79, u80, u81, u82, u83, u84, u85, u86, u87, u88, u89, u90, u91, u92, u93, u94, u95, u96, u97, u98, u99, u100, u101, u102, u103, u104, u105, u106, u107, u108, u109, u110, u111, u112, u113, u114, u115, u116, u117, u118, u119, u120, u121, u122, u123, u124, u125, u126, u127, u128, u129, u130, u131, u132, u133, u134, u135, u136, u137, u138, u139, u140, u141, u142, u143, u144, u145, u146, u147, u148, u149, u150, u151, u152, u153, u154, u155, u156, u157, u158, u159, u160, u161, u162, u163, u164, u165, u166, u167, u168, u169, u170, u171, u172, u173, u174, u175, u176, u177, u178, u179, u180, u181, u182, u183, u184, u185, u186, u187, u188, u189, u190, undef, undef, undef, undef, undef, undef, undef, undef], defers := [] } wr := by
  simp only [cBody, cFst, cSnd, cInn, Tryd.f6]
  let QBODY : Exit → Act → World → Prop := bodyPost Tryd.prog Tryd.f6 (fun _ _ => True)
  go_upto_region 12 with (first
    | (refine wpList_load_cells rfl 72 _ rfl (ad.add (k * 6)) rfl v.cells _ (fun j x hx => HCE.out j x hx) Tryd.underlying72 rfl (by rw [act9_size]; rfl) ?_)
    | (refine wpList_store_box rfl 72 _ _ rfl _ 72 v.cells rfl rfl (by rw [act9_size]; rfl) rfl v.one ?_
       intro wb hblk hfb))
  obtain ⟨hc0, -, hc2, hc3, hc4, hc5⟩ := Act9.in_blk hblk
  have HGA : Hid (wr.heap.size < wb.heap.size ∧ (∀ k ∈ S ++ Sb, ¬ k = wr.heap.size) ∧ ¬ bm = wr.heap.size) := Lib.hid ⟨hblk.lt, fun k hk hm => by have h1 := HSB.out.lt k hk; omega, fun hm => by have := HMP.out.lt; omega⟩
  have HSB := Lib.hid (HSB.out.keep hfb (by simp))
  have HMP := Lib.hid (HMP.out.keep hfb (by simp))
  have HFB := Lib.hid (HF.out.and hfb (by simp))
  have HVB := Lib.hid (HV.out.keep hfb (by simp))
  have HBA := Lib.hid hblk
  have HFR := Lib.hid hfb
  clear hblk hfb HV HCE
  generalize wr.heap.size = ga at *
  have hT := HVB.out.t
  obtain ⟨D, hD⟩ : ∃ D, D = v.d % 6 := ⟨_, rfl⟩
  have hD0 : 0 ≤ D ∧ D < 6 := by rw [hD]; exact ⟨Int.emod_nonneg _ (by omega), Int.emod_lt_of_pos _ (by omega)⟩
  have HVD := Lib.hid HVB.out.d
  have HVC := Lib.hid HVB.out.c
  have HVS := Lib.hid HVB.out.s
  go_wp2_with fail
  refine (within_pos v.d 6 HVD.out.1 HVD.out.2 (by omega) (by omega) _).mono ?_
  rintro e_ _ ⟨rfl, rfl⟩
  rw [← hD]
  have hD34 : ¬ (D = 3 ∨ D = 4) := by rw [hD]; exact HWY.out.1
  have hD5 : ¬ D = 5 := by rw [hD]; exact HWY.out.2
  clear hD
  have e3 : (D == 3) = false := by simp; omega
  have e4 : (D == 4) = false := by simp; omega
  have e5 : (D == 5) = false := by simp; omega
  have HD := Lib.hid (And.intro hD34 hD5)
  clear hD34 hD5
  obtain ⟨C3, hC3⟩ : ∃ C3, C3 = v.c % 3 := ⟨_, rfl⟩
  obtain ⟨S4, hS4⟩ : ∃ S4, S4 = 1 + v.s % 4 := ⟨_, rfl⟩
  have hcb : 0 ≤ C3 ∧ C3 < 3 := by rw [hC3]; exact ⟨Int.emod_nonneg _ (by omega), Int.emod_lt_of_pos _ (by omega)⟩
  have hsb : 1 ≤ S4 ∧ S4 ≤ 4 := by
    have h1 := Int.emod_nonneg v.s (show (4 : Int) ≠ 0 by omega)
    have h2 := Int.emod_lt_of_pos v.s (show (0 : Int) < 4 by omega)
    omega
  have HC3E : Hid (v.c % 3 = C3) := Lib.hid hC3.symm
  have HS4E : Hid (IntKind.i64.wrap (1 + v.s % 4) = S4) := Lib.hid (by rw [IntWalk.i64_in _ (by omega)]; exact hS4.symm)
  have HCQ : Hid (v.c % 3 = C3 ∧ 1 + v.s % 4 = S4) := Lib.hid ⟨hC3.symm, hS4.symm⟩
  clear hC3 hS4 hc0 hc2
  go_upto_region 13 with (fail)
  go_cut [13] (fun s1 wx => ∃ gn, s1 = .pointer (some ⟨gn, 0, none⟩) ∧ Hid (Blk wx gn 30 #[.int .i64 C3, .int .i64 S4]) ∧ Hid (Fr [] wb wx) ∧ Hid (wb.heap.size ≤ gn))
  case first =>
    refine wp_region_held_drew (S := Fr [] wb) (by kernel_rfl) (Fr.drew (Fr.refl _ wb)) (fun hHeld => ?_)
    generalize wb.drew = x0 at *
    refine run_at (i := 0) (v := ?_) rfl (by kernel_rfl) (by rfl) (fun _ _ _ h => hpan _ _ _ _ _ h) hHeld (fun w1 hw1 => ?_) ?_
    rotate_left 1
    · skip
      go_simp
      (try (first | with_reducible rfl | (apply And.intro <;> rfl)))
    simp only [Act.put, List.setIfInBounds_toArray, List.set_cons_zero, List.set_cons_succ]
    refine run_at (i := 1) (v := ?_) rfl (by kernel_rfl) (by rfl) (fun _ _ _ h => hpan _ _ _ _ _ h) hHeld (fun w1 hw1 => ?_) ?_
    rotate_left 1
    · skip
      go_simp
      (try (first | with_reducible rfl | (apply And.intro <;> rfl)))
    simp only [Act.put, List.setIfInBounds_toArray, List.set_cons_zero, List.set_cons_succ]
    refine run_at (i := 2) (v := ?_) rfl (by kernel_rfl) (by rfl) (fun _ _ _ h => hpan _ _ _ _ _ h) hHeld (fun w1 hw1 => ?_) ?_
    rotate_left 1
    · skip
      have hcw0 := hw1.cell (hc3) (by first | (simp; done) | exact HNS.out | exact HNW.out | (intro hm; have hlt := HSB.out _ hm; (try dsimp only at hlt); omega))
      go_simp
      (try (first | with_reducible rfl | (apply And.intro <;> rfl)))
    simp only [Act.put, List.setIfInBounds_toArray, List.set_cons_zero, List.set_cons_succ]
    refine run_at (i := 4) (v := ?_) rfl (by kernel_rfl) (by rfl) (fun _ _ _ h => hpan _ _ _ _ _ h) hHeld (fun w1 hw1 => ?_) ?_
    rotate_left 1
    · skip
      go_simp
      (try (first | with_reducible rfl | (apply And.intro <;> rfl)))
    simp only [Act.put, List.setIfInBounds_toArray, List.set_cons_zero, List.set_cons_succ]
    refine run_at (i := 5) (v := ?_) rfl (by kernel_rfl) (by rfl) (fun _ _ _ h => hpan _ _ _ _ _ h) hHeld (fun w1 hw1 => ?_) ?_
    rotate_left 1
    · skip
      go_simp
      (try (first | with_reducible rfl | (apply And.intro <;> rfl)))
    simp only [Act.put, List.setIfInBounds_toArray, List.set_cons_zero, List.set_cons_succ]
    refine run_at (i := 6) (v := ?_) rfl (by kernel_rfl) (by rfl) (fun _ _ _ h => hpan _ _ _ _ _ h) hHeld (fun w1 hw1 => ?_) ?_
    rotate_left 1
    · skip
      have hcw0 := hw1.cell (hc4) (by first | (simp; done) | exact HNS.out | exact HNW.out | (intro hm; have hlt := HSB.out _ hm; (try dsimp only at hlt); omega))
      go_simp
      (try (first | with_reducible rfl | (apply And.intro <;> rfl)))
    simp only [Act.put, List.setIfInBounds_toArray, List.set_cons_zero, List.set_cons_succ]
    refine two_at (i := 3) (j := 10) rfl rfl (by kernel_rfl) (by rfl) (by rfl) (fun K hK => ?_) (fun K hK => ?_)
    · skip
      refine wp_call (f := ?_) (args := ?_) ?_ ?_
      rotate_left 2
      · go_simp
        (try (first | with_reducible rfl | (apply And.intro <;> rfl)))
      refine (within_pos v.c 3 HVC.out.1 HVC.out.2 (by omega) (by omega) _).mono ?_
      rintro e_ _ ⟨rfl, rfl⟩
      refine ⟨_, rfl, hK.out _ _ hHeld (fun hHeld => ?_)⟩
      clear hK K
      simp only [Act.put, List.setIfInBounds_toArray, List.set_cons_zero, List.set_cons_succ]
      rw [HC3E.out]
      refine two_at (i := 7) (j := 10) rfl rfl (by kernel_rfl) (by rfl) (by rfl) (fun K hK => ?_) (fun K hK => ?_)
      · skip
        refine wp_call (f := ?_) (args := ?_) ?_ ?_
        rotate_left 2
        · go_simp
          (try (first | with_reducible rfl | (apply And.intro <;> rfl)))
        refine (within_pos v.s 4 HVS.out.1 HVS.out.2 (by omega) (by omega) _).mono ?_
        rintro e_ _ ⟨rfl, rfl⟩
        refine ⟨_, rfl, hK.out _ _ hHeld (fun hHeld => ?_)⟩
        clear hK K
        simp only [Act.put, List.setIfInBounds_toArray, List.set_cons_zero, List.set_cons_succ]
        refine run_at (i := 8) (v := ?_) rfl (by kernel_rfl) (by rfl) (fun _ _ _ h => hpan _ _ _ _ _ h) hHeld (fun w1 hw1 => ?_) ?_
        rotate_left 1
        · skip
          go_simp
          (try (first | with_reducible rfl | (apply And.intro <;> rfl)))
        simp only [Act.put, List.setIfInBounds_toArray, List.set_cons_zero, List.set_cons_succ]
        rw [HS4E.out]
        refine build_at (i := 9) rfl (by kernel_rfl) (by rfl) _ _ rfl _ _ (built_nm _ _) rfl (fun _ _ _ h => hpan _ _ _ _ _ h) hHeld ?_
        simp only [Act.put, List.setIfInBounds_toArray, List.set_cons_zero, List.set_cons_succ]
        refine step_at (i := 10) rfl (by kernel_rfl) (by rfl) (fun K hK => ?_)
        refine wp_run (v := ?_) (w' := ?_) ?_ ?_
        rotate_left 2
        · go_simp
          (try (first | with_reducible rfl | (apply And.intro <;> rfl)))
        have HGE : Hid (wb.heap.size ≤ x0.heap.size) := Lib.hid hHeld.size
        refine hK.out _ (x0.alloc (Obj.cells #[.int .i64 0, .int .i64 0] 30)) (hHeld.alloc _) (fun hHeld => ?_)
        clear hK K
        simp only [Act.put, List.setIfInBounds_toArray, List.set_cons_zero, List.set_cons_succ]
        have HGB : Hid (Blk (x0.alloc (Obj.cells #[.int .i64 0, .int .i64 0] 30)) x0.heap.size 30 #[.int .i64 0, .int .i64 0]) := Lib.hid (Blk.new _ _ _)
        generalize x0.alloc (Obj.cells #[.int .i64 0, .int .i64 0] 30) = xa at *
        generalize x0.heap.size = gN at *
        refine step_at (i := 11) rfl (by kernel_rfl) (by rfl) (fun K hK => ?_)
        refine wp_store_blk 30 _ _ rfl gN #[.int .i64 C3, .int .i64 S4] rfl rfl 30 _ HGB.out (by kernel_rfl) rfl (by kernel_rfl) ?_
        intro x9 hb9 hf9
        refine hK.out _ _ (hHeld.go hf9 (by have := HGE.out; simpa using this)) (fun hHeld => ?_)
        clear hK K
        simp only [Act.put, List.setIfInBounds_toArray, List.set_cons_zero, List.set_cons_succ]
        refine wpAnyH_done (by kernel_rfl) ?_ _
        go_wp2_with fail
        go_meet
        exact ⟨gN, rfl, Lib.hid hb9, Lib.hid hHeld, HGE⟩
      · skip
        refine wp_run (v := ?_) (w' := ?_) ?_ ?_
        rotate_left 2
        · go_simp
          (try (first | with_reducible rfl | (apply And.intro <;> rfl)))
        have HGE : Hid (wb.heap.size ≤ x0.heap.size) := Lib.hid hHeld.size
        refine hK.out _ (x0.alloc (Obj.cells #[.int .i64 0, .int .i64 0] 30)) (hHeld.alloc _) (fun hHeld => ?_)
        clear hK K
        simp only [Act.put, List.setIfInBounds_toArray, List.set_cons_zero, List.set_cons_succ]
        have HGB : Hid (Blk (x0.alloc (Obj.cells #[.int .i64 0, .int .i64 0] 30)) x0.heap.size 30 #[.int .i64 0, .int .i64 0]) := Lib.hid (Blk.new _ _ _)
        generalize x0.alloc (Obj.cells #[.int .i64 0, .int .i64 0] 30) = xa at *
        generalize x0.heap.size = gN at *
        refine call_at (i := 7) (f := ?_) (args := ?_) rfl (by kernel_rfl) (by rfl) ?_ ?_
        rotate_left 2
        · go_simp
          (try (first | with_reducible rfl | (apply And.intro <;> rfl)))
        refine (within_pos v.s 4 HVS.out.1 HVS.out.2 (by omega) (by omega) _).mono ?_
        rintro e_ _ ⟨rfl, rfl⟩
        refine ⟨_, rfl, hHeld, fun hHeld => ?_⟩
        simp only [Act.put, List.setIfInBounds_toArray, List.set_cons_zero, List.set_cons_succ]
        refine run_at (i := 8) (v := ?_) rfl (by kernel_rfl) (by rfl) (fun _ _ _ h => hpan _ _ _ _ _ h) hHeld (fun w1 hw1 => ?_) ?_
        rotate_left 1
        · skip
          go_simp
          (try (first | with_reducible rfl | (apply And.intro <;> rfl)))
        simp only [Act.put, List.setIfInBounds_toArray, List.set_cons_zero, List.set_cons_succ]
        rw [HS4E.out]
        refine build_at (i := 9) rfl (by kernel_rfl) (by rfl) _ _ rfl _ _ (built_nm _ _) rfl (fun _ _ _ h => hpan _ _ _ _ _ h) hHeld ?_
        simp only [Act.put, List.setIfInBounds_toArray, List.set_cons_zero, List.set_cons_succ]
        refine step_at (i := 11) rfl (by kernel_rfl) (by rfl) (fun K hK => ?_)
        refine wp_store_blk 30 _ _ rfl gN #[.int .i64 C3, .int .i64 S4] rfl rfl 30 _ HGB.out (by kernel_rfl) rfl (by kernel_rfl) ?_
        intro x9 hb9 hf9
        refine hK.out _ _ (hHeld.go hf9 (by have := HGE.out; simpa using this)) (fun hHeld => ?_)
        clear hK K
        simp only [Act.put, List.setIfInBounds_toArray, List.set_cons_zero, List.set_cons_succ]
        refine wpAnyH_done (by kernel_rfl) ?_ _
        go_wp2_with fail
        go_meet
        exact ⟨gN, rfl, Lib.hid hb9, Lib.hid hHeld, HGE⟩
    · skip
      refine wp_run (v := ?_) (w' := ?_) ?_ ?_
      rotate_left 2
      · go_simp
        (try (first | with_reducible rfl | (apply And.intro <;> rfl)))
      have HGE : Hid (wb.heap.size ≤ x0.heap.size) := Lib.hid hHeld.size
      refine hK.out _ (x0.alloc (Obj.cells #[.int .i64 0, .int .i64 0] 30)) (hHeld.alloc _) (fun hHeld => ?_)
      clear hK K
      simp only [Act.put, List.setIfInBounds_toArray, List.set_cons_zero, List.set_cons_succ]
      have HGB : Hid (Blk (x0.alloc (Obj.cells #[.int .i64 0, .int .i64 0] 30)) x0.heap.size 30 #[.int .i64 0, .int .i64 0]) := Lib.hid (Blk.new _ _ _)
      generalize x0.alloc (Obj.cells #[.int .i64 0, .int .i64 0] 30) = xa at *
      generalize x0.heap.size = gN at *
      refine call_at (i := 3) (f := ?_) (args := ?_) rfl (by kernel_rfl) (by rfl) ?_ ?_
      rotate_left 2
      · go_simp
        (try (first | with_reducible rfl | (apply And.intro <;> rfl)))
      refine (within_pos v.c 3 HVC.out.1 HVC.out.2 (by omega) (by omega) _).mono ?_
      rintro e_ _ ⟨rfl, rfl⟩
      refine ⟨_, rfl, hHeld, fun hHeld => ?_⟩
      simp only [Act.put, List.setIfInBounds_toArray, List.set_cons_zero, List.set_cons_succ]
      rw [HC3E.out]
      refine call_at (i := 7) (f := ?_) (args := ?_) rfl (by kernel_rfl) (by rfl) ?_ ?_
      rotate_left 2
      · go_simp
        (try (first | with_reducible rfl | (apply And.intro <;> rfl)))
      refine (within_pos v.s 4 HVS.out.1 HVS.out.2 (by omega) (by omega) _).mono ?_
      rintro e_ _ ⟨rfl, rfl⟩
      refine ⟨_, rfl, hHeld, fun hHeld => ?_⟩
      simp only [Act.put, List.setIfInBounds_toArray, List.set_cons_zero, List.set_cons_succ]
      refine run_at (i := 8) (v := ?_) rfl (by kernel_rfl) (by rfl) (fun _ _ _ h => hpan _ _ _ _ _ h) hHeld (fun w1 hw1 => ?_) ?_
      rotate_left 1
      · skip
        go_simp
        (try (first | with_reducible rfl | (apply And.intro <;> rfl)))
      simp only [Act.put, List.setIfInBounds_toArray, List.set_cons_zero, List.set_cons_succ]
      rw [HS4E.out]
      refine build_at (i := 9) rfl (by kernel_rfl) (by rfl) _ _ rfl _ _ (built_nm _ _) rfl (fun _ _ _ h => hpan _ _ _ _ _ h) hHeld ?_
      simp only [Act.put, List.setIfInBounds_toArray, List.set_cons_zero, List.set_cons_succ]
      refine step_at (i := 11) rfl (by kernel_rfl) (by rfl) (fun K hK => ?_)
      refine wp_store_blk 30 _ _ rfl gN #[.int .i64 C3, .int .i64 S4] rfl rfl 30 _ HGB.out (by kernel_rfl) rfl (by kernel_rfl) ?_
      intro x9 hb9 hf9
      refine hK.out _ _ (hHeld.go hf9 (by have := HGE.out; simpa using this)) (fun hHeld => ?_)
      clear hK K
      simp only [Act.put, List.setIfInBounds_toArray, List.set_cons_zero, List.set_cons_succ]
      refine wpAnyH_done (by kernel_rfl) ?_ _
      go_wp2_with fail
      go_meet
      exact ⟨gN, rfl, Lib.hid hb9, Lib.hid hHeld, HGE⟩
  case rest =>
    obtain ⟨gn, rfl, HBN, HFN, HGN⟩ := hcut
    rename World => wn
    have HGNS : Hid (¬ gn ∈ S ++ Sb) := Lib.hid (fun hm => by have := HSB.out.lt _ hm; have := HGN.out; omega)
    have HGAN : Hid (ga < wn.heap.size) := Lib.hid (by have := HGA.out.1; have := HFN.out.size; omega)
    have hc5' := HFN.out.cell hc5 (by simp)
    have HSB := Lib.hid (HSB.out.keep HFN.out (by simp))
    have HMP := Lib.hid (HMP.out.keep HFN.out (by simp))
    have HFB := Lib.hid (HFB.out.and HFN.out (by simp))
    obtain ⟨p, hp⟩ : ∃ p, p = v.b.take 1 := ⟨_, rfl⟩
    have hp1 : p.length ≤ 1 := by rw [hp]; exact List.length_take_le _ _
    have HP1 := Lib.hid hp1
    have HCUT : Hid (∀ W, Fr (S ++ Sb) wn W → Calls Tryd.prog 24 #[.slice v.A v.m v.p, .int .i64 1] W fun e w' => ∃ A' c', e = .returned (.slice A' p.length c') ∧ NewB W w' A' p.length c' p) := Lib.hid (fun W hW => by
      rw [hp]
      exact cut_any v.A v.m v.p 1 v.b W (HV0.out.b.keep (HFB.out.go hW HSB.out.ge) (by simp)) (Nat.le_trans HV0.out.m HV0.out.p) HV0.out.m (by omega))
    clear hp hc3 hc4 hc5
    obtain ⟨l1, hl1⟩ : ∃ l1, l1 = sgn l (1000 + C3, (made0 C3 S4 hz32 p).text) := ⟨_, rfl⟩
    obtain ⟨Z, hZ⟩ : ∃ Z, Z = made C3 S4 hz32 p l := ⟨_, rfl⟩
    have hs64 : i64In S4 := ⟨by omega, by omega⟩
    have hll := HL.out
    have hll1 : l1.length ≤ l.length + 1 := by rw [hl1]; exact sgn_len1 l _
    have hz : Z.Ok := by rw [hZ]; exact made_ok C3 S4 (by omega) hs64 hz32 p (by omega) l (by omega)
    have hr : rightC x.k l1 Z = true := by rw [hl1, hZ, HXI.out.1]; exact made_right C3 S4 (by omega) hz32 p l 3 (by omega) (by omega) (by omega)
    have HZN : Hid ((Z.c, Z.s) = (C3, S4)) := Lib.hid (by rw [hZ]; rfl)
    have HZ := Lib.hid hz
    have HZL := Lib.hid (Cm.len hz.h)
    have HR := Lib.hid hr
    have HLL1 : Hid (l1.length ≤ 2 * k + 1) := Lib.hid (by omega)
    have HMK : Hid (∀ W A4 c4, By W A4 p.length p → (∀ k ∈ bk A4, k < W.heap.size) → SB w0 W S Sb g gb x l → Fr (S ++ Sb) wn W → Calls Tryd.prog 10 #[.pointer (some ⟨gb, 0, none⟩), .agg #[.int .i64 C3, .int .i64 S4], .agg (hz32.map by8).toArray, .slice A4 p.length c4] W fun e w' => e = .returned (.agg Z.cells.toArray) ∧ SB w0 w' S Sb g gb x l1 ∧ Fr (S ++ Sb) W w') := Lib.hid (fun W A4 c4 hby hbk hW hF => by
      rw [hZ, hl1]
      exact hW.make C3 S4 (by omega) hs64 hz32 rfl A4 p.length c4 p hby hbk (by omega) (kw_fr HK.out HFB.out hF hW.ge) (by omega))
    have HCS := Lib.hid (show (0 ≤ C3 ∧ C3 < 3) ∧ 1 ≤ S4 ∧ S4 ≤ 4 from ⟨hcb, hsb⟩)
    clear hl1 hZ hs64 hll hll1 hz hr hp1 hcb hsb
    go_upto_region 14 with (fail)
    go_cut [14] (fun s1 wx => ∃ gz, s1 = .pointer (some ⟨gz, 0, none⟩) ∧ Hid (Blk wx gz 36 Z.cells.toArray) ∧ Hid (SB w0 wx S Sb g gb x l1) ∧ Hid (Fr (S ++ Sb) wn wx) ∧ Hid (wn.heap.size ≤ gz))
    case first =>
      refine wp_region_held_drew (S := Fr (S ++ Sb) wn) (by kernel_rfl) (Fr.drew (Fr.refl _ wn)) (fun hHeld => ?_)
      have HS0 : Hid (SB w0 wn.drew S Sb g gb x l) := Lib.hid (HSB.out.keep (Fr.drew (Fr.refl [] wn)) (by simp))
      generalize wn.drew = x0 at *
      refine run_at (i := 0) (v := ?_) rfl (by kernel_rfl) (by rfl) (fun _ _ _ h => hpan _ _ _ _ _ h) hHeld (fun w1 hw1 => ?_) ?_
      rotate_left 1
      · skip
        go_simp
        (try (first | with_reducible rfl | (apply And.intro <;> rfl)))
      simp only [Act.put, List.setIfInBounds_toArray, List.set_cons_zero, List.set_cons_succ]
      refine row_at (i := 1) rfl (by kernel_rfl) (by rfl) _ _ rfl _ _ rfl _ (fun w1 hw1 => hw1.range (Blk.range HBN.out) HGNS.out) (row_name) (fun _ _ _ h => hpan _ _ _ _ _ h) hHeld ?_
      simp only [Act.put, List.setIfInBounds_toArray, List.set_cons_zero, List.set_cons_succ]
      refine build_at (i := 2) rfl (by kernel_rfl) (by rfl) _ _ rfl _ _ (built_h0) rfl (fun _ _ _ h => hpan _ _ _ _ _ h) hHeld ?_
      simp only [Act.put, List.setIfInBounds_toArray, List.set_cons_zero, List.set_cons_succ]
      refine run_at (i := 3) (v := ?_) rfl (by kernel_rfl) (by rfl) (fun _ _ _ h => hpan _ _ _ _ _ h) hHeld (fun w1 hw1 => ?_) ?_
      rotate_left 1
      · skip
        go_simp
        (try (first | with_reducible rfl | (apply And.intro <;> rfl)))
      simp only [Act.put, List.setIfInBounds_toArray, List.set_cons_zero, List.set_cons_succ]
      refine run_at (i := 4) (v := ?_) rfl (by kernel_rfl) (by rfl) (fun _ _ _ h => hpan _ _ _ _ _ h) hHeld (fun w1 hw1 => ?_) ?_
      rotate_left 1
      · skip
        have hcw0 := hw1.cell hc5' (fun hm => HGA.out.2.1 _ hm rfl)
        go_simp
        (try (first | with_reducible rfl | (apply And.intro <;> rfl)))
      simp only [Act.put, List.setIfInBounds_toArray, List.set_cons_zero, List.set_cons_succ]
      refine two_at (i := 5) (j := 7) rfl rfl (by kernel_rfl) (by rfl) (by rfl) (fun K hK => ?_) (fun K hK => ?_)
      · skip
        refine wp_call (f := ?_) (args := ?_) ?_ ?_
        rotate_left 2
        · go_simp
          (try (first | with_reducible rfl | (apply And.intro <;> rfl)))
        refine (HCUT.out x0 hHeld).mono ?_
        rintro e_ x1 ⟨A4, c4, rfl, hn4⟩
        have HBY : Hid (By x1 A4 p.length p ∧ ∀ k ∈ bk A4, k < x1.heap.size) := Lib.hid ⟨hn4.by, fun k hk => hn4.lt k hk⟩
        have HSC : Hid (SB w0 x1 S Sb g gb x l) := Lib.hid (HS0.out.keep hn4.2.1 (by simp))
        refine ⟨_, rfl, hK.out _ _ (hHeld.trans hn4.2.1 (by simp)) (fun hHeld => ?_)⟩
        clear hK K hn4
        simp only [Act.put, List.setIfInBounds_toArray, List.set_cons_zero, List.set_cons_succ]
        refine two_at (i := 6) (j := 7) rfl rfl (by kernel_rfl) (by rfl) (by rfl) (fun K hK => ?_) (fun K hK => ?_)
        · skip
          refine wp_call (f := ?_) (args := ?_) ?_ ?_
          rotate_left 2
          · go_simp
            (try (first | with_reducible rfl | (apply And.intro <;> rfl)))
          refine (HMK.out x1 A4 c4 HBY.out.1 HBY.out.2 HSC.out hHeld).mono ?_
          rintro e_ x2w ⟨rfl, hs, hf⟩
          have HSM := Lib.hid hs
          refine ⟨_, rfl, hK.out _ _ (hHeld.trans hf (fun k hk _ => hk)) (fun hHeld => ?_)⟩
          clear hK K hs hf
          simp only [Act.put, List.setIfInBounds_toArray, List.set_cons_zero, List.set_cons_succ]
          refine step_at (i := 7) rfl (by kernel_rfl) (by rfl) (fun K hK => ?_)
          refine wp_run (v := ?_) (w' := ?_) ?_ ?_
          rotate_left 2
          · go_simp
            (try (first | with_reducible rfl | (apply And.intro <;> rfl)))
          have HGE : Hid (wn.heap.size ≤ x2w.heap.size) := Lib.hid hHeld.size
          refine hK.out _ (x2w.alloc (Obj.cells zeroCm 36)) (hHeld.alloc _) (fun hHeld => ?_)
          clear hK K
          simp only [Act.put, List.setIfInBounds_toArray, List.set_cons_zero, List.set_cons_succ]
          have HGB : Hid (Blk (x2w.alloc (Obj.cells zeroCm 36)) x2w.heap.size 36 zeroCm) := Lib.hid (Blk.new _ _ _)
          have HSA : Hid (SB w0 (x2w.alloc (Obj.cells zeroCm 36)) S Sb g gb x l1) := Lib.hid (HSM.out.keep ((Fr.refl [] x2w).alloc _) (by simp))
          have HFA : Hid (Fr [] x2w (x2w.alloc (Obj.cells zeroCm 36))) := Lib.hid ((Fr.refl [] x2w).alloc _)
          have HLTA : Hid (x2w.heap.size ≤ (x2w.alloc (Obj.cells zeroCm 36)).heap.size) := Lib.hid HFA.out.size
          have HGN0 : Hid (¬ x2w.heap.size ∈ S ++ Sb) := Lib.hid (fun hm => by have := HSM.out.lt _ hm; omega)
          generalize x2w.alloc (Obj.cells zeroCm 36) = x3 at *
          generalize x2w.heap.size = gN at *
          refine step_at (i := 8) rfl (by kernel_rfl) (by rfl) (fun K hK => ?_)
          refine wp_store_blk 36 _ _ rfl gN Z.cells.toArray rfl rfl 36 zeroCm HGB.out (by rw [List.size_toArray, HZL.out]; kernel_rfl) ((show zeroCm.size = 37 from rfl).trans (by rw [List.size_toArray, HZL.out])) Z.all ?_
          intro x9 hb9 hf9
          refine hK.out _ _ (hHeld.go hf9 (by have := HGE.out; simpa using this)) (fun hHeld => ?_)
          clear hK K
          simp only [Act.put, List.setIfInBounds_toArray, List.set_cons_zero, List.set_cons_succ]
          have HS9 : Hid (SB w0 x9 S Sb g gb x l1) := Lib.hid (HSA.out.keep hf9 (fun k hk hm => HGN0.out (by simp at hm; subst hm; exact hk)))
          refine wpAnyH_done (by kernel_rfl) ?_ _
          go_wp2_with fail
          go_meet
          exact ⟨gN, rfl, Lib.hid hb9, HS9, Lib.hid hHeld, HGE⟩
        · skip
          refine wp_run (v := ?_) (w' := ?_) ?_ ?_
          rotate_left 2
          · go_simp
            (try (first | with_reducible rfl | (apply And.intro <;> rfl)))
          have HGE : Hid (wn.heap.size ≤ x1.heap.size) := Lib.hid hHeld.size
          refine hK.out _ (x1.alloc (Obj.cells zeroCm 36)) (hHeld.alloc _) (fun hHeld => ?_)
          clear hK K
          simp only [Act.put, List.setIfInBounds_toArray, List.set_cons_zero, List.set_cons_succ]
          have HGB : Hid (Blk (x1.alloc (Obj.cells zeroCm 36)) x1.heap.size 36 zeroCm) := Lib.hid (Blk.new _ _ _)
          have HSA : Hid (SB w0 (x1.alloc (Obj.cells zeroCm 36)) S Sb g gb x l) := Lib.hid (HSC.out.keep ((Fr.refl [] x1).alloc _) (by simp))
          have HFA : Hid (Fr [] x1 (x1.alloc (Obj.cells zeroCm 36))) := Lib.hid ((Fr.refl [] x1).alloc _)
          have HLTA : Hid (x1.heap.size ≤ (x1.alloc (Obj.cells zeroCm 36)).heap.size) := Lib.hid HFA.out.size
          have HGN0 : Hid (¬ x1.heap.size ∈ S ++ Sb) := Lib.hid (fun hm => by have := HSC.out.lt _ hm; omega)
          generalize x1.alloc (Obj.cells zeroCm 36) = x2w at *
          generalize x1.heap.size = gN at *
          refine call_at (i := 6) (f := ?_) (args := ?_) rfl (by kernel_rfl) (by rfl) ?_ ?_
          rotate_left 2
          · go_simp
            (try (first | with_reducible rfl | (apply And.intro <;> rfl)))
          refine (HMK.out x2w A4 c4 (show By x2w A4 p.length p ∧ ∀ k ∈ bk A4, k < x2w.heap.size from ⟨HBY.out.1.keep HFA.out (by simp), fun k hk => Nat.lt_of_lt_of_le (HBY.out.2 k hk) HLTA.out⟩).1 (show By x2w A4 p.length p ∧ ∀ k ∈ bk A4, k < x2w.heap.size from ⟨HBY.out.1.keep HFA.out (by simp), fun k hk => Nat.lt_of_lt_of_le (HBY.out.2 k hk) HLTA.out⟩).2 HSA.out hHeld).mono ?_
          rintro e_ x3 ⟨rfl, hs, hf⟩
          have HSM := Lib.hid hs
          have HGB := Lib.hid (HGB.out.keep hf HGN0.out)
          refine ⟨_, rfl, hHeld.trans hf (fun k hk _ => hk), fun hHeld => ?_⟩
          clear hs hf
          simp only [Act.put, List.setIfInBounds_toArray, List.set_cons_zero, List.set_cons_succ]
          refine step_at (i := 8) rfl (by kernel_rfl) (by rfl) (fun K hK => ?_)
          refine wp_store_blk 36 _ _ rfl gN Z.cells.toArray rfl rfl 36 zeroCm HGB.out (by rw [List.size_toArray, HZL.out]; kernel_rfl) ((show zeroCm.size = 37 from rfl).trans (by rw [List.size_toArray, HZL.out])) Z.all ?_
          intro x9 hb9 hf9
          refine hK.out _ _ (hHeld.go hf9 (by have := HGE.out; simpa using this)) (fun hHeld => ?_)
          clear hK K
          simp only [Act.put, List.setIfInBounds_toArray, List.set_cons_zero, List.set_cons_succ]
          have HS9 : Hid (SB w0 x9 S Sb g gb x l1) := Lib.hid (HSM.out.keep hf9 (fun k hk hm => HGN0.out (by simp at hm; subst hm; exact hk)))
          refine wpAnyH_done (by kernel_rfl) ?_ _
          go_wp2_with fail
          go_meet
          exact ⟨gN, rfl, Lib.hid hb9, HS9, Lib.hid hHeld, HGE⟩
      · skip
        refine wp_run (v := ?_) (w' := ?_) ?_ ?_
        rotate_left 2
        · go_simp
          (try (first | with_reducible rfl | (apply And.intro <;> rfl)))
        have HGE : Hid (wn.heap.size ≤ x0.heap.size) := Lib.hid hHeld.size
        refine hK.out _ (x0.alloc (Obj.cells zeroCm 36)) (hHeld.alloc _) (fun hHeld => ?_)
        clear hK K
        simp only [Act.put, List.setIfInBounds_toArray, List.set_cons_zero, List.set_cons_succ]
        have HGB : Hid (Blk (x0.alloc (Obj.cells zeroCm 36)) x0.heap.size 36 zeroCm) := Lib.hid (Blk.new _ _ _)
        have HSA : Hid (SB w0 (x0.alloc (Obj.cells zeroCm 36)) S Sb g gb x l) := Lib.hid (HS0.out.keep ((Fr.refl [] x0).alloc _) (by simp))
        have HFA : Hid (Fr [] x0 (x0.alloc (Obj.cells zeroCm 36))) := Lib.hid ((Fr.refl [] x0).alloc _)
        have HLTA : Hid (x0.heap.size ≤ (x0.alloc (Obj.cells zeroCm 36)).heap.size) := Lib.hid HFA.out.size
        have HGN0 : Hid (¬ x0.heap.size ∈ S ++ Sb) := Lib.hid (fun hm => by have := HS0.out.lt _ hm; omega)
        generalize x0.alloc (Obj.cells zeroCm 36) = x1 at *
        generalize x0.heap.size = gN at *
        refine call_at (i := 5) (f := ?_) (args := ?_) rfl (by kernel_rfl) (by rfl) ?_ ?_
        rotate_left 2
        · go_simp
          (try (first | with_reducible rfl | (apply And.intro <;> rfl)))
        refine (HCUT.out x1 hHeld).mono ?_
        rintro e_ x2w ⟨A4, c4, rfl, hn4⟩
        have HBY : Hid (By x2w A4 p.length p ∧ ∀ k ∈ bk A4, k < x2w.heap.size) := Lib.hid ⟨hn4.by, fun k hk => hn4.lt k hk⟩
        have HSC : Hid (SB w0 x2w S Sb g gb x l) := Lib.hid (HSA.out.keep hn4.2.1 (by simp))
        have HGB := Lib.hid (HGB.out.keep hn4.2.1 (by simp))
        refine ⟨_, rfl, hHeld.trans hn4.2.1 (by simp), fun hHeld => ?_⟩
        clear hn4
        simp only [Act.put, List.setIfInBounds_toArray, List.set_cons_zero, List.set_cons_succ]
        refine call_at (i := 6) (f := ?_) (args := ?_) rfl (by kernel_rfl) (by rfl) ?_ ?_
        rotate_left 2
        · go_simp
          (try (first | with_reducible rfl | (apply And.intro <;> rfl)))
        refine (HMK.out x2w A4 c4 HBY.out.1 HBY.out.2 HSC.out hHeld).mono ?_
        rintro e_ x3 ⟨rfl, hs, hf⟩
        have HSM := Lib.hid hs
        have HGB := Lib.hid (HGB.out.keep hf HGN0.out)
        refine ⟨_, rfl, hHeld.trans hf (fun k hk _ => hk), fun hHeld => ?_⟩
        clear hs hf
        simp only [Act.put, List.setIfInBounds_toArray, List.set_cons_zero, List.set_cons_succ]
        refine step_at (i := 8) rfl (by kernel_rfl) (by rfl) (fun K hK => ?_)
        refine wp_store_blk 36 _ _ rfl gN Z.cells.toArray rfl rfl 36 zeroCm HGB.out (by rw [List.size_toArray, HZL.out]; kernel_rfl) ((show zeroCm.size = 37 from rfl).trans (by rw [List.size_toArray, HZL.out])) Z.all ?_
        intro x9 hb9 hf9
        refine hK.out _ _ (hHeld.go hf9 (by have := HGE.out; simpa using this)) (fun hHeld => ?_)
        clear hK K
        simp only [Act.put, List.setIfInBounds_toArray, List.set_cons_zero, List.set_cons_succ]
        have HS9 : Hid (SB w0 x9 S Sb g gb x l1) := Lib.hid (HSM.out.keep hf9 (fun k hk hm => HGN0.out (by simp at hm; subst hm; exact hk)))
        refine wpAnyH_done (by kernel_rfl) ?_ _
        go_wp2_with fail
        go_meet
        exact ⟨gN, rfl, Lib.hid hb9, HS9, Lib.hid hHeld, HGE⟩
    case rest =>
      obtain ⟨gz, rfl, HBZ, HSZ, HFZ, HGZ⟩ := hcut
      rename World => wm
      have HGZS : Hid (¬ gz ∈ S ++ Sb) := Lib.hid (fun hm => by have := HSB.out.lt _ hm; have := HGZ.out; omega)
      have HSB := HSZ
      have HMP := Lib.hid (HMP.out.keep HFZ.out (fun hm => HBM.out.2 _ hm rfl))
      have HFW := Lib.hid (HFB.out.go HFZ.out HSZ.out.ge)
      have HBNM := Lib.hid (HBN.out.keep HFZ.out HGNS.out)
      have HBZR := Lib.hid HBZ.out.range
      have HBML := Lib.hid HMP.out.lt
      have hxl := HXI.out.2.2
      have hl1 := HLL1.out
      have HNK : Hid (nok (C3, S4)) := Lib.hid ⟨⟨by have := HCS.out; show _ ≤ C3; omega, by have := HCS.out; show C3 < _; omega⟩, ⟨by have := HCS.out; show _ ≤ S4; omega, by have := HCS.out; show S4 < _; omega⟩⟩
      clear hc5' HBN HSZ
      obtain ⟨Y, E, x2, l2, hst⟩ : ∃ Y E x2 l2, x.stamp l1 Z = (Y, E, x2, l2) := ⟨_, _, _, _, rfl⟩
      have hok := Sst.stamp_ok HSB.out.ok HZ.out (l := l1) (by omega)
      rw [hst] at hok
      have HYH : Hid (Y.h.length = 32) := Lib.hid hok.1.h
      have HST : Hid (∀ W, SB w0 W S Sb g gb x l1 → Calls Tryd.prog 14 #[.pointer (some ⟨g, 0, none⟩), .pointer (some ⟨gb, 0, none⟩), .agg Z.cells.toArray] W fun e w' => e = .returned (.tuple #[.agg Y.cells.toArray, .int .i64 E]) ∧ SB w0 w' S Sb g gb x2 l2 ∧ Fr (S ++ Sb) W w') := Lib.hid (fun W hW => by
        have := hW.stamp (by omega) (by omega) Z HZ.out
        rw [hst] at this
        exact this)
      have HL2 : Hid (l2.length ≤ 2 * (k + 1)) := Lib.hid (by have h : l2.length ≤ l1.length + 1 := hok.2.2.2; omega)
      have HSTE := Lib.hid hst
      have HXOK := Lib.hid HSB.out.ok
      obtain ⟨U, hU⟩ : ∃ U, U = (x.l.lookup (C3, S4)).getD zSt := ⟨_, rfl⟩
      have HUO : Hid U.Ok := Lib.hid (by rw [hU]; exact Sst.of_ok HSB.out.ok _)
      obtain ⟨B, hB⟩ : ∃ B, B = (x.l.lookup (C3, S4)).isSome := ⟨_, rfl⟩
      have HUE := Lib.hid hU
      have HBE := Lib.hid hB
      clear hst hok hU hB hxl hl1
      go_wp2_with (refine wpList_row rfl 36 _ rfl _ _ rfl _ HBZR.out (row_commit.of HZL.out) ?_)
      refine (HST.out _ HSB.out).mono ?_
      rintro e_ x2w ⟨rfl, hs, hf⟩
      have HS2 := Lib.hid hs
      have HM2 := Lib.hid hf
      clear hs hf
      have HGL : Hid (wm.heap.size ≤ x2w.heap.size) := Lib.hid HM2.out.size
      have HGB : Hid (Blk (x2w.alloc (Obj.cells zSt.cells.toArray 47)) x2w.heap.size 47 zSt.cells.toArray) := Lib.hid (Blk.new _ _ _)
      have HSA : Hid (SB w0 (x2w.alloc (Obj.cells zSt.cells.toArray 47)) S Sb g gb x2 l2) := Lib.hid (HS2.out.keep ((Fr.refl [] x2w).alloc _) (by simp))
      have HMA : Hid (Fr (S ++ Sb) wm (x2w.alloc (Obj.cells zSt.cells.toArray 47))) := Lib.hid (HM2.out.alloc _)
      have HGYS : Hid (¬ x2w.heap.size ∈ S ++ Sb) := Lib.hid (fun hm => by have := HS2.out.lt _ hm; omega)
      go_upto_region 16 with (refine wpList_store_blk rfl 47 _ _ rfl x2w.heap.size Y.cells.toArray rfl rfl 47 _ HGB.out (st_size HYH.out) (by rw [List.size_toArray, List.size_toArray, zSt_len, Wst.len HYH.out]) Y.all ?_; intro w9y hb9 hf9)
      have HBy := Lib.hid hb9
      have HSB : Hid (SB w0 w9y S Sb g gb x2 l2) := Lib.hid (HSA.out.keep hf9 (fun k hk hm => HGYS.out (by simp at hm; subst hm; exact hk)))
      have HF9 : Hid (Fr (S ++ Sb) wm w9y) := Lib.hid (HMA.out.go hf9 (by have := HGL.out; simpa using this))
      clear hb9 hf9 HGB HSA HMA HS2 HM2
      generalize x2w.heap.size = gNy at *
      have HF9W := Lib.hid (HFW.out.go HF9.out HSB.out.ge)
      have HMP9 := Lib.hid (HMP.out.keep HF9.out (fun hm => HBM.out.2 _ hm rfl))
      have HBN9 := Lib.hid (HBNM.out.keep HF9.out HGNS.out)
      have HBZ9 := Lib.hid (HBZ.out.keep HF9.out HGZS.out)
      have hlook : (Instr.lookup 70 (.map (some bm)) (.agg #[.int .i64 C3, .int .i64 S4]) true).run Tryd.prog w9y = .ok (.tuple #[.agg U.cells.toArray, .bool B]) w9y := by
        have := HMP9.out.look Tryd.underlying70 zeroMapSt (x := (C3, S4)) HNK.out
        rw [encS_look] at this
        rw [HUE.out, HBE.out]
        rcases hh : x.l.lookup (C3, S4) with _ | o
        · rw [hh] at this; exact this
        · rw [hh] at this; exact this
      have HGBU : Hid (Blk (w9y.alloc (Obj.cells zSt.cells.toArray 47)) w9y.heap.size 47 zSt.cells.toArray) := Lib.hid (Blk.new _ _ _)
      have HFAU : Hid (Fr [] w9y (w9y.alloc (Obj.cells zSt.cells.toArray 47))) := Lib.hid ((Fr.refl [] w9y).alloc _)
      have HGYL : Hid (gNy < w9y.heap.size) := Lib.hid HBy.out.lt
      go_upto_region 17 with (first
        | (refine wpList_row rfl 30 _ rfl _ _ rfl _ (Blk.range HBN9.out) row_name ?_)
        | (refine wpList_store_blk rfl 47 _ _ rfl w9y.heap.size U.cells.toArray rfl rfl 47 _ HGBU.out (st_size HUO.out.h) (by rw [List.size_toArray, List.size_toArray, zSt_len, Wst.len HUO.out.h]) U.all ?_; intro wu hbu hfu))
      have HFU : Hid (Fr [] w9y wu) := Lib.hid (HFAU.out.and hfu (by simp))
      have HBU := Lib.hid hbu
      have HSB := Lib.hid (HSB.out.keep HFU.out (by simp))
      have HMPU := Lib.hid (HMP9.out.keep HFU.out (by simp))
      have HFUW := Lib.hid (HF9W.out.and HFU.out (by simp))
      have HBYU := Lib.hid (HBy.out.keep HFU.out (by simp))
      have HBZU := Lib.hid (HBZ9.out.keep HFU.out (by simp))
      have HBNU := Lib.hid (HBN9.out.keep HFU.out (by simp))
      clear hlook hbu hfu HGBU HFAU HBNM HBZR HMP HMP9 HBN9 HBZ9 HBy HF9 HF9W
      generalize w9y.heap.size = gU at *
      rcases hlk : x.l.lookup (C3, S4) with _ | o
      · by_cases hnx : x.next = 18446744073709551615
        · skip
          have hst := Sst.stamp_end HR.out (by rw [HZN.out]; exact hlk) hnx
          have hall := HSTE.out.symm.trans hst
          simp only [Prod.mk.injEq] at hall
          have hB : B = false := by rw [HBE.out, hlk]; rfl
          have hU : U = zSt := by rw [HUE.out, hlk]; rfl
          subst hB
          obtain ⟨hY, hE, hx2, hl2⟩ := hall
          have HYE := Lib.hid hY
          have HX2 := Lib.hid hx2
          have HEE := Lib.hid hE
          have HLK : Hid ((encS x.l).lookup (C3, S4) = none) := Lib.hid (by rw [encS_look, hlk]; rfl)
          have HNXE := Lib.hid hnx
          clear hnx
          clear hst hY hx2 hl2 hE hlk hU
          obtain rfl := HEE.out
          have hnx := HNXE.out
          have hnd : x2.next = max (max x2.now (x2.fl + 1)) (x2.la + 1) := rfl
          rw [HX2.out, hnx] at hnd
          have HLX : Hid (la = x2.la) := Lib.hid (by rw [HX2.out]; exact HLA.out)
          have hlx := HLX.out
          have hN := snow_any wu S g x2 HSB.out.s
          have hF := sfloor_any wu S g x2 HSB.out.s
          have HN := Lib.hid hN
          have HFQ := Lib.hid hF
          have hx2 := HX2.out
          have hnd2 : 18446744073709551615 = max (max x2.now (x2.fl + 1)) (x2.la + 1) := by rw [hx2]; exact hnd
          clear hN hF hnx hnd hx2
          by_cases hc1 : (x2.now : Int) < 18446744073709551614
          · by_cases hc2 : (x2.fl : Int) < 18446744073709551614
            · have d3 : decide ((la : Int) < 18446744073709551614) = false := decide_eq_false (by omega)
              have d1 : decide ((x2.now : Int) < 18446744073709551614) = true := decide_eq_true hc1
              have d2 : decide ((x2.fl : Int) < 18446744073709551614) = true := decide_eq_true hc2
              clear hnd2 hlx hc1 hc2
              go_wp2_with fail
              refine HN.out.mono ?_
              rintro e_ _ ⟨rfl, rfl⟩
              go_wp2_with fail
              refine HFQ.out.mono ?_
              rintro e_ _ ⟨rfl, rfl⟩
              go_wp2_with fail
              go_meet
              exact RRise.of ⟨x2, l2, la, rfl, Lib.hid (by rw [HX2.out]; exact HLA.out), Lib.hid (by rw [HX2.out]; have := HXI.out; exact ⟨this.1, this.2.1, by omega⟩), HL2, HSB, Lib.hid (by rw [HX2.out]; exact HMPU.out), HFUW⟩
            · have d1 : decide ((x2.now : Int) < 18446744073709551614) = true := decide_eq_true hc1
              have d2 : decide ((x2.fl : Int) < 18446744073709551614) = false := decide_eq_false hc2
              clear hnd2 hlx hc1 hc2
              go_wp2_with fail
              refine HN.out.mono ?_
              rintro e_ _ ⟨rfl, rfl⟩
              go_wp2_with fail
              refine HFQ.out.mono ?_
              rintro e_ _ ⟨rfl, rfl⟩
              go_wp2_with fail
              go_meet
              exact RRise.of ⟨x2, l2, la, rfl, Lib.hid (by rw [HX2.out]; exact HLA.out), Lib.hid (by rw [HX2.out]; have := HXI.out; exact ⟨this.1, this.2.1, by omega⟩), HL2, HSB, Lib.hid (by rw [HX2.out]; exact HMPU.out), HFUW⟩
          · have d1 : decide ((x2.now : Int) < 18446744073709551614) = false := decide_eq_false hc1
            clear hnd2 hlx hc1
            go_wp2_with fail
            refine HN.out.mono ?_
            rintro e_ _ ⟨rfl, rfl⟩
            go_wp2_with fail
            go_meet
            exact RRise.of ⟨x2, l2, la, rfl, Lib.hid (by rw [HX2.out]; exact HLA.out), Lib.hid (by rw [HX2.out]; have := HXI.out; exact ⟨this.1, this.2.1, by omega⟩), HL2, HSB, Lib.hid (by rw [HX2.out]; exact HMPU.out), HFUW⟩
        · skip
          exact absurd (show x.l.lookup (v.c % 3, 1 + v.s % 4) = none ∧ ¬ x.next = 18446744073709551615 from ⟨by rw [HCQ.out.1, HCQ.out.2]; exact hlk, hnx⟩) HCS0.out
      · by_cases hho : o.h = Z.h
        · skip
          have hst := Sst.stamp_old HR.out (o := o) (by rw [HZN.out]; exact hlk)
          have hall := HSTE.out.symm.trans hst
          simp only [Prod.mk.injEq] at hall
          have hB : B = true := by rw [HBE.out, hlk]; rfl
          have hU : U = o := by rw [HUE.out, hlk]; rfl
          subst hB
          obtain ⟨hY, hE, hx2, hl2⟩ := hall
          have HYE := Lib.hid hY
          have HX2 := Lib.hid hx2
          have HEE := Lib.hid hE
          have HLK : Hid ((encS x.l).lookup (C3, S4) = some o.val) := Lib.hid (by rw [encS_look, hlk]; rfl)
          have HYU : Hid (Y = U ∧ E = 0 ∧ U.h = Z.h) := Lib.hid (by rw [hY, hU, hE]; unfold againS againE; rw [if_pos hho, if_pos hho]; exact ⟨rfl, rfl, hho⟩)
          clear hho
          clear hst hY hx2 hl2 hE hlk hU
          have HATU := Lib.hid (Wst.at_of HBU.out.range HUO.out.h)
          have HATZ := Lib.hid (Cm.at_blk HBZU.out HZ.out.h)
          have hq := fun w => eql_hash U.h Z.h HUO.out.h HZ.out.h 9998 w
          rw [decide_eq_true HYU.out.2.2] at hq
          have hqq := fun w => eql_Wst Y U HYH.out HUO.out.h w
          have hzz : Y.eqB U = true := (Wst.eqB_iff Y U).2 HYU.out.1
          rw [hzz] at hqq
          clear hzz
          obtain rfl := HYU.out.2.1
          go_wp2_with (first
            | (refine wpList_row rfl 32 _ rfl _ _ rfl _ HATU.out.hash (row_hash.of (by rw [List.length_map]; exact HUO.out.h)) ?_)
            | (refine wpList_row rfl 32 _ rfl _ _ rfl _ HATZ.out.hash (row_hash.of (by rw [List.length_map]; exact HZ.out.h)) ?_)
            | (refine wpList_row rfl 47 _ rfl _ _ rfl _ HBYU.out.range (row_stamp0.of (Wst.len HYH.out)) ?_)
            | (refine wpList_row rfl 47 _ rfl _ _ rfl _ HBU.out.range (row_stamp0.of (Wst.len HUO.out.h)) ?_))
          go_meet
          exact RRise.of ⟨x2, l2, la, rfl, Lib.hid (by rw [HX2.out]; exact HLA.out), Lib.hid (by rw [HX2.out]; have := HXI.out; exact ⟨this.1, this.2.1, by omega⟩), HL2, HSB, Lib.hid (by rw [HX2.out]; exact HMPU.out), HFUW⟩
        · skip
          have hst := Sst.stamp_old HR.out (o := o) (by rw [HZN.out]; exact hlk)
          have hall := HSTE.out.symm.trans hst
          simp only [Prod.mk.injEq] at hall
          have hB : B = true := by rw [HBE.out, hlk]; rfl
          have hU : U = o := by rw [HUE.out, hlk]; rfl
          subst hB
          obtain ⟨hY, hE, hx2, hl2⟩ := hall
          have HYE := Lib.hid hY
          have HX2 := Lib.hid hx2
          have HEE := Lib.hid hE
          have HLK : Hid ((encS x.l).lookup (C3, S4) = some o.val) := Lib.hid (by rw [encS_look, hlk]; rfl)
          have HYU : Hid (E = 5 ∧ ¬ U.h = Z.h) := Lib.hid (by rw [hU, hE]; unfold againE; rw [if_neg hho]; exact ⟨rfl, hho⟩)
          clear hho
          clear hst hY hx2 hl2 hE hlk hU
          have HATU := Lib.hid (Wst.at_of HBU.out.range HUO.out.h)
          have HATZ := Lib.hid (Cm.at_blk HBZU.out HZ.out.h)
          have hq := fun w => eql_hash U.h Z.h HUO.out.h HZ.out.h 9998 w
          rw [decide_eq_false HYU.out.2] at hq
          obtain rfl := HYU.out.1
          go_wp2_with (first
            | (refine wpList_row rfl 32 _ rfl _ _ rfl _ HATU.out.hash (row_hash.of (by rw [List.length_map]; exact HUO.out.h)) ?_)
            | (refine wpList_row rfl 32 _ rfl _ _ rfl _ HATZ.out.hash (row_hash.of (by rw [List.length_map]; exact HZ.out.h)) ?_))
          go_meet
          exact RRise.of ⟨x2, l2, la, rfl, Lib.hid (by rw [HX2.out]; exact HLA.out), Lib.hid (by rw [HX2.out]; have := HXI.out; exact ⟨this.1, this.2.1, by omega⟩), HL2, HSB, Lib.hid (by rw [HX2.out]; exact HMPU.out), HFUW⟩
end Go.Proofs.YtacandocjjpfcaaDoor
