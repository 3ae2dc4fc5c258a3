/- gavellaw09.StampRises: one round: Tick, Raise. (written by gen_strs4.py) -/
import Derived.Test.YtacandocjjpfcaaDoorStrbM
namespace Go.Proofs.YtacandocjjpfcaaDoor
set_option maxRecDepth 100000
open Go.RowKit
set_option maxHeartbeats 40000000 in
theorem rounds_A (J K' : Act → World → Prop) (Q' : Exit → Act → World → Prop) (w0 : World) (n c : Nat) (HK : Hid (KW w0)) (S Sb : List Nat) (g gb bm : Nat) (HBM : Hid (w0.heap.size ≤ bm ∧ ∀ k ∈ S ++ Sb, ¬ k = bm)) (wr : World)
    (u2 u10 u11 u12 u13 u14 u15 u16 u17 u18 u37 u38 u39 u40 u41 u42 u43 u44 u45 u46 u47 u48 u49 u50 u51 u52 u53 u54 u55 u56 u57 u58 u59 u60 u61 u62 u63 u64 u65 u66 u67 u68 u69 u70 u71 u72 u73 u74 u75 u76 u77 u78 u79 u80 u81 u82 u83 u84 u85 u86 u87 u88 u89 u90 u91 u92 u93 u94 u95 u96 u97 u98 u99 u100 u101 u102 u103 u104 u105 u106 u107 u108 u109 u110 u111 u112 u113 u114 u115 u116 u117 u118 u119 u120 u121 u122 u123 u124 u125 u126 u127 u128 u129 u130 u131 u132 u133 u134 u135 u136 u137 u138 u139 u140 u141 u142 u143 u144 u145 u146 u147 u148 u149 u150 u151 u152 u153 u154 u155 u156 u157 u158 u159 u160 u161 u162 u163 u164 u165 u166 u167 u168 u169 u170 u171 u172 u173 u174 u175 u176 u177 u178 u179 u180 u181 u182 u183 u184 u185 u186 u187 u188 u189 u190 : Value) (k : Nat) (x : Sst) (l : List Ent) (la : Nat) (hk25 : k ≤ 25) (HLA : Hid (la = x.la)) (HXI : Hid (x.k = 3 ∧ x.r = 2 ∧ x.l.length ≤ k)) (HL : Hid (l.length ≤ 2 * k)) (HSB : Hid (SB w0 wr S Sb g gb x l)) (HMP : Hid (MapAt nameKey wr bm (encS x.l))) (HF : Hid (Fr [] w0 wr))
    (hkn : k < n) (hk6' : k < 25) (ad : Addr) (v : Act9) (HV : Hid (v.Ok wr)) (HV0 : Hid (v.Ok w0)) (HCE : Hid (∀ j u, v.cells[j]? = some u → wr.cell? ((ad.add (k * 6)).add j) = some u)) (hkn' : (k : Int) < n) (hk60 : (k : Int) < 25) (hk0 : (0 : Int) ≤ k)
    (hmeet : ∀ (a' : Act) (w' : World), (∃ u2 u7 u10 u11 u12 u13 u14 u15 u16 u17 u18 u37 u38 u39 u40 u41 u42 u43 u44 u45 u46 u47 u48 u49 u50 u51 u52 u53 u54 u55 u56 u57 u58 u59 u60 u61 u62 u63 u64 u65 u66 u67 u68 u69 u70 u71 u72 u73 u74 u75 u76 u77 u78 u79 u80 u81 u82 u83 u84 u85 u86 u87 u88 u89 u90 u91 u92 u93 u94 u95 u96 u97 u98 u99 u100 u101 u102 u103 u104 u105 u106 u107 u108 u109 u110 u111 u112 u113 u114 u115 u116 u117 u118 u119 u120 u121 u122 u123 u124 u125 u126 u127 u128 u129 u130 u131 u132 u133 u134 u135 u136 u137 u138 u139 u140 u141 u142 u143 u144 u145 u146 u147 u148 u149 u150 u151 u152 u153 u154 u155 u156 u157 u158 u159 u160 u161 u162 u163 u164 u165 u166 u167 u168 u169 u170 u171 u172 u173 u174 u175 u176 u177 u178 u179 u180 u181 u182 u183 u184 u185 u186 u187 u188 u189 u190, RRise w0 S Sb g gb bm k u7 w' ∧ a' = { tmps := #[Value.slice (some ad) n c, undef, u2, Value.pointer (some { block := w0.heap.size, off := 0 }), Value.pointer (some { block := gb, off := 0 }), Value.pointer (some { block := g, off := 0 }), Value.int IntKind.i64 0, u7, Value.map (some bm), Value.int IntKind.i64 (k : Int), u10, u11, u12, u13, u14, u15, u16, u17, u18, Value.agg #[Value.int IntKind.i64 1, Value.int IntKind.i64 3], Value.pointer (some { block := gb, off := 0 }), Value.tuple #[Value.pointer (some { block := g, off := 0 }), Value.int IntKind.i64 0], Value.agg #[Value.int IntKind.i64 1, Value.int IntKind.i64 3], Value.tuple #[Value.pointer (some { block := g, off := 0 }), Value.int IntKind.i64 0], Value.pointer (some { block := g, off := 0 }), Value.int IntKind.i64 0, Value.pointer (some { block := gb, off := 0 }), Value.bool false, Value.bool false, Value.int IntKind.i64 0, Value.bool false, Value.bool false, Value.bool false, Value.pointer (some { block := g, off := 0 }), Value.bool false, Value.bool false, Value.map (some bm), u37, u38, u39, u40, u41, u42, u43, u44, u45, u46, u47, u48, u49, u50, u51, u52, u53, u54, u55, u56, u57, u58, u59, u60, u61, u62, u63, u64, u65, u66, u67, u68, u69, u70, u71, u72, u73, u74, u75, u76, u77, u78, u79, u80, u81, u82, u83, u84, u85, u86, u87, u88, u89, u90, u91, u92, u93, u94, u95, u96, u97, u98, u99, u100, u101, u102, u103, u104, u105, u106, u107, u108, u109, u110, u111, u112, u113, u114, u115, u116, u117, u118, u119, u120, u121, u122, u123, u124, u125, u126, u127, u128, u129, u130, u131, u132, u133, u134, u135, u136, u137, u138, u139, u140, u141, u142, u143, u144, u145, u146, u147, u148, u149, u150, u151, u152, u153, u154, u155, u156, u157, u158, u159, u160, u161, u162, u163, u164, u165, u166, u167, u168, u169, u170, u171, u172, u173, u174, u175, u176, u177, u178, u179, u180, u181, u182, u183, u184, u185, u186, u187, u188, u189, u190, undef, undef, undef, undef, undef, undef, undef, undef], defers := [] }) → J a' w') (hmet : ∀ (a' : Act) (w' : World), Met J a' w' → K' a' w') (hpan : ∀ c (a : Act) (o : Oper) (u : Value) (w : World), Q' (.panic c) (a.put o.dst u) w → Q' (.panic c) a w)
    (hway : v.d % 6 = 3 ∨ v.d % 6 = 4 ∨ v.d % 6 = 5) :
    Code.wp Tryd.prog (cFst (cSnd (cInn (cInn (cSnd (cFst (cSnd (cSnd (cSnd (cSnd (cSnd (cSnd (cSnd (cBody Tryd.f6)))))))))))))) (Exit.then K' Q') { tmps := #[Value.slice (some ad) n c, undef, u2, Value.pointer (some { block := w0.heap.size, off := 0 }), Value.pointer (some { block := gb, off := 0 }), Value.pointer (some { block := g, off := 0 }), Value.int IntKind.i64 0, Value.int IntKind.u64 (la : Int), Value.map (some bm), Value.int IntKind.i64 (k : Int), u10, u11, u12, u13, u14, u15, u16, u17, u18, Value.agg #[Value.int IntKind.i64 1, Value.int IntKind.i64 3], Value.pointer (some { block := gb, off := 0 }), Value.tuple #[Value.pointer (some { block := g, off := 0 }), Value.int IntKind.i64 0], Value.agg #[Value.int IntKind.i64 1, Value.int IntKind.i64 3], Value.tuple #[Value.pointer (some { block := g, off := 0 }), Value.int IntKind.i64 0], Value.pointer (some { block := g, off := 0 }), Value.int IntKind.i64 0, Value.pointer (some { block := gb, off := 0 }), Value.bool false, Value.bool false, Value.int IntKind.i64 0, Value.bool false, Value.bool false, Value.bool false, Value.pointer (some { block := g, off := 0 }), Value.bool false, Value.bool false, Value.map (some bm), Value.int IntKind.i64 (k : Int), Value.slice (some ad) n c, Value.int IntKind.i64 (n : Int), Value.bool true, Value.bool true, Value.int IntKind.i64 (k : Int), Value.bool true, Value.bool true, u45, u46, u47, u48, u49, u50, u51, u52, u53, u54, u55, u56, u57, u58, u59, u60, u61, u62, u63, u64, u65, u66, u67, u68, u69, u70, u71, u72, u73, u74, u75, u76, u77, u78, u79, u80, u81, u82, u83, u84, u85, u86, u87, u88, u89, u90, u91, u92, u93, u94, u95, u96, u97, u98, u99, u100, u101, u102, u103, u104, u105, u106, u107, u108, u109, u110, u111, u112, u113, u114, u115, u116, u117, u118, u119, u120, u121, u122, u123, u124, u125, u126, u127, u128, u129, u130, u131, u132, u133, u134, u135, u136, u137, u138, u139, u140, u141, u142, u143, u144, u145, u146, u147, u148, u149, u150, u151, u152, u153, u154, u155, u156, u157, u158, u159, u160, u161, u162, u163, u164, u165, u166, u167, u168, u169, u170, u171, u172, u173, u174, u175, u176, u177, u178, u179, u180, u181, u182, u183, u184, u185, u186, u187, u188, u189, u190, undef, undef, undef, undef, undef, undef, undef, undef], defers := [] } wr := by
  simp only [cBody, cFst, cSnd, cInn, Tryd.f6]
  let QBODY : Exit → Act → World → Prop := bodyPost Tryd.prog Tryd.f6 (fun _ _ => True)
  go_upto_region 12 with (first
    | (refine wpList_load_cells rfl 72 _ rfl (ad.add (k * 6)) rfl v.cells _ (fun j x hx => HCE.out j x hx) Tryd.underlying72 rfl (by rw [act9_size]; rfl) ?_)
    | (refine wpList_store_box rfl 72 _ _ rfl _ 72 v.cells rfl rfl (by rw [act9_size]; rfl) rfl v.one ?_
       intro wb hblk hfb))
  obtain ⟨hc0, -, hc2, hc3, hc4, hc5⟩ := Act9.in_blk hblk
  have HGA : Hid (wr.heap.size < wb.heap.size ∧ (∀ k ∈ S ++ Sb, ¬ k = wr.heap.size) ∧ ¬ bm = wr.heap.size) := Lib.hid ⟨hblk.lt, fun k hk hm => by have h1 := HSB.out.lt k hk; omega, fun hm => by have := HMP.out.lt; omega⟩
  have HSB := Lib.hid (HSB.out.keep hfb (by simp))
  have HMP := Lib.hid (HMP.out.keep hfb (by simp))
  have HFB := Lib.hid (HF.out.and hfb (by simp))
  have HVB := Lib.hid (HV.out.keep hfb (by simp))
  have HBA := Lib.hid hblk
  have HFR := Lib.hid hfb
  clear hblk hfb HV HCE
  generalize wr.heap.size = ga at *
  have hT := HVB.out.t
  obtain ⟨D, hD⟩ : ∃ D, D = v.d % 6 := ⟨_, rfl⟩
  have hD0 : 0 ≤ D ∧ D < 6 := by rw [hD]; exact ⟨Int.emod_nonneg _ (by omega), Int.emod_lt_of_pos _ (by omega)⟩
  have HVD := Lib.hid HVB.out.d
  have HVC := Lib.hid HVB.out.c
  have HVS := Lib.hid HVB.out.s
  go_wp2_with fail
  refine (within_pos v.d 6 HVD.out.1 HVD.out.2 (by omega) (by omega) _).mono ?_
  rintro e_ _ ⟨rfl, rfl⟩
  rw [← hD]
  have HWY : Hid (D = 3 ∨ D = 4 ∨ D = 5) := Lib.hid (by rw [hD]; exact hway)
  clear hD hway
  by_cases hD34 : D = 3 ∨ D = 4
  · have e5 : True := trivial
    rcases hD34 with rfl | rfl
    all_goals
      clear hc0 hc3 hc4 hc5
      go_wp2_with fail
      refine (HSB.out.tick v.t hT).mono ?_
      rintro e_ wx ⟨rfl, hs, hf⟩
      have HSX := Lib.hid hs
      have HFX := Lib.hid hf
      clear hs hf
      go_wp2_with fail
      go_meet
      exact RRise.of ⟨x.tick v.t, l, la, rfl, HLA, Lib.hid ⟨HXI.out.1, HXI.out.2.1, by have := HXI.out.2.2; show x.l.length ≤ _; omega⟩, Lib.hid (by have := HL.out; omega), HSX, Lib.hid (HMP.out.keep HFX.out (fun hm => HBM.out.2 _ hm rfl)), Lib.hid (HFB.out.go HFX.out HSX.out.ge)⟩
  by_cases hD5 : D = 5
  · subst hD5
    clear hc0 hc3 hc4 hc5
    go_wp2_with fail
    refine (sfloor_any wb S g x HSB.out.s).mono ?_
    rintro e_ _ ⟨rfl, rfl⟩
    go_wp2_with fail
    refine (HSB.out.raise v.t hT).mono ?_
    rintro e_ wx ⟨rfl, hs, hf⟩
    have HSX := Lib.hid hs
    have HFX := Lib.hid hf
    have hcx := hf.cell hc2 (fun hm => HGA.out.2.1 _ hm rfl)
    clear hs hf hc2
    have hrf := raise_fl x v.t
    have cfl : decide ((x.raise v.t).fl < x.fl) = false := decide_eq_false (by omega)
    have HRF := Lib.hid hrf
    have HFL := Lib.hid (sfloor_any wx S g (x.raise v.t) HSX.out.s)
    clear hrf
    by_cases hTN : v.t = 18446744073709551615
    · have hE : raiseE v.t = 4 := by rw [hTN]; rfl
      rw [hE]
      have hq1 : ((v.t : Int) == 18446744073709551615) = true := by rw [hTN]; rfl
      have hq2 : ((v.t : Int) != 18446744073709551615) = false := by rw [hTN]; rfl
      clear hE hTN
      go_wp2_with fail
      refine HFL.out.mono ?_
      rintro e_ _ ⟨rfl, rfl⟩
      go_wp2_with fail
      go_meet
      exact RRise.of ⟨x.raise v.t, l, la, rfl, Lib.hid (by rw [HRF.out.2.1]; exact HLA.out), Lib.hid ⟨by rw [HRF.out.2.2.1]; exact HXI.out.1, by rw [HRF.out.2.2.2.1]; exact HXI.out.2.1, by rw [HRF.out.1]; have := HXI.out.2.2; omega⟩, Lib.hid (by have := HL.out; omega), HSX, Lib.hid (by rw [HRF.out.1]; exact HMP.out.keep HFX.out (fun hm => HBM.out.2 _ hm rfl)), Lib.hid (HFB.out.go HFX.out HSX.out.ge)⟩
    · have hE : raiseE v.t = 0 := by unfold raiseE; rw [if_neg hTN]
      rw [hE]
      have hq1 : ((v.t : Int) == 18446744073709551615) = false := by simp; omega
      have hq2 : ((v.t : Int) != 18446744073709551615) = true := by simp; omega
      clear hE hTN
      go_wp2_with fail
      refine HFL.out.mono ?_
      rintro e_ _ ⟨rfl, rfl⟩
      go_wp2_with fail
      go_meet
      exact RRise.of ⟨x.raise v.t, l, la, rfl, Lib.hid (by rw [HRF.out.2.1]; exact HLA.out), Lib.hid ⟨by rw [HRF.out.2.2.1]; exact HXI.out.1, by rw [HRF.out.2.2.2.1]; exact HXI.out.2.1, by rw [HRF.out.1]; have := HXI.out.2.2; omega⟩, Lib.hid (by have := HL.out; omega), HSX, Lib.hid (by rw [HRF.out.1]; exact HMP.out.keep HFX.out (fun hm => HBM.out.2 _ hm rfl)), Lib.hid (HFB.out.go HFX.out HSX.out.ge)⟩
  have := HWY.out
  omega
end Go.Proofs.YtacandocjjpfcaaDoor
