/- Texts that the proof stands on: Package part: copyList, CopyPromise, CopyBatch, CopyProposal, CopyDecided. (written by gen_mcp.py) | Package part: CopyBatch, CopyProposal, CopyDecided. (written by gen_mcp.py) | msgs.Only, of every kind. (written by gen_mon.py) | What a message's kind names is all that its bytes hang on. -/
import Derived.Test.YtnpjihdhpoddgaaGreatKN5
set_option linter.unusedSimpArgs false
set_option linter.unusedVariables false
set_option maxRecDepth 100000

namespace Go.Proofs.YtnpjihdhpoddgaaGreat
open Go.RowKit
set_option maxRecDepth 100000
theorem el_promiseC : ElTy Tryz.prog 40 6 64 := ElTy.of (by kernel_rfl)

set_option maxHeartbeats 4000000 in
theorem copyCerts_any (hf : Copies 26 Wce.cells (fun w S v => v.Ok w S) Wce.con) (A : Option Addr) (n c : Nat) (l : List Wce) (w : World) (hl : Lst 38 Wce.cells (fun w v => v.Ok w []) w A n l) (hn : n ≤ 100) :
    Calls Tryz.prog 79 #[.slice A n c, fnV 26] w fun e w' => ∃ (A' : Option Addr) (c' : Nat) (ys : List Wce), e = .returned (.slice A' n c') ∧ GotL 35 38 Wce.cells (fun w S v => v.Ok w S) Wce.con w w' A' n c' ys (l.map Wce.con) ∧ Fr [] w w' := by
  have HL := Lib.hid hl
  have HCP := Lib.hid hf
  have HN := Lib.hid hn
  have hn1 : n ≤ 100 := hn
  clear hl hf hn
  unfold fnV
  go_enter Tryz.func79, Tryz.ntmps79
  go_wp2_with fail
  go_loopw [5, 10] (fun sl i wr => ∃ (k : Nat) (A4 : Option Addr) (c4 : Nat) (ys : List Wce), k ≤ n ∧ i = .int .i64 k ∧ sl = .slice A4 k c4 ∧ ys.length = k ∧ Hid (ys.map Wce.con = (l.take k).map Wce.con) ∧ Hid (wr.ownsRow 0 35 38 (.slice A4 k c4) k (ys.flatMap Wce.cells)) ∧ Hid (∀ q ∈ bk A4, w.heap.size ≤ q) ∧ Hid (∀ y ∈ ys, ∀ S0 : List Nat, (∀ q ∈ S0, q < w.heap.size ∨ q ∈ bk A4) → y.Ok wr S0) ∧ Hid (Fr [] w wr)) (fun _ i _ => n - (intOf i).toNat)
  case atStart => exact ⟨0, none, 0, [], by omega, rfl, rfl, rfl, Lib.hid rfl, Lib.hid ⟨by simp, .inl ⟨rfl, rfl⟩⟩, Lib.hid (by simp [bk]), Lib.hid (by simp), Lib.hid (Fr.refl _ _)⟩
  case round =>
    obtain ⟨k, A4, c4, ys, hk, rfl, rfl, hyl, HCN, HO, HNA, HYS, HF⟩ := hrel
    by_cases hlt : k < n
    · have HKN : Hid (k < n) := Lib.hid hlt
      have hk0 : (0 : Int) ≤ k := by omega
      obtain ⟨ad, v, hA, hv, hcl, hok, hcells⟩ := HL.out.at (i := k) hlt
      subst hA
      have HV := Lib.hid hv
      obtain ⟨CV, hCV⟩ : ∃ CV, Wce.cells v = CV := ⟨_, rfl⟩
      rw [hCV] at hcells hcl
      have HCELLS : Hid (∀ j u, CV[j]? = some u → wr.cell? ((ad.add (k * 38)).add j) = some u) := Lib.hid (fun j u hj => HF.out.cell (hcells j u hj) (by simp))
      have HCLN := Lib.hid hcl
      have HIN : Hid (v.Ok wr []) := Lib.hid (hok.keep HF.out (by simp))
      have HCV := Lib.hid hCV
      have HSZ0 : Hid ((Tryz.prog.info? 35).map (·.size) = some CV.toArray.size) := Lib.hid (by rw [List.size_toArray, HCLN.out]; kernel_rfl)
      have HCS : Hid (CV.toArray.size = 38) := Lib.hid (by rw [List.size_toArray]; exact HCLN.out)
      have HONE : Hid (CV.toArray.all (·.oneCell') = true) := Lib.hid (by rw [← hCV]; exact all_oneCell_toArray (Wce.one v))
      clear hcells hcl hok hv hCV
      go_wp2_with (first
        | (refine wpList_cells rfl 35 _ rfl _ rfl CV HCELLS.out (row_crt.of HCLN.out) ?_)
        | (refine wpList_store_blk rfl 35 _ _ rfl wr.heap.size CV.toArray rfl rfl 35 _ (Blk.new wr _ _) HSZ0.out (by rw [HCS.out]; rfl) HONE.out ?_; intro w2 hb2 hf2)
        | (refine wpList_load_mid rfl 35 _ rfl wr.heap.size 0 rfl CV _ hb2.range Tryz.underlying35 rfl (row_crt.of HCLN.out).2 ?_))
      have HF2 : Hid (Fr [] wr w2) := Lib.hid (((Fr.refl [] wr).alloc _).go hf2 (by simp))
      clear hb2 hf2
      have hcc := HCP.out v w2 (HIN.out.keep HF2.out (by simp))
      rw [HCV.out] at hcc
      refine hcc.mono ?_
      rintro e_ w4 ⟨y, rfl, hyc, hyok, hf4⟩
      clear hcc
      have HYC := Lib.hid hyc
      have HF4 : Hid (Fr [] wr w4) := Lib.hid (HF2.out.and hf4 (by simp))
      have HNW : Hid (∀ S0 : List Nat, (∀ q ∈ S0, q < w.heap.size ∨ q ∈ bk A4) → y.Ok w4 S0) := Lib.hid (fun S0 h0 => hyok S0 (fun q hq => by
        have h1 := HF.out.size
        have h2 := HF2.out.size
        rcases h0 q hq with h | h
        · omega
        · have h3 := own_lt HO.out q ((bk_mem A4 k c4 q).2 h); omega))
      have hD : (Wce.cells y).length = 38 := Wce.len (hyok [] (by simp)).k.h
      have hD1 := Wce.one y
      have HO4 := Lib.hid (own_keep HO.out HF4.out (by simp))
      obtain ⟨D, hDY⟩ : ∃ D, D = Wce.cells y := ⟨_, rfl⟩
      rw [← hDY] at hD hD1 ⊢
      have HD := Lib.hid hD
      have HD1 := Lib.hid hD1
      have HDY := Lib.hid hDY
      clear hyc hyok hf4 hD hD1 hDY hlt
      go_wp2_with (first | (refine wpList_build_one rfl 38 35 _ rfl Tryz.underlying38 D 96 (by rw [HD.out]; exact el_cert) rfl (by rw [HD.out]; decide) (by rw [HD.out]; decide) ?_) | (at_builtin; refine Stop.mk ?_))
      refine Stop.go ?_
      refine wpList_append_one2 rfl _ _ 38 35 rfl Tryz.underlying38 38 96 el_cert (by decide) 0 (.slice A4 k c4) k _ D rfl (HO4.out.alloc _) (Nat.zero_le _) HD.out HD1.out w4.heap.size 35 rfl (Blk.new _ _ _) (by have := HN.out; omega) (by decide) ?_
      intro A9 c9 w9 ho9 hf9 hb9
      have HO9 := Lib.hid ho9
      have HF9 : Hid (Fr (bk A4) w4 w9) := Lib.hid (by
        have h : Fr (bk A4) (w4.alloc (Obj.cells D.toArray 35)) w9 := by rw [← bk_own A4 k c4]; exact hf9
        exact (((Fr.refl [] w4).alloc _).mono (by simp)).trans h (fun y hy _ => hy))
      have HB9 : Hid (∀ q ∈ bk A9, q ∈ bk A4 ∨ w4.heap.size ≤ q) := Lib.hid (by
        intro q hq
        rw [← bk_own A9 (k + 1) c9] at hq
        rcases hb9 with h | h
        · rw [h, bk_own] at hq; exact .inl hq
        · rw [h] at hq; simp at hq; exact .inr (by omega))
      clear ho9 hf9 hb9
      go_wp2
      go_roundw
      case rel =>
        have hbl : ∀ q ∈ bk A4, w.heap.size ≤ q := HNA.out
        refine ⟨k + 1, A9, c9, ys ++ [y], by have := HKN.out; omega, by go_num, rfl, by simp [hyl], ?_, ?_, ?_, ?_, ?_⟩
        · exact Lib.hid (by rw [List.map_append, HCN.out, List.take_add_one, HV.out]; simp [HYC.out])
        · refine Lib.hid ?_
          rw [List.flatMap_append, List.flatMap_singleton, ← HDY.out]
          exact HO9.out
        · refine Lib.hid (fun q hq => ?_)
          rcases HB9.out q hq with h | h
          · exact hbl q h
          · have h1 := HF.out.size; have h2 := HF4.out.size; omega
        · refine Lib.hid (fun u hu S0 h0 => ?_)
          have hfr : Fr (bk A4) wr w9 := (HF4.out.mono (T := bk A4) (by simp)).trans HF9.out (fun q hq _ => hq)
          have hsz := HF4.out.size
          rcases List.mem_append.1 hu with hu | hu
          · refine keepAll (ok := fun w S v => Wce.Ok w S v) (fun h f s => h.keep f s) (w := wr) (B4 := bk A4) (B9 := bk A9) hfr (fun q hq => ?_) (fun S1 h1 => HYS.out u hu S1 h1) S0 h0
            exact (HB9.out q hq).imp id (fun h => by omega)
          · rw [List.mem_singleton.1 hu]
            exact keepAll (ok := fun w S v => Wce.Ok w S v) (fun h f s => h.keep f s) (w := w4) (B4 := bk A4) (B9 := bk A9) HF9.out (fun q hq => HB9.out q hq) HNW.out S0 h0
        · exact Lib.hid ((HF.out.and HF4.out (by simp)).and HF9.out (fun q hq => hbl q hq))
      case measure => have := HKN.out; simp [intOf]; omega
    · have hkn : n = k := by omega
      subst hkn
      have HFIN : Hid (GotL 35 38 Wce.cells (fun w S v => v.Ok w S) Wce.con w wr A4 n c4 ys (l.map Wce.con)) := Lib.hid (by
        have e := HCN.out
        rw [List.take_of_length_le (by rw [HL.out.1]; exact Nat.le_refl _)] at e
        exact ⟨HO.out, hyl, e, HN.out, HNA.out, fun v hv S0 h0 => HYS.out v hv S0 (fun q hq => .inl (h0 q hq))⟩)
      clear hlt hk
      go_wp2
      go_ret
      exact ⟨A4, c4, ys, rfl, HFIN.out, HF.out⟩

def copyPromise_anyZ : Array Value := ((⟨0, 0, 0, none, 0, 0, [], 0, 0⟩ : Wpr)).cells.toArray
set_option maxHeartbeats 2000000 in
theorem copyPromise_any : Copies 27 Wpr.cells (fun w S v => v.Ok w S) Wpr.con := by
  intro x w hx
  obtain ⟨C, hC⟩ : ∃ C, x.cells = C := ⟨_, rfl⟩
  rw [hC]
  have hcl : C.length = 6 := by rw [← hC]; exact rfl
  obtain ⟨wa, hwa⟩ : ∃ wa, wa = (w.alloc (Obj.cells C.toArray 40)).alloc (Obj.cells copyPromise_anyZ 40) := ⟨_, rfl⟩
  have hf0 : Fr [] w wa := by rw [hwa]; exact ((Fr.refl [] w).alloc _).alloc _
  have hb0 : Blk wa w.heap.size 40 C.toArray := by rw [hwa]; exact blk_alloc (Blk.new _ _ _)
  have hb1 : Blk wa (w.heap.size + 1) 40 copyPromise_anyZ := by
    have := Blk.new (w.alloc (Obj.cells C.toArray 40)) 40 copyPromise_anyZ
    rw [hwa]
    simpa using this
  have hc1 : wa.cell? ⟨w.heap.size, 3, none⟩ = some (.slice x.A x.n x.d) := by
    have h := hb0.range (cs := C) 3 (.slice x.A x.n x.d) (by rw [← hC]; rfl)
    simpa using h
  have HX := Lib.hid hx
  have HC := Lib.hid hC
  have HCL := Lib.hid hcl
  have HB0 := Lib.hid hb0
  have HB1 := Lib.hid hb1
  have HF0 := Lib.hid hf0
  have HWA := Lib.hid hwa
  have HS2 : Hid (wa.heap.size = w.heap.size + 2) := Lib.hid (by rw [hwa]; simp)
  have HSV : Hid ((Tryz.prog.info? 38).map (·.size) = some 1) := Lib.hid (by kernel_rfl)
  clear hx hC hcl hb0 hb1 hf0 hwa
  go_enter Tryz.func27, Tryz.ntmps27
  go_upto_region 1 with (fail)
  change Code.wp _ _ _ _ ((w.alloc (Obj.cells C.toArray 40)).alloc (Obj.cells copyPromise_anyZ 40))
  rw [← HWA.out]
  go_wp2_with fail
  refine (copyCerts_any copyCert_any x.A x.n x.d x.l wa (HX.out.l.keep' HF0.out (by simp) (fun _ _ h => Wce.Ok.keep (S' := []) h HF0.out (by simp))) (by have := HX.out.n; omega)).mono ?_
  rintro e_ w1 ⟨A1, c1, ys, rfl, hgl, hf1⟩
  obtain ⟨n1, hn1⟩ : ∃ n1, n1 = x.n := ⟨_, rfl⟩
  rw [← hn1] at hgl ⊢
  have HNE := Lib.hid hn1
  have HGL := Lib.hid hgl
  have HF1 : Hid (Fr [] wa w1) := Lib.hid hf1
  have HN1 : Hid (∀ k ∈ bk A1, wa.heap.size ≤ k) := Lib.hid hgl.new
  clear hgl hf1 hn1
  have HB0 := Lib.hid (HB0.out.keep HF1.out (by simp))
  have HB1 := Lib.hid (HB1.out.keep HF1.out (by simp))
  clear hc1
  have HCE : Hid (C.set 3 (.slice A1 n1 c1) = (⟨x.r, x.e, x.t, A1, n1, c1, ys, x.b, x.m⟩ : Wpr).cells) := Lib.hid (by rw [← HC.out]; rfl)
  have hb2 : Blk (w1.setCells w.heap.size 3 [.slice A1 n1 c1]) w.heap.size 40 (⟨x.r, x.e, x.t, A1, n1, c1, ys, x.b, x.m⟩ : Wpr).cells.toArray := by
    have h := HB0.out.set 3 (.slice A1 n1 c1)
    rw [← HCE.out]
    simpa [World.setCells] using h
  have hfs : Fr [w.heap.size] w1 (w1.setCells w.heap.size 3 [.slice A1 n1 c1]) := Fr.setCells (fun _ => by simp) _ 3 _ (Fr.refl _ _)
  have HFS := Lib.hid hfs
  have HB2 := Lib.hid hb2
  clear hfs hb2
  go_upto_region 2 with (refine wpList_store_at rfl 38 _ _ rfl w.heap.size 3 (.slice A1 n1 c1) rfl rfl rfl 40 _ HB0.out (by rw [List.size_toArray, HCL.out]; decide) HSV.out ?_)
  change Code.wp _ _ _ _ (w1.setCells w.heap.size 3 [.slice A1 n1 c1])
  generalize w1.setCells w.heap.size 3 [.slice A1 n1 c1] = w2 at *
  have HB1 := Lib.hid (HB1.out.keep HFS.out (by simp))
  obtain ⟨E, hE⟩ : ∃ E, E = (⟨x.r, x.e, x.t, A1, n1, c1, ys, x.b, x.m⟩ : Wpr).cells := ⟨_, rfl⟩
  have HEL : Hid (E.length = 6) := Lib.hid (by rw [hE]; exact rfl)
  have HEO : Hid (E.toArray.all (·.oneCell') = true) := Lib.hid (by rw [hE]; exact all_oneCell_toArray (Wpr.one _))
  have HES : Hid ((Tryz.prog.info? 40).map (·.size) = some E.toArray.size) := Lib.hid (by rw [List.size_toArray, HEL.out]; kernel_rfl)
  have HEM : Hid (copyPromise_anyZ.size = E.toArray.size) := Lib.hid (by rw [show E.toArray.size = E.length from List.size_toArray, HEL.out]; rfl)
  have HER : Hid (w2.rangeAt w.heap.size 0 E) := Lib.hid (by rw [hE]; exact HB2.out.range)
  go_wp2_with (first | (refine wpList_load_mid rfl 40 _ rfl w.heap.size 0 rfl E _ HER.out Tryz.underlying40 rfl (row_prm.of HEL.out).2 ?_) | (refine wpList_store_blk rfl 40 _ _ rfl (w.heap.size + 1) E.toArray rfl rfl 40 copyPromise_anyZ HB1.out HES.out HEM.out HEO.out ?_; intro w9 hb9 hf9))
  refine bodyPost_ret (v := .agg E.toArray) (results_cell_row Tryz.results27 _ _ (w.heap.size + 1) 40 E.toArray _ _ rfl hb9 Tryz.underlying40 rfl HES.out) rfl ?_
  have HS9 : Fr [w.heap.size, w.heap.size + 1] w1 w9 := (HFS.out.mono (by intro k hk _; simp at hk; simp [hk])).trans hf9 (fun k hk _ => by simp at hk; simp [hk])
  refine ⟨⟨x.r, x.e, x.t, A1, n1, c1, ys, x.b, x.m⟩, by rw [hE], by unfold Wpr.con; simp only [HGL.out.con], fun S0 h0 => ?_, (HF0.out.and HF1.out (by simp)).go HS9 (by simp)⟩
  have hm : Fr (w.heap.size :: (w.heap.size + 1) :: S0) w1 w9 := HS9.mono (by intro k hk _; simp at hk; rcases hk with rfl | rfl <;> simp)
  have hnk : ∀ k ∈ bk A1, w.heap.size + 2 ≤ k := fun k hk => by have h1 := HN1.out k hk; have h2 := HS2.out; omega
  have hlst := GotL.lst (ok := fun w S v => Wce.Ok w S v) (fun h f s => h.keep f s) (fun _ _ v h => Wce.len h.k.h) HGL.out (g := w.heap.size) (q := w.heap.size + 1) (N := w.heap.size) (by have := HS2.out; omega) (by have := HS2.out; omega) (by have := HS2.out; omega) w9 HS9 S0 h0
  exact ⟨HX.out.r, HX.out.e, HX.out.t, hlst.1, by rw [HNE.out]; exact HX.out.n, hlst.2, HX.out.b, HX.out.m⟩
set_option maxHeartbeats 4000000 in
theorem copyPromises_any (hf : Copies 27 Wpr.cells (fun w S v => v.Ok w S) Wpr.con) (A : Option Addr) (n c : Nat) (l : List Wpr) (w : World) (hl : Lst 6 Wpr.cells (fun w v => v.Ok w []) w A n l) (hn : n ≤ 100) :
    Calls Tryz.prog 119 #[.slice A n c, fnV 27] w fun e w' => ∃ (A' : Option Addr) (c' : Nat) (ys : List Wpr), e = .returned (.slice A' n c') ∧ GotL 40 6 Wpr.cells (fun w S v => v.Ok w S) Wpr.con w w' A' n c' ys (l.map Wpr.con) ∧ Fr [] w w' := by
  have HL := Lib.hid hl
  have HCP := Lib.hid hf
  have HN := Lib.hid hn
  have hn1 : n ≤ 100 := hn
  clear hl hf hn
  unfold fnV
  go_enter Tryz.func119, Tryz.ntmps119
  go_wp2_with fail
  go_loopw [5, 10] (fun sl i wr => ∃ (k : Nat) (A4 : Option Addr) (c4 : Nat) (ys : List Wpr), k ≤ n ∧ i = .int .i64 k ∧ sl = .slice A4 k c4 ∧ ys.length = k ∧ Hid (ys.map Wpr.con = (l.take k).map Wpr.con) ∧ Hid (wr.ownsRow 0 40 6 (.slice A4 k c4) k (ys.flatMap Wpr.cells)) ∧ Hid (∀ q ∈ bk A4, w.heap.size ≤ q) ∧ Hid (∀ y ∈ ys, ∀ S0 : List Nat, (∀ q ∈ S0, q < w.heap.size ∨ q ∈ bk A4) → y.Ok wr S0) ∧ Hid (Fr [] w wr)) (fun _ i _ => n - (intOf i).toNat)
  case atStart => exact ⟨0, none, 0, [], by omega, rfl, rfl, rfl, Lib.hid rfl, Lib.hid ⟨by simp, .inl ⟨rfl, rfl⟩⟩, Lib.hid (by simp [bk]), Lib.hid (by simp), Lib.hid (Fr.refl _ _)⟩
  case round =>
    obtain ⟨k, A4, c4, ys, hk, rfl, rfl, hyl, HCN, HO, HNA, HYS, HF⟩ := hrel
    by_cases hlt : k < n
    · have HKN : Hid (k < n) := Lib.hid hlt
      have hk0 : (0 : Int) ≤ k := by omega
      obtain ⟨ad, v, hA, hv, hcl, hok, hcells⟩ := HL.out.at (i := k) hlt
      subst hA
      have HV := Lib.hid hv
      obtain ⟨CV, hCV⟩ : ∃ CV, Wpr.cells v = CV := ⟨_, rfl⟩
      rw [hCV] at hcells hcl
      have HCELLS : Hid (∀ j u, CV[j]? = some u → wr.cell? ((ad.add (k * 6)).add j) = some u) := Lib.hid (fun j u hj => HF.out.cell (hcells j u hj) (by simp))
      have HCLN := Lib.hid hcl
      have HIN : Hid (v.Ok wr []) := Lib.hid (hok.keep HF.out (by simp))
      have HCV := Lib.hid hCV
      have HSZ0 : Hid ((Tryz.prog.info? 40).map (·.size) = some CV.toArray.size) := Lib.hid (by rw [List.size_toArray, HCLN.out]; kernel_rfl)
      have HCS : Hid (CV.toArray.size = 6) := Lib.hid (by rw [List.size_toArray]; exact HCLN.out)
      have HONE : Hid (CV.toArray.all (·.oneCell') = true) := Lib.hid (by rw [← hCV]; exact all_oneCell_toArray (Wpr.one v))
      clear hcells hcl hok hv hCV
      go_wp2_with (first
        | (refine wpList_cells rfl 40 _ rfl _ rfl CV HCELLS.out (row_prm.of HCLN.out) ?_)
        | (refine wpList_store_blk rfl 40 _ _ rfl wr.heap.size CV.toArray rfl rfl 40 _ (Blk.new wr _ _) HSZ0.out (by rw [HCS.out]; rfl) HONE.out ?_; intro w2 hb2 hf2)
        | (refine wpList_load_mid rfl 40 _ rfl wr.heap.size 0 rfl CV _ hb2.range Tryz.underlying40 rfl (row_prm.of HCLN.out).2 ?_))
      have HF2 : Hid (Fr [] wr w2) := Lib.hid (((Fr.refl [] wr).alloc _).go hf2 (by simp))
      clear hb2 hf2
      have hcc := HCP.out v w2 (HIN.out.keep HF2.out (by simp))
      rw [HCV.out] at hcc
      refine hcc.mono ?_
      rintro e_ w4 ⟨y, rfl, hyc, hyok, hf4⟩
      clear hcc
      have HYC := Lib.hid hyc
      have HF4 : Hid (Fr [] wr w4) := Lib.hid (HF2.out.and hf4 (by simp))
      have HNW : Hid (∀ S0 : List Nat, (∀ q ∈ S0, q < w.heap.size ∨ q ∈ bk A4) → y.Ok w4 S0) := Lib.hid (fun S0 h0 => hyok S0 (fun q hq => by
        have h1 := HF.out.size
        have h2 := HF2.out.size
        rcases h0 q hq with h | h
        · omega
        · have h3 := own_lt HO.out q ((bk_mem A4 k c4 q).2 h); omega))
      have hD : (Wpr.cells y).length = 6 := rfl
      have hD1 := Wpr.one y
      have HO4 := Lib.hid (own_keep HO.out HF4.out (by simp))
      obtain ⟨D, hDY⟩ : ∃ D, D = Wpr.cells y := ⟨_, rfl⟩
      rw [← hDY] at hD hD1 ⊢
      have HD := Lib.hid hD
      have HD1 := Lib.hid hD1
      have HDY := Lib.hid hDY
      clear hyc hyok hf4 hD hD1 hDY hlt
      go_wp2_with (first | (refine wpList_build_one rfl 41 40 _ rfl Tryz.underlying41 D 64 (by rw [HD.out]; exact el_promiseC) rfl (by rw [HD.out]; decide) (by rw [HD.out]; decide) ?_) | (at_builtin; refine Stop.mk ?_))
      refine Stop.go ?_
      refine wpList_append_one2 rfl _ _ 41 40 rfl Tryz.underlying41 6 64 el_promiseC (by decide) 0 (.slice A4 k c4) k _ D rfl (HO4.out.alloc _) (Nat.zero_le _) HD.out HD1.out w4.heap.size 40 rfl (Blk.new _ _ _) (by have := HN.out; omega) (by decide) ?_
      intro A9 c9 w9 ho9 hf9 hb9
      have HO9 := Lib.hid ho9
      have HF9 : Hid (Fr (bk A4) w4 w9) := Lib.hid (by
        have h : Fr (bk A4) (w4.alloc (Obj.cells D.toArray 40)) w9 := by rw [← bk_own A4 k c4]; exact hf9
        exact (((Fr.refl [] w4).alloc _).mono (by simp)).trans h (fun y hy _ => hy))
      have HB9 : Hid (∀ q ∈ bk A9, q ∈ bk A4 ∨ w4.heap.size ≤ q) := Lib.hid (by
        intro q hq
        rw [← bk_own A9 (k + 1) c9] at hq
        rcases hb9 with h | h
        · rw [h, bk_own] at hq; exact .inl hq
        · rw [h] at hq; simp at hq; exact .inr (by omega))
      clear ho9 hf9 hb9
      go_wp2
      go_roundw
      case rel =>
        have hbl : ∀ q ∈ bk A4, w.heap.size ≤ q := HNA.out
        refine ⟨k + 1, A9, c9, ys ++ [y], by have := HKN.out; omega, by go_num, rfl, by simp [hyl], ?_, ?_, ?_, ?_, ?_⟩
        · exact Lib.hid (by rw [List.map_append, HCN.out, List.take_add_one, HV.out]; simp [HYC.out])
        · refine Lib.hid ?_
          rw [List.flatMap_append, List.flatMap_singleton, ← HDY.out]
          exact HO9.out
        · refine Lib.hid (fun q hq => ?_)
          rcases HB9.out q hq with h | h
          · exact hbl q h
          · have h1 := HF.out.size; have h2 := HF4.out.size; omega
        · refine Lib.hid (fun u hu S0 h0 => ?_)
          have hfr : Fr (bk A4) wr w9 := (HF4.out.mono (T := bk A4) (by simp)).trans HF9.out (fun q hq _ => hq)
          have hsz := HF4.out.size
          rcases List.mem_append.1 hu with hu | hu
          · refine keepAll (ok := fun w S v => Wpr.Ok w S v) (fun h f s => h.keep f s) (w := wr) (B4 := bk A4) (B9 := bk A9) hfr (fun q hq => ?_) (fun S1 h1 => HYS.out u hu S1 h1) S0 h0
            exact (HB9.out q hq).imp id (fun h => by omega)
          · rw [List.mem_singleton.1 hu]
            exact keepAll (ok := fun w S v => Wpr.Ok w S v) (fun h f s => h.keep f s) (w := w4) (B4 := bk A4) (B9 := bk A9) HF9.out (fun q hq => HB9.out q hq) HNW.out S0 h0
        · exact Lib.hid ((HF.out.and HF4.out (by simp)).and HF9.out (fun q hq => hbl q hq))
      case measure => have := HKN.out; simp [intOf]; omega
    · have hkn : n = k := by omega
      subst hkn
      have HFIN : Hid (GotL 40 6 Wpr.cells (fun w S v => v.Ok w S) Wpr.con w wr A4 n c4 ys (l.map Wpr.con)) := Lib.hid (by
        have e := HCN.out
        rw [List.take_of_length_le (by rw [HL.out.1]; exact Nat.le_refl _)] at e
        exact ⟨HO.out, hyl, e, HN.out, HNA.out, fun v hv S0 h0 => HYS.out v hv S0 (fun q hq => .inl (h0 q hq))⟩)
      clear hlt hk
      go_wp2
      go_ret
      exact ⟨A4, c4, ys, rfl, HFIN.out, HF.out⟩

set_option maxHeartbeats 4000000 in
theorem copyOpenings_any (hf : Copies 29 Wop.cells (fun w S v => v.Ok w S) Wop.con) (A : Option Addr) (n c : Nat) (l : List Wop) (w : World) (hl : Lst 34 Wop.cells (fun w v => v.Ok w []) w A n l) (hn : n ≤ 100) :
    Calls Tryz.prog 120 #[.slice A n c, fnV 29] w fun e w' => ∃ (A' : Option Addr) (c' : Nat) (ys : List Wop), e = .returned (.slice A' n c') ∧ GotL 54 34 Wop.cells (fun w S v => v.Ok w S) Wop.con w w' A' n c' ys (l.map Wop.con) ∧ Fr [] w w' := by
  have HL := Lib.hid hl
  have HCP := Lib.hid hf
  have HN := Lib.hid hn
  have hn1 : n ≤ 100 := hn
  clear hl hf hn
  unfold fnV
  go_enter Tryz.func120, Tryz.ntmps120
  go_wp2_with fail
  go_loopw [5, 10] (fun sl i wr => ∃ (k : Nat) (A4 : Option Addr) (c4 : Nat) (ys : List Wop), k ≤ n ∧ i = .int .i64 k ∧ sl = .slice A4 k c4 ∧ ys.length = k ∧ Hid (ys.map Wop.con = (l.take k).map Wop.con) ∧ Hid (wr.ownsRow 0 54 34 (.slice A4 k c4) k (ys.flatMap Wop.cells)) ∧ Hid (∀ q ∈ bk A4, w.heap.size ≤ q) ∧ Hid (∀ y ∈ ys, ∀ S0 : List Nat, (∀ q ∈ S0, q < w.heap.size ∨ q ∈ bk A4) → y.Ok wr S0) ∧ Hid (Fr [] w wr)) (fun _ i _ => n - (intOf i).toNat)
  case atStart => exact ⟨0, none, 0, [], by omega, rfl, rfl, rfl, Lib.hid rfl, Lib.hid ⟨by simp, .inl ⟨rfl, rfl⟩⟩, Lib.hid (by simp [bk]), Lib.hid (by simp), Lib.hid (Fr.refl _ _)⟩
  case round =>
    obtain ⟨k, A4, c4, ys, hk, rfl, rfl, hyl, HCN, HO, HNA, HYS, HF⟩ := hrel
    by_cases hlt : k < n
    · have HKN : Hid (k < n) := Lib.hid hlt
      have hk0 : (0 : Int) ≤ k := by omega
      obtain ⟨ad, v, hA, hv, hcl, hok, hcells⟩ := HL.out.at (i := k) hlt
      subst hA
      have HV := Lib.hid hv
      obtain ⟨CV, hCV⟩ : ∃ CV, Wop.cells v = CV := ⟨_, rfl⟩
      rw [hCV] at hcells hcl
      have HCELLS : Hid (∀ j u, CV[j]? = some u → wr.cell? ((ad.add (k * 34)).add j) = some u) := Lib.hid (fun j u hj => HF.out.cell (hcells j u hj) (by simp))
      have HCLN := Lib.hid hcl
      have HIN : Hid (v.Ok wr []) := Lib.hid (hok.keep HF.out (by simp))
      have HCV := Lib.hid hCV
      have HSZ0 : Hid ((Tryz.prog.info? 54).map (·.size) = some CV.toArray.size) := Lib.hid (by rw [List.size_toArray, HCLN.out]; kernel_rfl)
      have HCS : Hid (CV.toArray.size = 34) := Lib.hid (by rw [List.size_toArray]; exact HCLN.out)
      have HONE : Hid (CV.toArray.all (·.oneCell') = true) := Lib.hid (by rw [← hCV]; exact all_oneCell_toArray (Wop.one v))
      clear hcells hcl hok hv hCV
      go_wp2_with (first
        | (refine wpList_cells rfl 54 _ rfl _ rfl CV HCELLS.out (row_opn.of HCLN.out) ?_)
        | (refine wpList_store_blk rfl 54 _ _ rfl wr.heap.size CV.toArray rfl rfl 54 _ (Blk.new wr _ _) HSZ0.out (by rw [HCS.out]; rfl) HONE.out ?_; intro w2 hb2 hf2)
        | (refine wpList_load_mid rfl 54 _ rfl wr.heap.size 0 rfl CV _ hb2.range Tryz.underlying54 rfl (row_opn.of HCLN.out).2 ?_))
      have HF2 : Hid (Fr [] wr w2) := Lib.hid (((Fr.refl [] wr).alloc _).go hf2 (by simp))
      clear hb2 hf2
      have hcc := HCP.out v w2 (HIN.out.keep HF2.out (by simp))
      rw [HCV.out] at hcc
      refine hcc.mono ?_
      rintro e_ w4 ⟨y, rfl, hyc, hyok, hf4⟩
      clear hcc
      have HYC := Lib.hid hyc
      have HF4 : Hid (Fr [] wr w4) := Lib.hid (HF2.out.and hf4 (by simp))
      have HNW : Hid (∀ S0 : List Nat, (∀ q ∈ S0, q < w.heap.size ∨ q ∈ bk A4) → y.Ok w4 S0) := Lib.hid (fun S0 h0 => hyok S0 (fun q hq => by
        have h1 := HF.out.size
        have h2 := HF2.out.size
        rcases h0 q hq with h | h
        · omega
        · have h3 := own_lt HO.out q ((bk_mem A4 k c4 q).2 h); omega))
      have hD : (Wop.cells y).length = 34 := Wop.len (hyok [] (by simp)).h
      have hD1 := Wop.one y
      have HO4 := Lib.hid (own_keep HO.out HF4.out (by simp))
      obtain ⟨D, hDY⟩ : ∃ D, D = Wop.cells y := ⟨_, rfl⟩
      rw [← hDY] at hD hD1 ⊢
      have HD := Lib.hid hD
      have HD1 := Lib.hid hD1
      have HDY := Lib.hid hDY
      clear hyc hyok hf4 hD hD1 hDY hlt
      go_wp2_with (first | (refine wpList_build_one rfl 42 54 _ rfl Tryz.underlying42 D 64 (by rw [HD.out]; exact el_opn) rfl (by rw [HD.out]; decide) (by rw [HD.out]; decide) ?_) | (at_builtin; refine Stop.mk ?_))
      refine Stop.go ?_
      refine wpList_append_one2 rfl _ _ 42 54 rfl Tryz.underlying42 34 64 el_opn (by decide) 0 (.slice A4 k c4) k _ D rfl (HO4.out.alloc _) (Nat.zero_le _) HD.out HD1.out w4.heap.size 54 rfl (Blk.new _ _ _) (by have := HN.out; omega) (by decide) ?_
      intro A9 c9 w9 ho9 hf9 hb9
      have HO9 := Lib.hid ho9
      have HF9 : Hid (Fr (bk A4) w4 w9) := Lib.hid (by
        have h : Fr (bk A4) (w4.alloc (Obj.cells D.toArray 54)) w9 := by rw [← bk_own A4 k c4]; exact hf9
        exact (((Fr.refl [] w4).alloc _).mono (by simp)).trans h (fun y hy _ => hy))
      have HB9 : Hid (∀ q ∈ bk A9, q ∈ bk A4 ∨ w4.heap.size ≤ q) := Lib.hid (by
        intro q hq
        rw [← bk_own A9 (k + 1) c9] at hq
        rcases hb9 with h | h
        · rw [h, bk_own] at hq; exact .inl hq
        · rw [h] at hq; simp at hq; exact .inr (by omega))
      clear ho9 hf9 hb9
      go_wp2
      go_roundw
      case rel =>
        have hbl : ∀ q ∈ bk A4, w.heap.size ≤ q := HNA.out
        refine ⟨k + 1, A9, c9, ys ++ [y], by have := HKN.out; omega, by go_num, rfl, by simp [hyl], ?_, ?_, ?_, ?_, ?_⟩
        · exact Lib.hid (by rw [List.map_append, HCN.out, List.take_add_one, HV.out]; simp [HYC.out])
        · refine Lib.hid ?_
          rw [List.flatMap_append, List.flatMap_singleton, ← HDY.out]
          exact HO9.out
        · refine Lib.hid (fun q hq => ?_)
          rcases HB9.out q hq with h | h
          · exact hbl q h
          · have h1 := HF.out.size; have h2 := HF4.out.size; omega
        · refine Lib.hid (fun u hu S0 h0 => ?_)
          have hfr : Fr (bk A4) wr w9 := (HF4.out.mono (T := bk A4) (by simp)).trans HF9.out (fun q hq _ => hq)
          have hsz := HF4.out.size
          rcases List.mem_append.1 hu with hu | hu
          · refine keepAll (ok := fun w S v => Wop.Ok w S v) (fun h f s => h.keep f s) (w := wr) (B4 := bk A4) (B9 := bk A9) hfr (fun q hq => ?_) (fun S1 h1 => HYS.out u hu S1 h1) S0 h0
            exact (HB9.out q hq).imp id (fun h => by omega)
          · rw [List.mem_singleton.1 hu]
            exact keepAll (ok := fun w S v => Wop.Ok w S v) (fun h f s => h.keep f s) (w := w4) (B4 := bk A4) (B9 := bk A9) HF9.out (fun q hq => HB9.out q hq) HNW.out S0 h0
        · exact Lib.hid ((HF.out.and HF4.out (by simp)).and HF9.out (fun q hq => hbl q hq))
      case measure => have := HKN.out; simp [intOf]; omega
    · have hkn : n = k := by omega
      subst hkn
      have HFIN : Hid (GotL 54 34 Wop.cells (fun w S v => v.Ok w S) Wop.con w wr A4 n c4 ys (l.map Wop.con)) := Lib.hid (by
        have e := HCN.out
        rw [List.take_of_length_le (by rw [HL.out.1]; exact Nat.le_refl _)] at e
        exact ⟨HO.out, hyl, e, HN.out, HNA.out, fun v hv S0 h0 => HYS.out v hv S0 (fun q hq => .inl (h0 q hq))⟩)
      clear hlt hk
      go_wp2
      go_ret
      exact ⟨A4, c4, ys, rfl, HFIN.out, HF.out⟩

set_option maxHeartbeats 4000000 in
theorem copyTombs_any (hf : Copies 122 Wtb.cells (fun w S v => v.Ok w S) Wtb.con) (A : Option Addr) (n c : Nat) (l : List Wtb) (w : World) (hl : Lst 2 Wtb.cells (fun w v => v.Ok w []) w A n l) (hn : n ≤ 100) :
    Calls Tryz.prog 121 #[.slice A n c, fnV 122] w fun e w' => ∃ (A' : Option Addr) (c' : Nat) (ys : List Wtb), e = .returned (.slice A' n c') ∧ GotL 133 2 Wtb.cells (fun w S v => v.Ok w S) Wtb.con w w' A' n c' ys (l.map Wtb.con) ∧ Fr [] w w' := by
  have HL := Lib.hid hl
  have HCP := Lib.hid hf
  have HN := Lib.hid hn
  have hn1 : n ≤ 100 := hn
  clear hl hf hn
  unfold fnV
  go_enter Tryz.func121, Tryz.ntmps121
  go_wp2_with fail
  go_loopw [5, 10] (fun sl i wr => ∃ (k : Nat) (A4 : Option Addr) (c4 : Nat) (ys : List Wtb), k ≤ n ∧ i = .int .i64 k ∧ sl = .slice A4 k c4 ∧ ys.length = k ∧ Hid (ys.map Wtb.con = (l.take k).map Wtb.con) ∧ Hid (wr.ownsRow 0 133 2 (.slice A4 k c4) k (ys.flatMap Wtb.cells)) ∧ Hid (∀ q ∈ bk A4, w.heap.size ≤ q) ∧ Hid (∀ y ∈ ys, ∀ S0 : List Nat, (∀ q ∈ S0, q < w.heap.size ∨ q ∈ bk A4) → y.Ok wr S0) ∧ Hid (Fr [] w wr)) (fun _ i _ => n - (intOf i).toNat)
  case atStart => exact ⟨0, none, 0, [], by omega, rfl, rfl, rfl, Lib.hid rfl, Lib.hid ⟨by simp, .inl ⟨rfl, rfl⟩⟩, Lib.hid (by simp [bk]), Lib.hid (by simp), Lib.hid (Fr.refl _ _)⟩
  case round =>
    obtain ⟨k, A4, c4, ys, hk, rfl, rfl, hyl, HCN, HO, HNA, HYS, HF⟩ := hrel
    by_cases hlt : k < n
    · have HKN : Hid (k < n) := Lib.hid hlt
      have hk0 : (0 : Int) ≤ k := by omega
      obtain ⟨ad, v, hA, hv, hcl, hok, hcells⟩ := HL.out.at (i := k) hlt
      subst hA
      have HV := Lib.hid hv
      obtain ⟨CV, hCV⟩ : ∃ CV, Wtb.cells v = CV := ⟨_, rfl⟩
      rw [hCV] at hcells hcl
      have HCELLS : Hid (∀ j u, CV[j]? = some u → wr.cell? ((ad.add (k * 2)).add j) = some u) := Lib.hid (fun j u hj => HF.out.cell (hcells j u hj) (by simp))
      have HCLN := Lib.hid hcl
      have HIN : Hid (v.Ok wr []) := Lib.hid (hok.keep HF.out (by simp))
      have HCV := Lib.hid hCV
      have HSZ0 : Hid ((Tryz.prog.info? 133).map (·.size) = some CV.toArray.size) := Lib.hid (by rw [List.size_toArray, HCLN.out]; kernel_rfl)
      have HCS : Hid (CV.toArray.size = 2) := Lib.hid (by rw [List.size_toArray]; exact HCLN.out)
      have HONE : Hid (CV.toArray.all (·.oneCell') = true) := Lib.hid (by rw [← hCV]; exact all_oneCell_toArray (Wtb.one v))
      clear hcells hcl hok hv hCV
      go_wp2_with (first
        | (refine wpList_cells rfl 133 _ rfl _ rfl CV HCELLS.out (row_tmb.of HCLN.out) ?_)
        | (refine wpList_store_blk rfl 133 _ _ rfl wr.heap.size CV.toArray rfl rfl 133 _ (Blk.new wr _ _) HSZ0.out (by rw [HCS.out]; rfl) HONE.out ?_; intro w2 hb2 hf2)
        | (refine wpList_load_mid rfl 133 _ rfl wr.heap.size 0 rfl CV _ hb2.range Tryz.underlying133 rfl (row_tmb.of HCLN.out).2 ?_))
      have HF2 : Hid (Fr [] wr w2) := Lib.hid (((Fr.refl [] wr).alloc _).go hf2 (by simp))
      clear hb2 hf2
      have hcc := HCP.out v w2 (HIN.out.keep HF2.out (by simp))
      rw [HCV.out] at hcc
      refine hcc.mono ?_
      rintro e_ w4 ⟨y, rfl, hyc, hyok, hf4⟩
      clear hcc
      have HYC := Lib.hid hyc
      have HF4 : Hid (Fr [] wr w4) := Lib.hid (HF2.out.and hf4 (by simp))
      have HNW : Hid (∀ S0 : List Nat, (∀ q ∈ S0, q < w.heap.size ∨ q ∈ bk A4) → y.Ok w4 S0) := Lib.hid (fun S0 h0 => hyok S0 (fun q hq => by
        have h1 := HF.out.size
        have h2 := HF2.out.size
        rcases h0 q hq with h | h
        · omega
        · have h3 := own_lt HO.out q ((bk_mem A4 k c4 q).2 h); omega))
      have hD : (Wtb.cells y).length = 2 := rfl
      have hD1 := Wtb.one y
      have HO4 := Lib.hid (own_keep HO.out HF4.out (by simp))
      obtain ⟨D, hDY⟩ : ∃ D, D = Wtb.cells y := ⟨_, rfl⟩
      rw [← hDY] at hD hD1 ⊢
      have HD := Lib.hid hD
      have HD1 := Lib.hid hD1
      have HDY := Lib.hid hDY
      clear hyc hyok hf4 hD hD1 hDY hlt
      go_wp2_with (first | (refine wpList_build_one rfl 43 133 _ rfl Tryz.underlying43 D 32 (by rw [HD.out]; exact el_tomb) rfl (by rw [HD.out]; decide) (by rw [HD.out]; decide) ?_) | (at_builtin; refine Stop.mk ?_))
      refine Stop.go ?_
      refine wpList_append_one2 rfl _ _ 43 133 rfl Tryz.underlying43 2 32 el_tomb (by decide) 0 (.slice A4 k c4) k _ D rfl (HO4.out.alloc _) (Nat.zero_le _) HD.out HD1.out w4.heap.size 133 rfl (Blk.new _ _ _) (by have := HN.out; omega) (by decide) ?_
      intro A9 c9 w9 ho9 hf9 hb9
      have HO9 := Lib.hid ho9
      have HF9 : Hid (Fr (bk A4) w4 w9) := Lib.hid (by
        have h : Fr (bk A4) (w4.alloc (Obj.cells D.toArray 133)) w9 := by rw [← bk_own A4 k c4]; exact hf9
        exact (((Fr.refl [] w4).alloc _).mono (by simp)).trans h (fun y hy _ => hy))
      have HB9 : Hid (∀ q ∈ bk A9, q ∈ bk A4 ∨ w4.heap.size ≤ q) := Lib.hid (by
        intro q hq
        rw [← bk_own A9 (k + 1) c9] at hq
        rcases hb9 with h | h
        · rw [h, bk_own] at hq; exact .inl hq
        · rw [h] at hq; simp at hq; exact .inr (by omega))
      clear ho9 hf9 hb9
      go_wp2
      go_roundw
      case rel =>
        have hbl : ∀ q ∈ bk A4, w.heap.size ≤ q := HNA.out
        refine ⟨k + 1, A9, c9, ys ++ [y], by have := HKN.out; omega, by go_num, rfl, by simp [hyl], ?_, ?_, ?_, ?_, ?_⟩
        · exact Lib.hid (by rw [List.map_append, HCN.out, List.take_add_one, HV.out]; simp [HYC.out])
        · refine Lib.hid ?_
          rw [List.flatMap_append, List.flatMap_singleton, ← HDY.out]
          exact HO9.out
        · refine Lib.hid (fun q hq => ?_)
          rcases HB9.out q hq with h | h
          · exact hbl q h
          · have h1 := HF.out.size; have h2 := HF4.out.size; omega
        · refine Lib.hid (fun u hu S0 h0 => ?_)
          have hfr : Fr (bk A4) wr w9 := (HF4.out.mono (T := bk A4) (by simp)).trans HF9.out (fun q hq _ => hq)
          have hsz := HF4.out.size
          rcases List.mem_append.1 hu with hu | hu
          · refine keepAll (ok := fun w S v => Wtb.Ok w S v) (fun h f s => h.keep f s) (w := wr) (B4 := bk A4) (B9 := bk A9) hfr (fun q hq => ?_) (fun S1 h1 => HYS.out u hu S1 h1) S0 h0
            exact (HB9.out q hq).imp id (fun h => by omega)
          · rw [List.mem_singleton.1 hu]
            exact keepAll (ok := fun w S v => Wtb.Ok w S v) (fun h f s => h.keep f s) (w := w4) (B4 := bk A4) (B9 := bk A9) HF9.out (fun q hq => HB9.out q hq) HNW.out S0 h0
        · exact Lib.hid ((HF.out.and HF4.out (by simp)).and HF9.out (fun q hq => hbl q hq))
      case measure => have := HKN.out; simp [intOf]; omega
    · have hkn : n = k := by omega
      subst hkn
      have HFIN : Hid (GotL 133 2 Wtb.cells (fun w S v => v.Ok w S) Wtb.con w wr A4 n c4 ys (l.map Wtb.con)) := Lib.hid (by
        have e := HCN.out
        rw [List.take_of_length_le (by rw [HL.out.1]; exact Nat.le_refl _)] at e
        exact ⟨HO.out, hyl, e, HN.out, HNA.out, fun v hv S0 h0 => HYS.out v hv S0 (fun q hq => .inl (h0 q hq))⟩)
      clear hlt hk
      go_wp2
      go_ret
      exact ⟨A4, c4, ys, rfl, HFIN.out, HF.out⟩

end Go.Proofs.YtnpjihdhpoddgaaGreat

namespace Go.Proofs.YtnpjihdhpoddgaaGreat
open Go.RowKit
set_option maxRecDepth 100000
theorem lt_two {g N : Nat} {S0 : List Nat} (h0 : ∀ k ∈ S0, k < g) (hN : g + 2 ≤ N) : ∀ k ∈ g :: (g + 1) :: S0, k < N := by
  intro k hk
  rcases List.mem_cons.1 hk with rfl | hk
  · omega
  · rcases List.mem_cons.1 hk with rfl | hk
    · omega
    · have := h0 k hk; omega
theorem row_poC : RowTy Tryz.prog 47 11 := ⟨by kernel_rfl, by kernel_rfl⟩

def copyBatch_anyZ : Array Value := ((⟨0, 0, none, 0, 0, [], none, 0, 0, [], none, 0, 0, []⟩ : Wba)).cells.toArray
set_option maxHeartbeats 4000000 in
theorem copyBatch_any : Copies 80 Wba.cells (fun w S v => v.Ok w S) Wba.con := by
  intro x w hx
  obtain ⟨C, hC⟩ : ∃ C, x.cells = C := ⟨_, rfl⟩
  rw [hC]
  have hcl : C.length = 5 := by rw [← hC]; rfl
  obtain ⟨wa, hwa⟩ : ∃ wa, wa = (w.alloc (Obj.cells C.toArray 45)).alloc (Obj.cells copyBatch_anyZ 45) := ⟨_, rfl⟩
  have hf0 : Fr [] w wa := by rw [hwa]; exact ((Fr.refl [] w).alloc _).alloc _
  have hb0 : Blk wa w.heap.size 45 x.cells.toArray := by rw [hwa, hC]; exact blk_alloc (Blk.new _ _ _)
  have hb1 : Blk wa (w.heap.size + 1) 45 copyBatch_anyZ := by
    have := Blk.new (w.alloc (Obj.cells C.toArray 45)) 45 copyBatch_anyZ
    rw [hwa]
    simpa using this
  have HX := Lib.hid hx
  have HB0 := Lib.hid hb0
  have HB1 := Lib.hid hb1
  have HF0 := Lib.hid hf0
  have HWA := Lib.hid hwa
  have HS2 : Hid (wa.heap.size = w.heap.size + 2) := Lib.hid (by rw [hwa]; simp)
  clear hx hC hcl hb0 hb1 hf0 hwa
  go_enter Tryz.func80, Tryz.ntmps80
  go_upto_region 1 with (fail)
  change Code.wp _ _ _ _ ((w.alloc (Obj.cells C.toArray 45)).alloc (Obj.cells copyBatch_anyZ 45))
  rw [← HWA.out]
  have hc1 : wa.cell? ⟨w.heap.size, 2, none⟩ = some (.slice x.A x.n x.d) := by
    have h := HB0.out.range 2 (.slice x.A x.n x.d) rfl
    simpa using h
  go_wp2_with fail
  refine (copyPromises_any copyPromise_any x.A x.n x.d x.l wa (HX.out.l.keep' HF0.out (by simp) (fun _ _ h => Wpr.Ok.keep (S' := []) h HF0.out (by simp))) (by have := HX.out.n; omega)).mono ?_
  rintro e_ w1 ⟨A1, c1, ys1, rfl, hgl, hf1⟩
  obtain ⟨n1, hn1⟩ : ∃ n1, n1 = x.n := ⟨_, rfl⟩
  rw [← hn1] at hgl ⊢
  have HNE1 := Lib.hid hn1
  have HGL1 := Lib.hid hgl
  have HFc1 : Hid (Fr [] wa w1) := Lib.hid hf1
  have HSZ1 : Hid (w.heap.size + 2 ≤ wa.heap.size) := Lib.hid (by have := HS2.out; omega)
  clear hgl hf1 hn1
  have HFw1 : Hid (Fr [] w w1) := Lib.hid (HF0.out.and HFc1.out (by simp))
  have HBc1 := Lib.hid (HB0.out.keep HFc1.out (by simp))
  have HB1 := Lib.hid (HB1.out.keep HFc1.out (by simp))
  have hb2 : Blk (w1.setCells w.heap.size 2 [.slice A1 n1 c1]) w.heap.size 45 (⟨x.e, x.t, A1, n1, c1, ys1, x.A2, x.n2, x.d2, x.l2, x.A3, x.n3, x.d3, x.l3⟩ : Wba).cells.toArray := by have h := HBc1.out.set 2 (.slice A1 n1 c1); exact h
  have hfs : Fr [w.heap.size] w1 (w1.setCells w.heap.size 2 [.slice A1 n1 c1]) := Fr.setCells (fun _ => by simp) _ 2 _ (Fr.refl _ _)
  have HFS1 := Lib.hid hfs
  have HBx1 := Lib.hid hb2
  clear hfs hb2
  have HSV1 : Hid ((Tryz.prog.info? 41).map (·.size) = some 1) := Lib.hid (by kernel_rfl)
  clear hc1
  go_upto_region 2 with (refine wpList_store_at rfl 41 _ _ rfl w.heap.size 2 (.slice A1 n1 c1) rfl rfl rfl 45 _ HBc1.out (by rw [List.size_toArray]; exact (show 2 < 5 by decide)) HSV1.out ?_)
  change Code.wp _ _ _ _ (w1.setCells w.heap.size 2 [.slice A1 n1 c1])
  generalize w1.setCells w.heap.size 2 [.slice A1 n1 c1] = u1 at *
  have HFu1 : Hid (Fr [] w u1) := Lib.hid (HFw1.out.go HFS1.out (by simp))
  have HB1 := Lib.hid (HB1.out.keep HFS1.out (by simp))
  have hc2 : u1.cell? ⟨w.heap.size, 3, none⟩ = some (.slice x.A2 x.n2 x.d2) := by
    have h := HBx1.out.range 3 (.slice x.A2 x.n2 x.d2) rfl
    simpa using h
  go_wp2_with fail
  refine (copyOpenings_any copyOpening_any x.A2 x.n2 x.d2 x.l2 u1 (HX.out.l2.keep' HFu1.out (by simp) (fun _ _ h => Wop.Ok.keep (S' := []) h HFu1.out (by simp))) (by have := HX.out.n2; omega)).mono ?_
  rintro e_ w2 ⟨A2, c2, ys2, rfl, hgl, hf1⟩
  obtain ⟨n2, hn1⟩ : ∃ n1, n1 = x.n2 := ⟨_, rfl⟩
  rw [← hn1] at hgl ⊢
  have HNE2 := Lib.hid hn1
  have HGL2 := Lib.hid hgl
  have HFc2 : Hid (Fr [] u1 w2) := Lib.hid hf1
  have HSZ2 : Hid (w.heap.size + 2 ≤ u1.heap.size) := Lib.hid (by have h1 := HSZ1.out; have h2 := HFc1.out.size; have h3 := HFS1.out.size; omega)
  clear hgl hf1 hn1
  have HFw2 : Hid (Fr [] w w2) := Lib.hid (HFu1.out.and HFc2.out (by simp))
  have HBc2 := Lib.hid (HBx1.out.keep HFc2.out (by simp))
  have HB1 := Lib.hid (HB1.out.keep HFc2.out (by simp))
  have hb2 : Blk (w2.setCells w.heap.size 3 [.slice A2 n2 c2]) w.heap.size 45 (⟨x.e, x.t, A1, n1, c1, ys1, A2, n2, c2, ys2, x.A3, x.n3, x.d3, x.l3⟩ : Wba).cells.toArray := by have h := HBc2.out.set 3 (.slice A2 n2 c2); exact h
  have hfs : Fr [w.heap.size] w2 (w2.setCells w.heap.size 3 [.slice A2 n2 c2]) := Fr.setCells (fun _ => by simp) _ 3 _ (Fr.refl _ _)
  have HFS2 := Lib.hid hfs
  have HBx2 := Lib.hid hb2
  clear hfs hb2
  have HSV2 : Hid ((Tryz.prog.info? 42).map (·.size) = some 1) := Lib.hid (by kernel_rfl)
  clear hc2
  go_upto_region 3 with (refine wpList_store_at rfl 42 _ _ rfl w.heap.size 3 (.slice A2 n2 c2) rfl rfl rfl 45 _ HBc2.out (by rw [List.size_toArray]; exact (show 3 < 5 by decide)) HSV2.out ?_)
  change Code.wp _ _ _ _ (w2.setCells w.heap.size 3 [.slice A2 n2 c2])
  generalize w2.setCells w.heap.size 3 [.slice A2 n2 c2] = u2 at *
  have HFu2 : Hid (Fr [] w u2) := Lib.hid (HFw2.out.go HFS2.out (by simp))
  have HB1 := Lib.hid (HB1.out.keep HFS2.out (by simp))
  have hc3 : u2.cell? ⟨w.heap.size, 4, none⟩ = some (.slice x.A3 x.n3 x.d3) := by
    have h := HBx2.out.range 4 (.slice x.A3 x.n3 x.d3) rfl
    simpa using h
  go_wp2_with fail
  refine (copyTombs_any copyTomb_any x.A3 x.n3 x.d3 x.l3 u2 (HX.out.l3.keep' HFu2.out (by simp) (fun _ _ h => Wtb.Ok.keep (S' := []) h HFu2.out (by simp))) (by have := HX.out.n3; omega)).mono ?_
  rintro e_ w3 ⟨A3, c3, ys3, rfl, hgl, hf1⟩
  obtain ⟨n3, hn1⟩ : ∃ n1, n1 = x.n3 := ⟨_, rfl⟩
  rw [← hn1] at hgl ⊢
  have HNE3 := Lib.hid hn1
  have HGL3 := Lib.hid hgl
  have HFc3 : Hid (Fr [] u2 w3) := Lib.hid hf1
  have HSZ3 : Hid (w.heap.size + 2 ≤ u2.heap.size) := Lib.hid (by have h1 := HSZ2.out; have h2 := HFc2.out.size; have h3 := HFS2.out.size; omega)
  clear hgl hf1 hn1
  have HFw3 : Hid (Fr [] w w3) := Lib.hid (HFu2.out.and HFc3.out (by simp))
  have HBc3 := Lib.hid (HBx2.out.keep HFc3.out (by simp))
  have HB1 := Lib.hid (HB1.out.keep HFc3.out (by simp))
  have hb2 : Blk (w3.setCells w.heap.size 4 [.slice A3 n3 c3]) w.heap.size 45 (⟨x.e, x.t, A1, n1, c1, ys1, A2, n2, c2, ys2, A3, n3, c3, ys3⟩ : Wba).cells.toArray := by have h := HBc3.out.set 4 (.slice A3 n3 c3); exact h
  have hfs : Fr [w.heap.size] w3 (w3.setCells w.heap.size 4 [.slice A3 n3 c3]) := Fr.setCells (fun _ => by simp) _ 4 _ (Fr.refl _ _)
  have HFS3 := Lib.hid hfs
  have HBx3 := Lib.hid hb2
  clear hfs hb2
  have HSV3 : Hid ((Tryz.prog.info? 43).map (·.size) = some 1) := Lib.hid (by kernel_rfl)
  clear hc3
  go_upto_region 4 with (refine wpList_store_at rfl 43 _ _ rfl w.heap.size 4 (.slice A3 n3 c3) rfl rfl rfl 45 _ HBc3.out (by rw [List.size_toArray]; exact (show 4 < 5 by decide)) HSV3.out ?_)
  change Code.wp _ _ _ _ (w3.setCells w.heap.size 4 [.slice A3 n3 c3])
  generalize w3.setCells w.heap.size 4 [.slice A3 n3 c3] = u3 at *
  have HFu3 : Hid (Fr [] w u3) := Lib.hid (HFw3.out.go HFS3.out (by simp))
  have HB1 := Lib.hid (HB1.out.keep HFS3.out (by simp))
  obtain ⟨E, hE⟩ : ∃ E, E = (⟨x.e, x.t, A1, n1, c1, ys1, A2, n2, c2, ys2, A3, n3, c3, ys3⟩ : Wba).cells := ⟨_, rfl⟩
  have HEL : Hid (E.length = 5) := Lib.hid (by rw [hE]; rfl)
  have HEO : Hid (E.toArray.all (·.oneCell') = true) := Lib.hid (by rw [hE]; exact all_oneCell_toArray (Wba.one _))
  have HES : Hid ((Tryz.prog.info? 45).map (·.size) = some E.toArray.size) := Lib.hid (by rw [List.size_toArray, HEL.out]; kernel_rfl)
  have HEM : Hid (copyBatch_anyZ.size = E.toArray.size) := Lib.hid (by rw [show E.toArray.size = E.length from List.size_toArray, HEL.out]; rfl)
  have HER : Hid (u3.rangeAt w.heap.size 0 E) := Lib.hid (by rw [hE]; exact HBx3.out.range)
  go_wp2_with (first | (refine wpList_load_mid rfl 45 _ rfl w.heap.size 0 rfl E _ HER.out Tryz.underlying45 rfl (row_bat.of HEL.out).2 ?_) | (refine wpList_store_blk rfl 45 _ _ rfl (w.heap.size + 1) E.toArray rfl rfl 45 copyBatch_anyZ HB1.out HES.out HEM.out HEO.out ?_; intro w9 hb9 hf9))
  refine bodyPost_ret (v := .agg E.toArray) (results_cell_row Tryz.results80 _ _ (w.heap.size + 1) 45 E.toArray _ _ rfl hb9 Tryz.underlying45 rfl HES.out) rfl ?_
  have HT3 : Fr [w.heap.size, w.heap.size + 1] w3 w9 := (HFS3.out.mono (by intro k hk _; simp at hk; simp [hk])).trans hf9 (fun k hk _ => by simp at hk; simp [hk])
  have HT2 : Fr [w.heap.size, w.heap.size + 1] w2 w9 := ((HFS2.out.mono (by intro k hk _; simp at hk; simp [hk])).trans (HFc3.out.mono (T := [w.heap.size, w.heap.size + 1]) (by simp)) (fun k hk _ => hk)).trans HT3 (fun k hk _ => hk)
  have HT1 : Fr [w.heap.size, w.heap.size + 1] w1 w9 := ((HFS1.out.mono (by intro k hk _; simp at hk; simp [hk])).trans (HFc2.out.mono (T := [w.heap.size, w.heap.size + 1]) (by simp)) (fun k hk _ => hk)).trans HT2 (fun k hk _ => hk)
  refine ⟨⟨x.e, x.t, A1, n1, c1, ys1, A2, n2, c2, ys2, A3, n3, c3, ys3⟩, by rw [hE], by unfold Wba.con; simp only [HGL1.out.con, HGL2.out.con, HGL3.out.con], fun S0 h0 => ?_, HFw1.out.go HT1 (by simp)⟩
  have hlst1 := GotL.lst (w0 := wa) (ok := fun w S v => Wpr.Ok w S v) (fun h f s => h.keep f s) (fun _ _ v h => Wpr.len v) HGL1.out (g := w.heap.size) (q := w.heap.size + 1) (N := w.heap.size) (by have := HSZ1.out; omega) (by have := HSZ1.out; omega) (by have := HSZ1.out; omega) w9 HT1 S0 h0
  have hlst2 := GotL.lst (w0 := u1) (ok := fun w S v => Wop.Ok w S v) (fun h f s => h.keep f s) (fun _ _ v h => Wop.len h.h) HGL2.out (g := w.heap.size) (q := w.heap.size + 1) (N := w.heap.size) (by have := HSZ2.out; omega) (by have := HSZ2.out; omega) (by have := HSZ2.out; omega) w9 HT2 S0 h0
  have hlst3 := GotL.lst (w0 := u2) (ok := fun w S v => Wtb.Ok w S v) (fun h f s => h.keep f s) (fun _ _ v h => (show (Wtb.cells v).length = 2 from rfl)) HGL3.out (g := w.heap.size) (q := w.heap.size + 1) (N := w.heap.size) (by have := HSZ3.out; omega) (by have := HSZ3.out; omega) (by have := HSZ3.out; omega) w9 HT3 S0 h0
  exact ⟨HX.out.e, HX.out.t, hlst1.1, by rw [HNE1.out]; exact HX.out.n, hlst1.2, hlst2.1, by rw [HNE2.out]; exact HX.out.n2, hlst2.2, hlst3.1, by rw [HNE3.out]; exact HX.out.n3, hlst3.2⟩
def copyProposal_anyZ : Array Value := ((⟨0, 0, 0, 0, ⟨0, 0, none, 0, 0, [], none, 0, 0, [], none, 0, 0, []⟩, 0, 0⟩ : Wpo)).cells.toArray
set_option maxHeartbeats 4000000 in
theorem copyProposal_any : Copies 28 Wpo.cells (fun w S v => v.OkS w S) Wpo.con := by
  intro x w hx
  obtain ⟨C, hC⟩ : ∃ C, x.cells = C := ⟨_, rfl⟩
  rw [hC]
  have hcl : C.length = 11 := by rw [← hC]; rfl
  obtain ⟨wa, hwa⟩ : ∃ wa, wa = (w.alloc (Obj.cells C.toArray 47)).alloc (Obj.cells copyProposal_anyZ 47) := ⟨_, rfl⟩
  have hf0 : Fr [] w wa := by rw [hwa]; exact ((Fr.refl [] w).alloc _).alloc _
  have hb0 : Blk wa w.heap.size 47 x.cells.toArray := by rw [hwa, hC]; exact blk_alloc (Blk.new _ _ _)
  have hb1 : Blk wa (w.heap.size + 1) 47 copyProposal_anyZ := by
    have := Blk.new (w.alloc (Obj.cells C.toArray 47)) 47 copyProposal_anyZ
    rw [hwa]
    simpa using this
  have HX := Lib.hid hx
  have HB0 := Lib.hid hb0
  have HB1 := Lib.hid hb1
  have HF0 := Lib.hid hf0
  have HWA := Lib.hid hwa
  have HS2 : Hid (wa.heap.size = w.heap.size + 2) := Lib.hid (by rw [hwa]; simp)
  clear hx hC hcl hb0 hb1 hf0 hwa
  go_enter Tryz.func28, Tryz.ntmps28
  go_upto_region 1 with (fail)
  change Code.wp _ _ _ _ ((w.alloc (Obj.cells C.toArray 47)).alloc (Obj.cells copyProposal_anyZ 47))
  rw [← HWA.out]
  have HRk1 : Hid (wa.rangeAt w.heap.size 4 x.k.cells) := Lib.hid (ra_head (ra_tail (k := 4) HB0.out.range rfl))
  go_wp2_with (refine wpList_load_mid rfl 45 _ rfl w.heap.size 4 rfl x.k.cells _ HRk1.out Tryz.underlying45 rfl (row_bat.of rfl).2 ?_)
  refine (copyBatch_any x.k wa (HX.out.k.keep HF0.out (by simp))).mono ?_
  rintro e_ w1 ⟨y1, rfl, hyc, hyok, hf1⟩
  have HYC1 := Lib.hid hyc
  have HYO1 := Lib.hid hyok
  have HFc1 : Hid (Fr [] wa w1) := Lib.hid hf1
  have HSZ1 : Hid (w.heap.size + 2 ≤ wa.heap.size) := Lib.hid (by have := HS2.out; omega)
  clear hyc hyok hf1
  have HFw1 : Hid (Fr [] w w1) := Lib.hid (HF0.out.and HFc1.out (by simp))
  have HBc1 := Lib.hid (HB0.out.keep HFc1.out (by simp))
  have HB1 := Lib.hid (HB1.out.keep HFc1.out (by simp))
  have hb2 : Blk (w1.setCells w.heap.size 4 y1.cells) w.heap.size 47 (⟨x.e, x.r, x.v, x.p, y1, x.b, x.m⟩ : Wpo).cells.toArray := Blk.mid_at y1.cells x.k.cells [.int .i64 x.e, .int .i64 x.r, .int .i64 x.v, .int .i64 x.p] [.int .i64 x.b, .int .i64 x.m] 4 rfl rfl _ _ rfl rfl HBc1.out
  have hfs : Fr [w.heap.size] w1 (w1.setCells w.heap.size 4 y1.cells) := Fr.setCells (fun _ => by simp) _ 4 _ (Fr.refl _ _)
  have HFS1 := Lib.hid hfs
  have HBx1 := Lib.hid hb2
  clear hfs hb2
  go_upto_region 2 with (refine wpList_store_mid rfl 45 _ _ rfl w.heap.size 4 (y1.cells).toArray rfl rfl (Blk.thereM HBc1.out 4 _ (by rw [List.size_toArray, List.size_toArray]; exact (show 4 + 5 ≤ 11 by decide))) (by kernel_rfl) (all_oneCell_toArray (Wba.one _)) ?_)
  change Code.wp _ _ _ _ (w1.setCells w.heap.size 4 y1.cells)
  generalize w1.setCells w.heap.size 4 y1.cells = u1 at *
  have HFu1 : Hid (Fr [] w u1) := Lib.hid (HFw1.out.go HFS1.out (by simp))
  have HB1 := Lib.hid (HB1.out.keep HFS1.out (by simp))
  obtain ⟨E, hE⟩ : ∃ E, E = (⟨x.e, x.r, x.v, x.p, y1, x.b, x.m⟩ : Wpo).cells := ⟨_, rfl⟩
  have HEL : Hid (E.length = 11) := Lib.hid (by rw [hE]; rfl)
  have HEO : Hid (E.toArray.all (·.oneCell') = true) := Lib.hid (by rw [hE]; exact all_oneCell_toArray (Wpo.one _))
  have HES : Hid ((Tryz.prog.info? 47).map (·.size) = some E.toArray.size) := Lib.hid (by rw [List.size_toArray, HEL.out]; kernel_rfl)
  have HEM : Hid (copyProposal_anyZ.size = E.toArray.size) := Lib.hid (by rw [show E.toArray.size = E.length from List.size_toArray, HEL.out]; rfl)
  have HER : Hid (u1.rangeAt w.heap.size 0 E) := Lib.hid (by rw [hE]; exact HBx1.out.range)
  go_wp2_with (first | (refine wpList_load_mid rfl 47 _ rfl w.heap.size 0 rfl E _ HER.out Tryz.underlying47 rfl (row_poC.of HEL.out).2 ?_) | (refine wpList_store_blk rfl 47 _ _ rfl (w.heap.size + 1) E.toArray rfl rfl 47 copyProposal_anyZ HB1.out HES.out HEM.out HEO.out ?_; intro w9 hb9 hf9))
  refine bodyPost_ret (v := .agg E.toArray) (results_cell_row Tryz.results28 _ _ (w.heap.size + 1) 47 E.toArray _ _ rfl hb9 Tryz.underlying47 rfl HES.out) rfl ?_
  have HT1 : Fr [w.heap.size, w.heap.size + 1] w1 w9 := (HFS1.out.mono (by intro k hk _; simp at hk; simp [hk])).trans hf9 (fun k hk _ => by simp at hk; simp [hk])
  refine ⟨⟨x.e, x.r, x.v, x.p, y1, x.b, x.m⟩, by rw [hE], by unfold Wpo.con; simp only [HYC1.out], fun S0 h0 => ?_, HFw1.out.go HT1 (by simp)⟩
  have hk1 := (HYO1.out (w.heap.size :: (w.heap.size + 1) :: S0) (lt_two h0 HSZ1.out)).keep (S' := S0) (HT1.mono (T := w.heap.size :: (w.heap.size + 1) :: S0) (by intro k hk _; simp at hk; rcases hk with rfl | rfl <;> simp)) (fun k hk _ => by simp [hk])
  exact ⟨HX.out.e, HX.out.r, HX.out.v, HX.out.p, hk1, HX.out.b, HX.out.m⟩
def copyDecided_anyZ : Array Value := ((⟨0, 0, ⟨0, 0, none, 0, 0, [], none, 0, 0, [], none, 0, 0, []⟩, none, 0, 0, []⟩ : Wdc)).cells.toArray
set_option maxHeartbeats 4000000 in
theorem copyDecided_any : Copies 30 Wdc.cells (fun w S v => v.Ok w S) Wdc.con := by
  intro x w hx
  obtain ⟨C, hC⟩ : ∃ C, x.cells = C := ⟨_, rfl⟩
  rw [hC]
  have hcl : C.length = 8 := by rw [← hC]; rfl
  obtain ⟨wa, hwa⟩ : ∃ wa, wa = (w.alloc (Obj.cells C.toArray 59)).alloc (Obj.cells copyDecided_anyZ 59) := ⟨_, rfl⟩
  have hf0 : Fr [] w wa := by rw [hwa]; exact ((Fr.refl [] w).alloc _).alloc _
  have hb0 : Blk wa w.heap.size 59 x.cells.toArray := by rw [hwa, hC]; exact blk_alloc (Blk.new _ _ _)
  have hb1 : Blk wa (w.heap.size + 1) 59 copyDecided_anyZ := by
    have := Blk.new (w.alloc (Obj.cells C.toArray 59)) 59 copyDecided_anyZ
    rw [hwa]
    simpa using this
  have HX := Lib.hid hx
  have HB0 := Lib.hid hb0
  have HB1 := Lib.hid hb1
  have HF0 := Lib.hid hf0
  have HWA := Lib.hid hwa
  have HS2 : Hid (wa.heap.size = w.heap.size + 2) := Lib.hid (by rw [hwa]; simp)
  clear hx hC hcl hb0 hb1 hf0 hwa
  go_enter Tryz.func30, Tryz.ntmps30
  go_upto_region 1 with (fail)
  change Code.wp _ _ _ _ ((w.alloc (Obj.cells C.toArray 59)).alloc (Obj.cells copyDecided_anyZ 59))
  rw [← HWA.out]
  have HRk1 : Hid (wa.rangeAt w.heap.size 2 x.k.cells) := Lib.hid (ra_head (ra_tail (k := 2) HB0.out.range rfl))
  go_wp2_with (refine wpList_load_mid rfl 45 _ rfl w.heap.size 2 rfl x.k.cells _ HRk1.out Tryz.underlying45 rfl (row_bat.of rfl).2 ?_)
  refine (copyBatch_any x.k wa (HX.out.k.keep HF0.out (by simp))).mono ?_
  rintro e_ w1 ⟨y1, rfl, hyc, hyok, hf1⟩
  have HYC1 := Lib.hid hyc
  have HYO1 := Lib.hid hyok
  have HFc1 : Hid (Fr [] wa w1) := Lib.hid hf1
  have HSZ1 : Hid (w.heap.size + 2 ≤ wa.heap.size) := Lib.hid (by have := HS2.out; omega)
  clear hyc hyok hf1
  have HFw1 : Hid (Fr [] w w1) := Lib.hid (HF0.out.and HFc1.out (by simp))
  have HBc1 := Lib.hid (HB0.out.keep HFc1.out (by simp))
  have HB1 := Lib.hid (HB1.out.keep HFc1.out (by simp))
  have hb2 : Blk (w1.setCells w.heap.size 2 y1.cells) w.heap.size 59 (⟨x.e, x.r, y1, x.A, x.n, x.d, x.l⟩ : Wdc).cells.toArray := Blk.mid_at y1.cells x.k.cells [.int .i64 x.e, .int .i64 x.r] [.slice x.A x.n x.d] 2 rfl rfl _ _ rfl rfl HBc1.out
  have hfs : Fr [w.heap.size] w1 (w1.setCells w.heap.size 2 y1.cells) := Fr.setCells (fun _ => by simp) _ 2 _ (Fr.refl _ _)
  have HFS1 := Lib.hid hfs
  have HBx1 := Lib.hid hb2
  clear hfs hb2
  go_upto_region 2 with (refine wpList_store_mid rfl 45 _ _ rfl w.heap.size 2 (y1.cells).toArray rfl rfl (Blk.thereM HBc1.out 2 _ (by rw [List.size_toArray, List.size_toArray]; exact (show 2 + 5 ≤ 8 by decide))) (by kernel_rfl) (all_oneCell_toArray (Wba.one _)) ?_)
  change Code.wp _ _ _ _ (w1.setCells w.heap.size 2 y1.cells)
  generalize w1.setCells w.heap.size 2 y1.cells = u1 at *
  have HFu1 : Hid (Fr [] w u1) := Lib.hid (HFw1.out.go HFS1.out (by simp))
  have HB1 := Lib.hid (HB1.out.keep HFS1.out (by simp))
  have hc2 : u1.cell? ⟨w.heap.size, 7, none⟩ = some (.slice x.A x.n x.d) := by
    have h := HBx1.out.range 7 (.slice x.A x.n x.d) rfl
    simpa using h
  go_wp2_with fail
  refine (cloneVotes_any x.A x.n x.d x.l u1 (HX.out.l.keep' HFu1.out (by simp) (fun _ _ h => h)) (by have := HX.out.n; omega)).mono ?_
  rintro e_ w2 ⟨A2, c2, rfl, hN⟩
  obtain ⟨n2, hn1⟩ : ∃ n1, n1 = x.n := ⟨_, rfl⟩
  rw [← hn1] at hN ⊢
  have HNE2 := Lib.hid hn1
  have HN2 := Lib.hid hN
  have HFc2 : Hid (Fr [] u1 w2) := Lib.hid hN.2.1
  have HSZ2 : Hid (w.heap.size + 2 ≤ u1.heap.size) := Lib.hid (by have h1 := HSZ1.out; have h2 := HFc1.out.size; have h3 := HFS1.out.size; omega)
  clear hN hn1
  have HFw2 : Hid (Fr [] w w2) := Lib.hid (HFu1.out.and HFc2.out (by simp))
  have HBc2 := Lib.hid (HBx1.out.keep HFc2.out (by simp))
  have HB1 := Lib.hid (HB1.out.keep HFc2.out (by simp))
  have hb2 : Blk (w2.setCells w.heap.size 7 [.slice A2 n2 c2]) w.heap.size 59 (⟨x.e, x.r, y1, A2, n2, c2, x.l⟩ : Wdc).cells.toArray := by have h := HBc2.out.set 7 (.slice A2 n2 c2); exact h
  have hfs : Fr [w.heap.size] w2 (w2.setCells w.heap.size 7 [.slice A2 n2 c2]) := Fr.setCells (fun _ => by simp) _ 7 _ (Fr.refl _ _)
  have HFS2 := Lib.hid hfs
  have HBx2 := Lib.hid hb2
  clear hfs hb2
  have HSV2 : Hid ((Tryz.prog.info? 57).map (·.size) = some 1) := Lib.hid (by kernel_rfl)
  clear hc2
  go_upto_region 3 with (refine wpList_store_at rfl 57 _ _ rfl w.heap.size 7 (.slice A2 n2 c2) rfl rfl rfl 59 _ HBc2.out (by rw [List.size_toArray]; exact (show 7 < 8 by decide)) HSV2.out ?_)
  change Code.wp _ _ _ _ (w2.setCells w.heap.size 7 [.slice A2 n2 c2])
  generalize w2.setCells w.heap.size 7 [.slice A2 n2 c2] = u2 at *
  have HFu2 : Hid (Fr [] w u2) := Lib.hid (HFw2.out.go HFS2.out (by simp))
  have HB1 := Lib.hid (HB1.out.keep HFS2.out (by simp))
  obtain ⟨E, hE⟩ : ∃ E, E = (⟨x.e, x.r, y1, A2, n2, c2, x.l⟩ : Wdc).cells := ⟨_, rfl⟩
  have HEL : Hid (E.length = 8) := Lib.hid (by rw [hE]; rfl)
  have HEO : Hid (E.toArray.all (·.oneCell') = true) := Lib.hid (by rw [hE]; exact all_oneCell_toArray (Wdc.one _))
  have HES : Hid ((Tryz.prog.info? 59).map (·.size) = some E.toArray.size) := Lib.hid (by rw [List.size_toArray, HEL.out]; kernel_rfl)
  have HEM : Hid (copyDecided_anyZ.size = E.toArray.size) := Lib.hid (by rw [show E.toArray.size = E.length from List.size_toArray, HEL.out]; rfl)
  have HER : Hid (u2.rangeAt w.heap.size 0 E) := Lib.hid (by rw [hE]; exact HBx2.out.range)
  go_wp2_with (first | (refine wpList_load_mid rfl 59 _ rfl w.heap.size 0 rfl E _ HER.out Tryz.underlying59 rfl (row_dec.of HEL.out).2 ?_) | (refine wpList_store_blk rfl 59 _ _ rfl (w.heap.size + 1) E.toArray rfl rfl 59 copyDecided_anyZ HB1.out HES.out HEM.out HEO.out ?_; intro w9 hb9 hf9))
  refine bodyPost_ret (v := .agg E.toArray) (results_cell_row Tryz.results30 _ _ (w.heap.size + 1) 59 E.toArray _ _ rfl hb9 Tryz.underlying59 rfl HES.out) rfl ?_
  have HT2 : Fr [w.heap.size, w.heap.size + 1] w2 w9 := (HFS2.out.mono (by intro k hk _; simp at hk; simp [hk])).trans hf9 (fun k hk _ => by simp at hk; simp [hk])
  have HT1 : Fr [w.heap.size, w.heap.size + 1] w1 w9 := ((HFS1.out.mono (by intro k hk _; simp at hk; simp [hk])).trans (HFc2.out.mono (T := [w.heap.size, w.heap.size + 1]) (by simp)) (fun k hk _ => hk)).trans HT2 (fun k hk _ => hk)
  refine ⟨⟨x.e, x.r, y1, A2, n2, c2, x.l⟩, by rw [hE], by unfold Wdc.con; simp only [HYC1.out], fun S0 h0 => ?_, HFw1.out.go HT1 (by simp)⟩
  have hk1 := (HYO1.out (w.heap.size :: (w.heap.size + 1) :: S0) (lt_two h0 HSZ1.out)).keep (S' := S0) (HT1.mono (T := w.heap.size :: (w.heap.size + 1) :: S0) (by intro k hk _; simp at hk; rcases hk with rfl | rfl <;> simp)) (fun k hk _ => by simp [hk])
  have hnk : ∀ k ∈ bk A2, w.heap.size + 2 ≤ k := fun k hk => by have h1 := HN2.out.2.2 k hk; have h2 := HSZ2.out; omega
  exact ⟨HX.out.e, HX.out.r, hk1, (Lst.of_own (ok := fun (_ : World) (v : Wvt) => v.Ok) HN2.out.1 (by rw [HNE2.out]; exact HX.out.l.1) (fun u hu => HX.out.l.2.1 u hu)).keep' HT2 (fun hp a ha hm => by have h1 := hnk a.block (by rw [ha]; simp [bk]); simp at hm; omega) (fun _ _ h => h), by rw [HNE2.out]; exact HX.out.n, fun hp a ha hm => by have ha : A2 = some a := ha; have h1 := hnk a.block (by rw [ha]; simp [bk]); have h2 := h0 _ hm; omega⟩
end Go.Proofs.YtnpjihdhpoddgaaGreat

namespace Go.Proofs.YtnpjihdhpoddgaaGreat
open Go.RowKit
set_option maxRecDepth 100000
theorem row_stkO : RowTy Tryz.prog 32 38 := ⟨by kernel_rfl, by kernel_rfl⟩
theorem row_akO : RowTy Tryz.prog 37 38 := ⟨by kernel_rfl, by kernel_rfl⟩
theorem row_vtO : RowTy Tryz.prog 49 38 := ⟨by kernel_rfl, by kernel_rfl⟩
theorem row_dnO : RowTy Tryz.prog 56 4 := ⟨by kernel_rfl, by kernel_rfl⟩
/-- what a message's kind names -/
def onlyC (c : Cmg) : Cmg :=
  let z : Cmg := (mz c.q c.f c.t).con
  if c.q = 1 then {z with cm := c.cm} else if c.q = 2 then {z with st := c.st} else if c.q = 3 then {z with ce := c.ce} else if c.q = 4 then {z with ak := c.ak} else if c.q = 5 then {z with e := c.e, r := c.r, tm := c.tm}
  else if c.q = 6 then {z with pr := c.pr} else if c.q = 7 then {z with po := c.po} else if c.q = 8 then {z with vt := c.vt} else if c.q = 9 then {z with i := c.i, en := c.en} else if c.q = 10 then {z with op := c.op} else if c.q = 11 then {z with i := c.i}
  else if c.q = 12 then {z with dn := c.dn} else if c.q = 13 then {z with i := c.i, rp := c.rp} else if c.q = 14 then {z with de := c.de} else (mz 0 0 0).con
def OnlyPost (x : Wmg) (w : World) (e : Ending) (w' : World) : Prop := ∃ y : Wmg, e = .returned (.agg y.cells.toArray) ∧ y.con = onlyC x.con ∧ y.Ok w' [] ∧ Fr [] w w'
set_option maxHeartbeats 2000000 in
theorem only_1 (x : Wmg) (hq : x.q = 1) (w : World) (hx : x.Ok w []) (C : List Value) (hC : x.cells = C) :
    Calls Tryz.prog 9 #[.agg C.toArray] w (OnlyPost x w) := by
  obtain ⟨wa, hwa⟩ : ∃ wa, wa = (w.alloc (Obj.cells C.toArray 61)).alloc (Obj.cells mz00 61) := ⟨_, rfl⟩
  have hf0 : Fr [] w wa := by rw [hwa]; exact ((Fr.refl [] w).alloc _).alloc _
  have hb0 : Blk wa w.heap.size 61 x.cells.toArray := by rw [hwa, hC]; exact blk_alloc (Blk.new _ _ _)
  have hb1 : Blk wa (w.heap.size + 1) 61 mz00 := by
    have := Blk.new (w.alloc (Obj.cells C.toArray 61)) 61 mz00
    rw [hwa]
    simpa using this
  have hat : x.At wa w.heap.size := Wmg.at_of hb0.range hx
  have hcq : wa.cell? ⟨w.heap.size, 0, none⟩ = some (.int .i64 x.q) := by have h := hat.q 0 _ rfl; simpa using h
  have hcf : wa.cell? ⟨w.heap.size, 1, none⟩ = some (.int .i64 x.f) := by have h := hat.f 0 _ rfl; simpa using h
  have hct : wa.cell? ⟨w.heap.size, 2, none⟩ = some (.int .i64 x.t) := by have h := hat.t 0 _ rfl; simpa using h
  have HX := Lib.hid hx
  have HB0 := Lib.hid hb0
  have HB1 := Lib.hid hb1
  have HF0 := Lib.hid hf0
  have HWA := Lib.hid hwa
  have HSZ : Hid (wa.heap.size = w.heap.size + 2) := Lib.hid (by rw [hwa]; simp)
  obtain ⟨Z, hZ⟩ : ∃ Z, Z = (mz x.q x.f x.t).cells := ⟨_, rfl⟩
  have HBU : Hid (Tryz.prog.built 61 [(0, .int .i64 x.q), (1, .int .i64 x.f), (2, .int .i64 x.t)] = some Z.toArray) := Lib.hid (by rw [hZ]; exact built_mg3 _ _ _)
  have HZL : Hid ((Tryz.prog.info? 61).map (·.size) = some Z.toArray.size) := Lib.hid (by rw [hZ]; exact msg_size (mz_len _ _ _))
  have HZM : Hid (mz00.size = Z.toArray.size) := Lib.hid (by rw [hZ]; unfold mz00; rw [List.size_toArray, List.size_toArray, Wmg.lenz (mz_len _ _ _), Wmg.lenz (mz_len _ _ _)])
  have HZO : Hid (Z.toArray.all (·.oneCell') = true) := Lib.hid (by rw [hZ]; exact all_oneCell_toArray (Wmg.one _))
  have HZ := Lib.hid hZ
  have HQ := Lib.hid hq
  obtain ⟨q, hqq⟩ : ∃ q, q = x.q := ⟨_, rfl⟩
  obtain ⟨f, hff⟩ : ∃ f, f = x.f := ⟨_, rfl⟩
  obtain ⟨t, htt⟩ : ∃ t, t = x.t := ⟨_, rfl⟩
  rw [← hqq] at hcq
  rw [← hff] at hcf
  rw [← htt] at hct
  rw [← hqq, ← hff, ← htt] at HBU HZ
  have HQE := Lib.hid hqq
  have HFE := Lib.hid hff
  have HTE := Lib.hid htt
  clear hx hC hwa hf0 hb0 hb1 hat hZ hq hqq hff htt
  go_enter Tryz.func9, Tryz.ntmps9
  go_upto_region 1 with (fail)
  change Code.wp _ _ _ _ ((w.alloc (Obj.cells C.toArray 61)).alloc (Obj.cells mz00 61))
  rw [← HWA.out]
  go_upto_region 2 with (first
    | (refine wpList_builtg rfl 61 _ rfl _ _ HBU.out rfl ?_)
    | (refine wpList_store_blk rfl 61 _ _ rfl wa.heap.size Z.toArray rfl rfl 61 mz00 (Blk.new wa _ _) HZL.out HZM.out HZO.out ?_; intro w1 hb2 hf2))
  have HB2 : Hid (Blk w1 wa.heap.size 61 (mz q f t).cells.toArray) := Lib.hid (by rw [← HZ.out]; exact hb2)
  have HF1 : Hid (Fr [] wa w1) := Lib.hid (((Fr.refl [] wa).alloc _).go hf2 (by simp))
  clear hb2 hf2 hcf hct
  have hcq := HF1.out.cell hcq (by simp)
  have HB0 := Lib.hid (HB0.out.keep HF1.out (by simp))
  have HB1 := Lib.hid (HB1.out.keep HF1.out (by simp))
  have HBL1 : Hid (wa.heap.size < w1.heap.size) := Lib.hid HB2.out.lt
  have HAT := Lib.hid (Wmg.at_of HB0.out.range HX.out)
  have HZ0 := Lib.hid (mz_len q f t)
  rw [HQE.out, HQ.out] at hcq
  obtain ⟨V, hV⟩ : ∃ V, V = x.cm.cells := ⟨_, rfl⟩
  have HVL : Hid (V.length = 37) := Lib.hid (by rw [hV]; exact Wcm.len HX.out.cm.h)
  have HVR : Hid (w1.rangeAt w.heap.size 3 V) := Lib.hid (by rw [hV]; exact HAT.out.cm)
  have HV := Lib.hid hV
  clear hV
  have HZX : Hid (Wmg.Len {mz q f t with cm := x.cm}) := Lib.hid ⟨HX.out.cm.h, rfl, rfl, rfl, rfl, rfl, rfl⟩
  have HBX := Lib.hid (Wmg.blk_cm HZ0.out x.cm (by rw [← HV.out]; exact HVL.out) HB2.out)
  rw [← HV.out] at HBX
  have HFS : Hid (Fr [wa.heap.size] w1 (w1.setCells wa.heap.size 3 V)) := Lib.hid (Fr.setCells (fun _ => by simp) _ 3 _ (Fr.refl _ _))
  have HTH : Hid (w1.there wa.heap.size 3 V.toArray.size) := Lib.hid (HB2.out.thereM _ _ (by rw [List.size_toArray, List.size_toArray, HVL.out, Wmg.lenz HZ0.out]; decide))
  have HVS : Hid ((Tryz.prog.info? 29).map (·.size) = some V.toArray.size) := Lib.hid (by rw [List.size_toArray, HVL.out]; kernel_rfl)
  have HVO : Hid (V.toArray.all (·.oneCell') = true) := Lib.hid (by rw [HV.out]; exact all_oneCell_toArray (Wcm.one _))
  have HB9 : Hid (Blk (w1.setCells wa.heap.size 3 V) (w.heap.size + 1) 61 mz00) := Lib.hid (HB1.out.keep HFS.out (by have := HSZ.out; simp; omega))

  obtain ⟨E, hE⟩ : ∃ E, E = ({mz q f t with cm := x.cm} : Wmg).cells := ⟨_, rfl⟩
  have HEL : Hid (E.length = 295) := Lib.hid (by rw [hE]; exact Wmg.lenz HZX.out)
  have HEO : Hid (E.toArray.all (·.oneCell') = true) := Lib.hid (by rw [hE]; exact all_oneCell_toArray (Wmg.one _))
  have HES : Hid ((Tryz.prog.info? 61).map (·.size) = some E.toArray.size) := Lib.hid (by rw [List.size_toArray, HEL.out]; kernel_rfl)
  have HEM : Hid (mz00.size = E.toArray.size) := Lib.hid (by unfold mz00; rw [List.size_toArray, List.size_toArray, HEL.out, Wmg.lenz (mz_len _ _ _)])
  have HER : Hid ((w1.setCells wa.heap.size 3 V).rangeAt wa.heap.size 0 E) := Lib.hid (by rw [hE]; exact HBX.out.range)
  go_wp2_with (first | (refine wpList_load_mid rfl 29 _ rfl w.heap.size 3 rfl V _ HVR.out Tryz.underlying29 rfl (row_cmt.of HVL.out).2 ?_) | (refine wpList_store_mid rfl 29 _ _ rfl wa.heap.size 3 V.toArray rfl rfl HTH.out HVS.out HVO.out ?_) | (refine wpList_load_mid rfl 61 _ rfl wa.heap.size 0 rfl E _ HER.out Tryz.underlying61 rfl (row_msg.of HEL.out).2 ?_) | (refine wpList_store_blk rfl 61 _ _ rfl (w.heap.size + 1) E.toArray rfl rfl 61 mz00 HB9.out HES.out HEM.out HEO.out ?_; intro w9 hb9 hf9))
  refine bodyPost_ret (v := .agg E.toArray) (results_cell_row Tryz.results9 _ _ (w.heap.size + 1) 61 E.toArray _ _ rfl hb9 Tryz.underlying61 rfl HES.out) rfl ?_
  have HS9 : Fr [wa.heap.size, w.heap.size + 1] w1 w9 := (HFS.out.mono (by intro k hk _; simp at hk; simp [hk])).trans hf9 (fun k hk _ => by simp at hk; simp [hk])
  refine ⟨{mz q f t with cm := x.cm}, by rw [hE], ?_, ?_, (HF0.out.and HF1.out (by simp)).go HS9 (by have := HSZ.out; simp; omega)⟩
  · have hqe : x.con.q = 1 := HQ.out
    unfold onlyC
    rw [show x.con.q = x.q from rfl, HQ.out]
    rw [HQE.out, HFE.out, HTE.out, HQ.out]
    rfl
  · have hz := mz_ok w9 [] q f t (by rw [HQE.out]; exact HX.out.q) (by rw [HFE.out]; exact HX.out.f) (by rw [HTE.out]; exact HX.out.t)
    have HW9 : Fr [] w w9 := (HF0.out.and HF1.out (by simp)).go HS9 (by have := HSZ.out; simp; omega)
    exact ⟨hz.q, hz.f, hz.t, HX.out.cm, hz.st, hz.ce, hz.ak, hz.e, hz.r, hz.tm, hz.pr, hz.po, hz.vt, hz.i, hz.en, hz.op, hz.dn, hz.rp, hz.de⟩
set_option maxHeartbeats 2000000 in
theorem only_2 (x : Wmg) (hq : x.q = 2) (w : World) (hx : x.Ok w []) (C : List Value) (hC : x.cells = C) :
    Calls Tryz.prog 9 #[.agg C.toArray] w (OnlyPost x w) := by
  obtain ⟨wa, hwa⟩ : ∃ wa, wa = (w.alloc (Obj.cells C.toArray 61)).alloc (Obj.cells mz00 61) := ⟨_, rfl⟩
  have hf0 : Fr [] w wa := by rw [hwa]; exact ((Fr.refl [] w).alloc _).alloc _
  have hb0 : Blk wa w.heap.size 61 x.cells.toArray := by rw [hwa, hC]; exact blk_alloc (Blk.new _ _ _)
  have hb1 : Blk wa (w.heap.size + 1) 61 mz00 := by
    have := Blk.new (w.alloc (Obj.cells C.toArray 61)) 61 mz00
    rw [hwa]
    simpa using this
  have hat : x.At wa w.heap.size := Wmg.at_of hb0.range hx
  have hcq : wa.cell? ⟨w.heap.size, 0, none⟩ = some (.int .i64 x.q) := by have h := hat.q 0 _ rfl; simpa using h
  have hcf : wa.cell? ⟨w.heap.size, 1, none⟩ = some (.int .i64 x.f) := by have h := hat.f 0 _ rfl; simpa using h
  have hct : wa.cell? ⟨w.heap.size, 2, none⟩ = some (.int .i64 x.t) := by have h := hat.t 0 _ rfl; simpa using h
  have HX := Lib.hid hx
  have HB0 := Lib.hid hb0
  have HB1 := Lib.hid hb1
  have HF0 := Lib.hid hf0
  have HWA := Lib.hid hwa
  have HSZ : Hid (wa.heap.size = w.heap.size + 2) := Lib.hid (by rw [hwa]; simp)
  obtain ⟨Z, hZ⟩ : ∃ Z, Z = (mz x.q x.f x.t).cells := ⟨_, rfl⟩
  have HBU : Hid (Tryz.prog.built 61 [(0, .int .i64 x.q), (1, .int .i64 x.f), (2, .int .i64 x.t)] = some Z.toArray) := Lib.hid (by rw [hZ]; exact built_mg3 _ _ _)
  have HZL : Hid ((Tryz.prog.info? 61).map (·.size) = some Z.toArray.size) := Lib.hid (by rw [hZ]; exact msg_size (mz_len _ _ _))
  have HZM : Hid (mz00.size = Z.toArray.size) := Lib.hid (by rw [hZ]; unfold mz00; rw [List.size_toArray, List.size_toArray, Wmg.lenz (mz_len _ _ _), Wmg.lenz (mz_len _ _ _)])
  have HZO : Hid (Z.toArray.all (·.oneCell') = true) := Lib.hid (by rw [hZ]; exact all_oneCell_toArray (Wmg.one _))
  have HZ := Lib.hid hZ
  have HQ := Lib.hid hq
  obtain ⟨q, hqq⟩ : ∃ q, q = x.q := ⟨_, rfl⟩
  obtain ⟨f, hff⟩ : ∃ f, f = x.f := ⟨_, rfl⟩
  obtain ⟨t, htt⟩ : ∃ t, t = x.t := ⟨_, rfl⟩
  rw [← hqq] at hcq
  rw [← hff] at hcf
  rw [← htt] at hct
  rw [← hqq, ← hff, ← htt] at HBU HZ
  have HQE := Lib.hid hqq
  have HFE := Lib.hid hff
  have HTE := Lib.hid htt
  clear hx hC hwa hf0 hb0 hb1 hat hZ hq hqq hff htt
  go_enter Tryz.func9, Tryz.ntmps9
  go_upto_region 1 with (fail)
  change Code.wp _ _ _ _ ((w.alloc (Obj.cells C.toArray 61)).alloc (Obj.cells mz00 61))
  rw [← HWA.out]
  go_upto_region 2 with (first
    | (refine wpList_builtg rfl 61 _ rfl _ _ HBU.out rfl ?_)
    | (refine wpList_store_blk rfl 61 _ _ rfl wa.heap.size Z.toArray rfl rfl 61 mz00 (Blk.new wa _ _) HZL.out HZM.out HZO.out ?_; intro w1 hb2 hf2))
  have HB2 : Hid (Blk w1 wa.heap.size 61 (mz q f t).cells.toArray) := Lib.hid (by rw [← HZ.out]; exact hb2)
  have HF1 : Hid (Fr [] wa w1) := Lib.hid (((Fr.refl [] wa).alloc _).go hf2 (by simp))
  clear hb2 hf2 hcf hct
  have hcq := HF1.out.cell hcq (by simp)
  have HB0 := Lib.hid (HB0.out.keep HF1.out (by simp))
  have HB1 := Lib.hid (HB1.out.keep HF1.out (by simp))
  have HBL1 : Hid (wa.heap.size < w1.heap.size) := Lib.hid HB2.out.lt
  have HAT := Lib.hid (Wmg.at_of HB0.out.range HX.out)
  have HZ0 := Lib.hid (mz_len q f t)
  rw [HQE.out, HQ.out] at hcq
  obtain ⟨V, hV⟩ : ∃ V, V = x.st.cells := ⟨_, rfl⟩
  have HVL : Hid (V.length = 38) := Lib.hid (by rw [hV]; exact Wst.len HX.out.st.h)
  have HVR : Hid (w1.rangeAt w.heap.size 40 V) := Lib.hid (by rw [hV]; exact HAT.out.st)
  have HV := Lib.hid hV
  clear hV
  have HZX : Hid (Wmg.Len {mz q f t with st := x.st}) := Lib.hid ⟨rfl, HX.out.st.h, rfl, rfl, rfl, rfl, rfl⟩
  have HBX := Lib.hid (Wmg.blk_st HZ0.out x.st (by rw [← HV.out]; exact HVL.out) HB2.out)
  rw [← HV.out] at HBX
  have HFS : Hid (Fr [wa.heap.size] w1 (w1.setCells wa.heap.size 40 V)) := Lib.hid (Fr.setCells (fun _ => by simp) _ 40 _ (Fr.refl _ _))
  have HTH : Hid (w1.there wa.heap.size 40 V.toArray.size) := Lib.hid (HB2.out.thereM _ _ (by rw [List.size_toArray, List.size_toArray, HVL.out, Wmg.lenz HZ0.out]; decide))
  have HVS : Hid ((Tryz.prog.info? 32).map (·.size) = some V.toArray.size) := Lib.hid (by rw [List.size_toArray, HVL.out]; kernel_rfl)
  have HVO : Hid (V.toArray.all (·.oneCell') = true) := Lib.hid (by rw [HV.out]; exact all_oneCell_toArray (Wst.one _))
  have HB9 : Hid (Blk (w1.setCells wa.heap.size 40 V) (w.heap.size + 1) 61 mz00) := Lib.hid (HB1.out.keep HFS.out (by have := HSZ.out; simp; omega))

  obtain ⟨E, hE⟩ : ∃ E, E = ({mz q f t with st := x.st} : Wmg).cells := ⟨_, rfl⟩
  have HEL : Hid (E.length = 295) := Lib.hid (by rw [hE]; exact Wmg.lenz HZX.out)
  have HEO : Hid (E.toArray.all (·.oneCell') = true) := Lib.hid (by rw [hE]; exact all_oneCell_toArray (Wmg.one _))
  have HES : Hid ((Tryz.prog.info? 61).map (·.size) = some E.toArray.size) := Lib.hid (by rw [List.size_toArray, HEL.out]; kernel_rfl)
  have HEM : Hid (mz00.size = E.toArray.size) := Lib.hid (by unfold mz00; rw [List.size_toArray, List.size_toArray, HEL.out, Wmg.lenz (mz_len _ _ _)])
  have HER : Hid ((w1.setCells wa.heap.size 40 V).rangeAt wa.heap.size 0 E) := Lib.hid (by rw [hE]; exact HBX.out.range)
  go_wp2_with (first | (refine wpList_load_mid rfl 32 _ rfl w.heap.size 40 rfl V _ HVR.out Tryz.underlying32 rfl (row_stkO.of HVL.out).2 ?_) | (refine wpList_store_mid rfl 32 _ _ rfl wa.heap.size 40 V.toArray rfl rfl HTH.out HVS.out HVO.out ?_) | (refine wpList_load_mid rfl 61 _ rfl wa.heap.size 0 rfl E _ HER.out Tryz.underlying61 rfl (row_msg.of HEL.out).2 ?_) | (refine wpList_store_blk rfl 61 _ _ rfl (w.heap.size + 1) E.toArray rfl rfl 61 mz00 HB9.out HES.out HEM.out HEO.out ?_; intro w9 hb9 hf9))
  refine bodyPost_ret (v := .agg E.toArray) (results_cell_row Tryz.results9 _ _ (w.heap.size + 1) 61 E.toArray _ _ rfl hb9 Tryz.underlying61 rfl HES.out) rfl ?_
  have HS9 : Fr [wa.heap.size, w.heap.size + 1] w1 w9 := (HFS.out.mono (by intro k hk _; simp at hk; simp [hk])).trans hf9 (fun k hk _ => by simp at hk; simp [hk])
  refine ⟨{mz q f t with st := x.st}, by rw [hE], ?_, ?_, (HF0.out.and HF1.out (by simp)).go HS9 (by have := HSZ.out; simp; omega)⟩
  · have hqe : x.con.q = 2 := HQ.out
    unfold onlyC
    rw [show x.con.q = x.q from rfl, HQ.out]
    rw [HQE.out, HFE.out, HTE.out, HQ.out]
    rfl
  · have hz := mz_ok w9 [] q f t (by rw [HQE.out]; exact HX.out.q) (by rw [HFE.out]; exact HX.out.f) (by rw [HTE.out]; exact HX.out.t)
    have HW9 : Fr [] w w9 := (HF0.out.and HF1.out (by simp)).go HS9 (by have := HSZ.out; simp; omega)
    exact ⟨hz.q, hz.f, hz.t, hz.cm, HX.out.st, hz.ce, hz.ak, hz.e, hz.r, hz.tm, hz.pr, hz.po, hz.vt, hz.i, hz.en, hz.op, hz.dn, hz.rp, hz.de⟩
set_option maxHeartbeats 2000000 in
theorem only_3 (x : Wmg) (hq : x.q = 3) (w : World) (hx : x.Ok w []) (C : List Value) (hC : x.cells = C) :
    Calls Tryz.prog 9 #[.agg C.toArray] w (OnlyPost x w) := by
  obtain ⟨wa, hwa⟩ : ∃ wa, wa = (w.alloc (Obj.cells C.toArray 61)).alloc (Obj.cells mz00 61) := ⟨_, rfl⟩
  have hf0 : Fr [] w wa := by rw [hwa]; exact ((Fr.refl [] w).alloc _).alloc _
  have hb0 : Blk wa w.heap.size 61 x.cells.toArray := by rw [hwa, hC]; exact blk_alloc (Blk.new _ _ _)
  have hb1 : Blk wa (w.heap.size + 1) 61 mz00 := by
    have := Blk.new (w.alloc (Obj.cells C.toArray 61)) 61 mz00
    rw [hwa]
    simpa using this
  have hat : x.At wa w.heap.size := Wmg.at_of hb0.range hx
  have hcq : wa.cell? ⟨w.heap.size, 0, none⟩ = some (.int .i64 x.q) := by have h := hat.q 0 _ rfl; simpa using h
  have hcf : wa.cell? ⟨w.heap.size, 1, none⟩ = some (.int .i64 x.f) := by have h := hat.f 0 _ rfl; simpa using h
  have hct : wa.cell? ⟨w.heap.size, 2, none⟩ = some (.int .i64 x.t) := by have h := hat.t 0 _ rfl; simpa using h
  have HX := Lib.hid hx
  have HB0 := Lib.hid hb0
  have HB1 := Lib.hid hb1
  have HF0 := Lib.hid hf0
  have HWA := Lib.hid hwa
  have HSZ : Hid (wa.heap.size = w.heap.size + 2) := Lib.hid (by rw [hwa]; simp)
  obtain ⟨Z, hZ⟩ : ∃ Z, Z = (mz x.q x.f x.t).cells := ⟨_, rfl⟩
  have HBU : Hid (Tryz.prog.built 61 [(0, .int .i64 x.q), (1, .int .i64 x.f), (2, .int .i64 x.t)] = some Z.toArray) := Lib.hid (by rw [hZ]; exact built_mg3 _ _ _)
  have HZL : Hid ((Tryz.prog.info? 61).map (·.size) = some Z.toArray.size) := Lib.hid (by rw [hZ]; exact msg_size (mz_len _ _ _))
  have HZM : Hid (mz00.size = Z.toArray.size) := Lib.hid (by rw [hZ]; unfold mz00; rw [List.size_toArray, List.size_toArray, Wmg.lenz (mz_len _ _ _), Wmg.lenz (mz_len _ _ _)])
  have HZO : Hid (Z.toArray.all (·.oneCell') = true) := Lib.hid (by rw [hZ]; exact all_oneCell_toArray (Wmg.one _))
  have HZ := Lib.hid hZ
  have HQ := Lib.hid hq
  obtain ⟨q, hqq⟩ : ∃ q, q = x.q := ⟨_, rfl⟩
  obtain ⟨f, hff⟩ : ∃ f, f = x.f := ⟨_, rfl⟩
  obtain ⟨t, htt⟩ : ∃ t, t = x.t := ⟨_, rfl⟩
  rw [← hqq] at hcq
  rw [← hff] at hcf
  rw [← htt] at hct
  rw [← hqq, ← hff, ← htt] at HBU HZ
  have HQE := Lib.hid hqq
  have HFE := Lib.hid hff
  have HTE := Lib.hid htt
  clear hx hC hwa hf0 hb0 hb1 hat hZ hq hqq hff htt
  go_enter Tryz.func9, Tryz.ntmps9
  go_upto_region 1 with (fail)
  change Code.wp _ _ _ _ ((w.alloc (Obj.cells C.toArray 61)).alloc (Obj.cells mz00 61))
  rw [← HWA.out]
  go_upto_region 2 with (first
    | (refine wpList_builtg rfl 61 _ rfl _ _ HBU.out rfl ?_)
    | (refine wpList_store_blk rfl 61 _ _ rfl wa.heap.size Z.toArray rfl rfl 61 mz00 (Blk.new wa _ _) HZL.out HZM.out HZO.out ?_; intro w1 hb2 hf2))
  have HB2 : Hid (Blk w1 wa.heap.size 61 (mz q f t).cells.toArray) := Lib.hid (by rw [← HZ.out]; exact hb2)
  have HF1 : Hid (Fr [] wa w1) := Lib.hid (((Fr.refl [] wa).alloc _).go hf2 (by simp))
  clear hb2 hf2 hcf hct
  have hcq := HF1.out.cell hcq (by simp)
  have HB0 := Lib.hid (HB0.out.keep HF1.out (by simp))
  have HB1 := Lib.hid (HB1.out.keep HF1.out (by simp))
  have HBL1 : Hid (wa.heap.size < w1.heap.size) := Lib.hid HB2.out.lt
  have HAT := Lib.hid (Wmg.at_of HB0.out.range HX.out)
  have HZ0 := Lib.hid (mz_len q f t)
  rw [HQE.out, HQ.out] at hcq
  obtain ⟨V, hV⟩ : ∃ V, V = x.ce.cells := ⟨_, rfl⟩
  have HVL : Hid (V.length = 38) := Lib.hid (by rw [hV]; exact Wce.len HX.out.ce.k.h)
  have HVR : Hid (w1.rangeAt w.heap.size 78 V) := Lib.hid (by rw [hV]; exact HAT.out.ce)
  have HV := Lib.hid hV
  clear hV
  go_wp2_with (refine wpList_load_mid rfl 35 _ rfl w.heap.size 78 rfl V _ HVR.out Tryz.underlying35 rfl (row_crt.of HVL.out).2 ?_)
  have hcp := copyCert_any x.ce w1 (HX.out.ce.keep (HF0.out.and HF1.out (by simp)) (by simp))
  rw [← HV.out] at hcp
  refine hcp.mono ?_
  rintro e_ w2 ⟨y, rfl, hyc, hyok, hf2⟩
  have HYC := Lib.hid hyc
  have HYO := Lib.hid hyok
  have HF2 := Lib.hid hf2
  have HF1 : Hid (Fr [] wa w2) := Lib.hid (HF1.out.and hf2 (by simp))
  have HB2 := Lib.hid (HB2.out.keep hf2 (by simp))
  have HB1 := Lib.hid (HB1.out.keep hf2 (by simp))
  have HSW1 : Hid (wa.heap.size < w1.heap.size) := Lib.hid HBL1.out
  clear hcp hyc hyok hf2
  obtain ⟨U, hU⟩ : ∃ U, U = y.cells := ⟨_, rfl⟩
  have HU := Lib.hid hU
  have HUL : Hid (U.length = 38) := Lib.hid (by rw [hU]; exact Wce.len (HYO.out [] (by simp)).k.h)
  rw [← hU]
  clear hU
  have HZX : Hid (Wmg.Len {mz q f t with ce := y}) := Lib.hid ⟨rfl, rfl, (HYO.out [] (by simp)).k.h, rfl, rfl, rfl, rfl⟩
  have HBX := Lib.hid (Wmg.blk_ce HZ0.out y (by rw [← HU.out]; exact HUL.out) HB2.out)
  rw [← HU.out] at HBX
  have HFS : Hid (Fr [wa.heap.size] w2 (w2.setCells wa.heap.size 78 U)) := Lib.hid (Fr.setCells (fun _ => by simp) _ 78 _ (Fr.refl _ _))
  have HTH : Hid (w2.there wa.heap.size 78 U.toArray.size) := Lib.hid (HB2.out.thereM _ _ (by rw [List.size_toArray, List.size_toArray, HUL.out, Wmg.lenz HZ0.out]; decide))
  have HVS : Hid ((Tryz.prog.info? 35).map (·.size) = some U.toArray.size) := Lib.hid (by rw [List.size_toArray, HUL.out]; kernel_rfl)
  have HVO : Hid (U.toArray.all (·.oneCell') = true) := Lib.hid (by rw [HU.out]; exact all_oneCell_toArray (Wce.one _))
  have HB9 : Hid (Blk (w2.setCells wa.heap.size 78 U) (w.heap.size + 1) 61 mz00) := Lib.hid (HB1.out.keep HFS.out (by have := HSZ.out; simp; omega))

  obtain ⟨E, hE⟩ : ∃ E, E = ({mz q f t with ce := y} : Wmg).cells := ⟨_, rfl⟩
  have HEL : Hid (E.length = 295) := Lib.hid (by rw [hE]; exact Wmg.lenz HZX.out)
  have HEO : Hid (E.toArray.all (·.oneCell') = true) := Lib.hid (by rw [hE]; exact all_oneCell_toArray (Wmg.one _))
  have HES : Hid ((Tryz.prog.info? 61).map (·.size) = some E.toArray.size) := Lib.hid (by rw [List.size_toArray, HEL.out]; kernel_rfl)
  have HEM : Hid (mz00.size = E.toArray.size) := Lib.hid (by unfold mz00; rw [List.size_toArray, List.size_toArray, HEL.out, Wmg.lenz (mz_len _ _ _)])
  have HER : Hid ((w2.setCells wa.heap.size 78 U).rangeAt wa.heap.size 0 E) := Lib.hid (by rw [hE]; exact HBX.out.range)
  go_wp2_with (first | (refine wpList_load_mid rfl 35 _ rfl w.heap.size 78 rfl V _ HVR.out Tryz.underlying35 rfl (row_crt.of HVL.out).2 ?_) | (refine wpList_store_mid rfl 35 _ _ rfl wa.heap.size 78 U.toArray rfl rfl HTH.out HVS.out HVO.out ?_) | (refine wpList_load_mid rfl 61 _ rfl wa.heap.size 0 rfl E _ HER.out Tryz.underlying61 rfl (row_msg.of HEL.out).2 ?_) | (refine wpList_store_blk rfl 61 _ _ rfl (w.heap.size + 1) E.toArray rfl rfl 61 mz00 HB9.out HES.out HEM.out HEO.out ?_; intro w9 hb9 hf9))
  refine bodyPost_ret (v := .agg E.toArray) (results_cell_row Tryz.results9 _ _ (w.heap.size + 1) 61 E.toArray _ _ rfl hb9 Tryz.underlying61 rfl HES.out) rfl ?_
  have HS9 : Fr [wa.heap.size, w.heap.size + 1] w2 w9 := (HFS.out.mono (by intro k hk _; simp at hk; simp [hk])).trans hf9 (fun k hk _ => by simp at hk; simp [hk])
  refine ⟨{mz q f t with ce := y}, by rw [hE], ?_, ?_, (HF0.out.and HF1.out (by simp)).go HS9 (by have := HSZ.out; simp; omega)⟩
  · have hqe : x.con.q = 3 := HQ.out
    unfold onlyC
    rw [show x.con.q = x.q from rfl, HQ.out]
    rw [HQE.out, HFE.out, HTE.out, HQ.out]
    simp only [Wmg.con, HYC.out]; rfl
  · have hz := mz_ok w9 [] q f t (by rw [HQE.out]; exact HX.out.q) (by rw [HFE.out]; exact HX.out.f) (by rw [HTE.out]; exact HX.out.t)
    have HW9 : Fr [] w w9 := (HF0.out.and HF1.out (by simp)).go HS9 (by have := HSZ.out; simp; omega)
    exact ⟨hz.q, hz.f, hz.t, hz.cm, hz.st, ((HYO.out [wa.heap.size, w.heap.size + 1] (by have h1 := HSZ.out; have h2 := HSW1.out; simp; omega)).keep (S' := []) HS9 (by simp)), hz.ak, hz.e, hz.r, hz.tm, hz.pr, hz.po, hz.vt, hz.i, hz.en, hz.op, hz.dn, hz.rp, hz.de⟩
set_option maxHeartbeats 2000000 in
theorem only_4 (x : Wmg) (hq : x.q = 4) (w : World) (hx : x.Ok w []) (C : List Value) (hC : x.cells = C) :
    Calls Tryz.prog 9 #[.agg C.toArray] w (OnlyPost x w) := by
  obtain ⟨wa, hwa⟩ : ∃ wa, wa = (w.alloc (Obj.cells C.toArray 61)).alloc (Obj.cells mz00 61) := ⟨_, rfl⟩
  have hf0 : Fr [] w wa := by rw [hwa]; exact ((Fr.refl [] w).alloc _).alloc _
  have hb0 : Blk wa w.heap.size 61 x.cells.toArray := by rw [hwa, hC]; exact blk_alloc (Blk.new _ _ _)
  have hb1 : Blk wa (w.heap.size + 1) 61 mz00 := by
    have := Blk.new (w.alloc (Obj.cells C.toArray 61)) 61 mz00
    rw [hwa]
    simpa using this
  have hat : x.At wa w.heap.size := Wmg.at_of hb0.range hx
  have hcq : wa.cell? ⟨w.heap.size, 0, none⟩ = some (.int .i64 x.q) := by have h := hat.q 0 _ rfl; simpa using h
  have hcf : wa.cell? ⟨w.heap.size, 1, none⟩ = some (.int .i64 x.f) := by have h := hat.f 0 _ rfl; simpa using h
  have hct : wa.cell? ⟨w.heap.size, 2, none⟩ = some (.int .i64 x.t) := by have h := hat.t 0 _ rfl; simpa using h
  have HX := Lib.hid hx
  have HB0 := Lib.hid hb0
  have HB1 := Lib.hid hb1
  have HF0 := Lib.hid hf0
  have HWA := Lib.hid hwa
  have HSZ : Hid (wa.heap.size = w.heap.size + 2) := Lib.hid (by rw [hwa]; simp)
  obtain ⟨Z, hZ⟩ : ∃ Z, Z = (mz x.q x.f x.t).cells := ⟨_, rfl⟩
  have HBU : Hid (Tryz.prog.built 61 [(0, .int .i64 x.q), (1, .int .i64 x.f), (2, .int .i64 x.t)] = some Z.toArray) := Lib.hid (by rw [hZ]; exact built_mg3 _ _ _)
  have HZL : Hid ((Tryz.prog.info? 61).map (·.size) = some Z.toArray.size) := Lib.hid (by rw [hZ]; exact msg_size (mz_len _ _ _))
  have HZM : Hid (mz00.size = Z.toArray.size) := Lib.hid (by rw [hZ]; unfold mz00; rw [List.size_toArray, List.size_toArray, Wmg.lenz (mz_len _ _ _), Wmg.lenz (mz_len _ _ _)])
  have HZO : Hid (Z.toArray.all (·.oneCell') = true) := Lib.hid (by rw [hZ]; exact all_oneCell_toArray (Wmg.one _))
  have HZ := Lib.hid hZ
  have HQ := Lib.hid hq
  obtain ⟨q, hqq⟩ : ∃ q, q = x.q := ⟨_, rfl⟩
  obtain ⟨f, hff⟩ : ∃ f, f = x.f := ⟨_, rfl⟩
  obtain ⟨t, htt⟩ : ∃ t, t = x.t := ⟨_, rfl⟩
  rw [← hqq] at hcq
  rw [← hff] at hcf
  rw [← htt] at hct
  rw [← hqq, ← hff, ← htt] at HBU HZ
  have HQE := Lib.hid hqq
  have HFE := Lib.hid hff
  have HTE := Lib.hid htt
  clear hx hC hwa hf0 hb0 hb1 hat hZ hq hqq hff htt
  go_enter Tryz.func9, Tryz.ntmps9
  go_upto_region 1 with (fail)
  change Code.wp _ _ _ _ ((w.alloc (Obj.cells C.toArray 61)).alloc (Obj.cells mz00 61))
  rw [← HWA.out]
  go_upto_region 2 with (first
    | (refine wpList_builtg rfl 61 _ rfl _ _ HBU.out rfl ?_)
    | (refine wpList_store_blk rfl 61 _ _ rfl wa.heap.size Z.toArray rfl rfl 61 mz00 (Blk.new wa _ _) HZL.out HZM.out HZO.out ?_; intro w1 hb2 hf2))
  have HB2 : Hid (Blk w1 wa.heap.size 61 (mz q f t).cells.toArray) := Lib.hid (by rw [← HZ.out]; exact hb2)
  have HF1 : Hid (Fr [] wa w1) := Lib.hid (((Fr.refl [] wa).alloc _).go hf2 (by simp))
  clear hb2 hf2 hcf hct
  have hcq := HF1.out.cell hcq (by simp)
  have HB0 := Lib.hid (HB0.out.keep HF1.out (by simp))
  have HB1 := Lib.hid (HB1.out.keep HF1.out (by simp))
  have HBL1 : Hid (wa.heap.size < w1.heap.size) := Lib.hid HB2.out.lt
  have HAT := Lib.hid (Wmg.at_of HB0.out.range HX.out)
  have HZ0 := Lib.hid (mz_len q f t)
  rw [HQE.out, HQ.out] at hcq
  obtain ⟨V, hV⟩ : ∃ V, V = x.ak.cells := ⟨_, rfl⟩
  have HVL : Hid (V.length = 38) := Lib.hid (by rw [hV]; exact Wst.len HX.out.ak.h)
  have HVR : Hid (w1.rangeAt w.heap.size 116 V) := Lib.hid (by rw [hV]; exact HAT.out.ak)
  have HV := Lib.hid hV
  clear hV
  have HZX : Hid (Wmg.Len {mz q f t with ak := x.ak}) := Lib.hid ⟨rfl, rfl, rfl, HX.out.ak.h, rfl, rfl, rfl⟩
  have HBX := Lib.hid (Wmg.blk_ak HZ0.out x.ak (by rw [← HV.out]; exact HVL.out) HB2.out)
  rw [← HV.out] at HBX
  have HFS : Hid (Fr [wa.heap.size] w1 (w1.setCells wa.heap.size 116 V)) := Lib.hid (Fr.setCells (fun _ => by simp) _ 116 _ (Fr.refl _ _))
  have HTH : Hid (w1.there wa.heap.size 116 V.toArray.size) := Lib.hid (HB2.out.thereM _ _ (by rw [List.size_toArray, List.size_toArray, HVL.out, Wmg.lenz HZ0.out]; decide))
  have HVS : Hid ((Tryz.prog.info? 37).map (·.size) = some V.toArray.size) := Lib.hid (by rw [List.size_toArray, HVL.out]; kernel_rfl)
  have HVO : Hid (V.toArray.all (·.oneCell') = true) := Lib.hid (by rw [HV.out]; exact all_oneCell_toArray (Wst.one _))
  have HB9 : Hid (Blk (w1.setCells wa.heap.size 116 V) (w.heap.size + 1) 61 mz00) := Lib.hid (HB1.out.keep HFS.out (by have := HSZ.out; simp; omega))

  obtain ⟨E, hE⟩ : ∃ E, E = ({mz q f t with ak := x.ak} : Wmg).cells := ⟨_, rfl⟩
  have HEL : Hid (E.length = 295) := Lib.hid (by rw [hE]; exact Wmg.lenz HZX.out)
  have HEO : Hid (E.toArray.all (·.oneCell') = true) := Lib.hid (by rw [hE]; exact all_oneCell_toArray (Wmg.one _))
  have HES : Hid ((Tryz.prog.info? 61).map (·.size) = some E.toArray.size) := Lib.hid (by rw [List.size_toArray, HEL.out]; kernel_rfl)
  have HEM : Hid (mz00.size = E.toArray.size) := Lib.hid (by unfold mz00; rw [List.size_toArray, List.size_toArray, HEL.out, Wmg.lenz (mz_len _ _ _)])
  have HER : Hid ((w1.setCells wa.heap.size 116 V).rangeAt wa.heap.size 0 E) := Lib.hid (by rw [hE]; exact HBX.out.range)
  go_wp2_with (first | (refine wpList_load_mid rfl 37 _ rfl w.heap.size 116 rfl V _ HVR.out Tryz.underlying37 rfl (row_akO.of HVL.out).2 ?_) | (refine wpList_store_mid rfl 37 _ _ rfl wa.heap.size 116 V.toArray rfl rfl HTH.out HVS.out HVO.out ?_) | (refine wpList_load_mid rfl 61 _ rfl wa.heap.size 0 rfl E _ HER.out Tryz.underlying61 rfl (row_msg.of HEL.out).2 ?_) | (refine wpList_store_blk rfl 61 _ _ rfl (w.heap.size + 1) E.toArray rfl rfl 61 mz00 HB9.out HES.out HEM.out HEO.out ?_; intro w9 hb9 hf9))
  refine bodyPost_ret (v := .agg E.toArray) (results_cell_row Tryz.results9 _ _ (w.heap.size + 1) 61 E.toArray _ _ rfl hb9 Tryz.underlying61 rfl HES.out) rfl ?_
  have HS9 : Fr [wa.heap.size, w.heap.size + 1] w1 w9 := (HFS.out.mono (by intro k hk _; simp at hk; simp [hk])).trans hf9 (fun k hk _ => by simp at hk; simp [hk])
  refine ⟨{mz q f t with ak := x.ak}, by rw [hE], ?_, ?_, (HF0.out.and HF1.out (by simp)).go HS9 (by have := HSZ.out; simp; omega)⟩
  · have hqe : x.con.q = 4 := HQ.out
    unfold onlyC
    rw [show x.con.q = x.q from rfl, HQ.out]
    rw [HQE.out, HFE.out, HTE.out, HQ.out]
    rfl
  · have hz := mz_ok w9 [] q f t (by rw [HQE.out]; exact HX.out.q) (by rw [HFE.out]; exact HX.out.f) (by rw [HTE.out]; exact HX.out.t)
    have HW9 : Fr [] w w9 := (HF0.out.and HF1.out (by simp)).go HS9 (by have := HSZ.out; simp; omega)
    exact ⟨hz.q, hz.f, hz.t, hz.cm, hz.st, hz.ce, HX.out.ak, hz.e, hz.r, hz.tm, hz.pr, hz.po, hz.vt, hz.i, hz.en, hz.op, hz.dn, hz.rp, hz.de⟩
set_option maxHeartbeats 2000000 in
theorem only_6 (x : Wmg) (hq : x.q = 6) (w : World) (hx : x.Ok w []) (C : List Value) (hC : x.cells = C) :
    Calls Tryz.prog 9 #[.agg C.toArray] w (OnlyPost x w) := by
  obtain ⟨wa, hwa⟩ : ∃ wa, wa = (w.alloc (Obj.cells C.toArray 61)).alloc (Obj.cells mz00 61) := ⟨_, rfl⟩
  have hf0 : Fr [] w wa := by rw [hwa]; exact ((Fr.refl [] w).alloc _).alloc _
  have hb0 : Blk wa w.heap.size 61 x.cells.toArray := by rw [hwa, hC]; exact blk_alloc (Blk.new _ _ _)
  have hb1 : Blk wa (w.heap.size + 1) 61 mz00 := by
    have := Blk.new (w.alloc (Obj.cells C.toArray 61)) 61 mz00
    rw [hwa]
    simpa using this
  have hat : x.At wa w.heap.size := Wmg.at_of hb0.range hx
  have hcq : wa.cell? ⟨w.heap.size, 0, none⟩ = some (.int .i64 x.q) := by have h := hat.q 0 _ rfl; simpa using h
  have hcf : wa.cell? ⟨w.heap.size, 1, none⟩ = some (.int .i64 x.f) := by have h := hat.f 0 _ rfl; simpa using h
  have hct : wa.cell? ⟨w.heap.size, 2, none⟩ = some (.int .i64 x.t) := by have h := hat.t 0 _ rfl; simpa using h
  have HX := Lib.hid hx
  have HB0 := Lib.hid hb0
  have HB1 := Lib.hid hb1
  have HF0 := Lib.hid hf0
  have HWA := Lib.hid hwa
  have HSZ : Hid (wa.heap.size = w.heap.size + 2) := Lib.hid (by rw [hwa]; simp)
  obtain ⟨Z, hZ⟩ : ∃ Z, Z = (mz x.q x.f x.t).cells := ⟨_, rfl⟩
  have HBU : Hid (Tryz.prog.built 61 [(0, .int .i64 x.q), (1, .int .i64 x.f), (2, .int .i64 x.t)] = some Z.toArray) := Lib.hid (by rw [hZ]; exact built_mg3 _ _ _)
  have HZL : Hid ((Tryz.prog.info? 61).map (·.size) = some Z.toArray.size) := Lib.hid (by rw [hZ]; exact msg_size (mz_len _ _ _))
  have HZM : Hid (mz00.size = Z.toArray.size) := Lib.hid (by rw [hZ]; unfold mz00; rw [List.size_toArray, List.size_toArray, Wmg.lenz (mz_len _ _ _), Wmg.lenz (mz_len _ _ _)])
  have HZO : Hid (Z.toArray.all (·.oneCell') = true) := Lib.hid (by rw [hZ]; exact all_oneCell_toArray (Wmg.one _))
  have HZ := Lib.hid hZ
  have HQ := Lib.hid hq
  obtain ⟨q, hqq⟩ : ∃ q, q = x.q := ⟨_, rfl⟩
  obtain ⟨f, hff⟩ : ∃ f, f = x.f := ⟨_, rfl⟩
  obtain ⟨t, htt⟩ : ∃ t, t = x.t := ⟨_, rfl⟩
  rw [← hqq] at hcq
  rw [← hff] at hcf
  rw [← htt] at hct
  rw [← hqq, ← hff, ← htt] at HBU HZ
  have HQE := Lib.hid hqq
  have HFE := Lib.hid hff
  have HTE := Lib.hid htt
  clear hx hC hwa hf0 hb0 hb1 hat hZ hq hqq hff htt
  go_enter Tryz.func9, Tryz.ntmps9
  go_upto_region 1 with (fail)
  change Code.wp _ _ _ _ ((w.alloc (Obj.cells C.toArray 61)).alloc (Obj.cells mz00 61))
  rw [← HWA.out]
  go_upto_region 2 with (first
    | (refine wpList_builtg rfl 61 _ rfl _ _ HBU.out rfl ?_)
    | (refine wpList_store_blk rfl 61 _ _ rfl wa.heap.size Z.toArray rfl rfl 61 mz00 (Blk.new wa _ _) HZL.out HZM.out HZO.out ?_; intro w1 hb2 hf2))
  have HB2 : Hid (Blk w1 wa.heap.size 61 (mz q f t).cells.toArray) := Lib.hid (by rw [← HZ.out]; exact hb2)
  have HF1 : Hid (Fr [] wa w1) := Lib.hid (((Fr.refl [] wa).alloc _).go hf2 (by simp))
  clear hb2 hf2 hcf hct
  have hcq := HF1.out.cell hcq (by simp)
  have HB0 := Lib.hid (HB0.out.keep HF1.out (by simp))
  have HB1 := Lib.hid (HB1.out.keep HF1.out (by simp))
  have HBL1 : Hid (wa.heap.size < w1.heap.size) := Lib.hid HB2.out.lt
  have HAT := Lib.hid (Wmg.at_of HB0.out.range HX.out)
  have HZ0 := Lib.hid (mz_len q f t)
  rw [HQE.out, HQ.out] at hcq
  obtain ⟨V, hV⟩ : ∃ V, V = x.pr.cells := ⟨_, rfl⟩
  have HVL : Hid (V.length = 6) := Lib.hid (by rw [hV]; exact Wpr.len _)
  have HVR : Hid (w1.rangeAt w.heap.size 157 V) := Lib.hid (by rw [hV]; exact HAT.out.pr)
  have HV := Lib.hid hV
  clear hV
  go_wp2_with (refine wpList_load_mid rfl 40 _ rfl w.heap.size 157 rfl V _ HVR.out Tryz.underlying40 rfl (row_prm.of HVL.out).2 ?_)
  have hcp := copyPromise_any x.pr w1 (HX.out.pr.keep (HF0.out.and HF1.out (by simp)) (by simp))
  rw [← HV.out] at hcp
  refine hcp.mono ?_
  rintro e_ w2 ⟨y, rfl, hyc, hyok, hf2⟩
  have HYC := Lib.hid hyc
  have HYO := Lib.hid hyok
  have HF2 := Lib.hid hf2
  have HF1 : Hid (Fr [] wa w2) := Lib.hid (HF1.out.and hf2 (by simp))
  have HB2 := Lib.hid (HB2.out.keep hf2 (by simp))
  have HB1 := Lib.hid (HB1.out.keep hf2 (by simp))
  have HSW1 : Hid (wa.heap.size < w1.heap.size) := Lib.hid HBL1.out
  clear hcp hyc hyok hf2
  obtain ⟨U, hU⟩ : ∃ U, U = y.cells := ⟨_, rfl⟩
  have HU := Lib.hid hU
  have HUL : Hid (U.length = 6) := Lib.hid (by rw [hU]; exact Wpr.len _)
  rw [← hU]
  clear hU
  have HZX : Hid (Wmg.Len {mz q f t with pr := y}) := Lib.hid ⟨rfl, rfl, rfl, rfl, rfl, rfl, rfl⟩
  have HBX := Lib.hid (Wmg.blk_pr HZ0.out y (by rw [← HU.out]; exact HUL.out) HB2.out)
  rw [← HU.out] at HBX
  have HFS : Hid (Fr [wa.heap.size] w2 (w2.setCells wa.heap.size 157 U)) := Lib.hid (Fr.setCells (fun _ => by simp) _ 157 _ (Fr.refl _ _))
  have HTH : Hid (w2.there wa.heap.size 157 U.toArray.size) := Lib.hid (HB2.out.thereM _ _ (by rw [List.size_toArray, List.size_toArray, HUL.out, Wmg.lenz HZ0.out]; decide))
  have HVS : Hid ((Tryz.prog.info? 40).map (·.size) = some U.toArray.size) := Lib.hid (by rw [List.size_toArray, HUL.out]; kernel_rfl)
  have HVO : Hid (U.toArray.all (·.oneCell') = true) := Lib.hid (by rw [HU.out]; exact all_oneCell_toArray (Wpr.one _))
  have HB9 : Hid (Blk (w2.setCells wa.heap.size 157 U) (w.heap.size + 1) 61 mz00) := Lib.hid (HB1.out.keep HFS.out (by have := HSZ.out; simp; omega))

  obtain ⟨E, hE⟩ : ∃ E, E = ({mz q f t with pr := y} : Wmg).cells := ⟨_, rfl⟩
  have HEL : Hid (E.length = 295) := Lib.hid (by rw [hE]; exact Wmg.lenz HZX.out)
  have HEO : Hid (E.toArray.all (·.oneCell') = true) := Lib.hid (by rw [hE]; exact all_oneCell_toArray (Wmg.one _))
  have HES : Hid ((Tryz.prog.info? 61).map (·.size) = some E.toArray.size) := Lib.hid (by rw [List.size_toArray, HEL.out]; kernel_rfl)
  have HEM : Hid (mz00.size = E.toArray.size) := Lib.hid (by unfold mz00; rw [List.size_toArray, List.size_toArray, HEL.out, Wmg.lenz (mz_len _ _ _)])
  have HER : Hid ((w2.setCells wa.heap.size 157 U).rangeAt wa.heap.size 0 E) := Lib.hid (by rw [hE]; exact HBX.out.range)
  go_wp2_with (first | (refine wpList_load_mid rfl 40 _ rfl w.heap.size 157 rfl V _ HVR.out Tryz.underlying40 rfl (row_prm.of HVL.out).2 ?_) | (refine wpList_store_mid rfl 40 _ _ rfl wa.heap.size 157 U.toArray rfl rfl HTH.out HVS.out HVO.out ?_) | (refine wpList_load_mid rfl 61 _ rfl wa.heap.size 0 rfl E _ HER.out Tryz.underlying61 rfl (row_msg.of HEL.out).2 ?_) | (refine wpList_store_blk rfl 61 _ _ rfl (w.heap.size + 1) E.toArray rfl rfl 61 mz00 HB9.out HES.out HEM.out HEO.out ?_; intro w9 hb9 hf9))
  refine bodyPost_ret (v := .agg E.toArray) (results_cell_row Tryz.results9 _ _ (w.heap.size + 1) 61 E.toArray _ _ rfl hb9 Tryz.underlying61 rfl HES.out) rfl ?_
  have HS9 : Fr [wa.heap.size, w.heap.size + 1] w2 w9 := (HFS.out.mono (by intro k hk _; simp at hk; simp [hk])).trans hf9 (fun k hk _ => by simp at hk; simp [hk])
  refine ⟨{mz q f t with pr := y}, by rw [hE], ?_, ?_, (HF0.out.and HF1.out (by simp)).go HS9 (by have := HSZ.out; simp; omega)⟩
  · have hqe : x.con.q = 6 := HQ.out
    unfold onlyC
    rw [show x.con.q = x.q from rfl, HQ.out]
    rw [HQE.out, HFE.out, HTE.out, HQ.out]
    simp only [Wmg.con, HYC.out]; rfl
  · have hz := mz_ok w9 [] q f t (by rw [HQE.out]; exact HX.out.q) (by rw [HFE.out]; exact HX.out.f) (by rw [HTE.out]; exact HX.out.t)
    have HW9 : Fr [] w w9 := (HF0.out.and HF1.out (by simp)).go HS9 (by have := HSZ.out; simp; omega)
    exact ⟨hz.q, hz.f, hz.t, hz.cm, hz.st, hz.ce, hz.ak, hz.e, hz.r, hz.tm, ((HYO.out [wa.heap.size, w.heap.size + 1] (by have h1 := HSZ.out; have h2 := HSW1.out; simp; omega)).keep (S' := []) HS9 (by simp)), hz.po, hz.vt, hz.i, hz.en, hz.op, hz.dn, hz.rp, hz.de⟩
set_option maxHeartbeats 2000000 in
theorem only_7 (x : Wmg) (hq : x.q = 7) (w : World) (hx : x.Ok w []) (C : List Value) (hC : x.cells = C) :
    Calls Tryz.prog 9 #[.agg C.toArray] w (OnlyPost x w) := by
  obtain ⟨wa, hwa⟩ : ∃ wa, wa = (w.alloc (Obj.cells C.toArray 61)).alloc (Obj.cells mz00 61) := ⟨_, rfl⟩
  have hf0 : Fr [] w wa := by rw [hwa]; exact ((Fr.refl [] w).alloc _).alloc _
  have hb0 : Blk wa w.heap.size 61 x.cells.toArray := by rw [hwa, hC]; exact blk_alloc (Blk.new _ _ _)
  have hb1 : Blk wa (w.heap.size + 1) 61 mz00 := by
    have := Blk.new (w.alloc (Obj.cells C.toArray 61)) 61 mz00
    rw [hwa]
    simpa using this
  have hat : x.At wa w.heap.size := Wmg.at_of hb0.range hx
  have hcq : wa.cell? ⟨w.heap.size, 0, none⟩ = some (.int .i64 x.q) := by have h := hat.q 0 _ rfl; simpa using h
  have hcf : wa.cell? ⟨w.heap.size, 1, none⟩ = some (.int .i64 x.f) := by have h := hat.f 0 _ rfl; simpa using h
  have hct : wa.cell? ⟨w.heap.size, 2, none⟩ = some (.int .i64 x.t) := by have h := hat.t 0 _ rfl; simpa using h
  have HX := Lib.hid hx
  have HB0 := Lib.hid hb0
  have HB1 := Lib.hid hb1
  have HF0 := Lib.hid hf0
  have HWA := Lib.hid hwa
  have HSZ : Hid (wa.heap.size = w.heap.size + 2) := Lib.hid (by rw [hwa]; simp)
  obtain ⟨Z, hZ⟩ : ∃ Z, Z = (mz x.q x.f x.t).cells := ⟨_, rfl⟩
  have HBU : Hid (Tryz.prog.built 61 [(0, .int .i64 x.q), (1, .int .i64 x.f), (2, .int .i64 x.t)] = some Z.toArray) := Lib.hid (by rw [hZ]; exact built_mg3 _ _ _)
  have HZL : Hid ((Tryz.prog.info? 61).map (·.size) = some Z.toArray.size) := Lib.hid (by rw [hZ]; exact msg_size (mz_len _ _ _))
  have HZM : Hid (mz00.size = Z.toArray.size) := Lib.hid (by rw [hZ]; unfold mz00; rw [List.size_toArray, List.size_toArray, Wmg.lenz (mz_len _ _ _), Wmg.lenz (mz_len _ _ _)])
  have HZO : Hid (Z.toArray.all (·.oneCell') = true) := Lib.hid (by rw [hZ]; exact all_oneCell_toArray (Wmg.one _))
  have HZ := Lib.hid hZ
  have HQ := Lib.hid hq
  obtain ⟨q, hqq⟩ : ∃ q, q = x.q := ⟨_, rfl⟩
  obtain ⟨f, hff⟩ : ∃ f, f = x.f := ⟨_, rfl⟩
  obtain ⟨t, htt⟩ : ∃ t, t = x.t := ⟨_, rfl⟩
  rw [← hqq] at hcq
  rw [← hff] at hcf
  rw [← htt] at hct
  rw [← hqq, ← hff, ← htt] at HBU HZ
  have HQE := Lib.hid hqq
  have HFE := Lib.hid hff
  have HTE := Lib.hid htt
  clear hx hC hwa hf0 hb0 hb1 hat hZ hq hqq hff htt
  go_enter Tryz.func9, Tryz.ntmps9
  go_upto_region 1 with (fail)
  change Code.wp _ _ _ _ ((w.alloc (Obj.cells C.toArray 61)).alloc (Obj.cells mz00 61))
  rw [← HWA.out]
  go_upto_region 2 with (first
    | (refine wpList_builtg rfl 61 _ rfl _ _ HBU.out rfl ?_)
    | (refine wpList_store_blk rfl 61 _ _ rfl wa.heap.size Z.toArray rfl rfl 61 mz00 (Blk.new wa _ _) HZL.out HZM.out HZO.out ?_; intro w1 hb2 hf2))
  have HB2 : Hid (Blk w1 wa.heap.size 61 (mz q f t).cells.toArray) := Lib.hid (by rw [← HZ.out]; exact hb2)
  have HF1 : Hid (Fr [] wa w1) := Lib.hid (((Fr.refl [] wa).alloc _).go hf2 (by simp))
  clear hb2 hf2 hcf hct
  have hcq := HF1.out.cell hcq (by simp)
  have HB0 := Lib.hid (HB0.out.keep HF1.out (by simp))
  have HB1 := Lib.hid (HB1.out.keep HF1.out (by simp))
  have HBL1 : Hid (wa.heap.size < w1.heap.size) := Lib.hid HB2.out.lt
  have HAT := Lib.hid (Wmg.at_of HB0.out.range HX.out)
  have HZ0 := Lib.hid (mz_len q f t)
  rw [HQE.out, HQ.out] at hcq
  obtain ⟨V, hV⟩ : ∃ V, V = x.po.cells := ⟨_, rfl⟩
  have HVL : Hid (V.length = 11) := Lib.hid (by rw [hV]; exact Wpo.len _)
  have HVR : Hid (w1.rangeAt w.heap.size 163 V) := Lib.hid (by rw [hV]; exact HAT.out.po)
  have HV := Lib.hid hV
  clear hV
  go_wp2_with (refine wpList_load_mid rfl 47 _ rfl w.heap.size 163 rfl V _ HVR.out Tryz.underlying47 rfl (row_poC.of HVL.out).2 ?_)
  have hcp := copyProposal_any x.po w1 (HX.out.po.keep (HF0.out.and HF1.out (by simp)) (by simp))
  rw [← HV.out] at hcp
  refine hcp.mono ?_
  rintro e_ w2 ⟨y, rfl, hyc, hyok, hf2⟩
  have HYC := Lib.hid hyc
  have HYO := Lib.hid hyok
  have HF2 := Lib.hid hf2
  have HF1 : Hid (Fr [] wa w2) := Lib.hid (HF1.out.and hf2 (by simp))
  have HB2 := Lib.hid (HB2.out.keep hf2 (by simp))
  have HB1 := Lib.hid (HB1.out.keep hf2 (by simp))
  have HSW1 : Hid (wa.heap.size < w1.heap.size) := Lib.hid HBL1.out
  clear hcp hyc hyok hf2
  obtain ⟨U, hU⟩ : ∃ U, U = y.cells := ⟨_, rfl⟩
  have HU := Lib.hid hU
  have HUL : Hid (U.length = 11) := Lib.hid (by rw [hU]; exact Wpo.len _)
  rw [← hU]
  clear hU
  have HZX : Hid (Wmg.Len {mz q f t with po := y}) := Lib.hid ⟨rfl, rfl, rfl, rfl, rfl, rfl, rfl⟩
  have HBX := Lib.hid (Wmg.blk_po HZ0.out y (by rw [← HU.out]; exact HUL.out) HB2.out)
  rw [← HU.out] at HBX
  have HFS : Hid (Fr [wa.heap.size] w2 (w2.setCells wa.heap.size 163 U)) := Lib.hid (Fr.setCells (fun _ => by simp) _ 163 _ (Fr.refl _ _))
  have HTH : Hid (w2.there wa.heap.size 163 U.toArray.size) := Lib.hid (HB2.out.thereM _ _ (by rw [List.size_toArray, List.size_toArray, HUL.out, Wmg.lenz HZ0.out]; decide))
  have HVS : Hid ((Tryz.prog.info? 47).map (·.size) = some U.toArray.size) := Lib.hid (by rw [List.size_toArray, HUL.out]; kernel_rfl)
  have HVO : Hid (U.toArray.all (·.oneCell') = true) := Lib.hid (by rw [HU.out]; exact all_oneCell_toArray (Wpo.one _))
  have HB9 : Hid (Blk (w2.setCells wa.heap.size 163 U) (w.heap.size + 1) 61 mz00) := Lib.hid (HB1.out.keep HFS.out (by have := HSZ.out; simp; omega))

  obtain ⟨E, hE⟩ : ∃ E, E = ({mz q f t with po := y} : Wmg).cells := ⟨_, rfl⟩
  have HEL : Hid (E.length = 295) := Lib.hid (by rw [hE]; exact Wmg.lenz HZX.out)
  have HEO : Hid (E.toArray.all (·.oneCell') = true) := Lib.hid (by rw [hE]; exact all_oneCell_toArray (Wmg.one _))
  have HES : Hid ((Tryz.prog.info? 61).map (·.size) = some E.toArray.size) := Lib.hid (by rw [List.size_toArray, HEL.out]; kernel_rfl)
  have HEM : Hid (mz00.size = E.toArray.size) := Lib.hid (by unfold mz00; rw [List.size_toArray, List.size_toArray, HEL.out, Wmg.lenz (mz_len _ _ _)])
  have HER : Hid ((w2.setCells wa.heap.size 163 U).rangeAt wa.heap.size 0 E) := Lib.hid (by rw [hE]; exact HBX.out.range)
  go_wp2_with (first | (refine wpList_load_mid rfl 47 _ rfl w.heap.size 163 rfl V _ HVR.out Tryz.underlying47 rfl (row_poC.of HVL.out).2 ?_) | (refine wpList_store_mid rfl 47 _ _ rfl wa.heap.size 163 U.toArray rfl rfl HTH.out HVS.out HVO.out ?_) | (refine wpList_load_mid rfl 61 _ rfl wa.heap.size 0 rfl E _ HER.out Tryz.underlying61 rfl (row_msg.of HEL.out).2 ?_) | (refine wpList_store_blk rfl 61 _ _ rfl (w.heap.size + 1) E.toArray rfl rfl 61 mz00 HB9.out HES.out HEM.out HEO.out ?_; intro w9 hb9 hf9))
  refine bodyPost_ret (v := .agg E.toArray) (results_cell_row Tryz.results9 _ _ (w.heap.size + 1) 61 E.toArray _ _ rfl hb9 Tryz.underlying61 rfl HES.out) rfl ?_
  have HS9 : Fr [wa.heap.size, w.heap.size + 1] w2 w9 := (HFS.out.mono (by intro k hk _; simp at hk; simp [hk])).trans hf9 (fun k hk _ => by simp at hk; simp [hk])
  refine ⟨{mz q f t with po := y}, by rw [hE], ?_, ?_, (HF0.out.and HF1.out (by simp)).go HS9 (by have := HSZ.out; simp; omega)⟩
  · have hqe : x.con.q = 7 := HQ.out
    unfold onlyC
    rw [show x.con.q = x.q from rfl, HQ.out]
    rw [HQE.out, HFE.out, HTE.out, HQ.out]
    simp only [Wmg.con, HYC.out]; rfl
  · have hz := mz_ok w9 [] q f t (by rw [HQE.out]; exact HX.out.q) (by rw [HFE.out]; exact HX.out.f) (by rw [HTE.out]; exact HX.out.t)
    have HW9 : Fr [] w w9 := (HF0.out.and HF1.out (by simp)).go HS9 (by have := HSZ.out; simp; omega)
    exact ⟨hz.q, hz.f, hz.t, hz.cm, hz.st, hz.ce, hz.ak, hz.e, hz.r, hz.tm, hz.pr, ((HYO.out [wa.heap.size, w.heap.size + 1] (by have h1 := HSZ.out; have h2 := HSW1.out; simp; omega)).keep (S' := []) HS9 (by simp)), hz.vt, hz.i, hz.en, hz.op, hz.dn, hz.rp, hz.de⟩
set_option maxHeartbeats 2000000 in
theorem only_8 (x : Wmg) (hq : x.q = 8) (w : World) (hx : x.Ok w []) (C : List Value) (hC : x.cells = C) :
    Calls Tryz.prog 9 #[.agg C.toArray] w (OnlyPost x w) := by
  obtain ⟨wa, hwa⟩ : ∃ wa, wa = (w.alloc (Obj.cells C.toArray 61)).alloc (Obj.cells mz00 61) := ⟨_, rfl⟩
  have hf0 : Fr [] w wa := by rw [hwa]; exact ((Fr.refl [] w).alloc _).alloc _
  have hb0 : Blk wa w.heap.size 61 x.cells.toArray := by rw [hwa, hC]; exact blk_alloc (Blk.new _ _ _)
  have hb1 : Blk wa (w.heap.size + 1) 61 mz00 := by
    have := Blk.new (w.alloc (Obj.cells C.toArray 61)) 61 mz00
    rw [hwa]
    simpa using this
  have hat : x.At wa w.heap.size := Wmg.at_of hb0.range hx
  have hcq : wa.cell? ⟨w.heap.size, 0, none⟩ = some (.int .i64 x.q) := by have h := hat.q 0 _ rfl; simpa using h
  have hcf : wa.cell? ⟨w.heap.size, 1, none⟩ = some (.int .i64 x.f) := by have h := hat.f 0 _ rfl; simpa using h
  have hct : wa.cell? ⟨w.heap.size, 2, none⟩ = some (.int .i64 x.t) := by have h := hat.t 0 _ rfl; simpa using h
  have HX := Lib.hid hx
  have HB0 := Lib.hid hb0
  have HB1 := Lib.hid hb1
  have HF0 := Lib.hid hf0
  have HWA := Lib.hid hwa
  have HSZ : Hid (wa.heap.size = w.heap.size + 2) := Lib.hid (by rw [hwa]; simp)
  obtain ⟨Z, hZ⟩ : ∃ Z, Z = (mz x.q x.f x.t).cells := ⟨_, rfl⟩
  have HBU : Hid (Tryz.prog.built 61 [(0, .int .i64 x.q), (1, .int .i64 x.f), (2, .int .i64 x.t)] = some Z.toArray) := Lib.hid (by rw [hZ]; exact built_mg3 _ _ _)
  have HZL : Hid ((Tryz.prog.info? 61).map (·.size) = some Z.toArray.size) := Lib.hid (by rw [hZ]; exact msg_size (mz_len _ _ _))
  have HZM : Hid (mz00.size = Z.toArray.size) := Lib.hid (by rw [hZ]; unfold mz00; rw [List.size_toArray, List.size_toArray, Wmg.lenz (mz_len _ _ _), Wmg.lenz (mz_len _ _ _)])
  have HZO : Hid (Z.toArray.all (·.oneCell') = true) := Lib.hid (by rw [hZ]; exact all_oneCell_toArray (Wmg.one _))
  have HZ := Lib.hid hZ
  have HQ := Lib.hid hq
  obtain ⟨q, hqq⟩ : ∃ q, q = x.q := ⟨_, rfl⟩
  obtain ⟨f, hff⟩ : ∃ f, f = x.f := ⟨_, rfl⟩
  obtain ⟨t, htt⟩ : ∃ t, t = x.t := ⟨_, rfl⟩
  rw [← hqq] at hcq
  rw [← hff] at hcf
  rw [← htt] at hct
  rw [← hqq, ← hff, ← htt] at HBU HZ
  have HQE := Lib.hid hqq
  have HFE := Lib.hid hff
  have HTE := Lib.hid htt
  clear hx hC hwa hf0 hb0 hb1 hat hZ hq hqq hff htt
  go_enter Tryz.func9, Tryz.ntmps9
  go_upto_region 1 with (fail)
  change Code.wp _ _ _ _ ((w.alloc (Obj.cells C.toArray 61)).alloc (Obj.cells mz00 61))
  rw [← HWA.out]
  go_upto_region 2 with (first
    | (refine wpList_builtg rfl 61 _ rfl _ _ HBU.out rfl ?_)
    | (refine wpList_store_blk rfl 61 _ _ rfl wa.heap.size Z.toArray rfl rfl 61 mz00 (Blk.new wa _ _) HZL.out HZM.out HZO.out ?_; intro w1 hb2 hf2))
  have HB2 : Hid (Blk w1 wa.heap.size 61 (mz q f t).cells.toArray) := Lib.hid (by rw [← HZ.out]; exact hb2)
  have HF1 : Hid (Fr [] wa w1) := Lib.hid (((Fr.refl [] wa).alloc _).go hf2 (by simp))
  clear hb2 hf2 hcf hct
  have hcq := HF1.out.cell hcq (by simp)
  have HB0 := Lib.hid (HB0.out.keep HF1.out (by simp))
  have HB1 := Lib.hid (HB1.out.keep HF1.out (by simp))
  have HBL1 : Hid (wa.heap.size < w1.heap.size) := Lib.hid HB2.out.lt
  have HAT := Lib.hid (Wmg.at_of HB0.out.range HX.out)
  have HZ0 := Lib.hid (mz_len q f t)
  rw [HQE.out, HQ.out] at hcq
  obtain ⟨V, hV⟩ : ∃ V, V = x.vt.cells := ⟨_, rfl⟩
  have HVL : Hid (V.length = 38) := Lib.hid (by rw [hV]; exact Wvt.len HX.out.vt.h)
  have HVR : Hid (w1.rangeAt w.heap.size 174 V) := Lib.hid (by rw [hV]; exact HAT.out.vt)
  have HV := Lib.hid hV
  clear hV
  have HZX : Hid (Wmg.Len {mz q f t with vt := x.vt}) := Lib.hid ⟨rfl, rfl, rfl, rfl, HX.out.vt.h, rfl, rfl⟩
  have HBX := Lib.hid (Wmg.blk_vt HZ0.out x.vt (by rw [← HV.out]; exact HVL.out) HB2.out)
  rw [← HV.out] at HBX
  have HFS : Hid (Fr [wa.heap.size] w1 (w1.setCells wa.heap.size 174 V)) := Lib.hid (Fr.setCells (fun _ => by simp) _ 174 _ (Fr.refl _ _))
  have HTH : Hid (w1.there wa.heap.size 174 V.toArray.size) := Lib.hid (HB2.out.thereM _ _ (by rw [List.size_toArray, List.size_toArray, HVL.out, Wmg.lenz HZ0.out]; decide))
  have HVS : Hid ((Tryz.prog.info? 49).map (·.size) = some V.toArray.size) := Lib.hid (by rw [List.size_toArray, HVL.out]; kernel_rfl)
  have HVO : Hid (V.toArray.all (·.oneCell') = true) := Lib.hid (by rw [HV.out]; exact all_oneCell_toArray (Wvt.one _))
  have HB9 : Hid (Blk (w1.setCells wa.heap.size 174 V) (w.heap.size + 1) 61 mz00) := Lib.hid (HB1.out.keep HFS.out (by have := HSZ.out; simp; omega))

  obtain ⟨E, hE⟩ : ∃ E, E = ({mz q f t with vt := x.vt} : Wmg).cells := ⟨_, rfl⟩
  have HEL : Hid (E.length = 295) := Lib.hid (by rw [hE]; exact Wmg.lenz HZX.out)
  have HEO : Hid (E.toArray.all (·.oneCell') = true) := Lib.hid (by rw [hE]; exact all_oneCell_toArray (Wmg.one _))
  have HES : Hid ((Tryz.prog.info? 61).map (·.size) = some E.toArray.size) := Lib.hid (by rw [List.size_toArray, HEL.out]; kernel_rfl)
  have HEM : Hid (mz00.size = E.toArray.size) := Lib.hid (by unfold mz00; rw [List.size_toArray, List.size_toArray, HEL.out, Wmg.lenz (mz_len _ _ _)])
  have HER : Hid ((w1.setCells wa.heap.size 174 V).rangeAt wa.heap.size 0 E) := Lib.hid (by rw [hE]; exact HBX.out.range)
  go_wp2_with (first | (refine wpList_load_mid rfl 49 _ rfl w.heap.size 174 rfl V _ HVR.out Tryz.underlying49 rfl (row_vtO.of HVL.out).2 ?_) | (refine wpList_store_mid rfl 49 _ _ rfl wa.heap.size 174 V.toArray rfl rfl HTH.out HVS.out HVO.out ?_) | (refine wpList_load_mid rfl 61 _ rfl wa.heap.size 0 rfl E _ HER.out Tryz.underlying61 rfl (row_msg.of HEL.out).2 ?_) | (refine wpList_store_blk rfl 61 _ _ rfl (w.heap.size + 1) E.toArray rfl rfl 61 mz00 HB9.out HES.out HEM.out HEO.out ?_; intro w9 hb9 hf9))
  refine bodyPost_ret (v := .agg E.toArray) (results_cell_row Tryz.results9 _ _ (w.heap.size + 1) 61 E.toArray _ _ rfl hb9 Tryz.underlying61 rfl HES.out) rfl ?_
  have HS9 : Fr [wa.heap.size, w.heap.size + 1] w1 w9 := (HFS.out.mono (by intro k hk _; simp at hk; simp [hk])).trans hf9 (fun k hk _ => by simp at hk; simp [hk])
  refine ⟨{mz q f t with vt := x.vt}, by rw [hE], ?_, ?_, (HF0.out.and HF1.out (by simp)).go HS9 (by have := HSZ.out; simp; omega)⟩
  · have hqe : x.con.q = 8 := HQ.out
    unfold onlyC
    rw [show x.con.q = x.q from rfl, HQ.out]
    rw [HQE.out, HFE.out, HTE.out, HQ.out]
    rfl
  · have hz := mz_ok w9 [] q f t (by rw [HQE.out]; exact HX.out.q) (by rw [HFE.out]; exact HX.out.f) (by rw [HTE.out]; exact HX.out.t)
    have HW9 : Fr [] w w9 := (HF0.out.and HF1.out (by simp)).go HS9 (by have := HSZ.out; simp; omega)
    exact ⟨hz.q, hz.f, hz.t, hz.cm, hz.st, hz.ce, hz.ak, hz.e, hz.r, hz.tm, hz.pr, hz.po, HX.out.vt, hz.i, hz.en, hz.op, hz.dn, hz.rp, hz.de⟩
set_option maxHeartbeats 2000000 in
theorem only_10 (x : Wmg) (hq : x.q = 10) (w : World) (hx : x.Ok w []) (C : List Value) (hC : x.cells = C) :
    Calls Tryz.prog 9 #[.agg C.toArray] w (OnlyPost x w) := by
  obtain ⟨wa, hwa⟩ : ∃ wa, wa = (w.alloc (Obj.cells C.toArray 61)).alloc (Obj.cells mz00 61) := ⟨_, rfl⟩
  have hf0 : Fr [] w wa := by rw [hwa]; exact ((Fr.refl [] w).alloc _).alloc _
  have hb0 : Blk wa w.heap.size 61 x.cells.toArray := by rw [hwa, hC]; exact blk_alloc (Blk.new _ _ _)
  have hb1 : Blk wa (w.heap.size + 1) 61 mz00 := by
    have := Blk.new (w.alloc (Obj.cells C.toArray 61)) 61 mz00
    rw [hwa]
    simpa using this
  have hat : x.At wa w.heap.size := Wmg.at_of hb0.range hx
  have hcq : wa.cell? ⟨w.heap.size, 0, none⟩ = some (.int .i64 x.q) := by have h := hat.q 0 _ rfl; simpa using h
  have hcf : wa.cell? ⟨w.heap.size, 1, none⟩ = some (.int .i64 x.f) := by have h := hat.f 0 _ rfl; simpa using h
  have hct : wa.cell? ⟨w.heap.size, 2, none⟩ = some (.int .i64 x.t) := by have h := hat.t 0 _ rfl; simpa using h
  have HX := Lib.hid hx
  have HB0 := Lib.hid hb0
  have HB1 := Lib.hid hb1
  have HF0 := Lib.hid hf0
  have HWA := Lib.hid hwa
  have HSZ : Hid (wa.heap.size = w.heap.size + 2) := Lib.hid (by rw [hwa]; simp)
  obtain ⟨Z, hZ⟩ : ∃ Z, Z = (mz x.q x.f x.t).cells := ⟨_, rfl⟩
  have HBU : Hid (Tryz.prog.built 61 [(0, .int .i64 x.q), (1, .int .i64 x.f), (2, .int .i64 x.t)] = some Z.toArray) := Lib.hid (by rw [hZ]; exact built_mg3 _ _ _)
  have HZL : Hid ((Tryz.prog.info? 61).map (·.size) = some Z.toArray.size) := Lib.hid (by rw [hZ]; exact msg_size (mz_len _ _ _))
  have HZM : Hid (mz00.size = Z.toArray.size) := Lib.hid (by rw [hZ]; unfold mz00; rw [List.size_toArray, List.size_toArray, Wmg.lenz (mz_len _ _ _), Wmg.lenz (mz_len _ _ _)])
  have HZO : Hid (Z.toArray.all (·.oneCell') = true) := Lib.hid (by rw [hZ]; exact all_oneCell_toArray (Wmg.one _))
  have HZ := Lib.hid hZ
  have HQ := Lib.hid hq
  obtain ⟨q, hqq⟩ : ∃ q, q = x.q := ⟨_, rfl⟩
  obtain ⟨f, hff⟩ : ∃ f, f = x.f := ⟨_, rfl⟩
  obtain ⟨t, htt⟩ : ∃ t, t = x.t := ⟨_, rfl⟩
  rw [← hqq] at hcq
  rw [← hff] at hcf
  rw [← htt] at hct
  rw [← hqq, ← hff, ← htt] at HBU HZ
  have HQE := Lib.hid hqq
  have HFE := Lib.hid hff
  have HTE := Lib.hid htt
  clear hx hC hwa hf0 hb0 hb1 hat hZ hq hqq hff htt
  go_enter Tryz.func9, Tryz.ntmps9
  go_upto_region 1 with (fail)
  change Code.wp _ _ _ _ ((w.alloc (Obj.cells C.toArray 61)).alloc (Obj.cells mz00 61))
  rw [← HWA.out]
  go_upto_region 2 with (first
    | (refine wpList_builtg rfl 61 _ rfl _ _ HBU.out rfl ?_)
    | (refine wpList_store_blk rfl 61 _ _ rfl wa.heap.size Z.toArray rfl rfl 61 mz00 (Blk.new wa _ _) HZL.out HZM.out HZO.out ?_; intro w1 hb2 hf2))
  have HB2 : Hid (Blk w1 wa.heap.size 61 (mz q f t).cells.toArray) := Lib.hid (by rw [← HZ.out]; exact hb2)
  have HF1 : Hid (Fr [] wa w1) := Lib.hid (((Fr.refl [] wa).alloc _).go hf2 (by simp))
  clear hb2 hf2 hcf hct
  have hcq := HF1.out.cell hcq (by simp)
  have HB0 := Lib.hid (HB0.out.keep HF1.out (by simp))
  have HB1 := Lib.hid (HB1.out.keep HF1.out (by simp))
  have HBL1 : Hid (wa.heap.size < w1.heap.size) := Lib.hid HB2.out.lt
  have HAT := Lib.hid (Wmg.at_of HB0.out.range HX.out)
  have HZ0 := Lib.hid (mz_len q f t)
  rw [HQE.out, HQ.out] at hcq
  obtain ⟨V, hV⟩ : ∃ V, V = x.op.cells := ⟨_, rfl⟩
  have HVL : Hid (V.length = 34) := Lib.hid (by rw [hV]; exact Wop.len HX.out.op.h)
  have HVR : Hid (w1.rangeAt w.heap.size 248 V) := Lib.hid (by rw [hV]; exact HAT.out.op)
  have HV := Lib.hid hV
  clear hV
  go_wp2_with (refine wpList_load_mid rfl 54 _ rfl w.heap.size 248 rfl V _ HVR.out Tryz.underlying54 rfl (row_opn.of HVL.out).2 ?_)
  have hcp := copyOpening_any x.op w1 (HX.out.op.keep (HF0.out.and HF1.out (by simp)) (by simp))
  rw [← HV.out] at hcp
  refine hcp.mono ?_
  rintro e_ w2 ⟨y, rfl, hyc, hyok, hf2⟩
  have HYC := Lib.hid hyc
  have HYO := Lib.hid hyok
  have HF2 := Lib.hid hf2
  have HF1 : Hid (Fr [] wa w2) := Lib.hid (HF1.out.and hf2 (by simp))
  have HB2 := Lib.hid (HB2.out.keep hf2 (by simp))
  have HB1 := Lib.hid (HB1.out.keep hf2 (by simp))
  have HSW1 : Hid (wa.heap.size < w1.heap.size) := Lib.hid HBL1.out
  clear hcp hyc hyok hf2
  obtain ⟨U, hU⟩ : ∃ U, U = y.cells := ⟨_, rfl⟩
  have HU := Lib.hid hU
  have HUL : Hid (U.length = 34) := Lib.hid (by rw [hU]; exact Wop.len (HYO.out [] (by simp)).h)
  rw [← hU]
  clear hU
  have HZX : Hid (Wmg.Len {mz q f t with op := y}) := Lib.hid ⟨rfl, rfl, rfl, rfl, rfl, rfl, (HYO.out [] (by simp)).h⟩
  have HBX := Lib.hid (Wmg.blk_op HZ0.out y (by rw [← HU.out]; exact HUL.out) HB2.out)
  rw [← HU.out] at HBX
  have HFS : Hid (Fr [wa.heap.size] w2 (w2.setCells wa.heap.size 248 U)) := Lib.hid (Fr.setCells (fun _ => by simp) _ 248 _ (Fr.refl _ _))
  have HTH : Hid (w2.there wa.heap.size 248 U.toArray.size) := Lib.hid (HB2.out.thereM _ _ (by rw [List.size_toArray, List.size_toArray, HUL.out, Wmg.lenz HZ0.out]; decide))
  have HVS : Hid ((Tryz.prog.info? 54).map (·.size) = some U.toArray.size) := Lib.hid (by rw [List.size_toArray, HUL.out]; kernel_rfl)
  have HVO : Hid (U.toArray.all (·.oneCell') = true) := Lib.hid (by rw [HU.out]; exact all_oneCell_toArray (Wop.one _))
  have HB9 : Hid (Blk (w2.setCells wa.heap.size 248 U) (w.heap.size + 1) 61 mz00) := Lib.hid (HB1.out.keep HFS.out (by have := HSZ.out; simp; omega))

  obtain ⟨E, hE⟩ : ∃ E, E = ({mz q f t with op := y} : Wmg).cells := ⟨_, rfl⟩
  have HEL : Hid (E.length = 295) := Lib.hid (by rw [hE]; exact Wmg.lenz HZX.out)
  have HEO : Hid (E.toArray.all (·.oneCell') = true) := Lib.hid (by rw [hE]; exact all_oneCell_toArray (Wmg.one _))
  have HES : Hid ((Tryz.prog.info? 61).map (·.size) = some E.toArray.size) := Lib.hid (by rw [List.size_toArray, HEL.out]; kernel_rfl)
  have HEM : Hid (mz00.size = E.toArray.size) := Lib.hid (by unfold mz00; rw [List.size_toArray, List.size_toArray, HEL.out, Wmg.lenz (mz_len _ _ _)])
  have HER : Hid ((w2.setCells wa.heap.size 248 U).rangeAt wa.heap.size 0 E) := Lib.hid (by rw [hE]; exact HBX.out.range)
  go_wp2_with (first | (refine wpList_load_mid rfl 54 _ rfl w.heap.size 248 rfl V _ HVR.out Tryz.underlying54 rfl (row_opn.of HVL.out).2 ?_) | (refine wpList_store_mid rfl 54 _ _ rfl wa.heap.size 248 U.toArray rfl rfl HTH.out HVS.out HVO.out ?_) | (refine wpList_load_mid rfl 61 _ rfl wa.heap.size 0 rfl E _ HER.out Tryz.underlying61 rfl (row_msg.of HEL.out).2 ?_) | (refine wpList_store_blk rfl 61 _ _ rfl (w.heap.size + 1) E.toArray rfl rfl 61 mz00 HB9.out HES.out HEM.out HEO.out ?_; intro w9 hb9 hf9))
  refine bodyPost_ret (v := .agg E.toArray) (results_cell_row Tryz.results9 _ _ (w.heap.size + 1) 61 E.toArray _ _ rfl hb9 Tryz.underlying61 rfl HES.out) rfl ?_
  have HS9 : Fr [wa.heap.size, w.heap.size + 1] w2 w9 := (HFS.out.mono (by intro k hk _; simp at hk; simp [hk])).trans hf9 (fun k hk _ => by simp at hk; simp [hk])
  refine ⟨{mz q f t with op := y}, by rw [hE], ?_, ?_, (HF0.out.and HF1.out (by simp)).go HS9 (by have := HSZ.out; simp; omega)⟩
  · have hqe : x.con.q = 10 := HQ.out
    unfold onlyC
    rw [show x.con.q = x.q from rfl, HQ.out]
    rw [HQE.out, HFE.out, HTE.out, HQ.out]
    simp only [Wmg.con, HYC.out]; rfl
  · have hz := mz_ok w9 [] q f t (by rw [HQE.out]; exact HX.out.q) (by rw [HFE.out]; exact HX.out.f) (by rw [HTE.out]; exact HX.out.t)
    have HW9 : Fr [] w w9 := (HF0.out.and HF1.out (by simp)).go HS9 (by have := HSZ.out; simp; omega)
    exact ⟨hz.q, hz.f, hz.t, hz.cm, hz.st, hz.ce, hz.ak, hz.e, hz.r, hz.tm, hz.pr, hz.po, hz.vt, hz.i, hz.en, ((HYO.out [wa.heap.size, w.heap.size + 1] (by have h1 := HSZ.out; have h2 := HSW1.out; simp; omega)).keep (S' := []) HS9 (by simp)), hz.dn, hz.rp, hz.de⟩
set_option maxHeartbeats 2000000 in
theorem only_12 (x : Wmg) (hq : x.q = 12) (w : World) (hx : x.Ok w []) (C : List Value) (hC : x.cells = C) :
    Calls Tryz.prog 9 #[.agg C.toArray] w (OnlyPost x w) := by
  obtain ⟨wa, hwa⟩ : ∃ wa, wa = (w.alloc (Obj.cells C.toArray 61)).alloc (Obj.cells mz00 61) := ⟨_, rfl⟩
  have hf0 : Fr [] w wa := by rw [hwa]; exact ((Fr.refl [] w).alloc _).alloc _
  have hb0 : Blk wa w.heap.size 61 x.cells.toArray := by rw [hwa, hC]; exact blk_alloc (Blk.new _ _ _)
  have hb1 : Blk wa (w.heap.size + 1) 61 mz00 := by
    have := Blk.new (w.alloc (Obj.cells C.toArray 61)) 61 mz00
    rw [hwa]
    simpa using this
  have hat : x.At wa w.heap.size := Wmg.at_of hb0.range hx
  have hcq : wa.cell? ⟨w.heap.size, 0, none⟩ = some (.int .i64 x.q) := by have h := hat.q 0 _ rfl; simpa using h
  have hcf : wa.cell? ⟨w.heap.size, 1, none⟩ = some (.int .i64 x.f) := by have h := hat.f 0 _ rfl; simpa using h
  have hct : wa.cell? ⟨w.heap.size, 2, none⟩ = some (.int .i64 x.t) := by have h := hat.t 0 _ rfl; simpa using h
  have HX := Lib.hid hx
  have HB0 := Lib.hid hb0
  have HB1 := Lib.hid hb1
  have HF0 := Lib.hid hf0
  have HWA := Lib.hid hwa
  have HSZ : Hid (wa.heap.size = w.heap.size + 2) := Lib.hid (by rw [hwa]; simp)
  obtain ⟨Z, hZ⟩ : ∃ Z, Z = (mz x.q x.f x.t).cells := ⟨_, rfl⟩
  have HBU : Hid (Tryz.prog.built 61 [(0, .int .i64 x.q), (1, .int .i64 x.f), (2, .int .i64 x.t)] = some Z.toArray) := Lib.hid (by rw [hZ]; exact built_mg3 _ _ _)
  have HZL : Hid ((Tryz.prog.info? 61).map (·.size) = some Z.toArray.size) := Lib.hid (by rw [hZ]; exact msg_size (mz_len _ _ _))
  have HZM : Hid (mz00.size = Z.toArray.size) := Lib.hid (by rw [hZ]; unfold mz00; rw [List.size_toArray, List.size_toArray, Wmg.lenz (mz_len _ _ _), Wmg.lenz (mz_len _ _ _)])
  have HZO : Hid (Z.toArray.all (·.oneCell') = true) := Lib.hid (by rw [hZ]; exact all_oneCell_toArray (Wmg.one _))
  have HZ := Lib.hid hZ
  have HQ := Lib.hid hq
  obtain ⟨q, hqq⟩ : ∃ q, q = x.q := ⟨_, rfl⟩
  obtain ⟨f, hff⟩ : ∃ f, f = x.f := ⟨_, rfl⟩
  obtain ⟨t, htt⟩ : ∃ t, t = x.t := ⟨_, rfl⟩
  rw [← hqq] at hcq
  rw [← hff] at hcf
  rw [← htt] at hct
  rw [← hqq, ← hff, ← htt] at HBU HZ
  have HQE := Lib.hid hqq
  have HFE := Lib.hid hff
  have HTE := Lib.hid htt
  clear hx hC hwa hf0 hb0 hb1 hat hZ hq hqq hff htt
  go_enter Tryz.func9, Tryz.ntmps9
  go_upto_region 1 with (fail)
  change Code.wp _ _ _ _ ((w.alloc (Obj.cells C.toArray 61)).alloc (Obj.cells mz00 61))
  rw [← HWA.out]
  go_upto_region 2 with (first
    | (refine wpList_builtg rfl 61 _ rfl _ _ HBU.out rfl ?_)
    | (refine wpList_store_blk rfl 61 _ _ rfl wa.heap.size Z.toArray rfl rfl 61 mz00 (Blk.new wa _ _) HZL.out HZM.out HZO.out ?_; intro w1 hb2 hf2))
  have HB2 : Hid (Blk w1 wa.heap.size 61 (mz q f t).cells.toArray) := Lib.hid (by rw [← HZ.out]; exact hb2)
  have HF1 : Hid (Fr [] wa w1) := Lib.hid (((Fr.refl [] wa).alloc _).go hf2 (by simp))
  clear hb2 hf2 hcf hct
  have hcq := HF1.out.cell hcq (by simp)
  have HB0 := Lib.hid (HB0.out.keep HF1.out (by simp))
  have HB1 := Lib.hid (HB1.out.keep HF1.out (by simp))
  have HBL1 : Hid (wa.heap.size < w1.heap.size) := Lib.hid HB2.out.lt
  have HAT := Lib.hid (Wmg.at_of HB0.out.range HX.out)
  have HZ0 := Lib.hid (mz_len q f t)
  rw [HQE.out, HQ.out] at hcq
  obtain ⟨V, hV⟩ : ∃ V, V = x.dn.cells := ⟨_, rfl⟩
  have HVL : Hid (V.length = 4) := Lib.hid (by rw [hV]; exact Wdn.len _)
  have HVR : Hid (w1.rangeAt w.heap.size 282 V) := Lib.hid (by rw [hV]; exact HAT.out.dn)
  have HV := Lib.hid hV
  clear hV
  have HZX : Hid (Wmg.Len {mz q f t with dn := x.dn}) := Lib.hid ⟨rfl, rfl, rfl, rfl, rfl, rfl, rfl⟩
  have HBX := Lib.hid (Wmg.blk_dn HZ0.out x.dn (by rw [← HV.out]; exact HVL.out) HB2.out)
  rw [← HV.out] at HBX
  have HFS : Hid (Fr [wa.heap.size] w1 (w1.setCells wa.heap.size 282 V)) := Lib.hid (Fr.setCells (fun _ => by simp) _ 282 _ (Fr.refl _ _))
  have HTH : Hid (w1.there wa.heap.size 282 V.toArray.size) := Lib.hid (HB2.out.thereM _ _ (by rw [List.size_toArray, List.size_toArray, HVL.out, Wmg.lenz HZ0.out]; decide))
  have HVS : Hid ((Tryz.prog.info? 56).map (·.size) = some V.toArray.size) := Lib.hid (by rw [List.size_toArray, HVL.out]; kernel_rfl)
  have HVO : Hid (V.toArray.all (·.oneCell') = true) := Lib.hid (by rw [HV.out]; exact all_oneCell_toArray (Wdn.one _))
  have HB9 : Hid (Blk (w1.setCells wa.heap.size 282 V) (w.heap.size + 1) 61 mz00) := Lib.hid (HB1.out.keep HFS.out (by have := HSZ.out; simp; omega))

  obtain ⟨E, hE⟩ : ∃ E, E = ({mz q f t with dn := x.dn} : Wmg).cells := ⟨_, rfl⟩
  have HEL : Hid (E.length = 295) := Lib.hid (by rw [hE]; exact Wmg.lenz HZX.out)
  have HEO : Hid (E.toArray.all (·.oneCell') = true) := Lib.hid (by rw [hE]; exact all_oneCell_toArray (Wmg.one _))
  have HES : Hid ((Tryz.prog.info? 61).map (·.size) = some E.toArray.size) := Lib.hid (by rw [List.size_toArray, HEL.out]; kernel_rfl)
  have HEM : Hid (mz00.size = E.toArray.size) := Lib.hid (by unfold mz00; rw [List.size_toArray, List.size_toArray, HEL.out, Wmg.lenz (mz_len _ _ _)])
  have HER : Hid ((w1.setCells wa.heap.size 282 V).rangeAt wa.heap.size 0 E) := Lib.hid (by rw [hE]; exact HBX.out.range)
  go_wp2_with (first | (refine wpList_load_mid rfl 56 _ rfl w.heap.size 282 rfl V _ HVR.out Tryz.underlying56 rfl (row_dnO.of HVL.out).2 ?_) | (refine wpList_store_mid rfl 56 _ _ rfl wa.heap.size 282 V.toArray rfl rfl HTH.out HVS.out HVO.out ?_) | (refine wpList_load_mid rfl 61 _ rfl wa.heap.size 0 rfl E _ HER.out Tryz.underlying61 rfl (row_msg.of HEL.out).2 ?_) | (refine wpList_store_blk rfl 61 _ _ rfl (w.heap.size + 1) E.toArray rfl rfl 61 mz00 HB9.out HES.out HEM.out HEO.out ?_; intro w9 hb9 hf9))
  refine bodyPost_ret (v := .agg E.toArray) (results_cell_row Tryz.results9 _ _ (w.heap.size + 1) 61 E.toArray _ _ rfl hb9 Tryz.underlying61 rfl HES.out) rfl ?_
  have HS9 : Fr [wa.heap.size, w.heap.size + 1] w1 w9 := (HFS.out.mono (by intro k hk _; simp at hk; simp [hk])).trans hf9 (fun k hk _ => by simp at hk; simp [hk])
  refine ⟨{mz q f t with dn := x.dn}, by rw [hE], ?_, ?_, (HF0.out.and HF1.out (by simp)).go HS9 (by have := HSZ.out; simp; omega)⟩
  · have hqe : x.con.q = 12 := HQ.out
    unfold onlyC
    rw [show x.con.q = x.q from rfl, HQ.out]
    rw [HQE.out, HFE.out, HTE.out, HQ.out]
    rfl
  · have hz := mz_ok w9 [] q f t (by rw [HQE.out]; exact HX.out.q) (by rw [HFE.out]; exact HX.out.f) (by rw [HTE.out]; exact HX.out.t)
    have HW9 : Fr [] w w9 := (HF0.out.and HF1.out (by simp)).go HS9 (by have := HSZ.out; simp; omega)
    exact ⟨hz.q, hz.f, hz.t, hz.cm, hz.st, hz.ce, hz.ak, hz.e, hz.r, hz.tm, hz.pr, hz.po, hz.vt, hz.i, hz.en, hz.op, HX.out.dn, hz.rp, hz.de⟩
set_option maxHeartbeats 2000000 in
theorem only_14 (x : Wmg) (hq : x.q = 14) (w : World) (hx : x.Ok w []) (C : List Value) (hC : x.cells = C) :
    Calls Tryz.prog 9 #[.agg C.toArray] w (OnlyPost x w) := by
  obtain ⟨wa, hwa⟩ : ∃ wa, wa = (w.alloc (Obj.cells C.toArray 61)).alloc (Obj.cells mz00 61) := ⟨_, rfl⟩
  have hf0 : Fr [] w wa := by rw [hwa]; exact ((Fr.refl [] w).alloc _).alloc _
  have hb0 : Blk wa w.heap.size 61 x.cells.toArray := by rw [hwa, hC]; exact blk_alloc (Blk.new _ _ _)
  have hb1 : Blk wa (w.heap.size + 1) 61 mz00 := by
    have := Blk.new (w.alloc (Obj.cells C.toArray 61)) 61 mz00
    rw [hwa]
    simpa using this
  have hat : x.At wa w.heap.size := Wmg.at_of hb0.range hx
  have hcq : wa.cell? ⟨w.heap.size, 0, none⟩ = some (.int .i64 x.q) := by have h := hat.q 0 _ rfl; simpa using h
  have hcf : wa.cell? ⟨w.heap.size, 1, none⟩ = some (.int .i64 x.f) := by have h := hat.f 0 _ rfl; simpa using h
  have hct : wa.cell? ⟨w.heap.size, 2, none⟩ = some (.int .i64 x.t) := by have h := hat.t 0 _ rfl; simpa using h
  have HX := Lib.hid hx
  have HB0 := Lib.hid hb0
  have HB1 := Lib.hid hb1
  have HF0 := Lib.hid hf0
  have HWA := Lib.hid hwa
  have HSZ : Hid (wa.heap.size = w.heap.size + 2) := Lib.hid (by rw [hwa]; simp)
  obtain ⟨Z, hZ⟩ : ∃ Z, Z = (mz x.q x.f x.t).cells := ⟨_, rfl⟩
  have HBU : Hid (Tryz.prog.built 61 [(0, .int .i64 x.q), (1, .int .i64 x.f), (2, .int .i64 x.t)] = some Z.toArray) := Lib.hid (by rw [hZ]; exact built_mg3 _ _ _)
  have HZL : Hid ((Tryz.prog.info? 61).map (·.size) = some Z.toArray.size) := Lib.hid (by rw [hZ]; exact msg_size (mz_len _ _ _))
  have HZM : Hid (mz00.size = Z.toArray.size) := Lib.hid (by rw [hZ]; unfold mz00; rw [List.size_toArray, List.size_toArray, Wmg.lenz (mz_len _ _ _), Wmg.lenz (mz_len _ _ _)])
  have HZO : Hid (Z.toArray.all (·.oneCell') = true) := Lib.hid (by rw [hZ]; exact all_oneCell_toArray (Wmg.one _))
  have HZ := Lib.hid hZ
  have HQ := Lib.hid hq
  obtain ⟨q, hqq⟩ : ∃ q, q = x.q := ⟨_, rfl⟩
  obtain ⟨f, hff⟩ : ∃ f, f = x.f := ⟨_, rfl⟩
  obtain ⟨t, htt⟩ : ∃ t, t = x.t := ⟨_, rfl⟩
  rw [← hqq] at hcq
  rw [← hff] at hcf
  rw [← htt] at hct
  rw [← hqq, ← hff, ← htt] at HBU HZ
  have HQE := Lib.hid hqq
  have HFE := Lib.hid hff
  have HTE := Lib.hid htt
  clear hx hC hwa hf0 hb0 hb1 hat hZ hq hqq hff htt
  go_enter Tryz.func9, Tryz.ntmps9
  go_upto_region 1 with (fail)
  change Code.wp _ _ _ _ ((w.alloc (Obj.cells C.toArray 61)).alloc (Obj.cells mz00 61))
  rw [← HWA.out]
  go_upto_region 2 with (first
    | (refine wpList_builtg rfl 61 _ rfl _ _ HBU.out rfl ?_)
    | (refine wpList_store_blk rfl 61 _ _ rfl wa.heap.size Z.toArray rfl rfl 61 mz00 (Blk.new wa _ _) HZL.out HZM.out HZO.out ?_; intro w1 hb2 hf2))
  have HB2 : Hid (Blk w1 wa.heap.size 61 (mz q f t).cells.toArray) := Lib.hid (by rw [← HZ.out]; exact hb2)
  have HF1 : Hid (Fr [] wa w1) := Lib.hid (((Fr.refl [] wa).alloc _).go hf2 (by simp))
  clear hb2 hf2 hcf hct
  have hcq := HF1.out.cell hcq (by simp)
  have HB0 := Lib.hid (HB0.out.keep HF1.out (by simp))
  have HB1 := Lib.hid (HB1.out.keep HF1.out (by simp))
  have HBL1 : Hid (wa.heap.size < w1.heap.size) := Lib.hid HB2.out.lt
  have HAT := Lib.hid (Wmg.at_of HB0.out.range HX.out)
  have HZ0 := Lib.hid (mz_len q f t)
  rw [HQE.out, HQ.out] at hcq
  obtain ⟨V, hV⟩ : ∃ V, V = x.de.cells := ⟨_, rfl⟩
  have HVL : Hid (V.length = 8) := Lib.hid (by rw [hV]; exact rfl)
  have HVR : Hid (w1.rangeAt w.heap.size 287 V) := Lib.hid (by rw [hV]; exact HAT.out.de)
  have HV := Lib.hid hV
  clear hV
  go_wp2_with (refine wpList_load_mid rfl 59 _ rfl w.heap.size 287 rfl V _ HVR.out Tryz.underlying59 rfl (row_dec.of HVL.out).2 ?_)
  have hcp := copyDecided_any x.de w1 (HX.out.de.keep (HF0.out.and HF1.out (by simp)) (by simp))
  rw [← HV.out] at hcp
  refine hcp.mono ?_
  rintro e_ w2 ⟨y, rfl, hyc, hyok, hf2⟩
  have HYC := Lib.hid hyc
  have HYO := Lib.hid hyok
  have HF2 := Lib.hid hf2
  have HF1 : Hid (Fr [] wa w2) := Lib.hid (HF1.out.and hf2 (by simp))
  have HB2 := Lib.hid (HB2.out.keep hf2 (by simp))
  have HB1 := Lib.hid (HB1.out.keep hf2 (by simp))
  have HSW1 : Hid (wa.heap.size < w1.heap.size) := Lib.hid HBL1.out
  clear hcp hyc hyok hf2
  obtain ⟨U, hU⟩ : ∃ U, U = y.cells := ⟨_, rfl⟩
  have HU := Lib.hid hU
  have HUL : Hid (U.length = 8) := Lib.hid (by rw [hU]; exact rfl)
  rw [← hU]
  clear hU
  have HZX : Hid (Wmg.Len {mz q f t with de := y}) := Lib.hid ⟨rfl, rfl, rfl, rfl, rfl, rfl, rfl⟩
  have HBX := Lib.hid (Wmg.blk_de HZ0.out y (by rw [← HU.out]; exact HUL.out) HB2.out)
  rw [← HU.out] at HBX
  have HFS : Hid (Fr [wa.heap.size] w2 (w2.setCells wa.heap.size 287 U)) := Lib.hid (Fr.setCells (fun _ => by simp) _ 287 _ (Fr.refl _ _))
  have HTH : Hid (w2.there wa.heap.size 287 U.toArray.size) := Lib.hid (HB2.out.thereM _ _ (by rw [List.size_toArray, List.size_toArray, HUL.out, Wmg.lenz HZ0.out]; decide))
  have HVS : Hid ((Tryz.prog.info? 59).map (·.size) = some U.toArray.size) := Lib.hid (by rw [List.size_toArray, HUL.out]; kernel_rfl)
  have HVO : Hid (U.toArray.all (·.oneCell') = true) := Lib.hid (by rw [HU.out]; exact all_oneCell_toArray (Wdc.one _))
  have HB9 : Hid (Blk (w2.setCells wa.heap.size 287 U) (w.heap.size + 1) 61 mz00) := Lib.hid (HB1.out.keep HFS.out (by have := HSZ.out; simp; omega))

  obtain ⟨E, hE⟩ : ∃ E, E = ({mz q f t with de := y} : Wmg).cells := ⟨_, rfl⟩
  have HEL : Hid (E.length = 295) := Lib.hid (by rw [hE]; exact Wmg.lenz HZX.out)
  have HEO : Hid (E.toArray.all (·.oneCell') = true) := Lib.hid (by rw [hE]; exact all_oneCell_toArray (Wmg.one _))
  have HES : Hid ((Tryz.prog.info? 61).map (·.size) = some E.toArray.size) := Lib.hid (by rw [List.size_toArray, HEL.out]; kernel_rfl)
  have HEM : Hid (mz00.size = E.toArray.size) := Lib.hid (by unfold mz00; rw [List.size_toArray, List.size_toArray, HEL.out, Wmg.lenz (mz_len _ _ _)])
  have HER : Hid ((w2.setCells wa.heap.size 287 U).rangeAt wa.heap.size 0 E) := Lib.hid (by rw [hE]; exact HBX.out.range)
  go_wp2_with (first | (refine wpList_load_mid rfl 59 _ rfl w.heap.size 287 rfl V _ HVR.out Tryz.underlying59 rfl (row_dec.of HVL.out).2 ?_) | (refine wpList_store_mid rfl 59 _ _ rfl wa.heap.size 287 U.toArray rfl rfl HTH.out HVS.out HVO.out ?_) | (refine wpList_load_mid rfl 61 _ rfl wa.heap.size 0 rfl E _ HER.out Tryz.underlying61 rfl (row_msg.of HEL.out).2 ?_) | (refine wpList_store_blk rfl 61 _ _ rfl (w.heap.size + 1) E.toArray rfl rfl 61 mz00 HB9.out HES.out HEM.out HEO.out ?_; intro w9 hb9 hf9))
  refine bodyPost_ret (v := .agg E.toArray) (results_cell_row Tryz.results9 _ _ (w.heap.size + 1) 61 E.toArray _ _ rfl hb9 Tryz.underlying61 rfl HES.out) rfl ?_
  have HS9 : Fr [wa.heap.size, w.heap.size + 1] w2 w9 := (HFS.out.mono (by intro k hk _; simp at hk; simp [hk])).trans hf9 (fun k hk _ => by simp at hk; simp [hk])
  refine ⟨{mz q f t with de := y}, by rw [hE], ?_, ?_, (HF0.out.and HF1.out (by simp)).go HS9 (by have := HSZ.out; simp; omega)⟩
  · have hqe : x.con.q = 14 := HQ.out
    unfold onlyC
    rw [show x.con.q = x.q from rfl, HQ.out]
    rw [HQE.out, HFE.out, HTE.out, HQ.out]
    simp only [Wmg.con, HYC.out]; rfl
  · have hz := mz_ok w9 [] q f t (by rw [HQE.out]; exact HX.out.q) (by rw [HFE.out]; exact HX.out.f) (by rw [HTE.out]; exact HX.out.t)
    have HW9 : Fr [] w w9 := (HF0.out.and HF1.out (by simp)).go HS9 (by have := HSZ.out; simp; omega)
    exact ⟨hz.q, hz.f, hz.t, hz.cm, hz.st, hz.ce, hz.ak, hz.e, hz.r, hz.tm, hz.pr, hz.po, hz.vt, hz.i, hz.en, hz.op, hz.dn, hz.rp, ((HYO.out [wa.heap.size, w.heap.size + 1] (by have h1 := HSZ.out; have h2 := HSW1.out; simp; omega)).keep (S' := []) HS9 (by simp))⟩
set_option maxHeartbeats 2000000 in
theorem only_5 (x : Wmg) (hq : x.q = 5) (w : World) (hx : x.Ok w []) (C : List Value) (hC : x.cells = C) :
    Calls Tryz.prog 9 #[.agg C.toArray] w (OnlyPost x w) := by
  obtain ⟨wa, hwa⟩ : ∃ wa, wa = (w.alloc (Obj.cells C.toArray 61)).alloc (Obj.cells mz00 61) := ⟨_, rfl⟩
  have hf0 : Fr [] w wa := by rw [hwa]; exact ((Fr.refl [] w).alloc _).alloc _
  have hb0 : Blk wa w.heap.size 61 x.cells.toArray := by rw [hwa, hC]; exact blk_alloc (Blk.new _ _ _)
  have hb1 : Blk wa (w.heap.size + 1) 61 mz00 := by
    have := Blk.new (w.alloc (Obj.cells C.toArray 61)) 61 mz00
    rw [hwa]
    simpa using this
  have hat : x.At wa w.heap.size := Wmg.at_of hb0.range hx
  have hcq : wa.cell? ⟨w.heap.size, 0, none⟩ = some (.int .i64 x.q) := by have h := hat.q 0 _ rfl; simpa using h
  have hcf : wa.cell? ⟨w.heap.size, 1, none⟩ = some (.int .i64 x.f) := by have h := hat.f 0 _ rfl; simpa using h
  have hct : wa.cell? ⟨w.heap.size, 2, none⟩ = some (.int .i64 x.t) := by have h := hat.t 0 _ rfl; simpa using h
  have HX := Lib.hid hx
  have HB0 := Lib.hid hb0
  have HB1 := Lib.hid hb1
  have HF0 := Lib.hid hf0
  have HWA := Lib.hid hwa
  have HSZ : Hid (wa.heap.size = w.heap.size + 2) := Lib.hid (by rw [hwa]; simp)
  obtain ⟨Z, hZ⟩ : ∃ Z, Z = (mz x.q x.f x.t).cells := ⟨_, rfl⟩
  have HBU : Hid (Tryz.prog.built 61 [(0, .int .i64 x.q), (1, .int .i64 x.f), (2, .int .i64 x.t)] = some Z.toArray) := Lib.hid (by rw [hZ]; exact built_mg3 _ _ _)
  have HZL : Hid ((Tryz.prog.info? 61).map (·.size) = some Z.toArray.size) := Lib.hid (by rw [hZ]; exact msg_size (mz_len _ _ _))
  have HZM : Hid (mz00.size = Z.toArray.size) := Lib.hid (by rw [hZ]; unfold mz00; rw [List.size_toArray, List.size_toArray, Wmg.lenz (mz_len _ _ _), Wmg.lenz (mz_len _ _ _)])
  have HZO : Hid (Z.toArray.all (·.oneCell') = true) := Lib.hid (by rw [hZ]; exact all_oneCell_toArray (Wmg.one _))
  have HZ := Lib.hid hZ
  have HQ := Lib.hid hq
  obtain ⟨q, hqq⟩ : ∃ q, q = x.q := ⟨_, rfl⟩
  obtain ⟨f, hff⟩ : ∃ f, f = x.f := ⟨_, rfl⟩
  obtain ⟨t, htt⟩ : ∃ t, t = x.t := ⟨_, rfl⟩
  rw [← hqq] at hcq
  rw [← hff] at hcf
  rw [← htt] at hct
  rw [← hqq, ← hff, ← htt] at HBU HZ
  have HQE := Lib.hid hqq
  have HFE := Lib.hid hff
  have HTE := Lib.hid htt
  clear hx hC hwa hf0 hb0 hb1 hat hZ hq hqq hff htt
  go_enter Tryz.func9, Tryz.ntmps9
  go_upto_region 1 with (fail)
  change Code.wp _ _ _ _ ((w.alloc (Obj.cells C.toArray 61)).alloc (Obj.cells mz00 61))
  rw [← HWA.out]
  go_upto_region 2 with (first
    | (refine wpList_builtg rfl 61 _ rfl _ _ HBU.out rfl ?_)
    | (refine wpList_store_blk rfl 61 _ _ rfl wa.heap.size Z.toArray rfl rfl 61 mz00 (Blk.new wa _ _) HZL.out HZM.out HZO.out ?_; intro w1 hb2 hf2))
  have HB2 : Hid (Blk w1 wa.heap.size 61 (mz q f t).cells.toArray) := Lib.hid (by rw [← HZ.out]; exact hb2)
  have HF1 : Hid (Fr [] wa w1) := Lib.hid (((Fr.refl [] wa).alloc _).go hf2 (by simp))
  clear hb2 hf2 hcf hct
  have hcq := HF1.out.cell hcq (by simp)
  have HB0 := Lib.hid (HB0.out.keep HF1.out (by simp))
  have HB1 := Lib.hid (HB1.out.keep HF1.out (by simp))
  have HBL1 : Hid (wa.heap.size < w1.heap.size) := Lib.hid HB2.out.lt
  have HAT := Lib.hid (Wmg.at_of HB0.out.range HX.out)
  have HZ0 := Lib.hid (mz_len q f t)
  rw [HQE.out, HQ.out] at hcq
  have HSI : Hid ((Tryz.prog.info? 3).map (·.size) = some 1) := Lib.hid (by kernel_rfl)
  have HSU : Hid ((Tryz.prog.info? 30).map (·.size) = some 1) := Lib.hid (by kernel_rfl)
  have HSS : Hid ((Tryz.prog.info? 9).map (·.size) = some 1) := Lib.hid (by kernel_rfl)
  have HLT : Hid (∀ y : Wmg, y.Len → ∀ k < 295, k < y.cells.toArray.size) := Lib.hid (fun y hy k hk => by rw [List.size_toArray, Wmg.lenz hy]; exact hk)
  have HCe : Hid (w1.cell? ⟨w.heap.size, 0 + 154, none⟩ = some (.int .i64 x.e)) := Lib.hid (by have h := HAT.out.e 0 _ rfl; simpa using h)
  have HCr : Hid (w1.cell? ⟨w.heap.size, 0 + 155, none⟩ = some (.int .i64 x.r)) := Lib.hid (by have h := HAT.out.r 0 _ rfl; simpa using h)
  have HCm : Hid (w1.cell? ⟨w.heap.size, 0 + 156, none⟩ = some (.int .u64 (x.tm : Int))) := Lib.hid (by have h := HAT.out.tm 0 _ rfl; simpa using h)
  have HNS : Hid (¬ w.heap.size ∈ [wa.heap.size]) := Lib.hid (by have := HSZ.out; simp; omega)
  go_upto_region 13 with (fail)
  refine wp_region_held_drew (S := Fr [wa.heap.size] w1) (by kernel_rfl) (Fr.drew (Fr.refl _ w1)) (fun hHeld => ?_)
  refine run_at (i := 0) (v := ?_) rfl (by kernel_rfl) (by rfl) (fun _ _ _ h => h) hHeld (fun w1 hw1 => ?_) ?_
  rotate_left 1
  · skip
    go_simp
    (try (first | with_reducible rfl | (apply And.intro <;> rfl)))
  simp only [Act.put, List.setIfInBounds_toArray, List.set_cons_zero, List.set_cons_succ]
  refine run_at (i := 1) (v := ?_) rfl (by kernel_rfl) (by rfl) (fun _ _ _ h => h) hHeld (fun w1 hw1 => ?_) ?_
  rotate_left 1
  · skip
    have hcw0 := hw1.cell (HCe.out) (by first | (simp; done) | exact HNS.out | exact HNW.out | (intro hm; have hlt := HSB.out _ hm; (try dsimp only at hlt); omega))
    go_simp
    (try (first | with_reducible rfl | (apply And.intro <;> rfl)))
  simp only [Act.put, List.setIfInBounds_toArray, List.set_cons_zero, List.set_cons_succ]
  refine run_at (i := 2) (v := ?_) rfl (by kernel_rfl) (by rfl) (fun _ _ _ h => h) hHeld (fun w1 hw1 => ?_) ?_
  rotate_left 1
  · skip
    go_simp
    (try (first | with_reducible rfl | (apply And.intro <;> rfl)))
  simp only [Act.put, List.setIfInBounds_toArray, List.set_cons_zero, List.set_cons_succ]
  refine run_at (i := 3) (v := ?_) rfl (by kernel_rfl) (by rfl) (fun _ _ _ h => h) hHeld (fun w1 hw1 => ?_) ?_
  rotate_left 1
  · skip
    have hcw0 := hw1.cell (HCr.out) (by first | (simp; done) | exact HNS.out | exact HNW.out | (intro hm; have hlt := HSB.out _ hm; (try dsimp only at hlt); omega))
    go_simp
    (try (first | with_reducible rfl | (apply And.intro <;> rfl)))
  simp only [Act.put, List.setIfInBounds_toArray, List.set_cons_zero, List.set_cons_succ]
  refine run_at (i := 4) (v := ?_) rfl (by kernel_rfl) (by rfl) (fun _ _ _ h => h) hHeld (fun w1 hw1 => ?_) ?_
  rotate_left 1
  · skip
    go_simp
    (try (first | with_reducible rfl | (apply And.intro <;> rfl)))
  simp only [Act.put, List.setIfInBounds_toArray, List.set_cons_zero, List.set_cons_succ]
  refine run_at (i := 5) (v := ?_) rfl (by kernel_rfl) (by rfl) (fun _ _ _ h => h) hHeld (fun w1 hw1 => ?_) ?_
  rotate_left 1
  · skip
    have hcw0 := hw1.cell (HCm.out) (by first | (simp; done) | exact HNS.out | exact HNW.out | (intro hm; have hlt := HSB.out _ hm; (try dsimp only at hlt); omega))
    go_simp
    (try (first | with_reducible rfl | (apply And.intro <;> rfl)))
  simp only [Act.put, List.setIfInBounds_toArray, List.set_cons_zero, List.set_cons_succ]
  refine run_at (i := 6) (v := ?_) rfl (by kernel_rfl) (by rfl) (fun _ _ _ h => h) hHeld (fun w1 hw1 => ?_) ?_
  rotate_left 1
  · skip
    go_simp
    (try (first | with_reducible rfl | (apply And.intro <;> rfl)))
  simp only [Act.put, List.setIfInBounds_toArray, List.set_cons_zero, List.set_cons_succ]
  have HBx0 := Lib.hid HB2.out.drew
  have HFS : Hid (Fr [wa.heap.size] w1 w1.drew) := Lib.hid hHeld
  generalize w1.drew = v0 at *
  refine step_at (i := 7) rfl (by kernel_rfl) (by rfl) (fun K hK => ?_)
  refine wp_store_at 3 _ _ rfl wa.heap.size 154 (.int .i64 x.e) rfl rfl rfl 61 _ HBx0.out (HLT.out _ HZ0.out 154 (by omega)) HSI.out ?_
  refine hK.out _ _ (Fr.setCells (fun _ => by simp) ([.int .i64 x.e]) 154 _ hHeld) (fun hHeld => ?_)
  clear hK K
  have HBx1 := Lib.hid (Wmg.blk_e HZ0.out x.e HBx0.out)
  have HZx1 : Hid (Wmg.Len {mz q f t with e := x.e}) := Lib.hid ⟨rfl, rfl, rfl, rfl, rfl, rfl, rfl⟩
  have HFS : Hid (Fr [wa.heap.size] w1 (v0.setCells wa.heap.size 154 ([.int .i64 x.e]))) := Lib.hid hHeld
  generalize v0.setCells wa.heap.size 154 ([.int .i64 x.e]) = v1 at *
  simp only [Act.put, List.setIfInBounds_toArray, List.set_cons_zero, List.set_cons_succ]
  refine run_at (i := 8) (v := ?_) rfl (by kernel_rfl) (by rfl) (fun _ _ _ h => h) hHeld (fun w1 hw1 => ?_) ?_
  rotate_left 1
  · skip
    go_simp
    (try (first | with_reducible rfl | (apply And.intro <;> rfl)))
  simp only [Act.put, List.setIfInBounds_toArray, List.set_cons_zero, List.set_cons_succ]
  refine step_at (i := 9) rfl (by kernel_rfl) (by rfl) (fun K hK => ?_)
  refine wp_store_at 3 _ _ rfl wa.heap.size 155 (.int .i64 x.r) rfl rfl rfl 61 _ HBx1.out (HLT.out _ HZx1.out 155 (by omega)) HSI.out ?_
  refine hK.out _ _ (Fr.setCells (fun _ => by simp) ([.int .i64 x.r]) 155 _ hHeld) (fun hHeld => ?_)
  clear hK K
  have HBx2 := Lib.hid (Wmg.blk_r HZx1.out x.r HBx1.out)
  have HZx2 : Hid (Wmg.Len {mz q f t with e := x.e, r := x.r}) := Lib.hid ⟨rfl, rfl, rfl, rfl, rfl, rfl, rfl⟩
  have HFS : Hid (Fr [wa.heap.size] w1 (v1.setCells wa.heap.size 155 ([.int .i64 x.r]))) := Lib.hid hHeld
  generalize v1.setCells wa.heap.size 155 ([.int .i64 x.r]) = v2 at *
  simp only [Act.put, List.setIfInBounds_toArray, List.set_cons_zero, List.set_cons_succ]
  refine run_at (i := 10) (v := ?_) rfl (by kernel_rfl) (by rfl) (fun _ _ _ h => h) hHeld (fun w1 hw1 => ?_) ?_
  rotate_left 1
  · skip
    go_simp
    (try (first | with_reducible rfl | (apply And.intro <;> rfl)))
  simp only [Act.put, List.setIfInBounds_toArray, List.set_cons_zero, List.set_cons_succ]
  refine step_at (i := 11) rfl (by kernel_rfl) (by rfl) (fun K hK => ?_)
  refine wp_store_at 30 _ _ rfl wa.heap.size 156 (.int .u64 (x.tm : Int)) rfl rfl rfl 61 _ HBx2.out (HLT.out _ HZx2.out 156 (by omega)) HSU.out ?_
  refine hK.out _ _ (Fr.setCells (fun _ => by simp) ([.int .u64 (x.tm : Int)]) 156 _ hHeld) (fun hHeld => ?_)
  clear hK K
  have HBx3 := Lib.hid (Wmg.blk_tm HZx2.out x.tm HBx2.out)
  have HZx3 : Hid (Wmg.Len {mz q f t with e := x.e, r := x.r, tm := x.tm}) := Lib.hid ⟨rfl, rfl, rfl, rfl, rfl, rfl, rfl⟩
  have HFS : Hid (Fr [wa.heap.size] w1 (v2.setCells wa.heap.size 156 ([.int .u64 (x.tm : Int)]))) := Lib.hid hHeld
  generalize v2.setCells wa.heap.size 156 ([.int .u64 (x.tm : Int)]) = v3 at *
  simp only [Act.put, List.setIfInBounds_toArray, List.set_cons_zero, List.set_cons_succ]
  refine wpAnyH_done (by kernel_rfl) ?_ _
  have HBX := Lib.hid HBx3.out
  have HZX : Hid (Wmg.Len {mz q f t with e := x.e, r := x.r, tm := x.tm}) := Lib.hid HZx3.out
  have HB9 := Lib.hid (HB1.out.keep HFS.out (by have := HSZ.out; simp; omega))
  obtain ⟨E, hE⟩ : ∃ E, E = ({mz q f t with e := x.e, r := x.r, tm := x.tm} : Wmg).cells := ⟨_, rfl⟩
  have HEL : Hid (E.length = 295) := Lib.hid (by rw [hE]; exact Wmg.lenz HZX.out)
  have HEO : Hid (E.toArray.all (·.oneCell') = true) := Lib.hid (by rw [hE]; exact all_oneCell_toArray (Wmg.one _))
  have HES : Hid ((Tryz.prog.info? 61).map (·.size) = some E.toArray.size) := Lib.hid (by rw [List.size_toArray, HEL.out]; kernel_rfl)
  have HEM : Hid (mz00.size = E.toArray.size) := Lib.hid (by unfold mz00; rw [List.size_toArray, List.size_toArray, HEL.out, Wmg.lenz (mz_len _ _ _)])
  have HER : Hid (v3.rangeAt wa.heap.size 0 E) := Lib.hid (by rw [hE]; exact HBX.out.range)
  go_wp2_with (first | fail | (refine wpList_load_mid rfl 61 _ rfl wa.heap.size 0 rfl E _ HER.out Tryz.underlying61 rfl (row_msg.of HEL.out).2 ?_) | (refine wpList_store_blk rfl 61 _ _ rfl (w.heap.size + 1) E.toArray rfl rfl 61 mz00 HB9.out HES.out HEM.out HEO.out ?_; intro w9 hb9 hf9))
  refine bodyPost_ret (v := .agg E.toArray) (results_cell_row Tryz.results9 _ _ (w.heap.size + 1) 61 E.toArray _ _ rfl hb9 Tryz.underlying61 rfl HES.out) rfl ?_
  have HS9 : Fr [wa.heap.size, w.heap.size + 1] w1 w9 := (HFS.out.mono (by intro k hk _; simp at hk; simp [hk])).trans hf9 (fun k hk _ => by simp at hk; simp [hk])
  refine ⟨{mz q f t with e := x.e, r := x.r, tm := x.tm}, by rw [hE], ?_, ?_, (HF0.out.and HF1.out (by simp)).go HS9 (by have := HSZ.out; simp; omega)⟩
  · have hqe : x.con.q = 5 := HQ.out
    unfold onlyC
    rw [show x.con.q = x.q from rfl, HQ.out]
    rw [HQE.out, HFE.out, HTE.out, HQ.out]
    rfl
  · have hz := mz_ok w9 [] q f t (by rw [HQE.out]; exact HX.out.q) (by rw [HFE.out]; exact HX.out.f) (by rw [HTE.out]; exact HX.out.t)
    have HW9 : Fr [] w w9 := (HF0.out.and HF1.out (by simp)).go HS9 (by have := HSZ.out; simp; omega)
    exact ⟨hz.q, hz.f, hz.t, hz.cm, hz.st, hz.ce, hz.ak, HX.out.e, HX.out.r, HX.out.tm, hz.pr, hz.po, hz.vt, hz.i, hz.en, hz.op, hz.dn, hz.rp, hz.de⟩
set_option maxHeartbeats 2000000 in
theorem only_9 (x : Wmg) (hq : x.q = 9) (w : World) (hx : x.Ok w []) (C : List Value) (hC : x.cells = C) :
    Calls Tryz.prog 9 #[.agg C.toArray] w (OnlyPost x w) := by
  obtain ⟨wa, hwa⟩ : ∃ wa, wa = (w.alloc (Obj.cells C.toArray 61)).alloc (Obj.cells mz00 61) := ⟨_, rfl⟩
  have hf0 : Fr [] w wa := by rw [hwa]; exact ((Fr.refl [] w).alloc _).alloc _
  have hb0 : Blk wa w.heap.size 61 x.cells.toArray := by rw [hwa, hC]; exact blk_alloc (Blk.new _ _ _)
  have hb1 : Blk wa (w.heap.size + 1) 61 mz00 := by
    have := Blk.new (w.alloc (Obj.cells C.toArray 61)) 61 mz00
    rw [hwa]
    simpa using this
  have hat : x.At wa w.heap.size := Wmg.at_of hb0.range hx
  have hcq : wa.cell? ⟨w.heap.size, 0, none⟩ = some (.int .i64 x.q) := by have h := hat.q 0 _ rfl; simpa using h
  have hcf : wa.cell? ⟨w.heap.size, 1, none⟩ = some (.int .i64 x.f) := by have h := hat.f 0 _ rfl; simpa using h
  have hct : wa.cell? ⟨w.heap.size, 2, none⟩ = some (.int .i64 x.t) := by have h := hat.t 0 _ rfl; simpa using h
  have HX := Lib.hid hx
  have HB0 := Lib.hid hb0
  have HB1 := Lib.hid hb1
  have HF0 := Lib.hid hf0
  have HWA := Lib.hid hwa
  have HSZ : Hid (wa.heap.size = w.heap.size + 2) := Lib.hid (by rw [hwa]; simp)
  obtain ⟨Z, hZ⟩ : ∃ Z, Z = (mz x.q x.f x.t).cells := ⟨_, rfl⟩
  have HBU : Hid (Tryz.prog.built 61 [(0, .int .i64 x.q), (1, .int .i64 x.f), (2, .int .i64 x.t)] = some Z.toArray) := Lib.hid (by rw [hZ]; exact built_mg3 _ _ _)
  have HZL : Hid ((Tryz.prog.info? 61).map (·.size) = some Z.toArray.size) := Lib.hid (by rw [hZ]; exact msg_size (mz_len _ _ _))
  have HZM : Hid (mz00.size = Z.toArray.size) := Lib.hid (by rw [hZ]; unfold mz00; rw [List.size_toArray, List.size_toArray, Wmg.lenz (mz_len _ _ _), Wmg.lenz (mz_len _ _ _)])
  have HZO : Hid (Z.toArray.all (·.oneCell') = true) := Lib.hid (by rw [hZ]; exact all_oneCell_toArray (Wmg.one _))
  have HZ := Lib.hid hZ
  have HQ := Lib.hid hq
  obtain ⟨q, hqq⟩ : ∃ q, q = x.q := ⟨_, rfl⟩
  obtain ⟨f, hff⟩ : ∃ f, f = x.f := ⟨_, rfl⟩
  obtain ⟨t, htt⟩ : ∃ t, t = x.t := ⟨_, rfl⟩
  rw [← hqq] at hcq
  rw [← hff] at hcf
  rw [← htt] at hct
  rw [← hqq, ← hff, ← htt] at HBU HZ
  have HQE := Lib.hid hqq
  have HFE := Lib.hid hff
  have HTE := Lib.hid htt
  clear hx hC hwa hf0 hb0 hb1 hat hZ hq hqq hff htt
  go_enter Tryz.func9, Tryz.ntmps9
  go_upto_region 1 with (fail)
  change Code.wp _ _ _ _ ((w.alloc (Obj.cells C.toArray 61)).alloc (Obj.cells mz00 61))
  rw [← HWA.out]
  go_upto_region 2 with (first
    | (refine wpList_builtg rfl 61 _ rfl _ _ HBU.out rfl ?_)
    | (refine wpList_store_blk rfl 61 _ _ rfl wa.heap.size Z.toArray rfl rfl 61 mz00 (Blk.new wa _ _) HZL.out HZM.out HZO.out ?_; intro w1 hb2 hf2))
  have HB2 : Hid (Blk w1 wa.heap.size 61 (mz q f t).cells.toArray) := Lib.hid (by rw [← HZ.out]; exact hb2)
  have HF1 : Hid (Fr [] wa w1) := Lib.hid (((Fr.refl [] wa).alloc _).go hf2 (by simp))
  clear hb2 hf2 hcf hct
  have hcq := HF1.out.cell hcq (by simp)
  have HB0 := Lib.hid (HB0.out.keep HF1.out (by simp))
  have HB1 := Lib.hid (HB1.out.keep HF1.out (by simp))
  have HBL1 : Hid (wa.heap.size < w1.heap.size) := Lib.hid HB2.out.lt
  have HAT := Lib.hid (Wmg.at_of HB0.out.range HX.out)
  have HZ0 := Lib.hid (mz_len q f t)
  rw [HQE.out, HQ.out] at hcq
  have HSI : Hid ((Tryz.prog.info? 3).map (·.size) = some 1) := Lib.hid (by kernel_rfl)
  have HSU : Hid ((Tryz.prog.info? 30).map (·.size) = some 1) := Lib.hid (by kernel_rfl)
  have HSS : Hid ((Tryz.prog.info? 9).map (·.size) = some 1) := Lib.hid (by kernel_rfl)
  have HLT : Hid (∀ y : Wmg, y.Len → ∀ k < 295, k < y.cells.toArray.size) := Lib.hid (fun y hy k hk => by rw [List.size_toArray, Wmg.lenz hy]; exact hk)
  have HCi : Hid (w1.cell? ⟨w.heap.size, 0 + 212, none⟩ = some (.int .i64 x.i)) := Lib.hid (by have h := HAT.out.i 0 _ rfl; simpa using h)
  obtain ⟨V, hV⟩ : ∃ V, V = x.en.cells := ⟨_, rfl⟩
  have HVL : Hid (V.length = 35) := Lib.hid (by rw [hV]; exact Wen.len HX.out.en.h)
  have HVR : Hid (w1.rangeAt w.heap.size 213 V) := Lib.hid (by rw [hV]; exact HAT.out.en)
  have HV := Lib.hid hV
  clear hV
  have HNS : Hid (¬ w.heap.size ∈ [wa.heap.size]) := Lib.hid (by have := HSZ.out; simp; omega)
  go_upto_region 21 with (fail)
  refine wp_region_held_drew (S := Fr [wa.heap.size] w1) (by kernel_rfl) (Fr.drew (Fr.refl _ w1)) (fun hHeld => ?_)
  refine run_at (i := 0) (v := ?_) rfl (by kernel_rfl) (by rfl) (fun _ _ _ h => h) hHeld (fun w1 hw1 => ?_) ?_
  rotate_left 1
  · skip
    go_simp
    (try (first | with_reducible rfl | (apply And.intro <;> rfl)))
  simp only [Act.put, List.setIfInBounds_toArray, List.set_cons_zero, List.set_cons_succ]
  refine run_at (i := 1) (v := ?_) rfl (by kernel_rfl) (by rfl) (fun _ _ _ h => h) hHeld (fun w1 hw1 => ?_) ?_
  rotate_left 1
  · skip
    have hcw0 := hw1.cell (HCi.out) (by first | (simp; done) | exact HNS.out | exact HNW.out | (intro hm; have hlt := HSB.out _ hm; (try dsimp only at hlt); omega))
    go_simp
    (try (first | with_reducible rfl | (apply And.intro <;> rfl)))
  simp only [Act.put, List.setIfInBounds_toArray, List.set_cons_zero, List.set_cons_succ]
  refine run_at (i := 2) (v := ?_) rfl (by kernel_rfl) (by rfl) (fun _ _ _ h => h) hHeld (fun w1 hw1 => ?_) ?_
  rotate_left 1
  · skip
    go_simp
    (try (first | with_reducible rfl | (apply And.intro <;> rfl)))
  simp only [Act.put, List.setIfInBounds_toArray, List.set_cons_zero, List.set_cons_succ]
  refine row_at (i := 3) rfl (by kernel_rfl) (by rfl) _ _ rfl _ _ rfl _ (fun w1 hw1 => hw1.range (HVR.out) (by first | (simp; done) | exact HNS.out | exact HNW.out | (intro hm; have hlt := HSB.out _ hm; (try dsimp only at hlt); omega))) (row_ent.of HVL.out) (fun _ _ _ h => h) hHeld ?_
  simp only [Act.put, List.setIfInBounds_toArray, List.set_cons_zero, List.set_cons_succ]
  refine run_at (i := 4) (v := ?_) rfl (by kernel_rfl) (by rfl) (fun _ _ _ h => h) hHeld (fun w1 hw1 => ?_) ?_
  rotate_left 1
  · skip
    go_simp
    (try (first | with_reducible rfl | (apply And.intro <;> rfl)))
  simp only [Act.put, List.setIfInBounds_toArray, List.set_cons_zero, List.set_cons_succ]
  have HBx0 := Lib.hid HB2.out.drew
  have HFS : Hid (Fr [wa.heap.size] w1 w1.drew) := Lib.hid hHeld
  generalize w1.drew = v0 at *
  refine step_at (i := 5) rfl (by kernel_rfl) (by rfl) (fun K hK => ?_)
  refine wp_store_at 3 _ _ rfl wa.heap.size 212 (.int .i64 x.i) rfl rfl rfl 61 _ HBx0.out (HLT.out _ HZ0.out 212 (by omega)) HSI.out ?_
  refine hK.out _ _ (Fr.setCells (fun _ => by simp) ([.int .i64 x.i]) 212 _ hHeld) (fun hHeld => ?_)
  clear hK K
  have HBx1 := Lib.hid (Wmg.blk_i HZ0.out x.i HBx0.out)
  have HZx1 : Hid (Wmg.Len {mz q f t with i := x.i}) := Lib.hid ⟨rfl, rfl, rfl, rfl, rfl, rfl, rfl⟩
  have HFS : Hid (Fr [wa.heap.size] w1 (v0.setCells wa.heap.size 212 ([.int .i64 x.i]))) := Lib.hid hHeld
  generalize v0.setCells wa.heap.size 212 ([.int .i64 x.i]) = v1 at *
  simp only [Act.put, List.setIfInBounds_toArray, List.set_cons_zero, List.set_cons_succ]
  refine run_at (i := 6) (v := ?_) rfl (by kernel_rfl) (by rfl) (fun _ _ _ h => h) hHeld (fun w1 hw1 => ?_) ?_
  rotate_left 1
  · skip
    go_simp
    (try (first | with_reducible rfl | (apply And.intro <;> rfl)))
  simp only [Act.put, List.setIfInBounds_toArray, List.set_cons_zero, List.set_cons_succ]
  refine step_at (i := 7) rfl (by kernel_rfl) (by rfl) (fun K hK => ?_)
  refine wp_store_mid 51 _ _ rfl wa.heap.size 213 V.toArray rfl rfl (HBx1.out.thereM _ _ (by rw [List.size_toArray, List.size_toArray, HVL.out, Wmg.lenz HZx1.out]; decide)) (by rw [List.size_toArray, HVL.out]; kernel_rfl) (by rw [HV.out]; exact all_oneCell_toArray (Wen.one _)) ?_
  refine hK.out _ _ (Fr.setCells (fun _ => by simp) (V) 213 _ hHeld) (fun hHeld => ?_)
  clear hK K
  have HBx2 := Lib.hid (Wmg.blk_en HZx1.out x.en (Wen.len HX.out.en.h) HBx1.out)
  have HZx2 : Hid (Wmg.Len {mz q f t with i := x.i, en := x.en}) := Lib.hid ⟨rfl, rfl, rfl, rfl, rfl, HX.out.en.h, rfl⟩
  rw [← HV.out] at HBx2
  have HFS : Hid (Fr [wa.heap.size] w1 (v1.setCells wa.heap.size 213 (V))) := Lib.hid hHeld
  generalize v1.setCells wa.heap.size 213 (V) = v2 at *
  simp only [Act.put, List.setIfInBounds_toArray, List.set_cons_zero, List.set_cons_succ]
  refine wpAnyH_done (by kernel_rfl) ?_ _
  have HBX := Lib.hid HBx2.out
  have HZX : Hid (Wmg.Len {mz q f t with i := x.i, en := x.en}) := Lib.hid HZx2.out
  have HB9 := Lib.hid (HB1.out.keep HFS.out (by have := HSZ.out; simp; omega))
  obtain ⟨E, hE⟩ : ∃ E, E = ({mz q f t with i := x.i, en := x.en} : Wmg).cells := ⟨_, rfl⟩
  have HEL : Hid (E.length = 295) := Lib.hid (by rw [hE]; exact Wmg.lenz HZX.out)
  have HEO : Hid (E.toArray.all (·.oneCell') = true) := Lib.hid (by rw [hE]; exact all_oneCell_toArray (Wmg.one _))
  have HES : Hid ((Tryz.prog.info? 61).map (·.size) = some E.toArray.size) := Lib.hid (by rw [List.size_toArray, HEL.out]; kernel_rfl)
  have HEM : Hid (mz00.size = E.toArray.size) := Lib.hid (by unfold mz00; rw [List.size_toArray, List.size_toArray, HEL.out, Wmg.lenz (mz_len _ _ _)])
  have HER : Hid (v2.rangeAt wa.heap.size 0 E) := Lib.hid (by rw [hE]; exact HBX.out.range)
  go_wp2_with (first | fail | (refine wpList_load_mid rfl 61 _ rfl wa.heap.size 0 rfl E _ HER.out Tryz.underlying61 rfl (row_msg.of HEL.out).2 ?_) | (refine wpList_store_blk rfl 61 _ _ rfl (w.heap.size + 1) E.toArray rfl rfl 61 mz00 HB9.out HES.out HEM.out HEO.out ?_; intro w9 hb9 hf9))
  refine bodyPost_ret (v := .agg E.toArray) (results_cell_row Tryz.results9 _ _ (w.heap.size + 1) 61 E.toArray _ _ rfl hb9 Tryz.underlying61 rfl HES.out) rfl ?_
  have HS9 : Fr [wa.heap.size, w.heap.size + 1] w1 w9 := (HFS.out.mono (by intro k hk _; simp at hk; simp [hk])).trans hf9 (fun k hk _ => by simp at hk; simp [hk])
  refine ⟨{mz q f t with i := x.i, en := x.en}, by rw [hE], ?_, ?_, (HF0.out.and HF1.out (by simp)).go HS9 (by have := HSZ.out; simp; omega)⟩
  · have hqe : x.con.q = 9 := HQ.out
    unfold onlyC
    rw [show x.con.q = x.q from rfl, HQ.out]
    rw [HQE.out, HFE.out, HTE.out, HQ.out]
    rfl
  · have hz := mz_ok w9 [] q f t (by rw [HQE.out]; exact HX.out.q) (by rw [HFE.out]; exact HX.out.f) (by rw [HTE.out]; exact HX.out.t)
    have HW9 : Fr [] w w9 := (HF0.out.and HF1.out (by simp)).go HS9 (by have := HSZ.out; simp; omega)
    exact ⟨hz.q, hz.f, hz.t, hz.cm, hz.st, hz.ce, hz.ak, hz.e, hz.r, hz.tm, hz.pr, hz.po, hz.vt, HX.out.i, HX.out.en, hz.op, hz.dn, hz.rp, hz.de⟩
set_option maxHeartbeats 2000000 in
theorem only_13 (x : Wmg) (hq : x.q = 13) (w : World) (hx : x.Ok w []) (C : List Value) (hC : x.cells = C) :
    Calls Tryz.prog 9 #[.agg C.toArray] w (OnlyPost x w) := by
  obtain ⟨wa, hwa⟩ : ∃ wa, wa = (w.alloc (Obj.cells C.toArray 61)).alloc (Obj.cells mz00 61) := ⟨_, rfl⟩
  have hf0 : Fr [] w wa := by rw [hwa]; exact ((Fr.refl [] w).alloc _).alloc _
  have hb0 : Blk wa w.heap.size 61 x.cells.toArray := by rw [hwa, hC]; exact blk_alloc (Blk.new _ _ _)
  have hb1 : Blk wa (w.heap.size + 1) 61 mz00 := by
    have := Blk.new (w.alloc (Obj.cells C.toArray 61)) 61 mz00
    rw [hwa]
    simpa using this
  have hat : x.At wa w.heap.size := Wmg.at_of hb0.range hx
  have hcq : wa.cell? ⟨w.heap.size, 0, none⟩ = some (.int .i64 x.q) := by have h := hat.q 0 _ rfl; simpa using h
  have hcf : wa.cell? ⟨w.heap.size, 1, none⟩ = some (.int .i64 x.f) := by have h := hat.f 0 _ rfl; simpa using h
  have hct : wa.cell? ⟨w.heap.size, 2, none⟩ = some (.int .i64 x.t) := by have h := hat.t 0 _ rfl; simpa using h
  have HX := Lib.hid hx
  have HB0 := Lib.hid hb0
  have HB1 := Lib.hid hb1
  have HF0 := Lib.hid hf0
  have HWA := Lib.hid hwa
  have HSZ : Hid (wa.heap.size = w.heap.size + 2) := Lib.hid (by rw [hwa]; simp)
  obtain ⟨Z, hZ⟩ : ∃ Z, Z = (mz x.q x.f x.t).cells := ⟨_, rfl⟩
  have HBU : Hid (Tryz.prog.built 61 [(0, .int .i64 x.q), (1, .int .i64 x.f), (2, .int .i64 x.t)] = some Z.toArray) := Lib.hid (by rw [hZ]; exact built_mg3 _ _ _)
  have HZL : Hid ((Tryz.prog.info? 61).map (·.size) = some Z.toArray.size) := Lib.hid (by rw [hZ]; exact msg_size (mz_len _ _ _))
  have HZM : Hid (mz00.size = Z.toArray.size) := Lib.hid (by rw [hZ]; unfold mz00; rw [List.size_toArray, List.size_toArray, Wmg.lenz (mz_len _ _ _), Wmg.lenz (mz_len _ _ _)])
  have HZO : Hid (Z.toArray.all (·.oneCell') = true) := Lib.hid (by rw [hZ]; exact all_oneCell_toArray (Wmg.one _))
  have HZ := Lib.hid hZ
  have HQ := Lib.hid hq
  obtain ⟨q, hqq⟩ : ∃ q, q = x.q := ⟨_, rfl⟩
  obtain ⟨f, hff⟩ : ∃ f, f = x.f := ⟨_, rfl⟩
  obtain ⟨t, htt⟩ : ∃ t, t = x.t := ⟨_, rfl⟩
  rw [← hqq] at hcq
  rw [← hff] at hcf
  rw [← htt] at hct
  rw [← hqq, ← hff, ← htt] at HBU HZ
  have HQE := Lib.hid hqq
  have HFE := Lib.hid hff
  have HTE := Lib.hid htt
  clear hx hC hwa hf0 hb0 hb1 hat hZ hq hqq hff htt
  go_enter Tryz.func9, Tryz.ntmps9
  go_upto_region 1 with (fail)
  change Code.wp _ _ _ _ ((w.alloc (Obj.cells C.toArray 61)).alloc (Obj.cells mz00 61))
  rw [← HWA.out]
  go_upto_region 2 with (first
    | (refine wpList_builtg rfl 61 _ rfl _ _ HBU.out rfl ?_)
    | (refine wpList_store_blk rfl 61 _ _ rfl wa.heap.size Z.toArray rfl rfl 61 mz00 (Blk.new wa _ _) HZL.out HZM.out HZO.out ?_; intro w1 hb2 hf2))
  have HB2 : Hid (Blk w1 wa.heap.size 61 (mz q f t).cells.toArray) := Lib.hid (by rw [← HZ.out]; exact hb2)
  have HF1 : Hid (Fr [] wa w1) := Lib.hid (((Fr.refl [] wa).alloc _).go hf2 (by simp))
  clear hb2 hf2 hcf hct
  have hcq := HF1.out.cell hcq (by simp)
  have HB0 := Lib.hid (HB0.out.keep HF1.out (by simp))
  have HB1 := Lib.hid (HB1.out.keep HF1.out (by simp))
  have HBL1 : Hid (wa.heap.size < w1.heap.size) := Lib.hid HB2.out.lt
  have HAT := Lib.hid (Wmg.at_of HB0.out.range HX.out)
  have HZ0 := Lib.hid (mz_len q f t)
  rw [HQE.out, HQ.out] at hcq
  have HSI : Hid ((Tryz.prog.info? 3).map (·.size) = some 1) := Lib.hid (by kernel_rfl)
  have HSU : Hid ((Tryz.prog.info? 30).map (·.size) = some 1) := Lib.hid (by kernel_rfl)
  have HSS : Hid ((Tryz.prog.info? 9).map (·.size) = some 1) := Lib.hid (by kernel_rfl)
  have HLT : Hid (∀ y : Wmg, y.Len → ∀ k < 295, k < y.cells.toArray.size) := Lib.hid (fun y hy k hk => by rw [List.size_toArray, Wmg.lenz hy]; exact hk)
  have HCi : Hid (w1.cell? ⟨w.heap.size, 0 + 212, none⟩ = some (.int .i64 x.i)) := Lib.hid (by have h := HAT.out.i 0 _ rfl; simpa using h)
  have HCs : Hid (w1.cell? ⟨w.heap.size, 0 + 286, none⟩ = some (.string ⟨x.rp.toArray⟩)) := Lib.hid (by have h := HAT.out.rp 0 _ rfl; simpa using h)
  have HNS : Hid (¬ w.heap.size ∈ [wa.heap.size]) := Lib.hid (by have := HSZ.out; simp; omega)
  go_upto_region 29 with (fail)
  refine wp_region_held_drew (S := Fr [wa.heap.size] w1) (by kernel_rfl) (Fr.drew (Fr.refl _ w1)) (fun hHeld => ?_)
  refine run_at (i := 0) (v := ?_) rfl (by kernel_rfl) (by rfl) (fun _ _ _ h => h) hHeld (fun w1 hw1 => ?_) ?_
  rotate_left 1
  · skip
    go_simp
    (try (first | with_reducible rfl | (apply And.intro <;> rfl)))
  simp only [Act.put, List.setIfInBounds_toArray, List.set_cons_zero, List.set_cons_succ]
  refine run_at (i := 1) (v := ?_) rfl (by kernel_rfl) (by rfl) (fun _ _ _ h => h) hHeld (fun w1 hw1 => ?_) ?_
  rotate_left 1
  · skip
    have hcw0 := hw1.cell (HCi.out) (by first | (simp; done) | exact HNS.out | exact HNW.out | (intro hm; have hlt := HSB.out _ hm; (try dsimp only at hlt); omega))
    go_simp
    (try (first | with_reducible rfl | (apply And.intro <;> rfl)))
  simp only [Act.put, List.setIfInBounds_toArray, List.set_cons_zero, List.set_cons_succ]
  refine run_at (i := 2) (v := ?_) rfl (by kernel_rfl) (by rfl) (fun _ _ _ h => h) hHeld (fun w1 hw1 => ?_) ?_
  rotate_left 1
  · skip
    go_simp
    (try (first | with_reducible rfl | (apply And.intro <;> rfl)))
  simp only [Act.put, List.setIfInBounds_toArray, List.set_cons_zero, List.set_cons_succ]
  refine run_at (i := 3) (v := ?_) rfl (by kernel_rfl) (by rfl) (fun _ _ _ h => h) hHeld (fun w1 hw1 => ?_) ?_
  rotate_left 1
  · skip
    have hcw0 := hw1.cell (HCs.out) (by first | (simp; done) | exact HNS.out | exact HNW.out | (intro hm; have hlt := HSB.out _ hm; (try dsimp only at hlt); omega))
    go_simp
    (try (first | with_reducible rfl | (apply And.intro <;> rfl)))
  simp only [Act.put, List.setIfInBounds_toArray, List.set_cons_zero, List.set_cons_succ]
  refine run_at (i := 4) (v := ?_) rfl (by kernel_rfl) (by rfl) (fun _ _ _ h => h) hHeld (fun w1 hw1 => ?_) ?_
  rotate_left 1
  · skip
    go_simp
    (try (first | with_reducible rfl | (apply And.intro <;> rfl)))
  simp only [Act.put, List.setIfInBounds_toArray, List.set_cons_zero, List.set_cons_succ]
  have HBx0 := Lib.hid HB2.out.drew
  have HFS : Hid (Fr [wa.heap.size] w1 w1.drew) := Lib.hid hHeld
  generalize w1.drew = v0 at *
  refine step_at (i := 5) rfl (by kernel_rfl) (by rfl) (fun K hK => ?_)
  refine wp_store_at 3 _ _ rfl wa.heap.size 212 (.int .i64 x.i) rfl rfl rfl 61 _ HBx0.out (HLT.out _ HZ0.out 212 (by omega)) HSI.out ?_
  refine hK.out _ _ (Fr.setCells (fun _ => by simp) ([.int .i64 x.i]) 212 _ hHeld) (fun hHeld => ?_)
  clear hK K
  have HBx1 := Lib.hid (Wmg.blk_i HZ0.out x.i HBx0.out)
  have HZx1 : Hid (Wmg.Len {mz q f t with i := x.i}) := Lib.hid ⟨rfl, rfl, rfl, rfl, rfl, rfl, rfl⟩
  have HFS : Hid (Fr [wa.heap.size] w1 (v0.setCells wa.heap.size 212 ([.int .i64 x.i]))) := Lib.hid hHeld
  generalize v0.setCells wa.heap.size 212 ([.int .i64 x.i]) = v1 at *
  simp only [Act.put, List.setIfInBounds_toArray, List.set_cons_zero, List.set_cons_succ]
  refine run_at (i := 6) (v := ?_) rfl (by kernel_rfl) (by rfl) (fun _ _ _ h => h) hHeld (fun w1 hw1 => ?_) ?_
  rotate_left 1
  · skip
    go_simp
    (try (first | with_reducible rfl | (apply And.intro <;> rfl)))
  simp only [Act.put, List.setIfInBounds_toArray, List.set_cons_zero, List.set_cons_succ]
  refine step_at (i := 7) rfl (by kernel_rfl) (by rfl) (fun K hK => ?_)
  refine wp_store_at 9 _ _ rfl wa.heap.size 286 (.string ⟨x.rp.toArray⟩) rfl rfl rfl 61 _ HBx1.out (HLT.out _ HZx1.out 286 (by omega)) HSS.out ?_
  refine hK.out _ _ (Fr.setCells (fun _ => by simp) ([.string ⟨x.rp.toArray⟩]) 286 _ hHeld) (fun hHeld => ?_)
  clear hK K
  have HBx2 := Lib.hid (Wmg.blk_rp HZx1.out x.rp HBx1.out)
  have HZx2 : Hid (Wmg.Len {mz q f t with i := x.i, rp := x.rp}) := Lib.hid ⟨rfl, rfl, rfl, rfl, rfl, rfl, rfl⟩
  have HFS : Hid (Fr [wa.heap.size] w1 (v1.setCells wa.heap.size 286 ([.string ⟨x.rp.toArray⟩]))) := Lib.hid hHeld
  generalize v1.setCells wa.heap.size 286 ([.string ⟨x.rp.toArray⟩]) = v2 at *
  simp only [Act.put, List.setIfInBounds_toArray, List.set_cons_zero, List.set_cons_succ]
  refine wpAnyH_done (by kernel_rfl) ?_ _
  have HBX := Lib.hid HBx2.out
  have HZX : Hid (Wmg.Len {mz q f t with i := x.i, rp := x.rp}) := Lib.hid HZx2.out
  have HB9 := Lib.hid (HB1.out.keep HFS.out (by have := HSZ.out; simp; omega))
  obtain ⟨E, hE⟩ : ∃ E, E = ({mz q f t with i := x.i, rp := x.rp} : Wmg).cells := ⟨_, rfl⟩
  have HEL : Hid (E.length = 295) := Lib.hid (by rw [hE]; exact Wmg.lenz HZX.out)
  have HEO : Hid (E.toArray.all (·.oneCell') = true) := Lib.hid (by rw [hE]; exact all_oneCell_toArray (Wmg.one _))
  have HES : Hid ((Tryz.prog.info? 61).map (·.size) = some E.toArray.size) := Lib.hid (by rw [List.size_toArray, HEL.out]; kernel_rfl)
  have HEM : Hid (mz00.size = E.toArray.size) := Lib.hid (by unfold mz00; rw [List.size_toArray, List.size_toArray, HEL.out, Wmg.lenz (mz_len _ _ _)])
  have HER : Hid (v2.rangeAt wa.heap.size 0 E) := Lib.hid (by rw [hE]; exact HBX.out.range)
  go_wp2_with (first | fail | (refine wpList_load_mid rfl 61 _ rfl wa.heap.size 0 rfl E _ HER.out Tryz.underlying61 rfl (row_msg.of HEL.out).2 ?_) | (refine wpList_store_blk rfl 61 _ _ rfl (w.heap.size + 1) E.toArray rfl rfl 61 mz00 HB9.out HES.out HEM.out HEO.out ?_; intro w9 hb9 hf9))
  refine bodyPost_ret (v := .agg E.toArray) (results_cell_row Tryz.results9 _ _ (w.heap.size + 1) 61 E.toArray _ _ rfl hb9 Tryz.underlying61 rfl HES.out) rfl ?_
  have HS9 : Fr [wa.heap.size, w.heap.size + 1] w1 w9 := (HFS.out.mono (by intro k hk _; simp at hk; simp [hk])).trans hf9 (fun k hk _ => by simp at hk; simp [hk])
  refine ⟨{mz q f t with i := x.i, rp := x.rp}, by rw [hE], ?_, ?_, (HF0.out.and HF1.out (by simp)).go HS9 (by have := HSZ.out; simp; omega)⟩
  · have hqe : x.con.q = 13 := HQ.out
    unfold onlyC
    rw [show x.con.q = x.q from rfl, HQ.out]
    rw [HQE.out, HFE.out, HTE.out, HQ.out]
    rfl
  · have hz := mz_ok w9 [] q f t (by rw [HQE.out]; exact HX.out.q) (by rw [HFE.out]; exact HX.out.f) (by rw [HTE.out]; exact HX.out.t)
    have HW9 : Fr [] w w9 := (HF0.out.and HF1.out (by simp)).go HS9 (by have := HSZ.out; simp; omega)
    exact ⟨hz.q, hz.f, hz.t, hz.cm, hz.st, hz.ce, hz.ak, hz.e, hz.r, hz.tm, hz.pr, hz.po, hz.vt, HX.out.i, hz.en, hz.op, hz.dn, HX.out.rp, hz.de⟩
set_option maxHeartbeats 2000000 in
theorem only_11 (x : Wmg) (hq : x.q = 11) (w : World) (hx : x.Ok w []) (C : List Value) (hC : x.cells = C) :
    Calls Tryz.prog 9 #[.agg C.toArray] w (OnlyPost x w) := by
  obtain ⟨wa, hwa⟩ : ∃ wa, wa = (w.alloc (Obj.cells C.toArray 61)).alloc (Obj.cells mz00 61) := ⟨_, rfl⟩
  have hf0 : Fr [] w wa := by rw [hwa]; exact ((Fr.refl [] w).alloc _).alloc _
  have hb0 : Blk wa w.heap.size 61 x.cells.toArray := by rw [hwa, hC]; exact blk_alloc (Blk.new _ _ _)
  have hb1 : Blk wa (w.heap.size + 1) 61 mz00 := by
    have := Blk.new (w.alloc (Obj.cells C.toArray 61)) 61 mz00
    rw [hwa]
    simpa using this
  have hat : x.At wa w.heap.size := Wmg.at_of hb0.range hx
  have hcq : wa.cell? ⟨w.heap.size, 0, none⟩ = some (.int .i64 x.q) := by have h := hat.q 0 _ rfl; simpa using h
  have hcf : wa.cell? ⟨w.heap.size, 1, none⟩ = some (.int .i64 x.f) := by have h := hat.f 0 _ rfl; simpa using h
  have hct : wa.cell? ⟨w.heap.size, 2, none⟩ = some (.int .i64 x.t) := by have h := hat.t 0 _ rfl; simpa using h
  have HX := Lib.hid hx
  have HB0 := Lib.hid hb0
  have HB1 := Lib.hid hb1
  have HF0 := Lib.hid hf0
  have HWA := Lib.hid hwa
  have HSZ : Hid (wa.heap.size = w.heap.size + 2) := Lib.hid (by rw [hwa]; simp)
  obtain ⟨Z, hZ⟩ : ∃ Z, Z = (mz x.q x.f x.t).cells := ⟨_, rfl⟩
  have HBU : Hid (Tryz.prog.built 61 [(0, .int .i64 x.q), (1, .int .i64 x.f), (2, .int .i64 x.t)] = some Z.toArray) := Lib.hid (by rw [hZ]; exact built_mg3 _ _ _)
  have HZL : Hid ((Tryz.prog.info? 61).map (·.size) = some Z.toArray.size) := Lib.hid (by rw [hZ]; exact msg_size (mz_len _ _ _))
  have HZM : Hid (mz00.size = Z.toArray.size) := Lib.hid (by rw [hZ]; unfold mz00; rw [List.size_toArray, List.size_toArray, Wmg.lenz (mz_len _ _ _), Wmg.lenz (mz_len _ _ _)])
  have HZO : Hid (Z.toArray.all (·.oneCell') = true) := Lib.hid (by rw [hZ]; exact all_oneCell_toArray (Wmg.one _))
  have HZ := Lib.hid hZ
  have HQ := Lib.hid hq
  obtain ⟨q, hqq⟩ : ∃ q, q = x.q := ⟨_, rfl⟩
  obtain ⟨f, hff⟩ : ∃ f, f = x.f := ⟨_, rfl⟩
  obtain ⟨t, htt⟩ : ∃ t, t = x.t := ⟨_, rfl⟩
  rw [← hqq] at hcq
  rw [← hff] at hcf
  rw [← htt] at hct
  rw [← hqq, ← hff, ← htt] at HBU HZ
  have HQE := Lib.hid hqq
  have HFE := Lib.hid hff
  have HTE := Lib.hid htt
  clear hx hC hwa hf0 hb0 hb1 hat hZ hq hqq hff htt
  go_enter Tryz.func9, Tryz.ntmps9
  go_upto_region 1 with (fail)
  change Code.wp _ _ _ _ ((w.alloc (Obj.cells C.toArray 61)).alloc (Obj.cells mz00 61))
  rw [← HWA.out]
  go_upto_region 2 with (first
    | (refine wpList_builtg rfl 61 _ rfl _ _ HBU.out rfl ?_)
    | (refine wpList_store_blk rfl 61 _ _ rfl wa.heap.size Z.toArray rfl rfl 61 mz00 (Blk.new wa _ _) HZL.out HZM.out HZO.out ?_; intro w1 hb2 hf2))
  have HB2 : Hid (Blk w1 wa.heap.size 61 (mz q f t).cells.toArray) := Lib.hid (by rw [← HZ.out]; exact hb2)
  have HF1 : Hid (Fr [] wa w1) := Lib.hid (((Fr.refl [] wa).alloc _).go hf2 (by simp))
  clear hb2 hf2 hcf hct
  have hcq := HF1.out.cell hcq (by simp)
  have HB0 := Lib.hid (HB0.out.keep HF1.out (by simp))
  have HB1 := Lib.hid (HB1.out.keep HF1.out (by simp))
  have HBL1 : Hid (wa.heap.size < w1.heap.size) := Lib.hid HB2.out.lt
  have HAT := Lib.hid (Wmg.at_of HB0.out.range HX.out)
  have HZ0 := Lib.hid (mz_len q f t)
  rw [HQE.out, HQ.out] at hcq
  have HSI : Hid ((Tryz.prog.info? 3).map (·.size) = some 1) := Lib.hid (by kernel_rfl)
  have hci : w1.cell? ⟨w.heap.size, 212, none⟩ = some (.int .i64 x.i) := by have h := HAT.out.i 0 _ rfl; simpa using h
  have HBX := Lib.hid (Wmg.blk_i HZ0.out x.i HB2.out)
  have HZX : Hid (Wmg.Len {mz q f t with i := x.i}) := Lib.hid ⟨rfl, rfl, rfl, rfl, rfl, rfl, rfl⟩
  have HFS : Hid (Fr [wa.heap.size] w1 (w1.setCells wa.heap.size 212 [.int .i64 x.i])) := Lib.hid (Fr.setCells (fun _ => by simp) _ 212 _ (Fr.refl _ _))
  have HB9 : Hid (Blk (w1.setCells wa.heap.size 212 [.int .i64 x.i]) (w.heap.size + 1) 61 mz00) := Lib.hid (HB1.out.keep HFS.out (by have := HSZ.out; simp; omega))
  obtain ⟨E, hE⟩ : ∃ E, E = ({mz q f t with i := x.i} : Wmg).cells := ⟨_, rfl⟩
  have HEL : Hid (E.length = 295) := Lib.hid (by rw [hE]; exact Wmg.lenz HZX.out)
  have HEO : Hid (E.toArray.all (·.oneCell') = true) := Lib.hid (by rw [hE]; exact all_oneCell_toArray (Wmg.one _))
  have HES : Hid ((Tryz.prog.info? 61).map (·.size) = some E.toArray.size) := Lib.hid (by rw [List.size_toArray, HEL.out]; kernel_rfl)
  have HEM : Hid (mz00.size = E.toArray.size) := Lib.hid (by unfold mz00; rw [List.size_toArray, List.size_toArray, HEL.out, Wmg.lenz (mz_len _ _ _)])
  have HER : Hid ((w1.setCells wa.heap.size 212 [.int .i64 x.i]).rangeAt wa.heap.size 0 E) := Lib.hid (by rw [hE]; exact HBX.out.range)
  go_wp2_with (first | (refine wpList_store_at rfl 3 _ _ rfl wa.heap.size 212 (.int .i64 x.i) rfl rfl rfl 61 _ HB2.out (by rw [List.size_toArray, Wmg.lenz HZ0.out]; decide) HSI.out ?_) | (refine wpList_load_mid rfl 61 _ rfl wa.heap.size 0 rfl E _ HER.out Tryz.underlying61 rfl (row_msg.of HEL.out).2 ?_) | (refine wpList_store_blk rfl 61 _ _ rfl (w.heap.size + 1) E.toArray rfl rfl 61 mz00 HB9.out HES.out HEM.out HEO.out ?_; intro w9 hb9 hf9))
  refine bodyPost_ret (v := .agg E.toArray) (results_cell_row Tryz.results9 _ _ (w.heap.size + 1) 61 E.toArray _ _ rfl hb9 Tryz.underlying61 rfl HES.out) rfl ?_
  have HS9 : Fr [wa.heap.size, w.heap.size + 1] w1 w9 := (HFS.out.mono (by intro k hk _; simp at hk; simp [hk])).trans hf9 (fun k hk _ => by simp at hk; simp [hk])
  refine ⟨{mz q f t with i := x.i}, by rw [hE], ?_, ?_, (HF0.out.and HF1.out (by simp)).go HS9 (by have := HSZ.out; simp; omega)⟩
  · have hqe : x.con.q = 11 := HQ.out
    unfold onlyC
    rw [show x.con.q = x.q from rfl, HQ.out]
    rw [HQE.out, HFE.out, HTE.out, HQ.out]
    rfl
  · have hz := mz_ok w9 [] q f t (by rw [HQE.out]; exact HX.out.q) (by rw [HFE.out]; exact HX.out.f) (by rw [HTE.out]; exact HX.out.t)
    have HW9 : Fr [] w w9 := (HF0.out.and HF1.out (by simp)).go HS9 (by have := HSZ.out; simp; omega)
    exact ⟨hz.q, hz.f, hz.t, hz.cm, hz.st, hz.ce, hz.ak, hz.e, hz.r, hz.tm, hz.pr, hz.po, hz.vt, HX.out.i, hz.en, hz.op, hz.dn, hz.rp, hz.de⟩
set_option maxHeartbeats 2000000 in
theorem only_none (x : Wmg) (hq : ¬ (1 ≤ x.q ∧ x.q ≤ 14)) (w : World) (hx : x.Ok w []) (C : List Value) (hC : x.cells = C) :
    Calls Tryz.prog 9 #[.agg C.toArray] w (OnlyPost x w) := by
  obtain ⟨wa, hwa⟩ : ∃ wa, wa = (w.alloc (Obj.cells C.toArray 61)).alloc (Obj.cells mz00 61) := ⟨_, rfl⟩
  have hf0 : Fr [] w wa := by rw [hwa]; exact ((Fr.refl [] w).alloc _).alloc _
  have hb0 : Blk wa w.heap.size 61 x.cells.toArray := by rw [hwa, hC]; exact blk_alloc (Blk.new _ _ _)
  have hb1 : Blk wa (w.heap.size + 1) 61 mz00 := by
    have := Blk.new (w.alloc (Obj.cells C.toArray 61)) 61 mz00
    rw [hwa]
    simpa using this
  have hat : x.At wa w.heap.size := Wmg.at_of hb0.range hx
  have hcq : wa.cell? ⟨w.heap.size, 0, none⟩ = some (.int .i64 x.q) := by have h := hat.q 0 _ rfl; simpa using h
  have hcf : wa.cell? ⟨w.heap.size, 1, none⟩ = some (.int .i64 x.f) := by have h := hat.f 0 _ rfl; simpa using h
  have hct : wa.cell? ⟨w.heap.size, 2, none⟩ = some (.int .i64 x.t) := by have h := hat.t 0 _ rfl; simpa using h
  have HX := Lib.hid hx
  have HB0 := Lib.hid hb0
  have HB1 := Lib.hid hb1
  have HF0 := Lib.hid hf0
  have HWA := Lib.hid hwa
  have HSZ : Hid (wa.heap.size = w.heap.size + 2) := Lib.hid (by rw [hwa]; simp)
  obtain ⟨Z, hZ⟩ : ∃ Z, Z = (mz x.q x.f x.t).cells := ⟨_, rfl⟩
  have HBU : Hid (Tryz.prog.built 61 [(0, .int .i64 x.q), (1, .int .i64 x.f), (2, .int .i64 x.t)] = some Z.toArray) := Lib.hid (by rw [hZ]; exact built_mg3 _ _ _)
  have HZL : Hid ((Tryz.prog.info? 61).map (·.size) = some Z.toArray.size) := Lib.hid (by rw [hZ]; exact msg_size (mz_len _ _ _))
  have HZM : Hid (mz00.size = Z.toArray.size) := Lib.hid (by rw [hZ]; unfold mz00; rw [List.size_toArray, List.size_toArray, Wmg.lenz (mz_len _ _ _), Wmg.lenz (mz_len _ _ _)])
  have HZO : Hid (Z.toArray.all (·.oneCell') = true) := Lib.hid (by rw [hZ]; exact all_oneCell_toArray (Wmg.one _))
  have HZ := Lib.hid hZ
  have HQ := Lib.hid hq
  obtain ⟨q, hqq⟩ : ∃ q, q = x.q := ⟨_, rfl⟩
  obtain ⟨f, hff⟩ : ∃ f, f = x.f := ⟨_, rfl⟩
  obtain ⟨t, htt⟩ : ∃ t, t = x.t := ⟨_, rfl⟩
  rw [← hqq] at hcq
  rw [← hff] at hcf
  rw [← htt] at hct
  rw [← hqq, ← hff, ← htt] at HBU HZ
  have HQE := Lib.hid hqq
  have HFE := Lib.hid hff
  have HTE := Lib.hid htt
  clear hx hC hwa hf0 hb0 hb1 hat hZ hq hqq hff htt
  go_enter Tryz.func9, Tryz.ntmps9
  go_upto_region 1 with (fail)
  change Code.wp _ _ _ _ ((w.alloc (Obj.cells C.toArray 61)).alloc (Obj.cells mz00 61))
  rw [← HWA.out]
  go_upto_region 2 with (first
    | (refine wpList_builtg rfl 61 _ rfl _ _ HBU.out rfl ?_)
    | (refine wpList_store_blk rfl 61 _ _ rfl wa.heap.size Z.toArray rfl rfl 61 mz00 (Blk.new wa _ _) HZL.out HZM.out HZO.out ?_; intro w1 hb2 hf2))
  have HB2 : Hid (Blk w1 wa.heap.size 61 (mz q f t).cells.toArray) := Lib.hid (by rw [← HZ.out]; exact hb2)
  have HF1 : Hid (Fr [] wa w1) := Lib.hid (((Fr.refl [] wa).alloc _).go hf2 (by simp))
  clear hb2 hf2 hcf hct
  have hcq := HF1.out.cell hcq (by simp)
  have HB0 := Lib.hid (HB0.out.keep HF1.out (by simp))
  have HB1 := Lib.hid (HB1.out.keep HF1.out (by simp))
  have HBL1 : Hid (wa.heap.size < w1.heap.size) := Lib.hid HB2.out.lt
  have HAT := Lib.hid (Wmg.at_of HB0.out.range HX.out)
  have HZ0 := Lib.hid (mz_len q f t)
  have hq1 : (q == 1) = false := by have h1 := HQ.out; have h2 := HQE.out; simp; omega
  have hq2 : (q == 2) = false := by have h1 := HQ.out; have h2 := HQE.out; simp; omega
  have hq3 : (q == 3) = false := by have h1 := HQ.out; have h2 := HQE.out; simp; omega
  have hq4 : (q == 4) = false := by have h1 := HQ.out; have h2 := HQE.out; simp; omega
  have hq5 : (q == 5) = false := by have h1 := HQ.out; have h2 := HQE.out; simp; omega
  have hq6 : (q == 6) = false := by have h1 := HQ.out; have h2 := HQE.out; simp; omega
  have hq7 : (q == 7) = false := by have h1 := HQ.out; have h2 := HQE.out; simp; omega
  have hq8 : (q == 8) = false := by have h1 := HQ.out; have h2 := HQE.out; simp; omega
  have hq9 : (q == 9) = false := by have h1 := HQ.out; have h2 := HQE.out; simp; omega
  have hq10 : (q == 10) = false := by have h1 := HQ.out; have h2 := HQE.out; simp; omega
  have hq11 : (q == 11) = false := by have h1 := HQ.out; have h2 := HQE.out; simp; omega
  have hq12 : (q == 12) = false := by have h1 := HQ.out; have h2 := HQE.out; simp; omega
  have hq13 : (q == 13) = false := by have h1 := HQ.out; have h2 := HQE.out; simp; omega
  have hq14 : (q == 14) = false := by have h1 := HQ.out; have h2 := HQE.out; simp; omega
  have HB9 := Lib.hid HB1.out
  obtain ⟨E, hE⟩ : ∃ E, E = (mz 0 0 0).cells := ⟨_, rfl⟩
  have HEL : Hid (E.length = 295) := Lib.hid (by rw [hE]; exact Wmg.lenz (mz_len _ _ _))
  have HEB : Hid (Tryz.prog.built 61 [] = some E.toArray) := Lib.hid (by rw [hE]; exact built_mg0)
  have HEO : Hid (E.toArray.all (·.oneCell') = true) := Lib.hid (by rw [hE]; exact all_oneCell_toArray (Wmg.one _))
  have HES : Hid ((Tryz.prog.info? 61).map (·.size) = some E.toArray.size) := Lib.hid (by rw [List.size_toArray, HEL.out]; kernel_rfl)
  have HEM : Hid (mz00.size = E.toArray.size) := Lib.hid (by unfold mz00; rw [List.size_toArray, List.size_toArray, HEL.out, Wmg.lenz (mz_len _ _ _)])
  go_wp2_with (first | (refine wpList_builtg rfl 61 _ rfl _ _ HEB.out rfl ?_) | (refine wpList_store_blk rfl 61 _ _ rfl (w.heap.size + 1) E.toArray rfl rfl 61 mz00 HB9.out HES.out HEM.out HEO.out ?_; intro w9 hb9 hf9))
  refine bodyPost_ret (v := .agg E.toArray) (results_cell_row Tryz.results9 _ _ (w.heap.size + 1) 61 E.toArray _ _ rfl hb9 Tryz.underlying61 rfl HES.out) rfl ?_
  refine ⟨mz 0 0 0, by rw [hE], ?_, mz_ok w9 [] 0 0 0 zero_in zero_in zero_in, (HF0.out.and HF1.out (by simp)).go hf9 (by simp)⟩
  have hn := HQ.out
  unfold onlyC
  rw [show x.con.q = x.q from rfl]
  rw [if_neg (show ¬ x.q = 1 by omega)]
  rw [if_neg (show ¬ x.q = 2 by omega)]
  rw [if_neg (show ¬ x.q = 3 by omega)]
  rw [if_neg (show ¬ x.q = 4 by omega)]
  rw [if_neg (show ¬ x.q = 5 by omega)]
  rw [if_neg (show ¬ x.q = 6 by omega)]
  rw [if_neg (show ¬ x.q = 7 by omega)]
  rw [if_neg (show ¬ x.q = 8 by omega)]
  rw [if_neg (show ¬ x.q = 9 by omega)]
  rw [if_neg (show ¬ x.q = 10 by omega)]
  rw [if_neg (show ¬ x.q = 11 by omega)]
  rw [if_neg (show ¬ x.q = 12 by omega)]
  rw [if_neg (show ¬ x.q = 13 by omega)]
  rw [if_neg (show ¬ x.q = 14 by omega)]

theorem only_any (x : Wmg) (w : World) (hx : x.Ok w []) (C : List Value) (hC : x.cells = C) : Calls Tryz.prog 9 #[.agg C.toArray] w (OnlyPost x w) := by
  by_cases hm : 1 ≤ x.q ∧ x.q ≤ 14
  · have h : x.q = 1 ∨ x.q = 2 ∨ x.q = 3 ∨ x.q = 4 ∨ x.q = 5 ∨ x.q = 6 ∨ x.q = 7 ∨ x.q = 8 ∨ x.q = 9 ∨ x.q = 10 ∨ x.q = 11 ∨ x.q = 12 ∨ x.q = 13 ∨ x.q = 14 := by omega
    rcases h with h | h | h | h | h | h | h | h | h | h | h | h | h | h
    · exact only_1 x h w hx C hC
    · exact only_2 x h w hx C hC
    · exact only_3 x h w hx C hC
    · exact only_4 x h w hx C hC
    · exact only_5 x h w hx C hC
    · exact only_6 x h w hx C hC
    · exact only_7 x h w hx C hC
    · exact only_8 x h w hx C hC
    · exact only_9 x h w hx C hC
    · exact only_10 x h w hx C hC
    · exact only_11 x h w hx C hC
    · exact only_12 x h w hx C hC
    · exact only_13 x h w hx C hC
    · exact only_14 x h w hx C hC
  · exact only_none x hm w hx C hC
end Go.Proofs.YtnpjihdhpoddgaaGreat

namespace Go.Proofs.YtnpjihdhpoddgaaGreat
open Go.RowKit
set_option maxRecDepth 100000
theorem flat_con {α β : Type} {full : α → List UInt8} {con : α → β} (h : ∀ a b, con a = con b → full a = full b) : ∀ {l m : List α}, l.map con = m.map con → l.flatMap full = m.flatMap full
  | [], [], _ => rfl
  | [], _ :: _, e => by simp at e
  | _ :: _, [], e => by simp at e
  | a :: l, b :: m, e => by
    simp only [List.map_cons, List.cons.injEq] at e
    rw [List.flatMap_cons, List.flatMap_cons, h a b e.1, flat_con h e.2]
theorem list_con {α β : Type} {full : α → List UInt8} {con : α → β} (h : ∀ a b, con a = con b → full a = full b) {l m : List α} (e : l.map con = m.map con) : listL full l = listL full m := by
  have hl : l.length = m.length := by have := congrArg List.length e; simpa using this
  unfold listL
  rw [hl, flat_con h e]
theorem Wce.full_con (a b : Wce) (e : a.con = b.con) : a.full = b.full := by
  obtain ⟨k, A, n, d, l⟩ := a
  obtain ⟨k', A', n', d', l'⟩ := b
  unfold Wce.con at e
  simp only [Prod.mk.injEq] at e
  obtain ⟨rfl, rfl⟩ := e
  rfl
theorem Wpr.full_con (a b : Wpr) (e : a.con = b.con) : a.full = b.full := by
  obtain ⟨r, ep, t, A, n, d, l, b1, m⟩ := a
  obtain ⟨r', ep', t', A', n', d', l', b1', m'⟩ := b
  unfold Wpr.con at e
  simp only [Cpr.mk.injEq] at e
  obtain ⟨rfl, rfl, rfl, hl, rfl, rfl⟩ := e
  unfold Wpr.full Wpr.bare
  simp only [list_con Wce.full_con hl]
theorem Wop.full_con (a b : Wop) (ha : a.p.length = a.n) (hb : b.p.length = b.n) (e : a.con = b.con) : a.full = b.full := by
  obtain ⟨i, A, n, d, p, h⟩ := a
  obtain ⟨i', A', n', d', p', h'⟩ := b
  unfold Wop.con at e
  simp only [Cop.mk.injEq] at e
  obtain ⟨rfl, rfl, rfl⟩ := e
  simp only at ha hb
  subst ha
  subst hb
  rfl
theorem Wtb.full_con (a b : Wtb) (e : a.con = b.con) : a.full = b.full := by
  obtain ⟨i, A, n, d, l⟩ := a
  obtain ⟨i', A', n', d', l'⟩ := b
  unfold Wtb.con at e
  simp only [Ctb.mk.injEq] at e
  obtain ⟨rfl, rfl⟩ := e
  rfl
theorem flat_conM {α β : Type} {full : α → List UInt8} {con : α → β} : ∀ {l m : List α}, (∀ a ∈ l, ∀ b ∈ m, con a = con b → full a = full b) → l.map con = m.map con → l.flatMap full = m.flatMap full
  | [], [], _, _ => rfl
  | [], _ :: _, _, e => by simp at e
  | _ :: _, [], _, e => by simp at e
  | a :: l, b :: m, h, e => by
    simp only [List.map_cons, List.cons.injEq] at e
    rw [List.flatMap_cons, List.flatMap_cons, h a (List.mem_cons_self ..) b (List.mem_cons_self ..) e.1, flat_conM (fun a ha b hb => h a (List.mem_cons_of_mem _ ha) b (List.mem_cons_of_mem _ hb)) e.2]
theorem list_conM {α β : Type} {full : α → List UInt8} {con : α → β} {l m : List α} (h : ∀ a ∈ l, ∀ b ∈ m, con a = con b → full a = full b) (e : l.map con = m.map con) : listL full l = listL full m := by
  have hl : l.length = m.length := by have := congrArg List.length e; simpa using this
  unfold listL
  rw [hl, flat_conM h e]
theorem Wba.full_con {w w' : World} {S S' : List Nat} (a b : Wba) (ha : a.Ok w S) (hb : b.Ok w' S') (e : a.con = b.con) : a.full = b.full := by
  have h2 : ∀ u ∈ a.l2, ∀ v ∈ b.l2, u.con = v.con → u.full = v.full := fun u hu v hv e => Wop.full_con u v (ha.l2.2.1 u hu).2.p.1 (hb.l2.2.1 v hv).2.p.1 e
  unfold Wba.con at e
  simp only [Cba.mk.injEq] at e
  obtain ⟨e1, e2, e3, e4, e5⟩ := e
  unfold Wba.full
  rw [e1, e2, list_con Wpr.full_con e3, list_conM h2 e4, list_con Wtb.full_con e5]
theorem Wpo.full_con {w w' : World} {S S' : List Nat} (a b : Wpo) (ha : a.OkS w S) (hb : b.OkS w' S') (e : a.con = b.con) : a.full = b.full := by
  unfold Wpo.con at e
  simp only [Cpo.mk.injEq] at e
  obtain ⟨e1, e2, e3, e4, e5, e6, e7⟩ := e
  unfold Wpo.full Wpo.head
  rw [e1, e2, e3, e4, Wba.full_con a.k b.k ha.k hb.k e5, e6, e7]
theorem Wdc.full_con {w w' : World} {S S' : List Nat} (a b : Wdc) (ha : a.Ok w S) (hb : b.Ok w' S') (e : a.con = b.con) : a.full = b.full := by
  unfold Wdc.con at e
  simp only [Cdc.mk.injEq] at e
  obtain ⟨e1, e2, e3, e4⟩ := e
  unfold Wdc.full
  rw [e1, e2, Wba.full_con a.k b.k ha.k hb.k e3, e4]
theorem onlyC_1 {c : Cmg} (h : c.q = 1) : onlyC c = {(mz 1 c.f c.t).con with cm := c.cm} := by
  unfold onlyC
  simp only
  rw [if_pos h, h]
theorem onlyC_2 {c : Cmg} (h : c.q = 2) : onlyC c = {(mz 2 c.f c.t).con with st := c.st} := by
  unfold onlyC
  simp only
  rw [if_neg (by rw [h]; decide)]
  rw [if_pos h, h]
theorem onlyC_3 {c : Cmg} (h : c.q = 3) : onlyC c = {(mz 3 c.f c.t).con with ce := c.ce} := by
  unfold onlyC
  simp only
  rw [if_neg (by rw [h]; decide)]
  rw [if_neg (by rw [h]; decide)]
  rw [if_pos h, h]
theorem onlyC_4 {c : Cmg} (h : c.q = 4) : onlyC c = {(mz 4 c.f c.t).con with ak := c.ak} := by
  unfold onlyC
  simp only
  rw [if_neg (by rw [h]; decide)]
  rw [if_neg (by rw [h]; decide)]
  rw [if_neg (by rw [h]; decide)]
  rw [if_pos h, h]
theorem onlyC_5 {c : Cmg} (h : c.q = 5) : onlyC c = {(mz 5 c.f c.t).con with e := c.e, r := c.r, tm := c.tm} := by
  unfold onlyC
  simp only
  rw [if_neg (by rw [h]; decide)]
  rw [if_neg (by rw [h]; decide)]
  rw [if_neg (by rw [h]; decide)]
  rw [if_neg (by rw [h]; decide)]
  rw [if_pos h, h]
theorem onlyC_6 {c : Cmg} (h : c.q = 6) : onlyC c = {(mz 6 c.f c.t).con with pr := c.pr} := by
  unfold onlyC
  simp only
  rw [if_neg (by rw [h]; decide)]
  rw [if_neg (by rw [h]; decide)]
  rw [if_neg (by rw [h]; decide)]
  rw [if_neg (by rw [h]; decide)]
  rw [if_neg (by rw [h]; decide)]
  rw [if_pos h, h]
theorem onlyC_7 {c : Cmg} (h : c.q = 7) : onlyC c = {(mz 7 c.f c.t).con with po := c.po} := by
  unfold onlyC
  simp only
  rw [if_neg (by rw [h]; decide)]
  rw [if_neg (by rw [h]; decide)]
  rw [if_neg (by rw [h]; decide)]
  rw [if_neg (by rw [h]; decide)]
  rw [if_neg (by rw [h]; decide)]
  rw [if_neg (by rw [h]; decide)]
  rw [if_pos h, h]
theorem onlyC_8 {c : Cmg} (h : c.q = 8) : onlyC c = {(mz 8 c.f c.t).con with vt := c.vt} := by
  unfold onlyC
  simp only
  rw [if_neg (by rw [h]; decide)]
  rw [if_neg (by rw [h]; decide)]
  rw [if_neg (by rw [h]; decide)]
  rw [if_neg (by rw [h]; decide)]
  rw [if_neg (by rw [h]; decide)]
  rw [if_neg (by rw [h]; decide)]
  rw [if_neg (by rw [h]; decide)]
  rw [if_pos h, h]
theorem onlyC_9 {c : Cmg} (h : c.q = 9) : onlyC c = {(mz 9 c.f c.t).con with i := c.i, en := c.en} := by
  unfold onlyC
  simp only
  rw [if_neg (by rw [h]; decide)]
  rw [if_neg (by rw [h]; decide)]
  rw [if_neg (by rw [h]; decide)]
  rw [if_neg (by rw [h]; decide)]
  rw [if_neg (by rw [h]; decide)]
  rw [if_neg (by rw [h]; decide)]
  rw [if_neg (by rw [h]; decide)]
  rw [if_neg (by rw [h]; decide)]
  rw [if_pos h, h]
theorem onlyC_10 {c : Cmg} (h : c.q = 10) : onlyC c = {(mz 10 c.f c.t).con with op := c.op} := by
  unfold onlyC
  simp only
  rw [if_neg (by rw [h]; decide)]
  rw [if_neg (by rw [h]; decide)]
  rw [if_neg (by rw [h]; decide)]
  rw [if_neg (by rw [h]; decide)]
  rw [if_neg (by rw [h]; decide)]
  rw [if_neg (by rw [h]; decide)]
  rw [if_neg (by rw [h]; decide)]
  rw [if_neg (by rw [h]; decide)]
  rw [if_neg (by rw [h]; decide)]
  rw [if_pos h, h]
theorem onlyC_11 {c : Cmg} (h : c.q = 11) : onlyC c = {(mz 11 c.f c.t).con with i := c.i} := by
  unfold onlyC
  simp only
  rw [if_neg (by rw [h]; decide)]
  rw [if_neg (by rw [h]; decide)]
  rw [if_neg (by rw [h]; decide)]
  rw [if_neg (by rw [h]; decide)]
  rw [if_neg (by rw [h]; decide)]
  rw [if_neg (by rw [h]; decide)]
  rw [if_neg (by rw [h]; decide)]
  rw [if_neg (by rw [h]; decide)]
  rw [if_neg (by rw [h]; decide)]
  rw [if_neg (by rw [h]; decide)]
  rw [if_pos h, h]
theorem onlyC_12 {c : Cmg} (h : c.q = 12) : onlyC c = {(mz 12 c.f c.t).con with dn := c.dn} := by
  unfold onlyC
  simp only
  rw [if_neg (by rw [h]; decide)]
  rw [if_neg (by rw [h]; decide)]
  rw [if_neg (by rw [h]; decide)]
  rw [if_neg (by rw [h]; decide)]
  rw [if_neg (by rw [h]; decide)]
  rw [if_neg (by rw [h]; decide)]
  rw [if_neg (by rw [h]; decide)]
  rw [if_neg (by rw [h]; decide)]
  rw [if_neg (by rw [h]; decide)]
  rw [if_neg (by rw [h]; decide)]
  rw [if_neg (by rw [h]; decide)]
  rw [if_pos h, h]
theorem onlyC_13 {c : Cmg} (h : c.q = 13) : onlyC c = {(mz 13 c.f c.t).con with i := c.i, rp := c.rp} := by
  unfold onlyC
  simp only
  rw [if_neg (by rw [h]; decide)]
  rw [if_neg (by rw [h]; decide)]
  rw [if_neg (by rw [h]; decide)]
  rw [if_neg (by rw [h]; decide)]
  rw [if_neg (by rw [h]; decide)]
  rw [if_neg (by rw [h]; decide)]
  rw [if_neg (by rw [h]; decide)]
  rw [if_neg (by rw [h]; decide)]
  rw [if_neg (by rw [h]; decide)]
  rw [if_neg (by rw [h]; decide)]
  rw [if_neg (by rw [h]; decide)]
  rw [if_neg (by rw [h]; decide)]
  rw [if_pos h, h]
theorem onlyC_14 {c : Cmg} (h : c.q = 14) : onlyC c = {(mz 14 c.f c.t).con with de := c.de} := by
  unfold onlyC
  simp only
  rw [if_neg (by rw [h]; decide)]
  rw [if_neg (by rw [h]; decide)]
  rw [if_neg (by rw [h]; decide)]
  rw [if_neg (by rw [h]; decide)]
  rw [if_neg (by rw [h]; decide)]
  rw [if_neg (by rw [h]; decide)]
  rw [if_neg (by rw [h]; decide)]
  rw [if_neg (by rw [h]; decide)]
  rw [if_neg (by rw [h]; decide)]
  rw [if_neg (by rw [h]; decide)]
  rw [if_neg (by rw [h]; decide)]
  rw [if_neg (by rw [h]; decide)]
  rw [if_neg (by rw [h]; decide)]
  rw [if_pos h, h]
/-- messages of which the named says the same have the same bytes -/
theorem bytes_only {w w' : World} (x y : Wmg) (hx : x.Ok w []) (hy : y.Ok w' []) (hq : 1 ≤ x.q ∧ x.q ≤ 14) (hqy : y.q = x.q) (e : onlyC x.con = onlyC y.con) : x.bytes = y.bytes := by
  have h : x.q = 1 ∨ x.q = 2 ∨ x.q = 3 ∨ x.q = 4 ∨ x.q = 5 ∨ x.q = 6 ∨ x.q = 7 ∨ x.q = 8 ∨ x.q = 9 ∨ x.q = 10 ∨ x.q = 11 ∨ x.q = 12 ∨ x.q = 13 ∨ x.q = 14 := by omega
  unfold Wmg.bytes
  rw [hqy]
  rcases h with h | h | h | h | h | h | h | h | h | h | h | h | h | h
  · rw [onlyC_1 (show x.con.q = 1 from h), onlyC_1 (show y.con.q = 1 from hqy.trans h)] at e
    have ef : x.f = y.f := congrArg Cmg.f e
    have et : x.t = y.t := congrArg Cmg.t e
    have e_cm : x.cm = y.cm := congrArg Cmg.cm e
    rw [Wmg.body_1 h, Wmg.body_1 (hqy.trans h), ef, et, e_cm]
  · rw [onlyC_2 (show x.con.q = 2 from h), onlyC_2 (show y.con.q = 2 from hqy.trans h)] at e
    have ef : x.f = y.f := congrArg Cmg.f e
    have et : x.t = y.t := congrArg Cmg.t e
    have e_st : x.st = y.st := congrArg Cmg.st e
    rw [Wmg.body_2 h, Wmg.body_2 (hqy.trans h), ef, et, e_st]
  · rw [onlyC_3 (show x.con.q = 3 from h), onlyC_3 (show y.con.q = 3 from hqy.trans h)] at e
    have ef : x.f = y.f := congrArg Cmg.f e
    have et : x.t = y.t := congrArg Cmg.t e
    have e_ce : x.ce.con = y.ce.con := congrArg Cmg.ce e
    have g_ce := Wce.full_con x.ce y.ce e_ce
    rw [Wmg.body_3 h, Wmg.body_3 (hqy.trans h), ef, et, g_ce]
  · rw [onlyC_4 (show x.con.q = 4 from h), onlyC_4 (show y.con.q = 4 from hqy.trans h)] at e
    have ef : x.f = y.f := congrArg Cmg.f e
    have et : x.t = y.t := congrArg Cmg.t e
    have e_ak : x.ak = y.ak := congrArg Cmg.ak e
    rw [Wmg.body_4 h, Wmg.body_4 (hqy.trans h), ef, et, e_ak]
  · rw [onlyC_5 (show x.con.q = 5 from h), onlyC_5 (show y.con.q = 5 from hqy.trans h)] at e
    have ef : x.f = y.f := congrArg Cmg.f e
    have et : x.t = y.t := congrArg Cmg.t e
    have e_e : x.e = y.e := congrArg Cmg.e e
    have e_r : x.r = y.r := congrArg Cmg.r e
    have e_tm : x.tm = y.tm := congrArg Cmg.tm e
    rw [Wmg.body_5 h, Wmg.body_5 (hqy.trans h), ef, et, e_e, e_r, e_tm]
  · rw [onlyC_6 (show x.con.q = 6 from h), onlyC_6 (show y.con.q = 6 from hqy.trans h)] at e
    have ef : x.f = y.f := congrArg Cmg.f e
    have et : x.t = y.t := congrArg Cmg.t e
    have e_pr : x.pr.con = y.pr.con := congrArg Cmg.pr e
    have g_pr := Wpr.full_con x.pr y.pr e_pr
    rw [Wmg.body_6 h, Wmg.body_6 (hqy.trans h), ef, et, g_pr]
  · rw [onlyC_7 (show x.con.q = 7 from h), onlyC_7 (show y.con.q = 7 from hqy.trans h)] at e
    have ef : x.f = y.f := congrArg Cmg.f e
    have et : x.t = y.t := congrArg Cmg.t e
    have e_po : x.po.con = y.po.con := congrArg Cmg.po e
    have g_po := Wpo.full_con x.po y.po hx.po hy.po e_po
    rw [Wmg.body_7 h, Wmg.body_7 (hqy.trans h), ef, et, g_po]
  · rw [onlyC_8 (show x.con.q = 8 from h), onlyC_8 (show y.con.q = 8 from hqy.trans h)] at e
    have ef : x.f = y.f := congrArg Cmg.f e
    have et : x.t = y.t := congrArg Cmg.t e
    have e_vt : x.vt = y.vt := congrArg Cmg.vt e
    rw [Wmg.body_8 h, Wmg.body_8 (hqy.trans h), ef, et, e_vt]
  · rw [onlyC_9 (show x.con.q = 9 from h), onlyC_9 (show y.con.q = 9 from hqy.trans h)] at e
    have ef : x.f = y.f := congrArg Cmg.f e
    have et : x.t = y.t := congrArg Cmg.t e
    have e_i : x.i = y.i := congrArg Cmg.i e
    have e_en : x.en = y.en := congrArg Cmg.en e
    rw [Wmg.body_9 h, Wmg.body_9 (hqy.trans h), ef, et, e_i, e_en]
  · rw [onlyC_10 (show x.con.q = 10 from h), onlyC_10 (show y.con.q = 10 from hqy.trans h)] at e
    have ef : x.f = y.f := congrArg Cmg.f e
    have et : x.t = y.t := congrArg Cmg.t e
    have e_op : x.op.con = y.op.con := congrArg Cmg.op e
    have g_op := Wop.full_con x.op y.op hx.op.p.1 hy.op.p.1 e_op
    rw [Wmg.body_10 h, Wmg.body_10 (hqy.trans h), ef, et, g_op]
  · rw [onlyC_11 (show x.con.q = 11 from h), onlyC_11 (show y.con.q = 11 from hqy.trans h)] at e
    have ef : x.f = y.f := congrArg Cmg.f e
    have et : x.t = y.t := congrArg Cmg.t e
    have e_i : x.i = y.i := congrArg Cmg.i e
    rw [Wmg.body_11 h, Wmg.body_11 (hqy.trans h), ef, et, e_i]
  · rw [onlyC_12 (show x.con.q = 12 from h), onlyC_12 (show y.con.q = 12 from hqy.trans h)] at e
    have ef : x.f = y.f := congrArg Cmg.f e
    have et : x.t = y.t := congrArg Cmg.t e
    have e_dn : x.dn = y.dn := congrArg Cmg.dn e
    rw [Wmg.body_12 h, Wmg.body_12 (hqy.trans h), ef, et, e_dn]
  · rw [onlyC_13 (show x.con.q = 13 from h), onlyC_13 (show y.con.q = 13 from hqy.trans h)] at e
    have ef : x.f = y.f := congrArg Cmg.f e
    have et : x.t = y.t := congrArg Cmg.t e
    have e_i : x.i = y.i := congrArg Cmg.i e
    have e_rp : x.rp = y.rp := congrArg Cmg.rp e
    rw [Wmg.body_13 h, Wmg.body_13 (hqy.trans h), ef, et, e_i, e_rp]
  · rw [onlyC_14 (show x.con.q = 14 from h), onlyC_14 (show y.con.q = 14 from hqy.trans h)] at e
    have ef : x.f = y.f := congrArg Cmg.f e
    have et : x.t = y.t := congrArg Cmg.t e
    have e_de : x.de.con = y.de.con := congrArg Cmg.de e
    have g_de := Wdc.full_con x.de y.de hx.de hy.de e_de
    rw [Wmg.body_14 h, Wmg.body_14 (hqy.trans h), ef, et, g_de]
theorem onlyC_q (c : Cmg) (hq : 1 ≤ c.q ∧ c.q ≤ 14) : (onlyC c).q = c.q := by
  have h : c.q = 1 ∨ c.q = 2 ∨ c.q = 3 ∨ c.q = 4 ∨ c.q = 5 ∨ c.q = 6 ∨ c.q = 7 ∨ c.q = 8 ∨ c.q = 9 ∨ c.q = 10 ∨ c.q = 11 ∨ c.q = 12 ∨ c.q = 13 ∨ c.q = 14 := by omega
  rcases h with h | h | h | h | h | h | h | h | h | h | h | h | h | h
  · rw [onlyC_1 h, h]; rfl
  · rw [onlyC_2 h, h]; rfl
  · rw [onlyC_3 h, h]; rfl
  · rw [onlyC_4 h, h]; rfl
  · rw [onlyC_5 h, h]; rfl
  · rw [onlyC_6 h, h]; rfl
  · rw [onlyC_7 h, h]; rfl
  · rw [onlyC_8 h, h]; rfl
  · rw [onlyC_9 h, h]; rfl
  · rw [onlyC_10 h, h]; rfl
  · rw [onlyC_11 h, h]; rfl
  · rw [onlyC_12 h, h]; rfl
  · rw [onlyC_13 h, h]; rfl
  · rw [onlyC_14 h, h]; rfl
theorem onlyC_only (c : Cmg) (hq : 1 ≤ c.q ∧ c.q ≤ 14) : onlyC (onlyC c) = onlyC c := by
  have hq2 := onlyC_q c hq
  have h : c.q = 1 ∨ c.q = 2 ∨ c.q = 3 ∨ c.q = 4 ∨ c.q = 5 ∨ c.q = 6 ∨ c.q = 7 ∨ c.q = 8 ∨ c.q = 9 ∨ c.q = 10 ∨ c.q = 11 ∨ c.q = 12 ∨ c.q = 13 ∨ c.q = 14 := by omega
  rcases h with h | h | h | h | h | h | h | h | h | h | h | h | h | h
  · rw [onlyC_1 (hq2.trans h), onlyC_1 h]; rfl
  · rw [onlyC_2 (hq2.trans h), onlyC_2 h]; rfl
  · rw [onlyC_3 (hq2.trans h), onlyC_3 h]; rfl
  · rw [onlyC_4 (hq2.trans h), onlyC_4 h]; rfl
  · rw [onlyC_5 (hq2.trans h), onlyC_5 h]; rfl
  · rw [onlyC_6 (hq2.trans h), onlyC_6 h]; rfl
  · rw [onlyC_7 (hq2.trans h), onlyC_7 h]; rfl
  · rw [onlyC_8 (hq2.trans h), onlyC_8 h]; rfl
  · rw [onlyC_9 (hq2.trans h), onlyC_9 h]; rfl
  · rw [onlyC_10 (hq2.trans h), onlyC_10 h]; rfl
  · rw [onlyC_11 (hq2.trans h), onlyC_11 h]; rfl
  · rw [onlyC_12 (hq2.trans h), onlyC_12 h]; rfl
  · rw [onlyC_13 (hq2.trans h), onlyC_13 h]; rfl
  · rw [onlyC_14 (hq2.trans h), onlyC_14 h]; rfl
end Go.Proofs.YtnpjihdhpoddgaaGreat
