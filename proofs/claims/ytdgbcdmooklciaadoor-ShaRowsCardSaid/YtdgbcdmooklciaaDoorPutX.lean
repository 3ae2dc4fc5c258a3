/- Package wire: a batch's hash; what is signed of a promise, of a proposal. -/
import Derived.Test.YtdgbcdmooklciaaDoorPutT
import Derived.Test.YtdgbcdmooklciaaDoorShaQ
namespace Go.Proofs.YtdgbcdmooklciaaDoor
open Go.RowKit
set_option maxRecDepth 100000
theorem NewWr.calls {P : Program} {f : FuncId} {args : Array Value} {w0 w : World} {g : Nat} {l l' : List UInt8} {v : Value} (h : NewWr w0 w g l)
    (hc : ∀ S, Wr w S g l → Fr [] w0 w → (∀ k ∈ S, w0.heap.size ≤ k) → Calls P f args w fun e w' => e = .returned v ∧ Gr w S g l' w') : Calls P f args w fun e w' => e = .returned v ∧ NewWr w0 w' g l' := by
  obtain ⟨S, k1, k2, k3⟩ := h
  refine (hc S k1 k2 k3).mono ?_
  rintro e w' ⟨rfl, hg⟩
  exact ⟨rfl, NewWr.add k2 k3 hg⟩
def wWpr : List UInt8 := [112, 114, 111, 109, 105, 115, 101]
def Wpr.text (x : Wpr) : List UInt8 := enc wWpr.length ++ wWpr ++ x.bare
theorem Wpr.text_len {w : World} {S : List Nat} {x : Wpr} (hx : x.Ok w S) : x.text.length ≤ 2300 := by
  have b0 := Wpr.bare_len hx
  have b1 := enc_ten (m := wWpr.length) (by decide)
  have b2 : wWpr.length = 7 := rfl
  simp only [Wpr.text, List.length_append]
  omega
set_option maxHeartbeats 1000000 in
theorem promiseText_any (x : Wpr) (w : World) (hx : x.Ok w []) :
    Calls Tryd.prog 40 #[x.val] w fun e w' => ∃ A c, e = .returned (.slice A x.text.length c) ∧ NewB w w' A x.text.length c x.text := by
  obtain ⟨wa, hwa⟩ : ∃ wa, wa = w.alloc (Obj.cells x.cells.toArray 62) := ⟨_, rfl⟩
  have hf0 : Fr [] w wa := by rw [hwa]; exact (Fr.refl [] w).alloc _
  have hb0 : Blk wa w.heap.size 62 x.cells.toArray := by rw [hwa]; exact Blk.new _ _ _
  have HALL := Lib.hid hb0.range
  have HLN : Hid (x.cells.length = 6) := Lib.hid (Wpr.len x)
  have HTL := Lib.hid (Wpr.text_len hx)
  have HF0 := Lib.hid hf0
  have HWA := Lib.hid hwa
  have HX := Lib.hid (hx.keep (S' := []) hf0 (by simp))
  clear hwa hf0 hb0 hx
  unfold Wpr.val
  generalize hC : x.cells = C at *
  have HRC := Lib.hid hC
  clear hC
  go_enter Tryd.func40, Tryd.ntmps40
  go_wp2
  rw [← HWA.out]
  refine wp_region_held_drew (S := Fr [] wa) (by kernel_rfl) (Fr.drew (Fr.refl _ wa)) (fun hHeld => ?_)
  refine row_at (i := 1) rfl (by kernel_rfl) (by rfl) _ _ rfl _ _ rfl _ (fun w1 hw1 => hw1.range (HALL.out) (by first | (simp; done) | exact HNS.out | exact HNW.out | (intro hm; have hlt := HSB.out _ hm; (try dsimp only at hlt); omega))) (row_prm.of HLN.out) (fun _ _ _ h => h) hHeld ?_
  simp only [Act.put, List.setIfInBounds_toArray, List.set_cons_zero, List.set_cons_succ]
  refine call_at (i := 0) (f := ?_) (args := ?_) rfl (by kernel_rfl) (by rfl) ?_ ?_
  rotate_left 2
  · go_simp
    (try (first | with_reducible rfl | (apply And.intro <;> rfl)))
  refine (wbegin_any wWpr (by decide) _).mono ?_
  rintro e w1 ⟨g, rfl, hw1⟩
  have HW := Lib.hid (hw1.from_ (Fr.drew (Fr.refl [] wa)))
  refine ⟨_, rfl, HW.out.fr, fun hHeld => ?_⟩
  clear hw1
  simp only [Act.put, List.setIfInBounds_toArray, List.set_cons_zero, List.set_cons_succ]
  refine call_at (i := 2) (f := ?_) (args := ?_) rfl (by kernel_rfl) (by rfl) ?_ ?_
  rotate_left 2
  · go_simp
    (try (first | with_reducible rfl | (apply And.intro <;> rfl)))
  refine (HW.out.calls fun S1 k1 f1 s1 => promiseFields_any' x C HRC.out _ S1 g _ k1 (by have b1 := enc_ten (m := wWpr.length) (by decide); have b2 : wWpr.length = 7 := rfl; simp only [List.length_append]; omega) (HX.out.keep f1 (fun k hk hl => absurd (s1 k hk) (by omega)))).mono ?_
  rintro e w2 ⟨rfl, hw2⟩
  have HW2 : Hid (NewWr wa w2 g x.text) := Lib.hid hw2
  refine ⟨_, rfl, hw2.fr, fun hHeld => ?_⟩
  clear hw2 HW
  simp only [Act.put, List.setIfInBounds_toArray, List.set_cons_zero, List.set_cons_succ]
  refine call_at (i := 3) (f := ?_) (args := ?_) rfl (by kernel_rfl) (by rfl) ?_ ?_
  rotate_left 2
  · go_simp
    (try (first | with_reducible rfl | (apply And.intro <;> rfl)))
  refine (bytes_head wa w2 g _ HW2.out (by have := HTL.out; omega)).mono ?_
  rintro e w3 ⟨A3, c3, rfl, hn3⟩
  have HN3 := Lib.hid hn3
  refine ⟨_, rfl, hn3.2.1, fun hHeld => ?_⟩
  clear hn3 HW2
  simp only [Act.put, List.setIfInBounds_toArray, List.set_cons_zero, List.set_cons_succ]
  refine run_at (i := 4) (v := ?_) rfl (by kernel_rfl) (by rfl) (fun _ _ _ h => h) hHeld (fun w1 hw1 => ?_) ?_
  rotate_left 1
  · skip
    go_simp
    (try (first | with_reducible rfl | (apply And.intro <;> rfl)))
  simp only [Act.put, List.setIfInBounds_toArray, List.set_cons_zero, List.set_cons_succ]
  refine wpAnyH_done (by kernel_rfl) ?_ _
  go_wp2
  go_ret
  exact ⟨A3, c3, rfl, HN3.out.1, HF0.out.and HN3.out.2.1 (by simp), fun k hk => Nat.le_trans HF0.out.size (HN3.out.2.2 k hk)⟩
set_option maxHeartbeats 2000000 in
theorem batchHash_any (x : Wba) (w : World) (hx : x.Ok w []) (hK : KW w) (C : List Value) (hC : x.cells = C) :
    Calls Tryd.prog 18 #[.agg C.toArray] w fun e w' => e = .returned (.agg ((sumL x.full).map by8).toArray) ∧ Fr [] w w' := by
  have hCl : C.length = 5 := by rw [← hC]; exact Wba.len x
  obtain ⟨wa, hwa⟩ : ∃ wa, wa = (w.alloc (Obj.cells C.toArray 39)).alloc (Obj.cells zeroH 26) := ⟨_, rfl⟩
  have hf0 : Fr [] w wa := by rw [hwa]; exact ((Fr.refl [] w).alloc _).alloc _
  have hb1 : Blk wa w.heap.size 39 C.toArray := by rw [hwa]; exact blk_alloc (Blk.new _ _ _)
  have hb3 : Blk wa (w.heap.size + 1) 26 zeroH := by
    have := Blk.new (w.alloc (Obj.cells C.toArray 39)) 26 zeroH
    rw [hwa]
    simpa using this
  have HR1 := Lib.hid hb1.range
  have HB3 := Lib.hid hb3
  have HX := Lib.hid (hx.keep (S' := []) hf0 (by simp))
  have HXL := Lib.hid (Wba.full_len hx)
  have HF0 := Lib.hid hf0
  have HWA := Lib.hid hwa
  have HK := Lib.hid hK
  have HRC := Lib.hid hC
  have HCL := Lib.hid hCl
  clear hb1 hb3 hf0 hwa hK hx hC hCl
  go_enter Tryd.func18, Tryd.ntmps18
  go_wp2
  change Code.wp _ _ _ _ ((w.alloc (Obj.cells C.toArray 39)).alloc (Obj.cells zeroH 26))
  rw [← HWA.out]
  refine wp_region_held_drew (S := Fr [w.heap.size + 1] wa) (by kernel_rfl) (Fr.drew (Fr.refl _ wa)) (fun hHeld => ?_)
  refine row_at (i := 1) rfl (by kernel_rfl) (by rfl) _ _ rfl _ _ rfl _ (fun w1 hw1 => hw1.range (HR1.out) (by first | (simp; done) | exact HNS.out | exact HNW.out | (intro hm; have hlt := HSB.out _ hm; (try dsimp only at hlt); omega))) (row_bat.of HCL.out) (fun _ _ _ h => h) hHeld ?_
  simp only [Act.put, List.setIfInBounds_toArray, List.set_cons_zero, List.set_cons_succ]
  refine call_at (i := 0) (f := ?_) (args := ?_) rfl (by kernel_rfl) (by rfl) ?_ ?_
  rotate_left 2
  · go_simp
    (try (first | with_reducible rfl | (apply And.intro <;> rfl)))
  refine (newWriter_any _).mono ?_
  rintro e w1 ⟨rfl, hw1, hf1⟩
  have HW := Lib.hid (show NewWr wa w1 wa.drew.heap.size [] from ⟨_, hw1, (Fr.drew (Fr.refl [] wa)).and hf1 (by simp), fun k hk => by rw [List.mem_singleton.1 hk]; exact Nat.le_refl _⟩)
  refine ⟨_, rfl, hHeld.go hf1 (by simp), fun hHeld => ?_⟩
  clear hw1 hf1
  generalize wa.drew.heap.size = g at *
  simp only [Act.put, List.setIfInBounds_toArray, List.set_cons_zero, List.set_cons_succ]
  refine call_at (i := 2) (f := ?_) (args := ?_) rfl (by kernel_rfl) (by rfl) ?_ ?_
  rotate_left 2
  · go_simp
    (try (first | with_reducible rfl | (apply And.intro <;> rfl)))
  refine (HW.out.calls fun S1 k1 f1 s1 => putBatch_any' x C HRC.out _ S1 g _ k1 (by decide) (HX.out.keep f1 (fun k hk hl => absurd (s1 k hk) (by omega)))).mono ?_
  rintro e w2 ⟨rfl, hw2⟩
  rw [List.nil_append] at hw2
  have HW3 := Lib.hid hw2
  refine ⟨_, rfl, hw2.fr.mono (by simp), fun hHeld => ?_⟩
  clear hw2 HW
  simp only [Act.put, List.setIfInBounds_toArray, List.set_cons_zero, List.set_cons_succ]
  generalize hXF : x.full = X at *
  have HXF := Lib.hid hXF
  clear hXF
  have HLEN : Hid (X.length ≤ 1073741824) := Lib.hid (by have := HXL.out; omega)
  refine call_at (i := 3) (f := ?_) (args := ?_) rfl (by kernel_rfl) (by rfl) ?_ ?_
  rotate_left 2
  · go_simp
    (try (first | with_reducible rfl | (apply And.intro <;> rfl)))
  refine (bytes_head wa w2 g _ HW3.out HLEN.out).mono ?_
  rintro e w4 ⟨A4, c4, rfl, hn4⟩
  have HN4 := Lib.hid hn4
  refine ⟨_, rfl, hn4.2.1.mono (by simp), fun hHeld => ?_⟩
  clear hn4 HW3
  simp only [Act.put, List.setIfInBounds_toArray, List.set_cons_zero, List.set_cons_succ]
  have hsum := sum_any A4 _ c4 _ w4 HN4.out.by HN4.out.cap HLEN.out (HK.out.keep (HF0.out.and HN4.out.2.1 (by simp)) (by simp))
  have hsl : ((sumL X).map by8).toArray.size = 32 := by simp [sumL_len]
  have hone := by8_all (sumL X)
  have hH : ((sumL x.full).map by8).toArray = ((sumL X).map by8).toArray := by rw [HXF.out]
  generalize ((sumL X).map by8).toArray = H at *
  have HSUM := Lib.hid hsum
  have HSL := Lib.hid hsl
  have HONE := Lib.hid hone
  have HH2 := Lib.hid hH
  clear hsum hsl hone hH
  refine call_at (i := 4) (f := ?_) (args := ?_) rfl (by kernel_rfl) (by rfl) ?_ ?_
  rotate_left 2
  · go_simp
    (try (first | with_reducible rfl | (apply And.intro <;> rfl)))
  refine HSUM.out.mono ?_
  rintro e w5 ⟨rfl, hf5⟩
  refine ⟨_, rfl, hHeld.go hf5 (by simp), fun hHeld => ?_⟩
  simp only [Act.put, List.setIfInBounds_toArray, List.set_cons_zero, List.set_cons_succ]
  have HB5 := Lib.hid (HB3.out.keep (HN4.out.2.1.and hf5 (by simp)) (by simp))
  have HF5 := Lib.hid (HF0.out.and (HN4.out.2.1.and hf5 (by simp)) (by simp))
  clear hf5 HN4 HSUM
  refine step_at (i := 5) rfl (by kernel_rfl) (by rfl) (fun K hK => ?_)
  refine wp_store_blk 26 _ _ rfl (w.heap.size + 1) H rfl rfl 26 zeroH HB5.out (by rw [hash_sizeS, HSL.out]) (by rw [HSL.out, zeroH_size]) HONE.out ?_
  intro w6 hb6 hf6
  refine hK.out _ _ (hHeld.trans hf6 (fun x hx _ => hx)) (fun hHeld => ?_)
  clear hK K
  simp only [Act.put, List.setIfInBounds_toArray, List.set_cons_zero, List.set_cons_succ]
  have HB6 := Lib.hid hb6
  have HF6 := Lib.hid (HF5.out.go hf6 (by simp))
  clear hb6 hf6
  refine wpAnyH_done (by kernel_rfl) ?_ _
  go_wp2
  exact bodyPost_ret (v := .agg H) (results_cell_row Tryd.results18 _ _ (w.heap.size + 1) 26 H _ _ rfl HB6.out Tryd.underlying26 rfl (by rw [hash_sizeS, HSL.out])) rfl ⟨by rw [HH2.out], HF6.out⟩
/-- one more than z, below 0: 0 -/
def oneM (z : Int) : Nat := if z < 0 then 0 else z.toNat + 1
theorem oneMore_any (z : Int) (hz : i64In z) (w : World) :
    Calls Tryd.prog 110 #[.int .i64 z] w fun e w' => e = .returned (.int .u64 (oneM z : Int)) ∧ w' = w := by
  obtain ⟨h1, h2⟩ := hz
  unfold oneM
  by_cases h : z < 0
  · rw [if_pos h]
    go_enter Tryd.func110, Tryd.ntmps110
    go_wp2
    go_ret
    exact ⟨rfl, rfl⟩
  · rw [if_neg h]
    have e1 : IntKind.u64.wrap z = z := IntWalk.u64_in _ (by omega)
    have e2 : IntKind.u64.wrap (z + 1) = z + 1 := IntWalk.u64_in _ (by omega)
    go_enter Tryd.func110, Tryd.ntmps110
    go_wp2
    go_ret
    exact ⟨by show Ending.returned (Value.int IntKind.u64 (z + 1)) = _; congr 2; omega, rfl⟩
/-- a proposal -/
structure Wpo where
  e : Int
  r : Int
  v : Int
  p : Int
  k : Wba
  b : Int
  m : Int
def Wpo.cells (x : Wpo) : List Value := [.int .i64 x.e, .int .i64 x.r, .int .i64 x.v, .int .i64 x.p] ++ (x.k.cells ++ [.int .i64 x.b, .int .i64 x.m])
def Wpo.val (x : Wpo) : Value := .agg x.cells.toArray
structure Wpo.Ok (w : World) (x : Wpo) : Prop where
  e : i64In x.e
  r : i64In x.r
  v : i64In x.v
  p : i64In x.p
  k : x.k.Ok w []
  b : i64In x.b
  m : i64In x.m
theorem Wpo.len (x : Wpo) : x.cells.length = 11 := rfl
def wWpo : List UInt8 := [112, 114, 111, 112, 111, 115, 97, 108]
def Wpo.head (x : Wpo) : List UInt8 := encI x.e ++ encI x.r ++ enc (oneM x.v) ++ encI x.p
theorem Wpo.head_len {x : Wpo} (he : i64In x.e) (hr : i64In x.r) (hv : i64In x.v) (hp : i64In x.p) : x.head.length ≤ 40 := by
  have b0 := encI_len x.e he.2
  have b1 := encI_len x.r hr.2
  have b2 := encI_len x.p hp.2
  have b3 : oneM x.v < 18446744073709551616 := by have := hv.2; unfold oneM; split <;> omega
  have b4 := enc_ten b3
  simp only [Wpo.head, List.length_append]
  omega
def Wpo.text (x : Wpo) : List UInt8 := enc wWpo.length ++ wWpo ++ x.head ++ sumL x.k.full
theorem row_prop : RowTy Tryd.prog 85 11 := ⟨by kernel_rfl, by kernel_rfl⟩
set_option maxHeartbeats 1000000 in
theorem proposalHead_any (x : Wpo) (C : List Value) (hC : x.cells = C) (w : World) (S : List Nat) (g : Nat) (l : List UInt8) (hw : Wr w S g l) (hl : l.length + 100 ≤ 1073741000) (he : i64In x.e) (hr : i64In x.r) (hv : i64In x.v) (hp : i64In x.p) :
    Calls Tryd.prog 85 #[.pointer (some ⟨g, 0, none⟩), .agg C.toArray] w fun e w' => e = .returned (.pointer (some ⟨g, 0, none⟩)) ∧ Gr w S g (l ++ x.head) w' := by
  obtain ⟨wa, hwa⟩ : ∃ wa, wa = w.alloc (Obj.cells C.toArray 85) := ⟨_, rfl⟩
  have hf0 : Fr [] w wa := by rw [hwa]; exact (Fr.refl [] w).alloc _
  have hb0 : Blk wa w.heap.size 85 x.cells.toArray := by rw [hwa, hC]; exact Blk.new _ _ _
  have HNS : Hid (¬ w.heap.size ∈ S) := Lib.hid (fun h => by have := hw.lt _ h; omega)
  have HG0 := Lib.hid (Gr.begin hw hf0)
  have HC0 : Hid (wa.cell? ⟨w.heap.size, 0 + 0, none⟩ = some (.int .i64 x.e)) := Lib.hid (hb0.range (cs := x.cells) 0 _ rfl)
  have HC1 : Hid (wa.cell? ⟨w.heap.size, 0 + 1, none⟩ = some (.int .i64 x.r)) := Lib.hid (hb0.range (cs := x.cells) 1 _ rfl)
  have HC2 : Hid (wa.cell? ⟨w.heap.size, 0 + 2, none⟩ = some (.int .i64 x.v)) := Lib.hid (hb0.range (cs := x.cells) 2 _ rfl)
  have HC3 : Hid (wa.cell? ⟨w.heap.size, 0 + 3, none⟩ = some (.int .i64 x.p)) := Lib.hid (hb0.range (cs := x.cells) 3 _ rfl)
  have HM : Hid (oneM x.v < 18446744073709551616) := Lib.hid (by have := hv.2; unfold oneM; split <;> omega)
  have HF0 := Lib.hid hf0
  have HWA := Lib.hid hwa
  have HL := Lib.hid hl
  have HE := Lib.hid he
  have HR := Lib.hid hr
  have HV := Lib.hid hv
  have HP := Lib.hid hp
  clear hwa hf0 hb0 hl hw he hr hv hp hC
  go_enter Tryd.func85, Tryd.ntmps85
  go_wp2
  rw [← HWA.out]
  refine wp_region_held_drew (S := Fr S wa) (by kernel_rfl) (Fr.drew (Fr.refl _ wa)) (fun hHeld => ?_)
  refine run_at (i := 0) (v := ?_) rfl (by kernel_rfl) (by rfl) (fun _ _ _ h => h) hHeld (fun w1 hw1 => ?_) ?_
  rotate_left 1
  · skip
    go_simp
    (try (first | with_reducible rfl | (apply And.intro <;> rfl)))
  simp only [Act.put, List.setIfInBounds_toArray, List.set_cons_zero, List.set_cons_succ]
  refine run_at (i := 1) (v := ?_) rfl (by kernel_rfl) (by rfl) (fun _ _ _ h => h) hHeld (fun w1 hw1 => ?_) ?_
  rotate_left 1
  · skip
    go_simp
    (try (first | with_reducible rfl | (apply And.intro <;> rfl)))
  simp only [Act.put, List.setIfInBounds_toArray, List.set_cons_zero, List.set_cons_succ]
  refine run_at (i := 2) (v := ?_) rfl (by kernel_rfl) (by rfl) (fun _ _ _ h => h) hHeld (fun w1 hw1 => ?_) ?_
  rotate_left 1
  · skip
    have hcw0 := hw1.cell (HC0.out) (by first | (simp; done) | exact HNS.out | exact HNW.out | (intro hm; have hlt := HSB.out _ hm; (try dsimp only at hlt); omega))
    go_simp
    (try (first | with_reducible rfl | (apply And.intro <;> rfl)))
  simp only [Act.put, List.setIfInBounds_toArray, List.set_cons_zero, List.set_cons_succ]
  refine run_at (i := 4) (v := ?_) rfl (by kernel_rfl) (by rfl) (fun _ _ _ h => h) hHeld (fun w1 hw1 => ?_) ?_
  rotate_left 1
  · skip
    go_simp
    (try (first | with_reducible rfl | (apply And.intro <;> rfl)))
  simp only [Act.put, List.setIfInBounds_toArray, List.set_cons_zero, List.set_cons_succ]
  refine run_at (i := 5) (v := ?_) rfl (by kernel_rfl) (by rfl) (fun _ _ _ h => h) hHeld (fun w1 hw1 => ?_) ?_
  rotate_left 1
  · skip
    have hcw0 := hw1.cell (HC1.out) (by first | (simp; done) | exact HNS.out | exact HNW.out | (intro hm; have hlt := HSB.out _ hm; (try dsimp only at hlt); omega))
    go_simp
    (try (first | with_reducible rfl | (apply And.intro <;> rfl)))
  simp only [Act.put, List.setIfInBounds_toArray, List.set_cons_zero, List.set_cons_succ]
  refine run_at (i := 7) (v := ?_) rfl (by kernel_rfl) (by rfl) (fun _ _ _ h => h) hHeld (fun w1 hw1 => ?_) ?_
  rotate_left 1
  · skip
    go_simp
    (try (first | with_reducible rfl | (apply And.intro <;> rfl)))
  simp only [Act.put, List.setIfInBounds_toArray, List.set_cons_zero, List.set_cons_succ]
  refine run_at (i := 8) (v := ?_) rfl (by kernel_rfl) (by rfl) (fun _ _ _ h => h) hHeld (fun w1 hw1 => ?_) ?_
  rotate_left 1
  · skip
    have hcw0 := hw1.cell (HC2.out) (by first | (simp; done) | exact HNS.out | exact HNW.out | (intro hm; have hlt := HSB.out _ hm; (try dsimp only at hlt); omega))
    go_simp
    (try (first | with_reducible rfl | (apply And.intro <;> rfl)))
  simp only [Act.put, List.setIfInBounds_toArray, List.set_cons_zero, List.set_cons_succ]
  refine run_at (i := 11) (v := ?_) rfl (by kernel_rfl) (by rfl) (fun _ _ _ h => h) hHeld (fun w1 hw1 => ?_) ?_
  rotate_left 1
  · skip
    go_simp
    (try (first | with_reducible rfl | (apply And.intro <;> rfl)))
  simp only [Act.put, List.setIfInBounds_toArray, List.set_cons_zero, List.set_cons_succ]
  refine run_at (i := 12) (v := ?_) rfl (by kernel_rfl) (by rfl) (fun _ _ _ h => h) hHeld (fun w1 hw1 => ?_) ?_
  rotate_left 1
  · skip
    have hcw0 := hw1.cell (HC3.out) (by first | (simp; done) | exact HNS.out | exact HNW.out | (intro hm; have hlt := HSB.out _ hm; (try dsimp only at hlt); omega))
    go_simp
    (try (first | with_reducible rfl | (apply And.intro <;> rfl)))
  simp only [Act.put, List.setIfInBounds_toArray, List.set_cons_zero, List.set_cons_succ]
  refine call_at (i := 3) (f := ?_) (args := ?_) rfl (by kernel_rfl) (by rfl) ?_ ?_
  rotate_left 2
  · go_simp
    (try (first | with_reducible rfl | (apply And.intro <;> rfl)))
  refine (HG0.out.call fun S1 k1 => int_any x.e HE.out.1 HE.out.2 _ S1 g _ k1 (by have h0 := HL.out; (try simp only [List.length_append] at *); omega)).mono ?_
  rintro e w1 ⟨rfl, hg1⟩
  have HG1 := Lib.hid hg1
  refine ⟨_, rfl, hg1.fr, fun hHeld => ?_⟩
  clear hg1 HG0
  simp only [Act.put, List.setIfInBounds_toArray, List.set_cons_zero, List.set_cons_succ]
  refine call_at (i := 6) (f := ?_) (args := ?_) rfl (by kernel_rfl) (by rfl) ?_ ?_
  rotate_left 2
  · go_simp
    (try (first | with_reducible rfl | (apply And.intro <;> rfl)))
  refine (HG1.out.call fun S1 k1 => int_any x.r HR.out.1 HR.out.2 _ S1 g _ k1 (by have h0 := HL.out; have b0 := encI_len x.e HE.out.2; (try simp only [List.length_append] at *); omega)).mono ?_
  rintro e w2 ⟨rfl, hg2⟩
  have HG2 := Lib.hid hg2
  refine ⟨_, rfl, hg2.fr, fun hHeld => ?_⟩
  clear hg2 HG1
  simp only [Act.put, List.setIfInBounds_toArray, List.set_cons_zero, List.set_cons_succ]
  refine call_at (i := 9) (f := ?_) (args := ?_) rfl (by kernel_rfl) (by rfl) ?_ ?_
  rotate_left 2
  · go_simp
    (try (first | with_reducible rfl | (apply And.intro <;> rfl)))
  refine (oneMore_any x.v HV.out w2).mono ?_
  rintro e w4 ⟨rfl, hw4⟩
  rw [hw4]
  clear hw4 w4
  refine ⟨_, rfl, HG2.out.fr, fun hHeld => ?_⟩
  simp only [Act.put, List.setIfInBounds_toArray, List.set_cons_zero, List.set_cons_succ]
  refine call_at (i := 10) (f := ?_) (args := ?_) rfl (by kernel_rfl) (by rfl) ?_ ?_
  rotate_left 2
  · go_simp
    (try (first | with_reducible rfl | (apply And.intro <;> rfl)))
  refine (HG2.out.call fun S1 k1 => num_any (oneM x.v) HM.out _ S1 g _ k1 (by have h0 := HL.out; have b0 := encI_len x.e HE.out.2; have b1 := encI_len x.r HR.out.2; (try simp only [List.length_append] at *); omega)).mono ?_
  rintro e w5 ⟨rfl, hg5⟩
  have HG5 := Lib.hid hg5
  refine ⟨_, rfl, hg5.fr, fun hHeld => ?_⟩
  clear hg5 HG2
  simp only [Act.put, List.setIfInBounds_toArray, List.set_cons_zero, List.set_cons_succ]
  refine call_at (i := 13) (f := ?_) (args := ?_) rfl (by kernel_rfl) (by rfl) ?_ ?_
  rotate_left 2
  · go_simp
    (try (first | with_reducible rfl | (apply And.intro <;> rfl)))
  refine (HG5.out.call fun S1 k1 => int_any x.p HP.out.1 HP.out.2 _ S1 g _ k1 (by have h0 := HL.out; have b0 := encI_len x.e HE.out.2; have b1 := encI_len x.r HR.out.2; have b2 := enc_ten HM.out; (try simp only [List.length_append] at *); omega)).mono ?_
  rintro e w6 ⟨rfl, hg6⟩
  have HG6 := Lib.hid hg6
  refine ⟨_, rfl, hg6.fr, fun hHeld => ?_⟩
  clear hg6 HG5
  simp only [Act.put, List.setIfInBounds_toArray, List.set_cons_zero, List.set_cons_succ]
  refine run_at (i := 14) (v := ?_) rfl (by kernel_rfl) (by rfl) (fun _ _ _ h => h) hHeld (fun w1 hw1 => ?_) ?_
  rotate_left 1
  · skip
    go_simp
    (try (first | with_reducible rfl | (apply And.intro <;> rfl)))
  simp only [Act.put, List.setIfInBounds_toArray, List.set_cons_zero, List.set_cons_succ]
  refine wpAnyH_done (by kernel_rfl) ?_ _
  go_wp2
  go_ret
  exact ⟨rfl, (HG6.out.from_ HF0.out).eq (by simp [Wpo.head, List.append_assoc])⟩
set_option maxHeartbeats 2000000 in
theorem proposalText_any (x : Wpo) (w : World) (hx : x.Ok w) (hK : KW w) :
    Calls Tryd.prog 44 #[x.val] w fun e w' => ∃ A c, e = .returned (.slice A x.text.length c) ∧ NewB w w' A x.text.length c x.text := by
  obtain ⟨wa, hwa⟩ : ∃ wa, wa = w.alloc (Obj.cells x.cells.toArray 85) := ⟨_, rfl⟩
  have hf0 : Fr [] w wa := by rw [hwa]; exact (Fr.refl [] w).alloc _
  have hb0 : Blk wa w.heap.size 85 x.cells.toArray := by rw [hwa]; exact Blk.new _ _ _
  have HALL := Lib.hid hb0.range
  have HLN : Hid (x.cells.length = 11) := Lib.hid (Wpo.len x)
  have HBT : Hid (wa.rangeAt w.heap.size (0 + 4) x.k.cells) := Lib.hid (rangeAt_sub (xs := [.int .i64 x.e, .int .i64 x.r, .int .i64 x.v, .int .i64 x.p]) (ys := x.k.cells) (zs := [.int .i64 x.b, .int .i64 x.m]) hb0.range)
  have HKL : Hid (x.k.cells.length = 5) := Lib.hid (Wba.len x.k)
  have hke := hx.k.keep (S' := []) hf0 (by simp)
  have HKE := Lib.hid hke
  have HF0 := Lib.hid hf0
  have HWA := Lib.hid hwa
  have HX := Lib.hid hx
  have HK := Lib.hid (hK.keep hf0 (by simp))
  clear hwa hf0 hb0 hx hke hK
  unfold Wpo.val
  generalize hC : x.cells = C at *
  have HRC := Lib.hid hC
  clear hC
  generalize hD : x.k.cells = D at *
  have HRD := Lib.hid hD
  clear hD
  go_enter Tryd.func44, Tryd.ntmps44
  go_wp2
  rw [← HWA.out]
  refine wp_region_held_drew (S := Fr [] wa) (by kernel_rfl) (Fr.drew (Fr.refl _ wa)) (fun hHeld => ?_)
  refine run_at (i := 3) (v := ?_) rfl (by kernel_rfl) (by rfl) (fun _ _ _ h => h) hHeld (fun w1 hw1 => ?_) ?_
  rotate_left 1
  · skip
    go_simp
    (try (first | with_reducible rfl | (apply And.intro <;> rfl)))
  simp only [Act.put, List.setIfInBounds_toArray, List.set_cons_zero, List.set_cons_succ]
  refine row_at (i := 4) rfl (by kernel_rfl) (by rfl) _ _ rfl _ _ rfl _ (fun w1 hw1 => hw1.range (HBT.out) (by first | (simp; done) | exact HNS.out | exact HNW.out | (intro hm; have hlt := HSB.out _ hm; (try dsimp only at hlt); omega))) (row_bat.of HKL.out) (fun _ _ _ h => h) hHeld ?_
  simp only [Act.put, List.setIfInBounds_toArray, List.set_cons_zero, List.set_cons_succ]
  refine row_at (i := 1) rfl (by kernel_rfl) (by rfl) _ _ rfl _ _ rfl _ (fun w1 hw1 => hw1.range (HALL.out) (by first | (simp; done) | exact HNS.out | exact HNW.out | (intro hm; have hlt := HSB.out _ hm; (try dsimp only at hlt); omega))) (row_prop.of HLN.out) (fun _ _ _ h => h) hHeld ?_
  simp only [Act.put, List.setIfInBounds_toArray, List.set_cons_zero, List.set_cons_succ]
  refine call_at (i := 0) (f := ?_) (args := ?_) rfl (by kernel_rfl) (by rfl) ?_ ?_
  rotate_left 2
  · go_simp
    (try (first | with_reducible rfl | (apply And.intro <;> rfl)))
  refine (wbegin_any wWpo (by decide) _).mono ?_
  rintro e w1 ⟨g, rfl, hw1⟩
  have HW1 := Lib.hid (hw1.from_ (Fr.drew (Fr.refl [] wa)))
  refine ⟨_, rfl, HW1.out.fr, fun hHeld => ?_⟩
  clear hw1
  simp only [Act.put, List.setIfInBounds_toArray, List.set_cons_zero, List.set_cons_succ]
  refine call_at (i := 2) (f := ?_) (args := ?_) rfl (by kernel_rfl) (by rfl) ?_ ?_
  rotate_left 2
  · go_simp
    (try (first | with_reducible rfl | (apply And.intro <;> rfl)))
  refine (HW1.out.call fun S1 k1 => proposalHead_any x C HRC.out _ S1 g _ k1 (by have b1 := enc_ten (m := wWpo.length) (by decide); have b2 : wWpo.length = 8 := rfl; simp only [List.length_append]; omega) HX.out.e HX.out.r HX.out.v HX.out.p).mono ?_
  rintro e w2 ⟨rfl, hw2⟩
  have HW7 := Lib.hid hw2
  refine ⟨_, rfl, hw2.fr, fun hHeld => ?_⟩
  clear hw2 HW1
  simp only [Act.put, List.setIfInBounds_toArray, List.set_cons_zero, List.set_cons_succ]
  have hbh := batchHash_any x.k w2 (HKE.out.keep (S' := []) HW7.out.fr (by simp)) (HK.out.keep HW7.out.fr (by simp)) D HRD.out
  have hsl : ((sumL x.k.full)).length = 32 := sumL_len _
  have htx : x.text = enc wWpo.length ++ wWpo ++ x.head ++ sumL x.k.full := rfl
  have htl : x.text.length ≤ 1000 := by
    have b5 := Wpo.head_len HX.out.e HX.out.r HX.out.v HX.out.p
    have b1 := enc_ten (m := wWpo.length) (by decide)
    have b2 : wWpo.length = 8 := rfl
    rw [htx]
    simp only [List.length_append]
    omega
  generalize sumL x.k.full = Y at *
  have HBH := Lib.hid hbh
  have HSL := Lib.hid hsl
  have HTX := Lib.hid htx
  have HTL := Lib.hid htl
  clear hbh hsl htx htl
  refine call_at (i := 5) (f := ?_) (args := ?_) rfl (by kernel_rfl) (by rfl) ?_ ?_
  rotate_left 2
  · go_simp
    (try (first | with_reducible rfl | (apply And.intro <;> rfl)))
  refine HBH.out.mono ?_
  rintro e w8 ⟨rfl, hf8⟩
  have HW8 := Lib.hid (HW7.out.keep hf8)
  refine ⟨_, rfl, HW8.out.fr, fun hHeld => ?_⟩
  clear hf8 HW7 HBH
  simp only [Act.put, List.setIfInBounds_toArray, List.set_cons_zero, List.set_cons_succ]
  refine call_at (i := 6) (f := ?_) (args := ?_) rfl (by kernel_rfl) (by rfl) ?_ ?_
  rotate_left 2
  · go_simp
    (try (first | with_reducible rfl | (apply And.intro <;> rfl)))
  refine (hash_head wa w8 g _ HW8.out Y HSL.out (by have := HTL.out; rw [HTX.out] at this; simp only [List.length_append] at *; omega)).mono ?_
  rintro e w9 ⟨rfl, hw9⟩
  have HW9 : Hid (NewWr wa w9 g x.text) := Lib.hid (by rw [HTX.out]; exact hw9)
  refine ⟨_, rfl, hw9.fr, fun hHeld => ?_⟩
  clear hw9 HW8
  simp only [Act.put, List.setIfInBounds_toArray, List.set_cons_zero, List.set_cons_succ]
  refine call_at (i := 7) (f := ?_) (args := ?_) rfl (by kernel_rfl) (by rfl) ?_ ?_
  rotate_left 2
  · go_simp
    (try (first | with_reducible rfl | (apply And.intro <;> rfl)))
  refine (bytes_head wa w9 g _ HW9.out (by have := HTL.out; omega)).mono ?_
  rintro e w10 ⟨A3, c3, rfl, hn3⟩
  have HN3 := Lib.hid hn3
  refine ⟨_, rfl, hn3.2.1, fun hHeld => ?_⟩
  clear hn3 HW9
  simp only [Act.put, List.setIfInBounds_toArray, List.set_cons_zero, List.set_cons_succ]
  refine run_at (i := 8) (v := ?_) rfl (by kernel_rfl) (by rfl) (fun _ _ _ h => h) hHeld (fun w1 hw1 => ?_) ?_
  rotate_left 1
  · skip
    go_simp
    (try (first | with_reducible rfl | (apply And.intro <;> rfl)))
  simp only [Act.put, List.setIfInBounds_toArray, List.set_cons_zero, List.set_cons_succ]
  refine wpAnyH_done (by kernel_rfl) ?_ _
  go_wp2
  go_ret
  exact ⟨A3, c3, rfl, HN3.out.1, HF0.out.and HN3.out.2.1 (by simp), fun k hk => Nat.le_trans HF0.out.size (HN3.out.2.2 k hk)⟩
end Go.Proofs.YtdgbcdmooklciaaDoor
