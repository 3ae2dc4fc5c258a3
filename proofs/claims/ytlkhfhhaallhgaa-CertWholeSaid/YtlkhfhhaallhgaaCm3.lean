/- Package commit: a commitment as a value; Text, Valid, signedBy. -/
import Derived.Test.YtlkhfhhaallhgaaCm2
namespace Go.Proofs.Ytlkhfhhaallhgaa
open Go.RowKit
set_option maxRecDepth 100000

/-- a commitment -/
structure Cm where
  c : Int
  s : Int
  h : List UInt8
  n : Int
  b : Int
  m : Int
def Cm.cells (x : Cm) : List Value := .int .i64 x.c :: .int .i64 x.s :: (x.h.map by8 ++ [.int .i64 x.n, .int .i64 x.b, .int .i64 x.m])
def Cm.val (x : Cm) : Value := .agg x.cells.toArray
def i64In (z : Int) : Prop := -9223372036854775808 ≤ z ∧ z < 9223372036854775808
structure Cm.Ok (x : Cm) : Prop where
  c : i64In x.c
  s : i64In x.s
  h : x.h.length = 32
  n : i64In x.n
  b : i64In x.b
  m : i64In x.m
theorem Cm.len {x : Cm} (h : x.h.length = 32) : x.cells.length = 37 := by simp [Cm.cells, h]
theorem Cm.one (x : Cm) : ∀ v ∈ x.cells, v.oneCell' = true := by
  intro v hv
  simp only [Cm.cells, List.mem_cons, List.mem_append, List.not_mem_nil, or_false] at hv
  rcases hv with rfl | rfl | hv | rfl | rfl | rfl
  · rfl
  · rfl
  · exact by8_one x.h v hv
  · rfl
  · rfl
  · rfl
theorem Cm.all (x : Cm) : (x.cells.toArray.all (·.oneCell')) = true := all_oneCell_toArray x.one
/-- the fields of a commitment that lies from the beginning of a block on -/
structure Cm.At (w : World) (g : Nat) (x : Cm) : Prop where
  all : w.rangeAt g 0 x.cells
  name : w.rangeAt g 0 [.int .i64 x.c, .int .i64 x.s]
  hash : w.rangeAt g 2 (x.h.map by8)
  sig : w.rangeAt g 35 [.int .i64 x.b, .int .i64 x.m]
  c : w.cell? ⟨g, 0, none⟩ = some (.int .i64 x.c)
  s : w.cell? ⟨g, 1, none⟩ = some (.int .i64 x.s)
  n : w.cell? ⟨g, 34, none⟩ = some (.int .i64 x.n)
  b : w.cell? ⟨g, 35, none⟩ = some (.int .i64 x.b)
  m : w.cell? ⟨g, 36, none⟩ = some (.int .i64 x.m)
theorem Cm.at_of {w : World} {g : Nat} {x : Cm} (hr : w.rangeAt g 0 x.cells) (hh : x.h.length = 32) : x.At w g := by
  have hl : (x.h.map by8).length = 32 := by rw [List.length_map]; exact hh
  have e1 : x.cells = [] ++ ([.int .i64 x.c, .int .i64 x.s] ++ (x.h.map by8 ++ [.int .i64 x.n, .int .i64 x.b, .int .i64 x.m])) := rfl
  have e2 : x.cells = [.int .i64 x.c, .int .i64 x.s] ++ (x.h.map by8 ++ [.int .i64 x.n, .int .i64 x.b, .int .i64 x.m]) := rfl
  have e3 : x.cells = ([.int .i64 x.c, .int .i64 x.s] ++ x.h.map by8 ++ [.int .i64 x.n]) ++ ([.int .i64 x.b, .int .i64 x.m] ++ []) := by simp [Cm.cells]
  have h1 : w.rangeAt g 0 [.int .i64 x.c, .int .i64 x.s] := by
    have := hr; rw [e1] at this; simpa using rangeAt_sub this
  have h2 : w.rangeAt g 2 (x.h.map by8) := by
    have := hr; rw [e2] at this; simpa using rangeAt_sub this
  have h3 : w.rangeAt g 35 [.int .i64 x.b, .int .i64 x.m] := by
    have := hr; rw [e3] at this; simpa [hl, hh] using rangeAt_sub this
  have h4 : x.cells[34]? = some (.int .i64 x.n) := by
    rw [e3, List.getElem?_append_left (by simp [hh]), List.getElem?_append_right (by simp [hh])]; simp [hh]
  exact ⟨hr, h1, h2, h3, rangeAt_cell h1 0 rfl rfl, rangeAt_cell h1 1 rfl rfl, rangeAt_cell hr 34 h4 rfl, rangeAt_cell h3 0 rfl rfl, rangeAt_cell h3 1 rfl rfl⟩
theorem Cm.at_blk {w : World} {g : Nat} {t : TypeId} {x : Cm} (hb : Blk w g t x.cells.toArray) (hh : x.h.length = 32) : x.At w g := Cm.at_of hb.range hh
theorem Cm.At.keep {w w' : World} {g : Nat} {x : Cm} {S : List Nat} (h : x.At w g) (hf : Fr S w w') (hn : ¬ g ∈ S) : x.At w' g :=
  ⟨hf.range h.all hn, hf.range h.name hn, hf.range h.hash hn, hf.range h.sig hn, hf.cell h.c hn, hf.cell h.s hn, hf.cell h.n hn, hf.cell h.b hn, hf.cell h.m hn⟩
theorem row_commit : RowTy Try.prog 39 37 := ⟨by kernel_rfl, by kernel_rfl⟩
theorem row_sig : RowTy Try.prog 37 2 := ⟨by kernel_rfl, by kernel_rfl⟩
theorem row_conf : RowTy Try.prog 27 2 := ⟨by kernel_rfl, by kernel_rfl⟩
/-- what the client signs -/
def Cm.text (x : Cm) : List UInt8 := headL wRequest x.c x.s ++ x.h ++ encI x.n

set_option maxHeartbeats 1000000 in
theorem text_any (x : Cm) (hx : x.Ok) (w : World) :
    Calls Try.prog 45 #[x.val] w fun e w' => ∃ A c, e = .returned (.slice A x.text.length c) ∧ NewB w w' A x.text.length c x.text := by
  obtain ⟨wa, hwa⟩ : ∃ wa, wa = w.alloc (Obj.cells x.cells.toArray 39) := ⟨_, rfl⟩
  have hf0 : Fr [] w wa := by rw [hwa]; exact (Fr.refl [] w).alloc _
  have hb0 : Blk wa w.heap.size 39 x.cells.toArray := by rw [hwa]; exact Blk.new _ _ _
  have HAT := Lib.hid (Cm.at_blk hb0 hx.h)
  have HF0 := Lib.hid hf0
  have HWA := Lib.hid hwa
  have HX := Lib.hid hx
  clear hwa hf0 hb0 hx
  unfold Cm.val
  generalize hC : x.cells.toArray = C at *
  clear hC
  go_enter Try.func45, Try.ntmps45
  go_wp2
  rw [← HWA.out]
  refine wp_region_held_drew (S := Fr [] wa) (by kernel_rfl) (Fr.drew (Fr.refl _ wa)) (fun hHeld => ?_)
  refine run_at (i := 0) (v := ?_) rfl (by kernel_rfl) (by rfl) (fun _ _ _ h => h) hHeld (fun w1 hw1 => ?_) ?_
  rotate_left 1
  · skip
    go_simp
    (try (first | with_reducible rfl | (apply And.intro <;> rfl)))
  simp only [Act.put, List.setIfInBounds_toArray, List.set_cons_zero, List.set_cons_succ]
  refine row_at (i := 1) rfl (by kernel_rfl) (by rfl) _ _ rfl _ _ rfl _ (fun w1 hw1 => hw1.range (HAT.out.name) (by first | (simp; done) | exact HNS.out | exact HNW.out | (intro hm; have hlt := HSB.out _ hm; (try dsimp only at hlt); omega))) (row_name) (fun _ _ _ h => h) hHeld ?_
  simp only [Act.put, List.setIfInBounds_toArray, List.set_cons_zero, List.set_cons_succ]
  refine run_at (i := 3) (v := ?_) rfl (by kernel_rfl) (by rfl) (fun _ _ _ h => h) hHeld (fun w1 hw1 => ?_) ?_
  rotate_left 1
  · skip
    go_simp
    (try (first | with_reducible rfl | (apply And.intro <;> rfl)))
  simp only [Act.put, List.setIfInBounds_toArray, List.set_cons_zero, List.set_cons_succ]
  refine row_at (i := 4) rfl (by kernel_rfl) (by rfl) _ _ rfl _ _ rfl _ (fun w1 hw1 => hw1.range (HAT.out.hash) (by first | (simp; done) | exact HNS.out | exact HNW.out | (intro hm; have hlt := HSB.out _ hm; (try dsimp only at hlt); omega))) (row_hash.of (by rw [List.length_map]; exact HX.out.h)) (fun _ _ _ h => h) hHeld ?_
  simp only [Act.put, List.setIfInBounds_toArray, List.set_cons_zero, List.set_cons_succ]
  refine run_at (i := 6) (v := ?_) rfl (by kernel_rfl) (by rfl) (fun _ _ _ h => h) hHeld (fun w1 hw1 => ?_) ?_
  rotate_left 1
  · skip
    go_simp
    (try (first | with_reducible rfl | (apply And.intro <;> rfl)))
  simp only [Act.put, List.setIfInBounds_toArray, List.set_cons_zero, List.set_cons_succ]
  refine run_at (i := 7) (v := ?_) rfl (by kernel_rfl) (by rfl) (fun _ _ _ h => h) hHeld (fun w1 hw1 => ?_) ?_
  rotate_left 1
  · skip
    have hcw0 := hw1.cell (HAT.out.n) (by first | (simp; done) | exact HNS.out | exact HNW.out | (intro hm; have hlt := HSB.out _ hm; (try dsimp only at hlt); omega))
    go_simp
    (try (first | with_reducible rfl | (apply And.intro <;> rfl)))
  simp only [Act.put, List.setIfInBounds_toArray, List.set_cons_zero, List.set_cons_succ]
  refine call_at (i := 2) (f := ?_) (args := ?_) rfl (by kernel_rfl) (by rfl) ?_ ?_
  rotate_left 2
  · go_simp
    (try (first | with_reducible rfl | (apply And.intro <;> rfl)))
  refine (begin_any wRequest (by decide) x.c x.s HX.out.c.1 HX.out.c.2 HX.out.s.1 HX.out.s.2 _).mono ?_
  rintro e w1 ⟨g, rfl, hw1⟩
  have HW := Lib.hid (hw1.from_ (Fr.drew (Fr.refl [] wa)))
  refine ⟨_, rfl, HW.out.fr, fun hHeld => ?_⟩
  clear hw1
  simp only [Act.put, List.setIfInBounds_toArray, List.set_cons_zero, List.set_cons_succ]
  refine call_at (i := 5) (f := ?_) (args := ?_) rfl (by kernel_rfl) (by rfl) ?_ ?_
  rotate_left 2
  · go_simp
    (try (first | with_reducible rfl | (apply And.intro <;> rfl)))
  refine (hash_head wa w1 g _ HW.out x.h HX.out.h (by have := headL_len wRequest (by decide) x.c x.s HX.out.c.2 HX.out.s.2; omega)).mono ?_
  rintro e w2 ⟨rfl, hw2⟩
  have HW2 := Lib.hid hw2
  refine ⟨_, rfl, hw2.fr, fun hHeld => ?_⟩
  clear hw2 HW
  simp only [Act.put, List.setIfInBounds_toArray, List.set_cons_zero, List.set_cons_succ]
  refine call_at (i := 8) (f := ?_) (args := ?_) rfl (by kernel_rfl) (by rfl) ?_ ?_
  rotate_left 2
  · go_simp
    (try (first | with_reducible rfl | (apply And.intro <;> rfl)))
  refine (int_head wa w2 g _ HW2.out x.n HX.out.n.1 HX.out.n.2 (by have := headL_len wRequest (by decide) x.c x.s HX.out.c.2 HX.out.s.2; have := HX.out.h; simp only [List.length_append]; omega)).mono ?_
  rintro e w3 ⟨rfl, hw3⟩
  have hlen : (headL wRequest x.c x.s ++ x.h ++ encI x.n).length ≤ 1073741824 := by
    have h1 := headL_len wRequest (by decide) x.c x.s HX.out.c.2 HX.out.s.2
    have h2 := HX.out.h
    have h3 := encI_len x.n HX.out.n.2
    simp only [List.length_append]
    omega
  have hX : x.text = headL wRequest x.c x.s ++ x.h ++ encI x.n := rfl
  rw [← hX] at hw3 hlen
  clear hX
  obtain ⟨X, hX⟩ : ∃ X, X = x.text := ⟨_, rfl⟩
  rw [← hX] at hw3 hlen
  have HX2 := Lib.hid hX
  have HW3 := Lib.hid hw3
  have HLEN := Lib.hid hlen
  refine ⟨_, rfl, hw3.fr, fun hHeld => ?_⟩
  clear hw3 HW2 hlen hX
  simp only [Act.put, List.setIfInBounds_toArray, List.set_cons_zero, List.set_cons_succ]
  refine call_at (i := 9) (f := ?_) (args := ?_) rfl (by kernel_rfl) (by rfl) ?_ ?_
  rotate_left 2
  · go_simp
    (try (first | with_reducible rfl | (apply And.intro <;> rfl)))
  refine (bytes_head wa w3 g _ HW3.out HLEN.out).mono ?_
  rintro e w4 ⟨A4, c4, rfl, hn4⟩
  have HN4 := Lib.hid hn4
  refine ⟨_, rfl, hn4.2.1, fun hHeld => ?_⟩
  clear hn4 HW3
  simp only [Act.put, List.setIfInBounds_toArray, List.set_cons_zero, List.set_cons_succ]
  refine run_at (i := 10) (v := ?_) rfl (by kernel_rfl) (by rfl) (fun _ _ _ h => h) hHeld (fun w1 hw1 => ?_) ?_
  rotate_left 1
  · skip
    go_simp
    (try (first | with_reducible rfl | (apply And.intro <;> rfl)))
  simp only [Act.put, List.setIfInBounds_toArray, List.set_cons_zero, List.set_cons_succ]
  refine wpAnyH_done (by kernel_rfl) ?_ _
  go_wp2
  go_ret
  rw [← HX2.out]
  exact ⟨A4, c4, rfl, HN4.out.1, HF0.out.and HN4.out.2.1 (by simp), fun k hk => by have := HN4.out.2.2 k hk; have := HF0.out.size; omega⟩
theorem Cm.text_len (x : Cm) (hx : x.Ok) : x.text.length ≤ 1100 := by
  have h1 := headL_len wRequest (by decide) x.c x.s hx.c.2 hx.s.2
  have h2 := hx.h
  have h3 := encI_len x.n hx.n.2
  simp only [Cm.text, List.length_append]
  omega

/-- may it be? -/
def validB (k : Int) (x : Cm) : Bool := decide (0 ≤ x.c ∧ x.c < k ∧ 1 ≤ x.s ∧ x.s ≤ 1048576 ∧ 0 ≤ x.n ∧ x.n ≤ 256)
set_option maxHeartbeats 1000000 in
theorem valid_any (f k : Int) (x : Cm) (hx : x.h.length = 32) (w : World) :
    Calls Try.prog 42 #[.agg #[.int .i64 f, .int .i64 k], x.val] w fun e w' => e = .returned (.bool (validB k x)) ∧ Fr [] w w' := by
  obtain ⟨wa, hwa⟩ : ∃ wa, wa = (w.alloc (Obj.cells #[.int .i64 f, .int .i64 k] 27)).alloc (Obj.cells x.cells.toArray 39) := ⟨_, rfl⟩
  have hf0 : Fr [] w wa := by rw [hwa]; exact ((Fr.refl [] w).alloc _).alloc _
  have hb0 : Blk wa (w.heap.size + 1) 39 x.cells.toArray := by
    have := Blk.new (w.alloc (Obj.cells #[.int .i64 f, .int .i64 k] 27)) 39 x.cells.toArray
    rw [hwa]; simpa using this
  have hb1 : Blk wa w.heap.size 27 #[.int .i64 f, .int .i64 k] := by rw [hwa]; exact blk_alloc (Blk.new _ _ _)
  have hat := Cm.at_blk hb0 hx
  have hc0 := hat.c
  have hc1 := hat.s
  have hc2 := hat.n
  have hc3 := hb1.cell 1
  simp only [List.getElem?_toArray, List.getElem?_cons_zero, List.getElem?_cons_succ] at hc3
  have HF0 := Lib.hid hf0
  have HWA := Lib.hid hwa
  clear hwa hf0 hb0 hb1 hat hx
  unfold Cm.val
  have hv : ∃ r, r = validB k x ∧ validB k x = decide (0 ≤ x.c ∧ x.c < k ∧ 1 ≤ x.s ∧ x.s ≤ 1048576 ∧ 0 ≤ x.n ∧ x.n ≤ 256) := ⟨_, rfl, rfl⟩
  obtain ⟨r, hr, hr2⟩ := hv
  rw [← hr] at hr2 ⊢
  clear hr
  generalize hC : x.cells.toArray = C at *
  clear hC
  generalize x.c = xc at *
  generalize x.s = xs at *
  generalize x.n = xn at *
  by_cases h1 : 0 ≤ xc
  case neg =>
    have HR : Hid (r = false) := Lib.hid (by rw [hr2]; simp; omega)
    clear hr2
    go_enter Try.func42, Try.ntmps42
    go_upto_region 1 with (fail)
    rw [← HWA.out]
    go_wp2
    go_ret
    exact ⟨by rw [HR.out]; rfl, HF0.out⟩
  by_cases h2 : xc < k
  case neg =>
    have HR : Hid (r = false) := Lib.hid (by rw [hr2]; simp; omega)
    clear hr2
    go_enter Try.func42, Try.ntmps42
    go_upto_region 1 with (fail)
    rw [← HWA.out]
    go_wp2
    go_ret
    exact ⟨by rw [HR.out]; rfl, HF0.out⟩
  by_cases h3 : 1 ≤ xs
  case neg =>
    have HR : Hid (r = false) := Lib.hid (by rw [hr2]; simp; omega)
    clear hr2
    go_enter Try.func42, Try.ntmps42
    go_upto_region 1 with (fail)
    rw [← HWA.out]
    go_wp2
    go_ret
    exact ⟨by rw [HR.out]; rfl, HF0.out⟩
  by_cases h4 : xs ≤ 1048576
  case neg =>
    have HR : Hid (r = false) := Lib.hid (by rw [hr2]; simp; omega)
    clear hr2
    go_enter Try.func42, Try.ntmps42
    go_upto_region 1 with (fail)
    rw [← HWA.out]
    go_wp2
    go_ret
    exact ⟨by rw [HR.out]; rfl, HF0.out⟩
  by_cases h5 : 0 ≤ xn
  case neg =>
    have HR : Hid (r = false) := Lib.hid (by rw [hr2]; simp; omega)
    clear hr2
    go_enter Try.func42, Try.ntmps42
    go_upto_region 1 with (fail)
    rw [← HWA.out]
    go_wp2
    go_ret
    exact ⟨by rw [HR.out]; rfl, HF0.out⟩
  by_cases h6 : xn ≤ 256
  case neg =>
    have HR : Hid (r = false) := Lib.hid (by rw [hr2]; simp; omega)
    clear hr2
    go_enter Try.func42, Try.ntmps42
    go_upto_region 1 with (fail)
    rw [← HWA.out]
    go_wp2
    go_ret
    exact ⟨by rw [HR.out]; rfl, HF0.out⟩
  have HR : Hid (r = true) := Lib.hid (by rw [hr2]; simp; omega)
  clear hr2
  go_enter Try.func42, Try.ntmps42
  go_upto_region 1 with (fail)
  rw [← HWA.out]
  go_wp2
  go_ret
  exact ⟨by rw [HR.out]; rfl, HF0.out⟩
end Go.Proofs.Ytlkhfhhaallhgaa
