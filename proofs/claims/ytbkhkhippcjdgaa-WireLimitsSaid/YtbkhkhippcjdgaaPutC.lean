/- Package part: commitments, certificates, promises as values; what their writers write. -/
import Derived.Test.YtbkhkhippcjdgaaPutL
namespace Go.Proofs.Ytbkhkhippcjdgaa
open Go.RowKit
set_option maxRecDepth 100000

/-- a commitment -/
structure Wcm where
  c : Int
  s : Int
  h : List UInt8
  n : Int
  b : Int
  m : Int
def Wcm.cells (x : Wcm) : List Value := [.int .i64 x.c, .int .i64 x.s] ++ (x.h.map by8 ++ [.int .i64 x.n, .int .i64 x.b, .int .i64 x.m])
def Wcm.val (x : Wcm) : Value := .agg x.cells.toArray
structure Wcm.Ok (x : Wcm) : Prop where
  c : i64In x.c
  s : i64In x.s
  h : x.h.length = 32
  n : i64In x.n
  b : i64In x.b
  m : i64In x.m
theorem Wcm.len {x : Wcm} (h : x.h.length = 32) : x.cells.length = 37 := by simp [Wcm.cells, h]
theorem Wcm.one (x : Wcm) : ∀ v ∈ x.cells, v.oneCell' = true := by
  intro v hv
  simp only [Wcm.cells, List.mem_cons, List.mem_append, List.not_mem_nil, or_false] at hv
  rcases hv with (rfl | rfl) | hv | rfl | rfl | rfl
  · rfl
  · rfl
  · exact by8_one x.h v hv
  · rfl
  · rfl
  · rfl
/-- its fields, where it lies from o on -/
structure Wcm.At (w : World) (g o : Nat) (x : Wcm) : Prop where
  all : w.rangeAt g o x.cells
  hash : w.rangeAt g (o + 2) (x.h.map by8)
  name : w.rangeAt g (o + 0) [.int .i64 x.c, .int .i64 x.s]
  sig : w.rangeAt g (o + 35) [.int .i64 x.b, .int .i64 x.m]
  c : w.cell? ⟨g, o + 0, none⟩ = some (.int .i64 x.c)
  s : w.cell? ⟨g, o + 1, none⟩ = some (.int .i64 x.s)
  n : w.cell? ⟨g, o + 34, none⟩ = some (.int .i64 x.n)
  b : w.cell? ⟨g, o + 35, none⟩ = some (.int .i64 x.b)
  m : w.cell? ⟨g, o + 36, none⟩ = some (.int .i64 x.m)
theorem Wcm.at_of {w : World} {g o : Nat} {x : Wcm} (hr : w.rangeAt g o x.cells) (hh : x.h.length = 32) : x.At w g o := by
  have hl : (x.h.map by8).length = 32 := by rw [List.length_map]; exact hh
  have c_c : w.cell? ⟨g, o + 0, none⟩ = some (.int .i64 x.c) := hr 0 _ rfl
  have c_s : w.cell? ⟨g, o + 1, none⟩ = some (.int .i64 x.s) := hr 1 _ rfl
  have c_n : w.cell? ⟨g, o + 34, none⟩ = some (.int .i64 x.n) := hr 34 _ (post_cell [.int .i64 x.c, .int .i64 x.s] (x.h.map by8) [.int .i64 x.n, .int .i64 x.b, .int .i64 x.m] hl 0 rfl)
  have c_b : w.cell? ⟨g, o + 35, none⟩ = some (.int .i64 x.b) := hr 35 _ (post_cell [.int .i64 x.c, .int .i64 x.s] (x.h.map by8) [.int .i64 x.n, .int .i64 x.b, .int .i64 x.m] hl 1 rfl)
  have c_m : w.cell? ⟨g, o + 36, none⟩ = some (.int .i64 x.m) := hr 36 _ (post_cell [.int .i64 x.c, .int .i64 x.s] (x.h.map by8) [.int .i64 x.n, .int .i64 x.b, .int .i64 x.m] hl 2 rfl)
  have r_name : w.rangeAt g (o + 0) [.int .i64 x.c, .int .i64 x.s] := by
    intro j v hv
    rcases j with _ | j
    · simp at hv; subst hv; exact c_c
    rcases j with _ | j
    · simp at hv; subst hv; exact c_s
    · simp at hv
  have r_sig : w.rangeAt g (o + 35) [.int .i64 x.b, .int .i64 x.m] := by
    intro j v hv
    rcases j with _ | j
    · simp at hv; subst hv; exact c_b
    rcases j with _ | j
    · simp at hv; subst hv; exact c_m
    · simp at hv
  have r_hash : w.rangeAt g (o + 2) (x.h.map by8) := rangeAt_sub (xs := [.int .i64 x.c, .int .i64 x.s]) (ys := x.h.map by8) (zs := [.int .i64 x.n, .int .i64 x.b, .int .i64 x.m]) hr
  exact ⟨hr, r_hash, r_name, r_sig, c_c, c_s, c_n, c_b, c_m⟩
theorem Wcm.At.keep {w w' : World} {g o : Nat} {x : Wcm} {S : List Nat} (h : x.At w g o) (hf : Fr S w w') (hn : ¬ g ∈ S) : x.At w' g o :=
  ⟨hf.range h.all hn, hf.range h.hash hn, hf.range h.name hn, hf.range h.sig hn, hf.cell h.c hn, hf.cell h.s hn, hf.cell h.n hn, hf.cell h.b hn, hf.cell h.m hn⟩
theorem row_cmt : RowTy Try.prog 29 37 := ⟨by kernel_rfl, by kernel_rfl⟩
theorem row_crt : RowTy Try.prog 32 38 := ⟨by kernel_rfl, by kernel_rfl⟩
theorem row_prm : RowTy Try.prog 36 6 := ⟨by kernel_rfl, by kernel_rfl⟩
def Wcm.full (x : Wcm) : List UInt8 := nmL x.c x.s ++ x.h ++ encI x.n ++ sgL x.b x.m
theorem Wcm.full_len {x : Wcm} (hx : x.Ok) : x.full.length ≤ 82 := by
  have b0 := encI_len x.c hx.c.2
  have b1 := encI_len x.s hx.s.2
  have b2 := hx.h
  have b3 := encI_len x.n hx.n.2
  have b4 := encI_len x.b hx.b.2
  have b5 := encI_len x.m hx.m.2
  simp only [Wcm.full, nmL, sgL, List.length_append]
  omega
set_option maxHeartbeats 1000000 in
theorem putCommit_any (x : Wcm) (hx : x.Ok) (w : World) (S : List Nat) (g : Nat) (l : List UInt8) (hw : Wr w S g l) (hl : l.length + 200 ≤ 1073741000) :
    Calls Try.prog 73 #[.pointer (some ⟨g, 0, none⟩), x.val] w fun e w' => e = .returned (.pointer (some ⟨g, 0, none⟩)) ∧ Gr w S g (l ++ x.full) w' := by
  obtain ⟨wa, hwa⟩ : ∃ wa, wa = w.alloc (Obj.cells x.cells.toArray 29) := ⟨_, rfl⟩
  have hf0 : Fr [] w wa := by rw [hwa]; exact (Fr.refl [] w).alloc _
  have hb0 : Blk wa w.heap.size 29 x.cells.toArray := by rw [hwa]; exact Blk.new _ _ _
  have HNS : Hid (¬ w.heap.size ∈ S) := Lib.hid (fun h => by have := hw.lt _ h; omega)
  have HG0 := Lib.hid (Gr.begin hw hf0)
  have HAT := Lib.hid (Wcm.at_of (o := 0) hb0.range hx.h)
  have HF0 := Lib.hid hf0
  have HWA := Lib.hid hwa
  have HL := Lib.hid hl
  have HX := Lib.hid hx
  clear hwa hf0 hb0 hl hw hx
  unfold Wcm.val
  generalize hC : x.cells = C at *
  have HRC := Lib.hid hC
  clear hC
  go_enter Try.func73, Try.ntmps73
  go_wp2
  rw [← HWA.out]
  refine wp_region_held_drew (S := Fr S wa) (by kernel_rfl) (Fr.drew (Fr.refl _ wa)) (fun hHeld => ?_)
  refine run_at (i := 0) (v := ?_) rfl (by kernel_rfl) (by rfl) (fun _ _ _ h => h) hHeld (fun w1 hw1 => ?_) ?_
  rotate_left 1
  · skip
    go_simp
    (try (first | with_reducible rfl | (apply And.intro <;> rfl)))
  simp only [Act.put, List.setIfInBounds_toArray, List.set_cons_zero, List.set_cons_succ]
  refine run_at (i := 1) (v := ?_) rfl (by kernel_rfl) (by rfl) (fun _ _ _ h => h) hHeld (fun w1 hw1 => ?_) ?_
  rotate_left 1
  · skip
    go_simp
    (try (first | with_reducible rfl | (apply And.intro <;> rfl)))
  simp only [Act.put, List.setIfInBounds_toArray, List.set_cons_zero, List.set_cons_succ]
  refine row_at (i := 2) rfl (by kernel_rfl) (by rfl) _ _ rfl _ _ rfl _ (fun w1 hw1 => hw1.range (HAT.out.name) (by first | (simp; done) | exact HNS.out | exact HNW.out | (intro hm; have hlt := HSB.out _ hm; (try dsimp only at hlt); omega))) (row_name) (fun _ _ _ h => h) hHeld ?_
  simp only [Act.put, List.setIfInBounds_toArray, List.set_cons_zero, List.set_cons_succ]
  refine run_at (i := 4) (v := ?_) rfl (by kernel_rfl) (by rfl) (fun _ _ _ h => h) hHeld (fun w1 hw1 => ?_) ?_
  rotate_left 1
  · skip
    go_simp
    (try (first | with_reducible rfl | (apply And.intro <;> rfl)))
  simp only [Act.put, List.setIfInBounds_toArray, List.set_cons_zero, List.set_cons_succ]
  refine row_at (i := 5) rfl (by kernel_rfl) (by rfl) _ _ rfl _ _ rfl _ (fun w1 hw1 => hw1.range (HAT.out.hash) (by first | (simp; done) | exact HNS.out | exact HNW.out | (intro hm; have hlt := HSB.out _ hm; (try dsimp only at hlt); omega))) (row_hash.of (by rw [List.length_map]; exact HX.out.h)) (fun _ _ _ h => h) hHeld ?_
  simp only [Act.put, List.setIfInBounds_toArray, List.set_cons_zero, List.set_cons_succ]
  refine run_at (i := 7) (v := ?_) rfl (by kernel_rfl) (by rfl) (fun _ _ _ h => h) hHeld (fun w1 hw1 => ?_) ?_
  rotate_left 1
  · skip
    go_simp
    (try (first | with_reducible rfl | (apply And.intro <;> rfl)))
  simp only [Act.put, List.setIfInBounds_toArray, List.set_cons_zero, List.set_cons_succ]
  refine run_at (i := 8) (v := ?_) rfl (by kernel_rfl) (by rfl) (fun _ _ _ h => h) hHeld (fun w1 hw1 => ?_) ?_
  rotate_left 1
  · skip
    have hcw0 := hw1.cell (HAT.out.n) (by first | (simp; done) | exact HNS.out | exact HNW.out | (intro hm; have hlt := HSB.out _ hm; (try dsimp only at hlt); omega))
    go_simp
    (try (first | with_reducible rfl | (apply And.intro <;> rfl)))
  simp only [Act.put, List.setIfInBounds_toArray, List.set_cons_zero, List.set_cons_succ]
  refine run_at (i := 10) (v := ?_) rfl (by kernel_rfl) (by rfl) (fun _ _ _ h => h) hHeld (fun w1 hw1 => ?_) ?_
  rotate_left 1
  · skip
    go_simp
    (try (first | with_reducible rfl | (apply And.intro <;> rfl)))
  simp only [Act.put, List.setIfInBounds_toArray, List.set_cons_zero, List.set_cons_succ]
  refine row_at (i := 11) rfl (by kernel_rfl) (by rfl) _ _ rfl _ _ rfl _ (fun w1 hw1 => hw1.range (HAT.out.sig) (by first | (simp; done) | exact HNS.out | exact HNW.out | (intro hm; have hlt := HSB.out _ hm; (try dsimp only at hlt); omega))) (row_sg) (fun _ _ _ h => h) hHeld ?_
  simp only [Act.put, List.setIfInBounds_toArray, List.set_cons_zero, List.set_cons_succ]
  refine call_at (i := 3) (f := ?_) (args := ?_) rfl (by kernel_rfl) (by rfl) ?_ ?_
  rotate_left 2
  · go_simp
    (try (first | with_reducible rfl | (apply And.intro <;> rfl)))
  refine (HG0.out.call fun S1 k1 => putName_any x.c x.s HX.out.c HX.out.s _ S1 g _ k1 (by have h0 := HL.out; (try simp only [List.length_append, sgL, nmL] at *); omega)).mono ?_
  rintro e w1 ⟨rfl, hg1⟩
  have HG1 := Lib.hid hg1
  refine ⟨_, rfl, hg1.fr, fun hHeld => ?_⟩
  clear hg1 HG0
  simp only [Act.put, List.setIfInBounds_toArray, List.set_cons_zero, List.set_cons_succ]
  refine call_at (i := 6) (f := ?_) (args := ?_) rfl (by kernel_rfl) (by rfl) ?_ ?_
  rotate_left 2
  · go_simp
    (try (first | with_reducible rfl | (apply And.intro <;> rfl)))
  refine (HG1.out.call fun S1 k1 => hash_any x.h HX.out.h _ S1 g _ k1 (by have h0 := HL.out; have b0 := encI_len x.c HX.out.c.2; have b1 := encI_len x.s HX.out.s.2; (try simp only [List.length_append, sgL, nmL] at *); omega)).mono ?_
  rintro e w2 ⟨rfl, hg2⟩
  have HG2 := Lib.hid hg2
  refine ⟨_, rfl, hg2.fr, fun hHeld => ?_⟩
  clear hg2 HG1
  simp only [Act.put, List.setIfInBounds_toArray, List.set_cons_zero, List.set_cons_succ]
  refine call_at (i := 9) (f := ?_) (args := ?_) rfl (by kernel_rfl) (by rfl) ?_ ?_
  rotate_left 2
  · go_simp
    (try (first | with_reducible rfl | (apply And.intro <;> rfl)))
  refine (HG2.out.call fun S1 k1 => int_any x.n HX.out.n.1 HX.out.n.2 _ S1 g _ k1 (by have h0 := HL.out; have b0 := encI_len x.c HX.out.c.2; have b1 := encI_len x.s HX.out.s.2; have b2 := HX.out.h; (try simp only [List.length_append, sgL, nmL] at *); omega)).mono ?_
  rintro e w3 ⟨rfl, hg3⟩
  have HG3 := Lib.hid hg3
  refine ⟨_, rfl, hg3.fr, fun hHeld => ?_⟩
  clear hg3 HG2
  simp only [Act.put, List.setIfInBounds_toArray, List.set_cons_zero, List.set_cons_succ]
  refine call_at (i := 12) (f := ?_) (args := ?_) rfl (by kernel_rfl) (by rfl) ?_ ?_
  rotate_left 2
  · go_simp
    (try (first | with_reducible rfl | (apply And.intro <;> rfl)))
  refine (HG3.out.call fun S1 k1 => putSig_any x.b x.m HX.out.b HX.out.m _ S1 g _ k1 (by have h0 := HL.out; have b0 := encI_len x.c HX.out.c.2; have b1 := encI_len x.s HX.out.s.2; have b2 := HX.out.h; have b3 := encI_len x.n HX.out.n.2; (try simp only [List.length_append, sgL, nmL] at *); omega)).mono ?_
  rintro e w4 ⟨rfl, hg4⟩
  have HG4 := Lib.hid hg4
  refine ⟨_, rfl, hg4.fr, fun hHeld => ?_⟩
  clear hg4 HG3
  simp only [Act.put, List.setIfInBounds_toArray, List.set_cons_zero, List.set_cons_succ]
  refine run_at (i := 13) (v := ?_) rfl (by kernel_rfl) (by rfl) (fun _ _ _ h => h) hHeld (fun w1 hw1 => ?_) ?_
  rotate_left 1
  · skip
    go_simp
    (try (first | with_reducible rfl | (apply And.intro <;> rfl)))
  simp only [Act.put, List.setIfInBounds_toArray, List.set_cons_zero, List.set_cons_succ]
  refine wpAnyH_done (by kernel_rfl) ?_ _
  go_wp2
  go_ret
  exact ⟨rfl, (HG4.out.from_ HF0.out).eq (by simp [Wcm.full, List.append_assoc])⟩
theorem putCommit_any' (x : Wcm) (hx : x.Ok) (C : List Value) (hC : x.cells = C) (w : World) (S : List Nat) (g : Nat) (l : List UInt8) (hw : Wr w S g l) (hl : l.length + 200 ≤ 1073741000) :
    Calls Try.prog 73 #[.pointer (some ⟨g, 0, none⟩), .agg C.toArray] w fun e w' => e = .returned (.pointer (some ⟨g, 0, none⟩)) ∧ Gr w S g (l ++ x.full) w' := by
  subst hC
  exact putCommit_any x hx w S g l hw hl
/-- a certificate: its commitment, and where its stamps lie -/
structure Wce where
  k : Wcm
  A : Option Addr
  n : Nat
  d : Nat
  l : List Wst
def Wce.cells (x : Wce) : List Value := x.k.cells ++ [.slice x.A x.n x.d]
def Wce.val (x : Wce) : Value := .agg x.cells.toArray
/-- it lies in w, apart from S -/
structure Wce.Ok (w : World) (S : List Nat) (x : Wce) : Prop where
  k : x.k.Ok
  l : Lst 38 Wst.cells (fun _ v => v.Ok) w x.A x.n x.l
  n : x.n ≤ 5
  ap : 0 < x.n → ∀ a, x.A = some a → ¬ a.block ∈ S
theorem Wce.len {x : Wce} (h : x.k.h.length = 32) : x.cells.length = 38 := by simp [Wce.cells, Wcm.len h]
theorem Wce.one (x : Wce) : ∀ v ∈ x.cells, v.oneCell' = true := by
  intro v hv
  simp only [Wce.cells, List.mem_append, List.mem_singleton] at hv
  rcases hv with hv | rfl
  · exact Wcm.one x.k v hv
  · rfl
theorem Wce.Ok.keep {w W : World} {S S' : List Nat} {x : Wce} (h : x.Ok w S) (hf : Fr S w W) (hs : ∀ k ∈ S', k < w.heap.size → k ∈ S) : x.Ok W S' :=
  ⟨h.k, h.l.keep' hf h.ap (fun _ _ h => h), h.n, fun hn a ha hin => h.ap hn a ha (hs _ hin (h.l.lt hn (by decide) (fun v hv => Wst.len (h.l.2.1 v hv).2.h) a ha))⟩
def Wce.full (x : Wce) : List UInt8 := x.k.full ++ listL Wst.full x.l
theorem Wst.full_len {x : Wst} (hx : x.Ok) : x.full.length ≤ 100 := by
  have b0 := Wst.bare_len hx
  have b1 := encI_len x.b hx.b.2
  have b2 := encI_len x.m hx.m.2
  simp only [Wst.full, sgL, List.length_append]
  omega
theorem Wce.full_len {w : World} {S : List Nat} {x : Wce} (hx : x.Ok w S) : x.full.length ≤ 700 := by
  have b0 := Wcm.full_len hx.k
  have b1 := encI_len (x.l.length : Int) (by have := hx.n; have := hx.l.1; omega)
  have b2 : (x.l.flatMap Wst.full).length ≤ 5 * 100 := flat_len (fun v hv => Wst.full_len (hx.l.2.1 v hv).2) (by have := hx.n; have := hx.l.1; omega)
  simp only [Wce.full, listL, List.length_append]
  omega
set_option maxHeartbeats 1000000 in
theorem putCert_any (x : Wce) (w : World) (S : List Nat) (g : Nat) (l : List UInt8) (hw : Wr w S g l) (hl : l.length + 1400 ≤ 1073741000) (hx : x.Ok w S) :
    Calls Try.prog 44 #[.pointer (some ⟨g, 0, none⟩), x.val] w fun e w' => e = .returned (.pointer (some ⟨g, 0, none⟩)) ∧ Gr w S g (l ++ x.full) w' := by
  obtain ⟨wa, hwa⟩ : ∃ wa, wa = w.alloc (Obj.cells x.cells.toArray 32) := ⟨_, rfl⟩
  have hf0 : Fr [] w wa := by rw [hwa]; exact (Fr.refl [] w).alloc _
  have hb0 : Blk wa w.heap.size 32 x.cells.toArray := by rw [hwa]; exact Blk.new _ _ _
  have HNS : Hid (¬ w.heap.size ∈ S) := Lib.hid (fun h => by have := hw.lt _ h; omega)
  have HG0 := Lib.hid (Gr.begin hw hf0)
  have HCM : Hid (wa.rangeAt w.heap.size 0 x.k.cells) := Lib.hid (fun j v hv => hb0.range j v (by rw [Wce.cells]; exact (List.getElem?_append_left (List.getElem?_eq_some_iff.1 hv).1).trans hv))
  have HSL : Hid (wa.cell? ⟨w.heap.size, 0 + 37, none⟩ = some (.slice x.A x.n x.d)) := Lib.hid (hb0.range 37 _ (by rw [Wce.cells, List.getElem?_append_right (by rw [Wcm.len hx.k.h]; omega), Wcm.len hx.k.h]; rfl))
  have HKL : Hid (x.k.cells.length = 37) := Lib.hid (Wcm.len hx.k.h)
  have HF0 := Lib.hid hf0
  have HWA := Lib.hid hwa
  have HL := Lib.hid hl
  have HX := Lib.hid hx
  clear hwa hf0 hb0 hl hw hx
  unfold Wce.val
  generalize hC : x.cells = C at *
  have HRC := Lib.hid hC
  clear hC
  generalize hK : x.k.cells = K at *
  have HRK := Lib.hid hK
  clear hK
  go_enter Try.func44, Try.ntmps44
  go_wp2
  rw [← HWA.out]
  refine wp_region_held_drew (S := Fr S wa) (by kernel_rfl) (Fr.drew (Fr.refl _ wa)) (fun hHeld => ?_)
  refine run_at (i := 0) (v := ?_) rfl (by kernel_rfl) (by rfl) (fun _ _ _ h => h) hHeld (fun w1 hw1 => ?_) ?_
  rotate_left 1
  · skip
    go_simp
    (try (first | with_reducible rfl | (apply And.intro <;> rfl)))
  simp only [Act.put, List.setIfInBounds_toArray, List.set_cons_zero, List.set_cons_succ]
  refine run_at (i := 1) (v := ?_) rfl (by kernel_rfl) (by rfl) (fun _ _ _ h => h) hHeld (fun w1 hw1 => ?_) ?_
  rotate_left 1
  · skip
    go_simp
    (try (first | with_reducible rfl | (apply And.intro <;> rfl)))
  simp only [Act.put, List.setIfInBounds_toArray, List.set_cons_zero, List.set_cons_succ]
  refine row_at (i := 2) rfl (by kernel_rfl) (by rfl) _ _ rfl _ _ rfl _ (fun w1 hw1 => hw1.range (HCM.out) (by first | (simp; done) | exact HNS.out | exact HNW.out | (intro hm; have hlt := HSB.out _ hm; (try dsimp only at hlt); omega))) (row_cmt.of HKL.out) (fun _ _ _ h => h) hHeld ?_
  simp only [Act.put, List.setIfInBounds_toArray, List.set_cons_zero, List.set_cons_succ]
  refine run_at (i := 4) (v := ?_) rfl (by kernel_rfl) (by rfl) (fun _ _ _ h => h) hHeld (fun w1 hw1 => ?_) ?_
  rotate_left 1
  · skip
    go_simp
    (try (first | with_reducible rfl | (apply And.intro <;> rfl)))
  simp only [Act.put, List.setIfInBounds_toArray, List.set_cons_zero, List.set_cons_succ]
  refine run_at (i := 5) (v := ?_) rfl (by kernel_rfl) (by rfl) (fun _ _ _ h => h) hHeld (fun w1 hw1 => ?_) ?_
  rotate_left 1
  · skip
    have hcw0 := hw1.cell (HSL.out) (by first | (simp; done) | exact HNS.out | exact HNW.out | (intro hm; have hlt := HSB.out _ hm; (try dsimp only at hlt); omega))
    go_simp
    (try (first | with_reducible rfl | (apply And.intro <;> rfl)))
  simp only [Act.put, List.setIfInBounds_toArray, List.set_cons_zero, List.set_cons_succ]
  refine call_at (i := 3) (f := ?_) (args := ?_) rfl (by kernel_rfl) (by rfl) ?_ ?_
  rotate_left 2
  · go_simp
    (try (first | with_reducible rfl | (apply And.intro <;> rfl)))
  refine (HG0.out.call fun S1 k1 => putCommit_any' x.k HX.out.k K HRK.out _ S1 g _ k1 (by have h0 := HL.out; (try simp only [List.length_append, sgL, nmL] at *); omega)).mono ?_
  rintro e w1 ⟨rfl, hg1⟩
  have HG1 := Lib.hid hg1
  refine ⟨_, rfl, hg1.fr, fun hHeld => ?_⟩
  clear hg1 HG0
  simp only [Act.put, List.setIfInBounds_toArray, List.set_cons_zero, List.set_cons_succ]
  refine call_at (i := 6) (f := ?_) (args := ?_) rfl (by kernel_rfl) (by rfl) ?_ ?_
  rotate_left 2
  · go_simp
    (try (first | with_reducible rfl | (apply And.intro <;> rfl)))
  refine (HG1.out.calls fun S1 k1 f1 s1 => putStamps_any Wst.cells (fun _ _ v => v.Ok) Wst.full 200 Wst.one rfl (fun _ _ v h => Nat.le_trans (Wst.full_len h) (by decide)) (fun v W S g l h hw hl => putStamp_any v h W S g l hw hl) _ S1 g _ k1 x.A x.n x.d x.l (HX.out.l.keep' ((HF0.out.mono (T := S) (by simp)).trans f1 (fun k hk _ => hk)) HX.out.ap (fun _ _ h => h)) (by have := HX.out.n; omega) (fun hn a ha hin => HX.out.ap hn a ha (s1 _ hin (Nat.lt_of_lt_of_le (HX.out.l.lt hn (by decide) (fun v hv => Wst.len (HX.out.l.2.1 v hv).2.h) a ha) HF0.out.size))) (fun _ _ _ _ _ _ h => h) (by have h0 := HL.out; have b0 := Wcm.full_len HX.out.k; have := HX.out.n; simp only [List.length_append]; omega)).mono ?_
  rintro e w2 ⟨rfl, hg2⟩
  have HG2 := Lib.hid hg2
  refine ⟨_, rfl, hg2.fr, fun hHeld => ?_⟩
  clear hg2 HG1
  simp only [Act.put, List.setIfInBounds_toArray, List.set_cons_zero, List.set_cons_succ]
  refine run_at (i := 7) (v := ?_) rfl (by kernel_rfl) (by rfl) (fun _ _ _ h => h) hHeld (fun w1 hw1 => ?_) ?_
  rotate_left 1
  · skip
    go_simp
    (try (first | with_reducible rfl | (apply And.intro <;> rfl)))
  simp only [Act.put, List.setIfInBounds_toArray, List.set_cons_zero, List.set_cons_succ]
  refine wpAnyH_done (by kernel_rfl) ?_ _
  go_wp2
  go_ret
  exact ⟨rfl, (HG2.out.from_ HF0.out).eq (by simp [Wce.full, List.append_assoc])⟩
theorem putCert_any' (x : Wce) (C : List Value) (hC : x.cells = C) (w : World) (S : List Nat) (g : Nat) (l : List UInt8) (hw : Wr w S g l) (hl : l.length + 1400 ≤ 1073741000) (hx : x.Ok w S) :
    Calls Try.prog 44 #[.pointer (some ⟨g, 0, none⟩), .agg C.toArray] w fun e w' => e = .returned (.pointer (some ⟨g, 0, none⟩)) ∧ Gr w S g (l ++ x.full) w' := by
  subst hC
  exact putCert_any x w S g l hw hl hx
end Go.Proofs.Ytbkhkhippcjdgaa
