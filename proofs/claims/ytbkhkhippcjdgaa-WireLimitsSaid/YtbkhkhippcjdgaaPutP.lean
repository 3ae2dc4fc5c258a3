/- Package part: promises as values; what their writers write; what is signed of one. -/
import Derived.Test.YtbkhkhippcjdgaaPutC
namespace Go.Proofs.Ytbkhkhippcjdgaa
open Go.RowKit
set_option maxRecDepth 100000

set_option maxHeartbeats 2000000 in
theorem putCerts_any {α : Type} (cells : α → List Value) (ok : World → List Nat → α → Prop) (full : α → List UInt8) (N : Nat) (hone : ∀ v, ∀ u ∈ cells v, u.oneCell' = true) (hsz : (Try.prog.info? 32).map (·.size) = some 38)
    (hfull : ∀ W S v, ok W S v → (full v).length ≤ N)
    (hput : ∀ (v : α) (W : World) (S : List Nat) (g : Nat) (l : List UInt8), ok W S v → Wr W S g l → l.length + N ≤ 1073741000 → Calls Try.prog 44 #[.pointer (some ⟨g, 0, none⟩), .agg (cells v).toArray] W fun e w' => e = .returned (.pointer (some ⟨g, 0, none⟩)) ∧ Gr W S g (l ++ full v) w')
    (w : World) (S : List Nat) (g : Nat) (l : List UInt8) (hw : Wr w S g l) (A : Option Addr) (n c : Nat) (xs : List α) (hx : Lst 38 cells (fun w v => ok w S v) w A n xs) (hn : n ≤ 1000) (hA : 0 < n → ∀ a, A = some a → ¬ a.block ∈ S)
    (hkeep : ∀ W S', Fr S w W → (∀ x ∈ S', x < w.heap.size → x ∈ S) → ∀ v ∈ xs, ok w S v → ok W S' v) (hl : l.length + 20 + (n + 1) * N ≤ 1073741000) :
    Calls Try.prog 111 #[.pointer (some ⟨g, 0, none⟩), fnV 44, .slice A n c] w fun e w' => e = .returned (.pointer (some ⟨g, 0, none⟩)) ∧ Gr w S g (l ++ listL full xs) w' := by
  have HG0 := Lib.hid (Gr.refl hw)
  have HX := Lib.hid hx
  have HA := Lib.hid hA
  have HL := Lib.hid hl
  have HKP := Lib.hid hkeep
  have HSL := Lib.hid hw.lt
  have hxn := hx.1
  clear hw hx hA hl hkeep
  unfold fnV
  go_enter Try.func111, Try.ntmps111
  go_wp2_with fail
  refine (HG0.out.call fun S1 k1 => int_any (n : Int) (by omega) (by omega) _ S1 g _ k1 (by have := HL.out; omega)).mono ?_
  rintro e w1 ⟨rfl, hg1⟩
  have HG1 := Lib.hid hg1
  clear hg1 HG0
  go_wp2_with fail
  go_loopw [15] (fun i wr => ∃ k : Nat, k ≤ n ∧ i = .int .i64 k ∧ Gr w S g (l ++ encI (n : Int) ++ (xs.take k).flatMap full) wr) (fun i _ => n - (intOf i).toNat)
  case atStart => exact ⟨0, by omega, rfl, by simpa using HG1.out⟩
  case round =>
    obtain ⟨k, hk, rfl, hg⟩ := hrel
    have HG := Lib.hid hg
    clear hg
    by_cases hlt : k < n
    · obtain ⟨ad, v, rfl, hv, hcl, hok, hc⟩ := HX.out.at hlt
      have HV := Lib.hid hv
      have HCL := Lib.hid hcl
      have HOK := Lib.hid hok
      have HMEM := Lib.hid (List.mem_of_getElem? hv)
      have HC := Lib.hid (fun j x hj => HG.out.fr.cell (hc j x hj) (by rw [add_block, add_block]; exact HA.out (by omega) ad rfl))
      have HONE := Lib.hid (hone v)
      have HPUT := Lib.hid (hput v)
      have hk0 : (0 : Int) ≤ k := by omega
      have hlen : ((xs.take k).flatMap full).length ≤ k * N := flat_len (fun v hv => hfull w S v (HX.out.2.1 v (List.mem_of_mem_take hv)).2) (by rw [List.length_take]; omega)
      have hkn2 : k * N + N ≤ (n + 1) * N := by rw [← Nat.succ_mul]; exact Nat.mul_le_mul_right N (by omega)
      have HLEN : Hid ((l ++ encI (n : Int) ++ (xs.take k).flatMap full).length + N ≤ 1073741000) := Lib.hid (by have := HL.out; have := encI_len (n : Int) (by omega); simp only [List.length_append]; omega)
      have HTK : Hid ((xs.take (k + 1)).flatMap full = (xs.take k).flatMap full ++ full v) := Lib.hid (by rw [List.take_add_one, hv]; simp)
      have HFV := Lib.hid (rfl : cells v = cells v)
      clear hv hcl hok hc hlen hkn2
      generalize hcv : cells v = C at *
      go_wp2_with (first
        | (refine wpList_cells rfl 32 _ rfl _ rfl C HC.out (row_crt.of HCL.out) ?_)
        | (refine wpList_store_box rfl 32 _ _ rfl _ 32 C rfl rfl (by rw [hsz, HCL.out]) (by rw [HCL.out]; rfl) HONE.out ?_
           intro wb hbb hfb
           have HBB := Lib.hid hbb
           have HFB := Lib.hid hfb
           clear hbb hfb)
        | (refine wpList_row rfl 32 _ rfl _ _ rfl _ HBB.out.range (row_crt.of HCL.out) ?_))
      have HGB := Lib.hid (HG.out.trans (fun S1 k => ⟨S1, k.keep HFB.out (by simp), HFB.out.mono (by simp), fun x hx _ => hx⟩))
      refine (HGB.out.calls fun S1 k1 f1 s1 => HPUT.out _ S1 g _ (HKP.out wb S1 f1 s1 v HMEM.out HOK.out) k1 HLEN.out).mono ?_
      rintro e w2 ⟨rfl, hg2⟩
      have HG2 := Lib.hid hg2
      clear hg2
      go_wp2
      exact ⟨⟨k + 1, by omega, rfl, HG2.out.eq (by rw [HTK.out, List.append_assoc])⟩, by simp only [intOf, Int.toNat_natCast, Int.toNat_natCast_add_one]; omega⟩
    · have hkn : k = n := by omega
      subst hkn
      have HFIN : Hid (Gr w S g (l ++ listL full xs) wr) := Lib.hid (HG.out.eq (by rw [List.take_of_length_le (by omega), listL, hxn, List.append_assoc]))
      clear HG
      go_wp2
      go_ret
      exact ⟨rfl, HFIN.out⟩
/-- a promise: its fields, and where its certificates lie -/
structure Wpr where
  r : Int
  e : Int
  t : Nat
  A : Option Addr
  n : Nat
  d : Nat
  l : List Wce
  b : Int
  m : Int
def Wpr.cells (x : Wpr) : List Value := [.int .i64 x.r, .int .i64 x.e, .int .u64 (x.t : Int), .slice x.A x.n x.d, .int .i64 x.b, .int .i64 x.m]
def Wpr.val (x : Wpr) : Value := .agg x.cells.toArray
/-- it lies in w, apart from S -/
structure Wpr.Ok (w : World) (S : List Nat) (x : Wpr) : Prop where
  r : i64In x.r
  e : i64In x.e
  t : x.t < 18446744073709551616
  l : Lst 38 Wce.cells (fun w v => v.Ok w S) w x.A x.n x.l
  n : x.n ≤ 3
  ap : 0 < x.n → ∀ a, x.A = some a → ¬ a.block ∈ S
  b : i64In x.b
  m : i64In x.m
theorem Wpr.one (x : Wpr) : ∀ v ∈ x.cells, v.oneCell' = true := by
  intro v hv
  simp only [Wpr.cells, List.mem_cons, List.not_mem_nil, or_false] at hv
  rcases hv with rfl | rfl | rfl | rfl | rfl | rfl <;> rfl
theorem Wpr.Ok.keep {w W : World} {S S' : List Nat} {x : Wpr} (h : x.Ok w S) (hf : Fr S w W) (hs : ∀ k ∈ S', k < w.heap.size → k ∈ S) : x.Ok W S' :=
  ⟨h.r, h.e, h.t, h.l.keep' hf h.ap (fun _ _ h => h.keep hf hs), h.n, fun hn a ha hin => h.ap hn a ha (hs _ hin (h.l.lt hn (by decide) (fun v hv => Wce.len (h.l.2.1 v hv).2.k.h) a ha)), h.b, h.m⟩
def Wpr.bare (x : Wpr) : List UInt8 := encI x.r ++ encI x.e ++ enc x.t ++ listL Wce.full x.l
def Wpr.full (x : Wpr) : List UInt8 := x.bare ++ sgL x.b x.m
theorem Wpr.bare_len {w : World} {S : List Nat} {x : Wpr} (hx : x.Ok w S) : x.bare.length ≤ 2200 := by
  have b0 := encI_len x.r hx.r.2
  have b1 := encI_len x.e hx.e.2
  have b2 := enc_ten hx.t
  have b3 := encI_len (x.l.length : Int) (by have := hx.n; have := hx.l.1; omega)
  have b4 : (x.l.flatMap Wce.full).length ≤ 3 * 700 := flat_len (fun v hv => Wce.full_len (hx.l.2.1 v hv).2) (by have := hx.n; have := hx.l.1; omega)
  simp only [Wpr.bare, listL, List.length_append]
  omega
theorem Wpr.full_len {w : World} {S : List Nat} {x : Wpr} (hx : x.Ok w S) : x.full.length ≤ 2300 := by
  have b0 := Wpr.bare_len hx
  have b1 := encI_len x.b hx.b.2
  have b2 := encI_len x.m hx.m.2
  simp only [Wpr.full, sgL, List.length_append]
  omega
set_option maxHeartbeats 1000000 in
theorem promiseFields_any (x : Wpr) (w : World) (S : List Nat) (g : Nat) (l : List UInt8) (hw : Wr w S g l) (hl : l.length + 6000 ≤ 1073741000) (hx : x.Ok w S) :
    Calls Try.prog 76 #[.pointer (some ⟨g, 0, none⟩), x.val] w fun e w' => e = .returned (.pointer (some ⟨g, 0, none⟩)) ∧ Gr w S g (l ++ x.bare) w' := by
  obtain ⟨wa, hwa⟩ : ∃ wa, wa = w.alloc (Obj.cells x.cells.toArray 36) := ⟨_, rfl⟩
  have hf0 : Fr [] w wa := by rw [hwa]; exact (Fr.refl [] w).alloc _
  have hb0 : Blk wa w.heap.size 36 x.cells.toArray := by rw [hwa]; exact Blk.new _ _ _
  have HNS : Hid (¬ w.heap.size ∈ S) := Lib.hid (fun h => by have := hw.lt _ h; omega)
  have HG0 := Lib.hid (Gr.begin hw hf0)
  have HC0 : Hid (wa.cell? ⟨w.heap.size, 0 + 0, none⟩ = some (.int .i64 x.r)) := Lib.hid (hb0.range (cs := x.cells) 0 _ rfl)
  have HC1 : Hid (wa.cell? ⟨w.heap.size, 0 + 1, none⟩ = some (.int .i64 x.e)) := Lib.hid (hb0.range (cs := x.cells) 1 _ rfl)
  have HC2 : Hid (wa.cell? ⟨w.heap.size, 0 + 2, none⟩ = some (.int .u64 (x.t : Int))) := Lib.hid (hb0.range (cs := x.cells) 2 _ rfl)
  have HC3 : Hid (wa.cell? ⟨w.heap.size, 0 + 3, none⟩ = some (.slice x.A x.n x.d)) := Lib.hid (hb0.range (cs := x.cells) 3 _ rfl)
  have HC4 : Hid (wa.cell? ⟨w.heap.size, 0 + 4, none⟩ = some (.int .i64 x.b)) := Lib.hid (hb0.range (cs := x.cells) 4 _ rfl)
  have HC5 : Hid (wa.cell? ⟨w.heap.size, 0 + 5, none⟩ = some (.int .i64 x.m)) := Lib.hid (hb0.range (cs := x.cells) 5 _ rfl)
  have HF0 := Lib.hid hf0
  have HWA := Lib.hid hwa
  have HL := Lib.hid hl
  have HX := Lib.hid hx
  clear hwa hf0 hb0 hl hw hx
  unfold Wpr.val
  generalize hC : x.cells = C at *
  have HRC := Lib.hid hC
  clear hC
  go_enter Try.func76, Try.ntmps76
  go_wp2
  rw [← HWA.out]
  refine wp_region_held_drew (S := Fr S wa) (by kernel_rfl) (Fr.drew (Fr.refl _ wa)) (fun hHeld => ?_)
  refine run_at (i := 0) (v := ?_) rfl (by kernel_rfl) (by rfl) (fun _ _ _ h => h) hHeld (fun w1 hw1 => ?_) ?_
  rotate_left 1
  · skip
    go_simp
    (try (first | with_reducible rfl | (apply And.intro <;> rfl)))
  simp only [Act.put, List.setIfInBounds_toArray, List.set_cons_zero, List.set_cons_succ]
  refine run_at (i := 1) (v := ?_) rfl (by kernel_rfl) (by rfl) (fun _ _ _ h => h) hHeld (fun w1 hw1 => ?_) ?_
  rotate_left 1
  · skip
    go_simp
    (try (first | with_reducible rfl | (apply And.intro <;> rfl)))
  simp only [Act.put, List.setIfInBounds_toArray, List.set_cons_zero, List.set_cons_succ]
  refine run_at (i := 2) (v := ?_) rfl (by kernel_rfl) (by rfl) (fun _ _ _ h => h) hHeld (fun w1 hw1 => ?_) ?_
  rotate_left 1
  · skip
    have hcw0 := hw1.cell (HC0.out) (by first | (simp; done) | exact HNS.out | exact HNW.out | (intro hm; have hlt := HSB.out _ hm; (try dsimp only at hlt); omega))
    go_simp
    (try (first | with_reducible rfl | (apply And.intro <;> rfl)))
  simp only [Act.put, List.setIfInBounds_toArray, List.set_cons_zero, List.set_cons_succ]
  refine run_at (i := 4) (v := ?_) rfl (by kernel_rfl) (by rfl) (fun _ _ _ h => h) hHeld (fun w1 hw1 => ?_) ?_
  rotate_left 1
  · skip
    go_simp
    (try (first | with_reducible rfl | (apply And.intro <;> rfl)))
  simp only [Act.put, List.setIfInBounds_toArray, List.set_cons_zero, List.set_cons_succ]
  refine run_at (i := 5) (v := ?_) rfl (by kernel_rfl) (by rfl) (fun _ _ _ h => h) hHeld (fun w1 hw1 => ?_) ?_
  rotate_left 1
  · skip
    have hcw0 := hw1.cell (HC1.out) (by first | (simp; done) | exact HNS.out | exact HNW.out | (intro hm; have hlt := HSB.out _ hm; (try dsimp only at hlt); omega))
    go_simp
    (try (first | with_reducible rfl | (apply And.intro <;> rfl)))
  simp only [Act.put, List.setIfInBounds_toArray, List.set_cons_zero, List.set_cons_succ]
  refine run_at (i := 7) (v := ?_) rfl (by kernel_rfl) (by rfl) (fun _ _ _ h => h) hHeld (fun w1 hw1 => ?_) ?_
  rotate_left 1
  · skip
    go_simp
    (try (first | with_reducible rfl | (apply And.intro <;> rfl)))
  simp only [Act.put, List.setIfInBounds_toArray, List.set_cons_zero, List.set_cons_succ]
  refine run_at (i := 8) (v := ?_) rfl (by kernel_rfl) (by rfl) (fun _ _ _ h => h) hHeld (fun w1 hw1 => ?_) ?_
  rotate_left 1
  · skip
    have hcw0 := hw1.cell (HC2.out) (by first | (simp; done) | exact HNS.out | exact HNW.out | (intro hm; have hlt := HSB.out _ hm; (try dsimp only at hlt); omega))
    go_simp
    (try (first | with_reducible rfl | (apply And.intro <;> rfl)))
  simp only [Act.put, List.setIfInBounds_toArray, List.set_cons_zero, List.set_cons_succ]
  refine run_at (i := 10) (v := ?_) rfl (by kernel_rfl) (by rfl) (fun _ _ _ h => h) hHeld (fun w1 hw1 => ?_) ?_
  rotate_left 1
  · skip
    go_simp
    (try (first | with_reducible rfl | (apply And.intro <;> rfl)))
  simp only [Act.put, List.setIfInBounds_toArray, List.set_cons_zero, List.set_cons_succ]
  refine run_at (i := 11) (v := ?_) rfl (by kernel_rfl) (by rfl) (fun _ _ _ h => h) hHeld (fun w1 hw1 => ?_) ?_
  rotate_left 1
  · skip
    have hcw0 := hw1.cell (HC3.out) (by first | (simp; done) | exact HNS.out | exact HNW.out | (intro hm; have hlt := HSB.out _ hm; (try dsimp only at hlt); omega))
    go_simp
    (try (first | with_reducible rfl | (apply And.intro <;> rfl)))
  simp only [Act.put, List.setIfInBounds_toArray, List.set_cons_zero, List.set_cons_succ]
  refine call_at (i := 3) (f := ?_) (args := ?_) rfl (by kernel_rfl) (by rfl) ?_ ?_
  rotate_left 2
  · go_simp
    (try (first | with_reducible rfl | (apply And.intro <;> rfl)))
  refine (HG0.out.call fun S1 k1 => int_any x.r HX.out.r.1 HX.out.r.2 _ S1 g _ k1 (by have h0 := HL.out; (try simp only [List.length_append, sgL, nmL] at *); omega)).mono ?_
  rintro e w1 ⟨rfl, hg1⟩
  have HG1 := Lib.hid hg1
  refine ⟨_, rfl, hg1.fr, fun hHeld => ?_⟩
  clear hg1 HG0
  simp only [Act.put, List.setIfInBounds_toArray, List.set_cons_zero, List.set_cons_succ]
  refine call_at (i := 6) (f := ?_) (args := ?_) rfl (by kernel_rfl) (by rfl) ?_ ?_
  rotate_left 2
  · go_simp
    (try (first | with_reducible rfl | (apply And.intro <;> rfl)))
  refine (HG1.out.call fun S1 k1 => int_any x.e HX.out.e.1 HX.out.e.2 _ S1 g _ k1 (by have h0 := HL.out; have b0 := encI_len x.r HX.out.r.2; (try simp only [List.length_append, sgL, nmL] at *); omega)).mono ?_
  rintro e w2 ⟨rfl, hg2⟩
  have HG2 := Lib.hid hg2
  refine ⟨_, rfl, hg2.fr, fun hHeld => ?_⟩
  clear hg2 HG1
  simp only [Act.put, List.setIfInBounds_toArray, List.set_cons_zero, List.set_cons_succ]
  refine call_at (i := 9) (f := ?_) (args := ?_) rfl (by kernel_rfl) (by rfl) ?_ ?_
  rotate_left 2
  · go_simp
    (try (first | with_reducible rfl | (apply And.intro <;> rfl)))
  refine (HG2.out.call fun S1 k1 => num_any x.t HX.out.t _ S1 g _ k1 (by have h0 := HL.out; have b0 := encI_len x.r HX.out.r.2; have b1 := encI_len x.e HX.out.e.2; (try simp only [List.length_append, sgL, nmL] at *); omega)).mono ?_
  rintro e w3 ⟨rfl, hg3⟩
  have HG3 := Lib.hid hg3
  refine ⟨_, rfl, hg3.fr, fun hHeld => ?_⟩
  clear hg3 HG2
  simp only [Act.put, List.setIfInBounds_toArray, List.set_cons_zero, List.set_cons_succ]
  refine call_at (i := 12) (f := ?_) (args := ?_) rfl (by kernel_rfl) (by rfl) ?_ ?_
  rotate_left 2
  · go_simp
    (try (first | with_reducible rfl | (apply And.intro <;> rfl)))
  refine (HG3.out.calls fun S1 k1 f1 s1 => putCerts_any Wce.cells (fun w S v => v.Ok w S) Wce.full 1400 Wce.one rfl (fun _ _ v h => Nat.le_trans (Wce.full_len h) (by decide)) (fun v W S g l h hw hl => putCert_any v W S g l hw hl h) _ S1 g _ k1 x.A x.n x.d x.l (HX.out.l.keep' ((HF0.out.mono (T := S) (by simp)).trans f1 (fun k hk _ => hk)) HX.out.ap (fun _ _ h => h.keep ((HF0.out.mono (T := S) (by simp)).trans f1 (fun k hk _ => hk)) (fun k hk hl => s1 k hk (Nat.lt_of_lt_of_le hl HF0.out.size)))) (by have := HX.out.n; omega) (fun hn a ha hin => HX.out.ap hn a ha (s1 _ hin (Nat.lt_of_lt_of_le (HX.out.l.lt hn (by decide) (fun v hv => Wce.len (HX.out.l.2.1 v hv).2.k.h) a ha) HF0.out.size))) (fun _ _ hf hs _ _ h => h.keep hf hs) (by have h0 := HL.out; have b0 := encI_len x.r HX.out.r.2; have b1 := encI_len x.e HX.out.e.2; have b2 := enc_ten HX.out.t; have := HX.out.n; simp only [List.length_append]; omega)).mono ?_
  rintro e w4 ⟨rfl, hg4⟩
  have HG4 := Lib.hid hg4
  refine ⟨_, rfl, hg4.fr, fun hHeld => ?_⟩
  clear hg4 HG3
  simp only [Act.put, List.setIfInBounds_toArray, List.set_cons_zero, List.set_cons_succ]
  refine run_at (i := 13) (v := ?_) rfl (by kernel_rfl) (by rfl) (fun _ _ _ h => h) hHeld (fun w1 hw1 => ?_) ?_
  rotate_left 1
  · skip
    go_simp
    (try (first | with_reducible rfl | (apply And.intro <;> rfl)))
  simp only [Act.put, List.setIfInBounds_toArray, List.set_cons_zero, List.set_cons_succ]
  refine wpAnyH_done (by kernel_rfl) ?_ _
  go_wp2
  go_ret
  exact ⟨rfl, (HG4.out.from_ HF0.out).eq (by simp [Wpr.bare, List.append_assoc])⟩
theorem promiseFields_any' (x : Wpr) (C : List Value) (hC : x.cells = C) (w : World) (S : List Nat) (g : Nat) (l : List UInt8) (hw : Wr w S g l) (hl : l.length + 6000 ≤ 1073741000) (hx : x.Ok w S) :
    Calls Try.prog 76 #[.pointer (some ⟨g, 0, none⟩), .agg C.toArray] w fun e w' => e = .returned (.pointer (some ⟨g, 0, none⟩)) ∧ Gr w S g (l ++ x.bare) w' := by
  subst hC
  exact promiseFields_any x w S g l hw hl hx
theorem Wpr.len (x : Wpr) : x.cells.length = 6 := rfl
set_option maxHeartbeats 1000000 in
theorem putPromise_any (x : Wpr) (w : World) (S : List Nat) (g : Nat) (l : List UInt8) (hw : Wr w S g l) (hl : l.length + 6200 ≤ 1073741000) (hx : x.Ok w S) :
    Calls Try.prog 45 #[.pointer (some ⟨g, 0, none⟩), x.val] w fun e w' => e = .returned (.pointer (some ⟨g, 0, none⟩)) ∧ Gr w S g (l ++ x.full) w' := by
  obtain ⟨wa, hwa⟩ : ∃ wa, wa = w.alloc (Obj.cells x.cells.toArray 36) := ⟨_, rfl⟩
  have hf0 : Fr [] w wa := by rw [hwa]; exact (Fr.refl [] w).alloc _
  have hb0 : Blk wa w.heap.size 36 x.cells.toArray := by rw [hwa]; exact Blk.new _ _ _
  have HNS : Hid (¬ w.heap.size ∈ S) := Lib.hid (fun h => by have := hw.lt _ h; omega)
  have HG0 := Lib.hid (Gr.begin hw hf0)
  have HALL := Lib.hid hb0.range
  have HLN : Hid (x.cells.length = 6) := Lib.hid (Wpr.len x)
  have HSG : Hid (wa.rangeAt w.heap.size (0 + 4) [.int .i64 x.b, .int .i64 x.m]) := Lib.hid (rangeAt_sub (xs := [.int .i64 x.r, .int .i64 x.e, .int .u64 (x.t : Int), .slice x.A x.n x.d]) (ys := [.int .i64 x.b, .int .i64 x.m]) (zs := []) hb0.range)
  have HXA : Hid (x.Ok wa S) := Lib.hid (hx.keep (hf0.mono (T := S) (by simp)) (fun k hk _ => hk))
  have HF0 := Lib.hid hf0
  have HWA := Lib.hid hwa
  have HL := Lib.hid hl
  have HX := Lib.hid hx
  clear hwa hf0 hb0 hl hw hx
  unfold Wpr.val
  generalize hC : x.cells = C at *
  have HRC := Lib.hid hC
  clear hC
  go_enter Try.func45, Try.ntmps45
  go_wp2
  rw [← HWA.out]
  refine wp_region_held_drew (S := Fr S wa) (by kernel_rfl) (Fr.drew (Fr.refl _ wa)) (fun hHeld => ?_)
  refine run_at (i := 0) (v := ?_) rfl (by kernel_rfl) (by rfl) (fun _ _ _ h => h) hHeld (fun w1 hw1 => ?_) ?_
  rotate_left 1
  · skip
    go_simp
    (try (first | with_reducible rfl | (apply And.intro <;> rfl)))
  simp only [Act.put, List.setIfInBounds_toArray, List.set_cons_zero, List.set_cons_succ]
  refine row_at (i := 1) rfl (by kernel_rfl) (by rfl) _ _ rfl _ _ rfl _ (fun w1 hw1 => hw1.range (HALL.out) (by first | (simp; done) | exact HNS.out | exact HNW.out | (intro hm; have hlt := HSB.out _ hm; (try dsimp only at hlt); omega))) (row_prm.of HLN.out) (fun _ _ _ h => h) hHeld ?_
  simp only [Act.put, List.setIfInBounds_toArray, List.set_cons_zero, List.set_cons_succ]
  refine run_at (i := 3) (v := ?_) rfl (by kernel_rfl) (by rfl) (fun _ _ _ h => h) hHeld (fun w1 hw1 => ?_) ?_
  rotate_left 1
  · skip
    go_simp
    (try (first | with_reducible rfl | (apply And.intro <;> rfl)))
  simp only [Act.put, List.setIfInBounds_toArray, List.set_cons_zero, List.set_cons_succ]
  refine row_at (i := 4) rfl (by kernel_rfl) (by rfl) _ _ rfl _ _ rfl _ (fun w1 hw1 => hw1.range (HSG.out) (by first | (simp; done) | exact HNS.out | exact HNW.out | (intro hm; have hlt := HSB.out _ hm; (try dsimp only at hlt); omega))) (row_sg) (fun _ _ _ h => h) hHeld ?_
  simp only [Act.put, List.setIfInBounds_toArray, List.set_cons_zero, List.set_cons_succ]
  refine call_at (i := 2) (f := ?_) (args := ?_) rfl (by kernel_rfl) (by rfl) ?_ ?_
  rotate_left 2
  · go_simp
    (try (first | with_reducible rfl | (apply And.intro <;> rfl)))
  refine (HG0.out.calls fun S1 k1 f1 s1 => promiseFields_any' x C HRC.out _ S1 g _ k1 (by have h0 := HL.out; (try simp only [List.length_append, sgL, nmL] at *); omega) (HXA.out.keep f1 s1)).mono ?_
  rintro e w1 ⟨rfl, hg1⟩
  have HG1 := Lib.hid hg1
  refine ⟨_, rfl, hg1.fr, fun hHeld => ?_⟩
  clear hg1 HG0
  simp only [Act.put, List.setIfInBounds_toArray, List.set_cons_zero, List.set_cons_succ]
  refine call_at (i := 5) (f := ?_) (args := ?_) rfl (by kernel_rfl) (by rfl) ?_ ?_
  rotate_left 2
  · go_simp
    (try (first | with_reducible rfl | (apply And.intro <;> rfl)))
  refine (HG1.out.call fun S1 k1 => putSig_any x.b x.m HX.out.b HX.out.m _ S1 g _ k1 (by have h0 := HL.out; have b0 := Wpr.bare_len HX.out; (try simp only [List.length_append, sgL, nmL] at *); omega)).mono ?_
  rintro e w2 ⟨rfl, hg2⟩
  have HG2 := Lib.hid hg2
  refine ⟨_, rfl, hg2.fr, fun hHeld => ?_⟩
  clear hg2 HG1
  simp only [Act.put, List.setIfInBounds_toArray, List.set_cons_zero, List.set_cons_succ]
  refine run_at (i := 6) (v := ?_) rfl (by kernel_rfl) (by rfl) (fun _ _ _ h => h) hHeld (fun w1 hw1 => ?_) ?_
  rotate_left 1
  · skip
    go_simp
    (try (first | with_reducible rfl | (apply And.intro <;> rfl)))
  simp only [Act.put, List.setIfInBounds_toArray, List.set_cons_zero, List.set_cons_succ]
  refine wpAnyH_done (by kernel_rfl) ?_ _
  go_wp2
  go_ret
  exact ⟨rfl, (HG2.out.from_ HF0.out).eq (by simp [Wpr.full, List.append_assoc])⟩
theorem putPromise_any' (x : Wpr) (C : List Value) (hC : x.cells = C) (w : World) (S : List Nat) (g : Nat) (l : List UInt8) (hw : Wr w S g l) (hl : l.length + 6200 ≤ 1073741000) (hx : x.Ok w S) :
    Calls Try.prog 45 #[.pointer (some ⟨g, 0, none⟩), .agg C.toArray] w fun e w' => e = .returned (.pointer (some ⟨g, 0, none⟩)) ∧ Gr w S g (l ++ x.full) w' := by
  subst hC
  exact putPromise_any x w S g l hw hl hx
end Go.Proofs.Ytbkhkhippcjdgaa
