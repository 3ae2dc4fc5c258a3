/- Texts that the proof stands on: Package part: openings, tombstones, batches as values; what their writers write. | Package part: batches as values; what their writer writes. | Package wire: a batch's hash; what is signed of a promise, of a proposal. | Copies of lists of structs: gavelkeep's Copy and Cut of stamps. | The statements' own Cert and Promise: small enough to be played. | Commitments, stamps, denials, certificates, promises that come in: what their reading says of cells. | gavellaw05's Batch: a batch that is small enough to be played. (written by gen_cutb.py) | Package part: its readers of lists, of certificates, promises, openings, tombstones, batches. (written by gen_rp2.py) | Package part: its readers of a certificate, a promise, an opening, a tombstone, a batch. (written by gen_rp3.py) -/
import Derived.Test.YtniaacjfkaakjaaKE1
set_option maxRecDepth 100000

namespace Go.Proofs.Ytniaacjfkaakjaa
open Go.RowKit
set_option maxRecDepth 100000

set_option maxHeartbeats 2000000 in
theorem putDenies_any {α : Type} (cells : α → List Value) (ok : World → List Nat → α → Prop) (full : α → List UInt8) (N : Nat) (hone : ∀ v, ∀ u ∈ cells v, u.oneCell' = true) (hsz : (Try.prog.info? 56).map (·.size) = some 4)
    (hfull : ∀ W S v, ok W S v → (full v).length ≤ N)
    (hput : ∀ (v : α) (W : World) (S : List Nat) (g : Nat) (l : List UInt8), ok W S v → Wr W S g l → l.length + N ≤ 1073741000 → Calls Try.prog 37 #[.pointer (some ⟨g, 0, none⟩), .agg (cells v).toArray] W fun e w' => e = .returned (.pointer (some ⟨g, 0, none⟩)) ∧ Gr W S g (l ++ full v) w')
    (w : World) (S : List Nat) (g : Nat) (l : List UInt8) (hw : Wr w S g l) (A : Option Addr) (n c : Nat) (xs : List α) (hx : Lst 4 cells (fun w v => ok w S v) w A n xs) (hn : n ≤ 1000) (hA : 0 < n → ∀ a, A = some a → ¬ a.block ∈ S)
    (hkeep : ∀ W S', Fr S w W → (∀ x ∈ S', x < w.heap.size → x ∈ S) → ∀ v ∈ xs, ok w S v → ok W S' v) (hl : l.length + 20 + (n + 1) * N ≤ 1073741000) :
    Calls Try.prog 92 #[.pointer (some ⟨g, 0, none⟩), fnV 37, .slice A n c] w fun e w' => e = .returned (.pointer (some ⟨g, 0, none⟩)) ∧ Gr w S g (l ++ listL full xs) w' := by
  have HG0 := Lib.hid (Gr.refl hw)
  have HX := Lib.hid hx
  have HA := Lib.hid hA
  have HL := Lib.hid hl
  have HKP := Lib.hid hkeep
  have HSL := Lib.hid hw.lt
  have hxn := hx.1
  clear hw hx hA hl hkeep
  unfold fnV
  go_enter Try.func92, Try.ntmps92
  go_wp2_with fail
  refine (HG0.out.call fun S1 k1 => int_any (n : Int) (by omega) (by omega) _ S1 g _ k1 (by have := HL.out; omega)).mono ?_
  rintro e w1 ⟨rfl, hg1⟩
  have HG1 := Lib.hid hg1
  clear hg1 HG0
  go_wp2_with fail
  go_loopw [15] (fun i wr => ∃ k : Nat, k ≤ n ∧ i = .int .i64 k ∧ Gr w S g (l ++ encI (n : Int) ++ (xs.take k).flatMap full) wr) (fun i _ => n - (intOf i).toNat)
  case atStart => exact ⟨0, by omega, rfl, by simpa using HG1.out⟩
  case round =>
    obtain ⟨k, hk, rfl, hg⟩ := hrel
    have HG := Lib.hid hg
    clear hg
    by_cases hlt : k < n
    · obtain ⟨ad, v, rfl, hv, hcl, hok, hc⟩ := HX.out.at hlt
      have HV := Lib.hid hv
      have HCL := Lib.hid hcl
      have HOK := Lib.hid hok
      have HMEM := Lib.hid (List.mem_of_getElem? hv)
      have HC := Lib.hid (fun j x hj => HG.out.fr.cell (hc j x hj) (by rw [add_block, add_block]; exact HA.out (by omega) ad rfl))
      have HONE := Lib.hid (hone v)
      have HPUT := Lib.hid (hput v)
      have hk0 : (0 : Int) ≤ k := by omega
      have hlen : ((xs.take k).flatMap full).length ≤ k * N := flat_len (fun v hv => hfull w S v (HX.out.2.1 v (List.mem_of_mem_take hv)).2) (by rw [List.length_take]; omega)
      have hkn2 : k * N + N ≤ (n + 1) * N := by rw [← Nat.succ_mul]; exact Nat.mul_le_mul_right N (by omega)
      have HLEN : Hid ((l ++ encI (n : Int) ++ (xs.take k).flatMap full).length + N ≤ 1073741000) := Lib.hid (by have := HL.out; have := encI_len (n : Int) (by omega); simp only [List.length_append]; omega)
      have HTK : Hid ((xs.take (k + 1)).flatMap full = (xs.take k).flatMap full ++ full v) := Lib.hid (by rw [List.take_add_one, hv]; simp)
      have HFV := Lib.hid (rfl : cells v = cells v)
      clear hv hcl hok hc hlen hkn2
      generalize hcv : cells v = C at *
      go_wp2_with (first
        | (refine wpList_cells rfl 56 _ rfl _ rfl C HC.out (row_deny.of HCL.out) ?_)
        | (refine wpList_store_box rfl 56 _ _ rfl _ 56 C rfl rfl (by rw [hsz, HCL.out]) (by rw [HCL.out]; rfl) HONE.out ?_
           intro wb hbb hfb
           have HBB := Lib.hid hbb
           have HFB := Lib.hid hfb
           clear hbb hfb)
        | (refine wpList_row rfl 56 _ rfl _ _ rfl _ HBB.out.range (row_deny.of HCL.out) ?_))
      have HGB := Lib.hid (HG.out.trans (fun S1 k => ⟨S1, k.keep HFB.out (by simp), HFB.out.mono (by simp), fun x hx _ => hx⟩))
      refine (HGB.out.calls fun S1 k1 f1 s1 => HPUT.out _ S1 g _ (HKP.out wb S1 f1 s1 v HMEM.out HOK.out) k1 HLEN.out).mono ?_
      rintro e w2 ⟨rfl, hg2⟩
      have HG2 := Lib.hid hg2
      clear hg2
      go_wp2
      exact ⟨⟨k + 1, by omega, rfl, HG2.out.eq (by rw [HTK.out, List.append_assoc])⟩, by simp only [intOf, Int.toNat_natCast, Int.toNat_natCast_add_one]; omega⟩
    · have hkn : k = n := by omega
      subst hkn
      have HFIN : Hid (Gr w S g (l ++ listL full xs) wr) := Lib.hid (HG.out.eq (by rw [List.take_of_length_le (by omega), listL, hxn, List.append_assoc]))
      clear HG
      go_wp2
      go_ret
      exact ⟨rfl, HFIN.out⟩
theorem row_opn : RowTy Try.prog 54 34 := ⟨by kernel_rfl, by kernel_rfl⟩
theorem row_tmb : RowTy Try.prog 135 2 := ⟨by kernel_rfl, by kernel_rfl⟩
theorem row_bat : RowTy Try.prog 45 5 := ⟨by kernel_rfl, by kernel_rfl⟩
/-- an opening: its index, where its payload lies, its nonce -/
structure Wop where
  i : Int
  A : Option Addr
  n : Nat
  d : Nat
  p : List UInt8
  h : List UInt8
def Wop.cells (x : Wop) : List Value := [.int .i64 x.i, .slice x.A x.n x.d] ++ (x.h.map by8 ++ [])
def Wop.val (x : Wop) : Value := .agg x.cells.toArray
structure Wop.Ok (w : World) (S : List Nat) (x : Wop) : Prop where
  i : i64In x.i
  p : By w x.A x.n x.p
  n : x.n ≤ 260
  ap : ∀ k ∈ bk x.A, ¬ k ∈ S
  lt : ∀ k ∈ bk x.A, k < w.heap.size
  h : x.h.length = 32
  d : x.n ≤ x.d
theorem Wop.len {x : Wop} (h : x.h.length = 32) : x.cells.length = 34 := by simp [Wop.cells, h]
theorem Wop.one (x : Wop) : ∀ v ∈ x.cells, v.oneCell' = true := by
  intro v hv
  simp only [Wop.cells, List.mem_cons, List.mem_append, List.not_mem_nil, or_false] at hv
  rcases hv with (rfl | rfl) | hv
  · rfl
  · rfl
  · exact by8_one x.h v hv
theorem Wop.Ok.keep {w W : World} {S S' : List Nat} {x : Wop} (h : x.Ok w S) (hf : Fr S w W) (hs : ∀ k ∈ S', k < w.heap.size → k ∈ S) : x.Ok W S' :=
  ⟨h.i, h.p.keep hf (fun a ha => h.ap _ (by rw [ha]; simp [bk])), h.n, fun k hk hin => h.ap k hk (hs k hin (h.lt k hk)), fun k hk => Nat.lt_of_lt_of_le (h.lt k hk) hf.size, h.h, h.d⟩
def Wop.full (x : Wop) : List UInt8 := encI x.i ++ (enc x.n ++ x.p) ++ x.h
theorem Wop.full_len {w : World} {S : List Nat} {x : Wop} (hx : x.Ok w S) : x.full.length ≤ 320 := by
  have b0 := encI_len x.i hx.i.2
  have b1 : (enc x.n).length ≤ 10 := enc_ten (by have := hx.n; omega)
  have b2 := hx.p.1
  have b3 := hx.n
  have b4 := hx.h
  simp only [Wop.full, List.length_append]
  omega
/-- a tombstone: its index, where its denials lie -/
structure Wtb where
  i : Int
  A : Option Addr
  n : Nat
  d : Nat
  l : List Wdn
def Wtb.cells (x : Wtb) : List Value := [.int .i64 x.i, .slice x.A x.n x.d]
def Wtb.val (x : Wtb) : Value := .agg x.cells.toArray
structure Wtb.Ok (w : World) (S : List Nat) (x : Wtb) : Prop where
  i : i64In x.i
  l : Lst 4 Wdn.cells (fun _ v => v.Ok) w x.A x.n x.l
  n : x.n ≤ 5
  ap : 0 < x.n → ∀ a, x.A = some a → ¬ a.block ∈ S
theorem Wtb.one (x : Wtb) : ∀ v ∈ x.cells, v.oneCell' = true := by
  intro v hv
  simp only [Wtb.cells, List.mem_cons, List.not_mem_nil, or_false] at hv
  rcases hv with rfl | rfl <;> rfl
theorem Wtb.Ok.keep {w W : World} {S S' : List Nat} {x : Wtb} (h : x.Ok w S) (hf : Fr S w W) (hs : ∀ k ∈ S', k < w.heap.size → k ∈ S) : x.Ok W S' :=
  ⟨h.i, h.l.keep' hf h.ap (fun _ _ h => h), h.n, fun hn a ha hin => h.ap hn a ha (hs _ hin (h.l.lt hn (by decide) (fun v hv => Wdn.len v) a ha))⟩
def Wtb.full (x : Wtb) : List UInt8 := encI x.i ++ listL Wdn.full x.l
theorem Wdn.full_len {x : Wdn} (hx : x.Ok) : x.full.length ≤ 100 := by
  have b0 := Wdn.bare_len hx
  have b1 := encI_len x.b hx.b.2
  have b2 := encI_len x.m hx.m.2
  simp only [Wdn.full, sgL, List.length_append]
  omega
theorem Wtb.full_len {w : World} {S : List Nat} {x : Wtb} (hx : x.Ok w S) : x.full.length ≤ 520 := by
  have b0 := encI_len x.i hx.i.2
  have b1 := encI_len (x.l.length : Int) (by have := hx.n; have := hx.l.1; omega)
  have b2 : (x.l.flatMap Wdn.full).length ≤ 5 * 100 := flat_len (fun v hv => Wdn.full_len (hx.l.2.1 v hv).2) (by have := hx.n; have := hx.l.1; omega)
  simp only [Wtb.full, listL, List.length_append]
  omega
set_option maxHeartbeats 1000000 in
theorem putOpening_any (x : Wop) (w : World) (S : List Nat) (g : Nat) (l : List UInt8) (hw : Wr w S g l) (hl : l.length + 500 ≤ 1073741000) (hx : x.Ok w S) :
    Calls Try.prog 36 #[.pointer (some ⟨g, 0, none⟩), x.val] w fun e w' => e = .returned (.pointer (some ⟨g, 0, none⟩)) ∧ Gr w S g (l ++ x.full) w' := by
  obtain ⟨wa, hwa⟩ : ∃ wa, wa = w.alloc (Obj.cells x.cells.toArray 54) := ⟨_, rfl⟩
  have hf0 : Fr [] w wa := by rw [hwa]; exact (Fr.refl [] w).alloc _
  have hb0 : Blk wa w.heap.size 54 x.cells.toArray := by rw [hwa]; exact Blk.new _ _ _
  have HNS : Hid (¬ w.heap.size ∈ S) := Lib.hid (fun h => by have := hw.lt _ h; omega)
  have HG0 := Lib.hid (Gr.begin hw hf0)
  have HC0 : Hid (wa.cell? ⟨w.heap.size, 0 + 0, none⟩ = some (.int .i64 x.i)) := Lib.hid (hb0.range (cs := x.cells) 0 _ rfl)
  have HC1 : Hid (wa.cell? ⟨w.heap.size, 0 + 1, none⟩ = some (.slice x.A x.n x.d)) := Lib.hid (hb0.range (cs := x.cells) 1 _ rfl)
  have HNC : Hid (wa.rangeAt w.heap.size (0 + 2) (x.h.map by8)) := Lib.hid (rangeAt_sub (xs := [.int .i64 x.i, .slice x.A x.n x.d]) (ys := x.h.map by8) (zs := []) hb0.range)
  have HF0 := Lib.hid hf0
  have HWA := Lib.hid hwa
  have HL := Lib.hid hl
  have HX := Lib.hid hx
  clear hwa hf0 hb0 hl hw hx
  unfold Wop.val
  generalize hC : x.cells = C at *
  have HRC := Lib.hid hC
  clear hC
  go_enter Try.func36, Try.ntmps36
  go_wp2
  rw [← HWA.out]
  refine wp_region_held_drew (S := Fr S wa) (by kernel_rfl) (Fr.drew (Fr.refl _ wa)) (fun hHeld => ?_)
  refine run_at (i := 0) (v := ?_) rfl (by kernel_rfl) (by rfl) (fun _ _ _ h => h) hHeld (fun w1 hw1 => ?_) ?_
  rotate_left 1
  · skip
    go_simp
    (try (first | with_reducible rfl | (apply And.intro <;> rfl)))
  simp only [Act.put, List.setIfInBounds_toArray, List.set_cons_zero, List.set_cons_succ]
  refine run_at (i := 1) (v := ?_) rfl (by kernel_rfl) (by rfl) (fun _ _ _ h => h) hHeld (fun w1 hw1 => ?_) ?_
  rotate_left 1
  · skip
    go_simp
    (try (first | with_reducible rfl | (apply And.intro <;> rfl)))
  simp only [Act.put, List.setIfInBounds_toArray, List.set_cons_zero, List.set_cons_succ]
  refine run_at (i := 2) (v := ?_) rfl (by kernel_rfl) (by rfl) (fun _ _ _ h => h) hHeld (fun w1 hw1 => ?_) ?_
  rotate_left 1
  · skip
    have hcw0 := hw1.cell (HC0.out) (by first | (simp; done) | exact HNS.out | exact HNW.out | (intro hm; have hlt := HSB.out _ hm; (try dsimp only at hlt); omega))
    go_simp
    (try (first | with_reducible rfl | (apply And.intro <;> rfl)))
  simp only [Act.put, List.setIfInBounds_toArray, List.set_cons_zero, List.set_cons_succ]
  refine run_at (i := 4) (v := ?_) rfl (by kernel_rfl) (by rfl) (fun _ _ _ h => h) hHeld (fun w1 hw1 => ?_) ?_
  rotate_left 1
  · skip
    go_simp
    (try (first | with_reducible rfl | (apply And.intro <;> rfl)))
  simp only [Act.put, List.setIfInBounds_toArray, List.set_cons_zero, List.set_cons_succ]
  refine run_at (i := 5) (v := ?_) rfl (by kernel_rfl) (by rfl) (fun _ _ _ h => h) hHeld (fun w1 hw1 => ?_) ?_
  rotate_left 1
  · skip
    have hcw0 := hw1.cell (HC1.out) (by first | (simp; done) | exact HNS.out | exact HNW.out | (intro hm; have hlt := HSB.out _ hm; (try dsimp only at hlt); omega))
    go_simp
    (try (first | with_reducible rfl | (apply And.intro <;> rfl)))
  simp only [Act.put, List.setIfInBounds_toArray, List.set_cons_zero, List.set_cons_succ]
  refine run_at (i := 7) (v := ?_) rfl (by kernel_rfl) (by rfl) (fun _ _ _ h => h) hHeld (fun w1 hw1 => ?_) ?_
  rotate_left 1
  · skip
    go_simp
    (try (first | with_reducible rfl | (apply And.intro <;> rfl)))
  simp only [Act.put, List.setIfInBounds_toArray, List.set_cons_zero, List.set_cons_succ]
  refine row_at (i := 8) rfl (by kernel_rfl) (by rfl) _ _ rfl _ _ rfl _ (fun w1 hw1 => hw1.range (HNC.out) (by first | (simp; done) | exact HNS.out | exact HNW.out | (intro hm; have hlt := HSB.out _ hm; (try dsimp only at hlt); omega))) (row_hash.of (by rw [List.length_map]; exact HX.out.h)) (fun _ _ _ h => h) hHeld ?_
  simp only [Act.put, List.setIfInBounds_toArray, List.set_cons_zero, List.set_cons_succ]
  refine call_at (i := 3) (f := ?_) (args := ?_) rfl (by kernel_rfl) (by rfl) ?_ ?_
  rotate_left 2
  · go_simp
    (try (first | with_reducible rfl | (apply And.intro <;> rfl)))
  refine (HG0.out.call fun S1 k1 => int_any x.i HX.out.i.1 HX.out.i.2 _ S1 g _ k1 (by have h0 := HL.out; (try simp only [List.length_append, sgL, nmL] at *); omega)).mono ?_
  rintro e w1 ⟨rfl, hg1⟩
  have HG1 := Lib.hid hg1
  refine ⟨_, rfl, hg1.fr, fun hHeld => ?_⟩
  clear hg1 HG0
  simp only [Act.put, List.setIfInBounds_toArray, List.set_cons_zero, List.set_cons_succ]
  refine call_at (i := 6) (f := ?_) (args := ?_) rfl (by kernel_rfl) (by rfl) ?_ ?_
  rotate_left 2
  · go_simp
    (try (first | with_reducible rfl | (apply And.intro <;> rfl)))
  refine (HG1.out.calls fun S1 k1 f1 s1 => row_any x.A x.n x.d x.p _ (HX.out.keep ((HF0.out.mono (T := S) (by simp)).trans f1 (fun k hk _ => hk)) (fun k hk hl => s1 k hk (Nat.lt_of_lt_of_le hl HF0.out.size))).p (by have := HX.out.n; omega) S1 (HX.out.keep ((HF0.out.mono (T := S) (by simp)).trans f1 (fun k hk _ => hk)) (fun k hk hl => s1 k hk (Nat.lt_of_lt_of_le hl HF0.out.size))).ap g _ k1 (by have h0 := HL.out; have b0 := encI_len x.i HX.out.i.2; simp only [List.length_append]; omega)).mono ?_
  rintro e w2 ⟨rfl, hg2⟩
  have HG2 := Lib.hid hg2
  refine ⟨_, rfl, hg2.fr, fun hHeld => ?_⟩
  clear hg2 HG1
  simp only [Act.put, List.setIfInBounds_toArray, List.set_cons_zero, List.set_cons_succ]
  refine call_at (i := 9) (f := ?_) (args := ?_) rfl (by kernel_rfl) (by rfl) ?_ ?_
  rotate_left 2
  · go_simp
    (try (first | with_reducible rfl | (apply And.intro <;> rfl)))
  refine (HG2.out.call fun S1 k1 => hash_any x.h HX.out.h _ S1 g _ k1 (by have h0 := HL.out; have b0 := encI_len x.i HX.out.i.2; have b1 : (enc x.n).length ≤ 10 := enc_ten (by have := HX.out.n; omega); have b2 := HX.out.p.1; have b3 := HX.out.n; simp only [List.length_append]; omega)).mono ?_
  rintro e w3 ⟨rfl, hg3⟩
  have HG3 := Lib.hid hg3
  refine ⟨_, rfl, hg3.fr, fun hHeld => ?_⟩
  clear hg3 HG2
  simp only [Act.put, List.setIfInBounds_toArray, List.set_cons_zero, List.set_cons_succ]
  refine run_at (i := 10) (v := ?_) rfl (by kernel_rfl) (by rfl) (fun _ _ _ h => h) hHeld (fun w1 hw1 => ?_) ?_
  rotate_left 1
  · skip
    go_simp
    (try (first | with_reducible rfl | (apply And.intro <;> rfl)))
  simp only [Act.put, List.setIfInBounds_toArray, List.set_cons_zero, List.set_cons_succ]
  refine wpAnyH_done (by kernel_rfl) ?_ _
  go_wp2
  go_ret
  exact ⟨rfl, (HG3.out.from_ HF0.out).eq (by simp [Wop.full, List.append_assoc])⟩
set_option maxHeartbeats 1000000 in
theorem putTomb_any (x : Wtb) (w : World) (S : List Nat) (g : Nat) (l : List UInt8) (hw : Wr w S g l) (hl : l.length + 1500 ≤ 1073741000) (hx : x.Ok w S) :
    Calls Try.prog 86 #[.pointer (some ⟨g, 0, none⟩), x.val] w fun e w' => e = .returned (.pointer (some ⟨g, 0, none⟩)) ∧ Gr w S g (l ++ x.full) w' := by
  obtain ⟨wa, hwa⟩ : ∃ wa, wa = w.alloc (Obj.cells x.cells.toArray 135) := ⟨_, rfl⟩
  have hf0 : Fr [] w wa := by rw [hwa]; exact (Fr.refl [] w).alloc _
  have hb0 : Blk wa w.heap.size 135 x.cells.toArray := by rw [hwa]; exact Blk.new _ _ _
  have HNS : Hid (¬ w.heap.size ∈ S) := Lib.hid (fun h => by have := hw.lt _ h; omega)
  have HG0 := Lib.hid (Gr.begin hw hf0)
  have HC0 : Hid (wa.cell? ⟨w.heap.size, 0 + 0, none⟩ = some (.int .i64 x.i)) := Lib.hid (hb0.range (cs := x.cells) 0 _ rfl)
  have HC1 : Hid (wa.cell? ⟨w.heap.size, 0 + 1, none⟩ = some (.slice x.A x.n x.d)) := Lib.hid (hb0.range (cs := x.cells) 1 _ rfl)
  have HF0 := Lib.hid hf0
  have HWA := Lib.hid hwa
  have HL := Lib.hid hl
  have HX := Lib.hid hx
  clear hwa hf0 hb0 hl hw hx
  unfold Wtb.val
  generalize hC : x.cells = C at *
  have HRC := Lib.hid hC
  clear hC
  go_enter Try.func86, Try.ntmps86
  go_wp2
  rw [← HWA.out]
  refine wp_region_held_drew (S := Fr S wa) (by kernel_rfl) (Fr.drew (Fr.refl _ wa)) (fun hHeld => ?_)
  refine run_at (i := 0) (v := ?_) rfl (by kernel_rfl) (by rfl) (fun _ _ _ h => h) hHeld (fun w1 hw1 => ?_) ?_
  rotate_left 1
  · skip
    go_simp
    (try (first | with_reducible rfl | (apply And.intro <;> rfl)))
  simp only [Act.put, List.setIfInBounds_toArray, List.set_cons_zero, List.set_cons_succ]
  refine run_at (i := 1) (v := ?_) rfl (by kernel_rfl) (by rfl) (fun _ _ _ h => h) hHeld (fun w1 hw1 => ?_) ?_
  rotate_left 1
  · skip
    go_simp
    (try (first | with_reducible rfl | (apply And.intro <;> rfl)))
  simp only [Act.put, List.setIfInBounds_toArray, List.set_cons_zero, List.set_cons_succ]
  refine run_at (i := 2) (v := ?_) rfl (by kernel_rfl) (by rfl) (fun _ _ _ h => h) hHeld (fun w1 hw1 => ?_) ?_
  rotate_left 1
  · skip
    have hcw0 := hw1.cell (HC0.out) (by first | (simp; done) | exact HNS.out | exact HNW.out | (intro hm; have hlt := HSB.out _ hm; (try dsimp only at hlt); omega))
    go_simp
    (try (first | with_reducible rfl | (apply And.intro <;> rfl)))
  simp only [Act.put, List.setIfInBounds_toArray, List.set_cons_zero, List.set_cons_succ]
  refine run_at (i := 4) (v := ?_) rfl (by kernel_rfl) (by rfl) (fun _ _ _ h => h) hHeld (fun w1 hw1 => ?_) ?_
  rotate_left 1
  · skip
    go_simp
    (try (first | with_reducible rfl | (apply And.intro <;> rfl)))
  simp only [Act.put, List.setIfInBounds_toArray, List.set_cons_zero, List.set_cons_succ]
  refine run_at (i := 5) (v := ?_) rfl (by kernel_rfl) (by rfl) (fun _ _ _ h => h) hHeld (fun w1 hw1 => ?_) ?_
  rotate_left 1
  · skip
    have hcw0 := hw1.cell (HC1.out) (by first | (simp; done) | exact HNS.out | exact HNW.out | (intro hm; have hlt := HSB.out _ hm; (try dsimp only at hlt); omega))
    go_simp
    (try (first | with_reducible rfl | (apply And.intro <;> rfl)))
  simp only [Act.put, List.setIfInBounds_toArray, List.set_cons_zero, List.set_cons_succ]
  refine call_at (i := 3) (f := ?_) (args := ?_) rfl (by kernel_rfl) (by rfl) ?_ ?_
  rotate_left 2
  · go_simp
    (try (first | with_reducible rfl | (apply And.intro <;> rfl)))
  refine (HG0.out.call fun S1 k1 => int_any x.i HX.out.i.1 HX.out.i.2 _ S1 g _ k1 (by have h0 := HL.out; (try simp only [List.length_append, sgL, nmL] at *); omega)).mono ?_
  rintro e w1 ⟨rfl, hg1⟩
  have HG1 := Lib.hid hg1
  refine ⟨_, rfl, hg1.fr, fun hHeld => ?_⟩
  clear hg1 HG0
  simp only [Act.put, List.setIfInBounds_toArray, List.set_cons_zero, List.set_cons_succ]
  refine call_at (i := 6) (f := ?_) (args := ?_) rfl (by kernel_rfl) (by rfl) ?_ ?_
  rotate_left 2
  · go_simp
    (try (first | with_reducible rfl | (apply And.intro <;> rfl)))
  refine (HG1.out.calls fun S1 k1 f1 s1 => putDenies_any Wdn.cells (fun _ _ v => v.Ok) Wdn.full 200 Wdn.one rfl (fun _ _ v h => Nat.le_trans (Wdn.full_len h) (by decide)) (fun v W S g l h hw hl => putDeny_any v h W S g l hw hl) _ S1 g _ k1 x.A x.n x.d x.l (HX.out.keep ((HF0.out.mono (T := S) (by simp)).trans f1 (fun k hk _ => hk)) (fun k hk hl => s1 k hk (Nat.lt_of_lt_of_le hl HF0.out.size))).l (by have := HX.out.n; omega) (HX.out.keep ((HF0.out.mono (T := S) (by simp)).trans f1 (fun k hk _ => hk)) (fun k hk hl => s1 k hk (Nat.lt_of_lt_of_le hl HF0.out.size))).ap (fun _ _ _ _ _ _ h => h) (by have h0 := HL.out; have b0 := encI_len x.i HX.out.i.2; have := HX.out.n; simp only [List.length_append]; omega)).mono ?_
  rintro e w2 ⟨rfl, hg2⟩
  have HG2 := Lib.hid hg2
  refine ⟨_, rfl, hg2.fr, fun hHeld => ?_⟩
  clear hg2 HG1
  simp only [Act.put, List.setIfInBounds_toArray, List.set_cons_zero, List.set_cons_succ]
  refine run_at (i := 7) (v := ?_) rfl (by kernel_rfl) (by rfl) (fun _ _ _ h => h) hHeld (fun w1 hw1 => ?_) ?_
  rotate_left 1
  · skip
    go_simp
    (try (first | with_reducible rfl | (apply And.intro <;> rfl)))
  simp only [Act.put, List.setIfInBounds_toArray, List.set_cons_zero, List.set_cons_succ]
  refine wpAnyH_done (by kernel_rfl) ?_ _
  go_wp2
  go_ret
  exact ⟨rfl, (HG2.out.from_ HF0.out).eq (by simp [Wtb.full, List.append_assoc])⟩

set_option maxHeartbeats 2000000 in
theorem putPromises_any {α : Type} (cells : α → List Value) (ok : World → List Nat → α → Prop) (full : α → List UInt8) (N : Nat) (hone : ∀ v, ∀ u ∈ cells v, u.oneCell' = true) (hsz : (Try.prog.info? 40).map (·.size) = some 6)
    (hfull : ∀ W S v, ok W S v → (full v).length ≤ N)
    (hput : ∀ (v : α) (W : World) (S : List Nat) (g : Nat) (l : List UInt8), ok W S v → Wr W S g l → l.length + N ≤ 1073741000 → Calls Try.prog 32 #[.pointer (some ⟨g, 0, none⟩), .agg (cells v).toArray] W fun e w' => e = .returned (.pointer (some ⟨g, 0, none⟩)) ∧ Gr W S g (l ++ full v) w')
    (w : World) (S : List Nat) (g : Nat) (l : List UInt8) (hw : Wr w S g l) (A : Option Addr) (n c : Nat) (xs : List α) (hx : Lst 6 cells (fun w v => ok w S v) w A n xs) (hn : n ≤ 1000) (hA : 0 < n → ∀ a, A = some a → ¬ a.block ∈ S)
    (hkeep : ∀ W S', Fr S w W → (∀ x ∈ S', x < w.heap.size → x ∈ S) → ∀ v ∈ xs, ok w S v → ok W S' v) (hl : l.length + 20 + (n + 1) * N ≤ 1073741000) :
    Calls Try.prog 83 #[.pointer (some ⟨g, 0, none⟩), fnV 32, .slice A n c] w fun e w' => e = .returned (.pointer (some ⟨g, 0, none⟩)) ∧ Gr w S g (l ++ listL full xs) w' := by
  have HG0 := Lib.hid (Gr.refl hw)
  have HX := Lib.hid hx
  have HA := Lib.hid hA
  have HL := Lib.hid hl
  have HKP := Lib.hid hkeep
  have HSL := Lib.hid hw.lt
  have hxn := hx.1
  clear hw hx hA hl hkeep
  unfold fnV
  go_enter Try.func83, Try.ntmps83
  go_wp2_with fail
  refine (HG0.out.call fun S1 k1 => int_any (n : Int) (by omega) (by omega) _ S1 g _ k1 (by have := HL.out; omega)).mono ?_
  rintro e w1 ⟨rfl, hg1⟩
  have HG1 := Lib.hid hg1
  clear hg1 HG0
  go_wp2_with fail
  go_loopw [15] (fun i wr => ∃ k : Nat, k ≤ n ∧ i = .int .i64 k ∧ Gr w S g (l ++ encI (n : Int) ++ (xs.take k).flatMap full) wr) (fun i _ => n - (intOf i).toNat)
  case atStart => exact ⟨0, by omega, rfl, by simpa using HG1.out⟩
  case round =>
    obtain ⟨k, hk, rfl, hg⟩ := hrel
    have HG := Lib.hid hg
    clear hg
    by_cases hlt : k < n
    · obtain ⟨ad, v, rfl, hv, hcl, hok, hc⟩ := HX.out.at hlt
      have HV := Lib.hid hv
      have HCL := Lib.hid hcl
      have HOK := Lib.hid hok
      have HMEM := Lib.hid (List.mem_of_getElem? hv)
      have HC := Lib.hid (fun j x hj => HG.out.fr.cell (hc j x hj) (by rw [add_block, add_block]; exact HA.out (by omega) ad rfl))
      have HONE := Lib.hid (hone v)
      have HPUT := Lib.hid (hput v)
      have hk0 : (0 : Int) ≤ k := by omega
      have hlen : ((xs.take k).flatMap full).length ≤ k * N := flat_len (fun v hv => hfull w S v (HX.out.2.1 v (List.mem_of_mem_take hv)).2) (by rw [List.length_take]; omega)
      have hkn2 : k * N + N ≤ (n + 1) * N := by rw [← Nat.succ_mul]; exact Nat.mul_le_mul_right N (by omega)
      have HLEN : Hid ((l ++ encI (n : Int) ++ (xs.take k).flatMap full).length + N ≤ 1073741000) := Lib.hid (by have := HL.out; have := encI_len (n : Int) (by omega); simp only [List.length_append]; omega)
      have HTK : Hid ((xs.take (k + 1)).flatMap full = (xs.take k).flatMap full ++ full v) := Lib.hid (by rw [List.take_add_one, hv]; simp)
      have HFV := Lib.hid (rfl : cells v = cells v)
      clear hv hcl hok hc hlen hkn2
      generalize hcv : cells v = C at *
      go_wp2_with (first
        | (refine wpList_cells rfl 40 _ rfl _ rfl C HC.out (row_prm.of HCL.out) ?_)
        | (refine wpList_store_box rfl 40 _ _ rfl _ 40 C rfl rfl (by rw [hsz, HCL.out]) (by rw [HCL.out]; rfl) HONE.out ?_
           intro wb hbb hfb
           have HBB := Lib.hid hbb
           have HFB := Lib.hid hfb
           clear hbb hfb)
        | (refine wpList_row rfl 40 _ rfl _ _ rfl _ HBB.out.range (row_prm.of HCL.out) ?_))
      have HGB := Lib.hid (HG.out.trans (fun S1 k => ⟨S1, k.keep HFB.out (by simp), HFB.out.mono (by simp), fun x hx _ => hx⟩))
      refine (HGB.out.calls fun S1 k1 f1 s1 => HPUT.out _ S1 g _ (HKP.out wb S1 f1 s1 v HMEM.out HOK.out) k1 HLEN.out).mono ?_
      rintro e w2 ⟨rfl, hg2⟩
      have HG2 := Lib.hid hg2
      clear hg2
      go_wp2
      exact ⟨⟨k + 1, by omega, rfl, HG2.out.eq (by rw [HTK.out, List.append_assoc])⟩, by simp only [intOf, Int.toNat_natCast, Int.toNat_natCast_add_one]; omega⟩
    · have hkn : k = n := by omega
      subst hkn
      have HFIN : Hid (Gr w S g (l ++ listL full xs) wr) := Lib.hid (HG.out.eq (by rw [List.take_of_length_le (by omega), listL, hxn, List.append_assoc]))
      clear HG
      go_wp2
      go_ret
      exact ⟨rfl, HFIN.out⟩

set_option maxHeartbeats 2000000 in
theorem putOpenings_any {α : Type} (cells : α → List Value) (ok : World → List Nat → α → Prop) (full : α → List UInt8) (N : Nat) (hone : ∀ v, ∀ u ∈ cells v, u.oneCell' = true) (hsz : (Try.prog.info? 54).map (·.size) = some 34)
    (hfull : ∀ W S v, ok W S v → (full v).length ≤ N)
    (hput : ∀ (v : α) (W : World) (S : List Nat) (g : Nat) (l : List UInt8), ok W S v → Wr W S g l → l.length + N ≤ 1073741000 → Calls Try.prog 36 #[.pointer (some ⟨g, 0, none⟩), .agg (cells v).toArray] W fun e w' => e = .returned (.pointer (some ⟨g, 0, none⟩)) ∧ Gr W S g (l ++ full v) w')
    (w : World) (S : List Nat) (g : Nat) (l : List UInt8) (hw : Wr w S g l) (A : Option Addr) (n c : Nat) (xs : List α) (hx : Lst 34 cells (fun w v => ok w S v) w A n xs) (hn : n ≤ 1000) (hA : 0 < n → ∀ a, A = some a → ¬ a.block ∈ S)
    (hkeep : ∀ W S', Fr S w W → (∀ x ∈ S', x < w.heap.size → x ∈ S) → ∀ v ∈ xs, ok w S v → ok W S' v) (hl : l.length + 20 + (n + 1) * N ≤ 1073741000) :
    Calls Try.prog 84 #[.pointer (some ⟨g, 0, none⟩), fnV 36, .slice A n c] w fun e w' => e = .returned (.pointer (some ⟨g, 0, none⟩)) ∧ Gr w S g (l ++ listL full xs) w' := by
  have HG0 := Lib.hid (Gr.refl hw)
  have HX := Lib.hid hx
  have HA := Lib.hid hA
  have HL := Lib.hid hl
  have HKP := Lib.hid hkeep
  have HSL := Lib.hid hw.lt
  have hxn := hx.1
  clear hw hx hA hl hkeep
  unfold fnV
  go_enter Try.func84, Try.ntmps84
  go_wp2_with fail
  refine (HG0.out.call fun S1 k1 => int_any (n : Int) (by omega) (by omega) _ S1 g _ k1 (by have := HL.out; omega)).mono ?_
  rintro e w1 ⟨rfl, hg1⟩
  have HG1 := Lib.hid hg1
  clear hg1 HG0
  go_wp2_with fail
  go_loopw [15] (fun i wr => ∃ k : Nat, k ≤ n ∧ i = .int .i64 k ∧ Gr w S g (l ++ encI (n : Int) ++ (xs.take k).flatMap full) wr) (fun i _ => n - (intOf i).toNat)
  case atStart => exact ⟨0, by omega, rfl, by simpa using HG1.out⟩
  case round =>
    obtain ⟨k, hk, rfl, hg⟩ := hrel
    have HG := Lib.hid hg
    clear hg
    by_cases hlt : k < n
    · obtain ⟨ad, v, rfl, hv, hcl, hok, hc⟩ := HX.out.at hlt
      have HV := Lib.hid hv
      have HCL := Lib.hid hcl
      have HOK := Lib.hid hok
      have HMEM := Lib.hid (List.mem_of_getElem? hv)
      have HC := Lib.hid (fun j x hj => HG.out.fr.cell (hc j x hj) (by rw [add_block, add_block]; exact HA.out (by omega) ad rfl))
      have HONE := Lib.hid (hone v)
      have HPUT := Lib.hid (hput v)
      have hk0 : (0 : Int) ≤ k := by omega
      have hlen : ((xs.take k).flatMap full).length ≤ k * N := flat_len (fun v hv => hfull w S v (HX.out.2.1 v (List.mem_of_mem_take hv)).2) (by rw [List.length_take]; omega)
      have hkn2 : k * N + N ≤ (n + 1) * N := by rw [← Nat.succ_mul]; exact Nat.mul_le_mul_right N (by omega)
      have HLEN : Hid ((l ++ encI (n : Int) ++ (xs.take k).flatMap full).length + N ≤ 1073741000) := Lib.hid (by have := HL.out; have := encI_len (n : Int) (by omega); simp only [List.length_append]; omega)
      have HTK : Hid ((xs.take (k + 1)).flatMap full = (xs.take k).flatMap full ++ full v) := Lib.hid (by rw [List.take_add_one, hv]; simp)
      have HFV := Lib.hid (rfl : cells v = cells v)
      clear hv hcl hok hc hlen hkn2
      generalize hcv : cells v = C at *
      go_wp2_with (first
        | (refine wpList_cells rfl 54 _ rfl _ rfl C HC.out (row_opn.of HCL.out) ?_)
        | (refine wpList_store_box rfl 54 _ _ rfl _ 54 C rfl rfl (by rw [hsz, HCL.out]) (by rw [HCL.out]; rfl) HONE.out ?_
           intro wb hbb hfb
           have HBB := Lib.hid hbb
           have HFB := Lib.hid hfb
           clear hbb hfb)
        | (refine wpList_row rfl 54 _ rfl _ _ rfl _ HBB.out.range (row_opn.of HCL.out) ?_))
      have HGB := Lib.hid (HG.out.trans (fun S1 k => ⟨S1, k.keep HFB.out (by simp), HFB.out.mono (by simp), fun x hx _ => hx⟩))
      refine (HGB.out.calls fun S1 k1 f1 s1 => HPUT.out _ S1 g _ (HKP.out wb S1 f1 s1 v HMEM.out HOK.out) k1 HLEN.out).mono ?_
      rintro e w2 ⟨rfl, hg2⟩
      have HG2 := Lib.hid hg2
      clear hg2
      go_wp2
      exact ⟨⟨k + 1, by omega, rfl, HG2.out.eq (by rw [HTK.out, List.append_assoc])⟩, by simp only [intOf, Int.toNat_natCast, Int.toNat_natCast_add_one]; omega⟩
    · have hkn : k = n := by omega
      subst hkn
      have HFIN : Hid (Gr w S g (l ++ listL full xs) wr) := Lib.hid (HG.out.eq (by rw [List.take_of_length_le (by omega), listL, hxn, List.append_assoc]))
      clear HG
      go_wp2
      go_ret
      exact ⟨rfl, HFIN.out⟩

set_option maxHeartbeats 2000000 in
theorem putTombs_any {α : Type} (cells : α → List Value) (ok : World → List Nat → α → Prop) (full : α → List UInt8) (N : Nat) (hone : ∀ v, ∀ u ∈ cells v, u.oneCell' = true) (hsz : (Try.prog.info? 135).map (·.size) = some 2)
    (hfull : ∀ W S v, ok W S v → (full v).length ≤ N)
    (hput : ∀ (v : α) (W : World) (S : List Nat) (g : Nat) (l : List UInt8), ok W S v → Wr W S g l → l.length + N ≤ 1073741000 → Calls Try.prog 86 #[.pointer (some ⟨g, 0, none⟩), .agg (cells v).toArray] W fun e w' => e = .returned (.pointer (some ⟨g, 0, none⟩)) ∧ Gr W S g (l ++ full v) w')
    (w : World) (S : List Nat) (g : Nat) (l : List UInt8) (hw : Wr w S g l) (A : Option Addr) (n c : Nat) (xs : List α) (hx : Lst 2 cells (fun w v => ok w S v) w A n xs) (hn : n ≤ 1000) (hA : 0 < n → ∀ a, A = some a → ¬ a.block ∈ S)
    (hkeep : ∀ W S', Fr S w W → (∀ x ∈ S', x < w.heap.size → x ∈ S) → ∀ v ∈ xs, ok w S v → ok W S' v) (hl : l.length + 20 + (n + 1) * N ≤ 1073741000) :
    Calls Try.prog 85 #[.pointer (some ⟨g, 0, none⟩), fnV 86, .slice A n c] w fun e w' => e = .returned (.pointer (some ⟨g, 0, none⟩)) ∧ Gr w S g (l ++ listL full xs) w' := by
  have HG0 := Lib.hid (Gr.refl hw)
  have HX := Lib.hid hx
  have HA := Lib.hid hA
  have HL := Lib.hid hl
  have HKP := Lib.hid hkeep
  have HSL := Lib.hid hw.lt
  have hxn := hx.1
  clear hw hx hA hl hkeep
  unfold fnV
  go_enter Try.func85, Try.ntmps85
  go_wp2_with fail
  refine (HG0.out.call fun S1 k1 => int_any (n : Int) (by omega) (by omega) _ S1 g _ k1 (by have := HL.out; omega)).mono ?_
  rintro e w1 ⟨rfl, hg1⟩
  have HG1 := Lib.hid hg1
  clear hg1 HG0
  go_wp2_with fail
  go_loopw [15] (fun i wr => ∃ k : Nat, k ≤ n ∧ i = .int .i64 k ∧ Gr w S g (l ++ encI (n : Int) ++ (xs.take k).flatMap full) wr) (fun i _ => n - (intOf i).toNat)
  case atStart => exact ⟨0, by omega, rfl, by simpa using HG1.out⟩
  case round =>
    obtain ⟨k, hk, rfl, hg⟩ := hrel
    have HG := Lib.hid hg
    clear hg
    by_cases hlt : k < n
    · obtain ⟨ad, v, rfl, hv, hcl, hok, hc⟩ := HX.out.at hlt
      have HV := Lib.hid hv
      have HCL := Lib.hid hcl
      have HOK := Lib.hid hok
      have HMEM := Lib.hid (List.mem_of_getElem? hv)
      have HC := Lib.hid (fun j x hj => HG.out.fr.cell (hc j x hj) (by rw [add_block, add_block]; exact HA.out (by omega) ad rfl))
      have HONE := Lib.hid (hone v)
      have HPUT := Lib.hid (hput v)
      have hk0 : (0 : Int) ≤ k := by omega
      have hlen : ((xs.take k).flatMap full).length ≤ k * N := flat_len (fun v hv => hfull w S v (HX.out.2.1 v (List.mem_of_mem_take hv)).2) (by rw [List.length_take]; omega)
      have hkn2 : k * N + N ≤ (n + 1) * N := by rw [← Nat.succ_mul]; exact Nat.mul_le_mul_right N (by omega)
      have HLEN : Hid ((l ++ encI (n : Int) ++ (xs.take k).flatMap full).length + N ≤ 1073741000) := Lib.hid (by have := HL.out; have := encI_len (n : Int) (by omega); simp only [List.length_append]; omega)
      have HTK : Hid ((xs.take (k + 1)).flatMap full = (xs.take k).flatMap full ++ full v) := Lib.hid (by rw [List.take_add_one, hv]; simp)
      have HFV := Lib.hid (rfl : cells v = cells v)
      clear hv hcl hok hc hlen hkn2
      generalize hcv : cells v = C at *
      go_wp2_with (first
        | (refine wpList_cells rfl 135 _ rfl _ rfl C HC.out (row_tmb.of HCL.out) ?_)
        | (refine wpList_store_box rfl 135 _ _ rfl _ 135 C rfl rfl (by rw [hsz, HCL.out]) (by rw [HCL.out]; rfl) HONE.out ?_
           intro wb hbb hfb
           have HBB := Lib.hid hbb
           have HFB := Lib.hid hfb
           clear hbb hfb)
        | (refine wpList_row rfl 135 _ rfl _ _ rfl _ HBB.out.range (row_tmb.of HCL.out) ?_))
      have HGB := Lib.hid (HG.out.trans (fun S1 k => ⟨S1, k.keep HFB.out (by simp), HFB.out.mono (by simp), fun x hx _ => hx⟩))
      refine (HGB.out.calls fun S1 k1 f1 s1 => HPUT.out _ S1 g _ (HKP.out wb S1 f1 s1 v HMEM.out HOK.out) k1 HLEN.out).mono ?_
      rintro e w2 ⟨rfl, hg2⟩
      have HG2 := Lib.hid hg2
      clear hg2
      go_wp2
      exact ⟨⟨k + 1, by omega, rfl, HG2.out.eq (by rw [HTK.out, List.append_assoc])⟩, by simp only [intOf, Int.toNat_natCast, Int.toNat_natCast_add_one]; omega⟩
    · have hkn : k = n := by omega
      subst hkn
      have HFIN : Hid (Gr w S g (l ++ listL full xs) wr) := Lib.hid (HG.out.eq (by rw [List.take_of_length_le (by omega), listL, hxn, List.append_assoc]))
      clear HG
      go_wp2
      go_ret
      exact ⟨rfl, HFIN.out⟩
end Go.Proofs.Ytniaacjfkaakjaa

namespace Go.Proofs.Ytniaacjfkaakjaa
open Go.RowKit
set_option maxRecDepth 100000
/-- a batch: its epoch, its time, where its promises, openings, tombstones lie -/
structure Wba where
  e : Int
  t : Nat
  A : Option Addr
  n : Nat
  d : Nat
  l : List Wpr
  A2 : Option Addr
  n2 : Nat
  d2 : Nat
  l2 : List Wop
  A3 : Option Addr
  n3 : Nat
  d3 : Nat
  l3 : List Wtb
def Wba.cells (x : Wba) : List Value := [.int .i64 x.e, .int .u64 (x.t : Int), .slice x.A x.n x.d, .slice x.A2 x.n2 x.d2, .slice x.A3 x.n3 x.d3]
def Wba.val (x : Wba) : Value := .agg x.cells.toArray
structure Wba.Ok (w : World) (S : List Nat) (x : Wba) : Prop where
  e : i64In x.e
  t : x.t < 18446744073709551616
  l : Lst 6 Wpr.cells (fun w v => v.Ok w S) w x.A x.n x.l
  n : x.n ≤ 4
  ap : 0 < x.n → ∀ a, x.A = some a → ¬ a.block ∈ S
  l2 : Lst 34 Wop.cells (fun w v => v.Ok w S) w x.A2 x.n2 x.l2
  n2 : x.n2 ≤ 5
  ap2 : 0 < x.n2 → ∀ a, x.A2 = some a → ¬ a.block ∈ S
  l3 : Lst 2 Wtb.cells (fun w v => v.Ok w S) w x.A3 x.n3 x.l3
  n3 : x.n3 ≤ 5
  ap3 : 0 < x.n3 → ∀ a, x.A3 = some a → ¬ a.block ∈ S
theorem Wba.one (x : Wba) : ∀ v ∈ x.cells, v.oneCell' = true := by
  intro v hv
  simp only [Wba.cells, List.mem_cons, List.not_mem_nil, or_false] at hv
  rcases hv with rfl | rfl | rfl | rfl | rfl <;> rfl
theorem Wba.len (x : Wba) : x.cells.length = 5 := rfl
theorem Wba.Ok.keep {w W : World} {S S' : List Nat} {x : Wba} (h : x.Ok w S) (hf : Fr S w W) (hs : ∀ k ∈ S', k < w.heap.size → k ∈ S) : x.Ok W S' :=
  ⟨h.e, h.t, h.l.keep' hf h.ap (fun _ _ h => h.keep hf hs), h.n, fun hn a ha hin => h.ap hn a ha (hs _ hin (h.l.lt hn (by decide) (fun _ _ => rfl) a ha)),
    h.l2.keep' hf h.ap2 (fun _ _ h => h.keep hf hs), h.n2, fun hn a ha hin => h.ap2 hn a ha (hs _ hin (h.l2.lt hn (by decide) (fun v hv => Wop.len (h.l2.2.1 v hv).2.h) a ha)),
    h.l3.keep' hf h.ap3 (fun _ _ h => h.keep hf hs), h.n3, fun hn a ha hin => h.ap3 hn a ha (hs _ hin (h.l3.lt hn (by decide) (fun _ _ => rfl) a ha))⟩
def Wba.full (x : Wba) : List UInt8 := encI x.e ++ enc x.t ++ listL Wpr.full x.l ++ listL Wop.full x.l2 ++ listL Wtb.full x.l3
theorem Wba.l_len {w : World} {S : List Nat} {x : Wba} (hx : x.Ok w S) : (listL Wpr.full x.l).length ≤ 9300 := by
  have b1 := encI_len (x.l.length : Int) (by have := hx.n; have := hx.l.1; omega)
  have b2 : (x.l.flatMap Wpr.full).length ≤ 4 * 2300 := flat_len (fun v hv => Wpr.full_len (hx.l.2.1 v hv).2) (by have := hx.n; have := hx.l.1; omega)
  simp only [listL, List.length_append]
  omega
theorem Wba.l2_len {w : World} {S : List Nat} {x : Wba} (hx : x.Ok w S) : (listL Wop.full x.l2).length ≤ 1700 := by
  have b1 := encI_len (x.l2.length : Int) (by have := hx.n2; have := hx.l2.1; omega)
  have b2 : (x.l2.flatMap Wop.full).length ≤ 5 * 320 := flat_len (fun v hv => Wop.full_len (hx.l2.2.1 v hv).2) (by have := hx.n2; have := hx.l2.1; omega)
  simp only [listL, List.length_append]
  omega
theorem Wba.l3_len {w : World} {S : List Nat} {x : Wba} (hx : x.Ok w S) : (listL Wtb.full x.l3).length ≤ 2700 := by
  have b1 := encI_len (x.l3.length : Int) (by have := hx.n3; have := hx.l3.1; omega)
  have b2 : (x.l3.flatMap Wtb.full).length ≤ 5 * 520 := flat_len (fun v hv => Wtb.full_len (hx.l3.2.1 v hv).2) (by have := hx.n3; have := hx.l3.1; omega)
  simp only [listL, List.length_append]
  omega
theorem Wba.full_len {w : World} {S : List Nat} {x : Wba} (hx : x.Ok w S) : x.full.length ≤ 14000 := by
  have b0 := encI_len x.e hx.e.2
  have b1 := enc_ten hx.t
  have b2 := Wba.l_len hx
  have b3 := Wba.l2_len hx
  have b4 := Wba.l3_len hx
  simp only [Wba.full, List.length_append]
  omega
set_option maxHeartbeats 1000000 in
theorem putBatch_any (x : Wba) (w : World) (S : List Nat) (g : Nat) (l : List UInt8) (hw : Wr w S g l) (hl : l.length + 60000 ≤ 1073741000) (hx : x.Ok w S) :
    Calls Try.prog 66 #[.pointer (some ⟨g, 0, none⟩), x.val] w fun e w' => e = .returned (.pointer (some ⟨g, 0, none⟩)) ∧ Gr w S g (l ++ x.full) w' := by
  obtain ⟨wa, hwa⟩ : ∃ wa, wa = w.alloc (Obj.cells x.cells.toArray 45) := ⟨_, rfl⟩
  have hf0 : Fr [] w wa := by rw [hwa]; exact (Fr.refl [] w).alloc _
  have hb0 : Blk wa w.heap.size 45 x.cells.toArray := by rw [hwa]; exact Blk.new _ _ _
  have HNS : Hid (¬ w.heap.size ∈ S) := Lib.hid (fun h => by have := hw.lt _ h; omega)
  have HG0 := Lib.hid (Gr.begin hw hf0)
  have HC0 : Hid (wa.cell? ⟨w.heap.size, 0 + 0, none⟩ = some (.int .i64 x.e)) := Lib.hid (hb0.range (cs := x.cells) 0 _ rfl)
  have HC1 : Hid (wa.cell? ⟨w.heap.size, 0 + 1, none⟩ = some (.int .u64 (x.t : Int))) := Lib.hid (hb0.range (cs := x.cells) 1 _ rfl)
  have HC2 : Hid (wa.cell? ⟨w.heap.size, 0 + 2, none⟩ = some (.slice x.A x.n x.d)) := Lib.hid (hb0.range (cs := x.cells) 2 _ rfl)
  have HC3 : Hid (wa.cell? ⟨w.heap.size, 0 + 3, none⟩ = some (.slice x.A2 x.n2 x.d2)) := Lib.hid (hb0.range (cs := x.cells) 3 _ rfl)
  have HC4 : Hid (wa.cell? ⟨w.heap.size, 0 + 4, none⟩ = some (.slice x.A3 x.n3 x.d3)) := Lib.hid (hb0.range (cs := x.cells) 4 _ rfl)
  have HXA : Hid (x.Ok wa S) := Lib.hid (hx.keep (hf0.mono (T := S) (by simp)) (fun k hk _ => hk))
  have HF0 := Lib.hid hf0
  have HWA := Lib.hid hwa
  have HL := Lib.hid hl
  have HX := Lib.hid hx
  clear hwa hf0 hb0 hl hw hx
  unfold Wba.val
  generalize hC : x.cells = C at *
  have HRC := Lib.hid hC
  clear hC
  go_enter Try.func66, Try.ntmps66
  go_wp2
  rw [← HWA.out]
  refine wp_region_held_drew (S := Fr S wa) (by kernel_rfl) (Fr.drew (Fr.refl _ wa)) (fun hHeld => ?_)
  refine run_at (i := 0) (v := ?_) rfl (by kernel_rfl) (by rfl) (fun _ _ _ h => h) hHeld (fun w1 hw1 => ?_) ?_
  rotate_left 1
  · skip
    go_simp
    (try (first | with_reducible rfl | (apply And.intro <;> rfl)))
  simp only [Act.put, List.setIfInBounds_toArray, List.set_cons_zero, List.set_cons_succ]
  refine run_at (i := 1) (v := ?_) rfl (by kernel_rfl) (by rfl) (fun _ _ _ h => h) hHeld (fun w1 hw1 => ?_) ?_
  rotate_left 1
  · skip
    go_simp
    (try (first | with_reducible rfl | (apply And.intro <;> rfl)))
  simp only [Act.put, List.setIfInBounds_toArray, List.set_cons_zero, List.set_cons_succ]
  refine run_at (i := 2) (v := ?_) rfl (by kernel_rfl) (by rfl) (fun _ _ _ h => h) hHeld (fun w1 hw1 => ?_) ?_
  rotate_left 1
  · skip
    have hcw0 := hw1.cell (HC0.out) (by first | (simp; done) | exact HNS.out | exact HNW.out | (intro hm; have hlt := HSB.out _ hm; (try dsimp only at hlt); omega))
    go_simp
    (try (first | with_reducible rfl | (apply And.intro <;> rfl)))
  simp only [Act.put, List.setIfInBounds_toArray, List.set_cons_zero, List.set_cons_succ]
  refine run_at (i := 4) (v := ?_) rfl (by kernel_rfl) (by rfl) (fun _ _ _ h => h) hHeld (fun w1 hw1 => ?_) ?_
  rotate_left 1
  · skip
    go_simp
    (try (first | with_reducible rfl | (apply And.intro <;> rfl)))
  simp only [Act.put, List.setIfInBounds_toArray, List.set_cons_zero, List.set_cons_succ]
  refine run_at (i := 5) (v := ?_) rfl (by kernel_rfl) (by rfl) (fun _ _ _ h => h) hHeld (fun w1 hw1 => ?_) ?_
  rotate_left 1
  · skip
    have hcw0 := hw1.cell (HC1.out) (by first | (simp; done) | exact HNS.out | exact HNW.out | (intro hm; have hlt := HSB.out _ hm; (try dsimp only at hlt); omega))
    go_simp
    (try (first | with_reducible rfl | (apply And.intro <;> rfl)))
  simp only [Act.put, List.setIfInBounds_toArray, List.set_cons_zero, List.set_cons_succ]
  refine call_at (i := 3) (f := ?_) (args := ?_) rfl (by kernel_rfl) (by rfl) ?_ ?_
  rotate_left 2
  · go_simp
    (try (first | with_reducible rfl | (apply And.intro <;> rfl)))
  refine (HG0.out.call fun S1 k1 => int_any x.e HX.out.e.1 HX.out.e.2 _ S1 g _ k1 (by have h0 := HL.out; (try simp only [List.length_append, sgL, nmL] at *); omega)).mono ?_
  rintro e w1 ⟨rfl, hg1⟩
  have HG1 := Lib.hid hg1
  refine ⟨_, rfl, hg1.fr, fun hHeld => ?_⟩
  clear hg1 HG0
  simp only [Act.put, List.setIfInBounds_toArray, List.set_cons_zero, List.set_cons_succ]
  refine call_at (i := 6) (f := ?_) (args := ?_) rfl (by kernel_rfl) (by rfl) ?_ ?_
  rotate_left 2
  · go_simp
    (try (first | with_reducible rfl | (apply And.intro <;> rfl)))
  refine (HG1.out.call fun S1 k1 => num_any x.t HX.out.t _ S1 g _ k1 (by have h0 := HL.out; have b0 := encI_len x.e HX.out.e.2; (try simp only [List.length_append, sgL, nmL] at *); omega)).mono ?_
  rintro e w2 ⟨rfl, hg2⟩
  have HG2 := Lib.hid hg2
  refine ⟨_, rfl, hg2.fr, fun hHeld => ?_⟩
  clear hg2 HG1
  simp only [Act.put, List.setIfInBounds_toArray, List.set_cons_zero, List.set_cons_succ]
  refine wpAnyH_done (by kernel_rfl) ?_ _
  have hc2 : w2.cell? ⟨w.heap.size, 2, none⟩ = some (.slice x.A x.n x.d) := HG2.out.fr.cell HC2.out HNS.out
  go_wp2_with fail
  refine (HG2.out.calls fun S1 k1 f1 s1 => putPromises_any Wpr.cells (fun w S v => v.Ok w S) Wpr.full 6200 Wpr.one rfl (fun _ _ v h => Nat.le_trans (Wpr.full_len h) (by decide)) (fun v W S g l h hw hl => putPromise_any v W S g l hw hl h) _ S1 g _ k1 x.A x.n x.d x.l (HXA.out.keep f1 s1).l (by have := HX.out.n; omega) (HXA.out.keep f1 s1).ap (fun _ _ hf hs _ _ h => h.keep hf hs) (by have h0 := HL.out; have b0 := encI_len x.e HX.out.e.2; have b1 := enc_ten HX.out.t; have b2 := Wba.l_len HX.out; have b3 := Wba.l2_len HX.out; have := HX.out.n; simp only [List.length_append]; omega)).mono ?_
  rintro e w3 ⟨rfl, hg3⟩
  have HG3 := Lib.hid hg3
  clear hg3 HG2 hc2
  have hc3 : w3.cell? ⟨w.heap.size, 3, none⟩ = some (.slice x.A2 x.n2 x.d2) := HG3.out.fr.cell HC3.out HNS.out
  go_wp2_with fail
  refine (HG3.out.calls fun S1 k1 f1 s1 => putOpenings_any Wop.cells (fun w S v => v.Ok w S) Wop.full 500 Wop.one rfl (fun _ _ v h => Nat.le_trans (Wop.full_len h) (by decide)) (fun v W S g l h hw hl => putOpening_any v W S g l hw hl h) _ S1 g _ k1 x.A2 x.n2 x.d2 x.l2 (HXA.out.keep f1 s1).l2 (by have := HX.out.n2; omega) (HXA.out.keep f1 s1).ap2 (fun _ _ hf hs _ _ h => h.keep hf hs) (by have h0 := HL.out; have b0 := encI_len x.e HX.out.e.2; have b1 := enc_ten HX.out.t; have b2 := Wba.l_len HX.out; have b3 := Wba.l2_len HX.out; have := HX.out.n2; simp only [List.length_append]; omega)).mono ?_
  rintro e w4 ⟨rfl, hg4⟩
  have HG4 := Lib.hid hg4
  clear hg4 HG3 hc3
  have hc4 : w4.cell? ⟨w.heap.size, 4, none⟩ = some (.slice x.A3 x.n3 x.d3) := HG4.out.fr.cell HC4.out HNS.out
  go_wp2_with fail
  refine (HG4.out.calls fun S1 k1 f1 s1 => putTombs_any Wtb.cells (fun w S v => v.Ok w S) Wtb.full 1500 Wtb.one rfl (fun _ _ v h => Nat.le_trans (Wtb.full_len h) (by decide)) (fun v W S g l h hw hl => putTomb_any v W S g l hw hl h) _ S1 g _ k1 x.A3 x.n3 x.d3 x.l3 (HXA.out.keep f1 s1).l3 (by have := HX.out.n3; omega) (HXA.out.keep f1 s1).ap3 (fun _ _ hf hs _ _ h => h.keep hf hs) (by have h0 := HL.out; have b0 := encI_len x.e HX.out.e.2; have b1 := enc_ten HX.out.t; have b2 := Wba.l_len HX.out; have b3 := Wba.l2_len HX.out; have := HX.out.n3; simp only [List.length_append]; omega)).mono ?_
  rintro e w5 ⟨rfl, hg5⟩
  have HG5 := Lib.hid hg5
  clear hg5 HG4 hc4
  go_wp2
  go_ret
  exact ⟨rfl, (HG5.out.from_ HF0.out).eq (by simp [Wba.full, List.append_assoc])⟩
theorem putBatch_any' (x : Wba) (C : List Value) (hC : x.cells = C) (w : World) (S : List Nat) (g : Nat) (l : List UInt8) (hw : Wr w S g l) (hl : l.length + 60000 ≤ 1073741000) (hx : x.Ok w S) :
    Calls Try.prog 66 #[.pointer (some ⟨g, 0, none⟩), .agg C.toArray] w fun e w' => e = .returned (.pointer (some ⟨g, 0, none⟩)) ∧ Gr w S g (l ++ x.full) w' := by
  subst hC
  exact putBatch_any x w S g l hw hl hx
end Go.Proofs.Ytniaacjfkaakjaa

namespace Go.Proofs.Ytniaacjfkaakjaa
open Go.RowKit
set_option maxRecDepth 100000
theorem NewWr.calls {P : Program} {f : FuncId} {args : Array Value} {w0 w : World} {g : Nat} {l l' : List UInt8} {v : Value} (h : NewWr w0 w g l)
    (hc : ∀ S, Wr w S g l → Fr [] w0 w → (∀ k ∈ S, w0.heap.size ≤ k) → Calls P f args w fun e w' => e = .returned v ∧ Gr w S g l' w') : Calls P f args w fun e w' => e = .returned v ∧ NewWr w0 w' g l' := by
  obtain ⟨S, k1, k2, k3⟩ := h
  refine (hc S k1 k2 k3).mono ?_
  rintro e w' ⟨rfl, hg⟩
  exact ⟨rfl, NewWr.add k2 k3 hg⟩
def wWpr : List UInt8 := [112, 114, 111, 109, 105, 115, 101]
def Wpr.text (x : Wpr) : List UInt8 := enc wWpr.length ++ wWpr ++ x.bare
theorem Wpr.text_len {w : World} {S : List Nat} {x : Wpr} (hx : x.Ok w S) : x.text.length ≤ 2300 := by
  have b0 := Wpr.bare_len hx
  have b1 := enc_ten (m := wWpr.length) (by decide)
  have b2 : wWpr.length = 7 := rfl
  simp only [Wpr.text, List.length_append]
  omega
/-- one more than z, below 0: 0 -/
def oneM (z : Int) : Nat := if z < 0 then 0 else z.toNat + 1
theorem oneMore_any (z : Int) (hz : i64In z) (w : World) :
    Calls Try.prog 87 #[.int .i64 z] w fun e w' => e = .returned (.int .u64 (oneM z : Int)) ∧ w' = w := by
  obtain ⟨h1, h2⟩ := hz
  unfold oneM
  by_cases h : z < 0
  · rw [if_pos h]
    go_enter Try.func87, Try.ntmps87
    go_wp2
    go_ret
    exact ⟨rfl, rfl⟩
  · rw [if_neg h]
    have e1 : IntKind.u64.wrap z = z := IntWalk.u64_in _ (by omega)
    have e2 : IntKind.u64.wrap (z + 1) = z + 1 := IntWalk.u64_in _ (by omega)
    go_enter Try.func87, Try.ntmps87
    go_wp2
    go_ret
    exact ⟨by show Ending.returned (Value.int IntKind.u64 (z + 1)) = _; congr 2; omega, rfl⟩
/-- a proposal -/
structure Wpo where
  e : Int
  r : Int
  v : Int
  p : Int
  k : Wba
  b : Int
  m : Int
def Wpo.cells (x : Wpo) : List Value := [.int .i64 x.e, .int .i64 x.r, .int .i64 x.v, .int .i64 x.p] ++ (x.k.cells ++ [.int .i64 x.b, .int .i64 x.m])
def Wpo.val (x : Wpo) : Value := .agg x.cells.toArray
structure Wpo.Ok (w : World) (x : Wpo) : Prop where
  e : i64In x.e
  r : i64In x.r
  v : i64In x.v
  p : i64In x.p
  k : x.k.Ok w []
  b : i64In x.b
  m : i64In x.m
theorem Wpo.len (x : Wpo) : x.cells.length = 11 := rfl
def wWpo : List UInt8 := [112, 114, 111, 112, 111, 115, 97, 108]
def Wpo.head (x : Wpo) : List UInt8 := encI x.e ++ encI x.r ++ enc (oneM x.v) ++ encI x.p
theorem Wpo.head_len {x : Wpo} (he : i64In x.e) (hr : i64In x.r) (hv : i64In x.v) (hp : i64In x.p) : x.head.length ≤ 40 := by
  have b0 := encI_len x.e he.2
  have b1 := encI_len x.r hr.2
  have b2 := encI_len x.p hp.2
  have b3 : oneM x.v < 18446744073709551616 := by have := hv.2; unfold oneM; split <;> omega
  have b4 := enc_ten b3
  simp only [Wpo.head, List.length_append]
  omega
def Wpo.text (x : Wpo) : List UInt8 := enc wWpo.length ++ wWpo ++ x.head ++ sumL x.k.full
theorem row_prop : RowTy Try.prog 47 11 := ⟨by kernel_rfl, by kernel_rfl⟩
set_option maxHeartbeats 1000000 in
theorem proposalHead_any (x : Wpo) (C : List Value) (hC : x.cells = C) (w : World) (S : List Nat) (g : Nat) (l : List UInt8) (hw : Wr w S g l) (hl : l.length + 100 ≤ 1073741000) (he : i64In x.e) (hr : i64In x.r) (hv : i64In x.v) (hp : i64In x.p) :
    Calls Try.prog 67 #[.pointer (some ⟨g, 0, none⟩), .agg C.toArray] w fun e w' => e = .returned (.pointer (some ⟨g, 0, none⟩)) ∧ Gr w S g (l ++ x.head) w' := by
  obtain ⟨wa, hwa⟩ : ∃ wa, wa = w.alloc (Obj.cells C.toArray 47) := ⟨_, rfl⟩
  have hf0 : Fr [] w wa := by rw [hwa]; exact (Fr.refl [] w).alloc _
  have hb0 : Blk wa w.heap.size 47 x.cells.toArray := by rw [hwa, hC]; exact Blk.new _ _ _
  have HNS : Hid (¬ w.heap.size ∈ S) := Lib.hid (fun h => by have := hw.lt _ h; omega)
  have HG0 := Lib.hid (Gr.begin hw hf0)
  have HC0 : Hid (wa.cell? ⟨w.heap.size, 0 + 0, none⟩ = some (.int .i64 x.e)) := Lib.hid (hb0.range (cs := x.cells) 0 _ rfl)
  have HC1 : Hid (wa.cell? ⟨w.heap.size, 0 + 1, none⟩ = some (.int .i64 x.r)) := Lib.hid (hb0.range (cs := x.cells) 1 _ rfl)
  have HC2 : Hid (wa.cell? ⟨w.heap.size, 0 + 2, none⟩ = some (.int .i64 x.v)) := Lib.hid (hb0.range (cs := x.cells) 2 _ rfl)
  have HC3 : Hid (wa.cell? ⟨w.heap.size, 0 + 3, none⟩ = some (.int .i64 x.p)) := Lib.hid (hb0.range (cs := x.cells) 3 _ rfl)
  have HM : Hid (oneM x.v < 18446744073709551616) := Lib.hid (by have := hv.2; unfold oneM; split <;> omega)
  have HF0 := Lib.hid hf0
  have HWA := Lib.hid hwa
  have HL := Lib.hid hl
  have HE := Lib.hid he
  have HR := Lib.hid hr
  have HV := Lib.hid hv
  have HP := Lib.hid hp
  clear hwa hf0 hb0 hl hw he hr hv hp hC
  go_enter Try.func67, Try.ntmps67
  go_wp2
  rw [← HWA.out]
  refine wp_region_held_drew (S := Fr S wa) (by kernel_rfl) (Fr.drew (Fr.refl _ wa)) (fun hHeld => ?_)
  refine run_at (i := 0) (v := ?_) rfl (by kernel_rfl) (by rfl) (fun _ _ _ h => h) hHeld (fun w1 hw1 => ?_) ?_
  rotate_left 1
  · skip
    go_simp
    (try (first | with_reducible rfl | (apply And.intro <;> rfl)))
  simp only [Act.put, List.setIfInBounds_toArray, List.set_cons_zero, List.set_cons_succ]
  refine run_at (i := 1) (v := ?_) rfl (by kernel_rfl) (by rfl) (fun _ _ _ h => h) hHeld (fun w1 hw1 => ?_) ?_
  rotate_left 1
  · skip
    go_simp
    (try (first | with_reducible rfl | (apply And.intro <;> rfl)))
  simp only [Act.put, List.setIfInBounds_toArray, List.set_cons_zero, List.set_cons_succ]
  refine run_at (i := 2) (v := ?_) rfl (by kernel_rfl) (by rfl) (fun _ _ _ h => h) hHeld (fun w1 hw1 => ?_) ?_
  rotate_left 1
  · skip
    have hcw0 := hw1.cell (HC0.out) (by first | (simp; done) | exact HNS.out | exact HNW.out | (intro hm; have hlt := HSB.out _ hm; (try dsimp only at hlt); omega))
    go_simp
    (try (first | with_reducible rfl | (apply And.intro <;> rfl)))
  simp only [Act.put, List.setIfInBounds_toArray, List.set_cons_zero, List.set_cons_succ]
  refine run_at (i := 4) (v := ?_) rfl (by kernel_rfl) (by rfl) (fun _ _ _ h => h) hHeld (fun w1 hw1 => ?_) ?_
  rotate_left 1
  · skip
    go_simp
    (try (first | with_reducible rfl | (apply And.intro <;> rfl)))
  simp only [Act.put, List.setIfInBounds_toArray, List.set_cons_zero, List.set_cons_succ]
  refine run_at (i := 5) (v := ?_) rfl (by kernel_rfl) (by rfl) (fun _ _ _ h => h) hHeld (fun w1 hw1 => ?_) ?_
  rotate_left 1
  · skip
    have hcw0 := hw1.cell (HC1.out) (by first | (simp; done) | exact HNS.out | exact HNW.out | (intro hm; have hlt := HSB.out _ hm; (try dsimp only at hlt); omega))
    go_simp
    (try (first | with_reducible rfl | (apply And.intro <;> rfl)))
  simp only [Act.put, List.setIfInBounds_toArray, List.set_cons_zero, List.set_cons_succ]
  refine run_at (i := 7) (v := ?_) rfl (by kernel_rfl) (by rfl) (fun _ _ _ h => h) hHeld (fun w1 hw1 => ?_) ?_
  rotate_left 1
  · skip
    go_simp
    (try (first | with_reducible rfl | (apply And.intro <;> rfl)))
  simp only [Act.put, List.setIfInBounds_toArray, List.set_cons_zero, List.set_cons_succ]
  refine run_at (i := 8) (v := ?_) rfl (by kernel_rfl) (by rfl) (fun _ _ _ h => h) hHeld (fun w1 hw1 => ?_) ?_
  rotate_left 1
  · skip
    have hcw0 := hw1.cell (HC2.out) (by first | (simp; done) | exact HNS.out | exact HNW.out | (intro hm; have hlt := HSB.out _ hm; (try dsimp only at hlt); omega))
    go_simp
    (try (first | with_reducible rfl | (apply And.intro <;> rfl)))
  simp only [Act.put, List.setIfInBounds_toArray, List.set_cons_zero, List.set_cons_succ]
  refine run_at (i := 11) (v := ?_) rfl (by kernel_rfl) (by rfl) (fun _ _ _ h => h) hHeld (fun w1 hw1 => ?_) ?_
  rotate_left 1
  · skip
    go_simp
    (try (first | with_reducible rfl | (apply And.intro <;> rfl)))
  simp only [Act.put, List.setIfInBounds_toArray, List.set_cons_zero, List.set_cons_succ]
  refine run_at (i := 12) (v := ?_) rfl (by kernel_rfl) (by rfl) (fun _ _ _ h => h) hHeld (fun w1 hw1 => ?_) ?_
  rotate_left 1
  · skip
    have hcw0 := hw1.cell (HC3.out) (by first | (simp; done) | exact HNS.out | exact HNW.out | (intro hm; have hlt := HSB.out _ hm; (try dsimp only at hlt); omega))
    go_simp
    (try (first | with_reducible rfl | (apply And.intro <;> rfl)))
  simp only [Act.put, List.setIfInBounds_toArray, List.set_cons_zero, List.set_cons_succ]
  refine call_at (i := 3) (f := ?_) (args := ?_) rfl (by kernel_rfl) (by rfl) ?_ ?_
  rotate_left 2
  · go_simp
    (try (first | with_reducible rfl | (apply And.intro <;> rfl)))
  refine (HG0.out.call fun S1 k1 => int_any x.e HE.out.1 HE.out.2 _ S1 g _ k1 (by have h0 := HL.out; (try simp only [List.length_append] at *); omega)).mono ?_
  rintro e w1 ⟨rfl, hg1⟩
  have HG1 := Lib.hid hg1
  refine ⟨_, rfl, hg1.fr, fun hHeld => ?_⟩
  clear hg1 HG0
  simp only [Act.put, List.setIfInBounds_toArray, List.set_cons_zero, List.set_cons_succ]
  refine call_at (i := 6) (f := ?_) (args := ?_) rfl (by kernel_rfl) (by rfl) ?_ ?_
  rotate_left 2
  · go_simp
    (try (first | with_reducible rfl | (apply And.intro <;> rfl)))
  refine (HG1.out.call fun S1 k1 => int_any x.r HR.out.1 HR.out.2 _ S1 g _ k1 (by have h0 := HL.out; have b0 := encI_len x.e HE.out.2; (try simp only [List.length_append] at *); omega)).mono ?_
  rintro e w2 ⟨rfl, hg2⟩
  have HG2 := Lib.hid hg2
  refine ⟨_, rfl, hg2.fr, fun hHeld => ?_⟩
  clear hg2 HG1
  simp only [Act.put, List.setIfInBounds_toArray, List.set_cons_zero, List.set_cons_succ]
  refine call_at (i := 9) (f := ?_) (args := ?_) rfl (by kernel_rfl) (by rfl) ?_ ?_
  rotate_left 2
  · go_simp
    (try (first | with_reducible rfl | (apply And.intro <;> rfl)))
  refine (oneMore_any x.v HV.out w2).mono ?_
  rintro e w4 ⟨rfl, hw4⟩
  rw [hw4]
  clear hw4 w4
  refine ⟨_, rfl, HG2.out.fr, fun hHeld => ?_⟩
  simp only [Act.put, List.setIfInBounds_toArray, List.set_cons_zero, List.set_cons_succ]
  refine call_at (i := 10) (f := ?_) (args := ?_) rfl (by kernel_rfl) (by rfl) ?_ ?_
  rotate_left 2
  · go_simp
    (try (first | with_reducible rfl | (apply And.intro <;> rfl)))
  refine (HG2.out.call fun S1 k1 => num_any (oneM x.v) HM.out _ S1 g _ k1 (by have h0 := HL.out; have b0 := encI_len x.e HE.out.2; have b1 := encI_len x.r HR.out.2; (try simp only [List.length_append] at *); omega)).mono ?_
  rintro e w5 ⟨rfl, hg5⟩
  have HG5 := Lib.hid hg5
  refine ⟨_, rfl, hg5.fr, fun hHeld => ?_⟩
  clear hg5 HG2
  simp only [Act.put, List.setIfInBounds_toArray, List.set_cons_zero, List.set_cons_succ]
  refine call_at (i := 13) (f := ?_) (args := ?_) rfl (by kernel_rfl) (by rfl) ?_ ?_
  rotate_left 2
  · go_simp
    (try (first | with_reducible rfl | (apply And.intro <;> rfl)))
  refine (HG5.out.call fun S1 k1 => int_any x.p HP.out.1 HP.out.2 _ S1 g _ k1 (by have h0 := HL.out; have b0 := encI_len x.e HE.out.2; have b1 := encI_len x.r HR.out.2; have b2 := enc_ten HM.out; (try simp only [List.length_append] at *); omega)).mono ?_
  rintro e w6 ⟨rfl, hg6⟩
  have HG6 := Lib.hid hg6
  refine ⟨_, rfl, hg6.fr, fun hHeld => ?_⟩
  clear hg6 HG5
  simp only [Act.put, List.setIfInBounds_toArray, List.set_cons_zero, List.set_cons_succ]
  refine run_at (i := 14) (v := ?_) rfl (by kernel_rfl) (by rfl) (fun _ _ _ h => h) hHeld (fun w1 hw1 => ?_) ?_
  rotate_left 1
  · skip
    go_simp
    (try (first | with_reducible rfl | (apply And.intro <;> rfl)))
  simp only [Act.put, List.setIfInBounds_toArray, List.set_cons_zero, List.set_cons_succ]
  refine wpAnyH_done (by kernel_rfl) ?_ _
  go_wp2
  go_ret
  exact ⟨rfl, (HG6.out.from_ HF0.out).eq (by simp [Wpo.head, List.append_assoc])⟩
end Go.Proofs.Ytniaacjfkaakjaa

namespace Go.Proofs.Ytniaacjfkaakjaa
open Go.RowKit
set_option maxRecDepth 100000

/-- a list in new memory that the call owns -/
def NewL {α : Type} (e : TypeId) (k : Nat) (cells : α → List Value) (w w' : World) (A : Option Addr) (n c : Nat) (l : List α) : Prop :=
  w'.ownsRow 0 e k (.slice A n c) n (l.flatMap cells) ∧ Fr [] w w' ∧ ∀ x ∈ bk A, w.heap.size ≤ x
theorem cells_one {α : Type} {cells : α → List Value} (hone : ∀ v, ∀ u ∈ cells v, u.oneCell' = true) (l : List α) : ∀ u ∈ l.flatMap cells, u.oneCell' = true := by
  intro u hu
  obtain ⟨v, _, hv⟩ := List.mem_flatMap.1 hu
  exact hone v u hv
theorem cells_flat_len {α : Type} {cells : α → List Value} {k : Nat} : ∀ {l : List α}, (∀ v ∈ l, (cells v).length = k) → (l.flatMap cells).length = l.length * k
  | [], _ => by simp
  | v :: l, h => by
    rw [List.flatMap_cons, List.length_append, h v (by simp), cells_flat_len (fun u hu => h u (by simp [hu])), List.length_cons, Nat.succ_mul]
    omega
theorem flat_back {α : Type} {cells : α → List Value} {k : Nat} (hk0 : 0 < k) : ∀ {l : List α}, (∀ v ∈ l, (cells v).length = k) → ∀ {j : Nat} {u : Value}, (l.flatMap cells)[j]? = some u → ∃ v, l[j / k]? = some v ∧ (cells v)[j % k]? = some u
  | [], _, j, u, hj => by simp at hj
  | v :: l, h, j, u, hj => by
    have hv := h v (by simp)
    rw [List.flatMap_cons] at hj
    by_cases hlt : j < k
    · rw [List.getElem?_append_left (by omega)] at hj
      exact ⟨v, by rw [Nat.div_eq_of_lt hlt]; rfl, by rw [Nat.mod_eq_of_lt hlt]; exact hj⟩
    · rw [List.getElem?_append_right (by omega), hv] at hj
      obtain ⟨v', h1, h2⟩ := flat_back hk0 (fun u hu => h u (by simp [hu])) hj
      refine ⟨v', ?_, by rw [Nat.mod_eq_sub_mod (show j ≥ k by omega)]; exact h2⟩
      rw [Nat.div_eq_sub_div hk0 (show k ≤ j by omega), List.getElem?_cons_succ]
      exact h1
theorem Lst.flat {α : Type} {k : Nat} {cells : α → List Value} {ok : World → α → Prop} {w : World} {ad : Addr} {n : Nat} {l : List α} (h : Lst k cells ok w (some ad) n l) (hk : 0 < k) : ∀ j u, (l.flatMap cells)[j]? = some u → w.cell? (ad.add j) = some u := by
  intro j u hj
  obtain ⟨v, h1, h2⟩ := flat_back hk (fun v hv => (h.2.1 v hv).1) hj
  have hn : 0 < n := by
    have h3 := (List.getElem?_eq_some_iff.1 h1).1
    rw [h.1] at h3
    exact Nat.lt_of_le_of_lt (Nat.zero_le _) h3
  obtain ⟨ad', e, hc⟩ := h.2.2 hn
  injection e with e
  subst e
  have := hc _ _ h1 _ _ h2
  rwa [Nat.div_add_mod' j k] at this
section
variable {P : Program} (w : World)
theorem run_append_lst {α : Type} {cells : α → List Value} {ok : World → α → Prop} (hone : ∀ v, ∀ u ∈ cells v, u.oneCell' = true) (t ty e : TypeId) (k bytes : Nat) (ht : P.underlying t = some (.slice e)) (he : ElTy P e k bytes) (hk : 0 < k) (hby : bytes ≤ 1000)
    (A : Option Addr) (m c : Nat) (l : List α) (hr : Lst k cells ok w A m l) (hm : m ≤ 1000000) :
    ∃ A' c' w', (Builtin.append_ #[t, t] ty #[.slice none 0 0, .slice A m c]).run P w = .ok (.slice A' m c') w' ∧ NewL e k cells w w' A' m c' l := by
  obtain ⟨i, z, hi, hz, hzs, hsz, hbs⟩ := he
  have hnil : w.ownsRow 0 e k (.slice none 0 0) 0 [] := ⟨by simp, .inl ⟨rfl, rfl⟩⟩
  suffices h : ∃ v' w', (Builtin.append_ #[t, t] ty #[.slice none 0 0, .slice A m c]).run P w = .ok v' w' ∧ w'.ownsRow 0 e k v' m (l.flatMap cells) ∧ w.grownBy w' none ∧ (v'.ownBlock = none ∨ v'.ownBlock = some w.heap.size) by
    obtain ⟨v', w', h1, h2, h3, h4⟩ := h
    obtain ⟨A', c', rfl⟩ := own_form h2
    refine ⟨A', c', w', h1, h2, (Fr.refl [] w).grown h3 (by simp), fun x hx => ?_⟩
    rw [← bk_own A' m c'] at hx
    rcases h4 with h4 | h4 <;> rw [h4] at hx <;> simp at hx <;> omega
  rcases A with _ | ad
  · have hm0 : m = 0 := by
      rcases Nat.eq_zero_or_pos m with h0 | h0
      · exact h0
      · obtain ⟨ad, h, _⟩ := hr.2.2 h0
        cases h
    subst hm0
    have hn : l = [] := List.eq_nil_of_length_eq_zero hr.1
    subst hn
    exact ⟨_, w, run_append_nothing w 0 t ty e i k ht hi _ 0 [] hnil c, by simpa using hnil, World.grownBy.refl w _, .inl rfl⟩
  · obtain ⟨v', w', hrun, h2, h3, _, h5⟩ := run_append_own_at (P := P) w 0 t ty e i z k bytes ht hi hz hsz hbs hzs hk _ 0 [] hnil ad m c (l.flatMap cells)
      (by rw [cells_flat_len (fun v hv => (hr.2.1 v hv).1), hr.1]) (hr.flat hk) (cells_one hone l) (by simp only [maxLen]; omega)
      (Nat.le_trans (Nat.mul_le_mul (show 0 + m ≤ 1000000 by omega) hby) (by decide)) (Nat.zero_le _)
    exact ⟨v', w', hrun, by simpa using h2, h3, by simpa [Value.ownBlock] using h5⟩
theorem wpList_append_lst {α : Type} {cells : α → List Value} {ok : World → α → Prop} {ops : Array Oper} {rest : List Oper} {o : Oper} {a : Act} {Q : Exit → Act → World → Prop} (hgd : o.guard = none) (s x : Operand) (t : TypeId)
    (ho : o.op = .call { callee := .builtin .append, args := #[s, x], argTypes := #[t, t] }) (e : TypeId) (k bytes : Nat) (ht : P.underlying t = some (.slice e)) (he : ElTy P e k bytes) (hk : 0 < k) (hby : bytes ≤ 1000)
    (hone : ∀ v, ∀ u ∈ cells v, u.oneCell' = true) (hs : a.eval s = .slice none 0 0) (A : Option Addr) (m c : Nat) (l : List α) (hx : a.eval x = .slice A m c) (hr : Lst k cells ok w A m l) (hm : m ≤ 1000000)
    (h : ∀ A' c' w', NewL e k cells w w' A' m c' l → wpList P ops Q rest (a.put o.dst (.slice A' m c')) w') : wpList P ops Q (o :: rest) a w := by
  refine wpList_plain hgd fun K hK => ?_
  obtain ⟨A', c', w', hrun, h2⟩ := run_append_lst (P := P) w hone t o.type e k bytes ht he hk hby A m c l hr hm
  unfold Oper.wp execOp
  simp only [ho, resolve, invoke, builtin, Sem.run_bind, Sem.run_pure, Result.andThen_ok, List.map_toArray, List.map_cons, List.map_nil, hs, hx, hrun]
  exact hK _ _ (h A' c' w' h2)
end
theorem el_stamp : ElTy Try.prog 32 38 80 := ElTy.of (by kernel_rfl)
end Go.Proofs.Ytniaacjfkaakjaa

namespace Go.Proofs.Ytniaacjfkaakjaa
open Go.RowKit
set_option maxRecDepth 100000

def zeroCe : Array Value := (Wce.cells ⟨⟨0, 0, List.replicate 32 0, 0, 0, 0⟩, none, 0, 0, []⟩).toArray
theorem set_last (K : List Value) (hK : K.length = 37) (u v : Value) : (K ++ [u]).toArray.setIfInBounds 37 v = (K ++ [v]).toArray := by
  rw [List.setIfInBounds_toArray, List.set_append_right _ _ (by omega), hK]
  rfl
theorem wpList_append_one2 {P : Program} {ops : Array Oper} {rest : List Oper} {o : Oper} {a : Act} {w : World} {Q : Exit → Act → World → Prop} (hg : o.guard = none) (s x : Operand) (t e : TypeId)
    (ho : o.op = .call { callee := .builtin .append, args := #[s, x], argTypes := #[t, t] }) (ht : P.underlying t = some (.slice e)) (k bytes : Nat) (he : ElTy P e k bytes) (hk : 0 < k)
    (base : Nat) (v : Value) (n : Nat) (xs cs : List Value) (hs : a.eval s = v) (hown : w.ownsRow base e k v n xs) (hbase : base ≤ w.heap.size) (hcl : cs.length = k) (h1 : ∀ u ∈ cs, u.oneCell' = true)
    (g : Nat) (t' : TypeId) (hx : a.eval x = .slice (some ⟨g, 0, none⟩) 1 1) (hb : Blk w g t' cs.toArray) (hn : n < 1000000) (hby : bytes ≤ 1000)
    (h : ∀ A c w', w'.ownsRow base e k (.slice A (n + 1) c) (n + 1) (xs ++ cs) → Fr v.ownBlock.toList w w' → ((Value.slice A (n + 1) c).ownBlock = v.ownBlock ∨ (Value.slice A (n + 1) c).ownBlock = some w.heap.size) → wpList P ops Q rest (a.put o.dst (.slice A (n + 1) c)) w') : wpList P ops Q (o :: rest) a w := by
  obtain ⟨i, z, hi, hz, hzs, hsz, hbs⟩ := he
  refine wpList_append_lies w hg s x t ho base e i z k bytes ht hi hz hsz hbs hzs hk v n xs hs hown ⟨g, 0, none⟩ 1 1 cs hx (by omega) (fun j u hu => ?_) h1 (by omega) (by simp only [maxLen]; omega)
    (Nat.le_trans (Nat.mul_le_mul (show n + 1 ≤ 1000000 by omega) hby) (by decide)) hbase _ rfl (fun g' cap w' h2 h3 h4 _ => ?_)
  · have hadd : (⟨g, 0, none⟩ : Addr).add j = ⟨g, j, none⟩ := by unfold Addr.add; split <;> simp_all
    rw [hadd, hb.cell j]
    simpa using hu
  · exact h _ _ w' h2 ((Fr.refl _ w).grown h3 (fun y hy _ => by simp [hy])) (h4.imp (fun e => e.symm) (fun e => by rw [e]; rfl))
theorem el_cert : ElTy Try.prog 35 38 96 := ElTy.of (by kernel_rfl)
/-- ys are xs, each with five stamps at most -/
def Small (ys xs : List Wce) : Prop := ys.map (fun y => (y.k, y.l)) = xs.map (fun x => (x.k, x.l.take 5))
def zeroPr : Array Value := (Wpr.cells ⟨0, 0, 0, none, 0, 0, [], 0, 0⟩).toArray
/-- a certificate that comes in: it lies in w, with any number of stamps -/
structure Wce.In (w : World) (x : Wce) : Prop where
  k : x.k.Ok
  l : Lst 38 Wst.cells (fun _ v => v.Ok) w x.A x.n x.l
  n : x.n ≤ maxLen
  d : x.n ≤ x.d
theorem Wce.In.keep {w w' : World} {x : Wce} (h : x.In w) (hf : Fr [] w w') : x.In w' := ⟨h.k, h.l.keep' hf (by simp) (fun _ _ h => h), h.n, h.d⟩
end Go.Proofs.Ytniaacjfkaakjaa

namespace Go.Proofs.Ytniaacjfkaakjaa
open Go.ChangeShapes Go.WideShapes Go.ChangeAt Go.RowKit
set_option maxRecDepth 100000
theorem lst_of_cells {α : Type} [Inhabited α] {H : Type} {enc : TypeId × Value → H} {w : World} {spare : Nat → Bool} {held : Bool} {k : Nat} {cells : α → List Value} {ok : World → α → Prop} {t e : TypeId} (ht : Try.prog.underlying t = some (.slice e)) (hc : Try.prog.cellsOf e = k)
    (hel : ∀ fuel cs (x : DataW H × List MemPlace), DataW.trod enc Try.prog w 0 spare held fuel e cs = some x → ∃ v : α, ok w v ∧ cs = cells v) {fuel : Nat} {cs : List Value} {x : DataW H × List MemPlace} (h : DataW.trod enc Try.prog w 0 spare held fuel t cs = some x) :
    ∃ A n d, ∃ l : List α, cs = [.slice A n d] ∧ Lst k cells ok w A n l ∧ n ≤ d ∧ d ≤ maxLen := by
  rcases Go.Deep.open_slice ht h with ⟨rfl, _⟩ | ⟨a, len', cap', m, n, D, Pl, rfl, _⟩
  · obtain ⟨l, h1, h2, h3⟩ := lst_of_trod ht hc hel h
    exact ⟨_, _, _, l, rfl, h1, h2, h3⟩
  · obtain ⟨l, h1, h2, h3⟩ := lst_of_trod ht hc hel h
    exact ⟨_, _, _, l, rfl, h1, h2, h3⟩
theorem stamp_of_trod {H : Type} {enc : TypeId × Value → H} {W : World} {sp : Nat → Bool} {held : Bool} {fuel : Nat} {cs : List Value} {x0 : DataW H × List MemPlace} (h : DataW.trod enc Try.prog W 0 sp held fuel 32 cs = some x0) :
    ∃ x : Wst, x.Ok ∧ cs = x.cells := by
  obtain ⟨xs, m, _, _, hlen, hxl, hat⟩ := DataW.trod_struct Try.underlying32 h
  rw [show Try.prog.cellsOf 32 = 38 by kernel_rfl] at hlen
  have hx : ∀ i (hi : i < 5), xs[i]? = some (xs[i]'(by rw [hxl]; exact hi)) := fun i hi => List.getElem?_eq_getElem _
  have f0 : DataW.trod enc Try.prog W 0 sp held m 3 ((cs.drop 0).take (Try.prog.cellsOf 3)) = _ := (hat 0 _ rfl).trans (hx 0 (by omega))
  rw [show Try.prog.cellsOf 3 = 1 by kernel_rfl] at f0
  obtain ⟨r, e0, _, w0⟩ := DataW.trod_int Try.underlying3 f0
  have f1 : DataW.trod enc Try.prog W 0 sp held m 23 ((cs.drop 1).take (Try.prog.cellsOf 23)) = _ := (hat 1 _ rfl).trans (hx 1 (by omega))
  rw [show Try.prog.cellsOf 23 = 2 by kernel_rfl] at f1
  obtain ⟨c, s, w1, w1', e1⟩ := pair_of_trod Try.underlying23 ⟨rfl, rfl⟩ ⟨rfl, rfl⟩ (by kernel_rfl) f1
  have f2 : DataW.trod enc Try.prog W 0 sp held m 25 ((cs.drop 3).take (Try.prog.cellsOf 25)) = _ := (hat 2 _ rfl).trans (hx 2 (by omega))
  rw [show Try.prog.cellsOf 25 = 32 by kernel_rfl] at f2
  obtain ⟨hh, w2, e2⟩ := hash_of_trod f2
  have f3 : DataW.trod enc Try.prog W 0 sp held m 30 ((cs.drop 35).take (Try.prog.cellsOf 30)) = _ := (hat 3 _ rfl).trans (hx 3 (by omega))
  rw [show Try.prog.cellsOf 30 = 1 by kernel_rfl] at f3
  obtain ⟨u3, e3, _, w3⟩ := DataW.trod_int Try.underlying30 f3
  obtain ⟨t, rfl, b3⟩ := u64_of w3
  have f4 : DataW.trod enc Try.prog W 0 sp held m 27 ((cs.drop 36).take (Try.prog.cellsOf 27)) = _ := (hat 4 _ rfl).trans (hx 4 (by omega))
  rw [show Try.prog.cellsOf 27 = 2 by kernel_rfl] at f4
  obtain ⟨b, mm, w4, w4', e4⟩ := pair_of_trod Try.underlying27 ⟨rfl, rfl⟩ ⟨rfl, rfl⟩ (by kernel_rfl) f4
  refine ⟨⟨r, c, s, hh, t, b, mm⟩, ⟨i64In_of w0, w1, w1', w2, b3, w4, w4'⟩, ?_⟩
  have z : cs.drop 38 = [] := List.drop_eq_nil_of_le (by omega)
  have s0 : cs = cs.drop 0 := rfl
  rw [s0, cut_at cs 0 1 1 rfl, e0, cut_at cs 1 2 3 rfl, e1, cut_at cs 3 32 35 rfl, e2, cut_at cs 35 1 36 rfl, e3, cut_at cs 36 2 38 rfl, e4, z]
  simp [Wst.cells]
theorem deny_of_trod {H : Type} {enc : TypeId × Value → H} {W : World} {sp : Nat → Bool} {held : Bool} {fuel : Nat} {cs : List Value} {x0 : DataW H × List MemPlace} (h : DataW.trod enc Try.prog W 0 sp held fuel 56 cs = some x0) :
    ∃ x : Wdn, x.Ok ∧ cs = x.cells := by
  obtain ⟨xs, m, _, _, hlen, hxl, hat⟩ := DataW.trod_struct Try.underlying56 h
  rw [show Try.prog.cellsOf 56 = 4 by kernel_rfl] at hlen
  have hx : ∀ i (hi : i < 3), xs[i]? = some (xs[i]'(by rw [hxl]; exact hi)) := fun i hi => List.getElem?_eq_getElem _
  have f0 : DataW.trod enc Try.prog W 0 sp held m 3 ((cs.drop 0).take (Try.prog.cellsOf 3)) = _ := (hat 0 _ rfl).trans (hx 0 (by omega))
  rw [show Try.prog.cellsOf 3 = 1 by kernel_rfl] at f0
  obtain ⟨r, e0, _, w0⟩ := DataW.trod_int Try.underlying3 f0
  have f1 : DataW.trod enc Try.prog W 0 sp held m 3 ((cs.drop 1).take (Try.prog.cellsOf 3)) = _ := (hat 1 _ rfl).trans (hx 1 (by omega))
  rw [show Try.prog.cellsOf 3 = 1 by kernel_rfl] at f1
  obtain ⟨i, e1, _, w1⟩ := DataW.trod_int Try.underlying3 f1
  have f2 : DataW.trod enc Try.prog W 0 sp held m 27 ((cs.drop 2).take (Try.prog.cellsOf 27)) = _ := (hat 2 _ rfl).trans (hx 2 (by omega))
  rw [show Try.prog.cellsOf 27 = 2 by kernel_rfl] at f2
  obtain ⟨b, mm, w2, w2', e2⟩ := pair_of_trod Try.underlying27 ⟨rfl, rfl⟩ ⟨rfl, rfl⟩ (by kernel_rfl) f2
  refine ⟨⟨r, i, b, mm⟩, ⟨i64In_of w0, i64In_of w1, w2, w2'⟩, ?_⟩
  have z : cs.drop 4 = [] := List.drop_eq_nil_of_le (by omega)
  have s0 : cs = cs.drop 0 := rfl
  rw [s0, cut_at cs 0 1 1 rfl, e0, cut_at cs 1 1 2 rfl, e1, cut_at cs 2 2 4 rfl, e2, z]
  simp [Wdn.cells]
theorem commit_of_trod {H : Type} {enc : TypeId × Value → H} {W : World} {sp : Nat → Bool} {held : Bool} {fuel : Nat} {cs : List Value} {x0 : DataW H × List MemPlace} (h : DataW.trod enc Try.prog W 0 sp held fuel 29 cs = some x0) :
    ∃ x : Wcm, x.Ok ∧ cs = x.cells := by
  obtain ⟨xs, m, _, _, hlen, hxl, hat⟩ := DataW.trod_struct Try.underlying29 h
  rw [show Try.prog.cellsOf 29 = 37 by kernel_rfl] at hlen
  have hx : ∀ i (hi : i < 4), xs[i]? = some (xs[i]'(by rw [hxl]; exact hi)) := fun i hi => List.getElem?_eq_getElem _
  have f0 : DataW.trod enc Try.prog W 0 sp held m 23 ((cs.drop 0).take (Try.prog.cellsOf 23)) = _ := (hat 0 _ rfl).trans (hx 0 (by omega))
  rw [show Try.prog.cellsOf 23 = 2 by kernel_rfl] at f0
  obtain ⟨c, s, w0, w0', e0⟩ := pair_of_trod Try.underlying23 ⟨rfl, rfl⟩ ⟨rfl, rfl⟩ (by kernel_rfl) f0
  have f1 : DataW.trod enc Try.prog W 0 sp held m 25 ((cs.drop 2).take (Try.prog.cellsOf 25)) = _ := (hat 1 _ rfl).trans (hx 1 (by omega))
  rw [show Try.prog.cellsOf 25 = 32 by kernel_rfl] at f1
  obtain ⟨hh, w1, e1⟩ := hash_of_trod f1
  have f2 : DataW.trod enc Try.prog W 0 sp held m 3 ((cs.drop 34).take (Try.prog.cellsOf 3)) = _ := (hat 2 _ rfl).trans (hx 2 (by omega))
  rw [show Try.prog.cellsOf 3 = 1 by kernel_rfl] at f2
  obtain ⟨n, e2, _, w2⟩ := DataW.trod_int Try.underlying3 f2
  have f3 : DataW.trod enc Try.prog W 0 sp held m 27 ((cs.drop 35).take (Try.prog.cellsOf 27)) = _ := (hat 3 _ rfl).trans (hx 3 (by omega))
  rw [show Try.prog.cellsOf 27 = 2 by kernel_rfl] at f3
  obtain ⟨b, mm, w3, w3', e3⟩ := pair_of_trod Try.underlying27 ⟨rfl, rfl⟩ ⟨rfl, rfl⟩ (by kernel_rfl) f3
  refine ⟨⟨c, s, hh, n, b, mm⟩, ⟨w0, w0', w1, i64In_of w2, w3, w3'⟩, ?_⟩
  have z : cs.drop 37 = [] := List.drop_eq_nil_of_le (by omega)
  have s0 : cs = cs.drop 0 := rfl
  rw [s0, cut_at cs 0 2 2 rfl, e0, cut_at cs 2 32 34 rfl, e1, cut_at cs 34 1 35 rfl, e2, cut_at cs 35 2 37 rfl, e3, z]
  simp [Wcm.cells]
instance : Inhabited Wst := ⟨⟨0, 0, 0, [], 0, 0, 0⟩⟩
instance : Inhabited Wdn := ⟨⟨0, 0, 0, 0⟩⟩
instance : Inhabited Wce := ⟨⟨⟨0, 0, [], 0, 0, 0⟩, none, 0, 0, []⟩⟩
theorem cert_of_trod {H : Type} {enc : TypeId × Value → H} {W : World} {sp : Nat → Bool} {held : Bool} {fuel : Nat} {cs : List Value} {x0 : DataW H × List MemPlace} (h : DataW.trod enc Try.prog W 0 sp held fuel 35 cs = some x0) :
    ∃ x : Wce, x.In W ∧ cs = x.cells := by
  obtain ⟨xs, m, _, _, hlen, hxl, hat⟩ := DataW.trod_struct Try.underlying35 h
  rw [show Try.prog.cellsOf 35 = 38 by kernel_rfl] at hlen
  have hx : ∀ i (hi : i < 2), xs[i]? = some (xs[i]'(by rw [hxl]; exact hi)) := fun i hi => List.getElem?_eq_getElem _
  have f0 : DataW.trod enc Try.prog W 0 sp held m 29 ((cs.drop 0).take (Try.prog.cellsOf 29)) = _ := (hat 0 _ rfl).trans (hx 0 (by omega))
  rw [show Try.prog.cellsOf 29 = 37 by kernel_rfl] at f0
  obtain ⟨k, w0, e0⟩ := commit_of_trod f0
  have f1 : DataW.trod enc Try.prog W 0 sp held m 33 ((cs.drop 37).take (Try.prog.cellsOf 33)) = _ := (hat 1 _ rfl).trans (hx 1 (by omega))
  rw [show Try.prog.cellsOf 33 = 1 by kernel_rfl] at f1
  obtain ⟨A, n, d, l, e1, w1, w1', w1''⟩ := lst_of_cells (cells := Wst.cells) (ok := fun _ v => v.Ok) (k := 38) Try.underlying33 (by kernel_rfl) (fun fuel cs x h => stamp_of_trod h) f1
  refine ⟨⟨k, A, n, d, l⟩, ⟨w0, w1, Nat.le_trans w1' w1'', w1'⟩, ?_⟩
  have z : cs.drop 38 = [] := List.drop_eq_nil_of_le (by omega)
  have s0 : cs = cs.drop 0 := rfl
  rw [s0, cut_at cs 0 37 37 rfl, e0, cut_at cs 37 1 38 rfl, e1, z]
  simp [Wce.cells]
/-- a promise that comes in -/
structure Wpr.In (w : World) (x : Wpr) : Prop where
  r : i64In x.r
  e : i64In x.e
  t : x.t < 18446744073709551616
  l : Lst 38 Wce.cells (fun w v => v.In w) w x.A x.n x.l
  n : x.n ≤ maxLen
  d : x.n ≤ x.d
  b : i64In x.b
  m : i64In x.m
theorem promise_of_trod {H : Type} {enc : TypeId × Value → H} {W : World} {sp : Nat → Bool} {held : Bool} {fuel : Nat} {cs : List Value} {x0 : DataW H × List MemPlace} (h : DataW.trod enc Try.prog W 0 sp held fuel 40 cs = some x0) :
    ∃ x : Wpr, x.In W ∧ cs = x.cells := by
  obtain ⟨xs, m, _, _, hlen, hxl, hat⟩ := DataW.trod_struct Try.underlying40 h
  rw [show Try.prog.cellsOf 40 = 6 by kernel_rfl] at hlen
  have hx : ∀ i (hi : i < 5), xs[i]? = some (xs[i]'(by rw [hxl]; exact hi)) := fun i hi => List.getElem?_eq_getElem _
  have f0 : DataW.trod enc Try.prog W 0 sp held m 3 ((cs.drop 0).take (Try.prog.cellsOf 3)) = _ := (hat 0 _ rfl).trans (hx 0 (by omega))
  rw [show Try.prog.cellsOf 3 = 1 by kernel_rfl] at f0
  obtain ⟨r, e0, _, w0⟩ := DataW.trod_int Try.underlying3 f0
  have f1 : DataW.trod enc Try.prog W 0 sp held m 3 ((cs.drop 1).take (Try.prog.cellsOf 3)) = _ := (hat 1 _ rfl).trans (hx 1 (by omega))
  rw [show Try.prog.cellsOf 3 = 1 by kernel_rfl] at f1
  obtain ⟨e, e1, _, w1⟩ := DataW.trod_int Try.underlying3 f1
  have f2 : DataW.trod enc Try.prog W 0 sp held m 30 ((cs.drop 2).take (Try.prog.cellsOf 30)) = _ := (hat 2 _ rfl).trans (hx 2 (by omega))
  rw [show Try.prog.cellsOf 30 = 1 by kernel_rfl] at f2
  obtain ⟨u2, e2, _, w2⟩ := DataW.trod_int Try.underlying30 f2
  obtain ⟨t, rfl, b2⟩ := u64_of w2
  have f3 : DataW.trod enc Try.prog W 0 sp held m 38 ((cs.drop 3).take (Try.prog.cellsOf 38)) = _ := (hat 3 _ rfl).trans (hx 3 (by omega))
  rw [show Try.prog.cellsOf 38 = 1 by kernel_rfl] at f3
  obtain ⟨A, n, d, l, e3, w3, w3', w3''⟩ := lst_of_cells (cells := Wce.cells) (ok := fun w v => v.In w) (k := 38) Try.underlying38 (by kernel_rfl) (fun fuel cs x h => cert_of_trod h) f3
  have f4 : DataW.trod enc Try.prog W 0 sp held m 27 ((cs.drop 4).take (Try.prog.cellsOf 27)) = _ := (hat 4 _ rfl).trans (hx 4 (by omega))
  rw [show Try.prog.cellsOf 27 = 2 by kernel_rfl] at f4
  obtain ⟨b, mm, w4, w4', e4⟩ := pair_of_trod Try.underlying27 ⟨rfl, rfl⟩ ⟨rfl, rfl⟩ (by kernel_rfl) f4
  refine ⟨⟨r, e, t, A, n, d, l, b, mm⟩, ⟨i64In_of w0, i64In_of w1, b2, w3, Nat.le_trans w3' w3'', w3', w4, w4'⟩, ?_⟩
  have z : cs.drop 6 = [] := List.drop_eq_nil_of_le (by omega)
  have s0 : cs = cs.drop 0 := rfl
  rw [s0, cut_at cs 0 1 1 rfl, e0, cut_at cs 1 1 2 rfl, e1, cut_at cs 2 1 3 rfl, e2, cut_at cs 3 1 4 rfl, e3, cut_at cs 4 2 6 rfl, e4, z]
  simp [Wpr.cells]
end Go.Proofs.Ytniaacjfkaakjaa

namespace Go.Proofs.Ytniaacjfkaakjaa
open Go.RowKit
set_option maxRecDepth 100000
theorem el_deny : ElTy Try.prog 56 4 32 := ElTy.of (by kernel_rfl)
theorem el_prm : ElTy Try.prog 40 6 64 := ElTy.of (by kernel_rfl)
theorem el_opn : ElTy Try.prog 54 34 64 := ElTy.of (by kernel_rfl)
theorem el_tomb : ElTy Try.prog 135 2 32 := ElTy.of (by kernel_rfl)
/-- an element that lies apart from what stood there and from the list that grows stays so -/
theorem keepAll {α : Type} {ok : World → List Nat → α → Prop} (hkeep : ∀ {w W : World} {S S' : List Nat} {x : α}, ok w S x → Fr S w W → (∀ k ∈ S', k < w.heap.size → k ∈ S) → ok W S' x)
    {N : Nat} {w w9 : World} {B4 B9 : List Nat} (hf : Fr B4 w w9) (hb : ∀ q ∈ B9, q ∈ B4 ∨ w.heap.size ≤ q) {x : α} (h : ∀ S0, (∀ q ∈ S0, q < N ∨ q ∈ B4) → ok w S0 x) :
    ∀ S0, (∀ q ∈ S0, q < N ∨ q ∈ B9) → ok w9 S0 x := by
  intro S0 h0
  refine hkeep (h (B4 ++ S0.filter (fun q => decide (q < N))) (fun q hq => ?_)) (hf.mono (fun k hk _ => List.mem_append.2 (.inl hk))) (fun q hq hl => ?_)
  · rcases List.mem_append.1 hq with hq | hq
    · exact .inr hq
    · exact .inl (by simpa using (List.mem_filter.1 hq).2)
  · rcases h0 q hq with h1 | h1
    · exact List.mem_append.2 (.inr (List.mem_filter.2 ⟨hq, by simpa using h1⟩))
    · rcases hb q h1 with h2 | h2
      · exact List.mem_append.2 (.inl h2)
      · omega
/-- an opening, a tombstone, a batch that comes in -/
structure Wop.In (w : World) (x : Wop) : Prop where
  i : i64In x.i
  p : By w x.A x.n x.p
  n : x.n ≤ maxLen
  d : x.n ≤ x.d
  h : x.h.length = 32
theorem Wop.In.keep {w w' : World} {x : Wop} (h : x.In w) (hf : Fr [] w w') : x.In w' := ⟨h.i, h.p.keep hf (by simp), h.n, h.d, h.h⟩
structure Wtb.In (w : World) (x : Wtb) : Prop where
  i : i64In x.i
  l : Lst 4 Wdn.cells (fun _ v => v.Ok) w x.A x.n x.l
  n : x.n ≤ maxLen
  d : x.n ≤ x.d
theorem Wtb.In.keep {w w' : World} {x : Wtb} (h : x.In w) (hf : Fr [] w w') : x.In w' := ⟨h.i, h.l.keep' hf (by simp) (fun _ _ h => h), h.n, h.d⟩
theorem Wpr.In.keep {w w' : World} {x : Wpr} (h : x.In w) (hf : Fr [] w w') : x.In w' := ⟨h.r, h.e, h.t, h.l.keep' hf (by simp) (fun _ _ h => h.keep hf), h.n, h.d, h.b, h.m⟩
structure Wba.In (w : World) (x : Wba) : Prop where
  e : i64In x.e
  t : x.t < 18446744073709551616
  l : Lst 6 Wpr.cells (fun w v => v.In w) w x.A x.n x.l
  n : x.n ≤ maxLen
  l2 : Lst 34 Wop.cells (fun w v => v.In w) w x.A2 x.n2 x.l2
  n2 : x.n2 ≤ maxLen
  l3 : Lst 2 Wtb.cells (fun w v => v.In w) w x.A3 x.n3 x.l3
  n3 : x.n3 ≤ maxLen
theorem Wba.In.keep {w w' : World} {x : Wba} (h : x.In w) (hf : Fr [] w w') : x.In w' :=
  ⟨h.e, h.t, h.l.keep' hf (by simp) (fun _ _ h => h.keep hf), h.n, h.l2.keep' hf (by simp) (fun _ _ h => h.keep hf), h.n2, h.l3.keep' hf (by simp) (fun _ _ h => h.keep hf), h.n3⟩
/-- a proposal that comes in -/
structure Wpo.In (w : World) (x : Wpo) : Prop where
  e : i64In x.e
  r : i64In x.r
  v : i64In x.v
  p : i64In x.p
  k : x.k.In w
  b : i64In x.b
  m : i64In x.m
def zeroBa : Array Value := (Wba.cells ⟨0, 0, none, 0, 0, [], none, 0, 0, [], none, 0, 0, []⟩).toArray

end Go.Proofs.Ytniaacjfkaakjaa

namespace Go.Proofs.Ytniaacjfkaakjaa
open Go.RowKit
set_option maxRecDepth 100000
def pRep {α : Type} (p : Ps → α × Ps) : Nat → Ps → List α × Ps
  | 0, s => ([], s)
  | n + 1, s => ((pRep p n s).1 ++ [(p (pRep p n s).2).1], (p (pRep p n s).2).2)
def pL {α : Type} (p : Ps → α × Ps) (s : Ps) : List α × Ps := pRep p (pC s).1 (pC s).2
/-- parts as a reader takes them: how many there are is not bounded but by what may be read -/
structure Wce.Li (w : World) (S : List Nat) (x : Wce) : Prop where
  k : x.k.Ok
  l : Lst 38 Wst.cells (fun _ v => v.Ok) w x.A x.n x.l
  n : x.n ≤ 100
  ap : 0 < x.n → ∀ a, x.A = some a → ¬ a.block ∈ S
theorem Wce.Li.keep {w W : World} {S S' : List Nat} {x : Wce} (h : x.Li w S) (hf : Fr S w W) (hs : ∀ k ∈ S', k < w.heap.size → k ∈ S) : x.Li W S' :=
  ⟨h.k, h.l.keep' hf h.ap (fun _ _ h => h), h.n, fun hn a ha hin => h.ap hn a ha (hs _ hin (h.l.lt hn (by decide) (fun v hv => Wst.len (h.l.2.1 v hv).2.h) a ha))⟩
structure Wpr.Li (w : World) (S : List Nat) (x : Wpr) : Prop where
  r : i64In x.r
  e : i64In x.e
  t : x.t < 18446744073709551616
  l : Lst 38 Wce.cells (fun w v => v.Li w S) w x.A x.n x.l
  n : x.n ≤ 100
  ap : 0 < x.n → ∀ a, x.A = some a → ¬ a.block ∈ S
  b : i64In x.b
  m : i64In x.m
theorem Wpr.Li.keep {w W : World} {S S' : List Nat} {x : Wpr} (h : x.Li w S) (hf : Fr S w W) (hs : ∀ k ∈ S', k < w.heap.size → k ∈ S) : x.Li W S' :=
  ⟨h.r, h.e, h.t, h.l.keep' hf h.ap (fun _ _ h => h.keep hf hs), h.n, fun hn a ha hin => h.ap hn a ha (hs _ hin (h.l.lt hn (by decide) (fun v hv => Wce.len (h.l.2.1 v hv).2.k.h) a ha)), h.b, h.m⟩
structure Wtb.Li (w : World) (S : List Nat) (x : Wtb) : Prop where
  i : i64In x.i
  l : Lst 4 Wdn.cells (fun _ v => v.Ok) w x.A x.n x.l
  n : x.n ≤ 100
  ap : 0 < x.n → ∀ a, x.A = some a → ¬ a.block ∈ S
theorem Wtb.Li.keep {w W : World} {S S' : List Nat} {x : Wtb} (h : x.Li w S) (hf : Fr S w W) (hs : ∀ k ∈ S', k < w.heap.size → k ∈ S) : x.Li W S' :=
  ⟨h.i, h.l.keep' hf h.ap (fun _ _ h => h), h.n, fun hn a ha hin => h.ap hn a ha (hs _ hin (h.l.lt hn (by decide) (fun v hv => Wdn.len v) a ha))⟩
structure Wba.Li (w : World) (S : List Nat) (x : Wba) : Prop where
  e : i64In x.e
  t : x.t < 18446744073709551616
  l : Lst 6 Wpr.cells (fun w v => v.Li w S) w x.A x.n x.l
  n : x.n ≤ 100
  ap : 0 < x.n → ∀ a, x.A = some a → ¬ a.block ∈ S
  l2 : Lst 34 Wop.cells (fun w v => v.Ok w S) w x.A2 x.n2 x.l2
  n2 : x.n2 ≤ 100
  ap2 : 0 < x.n2 → ∀ a, x.A2 = some a → ¬ a.block ∈ S
  l3 : Lst 2 Wtb.cells (fun w v => v.Li w S) w x.A3 x.n3 x.l3
  n3 : x.n3 ≤ 100
  ap3 : 0 < x.n3 → ∀ a, x.A3 = some a → ¬ a.block ∈ S
theorem Wba.Li.keep {w W : World} {S S' : List Nat} {x : Wba} (h : x.Li w S) (hf : Fr S w W) (hs : ∀ k ∈ S', k < w.heap.size → k ∈ S) : x.Li W S' :=
  ⟨h.e, h.t, h.l.keep' hf h.ap (fun _ _ h => h.keep hf hs), h.n, fun hn a ha hin => h.ap hn a ha (hs _ hin (h.l.lt hn (by decide) (fun _ _ => rfl) a ha)),
    h.l2.keep' hf h.ap2 (fun _ _ h => h.keep hf hs), h.n2, fun hn a ha hin => h.ap2 hn a ha (hs _ hin (h.l2.lt hn (by decide) (fun v hv => Wop.len (h.l2.2.1 v hv).2.h) a ha)),
    h.l3.keep' hf h.ap3 (fun _ _ h => h.keep hf hs), h.n3, fun hn a ha hin => h.ap3 hn a ha (hs _ hin (h.l3.lt hn (by decide) (fun _ _ => rfl) a ha))⟩
/-- what a part says, wherever it lies -/
abbrev Cce := Wcm × List Wst
def Wce.con (x : Wce) : Cce := (x.k, x.l)
structure Cpr where
  r : Int
  e : Int
  t : Nat
  l : List Cce
  b : Int
  m : Int
def Wpr.con (x : Wpr) : Cpr := ⟨x.r, x.e, x.t, x.l.map Wce.con, x.b, x.m⟩
structure Cop where
  i : Int
  p : List UInt8
  h : List UInt8
def Wop.con (x : Wop) : Cop := ⟨x.i, x.p, x.h⟩
structure Ctb where
  i : Int
  l : List Wdn
def Wtb.con (x : Wtb) : Ctb := ⟨x.i, x.l⟩
structure Cba where
  e : Int
  t : Nat
  l : List Cpr
  l2 : List Cop
  l3 : List Ctb
def Wba.con (x : Wba) : Cba := ⟨x.e, x.t, x.l.map Wpr.con, x.l2.map Wop.con, x.l3.map Wtb.con⟩
def pCe (s : Ps) : Cce × Ps := (((pCm s).1, (pL pSt (pCm s).2).1), (pL pSt (pCm s).2).2)
def pPr (s : Ps) : Cpr × Ps :=
  let r := pI s; let e := pI r.2; let t := pN e.2; let l := pL pCe t.2; let q := p2 l.2
  (⟨r.1, e.1, t.1, l.1, q.1.1, q.1.2⟩, q.2)
def pOp (s : Ps) : Cop × Ps := let i := pI s; let p := pR i.2; let h := pH p.2; (⟨i.1, p.1, h.1⟩, h.2)
def pTb (s : Ps) : Ctb × Ps := let i := pI s; let l := pL pDn i.2; (⟨i.1, l.1⟩, l.2)
def pBa (s : Ps) : Cba × Ps :=
  let e := pI s; let t := pN e.2; let l := pL pPr t.2; let l2 := pL pOp l.2; let l3 := pL pTb l2.2
  (⟨e.1, t.1, l.1, l2.1, l3.1⟩, l3.2)
/-- what a reader of one part does -/
def Gets {α β : Type} (f : FuncId) (cells : α → List Value) (ok : World → List Nat → α → Prop) (con : α → β) (p : Ps → β × Ps) : Prop :=
  ∀ (w : World) (F : List Nat) (g : Nat) (s : Ps), Rs w F g s → Calls Try.prog f #[.pointer (some ⟨g, 0, none⟩)] w fun e w' => ∃ v : α, e = .returned (.agg (cells v).toArray) ∧ con v = (p s).1 ∧ (∀ S0 : List Nat, (∀ q ∈ S0, q < w.heap.size) → ok w' S0 v) ∧ Rs w' F g (p s).2 ∧ Fr [g] w w'
/-- a list that a reader has made -/
structure GotL {α β : Type} (e : TypeId) (K : Nat) (cells : α → List Value) (ok : World → List Nat → α → Prop) (con : α → β) (w w' : World) (A : Option Addr) (n c : Nat) (l : List α) (r : List β) : Prop where
  own : w'.ownsRow 0 e K (.slice A n c) n (l.flatMap cells)
  len : l.length = n
  con : l.map con = r
  few : n ≤ 100
  new : ∀ q ∈ bk A, w.heap.size ≤ q
  ok : ∀ v ∈ l, ∀ S0 : List Nat, (∀ q ∈ S0, q < w.heap.size) → ok w' S0 v
theorem gets_of {α : Type} {f : FuncId} {cells : α → List Value} {p : Ps → α × Ps} {ok : α → Prop} (h : ∀ (w : World) (F : List Nat) (g : Nat) (s : Ps), Rs w F g s → Calls Try.prog f #[.pointer (some ⟨g, 0, none⟩)] w fun e w' => e = .returned (.agg (cells (p s).1).toArray) ∧ Rs w' F g (p s).2 ∧ Fr [g] w w') (ho : ∀ s, ok (p s).1) :
    Gets f cells (fun _ _ v => ok v) id p := fun w F g s hr => (h w F g s hr).mono fun _ _ ⟨h1, h2, h3⟩ => ⟨_, h1, rfl, fun _ _ => ho s, h2, h3⟩

set_option maxHeartbeats 4000000 in
theorem getStamps_any {α β : Type} (cells : α → List Value) (ok : World → List Nat → α → Prop) (con : α → β) (p : Ps → β × Ps) (hone : ∀ v, ∀ u ∈ cells v, u.oneCell' = true)
    (hkeep : ∀ {w W : World} {S S' : List Nat} {x : α}, ok w S x → Fr S w W → (∀ k ∈ S', k < w.heap.size → k ∈ S) → ok W S' x) (hlen : ∀ w S v, ok w S v → (cells v).length = 38) (hget : Gets 47 cells ok con p)
    (w : World) (F : List Nat) (g : Nat) (s : Ps) (hr : Rs w F g s) :
    Calls Try.prog 76 #[.pointer (some ⟨g, 0, none⟩), fnV 47] w fun e w' => ∃ (A : Option Addr) (n c : Nat) (l : List α), e = .returned (.slice A n c) ∧ GotL 32 38 cells ok con w w' A n c l (pL p s).1 ∧ Rs w' F g (pL p s).2 ∧ Fr [g] w w' := by
  have HR := Lib.hid hr
  have HG : Hid (g < w.heap.size ∧ ∀ k ∈ F, k < w.heap.size) := Lib.hid ⟨hr.gt, hr.lt⟩
  have HGET := Lib.hid hget
  clear hr hget
  unfold fnV
  go_enter Try.func76, Try.ntmps76
  go_wp2_with fail
  refine (getCount_any HR.out).mono ?_
  rintro e_ w1 ⟨rfl, h1, h2⟩
  have HR1 := Lib.hid h1
  have HF1 := Lib.hid h2
  have HPL : Hid (pL p s = pRep p (pC s).1 (pC s).2) := Lib.hid rfl
  have hn := pC_le s
  clear h1 h2
  generalize (pC s).1 = n at *
  generalize (pC s).2 = s1 at *
  go_wp2_with fail
  go_loopw [5, 8] (fun sl i wr => ∃ (k : Nat) (A4 : Option Addr) (c4 : Nat) (ys : List α), k ≤ n ∧ i = .int .i64 k ∧ sl = .slice A4 k c4 ∧ ys.length = k ∧ Hid (ys.map con = (pRep p k s1).1) ∧ Hid (wr.ownsRow 0 32 38 (.slice A4 k c4) k (ys.flatMap cells)) ∧ Hid (∀ q ∈ bk A4, w.heap.size ≤ q) ∧ Hid (∀ y ∈ ys, ∀ S0 : List Nat, (∀ q ∈ S0, q < w.heap.size ∨ q ∈ bk A4) → ok wr S0 y) ∧ Hid (Rs wr F g (pRep p k s1).2) ∧ Hid (Fr [g] w wr)) (fun _ i _ => n - (intOf i).toNat)
  case atStart => exact ⟨0, none, 0, [], by omega, rfl, rfl, rfl, Lib.hid rfl, Lib.hid ⟨by simp, .inl ⟨rfl, rfl⟩⟩, Lib.hid (by simp [bk]), Lib.hid (by simp), HR1, HF1⟩
  case round =>
    obtain ⟨k, A4, c4, ys, hk, rfl, rfl, hyl, HCN, HO, HNA, HYS, HRR, HF⟩ := hrel
    by_cases hlt : k < n
    · have HKN : Hid (k < n) := Lib.hid hlt
      have hk0 : (0 : Int) ≤ k := by omega
      go_wp2_with fail
      refine (HGET.out wr F g _ HRR.out).mono ?_
      rintro e_ w4 ⟨y, rfl, hyc, hyok, hr4, hf4⟩
      have HYC := Lib.hid hyc
      have HR4 := Lib.hid hr4
      have HF4 := Lib.hid hf4
      have HNW : Hid (∀ S0 : List Nat, (∀ q ∈ S0, q < w.heap.size ∨ q ∈ g :: bk A4) → ok w4 S0 y) := Lib.hid (fun S0 h0 => hyok S0 (fun q hq => by
        have h1 := HF.out.size
        have h2 := HG.out.1
        rcases h0 q hq with h | h
        · omega
        · rcases List.mem_cons.1 h with h | h
          · omega
          · exact own_lt HO.out q ((bk_mem A4 k c4 q).2 h)))
      have hD : (cells y).length = 38 := hlen _ _ _ (hyok [] (by simp))
      have hD1 := hone y
      have HO4 := Lib.hid (own_keep HO.out hf4 (fun q hq hm => by have h1 := HNA.out q ((bk_mem A4 k c4 q).1 hq); have h2 := HG.out.1; simp at hm; omega))
      obtain ⟨D, hDY⟩ : ∃ D, D = cells y := ⟨_, rfl⟩
      rw [← hDY] at hD hD1 ⊢
      have HD := Lib.hid hD
      have HD1 := Lib.hid hD1
      have HDY := Lib.hid hDY
      clear hyc hyok hr4 hf4 hD hD1 hDY hlt
      go_wp2_with (first | (refine wpList_build_one rfl 33 32 _ rfl Try.underlying33 D 80 (by rw [HD.out]; exact el_stamp) rfl (by rw [HD.out]; decide) (by rw [HD.out]; decide) ?_) | (at_builtin; refine Stop.mk ?_))
      refine Stop.go ?_
      refine wpList_append_one2 rfl _ _ 33 32 rfl Try.underlying33 38 80 el_stamp (by decide) 0 (.slice A4 k c4) k _ D rfl (HO4.out.alloc _) (Nat.zero_le _) HD.out HD1.out w4.heap.size 32 rfl (Blk.new _ _ _) (by omega) (by decide) ?_
      intro A9 c9 w9 ho9 hf9 hb9
      have HO9 := Lib.hid ho9
      have HF9 : Hid (Fr (bk A4) w4 w9) := Lib.hid (by
        have h : Fr (bk A4) (w4.alloc (Obj.cells D.toArray 32)) w9 := by rw [← bk_own A4 k c4]; exact hf9
        exact (((Fr.refl [] w4).alloc _).mono (by simp)).trans h (fun y hy _ => hy))
      have HB9 : Hid (∀ q ∈ bk A9, q ∈ bk A4 ∨ w4.heap.size ≤ q) := Lib.hid (by
        intro q hq
        rw [← bk_own A9 (k + 1) c9] at hq
        rcases hb9 with h | h
        · rw [h, bk_own] at hq; exact .inl hq
        · rw [h] at hq; simp at hq; exact .inr (by omega))
      clear ho9 hf9 hb9
      go_wp2
      go_roundw
      case rel =>
        have hbl : ∀ q ∈ bk A4, w.heap.size ≤ q := HNA.out
        refine ⟨k + 1, A9, c9, ys ++ [y], by have := HKN.out; omega, by go_num, rfl, by simp [hyl], ?_, ?_, ?_, ?_, ?_, ?_⟩
        · exact Lib.hid (by rw [List.map_append, HCN.out]; show _ ++ [con y] = _; rw [HYC.out]; rfl)
        · refine Lib.hid ?_
          rw [List.flatMap_append, List.flatMap_singleton, ← HDY.out]
          exact HO9.out
        · refine Lib.hid (fun q hq => ?_)
          rcases HB9.out q hq with h | h
          · exact hbl q h
          · have h1 := HF.out.size; have h2 := HF4.out.size; omega
        · refine Lib.hid (fun u hu S0 h0 => ?_)
          have hfg : Fr (g :: bk A4) w4 w9 := HF9.out.mono (fun q hq _ => by simp [hq])
          have hfr : Fr (g :: bk A4) wr w9 := (HF4.out.mono (fun q hq _ => by simp at hq; simp [hq])).trans hfg (fun q hq _ => hq)
          have h0' : ∀ q ∈ S0, q < w.heap.size ∨ q ∈ g :: bk A9 := fun q hq => (h0 q hq).imp id (fun h => by simp [h])
          have hsz := HF4.out.size
          rcases List.mem_append.1 hu with hu | hu
          · refine keepAll (ok := ok) (fun h f s => hkeep h f s) (w := wr) (B4 := g :: bk A4) (B9 := g :: bk A9) hfr (fun q hq => ?_) (fun S1 h1 => HYS.out u hu S1 (fun q hq => ?_)) S0 h0'
            · rcases List.mem_cons.1 hq with h | h
              · exact .inl (by simp [h])
              · exact (HB9.out q h).imp (fun h => by simp [h]) (fun h => by omega)
            · rcases h1 q hq with h | h
              · exact .inl h
              · rcases List.mem_cons.1 h with h | h
                · exact .inl (by have := HG.out.1; omega)
                · exact .inr h
          · rw [List.mem_singleton.1 hu]
            refine keepAll (ok := ok) (fun h f s => hkeep h f s) (w := w4) (B4 := g :: bk A4) (B9 := g :: bk A9) hfg (fun q hq => ?_) HNW.out S0 h0'
            rcases List.mem_cons.1 hq with h | h
            · exact .inl (by simp [h])
            · exact (HB9.out q h).imp (fun h => by simp [h]) id
        · refine Lib.hid (HR4.out.fr HF9.out (fun hm => ?_) (fun q hq hm => ?_))
          · have h1 := hbl _ hm; have h2 := HG.out.1; omega
          · have h1 := hbl _ hm; have h2 := HG.out.2 q hq; omega
        · exact Lib.hid ((HF.out.trans HF4.out (fun q hq _ => hq)).trans HF9.out (fun q hq hl => by have := hbl q hq; omega))
      case measure => have := HKN.out; simp [intOf]; omega
    · have hkn : n = k := by omega
      subst hkn
      have HFIN : Hid (GotL 32 38 cells ok con w wr A4 n c4 ys (pL p s).1 ∧ Rs wr F g (pL p s).2) := Lib.hid (by
        rw [HPL.out]
        exact ⟨⟨HO.out, hyl, HCN.out, hn, HNA.out, fun v hv S0 h0 => HYS.out v hv S0 (fun q hq => .inl (h0 q hq))⟩, HRR.out⟩)
      clear hlt hk
      go_wp2
      go_ret
      exact ⟨A4, n, c4, ys, rfl, HFIN.out.1, HFIN.out.2, HF.out⟩

set_option maxHeartbeats 4000000 in
theorem getCerts_any {α β : Type} (cells : α → List Value) (ok : World → List Nat → α → Prop) (con : α → β) (p : Ps → β × Ps) (hone : ∀ v, ∀ u ∈ cells v, u.oneCell' = true)
    (hkeep : ∀ {w W : World} {S S' : List Nat} {x : α}, ok w S x → Fr S w W → (∀ k ∈ S', k < w.heap.size → k ∈ S) → ok W S' x) (hlen : ∀ w S v, ok w S v → (cells v).length = 38) (hget : Gets 48 cells ok con p)
    (w : World) (F : List Nat) (g : Nat) (s : Ps) (hr : Rs w F g s) :
    Calls Try.prog 78 #[.pointer (some ⟨g, 0, none⟩), fnV 48] w fun e w' => ∃ (A : Option Addr) (n c : Nat) (l : List α), e = .returned (.slice A n c) ∧ GotL 35 38 cells ok con w w' A n c l (pL p s).1 ∧ Rs w' F g (pL p s).2 ∧ Fr [g] w w' := by
  have HR := Lib.hid hr
  have HG : Hid (g < w.heap.size ∧ ∀ k ∈ F, k < w.heap.size) := Lib.hid ⟨hr.gt, hr.lt⟩
  have HGET := Lib.hid hget
  clear hr hget
  unfold fnV
  go_enter Try.func78, Try.ntmps78
  go_wp2_with fail
  refine (getCount_any HR.out).mono ?_
  rintro e_ w1 ⟨rfl, h1, h2⟩
  have HR1 := Lib.hid h1
  have HF1 := Lib.hid h2
  have HPL : Hid (pL p s = pRep p (pC s).1 (pC s).2) := Lib.hid rfl
  have hn := pC_le s
  clear h1 h2
  generalize (pC s).1 = n at *
  generalize (pC s).2 = s1 at *
  go_wp2_with fail
  go_loopw [5, 8] (fun sl i wr => ∃ (k : Nat) (A4 : Option Addr) (c4 : Nat) (ys : List α), k ≤ n ∧ i = .int .i64 k ∧ sl = .slice A4 k c4 ∧ ys.length = k ∧ Hid (ys.map con = (pRep p k s1).1) ∧ Hid (wr.ownsRow 0 35 38 (.slice A4 k c4) k (ys.flatMap cells)) ∧ Hid (∀ q ∈ bk A4, w.heap.size ≤ q) ∧ Hid (∀ y ∈ ys, ∀ S0 : List Nat, (∀ q ∈ S0, q < w.heap.size ∨ q ∈ bk A4) → ok wr S0 y) ∧ Hid (Rs wr F g (pRep p k s1).2) ∧ Hid (Fr [g] w wr)) (fun _ i _ => n - (intOf i).toNat)
  case atStart => exact ⟨0, none, 0, [], by omega, rfl, rfl, rfl, Lib.hid rfl, Lib.hid ⟨by simp, .inl ⟨rfl, rfl⟩⟩, Lib.hid (by simp [bk]), Lib.hid (by simp), HR1, HF1⟩
  case round =>
    obtain ⟨k, A4, c4, ys, hk, rfl, rfl, hyl, HCN, HO, HNA, HYS, HRR, HF⟩ := hrel
    by_cases hlt : k < n
    · have HKN : Hid (k < n) := Lib.hid hlt
      have hk0 : (0 : Int) ≤ k := by omega
      go_wp2_with fail
      refine (HGET.out wr F g _ HRR.out).mono ?_
      rintro e_ w4 ⟨y, rfl, hyc, hyok, hr4, hf4⟩
      have HYC := Lib.hid hyc
      have HR4 := Lib.hid hr4
      have HF4 := Lib.hid hf4
      have HNW : Hid (∀ S0 : List Nat, (∀ q ∈ S0, q < w.heap.size ∨ q ∈ g :: bk A4) → ok w4 S0 y) := Lib.hid (fun S0 h0 => hyok S0 (fun q hq => by
        have h1 := HF.out.size
        have h2 := HG.out.1
        rcases h0 q hq with h | h
        · omega
        · rcases List.mem_cons.1 h with h | h
          · omega
          · exact own_lt HO.out q ((bk_mem A4 k c4 q).2 h)))
      have hD : (cells y).length = 38 := hlen _ _ _ (hyok [] (by simp))
      have hD1 := hone y
      have HO4 := Lib.hid (own_keep HO.out hf4 (fun q hq hm => by have h1 := HNA.out q ((bk_mem A4 k c4 q).1 hq); have h2 := HG.out.1; simp at hm; omega))
      obtain ⟨D, hDY⟩ : ∃ D, D = cells y := ⟨_, rfl⟩
      rw [← hDY] at hD hD1 ⊢
      have HD := Lib.hid hD
      have HD1 := Lib.hid hD1
      have HDY := Lib.hid hDY
      clear hyc hyok hr4 hf4 hD hD1 hDY hlt
      go_wp2_with (first | (refine wpList_build_one rfl 38 35 _ rfl Try.underlying38 D 96 (by rw [HD.out]; exact el_cert) rfl (by rw [HD.out]; decide) (by rw [HD.out]; decide) ?_) | (at_builtin; refine Stop.mk ?_))
      refine Stop.go ?_
      refine wpList_append_one2 rfl _ _ 38 35 rfl Try.underlying38 38 96 el_cert (by decide) 0 (.slice A4 k c4) k _ D rfl (HO4.out.alloc _) (Nat.zero_le _) HD.out HD1.out w4.heap.size 35 rfl (Blk.new _ _ _) (by omega) (by decide) ?_
      intro A9 c9 w9 ho9 hf9 hb9
      have HO9 := Lib.hid ho9
      have HF9 : Hid (Fr (bk A4) w4 w9) := Lib.hid (by
        have h : Fr (bk A4) (w4.alloc (Obj.cells D.toArray 35)) w9 := by rw [← bk_own A4 k c4]; exact hf9
        exact (((Fr.refl [] w4).alloc _).mono (by simp)).trans h (fun y hy _ => hy))
      have HB9 : Hid (∀ q ∈ bk A9, q ∈ bk A4 ∨ w4.heap.size ≤ q) := Lib.hid (by
        intro q hq
        rw [← bk_own A9 (k + 1) c9] at hq
        rcases hb9 with h | h
        · rw [h, bk_own] at hq; exact .inl hq
        · rw [h] at hq; simp at hq; exact .inr (by omega))
      clear ho9 hf9 hb9
      go_wp2
      go_roundw
      case rel =>
        have hbl : ∀ q ∈ bk A4, w.heap.size ≤ q := HNA.out
        refine ⟨k + 1, A9, c9, ys ++ [y], by have := HKN.out; omega, by go_num, rfl, by simp [hyl], ?_, ?_, ?_, ?_, ?_, ?_⟩
        · exact Lib.hid (by rw [List.map_append, HCN.out]; show _ ++ [con y] = _; rw [HYC.out]; rfl)
        · refine Lib.hid ?_
          rw [List.flatMap_append, List.flatMap_singleton, ← HDY.out]
          exact HO9.out
        · refine Lib.hid (fun q hq => ?_)
          rcases HB9.out q hq with h | h
          · exact hbl q h
          · have h1 := HF.out.size; have h2 := HF4.out.size; omega
        · refine Lib.hid (fun u hu S0 h0 => ?_)
          have hfg : Fr (g :: bk A4) w4 w9 := HF9.out.mono (fun q hq _ => by simp [hq])
          have hfr : Fr (g :: bk A4) wr w9 := (HF4.out.mono (fun q hq _ => by simp at hq; simp [hq])).trans hfg (fun q hq _ => hq)
          have h0' : ∀ q ∈ S0, q < w.heap.size ∨ q ∈ g :: bk A9 := fun q hq => (h0 q hq).imp id (fun h => by simp [h])
          have hsz := HF4.out.size
          rcases List.mem_append.1 hu with hu | hu
          · refine keepAll (ok := ok) (fun h f s => hkeep h f s) (w := wr) (B4 := g :: bk A4) (B9 := g :: bk A9) hfr (fun q hq => ?_) (fun S1 h1 => HYS.out u hu S1 (fun q hq => ?_)) S0 h0'
            · rcases List.mem_cons.1 hq with h | h
              · exact .inl (by simp [h])
              · exact (HB9.out q h).imp (fun h => by simp [h]) (fun h => by omega)
            · rcases h1 q hq with h | h
              · exact .inl h
              · rcases List.mem_cons.1 h with h | h
                · exact .inl (by have := HG.out.1; omega)
                · exact .inr h
          · rw [List.mem_singleton.1 hu]
            refine keepAll (ok := ok) (fun h f s => hkeep h f s) (w := w4) (B4 := g :: bk A4) (B9 := g :: bk A9) hfg (fun q hq => ?_) HNW.out S0 h0'
            rcases List.mem_cons.1 hq with h | h
            · exact .inl (by simp [h])
            · exact (HB9.out q h).imp (fun h => by simp [h]) id
        · refine Lib.hid (HR4.out.fr HF9.out (fun hm => ?_) (fun q hq hm => ?_))
          · have h1 := hbl _ hm; have h2 := HG.out.1; omega
          · have h1 := hbl _ hm; have h2 := HG.out.2 q hq; omega
        · exact Lib.hid ((HF.out.trans HF4.out (fun q hq _ => hq)).trans HF9.out (fun q hq hl => by have := hbl q hq; omega))
      case measure => have := HKN.out; simp [intOf]; omega
    · have hkn : n = k := by omega
      subst hkn
      have HFIN : Hid (GotL 35 38 cells ok con w wr A4 n c4 ys (pL p s).1 ∧ Rs wr F g (pL p s).2) := Lib.hid (by
        rw [HPL.out]
        exact ⟨⟨HO.out, hyl, HCN.out, hn, HNA.out, fun v hv S0 h0 => HYS.out v hv S0 (fun q hq => .inl (h0 q hq))⟩, HRR.out⟩)
      clear hlt hk
      go_wp2
      go_ret
      exact ⟨A4, n, c4, ys, rfl, HFIN.out.1, HFIN.out.2, HF.out⟩

set_option maxHeartbeats 4000000 in
theorem getPromises_any {α β : Type} (cells : α → List Value) (ok : World → List Nat → α → Prop) (con : α → β) (p : Ps → β × Ps) (hone : ∀ v, ∀ u ∈ cells v, u.oneCell' = true)
    (hkeep : ∀ {w W : World} {S S' : List Nat} {x : α}, ok w S x → Fr S w W → (∀ k ∈ S', k < w.heap.size → k ∈ S) → ok W S' x) (hlen : ∀ w S v, ok w S v → (cells v).length = 6) (hget : Gets 51 cells ok con p)
    (w : World) (F : List Nat) (g : Nat) (s : Ps) (hr : Rs w F g s) :
    Calls Try.prog 88 #[.pointer (some ⟨g, 0, none⟩), fnV 51] w fun e w' => ∃ (A : Option Addr) (n c : Nat) (l : List α), e = .returned (.slice A n c) ∧ GotL 40 6 cells ok con w w' A n c l (pL p s).1 ∧ Rs w' F g (pL p s).2 ∧ Fr [g] w w' := by
  have HR := Lib.hid hr
  have HG : Hid (g < w.heap.size ∧ ∀ k ∈ F, k < w.heap.size) := Lib.hid ⟨hr.gt, hr.lt⟩
  have HGET := Lib.hid hget
  clear hr hget
  unfold fnV
  go_enter Try.func88, Try.ntmps88
  go_wp2_with fail
  refine (getCount_any HR.out).mono ?_
  rintro e_ w1 ⟨rfl, h1, h2⟩
  have HR1 := Lib.hid h1
  have HF1 := Lib.hid h2
  have HPL : Hid (pL p s = pRep p (pC s).1 (pC s).2) := Lib.hid rfl
  have hn := pC_le s
  clear h1 h2
  generalize (pC s).1 = n at *
  generalize (pC s).2 = s1 at *
  go_wp2_with fail
  go_loopw [5, 8] (fun sl i wr => ∃ (k : Nat) (A4 : Option Addr) (c4 : Nat) (ys : List α), k ≤ n ∧ i = .int .i64 k ∧ sl = .slice A4 k c4 ∧ ys.length = k ∧ Hid (ys.map con = (pRep p k s1).1) ∧ Hid (wr.ownsRow 0 40 6 (.slice A4 k c4) k (ys.flatMap cells)) ∧ Hid (∀ q ∈ bk A4, w.heap.size ≤ q) ∧ Hid (∀ y ∈ ys, ∀ S0 : List Nat, (∀ q ∈ S0, q < w.heap.size ∨ q ∈ bk A4) → ok wr S0 y) ∧ Hid (Rs wr F g (pRep p k s1).2) ∧ Hid (Fr [g] w wr)) (fun _ i _ => n - (intOf i).toNat)
  case atStart => exact ⟨0, none, 0, [], by omega, rfl, rfl, rfl, Lib.hid rfl, Lib.hid ⟨by simp, .inl ⟨rfl, rfl⟩⟩, Lib.hid (by simp [bk]), Lib.hid (by simp), HR1, HF1⟩
  case round =>
    obtain ⟨k, A4, c4, ys, hk, rfl, rfl, hyl, HCN, HO, HNA, HYS, HRR, HF⟩ := hrel
    by_cases hlt : k < n
    · have HKN : Hid (k < n) := Lib.hid hlt
      have hk0 : (0 : Int) ≤ k := by omega
      go_wp2_with fail
      refine (HGET.out wr F g _ HRR.out).mono ?_
      rintro e_ w4 ⟨y, rfl, hyc, hyok, hr4, hf4⟩
      have HYC := Lib.hid hyc
      have HR4 := Lib.hid hr4
      have HF4 := Lib.hid hf4
      have HNW : Hid (∀ S0 : List Nat, (∀ q ∈ S0, q < w.heap.size ∨ q ∈ g :: bk A4) → ok w4 S0 y) := Lib.hid (fun S0 h0 => hyok S0 (fun q hq => by
        have h1 := HF.out.size
        have h2 := HG.out.1
        rcases h0 q hq with h | h
        · omega
        · rcases List.mem_cons.1 h with h | h
          · omega
          · exact own_lt HO.out q ((bk_mem A4 k c4 q).2 h)))
      have hD : (cells y).length = 6 := hlen _ _ _ (hyok [] (by simp))
      have hD1 := hone y
      have HO4 := Lib.hid (own_keep HO.out hf4 (fun q hq hm => by have h1 := HNA.out q ((bk_mem A4 k c4 q).1 hq); have h2 := HG.out.1; simp at hm; omega))
      obtain ⟨D, hDY⟩ : ∃ D, D = cells y := ⟨_, rfl⟩
      rw [← hDY] at hD hD1 ⊢
      have HD := Lib.hid hD
      have HD1 := Lib.hid hD1
      have HDY := Lib.hid hDY
      clear hyc hyok hr4 hf4 hD hD1 hDY hlt
      go_wp2_with (first | (refine wpList_build_one rfl 41 40 _ rfl Try.underlying41 D 64 (by rw [HD.out]; exact el_prm) rfl (by rw [HD.out]; decide) (by rw [HD.out]; decide) ?_) | (at_builtin; refine Stop.mk ?_))
      refine Stop.go ?_
      refine wpList_append_one2 rfl _ _ 41 40 rfl Try.underlying41 6 64 el_prm (by decide) 0 (.slice A4 k c4) k _ D rfl (HO4.out.alloc _) (Nat.zero_le _) HD.out HD1.out w4.heap.size 40 rfl (Blk.new _ _ _) (by omega) (by decide) ?_
      intro A9 c9 w9 ho9 hf9 hb9
      have HO9 := Lib.hid ho9
      have HF9 : Hid (Fr (bk A4) w4 w9) := Lib.hid (by
        have h : Fr (bk A4) (w4.alloc (Obj.cells D.toArray 40)) w9 := by rw [← bk_own A4 k c4]; exact hf9
        exact (((Fr.refl [] w4).alloc _).mono (by simp)).trans h (fun y hy _ => hy))
      have HB9 : Hid (∀ q ∈ bk A9, q ∈ bk A4 ∨ w4.heap.size ≤ q) := Lib.hid (by
        intro q hq
        rw [← bk_own A9 (k + 1) c9] at hq
        rcases hb9 with h | h
        · rw [h, bk_own] at hq; exact .inl hq
        · rw [h] at hq; simp at hq; exact .inr (by omega))
      clear ho9 hf9 hb9
      go_wp2
      go_roundw
      case rel =>
        have hbl : ∀ q ∈ bk A4, w.heap.size ≤ q := HNA.out
        refine ⟨k + 1, A9, c9, ys ++ [y], by have := HKN.out; omega, by go_num, rfl, by simp [hyl], ?_, ?_, ?_, ?_, ?_, ?_⟩
        · exact Lib.hid (by rw [List.map_append, HCN.out]; show _ ++ [con y] = _; rw [HYC.out]; rfl)
        · refine Lib.hid ?_
          rw [List.flatMap_append, List.flatMap_singleton, ← HDY.out]
          exact HO9.out
        · refine Lib.hid (fun q hq => ?_)
          rcases HB9.out q hq with h | h
          · exact hbl q h
          · have h1 := HF.out.size; have h2 := HF4.out.size; omega
        · refine Lib.hid (fun u hu S0 h0 => ?_)
          have hfg : Fr (g :: bk A4) w4 w9 := HF9.out.mono (fun q hq _ => by simp [hq])
          have hfr : Fr (g :: bk A4) wr w9 := (HF4.out.mono (fun q hq _ => by simp at hq; simp [hq])).trans hfg (fun q hq _ => hq)
          have h0' : ∀ q ∈ S0, q < w.heap.size ∨ q ∈ g :: bk A9 := fun q hq => (h0 q hq).imp id (fun h => by simp [h])
          have hsz := HF4.out.size
          rcases List.mem_append.1 hu with hu | hu
          · refine keepAll (ok := ok) (fun h f s => hkeep h f s) (w := wr) (B4 := g :: bk A4) (B9 := g :: bk A9) hfr (fun q hq => ?_) (fun S1 h1 => HYS.out u hu S1 (fun q hq => ?_)) S0 h0'
            · rcases List.mem_cons.1 hq with h | h
              · exact .inl (by simp [h])
              · exact (HB9.out q h).imp (fun h => by simp [h]) (fun h => by omega)
            · rcases h1 q hq with h | h
              · exact .inl h
              · rcases List.mem_cons.1 h with h | h
                · exact .inl (by have := HG.out.1; omega)
                · exact .inr h
          · rw [List.mem_singleton.1 hu]
            refine keepAll (ok := ok) (fun h f s => hkeep h f s) (w := w4) (B4 := g :: bk A4) (B9 := g :: bk A9) hfg (fun q hq => ?_) HNW.out S0 h0'
            rcases List.mem_cons.1 hq with h | h
            · exact .inl (by simp [h])
            · exact (HB9.out q h).imp (fun h => by simp [h]) id
        · refine Lib.hid (HR4.out.fr HF9.out (fun hm => ?_) (fun q hq hm => ?_))
          · have h1 := hbl _ hm; have h2 := HG.out.1; omega
          · have h1 := hbl _ hm; have h2 := HG.out.2 q hq; omega
        · exact Lib.hid ((HF.out.trans HF4.out (fun q hq _ => hq)).trans HF9.out (fun q hq hl => by have := hbl q hq; omega))
      case measure => have := HKN.out; simp [intOf]; omega
    · have hkn : n = k := by omega
      subst hkn
      have HFIN : Hid (GotL 40 6 cells ok con w wr A4 n c4 ys (pL p s).1 ∧ Rs wr F g (pL p s).2) := Lib.hid (by
        rw [HPL.out]
        exact ⟨⟨HO.out, hyl, HCN.out, hn, HNA.out, fun v hv S0 h0 => HYS.out v hv S0 (fun q hq => .inl (h0 q hq))⟩, HRR.out⟩)
      clear hlt hk
      go_wp2
      go_ret
      exact ⟨A4, n, c4, ys, rfl, HFIN.out.1, HFIN.out.2, HF.out⟩

set_option maxHeartbeats 4000000 in
theorem getOpenings_any {α β : Type} (cells : α → List Value) (ok : World → List Nat → α → Prop) (con : α → β) (p : Ps → β × Ps) (hone : ∀ v, ∀ u ∈ cells v, u.oneCell' = true)
    (hkeep : ∀ {w W : World} {S S' : List Nat} {x : α}, ok w S x → Fr S w W → (∀ k ∈ S', k < w.heap.size → k ∈ S) → ok W S' x) (hlen : ∀ w S v, ok w S v → (cells v).length = 34) (hget : Gets 55 cells ok con p)
    (w : World) (F : List Nat) (g : Nat) (s : Ps) (hr : Rs w F g s) :
    Calls Try.prog 89 #[.pointer (some ⟨g, 0, none⟩), fnV 55] w fun e w' => ∃ (A : Option Addr) (n c : Nat) (l : List α), e = .returned (.slice A n c) ∧ GotL 54 34 cells ok con w w' A n c l (pL p s).1 ∧ Rs w' F g (pL p s).2 ∧ Fr [g] w w' := by
  have HR := Lib.hid hr
  have HG : Hid (g < w.heap.size ∧ ∀ k ∈ F, k < w.heap.size) := Lib.hid ⟨hr.gt, hr.lt⟩
  have HGET := Lib.hid hget
  clear hr hget
  unfold fnV
  go_enter Try.func89, Try.ntmps89
  go_wp2_with fail
  refine (getCount_any HR.out).mono ?_
  rintro e_ w1 ⟨rfl, h1, h2⟩
  have HR1 := Lib.hid h1
  have HF1 := Lib.hid h2
  have HPL : Hid (pL p s = pRep p (pC s).1 (pC s).2) := Lib.hid rfl
  have hn := pC_le s
  clear h1 h2
  generalize (pC s).1 = n at *
  generalize (pC s).2 = s1 at *
  go_wp2_with fail
  go_loopw [5, 8] (fun sl i wr => ∃ (k : Nat) (A4 : Option Addr) (c4 : Nat) (ys : List α), k ≤ n ∧ i = .int .i64 k ∧ sl = .slice A4 k c4 ∧ ys.length = k ∧ Hid (ys.map con = (pRep p k s1).1) ∧ Hid (wr.ownsRow 0 54 34 (.slice A4 k c4) k (ys.flatMap cells)) ∧ Hid (∀ q ∈ bk A4, w.heap.size ≤ q) ∧ Hid (∀ y ∈ ys, ∀ S0 : List Nat, (∀ q ∈ S0, q < w.heap.size ∨ q ∈ bk A4) → ok wr S0 y) ∧ Hid (Rs wr F g (pRep p k s1).2) ∧ Hid (Fr [g] w wr)) (fun _ i _ => n - (intOf i).toNat)
  case atStart => exact ⟨0, none, 0, [], by omega, rfl, rfl, rfl, Lib.hid rfl, Lib.hid ⟨by simp, .inl ⟨rfl, rfl⟩⟩, Lib.hid (by simp [bk]), Lib.hid (by simp), HR1, HF1⟩
  case round =>
    obtain ⟨k, A4, c4, ys, hk, rfl, rfl, hyl, HCN, HO, HNA, HYS, HRR, HF⟩ := hrel
    by_cases hlt : k < n
    · have HKN : Hid (k < n) := Lib.hid hlt
      have hk0 : (0 : Int) ≤ k := by omega
      go_wp2_with fail
      refine (HGET.out wr F g _ HRR.out).mono ?_
      rintro e_ w4 ⟨y, rfl, hyc, hyok, hr4, hf4⟩
      have HYC := Lib.hid hyc
      have HR4 := Lib.hid hr4
      have HF4 := Lib.hid hf4
      have HNW : Hid (∀ S0 : List Nat, (∀ q ∈ S0, q < w.heap.size ∨ q ∈ g :: bk A4) → ok w4 S0 y) := Lib.hid (fun S0 h0 => hyok S0 (fun q hq => by
        have h1 := HF.out.size
        have h2 := HG.out.1
        rcases h0 q hq with h | h
        · omega
        · rcases List.mem_cons.1 h with h | h
          · omega
          · exact own_lt HO.out q ((bk_mem A4 k c4 q).2 h)))
      have hD : (cells y).length = 34 := hlen _ _ _ (hyok [] (by simp))
      have hD1 := hone y
      have HO4 := Lib.hid (own_keep HO.out hf4 (fun q hq hm => by have h1 := HNA.out q ((bk_mem A4 k c4 q).1 hq); have h2 := HG.out.1; simp at hm; omega))
      obtain ⟨D, hDY⟩ : ∃ D, D = cells y := ⟨_, rfl⟩
      rw [← hDY] at hD hD1 ⊢
      have HD := Lib.hid hD
      have HD1 := Lib.hid hD1
      have HDY := Lib.hid hDY
      clear hyc hyok hr4 hf4 hD hD1 hDY hlt
      go_wp2_with (first | (refine wpList_build_one rfl 42 54 _ rfl Try.underlying42 D 64 (by rw [HD.out]; exact el_opn) rfl (by rw [HD.out]; decide) (by rw [HD.out]; decide) ?_) | (at_builtin; refine Stop.mk ?_))
      refine Stop.go ?_
      refine wpList_append_one2 rfl _ _ 42 54 rfl Try.underlying42 34 64 el_opn (by decide) 0 (.slice A4 k c4) k _ D rfl (HO4.out.alloc _) (Nat.zero_le _) HD.out HD1.out w4.heap.size 54 rfl (Blk.new _ _ _) (by omega) (by decide) ?_
      intro A9 c9 w9 ho9 hf9 hb9
      have HO9 := Lib.hid ho9
      have HF9 : Hid (Fr (bk A4) w4 w9) := Lib.hid (by
        have h : Fr (bk A4) (w4.alloc (Obj.cells D.toArray 54)) w9 := by rw [← bk_own A4 k c4]; exact hf9
        exact (((Fr.refl [] w4).alloc _).mono (by simp)).trans h (fun y hy _ => hy))
      have HB9 : Hid (∀ q ∈ bk A9, q ∈ bk A4 ∨ w4.heap.size ≤ q) := Lib.hid (by
        intro q hq
        rw [← bk_own A9 (k + 1) c9] at hq
        rcases hb9 with h | h
        · rw [h, bk_own] at hq; exact .inl hq
        · rw [h] at hq; simp at hq; exact .inr (by omega))
      clear ho9 hf9 hb9
      go_wp2
      go_roundw
      case rel =>
        have hbl : ∀ q ∈ bk A4, w.heap.size ≤ q := HNA.out
        refine ⟨k + 1, A9, c9, ys ++ [y], by have := HKN.out; omega, by go_num, rfl, by simp [hyl], ?_, ?_, ?_, ?_, ?_, ?_⟩
        · exact Lib.hid (by rw [List.map_append, HCN.out]; show _ ++ [con y] = _; rw [HYC.out]; rfl)
        · refine Lib.hid ?_
          rw [List.flatMap_append, List.flatMap_singleton, ← HDY.out]
          exact HO9.out
        · refine Lib.hid (fun q hq => ?_)
          rcases HB9.out q hq with h | h
          · exact hbl q h
          · have h1 := HF.out.size; have h2 := HF4.out.size; omega
        · refine Lib.hid (fun u hu S0 h0 => ?_)
          have hfg : Fr (g :: bk A4) w4 w9 := HF9.out.mono (fun q hq _ => by simp [hq])
          have hfr : Fr (g :: bk A4) wr w9 := (HF4.out.mono (fun q hq _ => by simp at hq; simp [hq])).trans hfg (fun q hq _ => hq)
          have h0' : ∀ q ∈ S0, q < w.heap.size ∨ q ∈ g :: bk A9 := fun q hq => (h0 q hq).imp id (fun h => by simp [h])
          have hsz := HF4.out.size
          rcases List.mem_append.1 hu with hu | hu
          · refine keepAll (ok := ok) (fun h f s => hkeep h f s) (w := wr) (B4 := g :: bk A4) (B9 := g :: bk A9) hfr (fun q hq => ?_) (fun S1 h1 => HYS.out u hu S1 (fun q hq => ?_)) S0 h0'
            · rcases List.mem_cons.1 hq with h | h
              · exact .inl (by simp [h])
              · exact (HB9.out q h).imp (fun h => by simp [h]) (fun h => by omega)
            · rcases h1 q hq with h | h
              · exact .inl h
              · rcases List.mem_cons.1 h with h | h
                · exact .inl (by have := HG.out.1; omega)
                · exact .inr h
          · rw [List.mem_singleton.1 hu]
            refine keepAll (ok := ok) (fun h f s => hkeep h f s) (w := w4) (B4 := g :: bk A4) (B9 := g :: bk A9) hfg (fun q hq => ?_) HNW.out S0 h0'
            rcases List.mem_cons.1 hq with h | h
            · exact .inl (by simp [h])
            · exact (HB9.out q h).imp (fun h => by simp [h]) id
        · refine Lib.hid (HR4.out.fr HF9.out (fun hm => ?_) (fun q hq hm => ?_))
          · have h1 := hbl _ hm; have h2 := HG.out.1; omega
          · have h1 := hbl _ hm; have h2 := HG.out.2 q hq; omega
        · exact Lib.hid ((HF.out.trans HF4.out (fun q hq _ => hq)).trans HF9.out (fun q hq hl => by have := hbl q hq; omega))
      case measure => have := HKN.out; simp [intOf]; omega
    · have hkn : n = k := by omega
      subst hkn
      have HFIN : Hid (GotL 54 34 cells ok con w wr A4 n c4 ys (pL p s).1 ∧ Rs wr F g (pL p s).2) := Lib.hid (by
        rw [HPL.out]
        exact ⟨⟨HO.out, hyl, HCN.out, hn, HNA.out, fun v hv S0 h0 => HYS.out v hv S0 (fun q hq => .inl (h0 q hq))⟩, HRR.out⟩)
      clear hlt hk
      go_wp2
      go_ret
      exact ⟨A4, n, c4, ys, rfl, HFIN.out.1, HFIN.out.2, HF.out⟩

set_option maxHeartbeats 4000000 in
theorem getTombs_any {α β : Type} (cells : α → List Value) (ok : World → List Nat → α → Prop) (con : α → β) (p : Ps → β × Ps) (hone : ∀ v, ∀ u ∈ cells v, u.oneCell' = true)
    (hkeep : ∀ {w W : World} {S S' : List Nat} {x : α}, ok w S x → Fr S w W → (∀ k ∈ S', k < w.heap.size → k ∈ S) → ok W S' x) (hlen : ∀ w S v, ok w S v → (cells v).length = 2) (hget : Gets 91 cells ok con p)
    (w : World) (F : List Nat) (g : Nat) (s : Ps) (hr : Rs w F g s) :
    Calls Try.prog 90 #[.pointer (some ⟨g, 0, none⟩), fnV 91] w fun e w' => ∃ (A : Option Addr) (n c : Nat) (l : List α), e = .returned (.slice A n c) ∧ GotL 135 2 cells ok con w w' A n c l (pL p s).1 ∧ Rs w' F g (pL p s).2 ∧ Fr [g] w w' := by
  have HR := Lib.hid hr
  have HG : Hid (g < w.heap.size ∧ ∀ k ∈ F, k < w.heap.size) := Lib.hid ⟨hr.gt, hr.lt⟩
  have HGET := Lib.hid hget
  clear hr hget
  unfold fnV
  go_enter Try.func90, Try.ntmps90
  go_wp2_with fail
  refine (getCount_any HR.out).mono ?_
  rintro e_ w1 ⟨rfl, h1, h2⟩
  have HR1 := Lib.hid h1
  have HF1 := Lib.hid h2
  have HPL : Hid (pL p s = pRep p (pC s).1 (pC s).2) := Lib.hid rfl
  have hn := pC_le s
  clear h1 h2
  generalize (pC s).1 = n at *
  generalize (pC s).2 = s1 at *
  go_wp2_with fail
  go_loopw [5, 8] (fun sl i wr => ∃ (k : Nat) (A4 : Option Addr) (c4 : Nat) (ys : List α), k ≤ n ∧ i = .int .i64 k ∧ sl = .slice A4 k c4 ∧ ys.length = k ∧ Hid (ys.map con = (pRep p k s1).1) ∧ Hid (wr.ownsRow 0 135 2 (.slice A4 k c4) k (ys.flatMap cells)) ∧ Hid (∀ q ∈ bk A4, w.heap.size ≤ q) ∧ Hid (∀ y ∈ ys, ∀ S0 : List Nat, (∀ q ∈ S0, q < w.heap.size ∨ q ∈ bk A4) → ok wr S0 y) ∧ Hid (Rs wr F g (pRep p k s1).2) ∧ Hid (Fr [g] w wr)) (fun _ i _ => n - (intOf i).toNat)
  case atStart => exact ⟨0, none, 0, [], by omega, rfl, rfl, rfl, Lib.hid rfl, Lib.hid ⟨by simp, .inl ⟨rfl, rfl⟩⟩, Lib.hid (by simp [bk]), Lib.hid (by simp), HR1, HF1⟩
  case round =>
    obtain ⟨k, A4, c4, ys, hk, rfl, rfl, hyl, HCN, HO, HNA, HYS, HRR, HF⟩ := hrel
    by_cases hlt : k < n
    · have HKN : Hid (k < n) := Lib.hid hlt
      have hk0 : (0 : Int) ≤ k := by omega
      go_wp2_with fail
      refine (HGET.out wr F g _ HRR.out).mono ?_
      rintro e_ w4 ⟨y, rfl, hyc, hyok, hr4, hf4⟩
      have HYC := Lib.hid hyc
      have HR4 := Lib.hid hr4
      have HF4 := Lib.hid hf4
      have HNW : Hid (∀ S0 : List Nat, (∀ q ∈ S0, q < w.heap.size ∨ q ∈ g :: bk A4) → ok w4 S0 y) := Lib.hid (fun S0 h0 => hyok S0 (fun q hq => by
        have h1 := HF.out.size
        have h2 := HG.out.1
        rcases h0 q hq with h | h
        · omega
        · rcases List.mem_cons.1 h with h | h
          · omega
          · exact own_lt HO.out q ((bk_mem A4 k c4 q).2 h)))
      have hD : (cells y).length = 2 := hlen _ _ _ (hyok [] (by simp))
      have hD1 := hone y
      have HO4 := Lib.hid (own_keep HO.out hf4 (fun q hq hm => by have h1 := HNA.out q ((bk_mem A4 k c4 q).1 hq); have h2 := HG.out.1; simp at hm; omega))
      obtain ⟨D, hDY⟩ : ∃ D, D = cells y := ⟨_, rfl⟩
      rw [← hDY] at hD hD1 ⊢
      have HD := Lib.hid hD
      have HD1 := Lib.hid hD1
      have HDY := Lib.hid hDY
      clear hyc hyok hr4 hf4 hD hD1 hDY hlt
      go_wp2_with (first | (refine wpList_build_one rfl 43 135 _ rfl Try.underlying43 D 32 (by rw [HD.out]; exact el_tomb) rfl (by rw [HD.out]; decide) (by rw [HD.out]; decide) ?_) | (at_builtin; refine Stop.mk ?_))
      refine Stop.go ?_
      refine wpList_append_one2 rfl _ _ 43 135 rfl Try.underlying43 2 32 el_tomb (by decide) 0 (.slice A4 k c4) k _ D rfl (HO4.out.alloc _) (Nat.zero_le _) HD.out HD1.out w4.heap.size 135 rfl (Blk.new _ _ _) (by omega) (by decide) ?_
      intro A9 c9 w9 ho9 hf9 hb9
      have HO9 := Lib.hid ho9
      have HF9 : Hid (Fr (bk A4) w4 w9) := Lib.hid (by
        have h : Fr (bk A4) (w4.alloc (Obj.cells D.toArray 135)) w9 := by rw [← bk_own A4 k c4]; exact hf9
        exact (((Fr.refl [] w4).alloc _).mono (by simp)).trans h (fun y hy _ => hy))
      have HB9 : Hid (∀ q ∈ bk A9, q ∈ bk A4 ∨ w4.heap.size ≤ q) := Lib.hid (by
        intro q hq
        rw [← bk_own A9 (k + 1) c9] at hq
        rcases hb9 with h | h
        · rw [h, bk_own] at hq; exact .inl hq
        · rw [h] at hq; simp at hq; exact .inr (by omega))
      clear ho9 hf9 hb9
      go_wp2
      go_roundw
      case rel =>
        have hbl : ∀ q ∈ bk A4, w.heap.size ≤ q := HNA.out
        refine ⟨k + 1, A9, c9, ys ++ [y], by have := HKN.out; omega, by go_num, rfl, by simp [hyl], ?_, ?_, ?_, ?_, ?_, ?_⟩
        · exact Lib.hid (by rw [List.map_append, HCN.out]; show _ ++ [con y] = _; rw [HYC.out]; rfl)
        · refine Lib.hid ?_
          rw [List.flatMap_append, List.flatMap_singleton, ← HDY.out]
          exact HO9.out
        · refine Lib.hid (fun q hq => ?_)
          rcases HB9.out q hq with h | h
          · exact hbl q h
          · have h1 := HF.out.size; have h2 := HF4.out.size; omega
        · refine Lib.hid (fun u hu S0 h0 => ?_)
          have hfg : Fr (g :: bk A4) w4 w9 := HF9.out.mono (fun q hq _ => by simp [hq])
          have hfr : Fr (g :: bk A4) wr w9 := (HF4.out.mono (fun q hq _ => by simp at hq; simp [hq])).trans hfg (fun q hq _ => hq)
          have h0' : ∀ q ∈ S0, q < w.heap.size ∨ q ∈ g :: bk A9 := fun q hq => (h0 q hq).imp id (fun h => by simp [h])
          have hsz := HF4.out.size
          rcases List.mem_append.1 hu with hu | hu
          · refine keepAll (ok := ok) (fun h f s => hkeep h f s) (w := wr) (B4 := g :: bk A4) (B9 := g :: bk A9) hfr (fun q hq => ?_) (fun S1 h1 => HYS.out u hu S1 (fun q hq => ?_)) S0 h0'
            · rcases List.mem_cons.1 hq with h | h
              · exact .inl (by simp [h])
              · exact (HB9.out q h).imp (fun h => by simp [h]) (fun h => by omega)
            · rcases h1 q hq with h | h
              · exact .inl h
              · rcases List.mem_cons.1 h with h | h
                · exact .inl (by have := HG.out.1; omega)
                · exact .inr h
          · rw [List.mem_singleton.1 hu]
            refine keepAll (ok := ok) (fun h f s => hkeep h f s) (w := w4) (B4 := g :: bk A4) (B9 := g :: bk A9) hfg (fun q hq => ?_) HNW.out S0 h0'
            rcases List.mem_cons.1 hq with h | h
            · exact .inl (by simp [h])
            · exact (HB9.out q h).imp (fun h => by simp [h]) id
        · refine Lib.hid (HR4.out.fr HF9.out (fun hm => ?_) (fun q hq hm => ?_))
          · have h1 := hbl _ hm; have h2 := HG.out.1; omega
          · have h1 := hbl _ hm; have h2 := HG.out.2 q hq; omega
        · exact Lib.hid ((HF.out.trans HF4.out (fun q hq _ => hq)).trans HF9.out (fun q hq hl => by have := hbl q hq; omega))
      case measure => have := HKN.out; simp [intOf]; omega
    · have hkn : n = k := by omega
      subst hkn
      have HFIN : Hid (GotL 135 2 cells ok con w wr A4 n c4 ys (pL p s).1 ∧ Rs wr F g (pL p s).2) := Lib.hid (by
        rw [HPL.out]
        exact ⟨⟨HO.out, hyl, HCN.out, hn, HNA.out, fun v hv S0 h0 => HYS.out v hv S0 (fun q hq => .inl (h0 q hq))⟩, HRR.out⟩)
      clear hlt hk
      go_wp2
      go_ret
      exact ⟨A4, n, c4, ys, rfl, HFIN.out.1, HFIN.out.2, HF.out⟩

set_option maxHeartbeats 4000000 in
theorem getDenies_any {α β : Type} (cells : α → List Value) (ok : World → List Nat → α → Prop) (con : α → β) (p : Ps → β × Ps) (hone : ∀ v, ∀ u ∈ cells v, u.oneCell' = true)
    (hkeep : ∀ {w W : World} {S S' : List Nat} {x : α}, ok w S x → Fr S w W → (∀ k ∈ S', k < w.heap.size → k ∈ S) → ok W S' x) (hlen : ∀ w S v, ok w S v → (cells v).length = 4) (hget : Gets 56 cells ok con p)
    (w : World) (F : List Nat) (g : Nat) (s : Ps) (hr : Rs w F g s) :
    Calls Try.prog 93 #[.pointer (some ⟨g, 0, none⟩), fnV 56] w fun e w' => ∃ (A : Option Addr) (n c : Nat) (l : List α), e = .returned (.slice A n c) ∧ GotL 56 4 cells ok con w w' A n c l (pL p s).1 ∧ Rs w' F g (pL p s).2 ∧ Fr [g] w w' := by
  have HR := Lib.hid hr
  have HG : Hid (g < w.heap.size ∧ ∀ k ∈ F, k < w.heap.size) := Lib.hid ⟨hr.gt, hr.lt⟩
  have HGET := Lib.hid hget
  clear hr hget
  unfold fnV
  go_enter Try.func93, Try.ntmps93
  go_wp2_with fail
  refine (getCount_any HR.out).mono ?_
  rintro e_ w1 ⟨rfl, h1, h2⟩
  have HR1 := Lib.hid h1
  have HF1 := Lib.hid h2
  have HPL : Hid (pL p s = pRep p (pC s).1 (pC s).2) := Lib.hid rfl
  have hn := pC_le s
  clear h1 h2
  generalize (pC s).1 = n at *
  generalize (pC s).2 = s1 at *
  go_wp2_with fail
  go_loopw [5, 8] (fun sl i wr => ∃ (k : Nat) (A4 : Option Addr) (c4 : Nat) (ys : List α), k ≤ n ∧ i = .int .i64 k ∧ sl = .slice A4 k c4 ∧ ys.length = k ∧ Hid (ys.map con = (pRep p k s1).1) ∧ Hid (wr.ownsRow 0 56 4 (.slice A4 k c4) k (ys.flatMap cells)) ∧ Hid (∀ q ∈ bk A4, w.heap.size ≤ q) ∧ Hid (∀ y ∈ ys, ∀ S0 : List Nat, (∀ q ∈ S0, q < w.heap.size ∨ q ∈ bk A4) → ok wr S0 y) ∧ Hid (Rs wr F g (pRep p k s1).2) ∧ Hid (Fr [g] w wr)) (fun _ i _ => n - (intOf i).toNat)
  case atStart => exact ⟨0, none, 0, [], by omega, rfl, rfl, rfl, Lib.hid rfl, Lib.hid ⟨by simp, .inl ⟨rfl, rfl⟩⟩, Lib.hid (by simp [bk]), Lib.hid (by simp), HR1, HF1⟩
  case round =>
    obtain ⟨k, A4, c4, ys, hk, rfl, rfl, hyl, HCN, HO, HNA, HYS, HRR, HF⟩ := hrel
    by_cases hlt : k < n
    · have HKN : Hid (k < n) := Lib.hid hlt
      have hk0 : (0 : Int) ≤ k := by omega
      go_wp2_with fail
      refine (HGET.out wr F g _ HRR.out).mono ?_
      rintro e_ w4 ⟨y, rfl, hyc, hyok, hr4, hf4⟩
      have HYC := Lib.hid hyc
      have HR4 := Lib.hid hr4
      have HF4 := Lib.hid hf4
      have HNW : Hid (∀ S0 : List Nat, (∀ q ∈ S0, q < w.heap.size ∨ q ∈ g :: bk A4) → ok w4 S0 y) := Lib.hid (fun S0 h0 => hyok S0 (fun q hq => by
        have h1 := HF.out.size
        have h2 := HG.out.1
        rcases h0 q hq with h | h
        · omega
        · rcases List.mem_cons.1 h with h | h
          · omega
          · exact own_lt HO.out q ((bk_mem A4 k c4 q).2 h)))
      have hD : (cells y).length = 4 := hlen _ _ _ (hyok [] (by simp))
      have hD1 := hone y
      have HO4 := Lib.hid (own_keep HO.out hf4 (fun q hq hm => by have h1 := HNA.out q ((bk_mem A4 k c4 q).1 hq); have h2 := HG.out.1; simp at hm; omega))
      obtain ⟨D, hDY⟩ : ∃ D, D = cells y := ⟨_, rfl⟩
      rw [← hDY] at hD hD1 ⊢
      have HD := Lib.hid hD
      have HD1 := Lib.hid hD1
      have HDY := Lib.hid hDY
      clear hyc hyok hr4 hf4 hD hD1 hDY hlt
      go_wp2_with (first | (refine wpList_build_one rfl 133 56 _ rfl Try.underlying133 D 32 (by rw [HD.out]; exact el_deny) rfl (by rw [HD.out]; decide) (by rw [HD.out]; decide) ?_) | (at_builtin; refine Stop.mk ?_))
      refine Stop.go ?_
      refine wpList_append_one2 rfl _ _ 133 56 rfl Try.underlying133 4 32 el_deny (by decide) 0 (.slice A4 k c4) k _ D rfl (HO4.out.alloc _) (Nat.zero_le _) HD.out HD1.out w4.heap.size 56 rfl (Blk.new _ _ _) (by omega) (by decide) ?_
      intro A9 c9 w9 ho9 hf9 hb9
      have HO9 := Lib.hid ho9
      have HF9 : Hid (Fr (bk A4) w4 w9) := Lib.hid (by
        have h : Fr (bk A4) (w4.alloc (Obj.cells D.toArray 56)) w9 := by rw [← bk_own A4 k c4]; exact hf9
        exact (((Fr.refl [] w4).alloc _).mono (by simp)).trans h (fun y hy _ => hy))
      have HB9 : Hid (∀ q ∈ bk A9, q ∈ bk A4 ∨ w4.heap.size ≤ q) := Lib.hid (by
        intro q hq
        rw [← bk_own A9 (k + 1) c9] at hq
        rcases hb9 with h | h
        · rw [h, bk_own] at hq; exact .inl hq
        · rw [h] at hq; simp at hq; exact .inr (by omega))
      clear ho9 hf9 hb9
      go_wp2
      go_roundw
      case rel =>
        have hbl : ∀ q ∈ bk A4, w.heap.size ≤ q := HNA.out
        refine ⟨k + 1, A9, c9, ys ++ [y], by have := HKN.out; omega, by go_num, rfl, by simp [hyl], ?_, ?_, ?_, ?_, ?_, ?_⟩
        · exact Lib.hid (by rw [List.map_append, HCN.out]; show _ ++ [con y] = _; rw [HYC.out]; rfl)
        · refine Lib.hid ?_
          rw [List.flatMap_append, List.flatMap_singleton, ← HDY.out]
          exact HO9.out
        · refine Lib.hid (fun q hq => ?_)
          rcases HB9.out q hq with h | h
          · exact hbl q h
          · have h1 := HF.out.size; have h2 := HF4.out.size; omega
        · refine Lib.hid (fun u hu S0 h0 => ?_)
          have hfg : Fr (g :: bk A4) w4 w9 := HF9.out.mono (fun q hq _ => by simp [hq])
          have hfr : Fr (g :: bk A4) wr w9 := (HF4.out.mono (fun q hq _ => by simp at hq; simp [hq])).trans hfg (fun q hq _ => hq)
          have h0' : ∀ q ∈ S0, q < w.heap.size ∨ q ∈ g :: bk A9 := fun q hq => (h0 q hq).imp id (fun h => by simp [h])
          have hsz := HF4.out.size
          rcases List.mem_append.1 hu with hu | hu
          · refine keepAll (ok := ok) (fun h f s => hkeep h f s) (w := wr) (B4 := g :: bk A4) (B9 := g :: bk A9) hfr (fun q hq => ?_) (fun S1 h1 => HYS.out u hu S1 (fun q hq => ?_)) S0 h0'
            · rcases List.mem_cons.1 hq with h | h
              · exact .inl (by simp [h])
              · exact (HB9.out q h).imp (fun h => by simp [h]) (fun h => by omega)
            · rcases h1 q hq with h | h
              · exact .inl h
              · rcases List.mem_cons.1 h with h | h
                · exact .inl (by have := HG.out.1; omega)
                · exact .inr h
          · rw [List.mem_singleton.1 hu]
            refine keepAll (ok := ok) (fun h f s => hkeep h f s) (w := w4) (B4 := g :: bk A4) (B9 := g :: bk A9) hfg (fun q hq => ?_) HNW.out S0 h0'
            rcases List.mem_cons.1 hq with h | h
            · exact .inl (by simp [h])
            · exact (HB9.out q h).imp (fun h => by simp [h]) id
        · refine Lib.hid (HR4.out.fr HF9.out (fun hm => ?_) (fun q hq hm => ?_))
          · have h1 := hbl _ hm; have h2 := HG.out.1; omega
          · have h1 := hbl _ hm; have h2 := HG.out.2 q hq; omega
        · exact Lib.hid ((HF.out.trans HF4.out (fun q hq _ => hq)).trans HF9.out (fun q hq hl => by have := hbl q hq; omega))
      case measure => have := HKN.out; simp [intOf]; omega
    · have hkn : n = k := by omega
      subst hkn
      have HFIN : Hid (GotL 56 4 cells ok con w wr A4 n c4 ys (pL p s).1 ∧ Rs wr F g (pL p s).2) := Lib.hid (by
        rw [HPL.out]
        exact ⟨⟨HO.out, hyl, HCN.out, hn, HNA.out, fun v hv S0 h0 => HYS.out v hv S0 (fun q hq => .inl (h0 q hq))⟩, HRR.out⟩)
      clear hlt hk
      go_wp2
      go_ret
      exact ⟨A4, n, c4, ys, rfl, HFIN.out.1, HFIN.out.2, HF.out⟩
end Go.Proofs.Ytniaacjfkaakjaa

namespace Go.Proofs.Ytniaacjfkaakjaa
open Go.RowKit
set_option maxRecDepth 100000
theorem GotL.lst {α β : Type} {e : TypeId} {K : Nat} {cells : α → List Value} {ok : World → List Nat → α → Prop} {con : α → β} {w0 w1 : World} {A : Option Addr} {n c : Nat} {l : List α} {r : List β}
    (hkeep : ∀ {w W : World} {S S' : List Nat} {x : α}, ok w S x → Fr S w W → (∀ k ∈ S', k < w.heap.size → k ∈ S) → ok W S' x) (hlen : ∀ w S v, ok w S v → (cells v).length = K)
    (h : GotL e K cells ok con w0 w1 A n c l r) {g q N : Nat} (hg : g < w0.heap.size) (hq : q < w0.heap.size) (hN : N ≤ w0.heap.size) :
    ∀ W, Fr [g, q] w1 W → ∀ S0 : List Nat, (∀ x ∈ S0, x < N) → Lst K cells (fun w v => ok w S0 v) W A n l ∧ (0 < n → ∀ a, A = some a → ¬ a.block ∈ S0) := by
  intro W hf S0 h0
  have hown := own_keep h.own hf (fun k hk hm => by
    have h1 := h.new k ((bk_mem A n c k).1 hk)
    simp at hm
    omega)
  refine ⟨Lst.of_own hown h.len (fun v hv => ?_), fun _ a ha hin => ?_⟩
  · have h1 := h.ok v hv (g :: q :: S0) (fun x hx => by
      rcases List.mem_cons.1 hx with rfl | hx
      · exact hg
      · rcases List.mem_cons.1 hx with rfl | hx
        · exact hq
        · exact Nat.lt_of_lt_of_le (h0 x hx) hN)
    exact ⟨hlen _ _ _ h1, hkeep h1 (hf.mono (fun k hk _ => by simp at hk; simp; omega)) (fun k hk _ => by simp [hk])⟩
  · have h1 := h.new a.block (by simp [bk, ha])
    have h2 := h0 _ hin
    omega
theorem pR_le (s : Ps) : (pR s).1.length ≤ 256 := by
  unfold pR rwV
  simp only
  cases dec s.1 with
  | none => simp
  | some p =>
    simp only
    split
    · rw [List.length_take]; omega
    · simp
section
variable {w : World} {F : List Nat} {g : Nat} {s : Ps}
theorem getRow_any (hr : Rs w F g s) : Calls Try.prog 57 #[.pointer (some ⟨g, 0, none⟩), .int .i64 256] w fun e w' =>
    ∃ A c, e = .returned (.slice A (pR s).1.length c) ∧ By w' A (pR s).1.length (pR s).1 ∧ (∀ k ∈ bk A, w.heap.size ≤ k ∧ k < w'.heap.size) ∧ (pR s).1.length ≤ c ∧ Rs w' F g (pR s).2 ∧ Fr [g] w w' := by
  have hl := rwL_le s.1 256
  obtain ⟨R, bad⟩ := s
  have mk : ∀ {w' : World} {l : List UInt8} {b : Bool}, l.length ≤ R.length → Rd w' g F l b → Fr [g] w w' → Rs w' F g (l, b) := fun h1 h2 h3 => ⟨h2, Nat.le_trans h1 hr.len, fun k hk => Nat.lt_of_lt_of_le (hr.lt k hk) h3.size⟩
  have bad_case : rowBad R 256 → Calls Try.prog 57 #[.pointer (some ⟨g, 0, none⟩), .int .i64 256] w fun e w' =>
      ∃ A c, e = .returned (.slice A ([] : List UInt8).length c) ∧ By w' A ([] : List UInt8).length [] ∧ (∀ k ∈ bk A, w.heap.size ≤ k ∧ k < w'.heap.size) ∧ ([] : List UInt8).length ≤ c ∧ Rs w' F g ([], true) ∧ Fr [g] w w' := fun hb =>
    (rrow_bad w g F R bad hr.rd hr.len 256 hb (by omega)).mono fun _ w' ⟨A, c, w1, k1, k2, k3, k4⟩ =>
      have hf : Fr [g] w w' := k2.trans k3.2.1 (by simp)
      ⟨A, c, k1, k3.by, fun k hk => ⟨Nat.le_trans k2.size (k3.2.2 k hk), k3.lt k hk⟩, Nat.zero_le _, mk (by simp) k4 hf, hf⟩
  unfold pR rwV rwL rwB at *
  simp only at hl ⊢
  cases hd : dec R with
  | none => exact bad_case (rowBad_int (intBad_none hd))
  | some p =>
    rw [hd] at hl
    by_cases hv : (p.1 : Int) ≤ 256 ∧ p.2 + p.1 ≤ R.length
    · simp only [if_pos hv] at hl ⊢
      have hlen : ((R.drop p.2).take p.1).length = p.1 := by rw [List.length_take, List.length_drop]; omega
      rw [hlen]
      exact (rrow_ok w g F R bad hr.rd hr.len p.1 p.2 hd 256 hv.1 (by omega) hv.2).mono fun _ w' ⟨A, c, w1, k1, k2, k3, k4⟩ =>
        have hf : Fr [g] w w' := k2.trans k3.2.1 (by simp)
        ⟨A, c, k1, k3.by, fun k hk => ⟨Nat.le_trans k2.size (k3.2.2 k hk), k3.lt k hk⟩, k3.cap, mk hl k4 hf, hf⟩
    · simp only [if_neg hv]
      by_cases hv1 : (p.1 : Int) ≤ 256
      · exact bad_case (rowBad_short hd hv1 (by omega))
      · exact bad_case (rowBad_int (intBad_lt hd (by omega)))
end
def zCe : Array Value := (Wce.cells ⟨⟨0, 0, List.replicate 32 0, 0, 0, 0⟩, none, 0, 0, []⟩).toArray
def zOp : Array Value := (Wop.cells ⟨0, none, 0, 0, [], List.replicate 32 0⟩).toArray
theorem built_ceE (parts : List (Nat × Value)) : Try.prog.built 35 parts = Instr.fill ([(0, 37), (37, 1)].toArray[·]?) zCe parts := by kernel_rfl
theorem built_ceR (k : Wcm) (hh : k.h.length = 32) (A : Option Addr) (n d : Nat) (l : List Wst) :
    Try.prog.built 35 [(0, .agg k.cells.toArray), (1, .slice A n d)] = some (Wce.cells ⟨k, A, n, d, l⟩).toArray := by
  have hz : zCe.size = 38 := rfl
  have hk : k.cells.length = 37 := Wcm.len hh
  rw [built_ceE, fill_step _ _ 0 0 37 _ _ rfl (by simp [Value.cells, hk]) (by rw [hz]; omega), fill_step _ _ 1 37 1 _ _ rfl rfl (by simp [splice, zCe, Wce.cells, Wcm.cells, Value.cells, hh]), Instr.fill]
  congr 2
  have tk : ∀ n, 32 ≤ n → (k.h.map by8).take n = k.h.map by8 := fun n hn => List.take_of_length_le (by simp [hh]; omega)
  have dk : ∀ n, 32 ≤ n → (k.h.map by8).drop n = [] := fun n hn => List.drop_of_length_le (by simp [hh]; omega)
  simp [splice, zCe, Wce.cells, Wcm.cells, Value.cells, hh, List.drop_append, List.take_append, tk, dk]
theorem built_opE (parts : List (Nat × Value)) : Try.prog.built 54 parts = Instr.fill ([(0, 1), (1, 1), (2, 32)].toArray[·]?) zOp parts := by kernel_rfl
theorem built_opR (i : Int) (A : Option Addr) (n d : Nat) (p h : List UInt8) (hh : h.length = 32) :
    Try.prog.built 54 [(0, .int .i64 i), (1, .slice A n d), (2, .agg (h.map by8).toArray)] = some (Wop.cells ⟨i, A, n, d, p, h⟩).toArray := by
  have hz : zOp.size = 34 := rfl
  rw [built_opE, fill_step _ _ 0 0 1 _ _ rfl rfl (by rw [hz]; omega), fill_step _ _ 1 1 1 _ _ rfl rfl (by simp [splice, zOp, Wop.cells, Value.cells]), fill_step _ _ 2 2 32 _ _ rfl (by simp [Value.cells, hh]) (by simp [splice, zOp, Wop.cells, Value.cells]), Instr.fill]
  congr 2
  have dk : ∀ n, 32 ≤ n → (h.map by8).drop n = [] := fun n hn => List.drop_of_length_le (by simp [hh]; omega)
  simp [splice, zOp, Wop.cells, Value.cells, hh, List.drop_append, List.take_append, dk]
theorem built_prR (r e : Int) (t : Nat) (A : Option Addr) (n d : Nat) (l : List Wce) (b m : Int) : Try.prog.built 40 [(0, .int .i64 r), (1, .int .i64 e), (2, .int .u64 (t : Int)), (3, .slice A n d), (4, .agg #[.int .i64 b, .int .i64 m])] = some (Wpr.cells ⟨r, e, t, A, n, d, l, b, m⟩).toArray := by kernel_rfl
theorem built_tbR (i : Int) (A : Option Addr) (n d : Nat) (l : List Wdn) : Try.prog.built 135 [(0, .int .i64 i), (1, .slice A n d)] = some (Wtb.cells ⟨i, A, n, d, l⟩).toArray := by kernel_rfl
theorem built_baR (e : Int) (t : Nat) (A : Option Addr) (n d : Nat) (l : List Wpr) (A2 : Option Addr) (n2 d2 : Nat) (l2 : List Wop) (A3 : Option Addr) (n3 d3 : Nat) (l3 : List Wtb) :
    Try.prog.built 45 [(0, .int .i64 e), (1, .int .u64 (t : Int)), (2, .slice A n d), (3, .slice A2 n2 d2), (4, .slice A3 n3 d3)] = some (Wba.cells ⟨e, t, A, n, d, l, A2, n2, d2, l2, A3, n3, d3, l3⟩).toArray := by kernel_rfl
theorem getStamps_r {w : World} {F : List Nat} {g : Nat} {s : Ps} (hr : Rs w F g s) : Calls Try.prog 76 #[.pointer (some ⟨g, 0, none⟩), fnV 47] w fun e w' => ∃ (A : Option Addr) (n c : Nat) (l : List Wst), e = .returned (.slice A n c) ∧ GotL 32 38 Wst.cells (fun _ _ v => v.Ok) id w w' A n c l (pL pSt s).1 ∧ Rs w' F g (pL pSt s).2 ∧ Fr [g] w w' :=
  getStamps_any Wst.cells (fun _ _ v => v.Ok) id pSt Wst.one (fun h _ _ => h) (fun _ _ _ h => Wst.len h.h) (gets_of (fun _ _ _ _ hr => getStamp_any hr) pSt_ok) w F g s hr
theorem getDenies_r {w : World} {F : List Nat} {g : Nat} {s : Ps} (hr : Rs w F g s) : Calls Try.prog 93 #[.pointer (some ⟨g, 0, none⟩), fnV 56] w fun e w' => ∃ (A : Option Addr) (n c : Nat) (l : List Wdn), e = .returned (.slice A n c) ∧ GotL 56 4 Wdn.cells (fun _ _ v => v.Ok) id w w' A n c l (pL pDn s).1 ∧ Rs w' F g (pL pDn s).2 ∧ Fr [g] w w' :=
  getDenies_any Wdn.cells (fun _ _ v => v.Ok) id pDn Wdn.one (fun h _ _ => h) (fun _ _ v _ => Wdn.len v) (gets_of (fun _ _ _ _ hr => getDeny_any hr) pDn_ok) w F g s hr
set_option maxHeartbeats 2000000 in
theorem getCert_any : Gets 48 Wce.cells (fun w S v => v.Li w S) Wce.con pCe := by
  intro w F g s hr
  obtain ⟨wa, hwa⟩ : ∃ wa, wa = w.alloc (Obj.cells zCe 35) := ⟨_, rfl⟩
  have hf0 : Fr [] w wa := by rw [hwa]; exact (Fr.refl [] w).alloc _
  have HB : Hid (Blk wa w.heap.size 35 zCe) := Lib.hid (by rw [hwa]; exact Blk.new _ _ _)
  have HR := Lib.hid (hr.fr hf0 (by simp) (by simp))
  have HNF : Hid (¬ w.heap.size ∈ F) := Lib.hid (fun hm => by have := hr.lt _ hm; omega)
  have HG : Hid (g < w.heap.size) := Lib.hid hr.gt
  have HF0 := Lib.hid hf0
  have HWA := Lib.hid hwa
  clear hwa hf0 hr
  go_enter Try.func48, Try.ntmps48
  go_upto_region 1 with (fail)
  change Code.wp _ _ _ _ (w.alloc (Obj.cells zCe 35))
  rw [← HWA.out]
  go_wp2_with fail
  refine (getCommit_any HR.out).mono ?_
  rintro e_ w1 ⟨rfl, h1, h2⟩
  have HR0 := Lib.hid h1
  have HF1 : Hid (Fr [g] wa w1) := Lib.hid h2
  have hq_ : Fr [g, w.heap.size] wa w1 := h2.mono (fun x hx _ => by simp at hx; simp [hx])
  clear h1 h2 hq_
  go_wp2_with fail
  refine (getStamps_r HR0.out).mono ?_
  rintro e_ w2 ⟨A1, n1, c1, l1, rfl, hgl, h1, h2⟩
  have HR1 := Lib.hid h1
  have HF2 : Hid (Fr [g] wa w2) := Lib.hid (HF1.out.trans h2 (fun x hx _ => hx))
  have hq_ : Fr [g, w.heap.size] w1 w2 := h2.mono (fun x hx _ => by simp at hx; simp [hx])
  have HL1 := Lib.hid (GotL.lst (cells := Wst.cells) (ok := fun _ _ v => v.Ok) (fun h _ _ => h) (fun _ _ _ h => Wst.len h.h) hgl (q := w.heap.size) (N := w.heap.size) (g := g) (by have h3 := HB.out.lt; have h4 := HG.out; have h5 := HF1.out.size; omega) (by have h3 := HB.out.lt; have h4 := HG.out; have h5 := HF1.out.size; omega) (by have h3 := HB.out.lt; have h4 := HG.out; have h5 := HF1.out.size; omega))
  have HGL1 : Hid (_ ∧ _) := Lib.hid ⟨hgl.con, hgl.few⟩
  clear hgl
  clear h1 h2 hq_
  have HBE := Lib.hid (HB.out.keep HF2.out (by have := HG.out; simp; omega))
  have HBU := Lib.hid (built_ceR (pCm s).1 (pCm_ok s).h A1 n1 c1 l1)
  obtain ⟨v, hv⟩ : ∃ v : Wce, v = ⟨(pCm s).1, A1, n1, c1, l1⟩ := ⟨_, rfl⟩
  have HVS : Hid (v.cells.toArray.size = 38) := Lib.hid (by rw [hv, List.size_toArray]; exact Wce.len (pCm_ok s).h)
  have HAL : Hid (v.cells.toArray.all (·.oneCell') = true) := Lib.hid (all_oneCell_toArray (Wce.one _))
  have HTS : Hid ((Try.prog.info? 35).map (·.size) = some v.cells.toArray.size) := Lib.hid (by rw [HVS.out]; kernel_rfl)
  have HV := Lib.hid hv
  rw [← hv] at HBU
  clear hv
  obtain ⟨V, hV⟩ : ∃ V : Array Value, V = v.cells.toArray := ⟨_, rfl⟩
  have HVV := Lib.hid hV
  rw [← hV] at HBU HAL HVS HTS
  clear hV
  go_wp2_with (first
    | (refine wpList_builtg rfl 35 _ rfl _ _ HBU.out rfl ?_)
    | (refine wpList_store_blk rfl 35 _ _ rfl w.heap.size V rfl rfl 35 zCe HBE.out HTS.out (by rw [HVS.out]; rfl) HAL.out ?_
       intro w9 hb9 hf9
       have HB9 := Lib.hid hb9
       have HF9 := Lib.hid hf9
       clear hb9 hf9))
  have hq9 : Fr [g, w.heap.size] w2 w9 := HF9.out.mono (fun x hx _ => by simp at hx; simp [hx])
  refine bodyPost_ret (v := .agg V) (results_cell_row Try.results48 _ _ w.heap.size 35 V _ _ rfl HB9.out Try.underlying35 rfl HTS.out) rfl ⟨v, by rw [HVV.out], ?_, fun S0 h0 => ?_, ?_, ?_⟩
  · rw [HV.out]; show (_, l1) = (_, _); congr 1; have := HGL1.out.1; rw [List.map_id] at this; exact this
  · rw [HV.out]; exact ⟨pCm_ok s, (HL1.out w9 hq9 S0 h0).1, HGL1.out.2, (HL1.out w9 hq9 S0 h0).2⟩
  · exact HR1.out.fr HF9.out (by have := HG.out; simp; omega) (fun k hk hm => HNF.out (by simp at hm; exact hm ▸ hk))
  · exact Fr.unbox HF0.out HF2.out HF9.out (Nat.le_refl _)
theorem getCerts_r {w : World} {F : List Nat} {g : Nat} {s : Ps} (hr : Rs w F g s) : Calls Try.prog 78 #[.pointer (some ⟨g, 0, none⟩), fnV 48] w fun e w' => ∃ (A : Option Addr) (n c : Nat) (l : List Wce), e = .returned (.slice A n c) ∧ GotL 35 38 Wce.cells (fun w S v => v.Li w S) Wce.con w w' A n c l (pL pCe s).1 ∧ Rs w' F g (pL pCe s).2 ∧ Fr [g] w w' :=
  getCerts_any Wce.cells (fun w S v => v.Li w S) Wce.con pCe Wce.one Wce.Li.keep (fun _ _ _ h => Wce.len h.k.h) getCert_any w F g s hr
set_option maxHeartbeats 2000000 in
theorem getPromise_any : Gets 51 Wpr.cells (fun w S v => v.Li w S) Wpr.con pPr := by
  intro w F g s hr
  obtain ⟨wa, hwa⟩ : ∃ wa, wa = w.alloc (Obj.cells (Wpr.cells ⟨0, 0, 0, none, 0, 0, [], 0, 0⟩).toArray 40) := ⟨_, rfl⟩
  have hf0 : Fr [] w wa := by rw [hwa]; exact (Fr.refl [] w).alloc _
  have HB : Hid (Blk wa w.heap.size 40 (Wpr.cells ⟨0, 0, 0, none, 0, 0, [], 0, 0⟩).toArray) := Lib.hid (by rw [hwa]; exact Blk.new _ _ _)
  have HR := Lib.hid (hr.fr hf0 (by simp) (by simp))
  have HNF : Hid (¬ w.heap.size ∈ F) := Lib.hid (fun hm => by have := hr.lt _ hm; omega)
  have HG : Hid (g < w.heap.size) := Lib.hid hr.gt
  have HF0 := Lib.hid hf0
  have HWA := Lib.hid hwa
  clear hwa hf0 hr
  go_enter Try.func51, Try.ntmps51
  go_upto_region 1 with (fail)
  change Code.wp _ _ _ _ (w.alloc (Obj.cells (Wpr.cells ⟨0, 0, 0, none, 0, 0, [], 0, 0⟩).toArray 40))
  rw [← HWA.out]
  go_wp2_with fail
  refine (getInt_any HR.out).mono ?_
  rintro e_ w1 ⟨rfl, h1, h2⟩
  have HR0 := Lib.hid h1
  have HF1 : Hid (Fr [g] wa w1) := Lib.hid h2
  have hq_ : Fr [g, w.heap.size] wa w1 := h2.mono (fun x hx _ => by simp at hx; simp [hx])
  clear h1 h2 hq_
  go_wp2_with fail
  refine (getInt_any HR0.out).mono ?_
  rintro e_ w2 ⟨rfl, h1, h2⟩
  have HR1 := Lib.hid h1
  have HF2 : Hid (Fr [g] wa w2) := Lib.hid (HF1.out.trans h2 (fun x hx _ => hx))
  have hq_ : Fr [g, w.heap.size] w1 w2 := h2.mono (fun x hx _ => by simp at hx; simp [hx])
  clear h1 h2 hq_
  go_wp2_with fail
  refine (getNum_any HR1.out).mono ?_
  rintro e_ w3 ⟨rfl, h1, h2⟩
  have HR2 := Lib.hid h1
  have HF3 : Hid (Fr [g] wa w3) := Lib.hid (HF2.out.trans h2 (fun x hx _ => hx))
  have hq_ : Fr [g, w.heap.size] w2 w3 := h2.mono (fun x hx _ => by simp at hx; simp [hx])
  clear h1 h2 hq_
  go_wp2_with fail
  refine (getCerts_r HR2.out).mono ?_
  rintro e_ w4 ⟨A1, n1, c1, l1, rfl, hgl, h1, h2⟩
  have HR3 := Lib.hid h1
  have HF4 : Hid (Fr [g] wa w4) := Lib.hid (HF3.out.trans h2 (fun x hx _ => hx))
  have hq_ : Fr [g, w.heap.size] w3 w4 := h2.mono (fun x hx _ => by simp at hx; simp [hx])
  have HL1 := Lib.hid (GotL.lst (cells := Wce.cells) (ok := fun w S v => v.Li w S) (Wce.Li.keep) (fun _ _ _ h => Wce.len h.k.h) hgl (q := w.heap.size) (N := w.heap.size) (g := g) (by have h3 := HB.out.lt; have h4 := HG.out; have h5 := HF3.out.size; omega) (by have h3 := HB.out.lt; have h4 := HG.out; have h5 := HF3.out.size; omega) (by have h3 := HB.out.lt; have h4 := HG.out; have h5 := HF3.out.size; omega))
  have HGL1 : Hid (_ ∧ _) := Lib.hid ⟨hgl.con, hgl.few⟩
  clear hgl
  clear h1 h2 hq_
  go_wp2_with fail
  refine (getSig_any HR3.out).mono ?_
  rintro e_ w5 ⟨rfl, h1, h2⟩
  have HR4 := Lib.hid h1
  have HF5 : Hid (Fr [g] wa w5) := Lib.hid (HF4.out.trans h2 (fun x hx _ => hx))
  have hq_ : Fr [g, w.heap.size] w4 w5 := h2.mono (fun x hx _ => by simp at hx; simp [hx])
  have HL1 := Lib.hid (fun W (hW : Fr [g, w.heap.size] w5 W) => HL1.out W (hq_.trans hW (fun x hx _ => hx)))
  clear h1 h2 hq_
  have HBE := Lib.hid (HB.out.keep HF5.out (by have := HG.out; simp; omega))
  have HBU := Lib.hid (built_prR (pI s).1 (pI (pI s).2).1 (pN (pI (pI s).2).2).1 A1 n1 c1 l1 (p2 (pL pCe (pN (pI (pI s).2).2).2).2).1.1 (p2 (pL pCe (pN (pI (pI s).2).2).2).2).1.2)
  obtain ⟨v, hv⟩ : ∃ v : Wpr, v = ⟨(pI s).1, (pI (pI s).2).1, (pN (pI (pI s).2).2).1, A1, n1, c1, l1, (p2 (pL pCe (pN (pI (pI s).2).2).2).2).1.1, (p2 (pL pCe (pN (pI (pI s).2).2).2).2).1.2⟩ := ⟨_, rfl⟩
  have HVS : Hid (v.cells.toArray.size = 6) := Lib.hid (by rw [hv, List.size_toArray]; exact rfl)
  have HAL : Hid (v.cells.toArray.all (·.oneCell') = true) := Lib.hid (all_oneCell_toArray (Wpr.one _))
  have HTS : Hid ((Try.prog.info? 40).map (·.size) = some v.cells.toArray.size) := Lib.hid (by rw [HVS.out]; kernel_rfl)
  have HV := Lib.hid hv
  rw [← hv] at HBU
  clear hv
  obtain ⟨V, hV⟩ : ∃ V : Array Value, V = v.cells.toArray := ⟨_, rfl⟩
  have HVV := Lib.hid hV
  rw [← hV] at HBU HAL HVS HTS
  clear hV
  go_wp2_with (first
    | (refine wpList_builtg rfl 40 _ rfl _ _ HBU.out rfl ?_)
    | (refine wpList_store_blk rfl 40 _ _ rfl w.heap.size V rfl rfl 40 (Wpr.cells ⟨0, 0, 0, none, 0, 0, [], 0, 0⟩).toArray HBE.out HTS.out (by rw [HVS.out]; rfl) HAL.out ?_
       intro w9 hb9 hf9
       have HB9 := Lib.hid hb9
       have HF9 := Lib.hid hf9
       clear hb9 hf9))
  have hq9 : Fr [g, w.heap.size] w5 w9 := HF9.out.mono (fun x hx _ => by simp at hx; simp [hx])
  refine bodyPost_ret (v := .agg V) (results_cell_row Try.results51 _ _ w.heap.size 40 V _ _ rfl HB9.out Try.underlying40 rfl HTS.out) rfl ⟨v, by rw [HVV.out], ?_, fun S0 h0 => ?_, ?_, ?_⟩
  · rw [HV.out]; unfold Wpr.con; rw [HGL1.out.1]; rfl
  · rw [HV.out]; exact ⟨pI_in _, pI_in _, pN_lt _, (HL1.out w9 hq9 S0 h0).1, HGL1.out.2, (HL1.out w9 hq9 S0 h0).2, pI_in _, pI_in _⟩
  · exact HR4.out.fr HF9.out (by have := HG.out; simp; omega) (fun k hk hm => HNF.out (by simp at hm; exact hm ▸ hk))
  · exact Fr.unbox HF0.out HF5.out HF9.out (Nat.le_refl _)
theorem getPromises_r {w : World} {F : List Nat} {g : Nat} {s : Ps} (hr : Rs w F g s) : Calls Try.prog 88 #[.pointer (some ⟨g, 0, none⟩), fnV 51] w fun e w' => ∃ (A : Option Addr) (n c : Nat) (l : List Wpr), e = .returned (.slice A n c) ∧ GotL 40 6 Wpr.cells (fun w S v => v.Li w S) Wpr.con w w' A n c l (pL pPr s).1 ∧ Rs w' F g (pL pPr s).2 ∧ Fr [g] w w' :=
  getPromises_any Wpr.cells (fun w S v => v.Li w S) Wpr.con pPr Wpr.one Wpr.Li.keep (fun _ _ _ _ => rfl) getPromise_any w F g s hr
set_option maxHeartbeats 2000000 in
theorem getOpening_any : Gets 55 Wop.cells (fun w S v => v.Ok w S) Wop.con pOp := by
  intro w F g s hr
  obtain ⟨wa, hwa⟩ : ∃ wa, wa = w.alloc (Obj.cells zOp 54) := ⟨_, rfl⟩
  have hf0 : Fr [] w wa := by rw [hwa]; exact (Fr.refl [] w).alloc _
  have HB : Hid (Blk wa w.heap.size 54 zOp) := Lib.hid (by rw [hwa]; exact Blk.new _ _ _)
  have HR := Lib.hid (hr.fr hf0 (by simp) (by simp))
  have HNF : Hid (¬ w.heap.size ∈ F) := Lib.hid (fun hm => by have := hr.lt _ hm; omega)
  have HG : Hid (g < w.heap.size) := Lib.hid hr.gt
  have HF0 := Lib.hid hf0
  have HWA := Lib.hid hwa
  clear hwa hf0 hr
  go_enter Try.func55, Try.ntmps55
  go_upto_region 1 with (fail)
  change Code.wp _ _ _ _ (w.alloc (Obj.cells zOp 54))
  rw [← HWA.out]
  go_wp2_with fail
  refine (getInt_any HR.out).mono ?_
  rintro e_ w1 ⟨rfl, h1, h2⟩
  have HR0 := Lib.hid h1
  have HF1 : Hid (Fr [g] wa w1) := Lib.hid h2
  have hq_ : Fr [g, w.heap.size] wa w1 := h2.mono (fun x hx _ => by simp at hx; simp [hx])
  clear h1 h2 hq_
  go_wp2_with fail
  refine (getRow_any HR0.out).mono ?_
  rintro e_ w2 ⟨A1, c1, rfl, hby, hbk, hcap, h1, h2⟩
  have HR1 := Lib.hid h1
  have HF2 : Hid (Fr [g] wa w2) := Lib.hid (HF1.out.trans h2 (fun x hx _ => hx))
  have hq_ : Fr [g, w.heap.size] w1 w2 := h2.mono (fun x hx _ => by simp at hx; simp [hx])
  have HPA : Hid (∀ k ∈ bk A1, w.heap.size < k) := Lib.hid (fun k hk => by have h1 := (hbk k hk).1; have h3 := HB.out.lt; have h5 := HF1.out.size; omega)
  have HL1 : Hid (∀ W, Fr [g, w.heap.size] w2 W → By W A1 (pR _).1.length (pR _).1 ∧ ∀ k ∈ bk A1, k < W.heap.size) := Lib.hid (fun W hW => ⟨hby.keep hW (fun a ha hm => by have h1 := HPA.out a.block (by simp [bk, ha]); have h2 := HG.out; simp at hm; omega), fun k hk => Nat.lt_of_lt_of_le (hbk k hk).2 hW.size⟩)
  have HCA := Lib.hid hcap
  clear hby hbk hcap
  clear h1 h2 hq_
  go_wp2_with fail
  refine (getHash_any HR1.out).mono ?_
  rintro e_ w3 ⟨rfl, h1, h2⟩
  have HR2 := Lib.hid h1
  have HF3 : Hid (Fr [g] wa w3) := Lib.hid (HF2.out.trans h2 (fun x hx _ => hx))
  have hq_ : Fr [g, w.heap.size] w2 w3 := h2.mono (fun x hx _ => by simp at hx; simp [hx])
  have HL1 := Lib.hid (fun W (hW : Fr [g, w.heap.size] w3 W) => HL1.out W (hq_.trans hW (fun x hx _ => hx)))
  clear h1 h2 hq_
  have HBE := Lib.hid (HB.out.keep HF3.out (by have := HG.out; simp; omega))
  have HBU := Lib.hid (built_opR (pI s).1 A1 (pR (pI s).2).1.length c1 (pR (pI s).2).1 (pH (pR (pI s).2).2).1 (pH_len _))
  obtain ⟨v, hv⟩ : ∃ v : Wop, v = ⟨(pI s).1, A1, (pR (pI s).2).1.length, c1, (pR (pI s).2).1, (pH (pR (pI s).2).2).1⟩ := ⟨_, rfl⟩
  have HVS : Hid (v.cells.toArray.size = 34) := Lib.hid (by rw [hv, List.size_toArray]; exact Wop.len (pH_len _))
  have HAL : Hid (v.cells.toArray.all (·.oneCell') = true) := Lib.hid (all_oneCell_toArray (Wop.one _))
  have HTS : Hid ((Try.prog.info? 54).map (·.size) = some v.cells.toArray.size) := Lib.hid (by rw [HVS.out]; kernel_rfl)
  have HV := Lib.hid hv
  rw [← hv] at HBU
  clear hv
  obtain ⟨V, hV⟩ : ∃ V : Array Value, V = v.cells.toArray := ⟨_, rfl⟩
  have HVV := Lib.hid hV
  rw [← hV] at HBU HAL HVS HTS
  clear hV
  go_wp2_with (first
    | (refine wpList_builtg rfl 54 _ rfl _ _ HBU.out rfl ?_)
    | (refine wpList_store_blk rfl 54 _ _ rfl w.heap.size V rfl rfl 54 zOp HBE.out HTS.out (by rw [HVS.out]; rfl) HAL.out ?_
       intro w9 hb9 hf9
       have HB9 := Lib.hid hb9
       have HF9 := Lib.hid hf9
       clear hb9 hf9))
  have hq9 : Fr [g, w.heap.size] w3 w9 := HF9.out.mono (fun x hx _ => by simp at hx; simp [hx])
  refine bodyPost_ret (v := .agg V) (results_cell_row Try.results55 _ _ w.heap.size 54 V _ _ rfl HB9.out Try.underlying54 rfl HTS.out) rfl ⟨v, by rw [HVV.out], ?_, fun S0 h0 => ?_, ?_, ?_⟩
  · rw [HV.out]; rfl
  · rw [HV.out]; exact ⟨pI_in _, (HL1.out w9 hq9).1, Nat.le_trans (pR_le _) (by omega), fun k hk hm => by have h1 := HPA.out k hk; have h2 := h0 k hm; omega, (HL1.out w9 hq9).2, pH_len _, HCA.out⟩
  · exact HR2.out.fr HF9.out (by have := HG.out; simp; omega) (fun k hk hm => HNF.out (by simp at hm; exact hm ▸ hk))
  · exact Fr.unbox HF0.out HF3.out HF9.out (Nat.le_refl _)
theorem getOpenings_r {w : World} {F : List Nat} {g : Nat} {s : Ps} (hr : Rs w F g s) : Calls Try.prog 89 #[.pointer (some ⟨g, 0, none⟩), fnV 55] w fun e w' => ∃ (A : Option Addr) (n c : Nat) (l : List Wop), e = .returned (.slice A n c) ∧ GotL 54 34 Wop.cells (fun w S v => v.Ok w S) Wop.con w w' A n c l (pL pOp s).1 ∧ Rs w' F g (pL pOp s).2 ∧ Fr [g] w w' :=
  getOpenings_any Wop.cells (fun w S v => v.Ok w S) Wop.con pOp Wop.one Wop.Ok.keep (fun _ _ _ h => Wop.len h.h) getOpening_any w F g s hr
set_option maxHeartbeats 2000000 in
theorem getTomb_any : Gets 91 Wtb.cells (fun w S v => v.Li w S) Wtb.con pTb := by
  intro w F g s hr
  obtain ⟨wa, hwa⟩ : ∃ wa, wa = w.alloc (Obj.cells (Wtb.cells ⟨0, none, 0, 0, []⟩).toArray 135) := ⟨_, rfl⟩
  have hf0 : Fr [] w wa := by rw [hwa]; exact (Fr.refl [] w).alloc _
  have HB : Hid (Blk wa w.heap.size 135 (Wtb.cells ⟨0, none, 0, 0, []⟩).toArray) := Lib.hid (by rw [hwa]; exact Blk.new _ _ _)
  have HR := Lib.hid (hr.fr hf0 (by simp) (by simp))
  have HNF : Hid (¬ w.heap.size ∈ F) := Lib.hid (fun hm => by have := hr.lt _ hm; omega)
  have HG : Hid (g < w.heap.size) := Lib.hid hr.gt
  have HF0 := Lib.hid hf0
  have HWA := Lib.hid hwa
  clear hwa hf0 hr
  go_enter Try.func91, Try.ntmps91
  go_upto_region 1 with (fail)
  change Code.wp _ _ _ _ (w.alloc (Obj.cells (Wtb.cells ⟨0, none, 0, 0, []⟩).toArray 135))
  rw [← HWA.out]
  go_wp2_with fail
  refine (getInt_any HR.out).mono ?_
  rintro e_ w1 ⟨rfl, h1, h2⟩
  have HR0 := Lib.hid h1
  have HF1 : Hid (Fr [g] wa w1) := Lib.hid h2
  have hq_ : Fr [g, w.heap.size] wa w1 := h2.mono (fun x hx _ => by simp at hx; simp [hx])
  clear h1 h2 hq_
  go_wp2_with fail
  refine (getDenies_r HR0.out).mono ?_
  rintro e_ w2 ⟨A1, n1, c1, l1, rfl, hgl, h1, h2⟩
  have HR1 := Lib.hid h1
  have HF2 : Hid (Fr [g] wa w2) := Lib.hid (HF1.out.trans h2 (fun x hx _ => hx))
  have hq_ : Fr [g, w.heap.size] w1 w2 := h2.mono (fun x hx _ => by simp at hx; simp [hx])
  have HL1 := Lib.hid (GotL.lst (cells := Wdn.cells) (ok := fun _ _ v => v.Ok) (fun h _ _ => h) (fun _ _ v _ => Wdn.len v) hgl (q := w.heap.size) (N := w.heap.size) (g := g) (by have h3 := HB.out.lt; have h4 := HG.out; have h5 := HF1.out.size; omega) (by have h3 := HB.out.lt; have h4 := HG.out; have h5 := HF1.out.size; omega) (by have h3 := HB.out.lt; have h4 := HG.out; have h5 := HF1.out.size; omega))
  have HGL1 : Hid (_ ∧ _) := Lib.hid ⟨hgl.con, hgl.few⟩
  clear hgl
  clear h1 h2 hq_
  have HBE := Lib.hid (HB.out.keep HF2.out (by have := HG.out; simp; omega))
  have HBU := Lib.hid (built_tbR (pI s).1 A1 n1 c1 l1)
  obtain ⟨v, hv⟩ : ∃ v : Wtb, v = ⟨(pI s).1, A1, n1, c1, l1⟩ := ⟨_, rfl⟩
  have HVS : Hid (v.cells.toArray.size = 2) := Lib.hid (by rw [hv, List.size_toArray]; exact rfl)
  have HAL : Hid (v.cells.toArray.all (·.oneCell') = true) := Lib.hid (all_oneCell_toArray (Wtb.one _))
  have HTS : Hid ((Try.prog.info? 135).map (·.size) = some v.cells.toArray.size) := Lib.hid (by rw [HVS.out]; kernel_rfl)
  have HV := Lib.hid hv
  rw [← hv] at HBU
  clear hv
  obtain ⟨V, hV⟩ : ∃ V : Array Value, V = v.cells.toArray := ⟨_, rfl⟩
  have HVV := Lib.hid hV
  rw [← hV] at HBU HAL HVS HTS
  clear hV
  go_wp2_with (first
    | (refine wpList_builtg rfl 135 _ rfl _ _ HBU.out rfl ?_)
    | (refine wpList_store_blk rfl 135 _ _ rfl w.heap.size V rfl rfl 135 (Wtb.cells ⟨0, none, 0, 0, []⟩).toArray HBE.out HTS.out (by rw [HVS.out]; rfl) HAL.out ?_
       intro w9 hb9 hf9
       have HB9 := Lib.hid hb9
       have HF9 := Lib.hid hf9
       clear hb9 hf9))
  have hq9 : Fr [g, w.heap.size] w2 w9 := HF9.out.mono (fun x hx _ => by simp at hx; simp [hx])
  refine bodyPost_ret (v := .agg V) (results_cell_row Try.results91 _ _ w.heap.size 135 V _ _ rfl HB9.out Try.underlying135 rfl HTS.out) rfl ⟨v, by rw [HVV.out], ?_, fun S0 h0 => ?_, ?_, ?_⟩
  · rw [HV.out]; unfold Wtb.con; have := HGL1.out.1; rw [List.map_id] at this; rw [this]; rfl
  · rw [HV.out]; exact ⟨pI_in _, (HL1.out w9 hq9 S0 h0).1, HGL1.out.2, (HL1.out w9 hq9 S0 h0).2⟩
  · exact HR1.out.fr HF9.out (by have := HG.out; simp; omega) (fun k hk hm => HNF.out (by simp at hm; exact hm ▸ hk))
  · exact Fr.unbox HF0.out HF2.out HF9.out (Nat.le_refl _)
theorem getTombs_r {w : World} {F : List Nat} {g : Nat} {s : Ps} (hr : Rs w F g s) : Calls Try.prog 90 #[.pointer (some ⟨g, 0, none⟩), fnV 91] w fun e w' => ∃ (A : Option Addr) (n c : Nat) (l : List Wtb), e = .returned (.slice A n c) ∧ GotL 135 2 Wtb.cells (fun w S v => v.Li w S) Wtb.con w w' A n c l (pL pTb s).1 ∧ Rs w' F g (pL pTb s).2 ∧ Fr [g] w w' :=
  getTombs_any Wtb.cells (fun w S v => v.Li w S) Wtb.con pTb Wtb.one Wtb.Li.keep (fun _ _ _ _ => rfl) getTomb_any w F g s hr
set_option maxHeartbeats 2000000 in
theorem getBatch_any : Gets 79 Wba.cells (fun w S v => v.Li w S) Wba.con pBa := by
  intro w F g s hr
  obtain ⟨wa, hwa⟩ : ∃ wa, wa = w.alloc (Obj.cells (Wba.cells ⟨0, 0, none, 0, 0, [], none, 0, 0, [], none, 0, 0, []⟩).toArray 45) := ⟨_, rfl⟩
  have hf0 : Fr [] w wa := by rw [hwa]; exact (Fr.refl [] w).alloc _
  have HB : Hid (Blk wa w.heap.size 45 (Wba.cells ⟨0, 0, none, 0, 0, [], none, 0, 0, [], none, 0, 0, []⟩).toArray) := Lib.hid (by rw [hwa]; exact Blk.new _ _ _)
  have HR := Lib.hid (hr.fr hf0 (by simp) (by simp))
  have HNF : Hid (¬ w.heap.size ∈ F) := Lib.hid (fun hm => by have := hr.lt _ hm; omega)
  have HG : Hid (g < w.heap.size) := Lib.hid hr.gt
  have HF0 := Lib.hid hf0
  have HWA := Lib.hid hwa
  clear hwa hf0 hr
  go_enter Try.func79, Try.ntmps79
  go_upto_region 1 with (fail)
  change Code.wp _ _ _ _ (w.alloc (Obj.cells (Wba.cells ⟨0, 0, none, 0, 0, [], none, 0, 0, [], none, 0, 0, []⟩).toArray 45))
  rw [← HWA.out]
  go_wp2_with fail
  refine (getInt_any HR.out).mono ?_
  rintro e_ w1 ⟨rfl, h1, h2⟩
  have HR0 := Lib.hid h1
  have HF1 : Hid (Fr [g] wa w1) := Lib.hid h2
  have hq_ : Fr [g, w.heap.size] wa w1 := h2.mono (fun x hx _ => by simp at hx; simp [hx])
  clear h1 h2 hq_
  go_wp2_with fail
  refine (getNum_any HR0.out).mono ?_
  rintro e_ w2 ⟨rfl, h1, h2⟩
  have HR1 := Lib.hid h1
  have HF2 : Hid (Fr [g] wa w2) := Lib.hid (HF1.out.trans h2 (fun x hx _ => hx))
  have hq_ : Fr [g, w.heap.size] w1 w2 := h2.mono (fun x hx _ => by simp at hx; simp [hx])
  clear h1 h2 hq_
  go_wp2_with fail
  refine (getPromises_r HR1.out).mono ?_
  rintro e_ w3 ⟨A1, n1, c1, l1, rfl, hgl, h1, h2⟩
  have HR2 := Lib.hid h1
  have HF3 : Hid (Fr [g] wa w3) := Lib.hid (HF2.out.trans h2 (fun x hx _ => hx))
  have hq_ : Fr [g, w.heap.size] w2 w3 := h2.mono (fun x hx _ => by simp at hx; simp [hx])
  have HL1 := Lib.hid (GotL.lst (cells := Wpr.cells) (ok := fun w S v => v.Li w S) (Wpr.Li.keep) (fun _ _ _ _ => rfl) hgl (q := w.heap.size) (N := w.heap.size) (g := g) (by have h3 := HB.out.lt; have h4 := HG.out; have h5 := HF2.out.size; omega) (by have h3 := HB.out.lt; have h4 := HG.out; have h5 := HF2.out.size; omega) (by have h3 := HB.out.lt; have h4 := HG.out; have h5 := HF2.out.size; omega))
  have HGL1 : Hid (_ ∧ _) := Lib.hid ⟨hgl.con, hgl.few⟩
  clear hgl
  clear h1 h2 hq_
  go_wp2_with fail
  refine (getOpenings_r HR2.out).mono ?_
  rintro e_ w4 ⟨A2, n2, c2, l2, rfl, hgl, h1, h2⟩
  have HR3 := Lib.hid h1
  have HF4 : Hid (Fr [g] wa w4) := Lib.hid (HF3.out.trans h2 (fun x hx _ => hx))
  have hq_ : Fr [g, w.heap.size] w3 w4 := h2.mono (fun x hx _ => by simp at hx; simp [hx])
  have HL1 := Lib.hid (fun W (hW : Fr [g, w.heap.size] w4 W) => HL1.out W (hq_.trans hW (fun x hx _ => hx)))
  have HL2 := Lib.hid (GotL.lst (cells := Wop.cells) (ok := fun w S v => v.Ok w S) (Wop.Ok.keep) (fun _ _ _ h => Wop.len h.h) hgl (q := w.heap.size) (N := w.heap.size) (g := g) (by have h3 := HB.out.lt; have h4 := HG.out; have h5 := HF3.out.size; omega) (by have h3 := HB.out.lt; have h4 := HG.out; have h5 := HF3.out.size; omega) (by have h3 := HB.out.lt; have h4 := HG.out; have h5 := HF3.out.size; omega))
  have HGL2 : Hid (_ ∧ _) := Lib.hid ⟨hgl.con, hgl.few⟩
  clear hgl
  clear h1 h2 hq_
  go_wp2_with fail
  refine (getTombs_r HR3.out).mono ?_
  rintro e_ w5 ⟨A3, n3, c3, l3, rfl, hgl, h1, h2⟩
  have HR4 := Lib.hid h1
  have HF5 : Hid (Fr [g] wa w5) := Lib.hid (HF4.out.trans h2 (fun x hx _ => hx))
  have hq_ : Fr [g, w.heap.size] w4 w5 := h2.mono (fun x hx _ => by simp at hx; simp [hx])
  have HL1 := Lib.hid (fun W (hW : Fr [g, w.heap.size] w5 W) => HL1.out W (hq_.trans hW (fun x hx _ => hx)))
  have HL2 := Lib.hid (fun W (hW : Fr [g, w.heap.size] w5 W) => HL2.out W (hq_.trans hW (fun x hx _ => hx)))
  have HL3 := Lib.hid (GotL.lst (cells := Wtb.cells) (ok := fun w S v => v.Li w S) (Wtb.Li.keep) (fun _ _ _ _ => rfl) hgl (q := w.heap.size) (N := w.heap.size) (g := g) (by have h3 := HB.out.lt; have h4 := HG.out; have h5 := HF4.out.size; omega) (by have h3 := HB.out.lt; have h4 := HG.out; have h5 := HF4.out.size; omega) (by have h3 := HB.out.lt; have h4 := HG.out; have h5 := HF4.out.size; omega))
  have HGL3 : Hid (_ ∧ _) := Lib.hid ⟨hgl.con, hgl.few⟩
  clear hgl
  clear h1 h2 hq_
  have HBE := Lib.hid (HB.out.keep HF5.out (by have := HG.out; simp; omega))
  have HBU := Lib.hid (built_baR (pI s).1 (pN (pI s).2).1 A1 n1 c1 l1 A2 n2 c2 l2 A3 n3 c3 l3)
  obtain ⟨v, hv⟩ : ∃ v : Wba, v = ⟨(pI s).1, (pN (pI s).2).1, A1, n1, c1, l1, A2, n2, c2, l2, A3, n3, c3, l3⟩ := ⟨_, rfl⟩
  have HVS : Hid (v.cells.toArray.size = 5) := Lib.hid (by rw [hv, List.size_toArray]; exact rfl)
  have HAL : Hid (v.cells.toArray.all (·.oneCell') = true) := Lib.hid (all_oneCell_toArray (Wba.one _))
  have HTS : Hid ((Try.prog.info? 45).map (·.size) = some v.cells.toArray.size) := Lib.hid (by rw [HVS.out]; kernel_rfl)
  have HV := Lib.hid hv
  rw [← hv] at HBU
  clear hv
  obtain ⟨V, hV⟩ : ∃ V : Array Value, V = v.cells.toArray := ⟨_, rfl⟩
  have HVV := Lib.hid hV
  rw [← hV] at HBU HAL HVS HTS
  clear hV
  go_wp2_with (first
    | (refine wpList_builtg rfl 45 _ rfl _ _ HBU.out rfl ?_)
    | (refine wpList_store_blk rfl 45 _ _ rfl w.heap.size V rfl rfl 45 (Wba.cells ⟨0, 0, none, 0, 0, [], none, 0, 0, [], none, 0, 0, []⟩).toArray HBE.out HTS.out (by rw [HVS.out]; rfl) HAL.out ?_
       intro w9 hb9 hf9
       have HB9 := Lib.hid hb9
       have HF9 := Lib.hid hf9
       clear hb9 hf9))
  have hq9 : Fr [g, w.heap.size] w5 w9 := HF9.out.mono (fun x hx _ => by simp at hx; simp [hx])
  refine bodyPost_ret (v := .agg V) (results_cell_row Try.results79 _ _ w.heap.size 45 V _ _ rfl HB9.out Try.underlying45 rfl HTS.out) rfl ⟨v, by rw [HVV.out], ?_, fun S0 h0 => ?_, ?_, ?_⟩
  · rw [HV.out]; unfold Wba.con; rw [HGL1.out.1, HGL2.out.1, HGL3.out.1]; rfl
  · rw [HV.out]; exact ⟨pI_in _, pN_lt _, (HL1.out w9 hq9 S0 h0).1, HGL1.out.2, (HL1.out w9 hq9 S0 h0).2, (HL2.out w9 hq9 S0 h0).1, HGL2.out.2, (HL2.out w9 hq9 S0 h0).2, (HL3.out w9 hq9 S0 h0).1, HGL3.out.2, (HL3.out w9 hq9 S0 h0).2⟩
  · exact HR4.out.fr HF9.out (by have := HG.out; simp; omega) (fun k hk hm => HNF.out (by simp at hm; exact hm ▸ hk))
  · exact Fr.unbox HF0.out HF5.out HF9.out (Nat.le_refl _)
end Go.Proofs.Ytniaacjfkaakjaa
