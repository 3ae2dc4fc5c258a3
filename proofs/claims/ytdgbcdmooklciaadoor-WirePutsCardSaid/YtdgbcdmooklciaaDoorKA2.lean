/- Texts that the proof stands on: Package part: openings, tombstones, batches as values; what their writers write. | gavelref01's small writers: a name, a signature, a commitment, a stamp, an ack, a denial, a vote, an opening; what is signed of them. (written by gen_doc.py) | Package part: batches as values; what their writer writes. | Package wire: a batch's hash; what is signed of a promise, of a proposal. -/
import Derived.Test.YtdgbcdmooklciaaDoorKA1
import Derived.Test.YtdgbcdmooklciaaDoorShaQ
set_option maxRecDepth 100000

namespace Go.Proofs.YtdgbcdmooklciaaDoor
open Go.RowKit
set_option maxRecDepth 100000

set_option maxHeartbeats 2000000 in
theorem putDenies_any {α : Type} (cells : α → List Value) (ok : World → List Nat → α → Prop) (full : α → List UInt8) (N : Nat) (hone : ∀ v, ∀ u ∈ cells v, u.oneCell' = true) (hsz : (Tryd.prog.info? 83).map (·.size) = some 4)
    (hfull : ∀ W S v, ok W S v → (full v).length ≤ N)
    (hput : ∀ (v : α) (W : World) (S : List Nat) (g : Nat) (l : List UInt8), ok W S v → Wr W S g l → l.length + N ≤ 1073741000 → Calls Tryd.prog 116 #[.pointer (some ⟨g, 0, none⟩), .agg (cells v).toArray] W fun e w' => e = .returned (.pointer (some ⟨g, 0, none⟩)) ∧ Gr W S g (l ++ full v) w')
    (w : World) (S : List Nat) (g : Nat) (l : List UInt8) (hw : Wr w S g l) (A : Option Addr) (n c : Nat) (xs : List α) (hx : Lst 4 cells (fun w v => ok w S v) w A n xs) (hn : n ≤ 1000) (hA : 0 < n → ∀ a, A = some a → ¬ a.block ∈ S)
    (hkeep : ∀ W S', Fr S w W → (∀ x ∈ S', x < w.heap.size → x ∈ S) → ∀ v ∈ xs, ok w S v → ok W S' v) (hl : l.length + 20 + (n + 1) * N ≤ 1073741000) :
    Calls Tryd.prog 115 #[.pointer (some ⟨g, 0, none⟩), fnV 116, .slice A n c] w fun e w' => e = .returned (.pointer (some ⟨g, 0, none⟩)) ∧ Gr w S g (l ++ listL full xs) w' := by
  have HG0 := Lib.hid (Gr.refl hw)
  have HX := Lib.hid hx
  have HA := Lib.hid hA
  have HL := Lib.hid hl
  have HKP := Lib.hid hkeep
  have HSL := Lib.hid hw.lt
  have hxn := hx.1
  clear hw hx hA hl hkeep
  unfold fnV
  go_enter Tryd.func115, Tryd.ntmps115
  go_wp2_with fail
  refine (HG0.out.call fun S1 k1 => int_any (n : Int) (by omega) (by omega) _ S1 g _ k1 (by have := HL.out; omega)).mono ?_
  rintro e w1 ⟨rfl, hg1⟩
  have HG1 := Lib.hid hg1
  clear hg1 HG0
  go_wp2_with fail
  go_loopw [15] (fun i wr => ∃ k : Nat, k ≤ n ∧ i = .int .i64 k ∧ Gr w S g (l ++ encI (n : Int) ++ (xs.take k).flatMap full) wr) (fun i _ => n - (intOf i).toNat)
  case atStart => exact ⟨0, by omega, rfl, by simpa using HG1.out⟩
  case round =>
    obtain ⟨k, hk, rfl, hg⟩ := hrel
    have HG := Lib.hid hg
    clear hg
    by_cases hlt : k < n
    · obtain ⟨ad, v, rfl, hv, hcl, hok, hc⟩ := HX.out.at hlt
      have HV := Lib.hid hv
      have HCL := Lib.hid hcl
      have HOK := Lib.hid hok
      have HMEM := Lib.hid (List.mem_of_getElem? hv)
      have HC := Lib.hid (fun j x hj => HG.out.fr.cell (hc j x hj) (by rw [add_block, add_block]; exact HA.out (by omega) ad rfl))
      have HONE := Lib.hid (hone v)
      have HPUT := Lib.hid (hput v)
      have hk0 : (0 : Int) ≤ k := by omega
      have hlen : ((xs.take k).flatMap full).length ≤ k * N := flat_len (fun v hv => hfull w S v (HX.out.2.1 v (List.mem_of_mem_take hv)).2) (by rw [List.length_take]; omega)
      have hkn2 : k * N + N ≤ (n + 1) * N := by rw [← Nat.succ_mul]; exact Nat.mul_le_mul_right N (by omega)
      have HLEN : Hid ((l ++ encI (n : Int) ++ (xs.take k).flatMap full).length + N ≤ 1073741000) := Lib.hid (by have := HL.out; have := encI_len (n : Int) (by omega); simp only [List.length_append]; omega)
      have HTK : Hid ((xs.take (k + 1)).flatMap full = (xs.take k).flatMap full ++ full v) := Lib.hid (by rw [List.take_add_one, hv]; simp)
      have HFV := Lib.hid (rfl : cells v = cells v)
      clear hv hcl hok hc hlen hkn2
      generalize hcv : cells v = C at *
      go_wp2_with (first
        | (refine wpList_cells rfl 83 _ rfl _ rfl C HC.out (row_deny.of HCL.out) ?_)
        | (refine wpList_store_box rfl 83 _ _ rfl _ 83 C rfl rfl (by rw [hsz, HCL.out]) (by rw [HCL.out]; rfl) HONE.out ?_
           intro wb hbb hfb
           have HBB := Lib.hid hbb
           have HFB := Lib.hid hfb
           clear hbb hfb)
        | (refine wpList_row rfl 83 _ rfl _ _ rfl _ HBB.out.range (row_deny.of HCL.out) ?_))
      have HGB := Lib.hid (HG.out.trans (fun S1 k => ⟨S1, k.keep HFB.out (by simp), HFB.out.mono (by simp), fun x hx _ => hx⟩))
      refine (HGB.out.calls fun S1 k1 f1 s1 => HPUT.out _ S1 g _ (HKP.out wb S1 f1 s1 v HMEM.out HOK.out) k1 HLEN.out).mono ?_
      rintro e w2 ⟨rfl, hg2⟩
      have HG2 := Lib.hid hg2
      clear hg2
      go_wp2
      exact ⟨⟨k + 1, by omega, rfl, HG2.out.eq (by rw [HTK.out, List.append_assoc])⟩, by simp only [intOf, Int.toNat_natCast, Int.toNat_natCast_add_one]; omega⟩
    · have hkn : k = n := by omega
      subst hkn
      have HFIN : Hid (Gr w S g (l ++ listL full xs) wr) := Lib.hid (HG.out.eq (by rw [List.take_of_length_le (by omega), listL, hxn, List.append_assoc]))
      clear HG
      go_wp2
      go_ret
      exact ⟨rfl, HFIN.out⟩
theorem row_opn : RowTy Tryd.prog 42 34 := ⟨by kernel_rfl, by kernel_rfl⟩
theorem row_tmb : RowTy Tryd.prog 45 2 := ⟨by kernel_rfl, by kernel_rfl⟩
theorem row_bat : RowTy Tryd.prog 39 5 := ⟨by kernel_rfl, by kernel_rfl⟩
/-- an opening: its index, where its payload lies, its nonce -/
structure Wop where
  i : Int
  A : Option Addr
  n : Nat
  d : Nat
  p : List UInt8
  h : List UInt8
def Wop.cells (x : Wop) : List Value := [.int .i64 x.i, .slice x.A x.n x.d] ++ (x.h.map by8 ++ [])
def Wop.val (x : Wop) : Value := .agg x.cells.toArray
structure Wop.Ok (w : World) (S : List Nat) (x : Wop) : Prop where
  i : i64In x.i
  p : By w x.A x.n x.p
  n : x.n ≤ 260
  ap : ∀ k ∈ bk x.A, ¬ k ∈ S
  lt : ∀ k ∈ bk x.A, k < w.heap.size
  h : x.h.length = 32
theorem Wop.len {x : Wop} (h : x.h.length = 32) : x.cells.length = 34 := by simp [Wop.cells, h]
theorem Wop.one (x : Wop) : ∀ v ∈ x.cells, v.oneCell' = true := by
  intro v hv
  simp only [Wop.cells, List.mem_cons, List.mem_append, List.not_mem_nil, or_false] at hv
  rcases hv with (rfl | rfl) | hv
  · rfl
  · rfl
  · exact by8_one x.h v hv
theorem Wop.Ok.keep {w W : World} {S S' : List Nat} {x : Wop} (h : x.Ok w S) (hf : Fr S w W) (hs : ∀ k ∈ S', k < w.heap.size → k ∈ S) : x.Ok W S' :=
  ⟨h.i, h.p.keep hf (fun a ha => h.ap _ (by rw [ha]; simp [bk])), h.n, fun k hk hin => h.ap k hk (hs k hin (h.lt k hk)), fun k hk => Nat.lt_of_lt_of_le (h.lt k hk) hf.size, h.h⟩
def Wop.full (x : Wop) : List UInt8 := encI x.i ++ (enc x.n ++ x.p) ++ x.h
theorem Wop.full_len {w : World} {S : List Nat} {x : Wop} (hx : x.Ok w S) : x.full.length ≤ 320 := by
  have b0 := encI_len x.i hx.i.2
  have b1 : (enc x.n).length ≤ 10 := enc_ten (by have := hx.n; omega)
  have b2 := hx.p.1
  have b3 := hx.n
  have b4 := hx.h
  simp only [Wop.full, List.length_append]
  omega
/-- a tombstone: its index, where its denials lie -/
structure Wtb where
  i : Int
  A : Option Addr
  n : Nat
  d : Nat
  l : List Wdn
def Wtb.cells (x : Wtb) : List Value := [.int .i64 x.i, .slice x.A x.n x.d]
def Wtb.val (x : Wtb) : Value := .agg x.cells.toArray
structure Wtb.Ok (w : World) (S : List Nat) (x : Wtb) : Prop where
  i : i64In x.i
  l : Lst 4 Wdn.cells (fun _ v => v.Ok) w x.A x.n x.l
  n : x.n ≤ 5
  ap : 0 < x.n → ∀ a, x.A = some a → ¬ a.block ∈ S
theorem Wtb.one (x : Wtb) : ∀ v ∈ x.cells, v.oneCell' = true := by
  intro v hv
  simp only [Wtb.cells, List.mem_cons, List.not_mem_nil, or_false] at hv
  rcases hv with rfl | rfl <;> rfl
theorem Wtb.Ok.keep {w W : World} {S S' : List Nat} {x : Wtb} (h : x.Ok w S) (hf : Fr S w W) (hs : ∀ k ∈ S', k < w.heap.size → k ∈ S) : x.Ok W S' :=
  ⟨h.i, h.l.keep' hf h.ap (fun _ _ h => h), h.n, fun hn a ha hin => h.ap hn a ha (hs _ hin (h.l.lt hn (by decide) (fun v hv => Wdn.len v) a ha))⟩
def Wtb.full (x : Wtb) : List UInt8 := encI x.i ++ listL Wdn.full x.l
theorem Wdn.full_len {x : Wdn} (hx : x.Ok) : x.full.length ≤ 100 := by
  have b0 := Wdn.bare_len hx
  have b1 := encI_len x.b hx.b.2
  have b2 := encI_len x.m hx.m.2
  simp only [Wdn.full, sgL, List.length_append]
  omega
theorem Wtb.full_len {w : World} {S : List Nat} {x : Wtb} (hx : x.Ok w S) : x.full.length ≤ 520 := by
  have b0 := encI_len x.i hx.i.2
  have b1 := encI_len (x.l.length : Int) (by have := hx.n; have := hx.l.1; omega)
  have b2 : (x.l.flatMap Wdn.full).length ≤ 5 * 100 := flat_len (fun v hv => Wdn.full_len (hx.l.2.1 v hv).2) (by have := hx.n; have := hx.l.1; omega)
  simp only [Wtb.full, listL, List.length_append]
  omega
set_option maxHeartbeats 1000000 in
theorem putOpening_any (x : Wop) (w : World) (S : List Nat) (g : Nat) (l : List UInt8) (hw : Wr w S g l) (hl : l.length + 500 ≤ 1073741000) (hx : x.Ok w S) :
    Calls Tryd.prog 97 #[.pointer (some ⟨g, 0, none⟩), x.val] w fun e w' => e = .returned (.pointer (some ⟨g, 0, none⟩)) ∧ Gr w S g (l ++ x.full) w' := by
  obtain ⟨wa, hwa⟩ : ∃ wa, wa = w.alloc (Obj.cells x.cells.toArray 42) := ⟨_, rfl⟩
  have hf0 : Fr [] w wa := by rw [hwa]; exact (Fr.refl [] w).alloc _
  have hb0 : Blk wa w.heap.size 42 x.cells.toArray := by rw [hwa]; exact Blk.new _ _ _
  have HNS : Hid (¬ w.heap.size ∈ S) := Lib.hid (fun h => by have := hw.lt _ h; omega)
  have HG0 := Lib.hid (Gr.begin hw hf0)
  have HC0 : Hid (wa.cell? ⟨w.heap.size, 0 + 0, none⟩ = some (.int .i64 x.i)) := Lib.hid (hb0.range (cs := x.cells) 0 _ rfl)
  have HC1 : Hid (wa.cell? ⟨w.heap.size, 0 + 1, none⟩ = some (.slice x.A x.n x.d)) := Lib.hid (hb0.range (cs := x.cells) 1 _ rfl)
  have HNC : Hid (wa.rangeAt w.heap.size (0 + 2) (x.h.map by8)) := Lib.hid (rangeAt_sub (xs := [.int .i64 x.i, .slice x.A x.n x.d]) (ys := x.h.map by8) (zs := []) hb0.range)
  have HF0 := Lib.hid hf0
  have HWA := Lib.hid hwa
  have HL := Lib.hid hl
  have HX := Lib.hid hx
  clear hwa hf0 hb0 hl hw hx
  unfold Wop.val
  generalize hC : x.cells = C at *
  have HRC := Lib.hid hC
  clear hC
  go_enter Tryd.func97, Tryd.ntmps97
  go_wp2
  rw [← HWA.out]
  refine wp_region_held_drew (S := Fr S wa) (by kernel_rfl) (Fr.drew (Fr.refl _ wa)) (fun hHeld => ?_)
  refine run_at (i := 0) (v := ?_) rfl (by kernel_rfl) (by rfl) (fun _ _ _ h => h) hHeld (fun w1 hw1 => ?_) ?_
  rotate_left 1
  · skip
    go_simp
    (try (first | with_reducible rfl | (apply And.intro <;> rfl)))
  simp only [Act.put, List.setIfInBounds_toArray, List.set_cons_zero, List.set_cons_succ]
  refine run_at (i := 1) (v := ?_) rfl (by kernel_rfl) (by rfl) (fun _ _ _ h => h) hHeld (fun w1 hw1 => ?_) ?_
  rotate_left 1
  · skip
    go_simp
    (try (first | with_reducible rfl | (apply And.intro <;> rfl)))
  simp only [Act.put, List.setIfInBounds_toArray, List.set_cons_zero, List.set_cons_succ]
  refine run_at (i := 2) (v := ?_) rfl (by kernel_rfl) (by rfl) (fun _ _ _ h => h) hHeld (fun w1 hw1 => ?_) ?_
  rotate_left 1
  · skip
    have hcw0 := hw1.cell (HC0.out) (by first | (simp; done) | exact HNS.out | exact HNW.out | (intro hm; have hlt := HSB.out _ hm; (try dsimp only at hlt); omega))
    go_simp
    (try (first | with_reducible rfl | (apply And.intro <;> rfl)))
  simp only [Act.put, List.setIfInBounds_toArray, List.set_cons_zero, List.set_cons_succ]
  refine run_at (i := 4) (v := ?_) rfl (by kernel_rfl) (by rfl) (fun _ _ _ h => h) hHeld (fun w1 hw1 => ?_) ?_
  rotate_left 1
  · skip
    go_simp
    (try (first | with_reducible rfl | (apply And.intro <;> rfl)))
  simp only [Act.put, List.setIfInBounds_toArray, List.set_cons_zero, List.set_cons_succ]
  refine run_at (i := 5) (v := ?_) rfl (by kernel_rfl) (by rfl) (fun _ _ _ h => h) hHeld (fun w1 hw1 => ?_) ?_
  rotate_left 1
  · skip
    have hcw0 := hw1.cell (HC1.out) (by first | (simp; done) | exact HNS.out | exact HNW.out | (intro hm; have hlt := HSB.out _ hm; (try dsimp only at hlt); omega))
    go_simp
    (try (first | with_reducible rfl | (apply And.intro <;> rfl)))
  simp only [Act.put, List.setIfInBounds_toArray, List.set_cons_zero, List.set_cons_succ]
  refine run_at (i := 7) (v := ?_) rfl (by kernel_rfl) (by rfl) (fun _ _ _ h => h) hHeld (fun w1 hw1 => ?_) ?_
  rotate_left 1
  · skip
    go_simp
    (try (first | with_reducible rfl | (apply And.intro <;> rfl)))
  simp only [Act.put, List.setIfInBounds_toArray, List.set_cons_zero, List.set_cons_succ]
  refine row_at (i := 8) rfl (by kernel_rfl) (by rfl) _ _ rfl _ _ rfl _ (fun w1 hw1 => hw1.range (HNC.out) (by first | (simp; done) | exact HNS.out | exact HNW.out | (intro hm; have hlt := HSB.out _ hm; (try dsimp only at hlt); omega))) (row_hash.of (by rw [List.length_map]; exact HX.out.h)) (fun _ _ _ h => h) hHeld ?_
  simp only [Act.put, List.setIfInBounds_toArray, List.set_cons_zero, List.set_cons_succ]
  refine call_at (i := 3) (f := ?_) (args := ?_) rfl (by kernel_rfl) (by rfl) ?_ ?_
  rotate_left 2
  · go_simp
    (try (first | with_reducible rfl | (apply And.intro <;> rfl)))
  refine (HG0.out.call fun S1 k1 => int_any x.i HX.out.i.1 HX.out.i.2 _ S1 g _ k1 (by have h0 := HL.out; (try simp only [List.length_append, sgL, nmL] at *); omega)).mono ?_
  rintro e w1 ⟨rfl, hg1⟩
  have HG1 := Lib.hid hg1
  refine ⟨_, rfl, hg1.fr, fun hHeld => ?_⟩
  clear hg1 HG0
  simp only [Act.put, List.setIfInBounds_toArray, List.set_cons_zero, List.set_cons_succ]
  refine call_at (i := 6) (f := ?_) (args := ?_) rfl (by kernel_rfl) (by rfl) ?_ ?_
  rotate_left 2
  · go_simp
    (try (first | with_reducible rfl | (apply And.intro <;> rfl)))
  refine (HG1.out.calls fun S1 k1 f1 s1 => row_any x.A x.n x.d x.p _ (HX.out.keep ((HF0.out.mono (T := S) (by simp)).trans f1 (fun k hk _ => hk)) (fun k hk hl => s1 k hk (Nat.lt_of_lt_of_le hl HF0.out.size))).p (by have := HX.out.n; omega) S1 (HX.out.keep ((HF0.out.mono (T := S) (by simp)).trans f1 (fun k hk _ => hk)) (fun k hk hl => s1 k hk (Nat.lt_of_lt_of_le hl HF0.out.size))).ap g _ k1 (by have h0 := HL.out; have b0 := encI_len x.i HX.out.i.2; simp only [List.length_append]; omega)).mono ?_
  rintro e w2 ⟨rfl, hg2⟩
  have HG2 := Lib.hid hg2
  refine ⟨_, rfl, hg2.fr, fun hHeld => ?_⟩
  clear hg2 HG1
  simp only [Act.put, List.setIfInBounds_toArray, List.set_cons_zero, List.set_cons_succ]
  refine call_at (i := 9) (f := ?_) (args := ?_) rfl (by kernel_rfl) (by rfl) ?_ ?_
  rotate_left 2
  · go_simp
    (try (first | with_reducible rfl | (apply And.intro <;> rfl)))
  refine (HG2.out.call fun S1 k1 => hash_any x.h HX.out.h _ S1 g _ k1 (by have h0 := HL.out; have b0 := encI_len x.i HX.out.i.2; have b1 : (enc x.n).length ≤ 10 := enc_ten (by have := HX.out.n; omega); have b2 := HX.out.p.1; have b3 := HX.out.n; simp only [List.length_append]; omega)).mono ?_
  rintro e w3 ⟨rfl, hg3⟩
  have HG3 := Lib.hid hg3
  refine ⟨_, rfl, hg3.fr, fun hHeld => ?_⟩
  clear hg3 HG2
  simp only [Act.put, List.setIfInBounds_toArray, List.set_cons_zero, List.set_cons_succ]
  refine run_at (i := 10) (v := ?_) rfl (by kernel_rfl) (by rfl) (fun _ _ _ h => h) hHeld (fun w1 hw1 => ?_) ?_
  rotate_left 1
  · skip
    go_simp
    (try (first | with_reducible rfl | (apply And.intro <;> rfl)))
  simp only [Act.put, List.setIfInBounds_toArray, List.set_cons_zero, List.set_cons_succ]
  refine wpAnyH_done (by kernel_rfl) ?_ _
  go_wp2
  go_ret
  exact ⟨rfl, (HG3.out.from_ HF0.out).eq (by simp [Wop.full, List.append_assoc])⟩
set_option maxHeartbeats 1000000 in
theorem putTomb_any (x : Wtb) (w : World) (S : List Nat) (g : Nat) (l : List UInt8) (hw : Wr w S g l) (hl : l.length + 1500 ≤ 1073741000) (hx : x.Ok w S) :
    Calls Tryd.prog 99 #[.pointer (some ⟨g, 0, none⟩), x.val] w fun e w' => e = .returned (.pointer (some ⟨g, 0, none⟩)) ∧ Gr w S g (l ++ x.full) w' := by
  obtain ⟨wa, hwa⟩ : ∃ wa, wa = w.alloc (Obj.cells x.cells.toArray 45) := ⟨_, rfl⟩
  have hf0 : Fr [] w wa := by rw [hwa]; exact (Fr.refl [] w).alloc _
  have hb0 : Blk wa w.heap.size 45 x.cells.toArray := by rw [hwa]; exact Blk.new _ _ _
  have HNS : Hid (¬ w.heap.size ∈ S) := Lib.hid (fun h => by have := hw.lt _ h; omega)
  have HG0 := Lib.hid (Gr.begin hw hf0)
  have HC0 : Hid (wa.cell? ⟨w.heap.size, 0 + 0, none⟩ = some (.int .i64 x.i)) := Lib.hid (hb0.range (cs := x.cells) 0 _ rfl)
  have HC1 : Hid (wa.cell? ⟨w.heap.size, 0 + 1, none⟩ = some (.slice x.A x.n x.d)) := Lib.hid (hb0.range (cs := x.cells) 1 _ rfl)
  have HF0 := Lib.hid hf0
  have HWA := Lib.hid hwa
  have HL := Lib.hid hl
  have HX := Lib.hid hx
  clear hwa hf0 hb0 hl hw hx
  unfold Wtb.val
  generalize hC : x.cells = C at *
  have HRC := Lib.hid hC
  clear hC
  go_enter Tryd.func99, Tryd.ntmps99
  go_wp2
  rw [← HWA.out]
  refine wp_region_held_drew (S := Fr S wa) (by kernel_rfl) (Fr.drew (Fr.refl _ wa)) (fun hHeld => ?_)
  refine run_at (i := 0) (v := ?_) rfl (by kernel_rfl) (by rfl) (fun _ _ _ h => h) hHeld (fun w1 hw1 => ?_) ?_
  rotate_left 1
  · skip
    go_simp
    (try (first | with_reducible rfl | (apply And.intro <;> rfl)))
  simp only [Act.put, List.setIfInBounds_toArray, List.set_cons_zero, List.set_cons_succ]
  refine run_at (i := 1) (v := ?_) rfl (by kernel_rfl) (by rfl) (fun _ _ _ h => h) hHeld (fun w1 hw1 => ?_) ?_
  rotate_left 1
  · skip
    go_simp
    (try (first | with_reducible rfl | (apply And.intro <;> rfl)))
  simp only [Act.put, List.setIfInBounds_toArray, List.set_cons_zero, List.set_cons_succ]
  refine run_at (i := 2) (v := ?_) rfl (by kernel_rfl) (by rfl) (fun _ _ _ h => h) hHeld (fun w1 hw1 => ?_) ?_
  rotate_left 1
  · skip
    have hcw0 := hw1.cell (HC0.out) (by first | (simp; done) | exact HNS.out | exact HNW.out | (intro hm; have hlt := HSB.out _ hm; (try dsimp only at hlt); omega))
    go_simp
    (try (first | with_reducible rfl | (apply And.intro <;> rfl)))
  simp only [Act.put, List.setIfInBounds_toArray, List.set_cons_zero, List.set_cons_succ]
  refine run_at (i := 4) (v := ?_) rfl (by kernel_rfl) (by rfl) (fun _ _ _ h => h) hHeld (fun w1 hw1 => ?_) ?_
  rotate_left 1
  · skip
    go_simp
    (try (first | with_reducible rfl | (apply And.intro <;> rfl)))
  simp only [Act.put, List.setIfInBounds_toArray, List.set_cons_zero, List.set_cons_succ]
  refine run_at (i := 5) (v := ?_) rfl (by kernel_rfl) (by rfl) (fun _ _ _ h => h) hHeld (fun w1 hw1 => ?_) ?_
  rotate_left 1
  · skip
    have hcw0 := hw1.cell (HC1.out) (by first | (simp; done) | exact HNS.out | exact HNW.out | (intro hm; have hlt := HSB.out _ hm; (try dsimp only at hlt); omega))
    go_simp
    (try (first | with_reducible rfl | (apply And.intro <;> rfl)))
  simp only [Act.put, List.setIfInBounds_toArray, List.set_cons_zero, List.set_cons_succ]
  refine call_at (i := 3) (f := ?_) (args := ?_) rfl (by kernel_rfl) (by rfl) ?_ ?_
  rotate_left 2
  · go_simp
    (try (first | with_reducible rfl | (apply And.intro <;> rfl)))
  refine (HG0.out.call fun S1 k1 => int_any x.i HX.out.i.1 HX.out.i.2 _ S1 g _ k1 (by have h0 := HL.out; (try simp only [List.length_append, sgL, nmL] at *); omega)).mono ?_
  rintro e w1 ⟨rfl, hg1⟩
  have HG1 := Lib.hid hg1
  refine ⟨_, rfl, hg1.fr, fun hHeld => ?_⟩
  clear hg1 HG0
  simp only [Act.put, List.setIfInBounds_toArray, List.set_cons_zero, List.set_cons_succ]
  refine call_at (i := 6) (f := ?_) (args := ?_) rfl (by kernel_rfl) (by rfl) ?_ ?_
  rotate_left 2
  · go_simp
    (try (first | with_reducible rfl | (apply And.intro <;> rfl)))
  refine (HG1.out.calls fun S1 k1 f1 s1 => putDenies_any Wdn.cells (fun _ _ v => v.Ok) Wdn.full 200 Wdn.one rfl (fun _ _ v h => Nat.le_trans (Wdn.full_len h) (by decide)) (fun v W S g l h hw hl => putDeny_any v h W S g l hw hl) _ S1 g _ k1 x.A x.n x.d x.l (HX.out.keep ((HF0.out.mono (T := S) (by simp)).trans f1 (fun k hk _ => hk)) (fun k hk hl => s1 k hk (Nat.lt_of_lt_of_le hl HF0.out.size))).l (by have := HX.out.n; omega) (HX.out.keep ((HF0.out.mono (T := S) (by simp)).trans f1 (fun k hk _ => hk)) (fun k hk hl => s1 k hk (Nat.lt_of_lt_of_le hl HF0.out.size))).ap (fun _ _ _ _ _ _ h => h) (by have h0 := HL.out; have b0 := encI_len x.i HX.out.i.2; have := HX.out.n; simp only [List.length_append]; omega)).mono ?_
  rintro e w2 ⟨rfl, hg2⟩
  have HG2 := Lib.hid hg2
  refine ⟨_, rfl, hg2.fr, fun hHeld => ?_⟩
  clear hg2 HG1
  simp only [Act.put, List.setIfInBounds_toArray, List.set_cons_zero, List.set_cons_succ]
  refine run_at (i := 7) (v := ?_) rfl (by kernel_rfl) (by rfl) (fun _ _ _ h => h) hHeld (fun w1 hw1 => ?_) ?_
  rotate_left 1
  · skip
    go_simp
    (try (first | with_reducible rfl | (apply And.intro <;> rfl)))
  simp only [Act.put, List.setIfInBounds_toArray, List.set_cons_zero, List.set_cons_succ]
  refine wpAnyH_done (by kernel_rfl) ?_ _
  go_wp2
  go_ret
  exact ⟨rfl, (HG2.out.from_ HF0.out).eq (by simp [Wtb.full, List.append_assoc])⟩

set_option maxHeartbeats 2000000 in
theorem putPromises_any {α : Type} (cells : α → List Value) (ok : World → List Nat → α → Prop) (full : α → List UInt8) (N : Nat) (hone : ∀ v, ∀ u ∈ cells v, u.oneCell' = true) (hsz : (Tryd.prog.info? 62).map (·.size) = some 6)
    (hfull : ∀ W S v, ok W S v → (full v).length ≤ N)
    (hput : ∀ (v : α) (W : World) (S : List Nat) (g : Nat) (l : List UInt8), ok W S v → Wr W S g l → l.length + N ≤ 1073741000 → Calls Tryd.prog 71 #[.pointer (some ⟨g, 0, none⟩), .agg (cells v).toArray] W fun e w' => e = .returned (.pointer (some ⟨g, 0, none⟩)) ∧ Gr W S g (l ++ full v) w')
    (w : World) (S : List Nat) (g : Nat) (l : List UInt8) (hw : Wr w S g l) (A : Option Addr) (n c : Nat) (xs : List α) (hx : Lst 6 cells (fun w v => ok w S v) w A n xs) (hn : n ≤ 1000) (hA : 0 < n → ∀ a, A = some a → ¬ a.block ∈ S)
    (hkeep : ∀ W S', Fr S w W → (∀ x ∈ S', x < w.heap.size → x ∈ S) → ∀ v ∈ xs, ok w S v → ok W S' v) (hl : l.length + 20 + (n + 1) * N ≤ 1073741000) :
    Calls Tryd.prog 95 #[.pointer (some ⟨g, 0, none⟩), fnV 71, .slice A n c] w fun e w' => e = .returned (.pointer (some ⟨g, 0, none⟩)) ∧ Gr w S g (l ++ listL full xs) w' := by
  have HG0 := Lib.hid (Gr.refl hw)
  have HX := Lib.hid hx
  have HA := Lib.hid hA
  have HL := Lib.hid hl
  have HKP := Lib.hid hkeep
  have HSL := Lib.hid hw.lt
  have hxn := hx.1
  clear hw hx hA hl hkeep
  unfold fnV
  go_enter Tryd.func95, Tryd.ntmps95
  go_wp2_with fail
  refine (HG0.out.call fun S1 k1 => int_any (n : Int) (by omega) (by omega) _ S1 g _ k1 (by have := HL.out; omega)).mono ?_
  rintro e w1 ⟨rfl, hg1⟩
  have HG1 := Lib.hid hg1
  clear hg1 HG0
  go_wp2_with fail
  go_loopw [15] (fun i wr => ∃ k : Nat, k ≤ n ∧ i = .int .i64 k ∧ Gr w S g (l ++ encI (n : Int) ++ (xs.take k).flatMap full) wr) (fun i _ => n - (intOf i).toNat)
  case atStart => exact ⟨0, by omega, rfl, by simpa using HG1.out⟩
  case round =>
    obtain ⟨k, hk, rfl, hg⟩ := hrel
    have HG := Lib.hid hg
    clear hg
    by_cases hlt : k < n
    · obtain ⟨ad, v, rfl, hv, hcl, hok, hc⟩ := HX.out.at hlt
      have HV := Lib.hid hv
      have HCL := Lib.hid hcl
      have HOK := Lib.hid hok
      have HMEM := Lib.hid (List.mem_of_getElem? hv)
      have HC := Lib.hid (fun j x hj => HG.out.fr.cell (hc j x hj) (by rw [add_block, add_block]; exact HA.out (by omega) ad rfl))
      have HONE := Lib.hid (hone v)
      have HPUT := Lib.hid (hput v)
      have hk0 : (0 : Int) ≤ k := by omega
      have hlen : ((xs.take k).flatMap full).length ≤ k * N := flat_len (fun v hv => hfull w S v (HX.out.2.1 v (List.mem_of_mem_take hv)).2) (by rw [List.length_take]; omega)
      have hkn2 : k * N + N ≤ (n + 1) * N := by rw [← Nat.succ_mul]; exact Nat.mul_le_mul_right N (by omega)
      have HLEN : Hid ((l ++ encI (n : Int) ++ (xs.take k).flatMap full).length + N ≤ 1073741000) := Lib.hid (by have := HL.out; have := encI_len (n : Int) (by omega); simp only [List.length_append]; omega)
      have HTK : Hid ((xs.take (k + 1)).flatMap full = (xs.take k).flatMap full ++ full v) := Lib.hid (by rw [List.take_add_one, hv]; simp)
      have HFV := Lib.hid (rfl : cells v = cells v)
      clear hv hcl hok hc hlen hkn2
      generalize hcv : cells v = C at *
      go_wp2_with (first
        | (refine wpList_cells rfl 62 _ rfl _ rfl C HC.out (row_prm.of HCL.out) ?_)
        | (refine wpList_store_box rfl 62 _ _ rfl _ 62 C rfl rfl (by rw [hsz, HCL.out]) (by rw [HCL.out]; rfl) HONE.out ?_
           intro wb hbb hfb
           have HBB := Lib.hid hbb
           have HFB := Lib.hid hfb
           clear hbb hfb)
        | (refine wpList_row rfl 62 _ rfl _ _ rfl _ HBB.out.range (row_prm.of HCL.out) ?_))
      have HGB := Lib.hid (HG.out.trans (fun S1 k => ⟨S1, k.keep HFB.out (by simp), HFB.out.mono (by simp), fun x hx _ => hx⟩))
      refine (HGB.out.calls fun S1 k1 f1 s1 => HPUT.out _ S1 g _ (HKP.out wb S1 f1 s1 v HMEM.out HOK.out) k1 HLEN.out).mono ?_
      rintro e w2 ⟨rfl, hg2⟩
      have HG2 := Lib.hid hg2
      clear hg2
      go_wp2
      exact ⟨⟨k + 1, by omega, rfl, HG2.out.eq (by rw [HTK.out, List.append_assoc])⟩, by simp only [intOf, Int.toNat_natCast, Int.toNat_natCast_add_one]; omega⟩
    · have hkn : k = n := by omega
      subst hkn
      have HFIN : Hid (Gr w S g (l ++ listL full xs) wr) := Lib.hid (HG.out.eq (by rw [List.take_of_length_le (by omega), listL, hxn, List.append_assoc]))
      clear HG
      go_wp2
      go_ret
      exact ⟨rfl, HFIN.out⟩

set_option maxHeartbeats 2000000 in
theorem putOpenings_any {α : Type} (cells : α → List Value) (ok : World → List Nat → α → Prop) (full : α → List UInt8) (N : Nat) (hone : ∀ v, ∀ u ∈ cells v, u.oneCell' = true) (hsz : (Tryd.prog.info? 42).map (·.size) = some 34)
    (hfull : ∀ W S v, ok W S v → (full v).length ≤ N)
    (hput : ∀ (v : α) (W : World) (S : List Nat) (g : Nat) (l : List UInt8), ok W S v → Wr W S g l → l.length + N ≤ 1073741000 → Calls Tryd.prog 97 #[.pointer (some ⟨g, 0, none⟩), .agg (cells v).toArray] W fun e w' => e = .returned (.pointer (some ⟨g, 0, none⟩)) ∧ Gr W S g (l ++ full v) w')
    (w : World) (S : List Nat) (g : Nat) (l : List UInt8) (hw : Wr w S g l) (A : Option Addr) (n c : Nat) (xs : List α) (hx : Lst 34 cells (fun w v => ok w S v) w A n xs) (hn : n ≤ 1000) (hA : 0 < n → ∀ a, A = some a → ¬ a.block ∈ S)
    (hkeep : ∀ W S', Fr S w W → (∀ x ∈ S', x < w.heap.size → x ∈ S) → ∀ v ∈ xs, ok w S v → ok W S' v) (hl : l.length + 20 + (n + 1) * N ≤ 1073741000) :
    Calls Tryd.prog 96 #[.pointer (some ⟨g, 0, none⟩), fnV 97, .slice A n c] w fun e w' => e = .returned (.pointer (some ⟨g, 0, none⟩)) ∧ Gr w S g (l ++ listL full xs) w' := by
  have HG0 := Lib.hid (Gr.refl hw)
  have HX := Lib.hid hx
  have HA := Lib.hid hA
  have HL := Lib.hid hl
  have HKP := Lib.hid hkeep
  have HSL := Lib.hid hw.lt
  have hxn := hx.1
  clear hw hx hA hl hkeep
  unfold fnV
  go_enter Tryd.func96, Tryd.ntmps96
  go_wp2_with fail
  refine (HG0.out.call fun S1 k1 => int_any (n : Int) (by omega) (by omega) _ S1 g _ k1 (by have := HL.out; omega)).mono ?_
  rintro e w1 ⟨rfl, hg1⟩
  have HG1 := Lib.hid hg1
  clear hg1 HG0
  go_wp2_with fail
  go_loopw [15] (fun i wr => ∃ k : Nat, k ≤ n ∧ i = .int .i64 k ∧ Gr w S g (l ++ encI (n : Int) ++ (xs.take k).flatMap full) wr) (fun i _ => n - (intOf i).toNat)
  case atStart => exact ⟨0, by omega, rfl, by simpa using HG1.out⟩
  case round =>
    obtain ⟨k, hk, rfl, hg⟩ := hrel
    have HG := Lib.hid hg
    clear hg
    by_cases hlt : k < n
    · obtain ⟨ad, v, rfl, hv, hcl, hok, hc⟩ := HX.out.at hlt
      have HV := Lib.hid hv
      have HCL := Lib.hid hcl
      have HOK := Lib.hid hok
      have HMEM := Lib.hid (List.mem_of_getElem? hv)
      have HC := Lib.hid (fun j x hj => HG.out.fr.cell (hc j x hj) (by rw [add_block, add_block]; exact HA.out (by omega) ad rfl))
      have HONE := Lib.hid (hone v)
      have HPUT := Lib.hid (hput v)
      have hk0 : (0 : Int) ≤ k := by omega
      have hlen : ((xs.take k).flatMap full).length ≤ k * N := flat_len (fun v hv => hfull w S v (HX.out.2.1 v (List.mem_of_mem_take hv)).2) (by rw [List.length_take]; omega)
      have hkn2 : k * N + N ≤ (n + 1) * N := by rw [← Nat.succ_mul]; exact Nat.mul_le_mul_right N (by omega)
      have HLEN : Hid ((l ++ encI (n : Int) ++ (xs.take k).flatMap full).length + N ≤ 1073741000) := Lib.hid (by have := HL.out; have := encI_len (n : Int) (by omega); simp only [List.length_append]; omega)
      have HTK : Hid ((xs.take (k + 1)).flatMap full = (xs.take k).flatMap full ++ full v) := Lib.hid (by rw [List.take_add_one, hv]; simp)
      have HFV := Lib.hid (rfl : cells v = cells v)
      clear hv hcl hok hc hlen hkn2
      generalize hcv : cells v = C at *
      go_wp2_with (first
        | (refine wpList_cells rfl 42 _ rfl _ rfl C HC.out (row_opn.of HCL.out) ?_)
        | (refine wpList_store_box rfl 42 _ _ rfl _ 42 C rfl rfl (by rw [hsz, HCL.out]) (by rw [HCL.out]; rfl) HONE.out ?_
           intro wb hbb hfb
           have HBB := Lib.hid hbb
           have HFB := Lib.hid hfb
           clear hbb hfb)
        | (refine wpList_row rfl 42 _ rfl _ _ rfl _ HBB.out.range (row_opn.of HCL.out) ?_))
      have HGB := Lib.hid (HG.out.trans (fun S1 k => ⟨S1, k.keep HFB.out (by simp), HFB.out.mono (by simp), fun x hx _ => hx⟩))
      refine (HGB.out.calls fun S1 k1 f1 s1 => HPUT.out _ S1 g _ (HKP.out wb S1 f1 s1 v HMEM.out HOK.out) k1 HLEN.out).mono ?_
      rintro e w2 ⟨rfl, hg2⟩
      have HG2 := Lib.hid hg2
      clear hg2
      go_wp2
      exact ⟨⟨k + 1, by omega, rfl, HG2.out.eq (by rw [HTK.out, List.append_assoc])⟩, by simp only [intOf, Int.toNat_natCast, Int.toNat_natCast_add_one]; omega⟩
    · have hkn : k = n := by omega
      subst hkn
      have HFIN : Hid (Gr w S g (l ++ listL full xs) wr) := Lib.hid (HG.out.eq (by rw [List.take_of_length_le (by omega), listL, hxn, List.append_assoc]))
      clear HG
      go_wp2
      go_ret
      exact ⟨rfl, HFIN.out⟩

set_option maxHeartbeats 2000000 in
theorem putTombs_any {α : Type} (cells : α → List Value) (ok : World → List Nat → α → Prop) (full : α → List UInt8) (N : Nat) (hone : ∀ v, ∀ u ∈ cells v, u.oneCell' = true) (hsz : (Tryd.prog.info? 45).map (·.size) = some 2)
    (hfull : ∀ W S v, ok W S v → (full v).length ≤ N)
    (hput : ∀ (v : α) (W : World) (S : List Nat) (g : Nat) (l : List UInt8), ok W S v → Wr W S g l → l.length + N ≤ 1073741000 → Calls Tryd.prog 99 #[.pointer (some ⟨g, 0, none⟩), .agg (cells v).toArray] W fun e w' => e = .returned (.pointer (some ⟨g, 0, none⟩)) ∧ Gr W S g (l ++ full v) w')
    (w : World) (S : List Nat) (g : Nat) (l : List UInt8) (hw : Wr w S g l) (A : Option Addr) (n c : Nat) (xs : List α) (hx : Lst 2 cells (fun w v => ok w S v) w A n xs) (hn : n ≤ 1000) (hA : 0 < n → ∀ a, A = some a → ¬ a.block ∈ S)
    (hkeep : ∀ W S', Fr S w W → (∀ x ∈ S', x < w.heap.size → x ∈ S) → ∀ v ∈ xs, ok w S v → ok W S' v) (hl : l.length + 20 + (n + 1) * N ≤ 1073741000) :
    Calls Tryd.prog 98 #[.pointer (some ⟨g, 0, none⟩), fnV 99, .slice A n c] w fun e w' => e = .returned (.pointer (some ⟨g, 0, none⟩)) ∧ Gr w S g (l ++ listL full xs) w' := by
  have HG0 := Lib.hid (Gr.refl hw)
  have HX := Lib.hid hx
  have HA := Lib.hid hA
  have HL := Lib.hid hl
  have HKP := Lib.hid hkeep
  have HSL := Lib.hid hw.lt
  have hxn := hx.1
  clear hw hx hA hl hkeep
  unfold fnV
  go_enter Tryd.func98, Tryd.ntmps98
  go_wp2_with fail
  refine (HG0.out.call fun S1 k1 => int_any (n : Int) (by omega) (by omega) _ S1 g _ k1 (by have := HL.out; omega)).mono ?_
  rintro e w1 ⟨rfl, hg1⟩
  have HG1 := Lib.hid hg1
  clear hg1 HG0
  go_wp2_with fail
  go_loopw [15] (fun i wr => ∃ k : Nat, k ≤ n ∧ i = .int .i64 k ∧ Gr w S g (l ++ encI (n : Int) ++ (xs.take k).flatMap full) wr) (fun i _ => n - (intOf i).toNat)
  case atStart => exact ⟨0, by omega, rfl, by simpa using HG1.out⟩
  case round =>
    obtain ⟨k, hk, rfl, hg⟩ := hrel
    have HG := Lib.hid hg
    clear hg
    by_cases hlt : k < n
    · obtain ⟨ad, v, rfl, hv, hcl, hok, hc⟩ := HX.out.at hlt
      have HV := Lib.hid hv
      have HCL := Lib.hid hcl
      have HOK := Lib.hid hok
      have HMEM := Lib.hid (List.mem_of_getElem? hv)
      have HC := Lib.hid (fun j x hj => HG.out.fr.cell (hc j x hj) (by rw [add_block, add_block]; exact HA.out (by omega) ad rfl))
      have HONE := Lib.hid (hone v)
      have HPUT := Lib.hid (hput v)
      have hk0 : (0 : Int) ≤ k := by omega
      have hlen : ((xs.take k).flatMap full).length ≤ k * N := flat_len (fun v hv => hfull w S v (HX.out.2.1 v (List.mem_of_mem_take hv)).2) (by rw [List.length_take]; omega)
      have hkn2 : k * N + N ≤ (n + 1) * N := by rw [← Nat.succ_mul]; exact Nat.mul_le_mul_right N (by omega)
      have HLEN : Hid ((l ++ encI (n : Int) ++ (xs.take k).flatMap full).length + N ≤ 1073741000) := Lib.hid (by have := HL.out; have := encI_len (n : Int) (by omega); simp only [List.length_append]; omega)
      have HTK : Hid ((xs.take (k + 1)).flatMap full = (xs.take k).flatMap full ++ full v) := Lib.hid (by rw [List.take_add_one, hv]; simp)
      have HFV := Lib.hid (rfl : cells v = cells v)
      clear hv hcl hok hc hlen hkn2
      generalize hcv : cells v = C at *
      go_wp2_with (first
        | (refine wpList_cells rfl 45 _ rfl _ rfl C HC.out (row_tmb.of HCL.out) ?_)
        | (refine wpList_store_box rfl 45 _ _ rfl _ 45 C rfl rfl (by rw [hsz, HCL.out]) (by rw [HCL.out]; rfl) HONE.out ?_
           intro wb hbb hfb
           have HBB := Lib.hid hbb
           have HFB := Lib.hid hfb
           clear hbb hfb)
        | (refine wpList_row rfl 45 _ rfl _ _ rfl _ HBB.out.range (row_tmb.of HCL.out) ?_))
      have HGB := Lib.hid (HG.out.trans (fun S1 k => ⟨S1, k.keep HFB.out (by simp), HFB.out.mono (by simp), fun x hx _ => hx⟩))
      refine (HGB.out.calls fun S1 k1 f1 s1 => HPUT.out _ S1 g _ (HKP.out wb S1 f1 s1 v HMEM.out HOK.out) k1 HLEN.out).mono ?_
      rintro e w2 ⟨rfl, hg2⟩
      have HG2 := Lib.hid hg2
      clear hg2
      go_wp2
      exact ⟨⟨k + 1, by omega, rfl, HG2.out.eq (by rw [HTK.out, List.append_assoc])⟩, by simp only [intOf, Int.toNat_natCast, Int.toNat_natCast_add_one]; omega⟩
    · have hkn : k = n := by omega
      subst hkn
      have HFIN : Hid (Gr w S g (l ++ listL full xs) wr) := Lib.hid (HG.out.eq (by rw [List.take_of_length_le (by omega), listL, hxn, List.append_assoc]))
      clear HG
      go_wp2
      go_ret
      exact ⟨rfl, HFIN.out⟩
end Go.Proofs.YtdgbcdmooklciaaDoor

namespace Go.Proofs.YtdgbcdmooklciaaDoor
open Go.RowKit
set_option maxRecDepth 100000

set_option maxHeartbeats 4000000 in
theorem refsig_any (y z : Int) (hy : i64In y) (hz : i64In z) (w : World) :
    Calls Tryd.prog 76 #[.agg #[.int .i64 y, .int .i64 z]] w fun e w' => ∃ A c, e = .returned (.slice A (sgL y z).length c) ∧ NewB w w' A (sgL y z).length c (sgL y z) := by
  obtain ⟨wa, hwa⟩ : ∃ wa, wa = w.alloc (Obj.cells #[.int .i64 y, .int .i64 z] 54) := ⟨_, rfl⟩
  have hf0 : Fr [] w wa := by rw [hwa]; exact (Fr.refl [] w).alloc _
  have HC0 : Hid (wa.cell? ⟨w.heap.size, 0, none⟩ = some (.int .i64 y)) := Lib.hid (by rw [hwa]; exact (Blk.new _ _ _).cell 0)
  have HC1 : Hid (wa.cell? ⟨w.heap.size, 1, none⟩ = some (.int .i64 z)) := Lib.hid (by rw [hwa]; exact (Blk.new _ _ _).cell 1)
  have HX := Lib.hid (And.intro hy hz)
  clear hy hz
  have HF0 := Lib.hid hf0
  have HWA := Lib.hid hwa
  clear hwa hf0
  go_enter Tryd.func76, Tryd.ntmps76
  go_wp2
  rw [← HWA.out]
  refine wp_region_held_drew (S := Fr [] wa) (by kernel_rfl) (Fr.drew (Fr.refl _ wa)) (fun hHeld => ?_)
  have HFD : Hid (Fr [] wa wa.drew) := Lib.hid (Fr.drew (Fr.refl [] wa))
  generalize wa.drew = wd at *
  refine run_at (i := 0) (v := ?_) rfl (by kernel_rfl) (by rfl) (fun _ _ _ h => h) hHeld (fun w1 hw1 => ?_) ?_
  rotate_left 1
  · skip
    go_simp
    (try (first | with_reducible rfl | (apply And.intro <;> rfl)))
  simp only [Act.put, List.setIfInBounds_toArray, List.set_cons_zero, List.set_cons_succ]
  refine run_at (i := 1) (v := ?_) rfl (by kernel_rfl) (by rfl) (fun _ _ _ h => h) hHeld (fun w1 hw1 => ?_) ?_
  rotate_left 1
  · skip
    have hcw0 := hw1.cell (HC0.out) (by first | (simp; done) | exact HNS.out | exact HNW.out | (intro hm; have hlt := HSB.out _ hm; (try dsimp only at hlt); omega))
    go_simp
    (try (first | with_reducible rfl | (apply And.intro <;> rfl)))
  simp only [Act.put, List.setIfInBounds_toArray, List.set_cons_zero, List.set_cons_succ]
  refine run_at (i := 3) (v := ?_) rfl (by kernel_rfl) (by rfl) (fun _ _ _ h => h) hHeld (fun w1 hw1 => ?_) ?_
  rotate_left 1
  · skip
    go_simp
    (try (first | with_reducible rfl | (apply And.intro <;> rfl)))
  simp only [Act.put, List.setIfInBounds_toArray, List.set_cons_zero, List.set_cons_succ]
  refine run_at (i := 4) (v := ?_) rfl (by kernel_rfl) (by rfl) (fun _ _ _ h => h) hHeld (fun w1 hw1 => ?_) ?_
  rotate_left 1
  · skip
    have hcw0 := hw1.cell (HC1.out) (by first | (simp; done) | exact HNS.out | exact HNW.out | (intro hm; have hlt := HSB.out _ hm; (try dsimp only at hlt); omega))
    go_simp
    (try (first | with_reducible rfl | (apply And.intro <;> rfl)))
  simp only [Act.put, List.setIfInBounds_toArray, List.set_cons_zero, List.set_cons_succ]
  refine call_at (i := 2) (f := ?_) (args := ?_) rfl (by kernel_rfl) (by rfl) ?_ ?_
  rotate_left 2
  · go_simp
    (try (first | with_reducible rfl | (apply And.intro <;> rfl)))
  refine (refint_any y HX.out.1.2 wd).mono ?_
  rintro e w2 ⟨A2, c2, rfl, hN⟩
  obtain ⟨n2, hn2⟩ : ∃ nn_, nn_ = (encI y).length := ⟨_, rfl⟩
  obtain ⟨l2, hl2⟩ : ∃ ll_, ll_ = encI y := ⟨_, rfl⟩
  rw [← hn2] at hN ⊢
  rw [← hl2] at hN
  have HB2 : Hid (n2 ≤ 20000) := Lib.hid (by rw [hn2]; have := encI_len y HX.out.1.2; omega)
  have HL2 := Lib.hid hl2
  refine ⟨_, rfl, hHeld.go hN.2.1 (by simp), fun hHeld => ?_⟩
  simp only [Act.put, List.setIfInBounds_toArray, List.set_cons_zero, List.set_cons_succ]
  have HY2 := Lib.hid hN.by
  have HFD := Lib.hid (HFD.out.and hN.2.1 (by simp))
  clear hN hn2 hl2
  refine call_at (i := 5) (f := ?_) (args := ?_) rfl (by kernel_rfl) (by rfl) ?_ ?_
  rotate_left 2
  · go_simp
    (try (first | with_reducible rfl | (apply And.intro <;> rfl)))
  refine (refint_any z HX.out.2.2 w2).mono ?_
  rintro e w5 ⟨A5, c5, rfl, hN⟩
  obtain ⟨n5, hn5⟩ : ∃ nn_, nn_ = (encI z).length := ⟨_, rfl⟩
  obtain ⟨l5, hl5⟩ : ∃ ll_, ll_ = encI z := ⟨_, rfl⟩
  rw [← hn5] at hN ⊢
  rw [← hl5] at hN
  have HB5 : Hid (n5 ≤ 20000) := Lib.hid (by rw [hn5]; have := encI_len z HX.out.2.2; omega)
  have HL5 := Lib.hid hl5
  refine ⟨_, rfl, hHeld.go hN.2.1 (by simp), fun hHeld => ?_⟩
  simp only [Act.put, List.setIfInBounds_toArray, List.set_cons_zero, List.set_cons_succ]
  have HY5 := Lib.hid hN.by
  have HFD := Lib.hid (HFD.out.and hN.2.1 (by simp))
  have HY2 := Lib.hid (Fr.byk hN.2.1 HY2.out)
  clear hN hn5 hl5
  refine step_at (i := 6) rfl (by kernel_rfl) (by rfl) (fun K hK => ?_)
  refine wp_run (v := ?_) (w' := ?_) ?_ ?_
  rotate_left 2
  · go_simp
    (try (first | with_reducible rfl | (apply And.intro <;> rfl)))
  refine hK.out _ (w5.alloc (Obj.cells #[.slice A2 n2 c2, .slice A5 n5 c5] 23)) (hHeld.alloc _) (fun hHeld => ?_)
  clear hK K
  simp only [Act.put, List.setIfInBounds_toArray, List.set_cons_zero, List.set_cons_succ]
  have hfb : Fr [] w5 (w5.alloc (Obj.cells #[.slice A2 n2 c2, .slice A5 n5 c5] 23)) := (Fr.refl [] w5).alloc _
  have hbb : Blk (w5.alloc (Obj.cells #[.slice A2 n2 c2, .slice A5 n5 c5] 23)) w5.heap.size 23 (([⟨A2, n2, c2, l2⟩, ⟨A5, n5, c5, l5⟩] : List RowV).map RowV.val).toArray := Blk.new _ _ _
  generalize w5.alloc (Obj.cells #[.slice A2 n2 c2, .slice A5 n5 c5] 23) = wj at *
  have HFD := Lib.hid (HFD.out.and hfb (by simp))
  have hj := join_big w5.heap.size 2 [⟨A2, n2, c2, l2⟩, ⟨A5, n5, c5, l5⟩] wj hbb rfl (by omega) (by
    intro r hr
    simp only [List.mem_cons, List.not_mem_nil, or_false] at hr
    rcases hr with rfl | rfl
    · exact ⟨Fr.byk hfb HY2.out, HB2.out⟩
    · exact ⟨Fr.byk hfb HY5.out, HB5.out⟩)
  have hJ : joinL [⟨A2, n2, c2, l2⟩, ⟨A5, n5, c5, l5⟩] = sgL y z := by
    simp only [joinL, List.map_cons, List.map_nil, List.flatten_cons, List.flatten_nil, HL2.out, HL5.out]
    simp [sgL]
  rw [hJ] at hj
  obtain ⟨X, hX⟩ : ∃ X, X = sgL y z := ⟨_, rfl⟩
  rw [← hX] at hj
  have HXT := Lib.hid hX
  clear hX
  have HJ := Lib.hid hj
  clear hfb hbb hj hJ HY2 HL2 HY5 HL5
  refine call_at (i := 7) (f := ?_) (args := ?_) rfl (by kernel_rfl) (by rfl) ?_ ?_
  rotate_left 2
  · go_simp
    (try (first | with_reducible rfl | (apply And.intro <;> rfl)))
  refine HJ.out.mono ?_
  rintro e wk ⟨Aj, cj, rfl, hN⟩
  have HN := Lib.hid (hN.from2 (HF0.out.and HFD.out (by simp)))
  refine ⟨_, rfl, hHeld.go hN.2.1 (by simp), fun hHeld => ?_⟩
  clear hN
  simp only [Act.put, List.setIfInBounds_toArray, List.set_cons_zero, List.set_cons_succ]
  refine run_at (i := 8) (v := ?_) rfl (by kernel_rfl) (by rfl) (fun _ _ _ h => h) hHeld (fun w1 hw1 => ?_) ?_
  rotate_left 1
  · skip
    go_simp
    (try (first | with_reducible rfl | (apply And.intro <;> rfl)))
  simp only [Act.put, List.setIfInBounds_toArray, List.set_cons_zero, List.set_cons_succ]
  refine wpAnyH_done (by kernel_rfl) ?_ _
  go_wp2
  go_ret
  rw [← HXT.out]
  exact ⟨Aj, cj, rfl, HN.out⟩
set_option maxHeartbeats 4000000 in
theorem refname_any (y z : Int) (hy : i64In y) (hz : i64In z) (w : World) :
    Calls Tryd.prog 107 #[.agg #[.int .i64 y, .int .i64 z]] w fun e w' => ∃ A c, e = .returned (.slice A (nmL y z).length c) ∧ NewB w w' A (nmL y z).length c (nmL y z) := by
  obtain ⟨wa, hwa⟩ : ∃ wa, wa = w.alloc (Obj.cells #[.int .i64 y, .int .i64 z] 52) := ⟨_, rfl⟩
  have hf0 : Fr [] w wa := by rw [hwa]; exact (Fr.refl [] w).alloc _
  have HC0 : Hid (wa.cell? ⟨w.heap.size, 0, none⟩ = some (.int .i64 y)) := Lib.hid (by rw [hwa]; exact (Blk.new _ _ _).cell 0)
  have HC1 : Hid (wa.cell? ⟨w.heap.size, 1, none⟩ = some (.int .i64 z)) := Lib.hid (by rw [hwa]; exact (Blk.new _ _ _).cell 1)
  have HX := Lib.hid (And.intro hy hz)
  clear hy hz
  have HF0 := Lib.hid hf0
  have HWA := Lib.hid hwa
  clear hwa hf0
  go_enter Tryd.func107, Tryd.ntmps107
  go_wp2
  rw [← HWA.out]
  refine wp_region_held_drew (S := Fr [] wa) (by kernel_rfl) (Fr.drew (Fr.refl _ wa)) (fun hHeld => ?_)
  have HFD : Hid (Fr [] wa wa.drew) := Lib.hid (Fr.drew (Fr.refl [] wa))
  generalize wa.drew = wd at *
  refine run_at (i := 0) (v := ?_) rfl (by kernel_rfl) (by rfl) (fun _ _ _ h => h) hHeld (fun w1 hw1 => ?_) ?_
  rotate_left 1
  · skip
    go_simp
    (try (first | with_reducible rfl | (apply And.intro <;> rfl)))
  simp only [Act.put, List.setIfInBounds_toArray, List.set_cons_zero, List.set_cons_succ]
  refine run_at (i := 1) (v := ?_) rfl (by kernel_rfl) (by rfl) (fun _ _ _ h => h) hHeld (fun w1 hw1 => ?_) ?_
  rotate_left 1
  · skip
    have hcw0 := hw1.cell (HC0.out) (by first | (simp; done) | exact HNS.out | exact HNW.out | (intro hm; have hlt := HSB.out _ hm; (try dsimp only at hlt); omega))
    go_simp
    (try (first | with_reducible rfl | (apply And.intro <;> rfl)))
  simp only [Act.put, List.setIfInBounds_toArray, List.set_cons_zero, List.set_cons_succ]
  refine run_at (i := 3) (v := ?_) rfl (by kernel_rfl) (by rfl) (fun _ _ _ h => h) hHeld (fun w1 hw1 => ?_) ?_
  rotate_left 1
  · skip
    go_simp
    (try (first | with_reducible rfl | (apply And.intro <;> rfl)))
  simp only [Act.put, List.setIfInBounds_toArray, List.set_cons_zero, List.set_cons_succ]
  refine run_at (i := 4) (v := ?_) rfl (by kernel_rfl) (by rfl) (fun _ _ _ h => h) hHeld (fun w1 hw1 => ?_) ?_
  rotate_left 1
  · skip
    have hcw0 := hw1.cell (HC1.out) (by first | (simp; done) | exact HNS.out | exact HNW.out | (intro hm; have hlt := HSB.out _ hm; (try dsimp only at hlt); omega))
    go_simp
    (try (first | with_reducible rfl | (apply And.intro <;> rfl)))
  simp only [Act.put, List.setIfInBounds_toArray, List.set_cons_zero, List.set_cons_succ]
  refine call_at (i := 2) (f := ?_) (args := ?_) rfl (by kernel_rfl) (by rfl) ?_ ?_
  rotate_left 2
  · go_simp
    (try (first | with_reducible rfl | (apply And.intro <;> rfl)))
  refine (refint_any y HX.out.1.2 wd).mono ?_
  rintro e w2 ⟨A2, c2, rfl, hN⟩
  obtain ⟨n2, hn2⟩ : ∃ nn_, nn_ = (encI y).length := ⟨_, rfl⟩
  obtain ⟨l2, hl2⟩ : ∃ ll_, ll_ = encI y := ⟨_, rfl⟩
  rw [← hn2] at hN ⊢
  rw [← hl2] at hN
  have HB2 : Hid (n2 ≤ 20000) := Lib.hid (by rw [hn2]; have := encI_len y HX.out.1.2; omega)
  have HL2 := Lib.hid hl2
  refine ⟨_, rfl, hHeld.go hN.2.1 (by simp), fun hHeld => ?_⟩
  simp only [Act.put, List.setIfInBounds_toArray, List.set_cons_zero, List.set_cons_succ]
  have HY2 := Lib.hid hN.by
  have HFD := Lib.hid (HFD.out.and hN.2.1 (by simp))
  clear hN hn2 hl2
  refine call_at (i := 5) (f := ?_) (args := ?_) rfl (by kernel_rfl) (by rfl) ?_ ?_
  rotate_left 2
  · go_simp
    (try (first | with_reducible rfl | (apply And.intro <;> rfl)))
  refine (refint_any z HX.out.2.2 w2).mono ?_
  rintro e w5 ⟨A5, c5, rfl, hN⟩
  obtain ⟨n5, hn5⟩ : ∃ nn_, nn_ = (encI z).length := ⟨_, rfl⟩
  obtain ⟨l5, hl5⟩ : ∃ ll_, ll_ = encI z := ⟨_, rfl⟩
  rw [← hn5] at hN ⊢
  rw [← hl5] at hN
  have HB5 : Hid (n5 ≤ 20000) := Lib.hid (by rw [hn5]; have := encI_len z HX.out.2.2; omega)
  have HL5 := Lib.hid hl5
  refine ⟨_, rfl, hHeld.go hN.2.1 (by simp), fun hHeld => ?_⟩
  simp only [Act.put, List.setIfInBounds_toArray, List.set_cons_zero, List.set_cons_succ]
  have HY5 := Lib.hid hN.by
  have HFD := Lib.hid (HFD.out.and hN.2.1 (by simp))
  have HY2 := Lib.hid (Fr.byk hN.2.1 HY2.out)
  clear hN hn5 hl5
  refine step_at (i := 6) rfl (by kernel_rfl) (by rfl) (fun K hK => ?_)
  refine wp_run (v := ?_) (w' := ?_) ?_ ?_
  rotate_left 2
  · go_simp
    (try (first | with_reducible rfl | (apply And.intro <;> rfl)))
  refine hK.out _ (w5.alloc (Obj.cells #[.slice A2 n2 c2, .slice A5 n5 c5] 23)) (hHeld.alloc _) (fun hHeld => ?_)
  clear hK K
  simp only [Act.put, List.setIfInBounds_toArray, List.set_cons_zero, List.set_cons_succ]
  have hfb : Fr [] w5 (w5.alloc (Obj.cells #[.slice A2 n2 c2, .slice A5 n5 c5] 23)) := (Fr.refl [] w5).alloc _
  have hbb : Blk (w5.alloc (Obj.cells #[.slice A2 n2 c2, .slice A5 n5 c5] 23)) w5.heap.size 23 (([⟨A2, n2, c2, l2⟩, ⟨A5, n5, c5, l5⟩] : List RowV).map RowV.val).toArray := Blk.new _ _ _
  generalize w5.alloc (Obj.cells #[.slice A2 n2 c2, .slice A5 n5 c5] 23) = wj at *
  have HFD := Lib.hid (HFD.out.and hfb (by simp))
  have hj := join_big w5.heap.size 2 [⟨A2, n2, c2, l2⟩, ⟨A5, n5, c5, l5⟩] wj hbb rfl (by omega) (by
    intro r hr
    simp only [List.mem_cons, List.not_mem_nil, or_false] at hr
    rcases hr with rfl | rfl
    · exact ⟨Fr.byk hfb HY2.out, HB2.out⟩
    · exact ⟨Fr.byk hfb HY5.out, HB5.out⟩)
  have hJ : joinL [⟨A2, n2, c2, l2⟩, ⟨A5, n5, c5, l5⟩] = nmL y z := by
    simp only [joinL, List.map_cons, List.map_nil, List.flatten_cons, List.flatten_nil, HL2.out, HL5.out]
    simp [nmL]
  rw [hJ] at hj
  obtain ⟨X, hX⟩ : ∃ X, X = nmL y z := ⟨_, rfl⟩
  rw [← hX] at hj
  have HXT := Lib.hid hX
  clear hX
  have HJ := Lib.hid hj
  clear hfb hbb hj hJ HY2 HL2 HY5 HL5
  refine call_at (i := 7) (f := ?_) (args := ?_) rfl (by kernel_rfl) (by rfl) ?_ ?_
  rotate_left 2
  · go_simp
    (try (first | with_reducible rfl | (apply And.intro <;> rfl)))
  refine HJ.out.mono ?_
  rintro e wk ⟨Aj, cj, rfl, hN⟩
  have HN := Lib.hid (hN.from2 (HF0.out.and HFD.out (by simp)))
  refine ⟨_, rfl, hHeld.go hN.2.1 (by simp), fun hHeld => ?_⟩
  clear hN
  simp only [Act.put, List.setIfInBounds_toArray, List.set_cons_zero, List.set_cons_succ]
  refine run_at (i := 8) (v := ?_) rfl (by kernel_rfl) (by rfl) (fun _ _ _ h => h) hHeld (fun w1 hw1 => ?_) ?_
  rotate_left 1
  · skip
    go_simp
    (try (first | with_reducible rfl | (apply And.intro <;> rfl)))
  simp only [Act.put, List.setIfInBounds_toArray, List.set_cons_zero, List.set_cons_succ]
  refine wpAnyH_done (by kernel_rfl) ?_ _
  go_wp2
  go_ret
  rw [← HXT.out]
  exact ⟨Aj, cj, rfl, HN.out⟩
set_option maxHeartbeats 4000000 in
theorem refputCommit_any (x : Wcm) (hx : x.Ok) (C : List Value) (hC : x.cells = C) (w : World) :
    Calls Tryd.prog 73 #[.agg C.toArray] w fun e w' => ∃ A c, e = .returned (.slice A (x.full).length c) ∧ NewB w w' A (x.full).length c (x.full) := by
  obtain ⟨wa, hwa⟩ : ∃ wa, wa = w.alloc (Obj.cells C.toArray 56) := ⟨_, rfl⟩
  have hf0 : Fr [] w wa := by rw [hwa]; exact (Fr.refl [] w).alloc _
  have hb0 : Blk wa w.heap.size 56 x.cells.toArray := by rw [hwa, hC]; exact Blk.new _ _ _
  have HALL : Hid (wa.rangeAt w.heap.size 0 C) := Lib.hid (by rw [← hC]; exact hb0.range)
  have HLN : Hid (C.length = 37) := Lib.hid (by rw [← hC]; exact Wcm.len hx.h)
  have hat := Wcm.at_of (o := 0) hb0.range hx.h
  have HAT := Lib.hid hat
  have HYH : Hid (By wa (some ⟨w.heap.size, 2, none⟩) 32 x.h) := Lib.hid (by have h := By.of_range hat.hash; rw [hx.h] at h; exact h)
  have HX := Lib.hid hx
  have HRC := Lib.hid hC
  clear hb0 hx hC hat
  have HF0 := Lib.hid hf0
  have HWA := Lib.hid hwa
  clear hwa hf0
  go_enter Tryd.func73, Tryd.ntmps73
  go_wp2
  rw [← HWA.out]
  refine wp_region_held_drew (S := Fr [] wa) (by kernel_rfl) (Fr.drew (Fr.refl _ wa)) (fun hHeld => ?_)
  have HFD : Hid (Fr [] wa wa.drew) := Lib.hid (Fr.drew (Fr.refl [] wa))
  generalize wa.drew = wd at *
  refine run_at (i := 0) (v := ?_) rfl (by kernel_rfl) (by rfl) (fun _ _ _ h => h) hHeld (fun w1 hw1 => ?_) ?_
  rotate_left 1
  · skip
    go_simp
    (try (first | with_reducible rfl | (apply And.intro <;> rfl)))
  simp only [Act.put, List.setIfInBounds_toArray, List.set_cons_zero, List.set_cons_succ]
  refine row_at (i := 1) rfl (by kernel_rfl) (by rfl) _ _ rfl _ _ rfl _ (fun w1 hw1 => hw1.range (HAT.out.name) (by first | (simp; done) | exact HNS.out | exact HNW.out | (intro hm; have hlt := HSB.out _ hm; (try dsimp only at hlt); omega))) (row_name) (fun _ _ _ h => h) hHeld ?_
  simp only [Act.put, List.setIfInBounds_toArray, List.set_cons_zero, List.set_cons_succ]
  refine run_at (i := 3) (v := ?_) rfl (by kernel_rfl) (by rfl) (fun _ _ _ h => h) hHeld (fun w1 hw1 => ?_) ?_
  rotate_left 1
  · skip
    go_simp
    (try (first | with_reducible rfl | (apply And.intro <;> rfl)))
  simp only [Act.put, List.setIfInBounds_toArray, List.set_cons_zero, List.set_cons_succ]
  refine run_at (i := 4) (v := ?_) rfl (by kernel_rfl) (by rfl) (fun _ _ _ h => h) hHeld (fun w1 hw1 => ?_) ?_
  rotate_left 1
  · skip
    go_simp
    (try (first | with_reducible rfl | (apply And.intro <;> rfl)))
  simp only [Act.put, List.setIfInBounds_toArray, List.set_cons_zero, List.set_cons_succ]
  refine run_at (i := 5) (v := ?_) rfl (by kernel_rfl) (by rfl) (fun _ _ _ h => h) hHeld (fun w1 hw1 => ?_) ?_
  rotate_left 1
  · skip
    go_simp
    (try (first | with_reducible rfl | (apply And.intro <;> rfl)))
  simp only [Act.put, List.setIfInBounds_toArray, List.set_cons_zero, List.set_cons_succ]
  refine run_at (i := 6) (v := ?_) rfl (by kernel_rfl) (by rfl) (fun _ _ _ h => h) hHeld (fun w1 hw1 => ?_) ?_
  rotate_left 1
  · skip
    have hcw0 := hw1.cell (HAT.out.n) (by first | (simp; done) | exact HNS.out | exact HNW.out | (intro hm; have hlt := HSB.out _ hm; (try dsimp only at hlt); omega))
    go_simp
    (try (first | with_reducible rfl | (apply And.intro <;> rfl)))
  simp only [Act.put, List.setIfInBounds_toArray, List.set_cons_zero, List.set_cons_succ]
  refine run_at (i := 8) (v := ?_) rfl (by kernel_rfl) (by rfl) (fun _ _ _ h => h) hHeld (fun w1 hw1 => ?_) ?_
  rotate_left 1
  · skip
    go_simp
    (try (first | with_reducible rfl | (apply And.intro <;> rfl)))
  simp only [Act.put, List.setIfInBounds_toArray, List.set_cons_zero, List.set_cons_succ]
  refine row_at (i := 9) rfl (by kernel_rfl) (by rfl) _ _ rfl _ _ rfl _ (fun w1 hw1 => hw1.range (HAT.out.sig) (by first | (simp; done) | exact HNS.out | exact HNW.out | (intro hm; have hlt := HSB.out _ hm; (try dsimp only at hlt); omega))) (row_sig) (fun _ _ _ h => h) hHeld ?_
  simp only [Act.put, List.setIfInBounds_toArray, List.set_cons_zero, List.set_cons_succ]
  refine call_at (i := 2) (f := ?_) (args := ?_) rfl (by kernel_rfl) (by rfl) ?_ ?_
  rotate_left 2
  · go_simp
    (try (first | with_reducible rfl | (apply And.intro <;> rfl)))
  refine (refname_any x.c x.s HX.out.c HX.out.s wd).mono ?_
  rintro e w2 ⟨A2, c2, rfl, hN⟩
  obtain ⟨n2, hn2⟩ : ∃ nn_, nn_ = (nmL x.c x.s).length := ⟨_, rfl⟩
  obtain ⟨l2, hl2⟩ : ∃ ll_, ll_ = nmL x.c x.s := ⟨_, rfl⟩
  rw [← hn2] at hN ⊢
  rw [← hl2] at hN
  have HB2 : Hid (n2 ≤ 20000) := Lib.hid (by rw [hn2]; have := encI_len x.c HX.out.c.2; have := encI_len x.s HX.out.s.2; simp only [nmL, List.length_append]; omega)
  have HL2 := Lib.hid hl2
  refine ⟨_, rfl, hHeld.go hN.2.1 (by simp), fun hHeld => ?_⟩
  simp only [Act.put, List.setIfInBounds_toArray, List.set_cons_zero, List.set_cons_succ]
  have HY2 := Lib.hid hN.by
  have HFD := Lib.hid (HFD.out.and hN.2.1 (by simp))
  clear hN hn2 hl2
  refine call_at (i := 7) (f := ?_) (args := ?_) rfl (by kernel_rfl) (by rfl) ?_ ?_
  rotate_left 2
  · go_simp
    (try (first | with_reducible rfl | (apply And.intro <;> rfl)))
  refine (refint_any x.n HX.out.n.2 w2).mono ?_
  rintro e w7 ⟨A7, c7, rfl, hN⟩
  obtain ⟨n7, hn7⟩ : ∃ nn_, nn_ = (encI x.n).length := ⟨_, rfl⟩
  obtain ⟨l7, hl7⟩ : ∃ ll_, ll_ = encI x.n := ⟨_, rfl⟩
  rw [← hn7] at hN ⊢
  rw [← hl7] at hN
  have HB7 : Hid (n7 ≤ 20000) := Lib.hid (by rw [hn7]; have := encI_len x.n HX.out.n.2; omega)
  have HL7 := Lib.hid hl7
  refine ⟨_, rfl, hHeld.go hN.2.1 (by simp), fun hHeld => ?_⟩
  simp only [Act.put, List.setIfInBounds_toArray, List.set_cons_zero, List.set_cons_succ]
  have HY7 := Lib.hid hN.by
  have HFD := Lib.hid (HFD.out.and hN.2.1 (by simp))
  have HY2 := Lib.hid (Fr.byk hN.2.1 HY2.out)
  clear hN hn7 hl7
  refine call_at (i := 10) (f := ?_) (args := ?_) rfl (by kernel_rfl) (by rfl) ?_ ?_
  rotate_left 2
  · go_simp
    (try (first | with_reducible rfl | (apply And.intro <;> rfl)))
  refine (refsig_any x.b x.m HX.out.b HX.out.m w7).mono ?_
  rintro e w10 ⟨A10, c10, rfl, hN⟩
  obtain ⟨n10, hn10⟩ : ∃ nn_, nn_ = (sgL x.b x.m).length := ⟨_, rfl⟩
  obtain ⟨l10, hl10⟩ : ∃ ll_, ll_ = sgL x.b x.m := ⟨_, rfl⟩
  rw [← hn10] at hN ⊢
  rw [← hl10] at hN
  have HB10 : Hid (n10 ≤ 20000) := Lib.hid (by rw [hn10]; have := encI_len x.b HX.out.b.2; have := encI_len x.m HX.out.m.2; simp only [sgL, List.length_append]; omega)
  have HL10 := Lib.hid hl10
  refine ⟨_, rfl, hHeld.go hN.2.1 (by simp), fun hHeld => ?_⟩
  simp only [Act.put, List.setIfInBounds_toArray, List.set_cons_zero, List.set_cons_succ]
  have HY10 := Lib.hid hN.by
  have HFD := Lib.hid (HFD.out.and hN.2.1 (by simp))
  have HY2 := Lib.hid (Fr.byk hN.2.1 HY2.out)
  have HY7 := Lib.hid (Fr.byk hN.2.1 HY7.out)
  clear hN hn10 hl10
  refine step_at (i := 11) rfl (by kernel_rfl) (by rfl) (fun K hK => ?_)
  refine wp_run (v := ?_) (w' := ?_) ?_ ?_
  rotate_left 2
  · go_simp
    (try (first | with_reducible rfl | (apply And.intro <;> rfl)))
  refine hK.out _ (w10.alloc (Obj.cells #[.slice A2 n2 c2, .slice (some ⟨w.heap.size, 2, none⟩) 32 32, .slice A7 n7 c7, .slice A10 n10 c10] 23)) (hHeld.alloc _) (fun hHeld => ?_)
  clear hK K
  simp only [Act.put, List.setIfInBounds_toArray, List.set_cons_zero, List.set_cons_succ]
  have hfb : Fr [] w10 (w10.alloc (Obj.cells #[.slice A2 n2 c2, .slice (some ⟨w.heap.size, 2, none⟩) 32 32, .slice A7 n7 c7, .slice A10 n10 c10] 23)) := (Fr.refl [] w10).alloc _
  have hbb : Blk (w10.alloc (Obj.cells #[.slice A2 n2 c2, .slice (some ⟨w.heap.size, 2, none⟩) 32 32, .slice A7 n7 c7, .slice A10 n10 c10] 23)) w10.heap.size 23 (([⟨A2, n2, c2, l2⟩, ⟨some ⟨w.heap.size, 2, none⟩, 32, 32, x.h⟩, ⟨A7, n7, c7, l7⟩, ⟨A10, n10, c10, l10⟩] : List RowV).map RowV.val).toArray := Blk.new _ _ _
  generalize w10.alloc (Obj.cells #[.slice A2 n2 c2, .slice (some ⟨w.heap.size, 2, none⟩) 32 32, .slice A7 n7 c7, .slice A10 n10 c10] 23) = wj at *
  have HFD := Lib.hid (HFD.out.and hfb (by simp))
  have hj := join_big w10.heap.size 4 [⟨A2, n2, c2, l2⟩, ⟨some ⟨w.heap.size, 2, none⟩, 32, 32, x.h⟩, ⟨A7, n7, c7, l7⟩, ⟨A10, n10, c10, l10⟩] wj hbb rfl (by omega) (by
    intro r hr
    simp only [List.mem_cons, List.not_mem_nil, or_false] at hr
    rcases hr with rfl | rfl | rfl | rfl
    · exact ⟨Fr.byk hfb HY2.out, HB2.out⟩
    · exact ⟨Fr.byk HFD.out HYH.out, by show 32 ≤ 20000; omega⟩
    · exact ⟨Fr.byk hfb HY7.out, HB7.out⟩
    · exact ⟨Fr.byk hfb HY10.out, HB10.out⟩)
  have hJ : joinL [⟨A2, n2, c2, l2⟩, ⟨some ⟨w.heap.size, 2, none⟩, 32, 32, x.h⟩, ⟨A7, n7, c7, l7⟩, ⟨A10, n10, c10, l10⟩] = x.full := by
    simp only [joinL, List.map_cons, List.map_nil, List.flatten_cons, List.flatten_nil, HL2.out, HL7.out, HL10.out]
    simp [Wcm.full]
  rw [hJ] at hj
  obtain ⟨X, hX⟩ : ∃ X, X = x.full := ⟨_, rfl⟩
  rw [← hX] at hj
  have HXT := Lib.hid hX
  clear hX
  have HJ := Lib.hid hj
  clear hfb hbb hj hJ HY2 HL2 HY7 HL7 HY10 HL10
  refine call_at (i := 12) (f := ?_) (args := ?_) rfl (by kernel_rfl) (by rfl) ?_ ?_
  rotate_left 2
  · go_simp
    (try (first | with_reducible rfl | (apply And.intro <;> rfl)))
  refine HJ.out.mono ?_
  rintro e wk ⟨Aj, cj, rfl, hN⟩
  have HN := Lib.hid (hN.from2 (HF0.out.and HFD.out (by simp)))
  refine ⟨_, rfl, hHeld.go hN.2.1 (by simp), fun hHeld => ?_⟩
  clear hN
  simp only [Act.put, List.setIfInBounds_toArray, List.set_cons_zero, List.set_cons_succ]
  refine run_at (i := 13) (v := ?_) rfl (by kernel_rfl) (by rfl) (fun _ _ _ h => h) hHeld (fun w1 hw1 => ?_) ?_
  rotate_left 1
  · skip
    go_simp
    (try (first | with_reducible rfl | (apply And.intro <;> rfl)))
  simp only [Act.put, List.setIfInBounds_toArray, List.set_cons_zero, List.set_cons_succ]
  refine wpAnyH_done (by kernel_rfl) ?_ _
  go_wp2
  go_ret
  rw [← HXT.out]
  exact ⟨Aj, cj, rfl, HN.out⟩
set_option maxHeartbeats 4000000 in
theorem refbare_any (x : Wst) (hx : x.Ok) (C : List Value) (hC : x.cells = C) (w : World) :
    Calls Tryd.prog 80 #[.agg C.toArray] w fun e w' => ∃ A c, e = .returned (.slice A (x.bare).length c) ∧ NewB w w' A (x.bare).length c (x.bare) := by
  obtain ⟨wa, hwa⟩ : ∃ wa, wa = w.alloc (Obj.cells C.toArray 79) := ⟨_, rfl⟩
  have hf0 : Fr [] w wa := by rw [hwa]; exact (Fr.refl [] w).alloc _
  have hb0 : Blk wa w.heap.size 79 x.cells.toArray := by rw [hwa, hC]; exact Blk.new _ _ _
  have HALL : Hid (wa.rangeAt w.heap.size 0 C) := Lib.hid (by rw [← hC]; exact hb0.range)
  have HLN : Hid (C.length = 38) := Lib.hid (by rw [← hC]; exact Wst.len hx.h)
  have hat := Wst.at_of (o := 0) hb0.range hx.h
  have HAT := Lib.hid hat
  have HYH : Hid (By wa (some ⟨w.heap.size, 3, none⟩) 32 x.h) := Lib.hid (by have h := By.of_range hat.hash; rw [hx.h] at h; exact h)
  have HX := Lib.hid hx
  have HRC := Lib.hid hC
  clear hb0 hx hC hat
  have HF0 := Lib.hid hf0
  have HWA := Lib.hid hwa
  clear hwa hf0
  go_enter Tryd.func80, Tryd.ntmps80
  go_wp2
  rw [← HWA.out]
  refine wp_region_held_drew (S := Fr [] wa) (by kernel_rfl) (Fr.drew (Fr.refl _ wa)) (fun hHeld => ?_)
  have HFD : Hid (Fr [] wa wa.drew) := Lib.hid (Fr.drew (Fr.refl [] wa))
  generalize wa.drew = wd at *
  refine run_at (i := 0) (v := ?_) rfl (by kernel_rfl) (by rfl) (fun _ _ _ h => h) hHeld (fun w1 hw1 => ?_) ?_
  rotate_left 1
  · skip
    go_simp
    (try (first | with_reducible rfl | (apply And.intro <;> rfl)))
  simp only [Act.put, List.setIfInBounds_toArray, List.set_cons_zero, List.set_cons_succ]
  refine run_at (i := 1) (v := ?_) rfl (by kernel_rfl) (by rfl) (fun _ _ _ h => h) hHeld (fun w1 hw1 => ?_) ?_
  rotate_left 1
  · skip
    have hcw0 := hw1.cell (HAT.out.r) (by first | (simp; done) | exact HNS.out | exact HNW.out | (intro hm; have hlt := HSB.out _ hm; (try dsimp only at hlt); omega))
    go_simp
    (try (first | with_reducible rfl | (apply And.intro <;> rfl)))
  simp only [Act.put, List.setIfInBounds_toArray, List.set_cons_zero, List.set_cons_succ]
  refine run_at (i := 3) (v := ?_) rfl (by kernel_rfl) (by rfl) (fun _ _ _ h => h) hHeld (fun w1 hw1 => ?_) ?_
  rotate_left 1
  · skip
    go_simp
    (try (first | with_reducible rfl | (apply And.intro <;> rfl)))
  simp only [Act.put, List.setIfInBounds_toArray, List.set_cons_zero, List.set_cons_succ]
  refine row_at (i := 4) rfl (by kernel_rfl) (by rfl) _ _ rfl _ _ rfl _ (fun w1 hw1 => hw1.range (HAT.out.name) (by first | (simp; done) | exact HNS.out | exact HNW.out | (intro hm; have hlt := HSB.out _ hm; (try dsimp only at hlt); omega))) (row_name) (fun _ _ _ h => h) hHeld ?_
  simp only [Act.put, List.setIfInBounds_toArray, List.set_cons_zero, List.set_cons_succ]
  refine run_at (i := 6) (v := ?_) rfl (by kernel_rfl) (by rfl) (fun _ _ _ h => h) hHeld (fun w1 hw1 => ?_) ?_
  rotate_left 1
  · skip
    go_simp
    (try (first | with_reducible rfl | (apply And.intro <;> rfl)))
  simp only [Act.put, List.setIfInBounds_toArray, List.set_cons_zero, List.set_cons_succ]
  refine run_at (i := 7) (v := ?_) rfl (by kernel_rfl) (by rfl) (fun _ _ _ h => h) hHeld (fun w1 hw1 => ?_) ?_
  rotate_left 1
  · skip
    go_simp
    (try (first | with_reducible rfl | (apply And.intro <;> rfl)))
  simp only [Act.put, List.setIfInBounds_toArray, List.set_cons_zero, List.set_cons_succ]
  refine run_at (i := 8) (v := ?_) rfl (by kernel_rfl) (by rfl) (fun _ _ _ h => h) hHeld (fun w1 hw1 => ?_) ?_
  rotate_left 1
  · skip
    go_simp
    (try (first | with_reducible rfl | (apply And.intro <;> rfl)))
  simp only [Act.put, List.setIfInBounds_toArray, List.set_cons_zero, List.set_cons_succ]
  refine run_at (i := 9) (v := ?_) rfl (by kernel_rfl) (by rfl) (fun _ _ _ h => h) hHeld (fun w1 hw1 => ?_) ?_
  rotate_left 1
  · skip
    have hcw0 := hw1.cell (HAT.out.t) (by first | (simp; done) | exact HNS.out | exact HNW.out | (intro hm; have hlt := HSB.out _ hm; (try dsimp only at hlt); omega))
    go_simp
    (try (first | with_reducible rfl | (apply And.intro <;> rfl)))
  simp only [Act.put, List.setIfInBounds_toArray, List.set_cons_zero, List.set_cons_succ]
  refine call_at (i := 2) (f := ?_) (args := ?_) rfl (by kernel_rfl) (by rfl) ?_ ?_
  rotate_left 2
  · go_simp
    (try (first | with_reducible rfl | (apply And.intro <;> rfl)))
  refine (refint_any x.r HX.out.r.2 wd).mono ?_
  rintro e w2 ⟨A2, c2, rfl, hN⟩
  obtain ⟨n2, hn2⟩ : ∃ nn_, nn_ = (encI x.r).length := ⟨_, rfl⟩
  obtain ⟨l2, hl2⟩ : ∃ ll_, ll_ = encI x.r := ⟨_, rfl⟩
  rw [← hn2] at hN ⊢
  rw [← hl2] at hN
  have HB2 : Hid (n2 ≤ 20000) := Lib.hid (by rw [hn2]; have := encI_len x.r HX.out.r.2; omega)
  have HL2 := Lib.hid hl2
  refine ⟨_, rfl, hHeld.go hN.2.1 (by simp), fun hHeld => ?_⟩
  simp only [Act.put, List.setIfInBounds_toArray, List.set_cons_zero, List.set_cons_succ]
  have HY2 := Lib.hid hN.by
  have HFD := Lib.hid (HFD.out.and hN.2.1 (by simp))
  clear hN hn2 hl2
  refine call_at (i := 5) (f := ?_) (args := ?_) rfl (by kernel_rfl) (by rfl) ?_ ?_
  rotate_left 2
  · go_simp
    (try (first | with_reducible rfl | (apply And.intro <;> rfl)))
  refine (refname_any x.c x.s HX.out.c HX.out.s w2).mono ?_
  rintro e w5 ⟨A5, c5, rfl, hN⟩
  obtain ⟨n5, hn5⟩ : ∃ nn_, nn_ = (nmL x.c x.s).length := ⟨_, rfl⟩
  obtain ⟨l5, hl5⟩ : ∃ ll_, ll_ = nmL x.c x.s := ⟨_, rfl⟩
  rw [← hn5] at hN ⊢
  rw [← hl5] at hN
  have HB5 : Hid (n5 ≤ 20000) := Lib.hid (by rw [hn5]; have := encI_len x.c HX.out.c.2; have := encI_len x.s HX.out.s.2; simp only [nmL, List.length_append]; omega)
  have HL5 := Lib.hid hl5
  refine ⟨_, rfl, hHeld.go hN.2.1 (by simp), fun hHeld => ?_⟩
  simp only [Act.put, List.setIfInBounds_toArray, List.set_cons_zero, List.set_cons_succ]
  have HY5 := Lib.hid hN.by
  have HFD := Lib.hid (HFD.out.and hN.2.1 (by simp))
  have HY2 := Lib.hid (Fr.byk hN.2.1 HY2.out)
  clear hN hn5 hl5
  refine call_at (i := 10) (f := ?_) (args := ?_) rfl (by kernel_rfl) (by rfl) ?_ ?_
  rotate_left 2
  · go_simp
    (try (first | with_reducible rfl | (apply And.intro <;> rfl)))
  refine (refnum_any x.t HX.out.t w5).mono ?_
  rintro e w10 ⟨A10, c10, rfl, hN⟩
  obtain ⟨n10, hn10⟩ : ∃ nn_, nn_ = (enc x.t).length := ⟨_, rfl⟩
  obtain ⟨l10, hl10⟩ : ∃ ll_, ll_ = enc x.t := ⟨_, rfl⟩
  rw [← hn10] at hN ⊢
  rw [← hl10] at hN
  have HB10 : Hid (n10 ≤ 20000) := Lib.hid (by rw [hn10]; have := enc_ten HX.out.t; omega)
  have HL10 := Lib.hid hl10
  refine ⟨_, rfl, hHeld.go hN.2.1 (by simp), fun hHeld => ?_⟩
  simp only [Act.put, List.setIfInBounds_toArray, List.set_cons_zero, List.set_cons_succ]
  have HY10 := Lib.hid hN.by
  have HFD := Lib.hid (HFD.out.and hN.2.1 (by simp))
  have HY2 := Lib.hid (Fr.byk hN.2.1 HY2.out)
  have HY5 := Lib.hid (Fr.byk hN.2.1 HY5.out)
  clear hN hn10 hl10
  refine step_at (i := 11) rfl (by kernel_rfl) (by rfl) (fun K hK => ?_)
  refine wp_run (v := ?_) (w' := ?_) ?_ ?_
  rotate_left 2
  · go_simp
    (try (first | with_reducible rfl | (apply And.intro <;> rfl)))
  refine hK.out _ (w10.alloc (Obj.cells #[.slice A2 n2 c2, .slice A5 n5 c5, .slice (some ⟨w.heap.size, 3, none⟩) 32 32, .slice A10 n10 c10] 23)) (hHeld.alloc _) (fun hHeld => ?_)
  clear hK K
  simp only [Act.put, List.setIfInBounds_toArray, List.set_cons_zero, List.set_cons_succ]
  have hfb : Fr [] w10 (w10.alloc (Obj.cells #[.slice A2 n2 c2, .slice A5 n5 c5, .slice (some ⟨w.heap.size, 3, none⟩) 32 32, .slice A10 n10 c10] 23)) := (Fr.refl [] w10).alloc _
  have hbb : Blk (w10.alloc (Obj.cells #[.slice A2 n2 c2, .slice A5 n5 c5, .slice (some ⟨w.heap.size, 3, none⟩) 32 32, .slice A10 n10 c10] 23)) w10.heap.size 23 (([⟨A2, n2, c2, l2⟩, ⟨A5, n5, c5, l5⟩, ⟨some ⟨w.heap.size, 3, none⟩, 32, 32, x.h⟩, ⟨A10, n10, c10, l10⟩] : List RowV).map RowV.val).toArray := Blk.new _ _ _
  generalize w10.alloc (Obj.cells #[.slice A2 n2 c2, .slice A5 n5 c5, .slice (some ⟨w.heap.size, 3, none⟩) 32 32, .slice A10 n10 c10] 23) = wj at *
  have HFD := Lib.hid (HFD.out.and hfb (by simp))
  have hj := join_big w10.heap.size 4 [⟨A2, n2, c2, l2⟩, ⟨A5, n5, c5, l5⟩, ⟨some ⟨w.heap.size, 3, none⟩, 32, 32, x.h⟩, ⟨A10, n10, c10, l10⟩] wj hbb rfl (by omega) (by
    intro r hr
    simp only [List.mem_cons, List.not_mem_nil, or_false] at hr
    rcases hr with rfl | rfl | rfl | rfl
    · exact ⟨Fr.byk hfb HY2.out, HB2.out⟩
    · exact ⟨Fr.byk hfb HY5.out, HB5.out⟩
    · exact ⟨Fr.byk HFD.out HYH.out, by show 32 ≤ 20000; omega⟩
    · exact ⟨Fr.byk hfb HY10.out, HB10.out⟩)
  have hJ : joinL [⟨A2, n2, c2, l2⟩, ⟨A5, n5, c5, l5⟩, ⟨some ⟨w.heap.size, 3, none⟩, 32, 32, x.h⟩, ⟨A10, n10, c10, l10⟩] = x.bare := by
    simp only [joinL, List.map_cons, List.map_nil, List.flatten_cons, List.flatten_nil, HL2.out, HL5.out, HL10.out]
    simp [Wst.bare]
  rw [hJ] at hj
  obtain ⟨X, hX⟩ : ∃ X, X = x.bare := ⟨_, rfl⟩
  rw [← hX] at hj
  have HXT := Lib.hid hX
  clear hX
  have HJ := Lib.hid hj
  clear hfb hbb hj hJ HY2 HL2 HY5 HL5 HY10 HL10
  refine call_at (i := 12) (f := ?_) (args := ?_) rfl (by kernel_rfl) (by rfl) ?_ ?_
  rotate_left 2
  · go_simp
    (try (first | with_reducible rfl | (apply And.intro <;> rfl)))
  refine HJ.out.mono ?_
  rintro e wk ⟨Aj, cj, rfl, hN⟩
  have HN := Lib.hid (hN.from2 (HF0.out.and HFD.out (by simp)))
  refine ⟨_, rfl, hHeld.go hN.2.1 (by simp), fun hHeld => ?_⟩
  clear hN
  simp only [Act.put, List.setIfInBounds_toArray, List.set_cons_zero, List.set_cons_succ]
  refine run_at (i := 13) (v := ?_) rfl (by kernel_rfl) (by rfl) (fun _ _ _ h => h) hHeld (fun w1 hw1 => ?_) ?_
  rotate_left 1
  · skip
    go_simp
    (try (first | with_reducible rfl | (apply And.intro <;> rfl)))
  simp only [Act.put, List.setIfInBounds_toArray, List.set_cons_zero, List.set_cons_succ]
  refine wpAnyH_done (by kernel_rfl) ?_ _
  go_wp2
  go_ret
  rw [← HXT.out]
  exact ⟨Aj, cj, rfl, HN.out⟩
set_option maxHeartbeats 4000000 in
theorem refbareAck_any (x : Wst) (hx : x.Ok) (C : List Value) (hC : x.cells = C) (w : World) :
    Calls Tryd.prog 82 #[.agg C.toArray] w fun e w' => ∃ A c, e = .returned (.slice A (x.bare).length c) ∧ NewB w w' A (x.bare).length c (x.bare) := by
  obtain ⟨wa, hwa⟩ : ∃ wa, wa = w.alloc (Obj.cells C.toArray 81) := ⟨_, rfl⟩
  have hf0 : Fr [] w wa := by rw [hwa]; exact (Fr.refl [] w).alloc _
  have hb0 : Blk wa w.heap.size 81 x.cells.toArray := by rw [hwa, hC]; exact Blk.new _ _ _
  have HALL : Hid (wa.rangeAt w.heap.size 0 C) := Lib.hid (by rw [← hC]; exact hb0.range)
  have HLN : Hid (C.length = 38) := Lib.hid (by rw [← hC]; exact Wst.len hx.h)
  have hat := Wst.at_of (o := 0) hb0.range hx.h
  have HAT := Lib.hid hat
  have HYH : Hid (By wa (some ⟨w.heap.size, 3, none⟩) 32 x.h) := Lib.hid (by have h := By.of_range hat.hash; rw [hx.h] at h; exact h)
  have HX := Lib.hid hx
  have HRC := Lib.hid hC
  clear hb0 hx hC hat
  have HF0 := Lib.hid hf0
  have HWA := Lib.hid hwa
  clear hwa hf0
  go_enter Tryd.func82, Tryd.ntmps82
  go_wp2
  rw [← HWA.out]
  refine wp_region_held_drew (S := Fr [] wa) (by kernel_rfl) (Fr.drew (Fr.refl _ wa)) (fun hHeld => ?_)
  have HFD : Hid (Fr [] wa wa.drew) := Lib.hid (Fr.drew (Fr.refl [] wa))
  generalize wa.drew = wd at *
  refine run_at (i := 0) (v := ?_) rfl (by kernel_rfl) (by rfl) (fun _ _ _ h => h) hHeld (fun w1 hw1 => ?_) ?_
  rotate_left 1
  · skip
    go_simp
    (try (first | with_reducible rfl | (apply And.intro <;> rfl)))
  simp only [Act.put, List.setIfInBounds_toArray, List.set_cons_zero, List.set_cons_succ]
  refine run_at (i := 1) (v := ?_) rfl (by kernel_rfl) (by rfl) (fun _ _ _ h => h) hHeld (fun w1 hw1 => ?_) ?_
  rotate_left 1
  · skip
    have hcw0 := hw1.cell (HAT.out.r) (by first | (simp; done) | exact HNS.out | exact HNW.out | (intro hm; have hlt := HSB.out _ hm; (try dsimp only at hlt); omega))
    go_simp
    (try (first | with_reducible rfl | (apply And.intro <;> rfl)))
  simp only [Act.put, List.setIfInBounds_toArray, List.set_cons_zero, List.set_cons_succ]
  refine run_at (i := 3) (v := ?_) rfl (by kernel_rfl) (by rfl) (fun _ _ _ h => h) hHeld (fun w1 hw1 => ?_) ?_
  rotate_left 1
  · skip
    go_simp
    (try (first | with_reducible rfl | (apply And.intro <;> rfl)))
  simp only [Act.put, List.setIfInBounds_toArray, List.set_cons_zero, List.set_cons_succ]
  refine row_at (i := 4) rfl (by kernel_rfl) (by rfl) _ _ rfl _ _ rfl _ (fun w1 hw1 => hw1.range (HAT.out.name) (by first | (simp; done) | exact HNS.out | exact HNW.out | (intro hm; have hlt := HSB.out _ hm; (try dsimp only at hlt); omega))) (row_name) (fun _ _ _ h => h) hHeld ?_
  simp only [Act.put, List.setIfInBounds_toArray, List.set_cons_zero, List.set_cons_succ]
  refine run_at (i := 6) (v := ?_) rfl (by kernel_rfl) (by rfl) (fun _ _ _ h => h) hHeld (fun w1 hw1 => ?_) ?_
  rotate_left 1
  · skip
    go_simp
    (try (first | with_reducible rfl | (apply And.intro <;> rfl)))
  simp only [Act.put, List.setIfInBounds_toArray, List.set_cons_zero, List.set_cons_succ]
  refine run_at (i := 7) (v := ?_) rfl (by kernel_rfl) (by rfl) (fun _ _ _ h => h) hHeld (fun w1 hw1 => ?_) ?_
  rotate_left 1
  · skip
    go_simp
    (try (first | with_reducible rfl | (apply And.intro <;> rfl)))
  simp only [Act.put, List.setIfInBounds_toArray, List.set_cons_zero, List.set_cons_succ]
  refine run_at (i := 8) (v := ?_) rfl (by kernel_rfl) (by rfl) (fun _ _ _ h => h) hHeld (fun w1 hw1 => ?_) ?_
  rotate_left 1
  · skip
    go_simp
    (try (first | with_reducible rfl | (apply And.intro <;> rfl)))
  simp only [Act.put, List.setIfInBounds_toArray, List.set_cons_zero, List.set_cons_succ]
  refine run_at (i := 9) (v := ?_) rfl (by kernel_rfl) (by rfl) (fun _ _ _ h => h) hHeld (fun w1 hw1 => ?_) ?_
  rotate_left 1
  · skip
    have hcw0 := hw1.cell (HAT.out.t) (by first | (simp; done) | exact HNS.out | exact HNW.out | (intro hm; have hlt := HSB.out _ hm; (try dsimp only at hlt); omega))
    go_simp
    (try (first | with_reducible rfl | (apply And.intro <;> rfl)))
  simp only [Act.put, List.setIfInBounds_toArray, List.set_cons_zero, List.set_cons_succ]
  refine call_at (i := 2) (f := ?_) (args := ?_) rfl (by kernel_rfl) (by rfl) ?_ ?_
  rotate_left 2
  · go_simp
    (try (first | with_reducible rfl | (apply And.intro <;> rfl)))
  refine (refint_any x.r HX.out.r.2 wd).mono ?_
  rintro e w2 ⟨A2, c2, rfl, hN⟩
  obtain ⟨n2, hn2⟩ : ∃ nn_, nn_ = (encI x.r).length := ⟨_, rfl⟩
  obtain ⟨l2, hl2⟩ : ∃ ll_, ll_ = encI x.r := ⟨_, rfl⟩
  rw [← hn2] at hN ⊢
  rw [← hl2] at hN
  have HB2 : Hid (n2 ≤ 20000) := Lib.hid (by rw [hn2]; have := encI_len x.r HX.out.r.2; omega)
  have HL2 := Lib.hid hl2
  refine ⟨_, rfl, hHeld.go hN.2.1 (by simp), fun hHeld => ?_⟩
  simp only [Act.put, List.setIfInBounds_toArray, List.set_cons_zero, List.set_cons_succ]
  have HY2 := Lib.hid hN.by
  have HFD := Lib.hid (HFD.out.and hN.2.1 (by simp))
  clear hN hn2 hl2
  refine call_at (i := 5) (f := ?_) (args := ?_) rfl (by kernel_rfl) (by rfl) ?_ ?_
  rotate_left 2
  · go_simp
    (try (first | with_reducible rfl | (apply And.intro <;> rfl)))
  refine (refname_any x.c x.s HX.out.c HX.out.s w2).mono ?_
  rintro e w5 ⟨A5, c5, rfl, hN⟩
  obtain ⟨n5, hn5⟩ : ∃ nn_, nn_ = (nmL x.c x.s).length := ⟨_, rfl⟩
  obtain ⟨l5, hl5⟩ : ∃ ll_, ll_ = nmL x.c x.s := ⟨_, rfl⟩
  rw [← hn5] at hN ⊢
  rw [← hl5] at hN
  have HB5 : Hid (n5 ≤ 20000) := Lib.hid (by rw [hn5]; have := encI_len x.c HX.out.c.2; have := encI_len x.s HX.out.s.2; simp only [nmL, List.length_append]; omega)
  have HL5 := Lib.hid hl5
  refine ⟨_, rfl, hHeld.go hN.2.1 (by simp), fun hHeld => ?_⟩
  simp only [Act.put, List.setIfInBounds_toArray, List.set_cons_zero, List.set_cons_succ]
  have HY5 := Lib.hid hN.by
  have HFD := Lib.hid (HFD.out.and hN.2.1 (by simp))
  have HY2 := Lib.hid (Fr.byk hN.2.1 HY2.out)
  clear hN hn5 hl5
  refine call_at (i := 10) (f := ?_) (args := ?_) rfl (by kernel_rfl) (by rfl) ?_ ?_
  rotate_left 2
  · go_simp
    (try (first | with_reducible rfl | (apply And.intro <;> rfl)))
  refine (refnum_any x.t HX.out.t w5).mono ?_
  rintro e w10 ⟨A10, c10, rfl, hN⟩
  obtain ⟨n10, hn10⟩ : ∃ nn_, nn_ = (enc x.t).length := ⟨_, rfl⟩
  obtain ⟨l10, hl10⟩ : ∃ ll_, ll_ = enc x.t := ⟨_, rfl⟩
  rw [← hn10] at hN ⊢
  rw [← hl10] at hN
  have HB10 : Hid (n10 ≤ 20000) := Lib.hid (by rw [hn10]; have := enc_ten HX.out.t; omega)
  have HL10 := Lib.hid hl10
  refine ⟨_, rfl, hHeld.go hN.2.1 (by simp), fun hHeld => ?_⟩
  simp only [Act.put, List.setIfInBounds_toArray, List.set_cons_zero, List.set_cons_succ]
  have HY10 := Lib.hid hN.by
  have HFD := Lib.hid (HFD.out.and hN.2.1 (by simp))
  have HY2 := Lib.hid (Fr.byk hN.2.1 HY2.out)
  have HY5 := Lib.hid (Fr.byk hN.2.1 HY5.out)
  clear hN hn10 hl10
  refine step_at (i := 11) rfl (by kernel_rfl) (by rfl) (fun K hK => ?_)
  refine wp_run (v := ?_) (w' := ?_) ?_ ?_
  rotate_left 2
  · go_simp
    (try (first | with_reducible rfl | (apply And.intro <;> rfl)))
  refine hK.out _ (w10.alloc (Obj.cells #[.slice A2 n2 c2, .slice A5 n5 c5, .slice (some ⟨w.heap.size, 3, none⟩) 32 32, .slice A10 n10 c10] 23)) (hHeld.alloc _) (fun hHeld => ?_)
  clear hK K
  simp only [Act.put, List.setIfInBounds_toArray, List.set_cons_zero, List.set_cons_succ]
  have hfb : Fr [] w10 (w10.alloc (Obj.cells #[.slice A2 n2 c2, .slice A5 n5 c5, .slice (some ⟨w.heap.size, 3, none⟩) 32 32, .slice A10 n10 c10] 23)) := (Fr.refl [] w10).alloc _
  have hbb : Blk (w10.alloc (Obj.cells #[.slice A2 n2 c2, .slice A5 n5 c5, .slice (some ⟨w.heap.size, 3, none⟩) 32 32, .slice A10 n10 c10] 23)) w10.heap.size 23 (([⟨A2, n2, c2, l2⟩, ⟨A5, n5, c5, l5⟩, ⟨some ⟨w.heap.size, 3, none⟩, 32, 32, x.h⟩, ⟨A10, n10, c10, l10⟩] : List RowV).map RowV.val).toArray := Blk.new _ _ _
  generalize w10.alloc (Obj.cells #[.slice A2 n2 c2, .slice A5 n5 c5, .slice (some ⟨w.heap.size, 3, none⟩) 32 32, .slice A10 n10 c10] 23) = wj at *
  have HFD := Lib.hid (HFD.out.and hfb (by simp))
  have hj := join_big w10.heap.size 4 [⟨A2, n2, c2, l2⟩, ⟨A5, n5, c5, l5⟩, ⟨some ⟨w.heap.size, 3, none⟩, 32, 32, x.h⟩, ⟨A10, n10, c10, l10⟩] wj hbb rfl (by omega) (by
    intro r hr
    simp only [List.mem_cons, List.not_mem_nil, or_false] at hr
    rcases hr with rfl | rfl | rfl | rfl
    · exact ⟨Fr.byk hfb HY2.out, HB2.out⟩
    · exact ⟨Fr.byk hfb HY5.out, HB5.out⟩
    · exact ⟨Fr.byk HFD.out HYH.out, by show 32 ≤ 20000; omega⟩
    · exact ⟨Fr.byk hfb HY10.out, HB10.out⟩)
  have hJ : joinL [⟨A2, n2, c2, l2⟩, ⟨A5, n5, c5, l5⟩, ⟨some ⟨w.heap.size, 3, none⟩, 32, 32, x.h⟩, ⟨A10, n10, c10, l10⟩] = x.bare := by
    simp only [joinL, List.map_cons, List.map_nil, List.flatten_cons, List.flatten_nil, HL2.out, HL5.out, HL10.out]
    simp [Wst.bare]
  rw [hJ] at hj
  obtain ⟨X, hX⟩ : ∃ X, X = x.bare := ⟨_, rfl⟩
  rw [← hX] at hj
  have HXT := Lib.hid hX
  clear hX
  have HJ := Lib.hid hj
  clear hfb hbb hj hJ HY2 HL2 HY5 HL5 HY10 HL10
  refine call_at (i := 12) (f := ?_) (args := ?_) rfl (by kernel_rfl) (by rfl) ?_ ?_
  rotate_left 2
  · go_simp
    (try (first | with_reducible rfl | (apply And.intro <;> rfl)))
  refine HJ.out.mono ?_
  rintro e wk ⟨Aj, cj, rfl, hN⟩
  have HN := Lib.hid (hN.from2 (HF0.out.and HFD.out (by simp)))
  refine ⟨_, rfl, hHeld.go hN.2.1 (by simp), fun hHeld => ?_⟩
  clear hN
  simp only [Act.put, List.setIfInBounds_toArray, List.set_cons_zero, List.set_cons_succ]
  refine run_at (i := 13) (v := ?_) rfl (by kernel_rfl) (by rfl) (fun _ _ _ h => h) hHeld (fun w1 hw1 => ?_) ?_
  rotate_left 1
  · skip
    go_simp
    (try (first | with_reducible rfl | (apply And.intro <;> rfl)))
  simp only [Act.put, List.setIfInBounds_toArray, List.set_cons_zero, List.set_cons_succ]
  refine wpAnyH_done (by kernel_rfl) ?_ _
  go_wp2
  go_ret
  rw [← HXT.out]
  exact ⟨Aj, cj, rfl, HN.out⟩
set_option maxHeartbeats 4000000 in
theorem refbareVote_any (x : Wvt) (hx : x.Ok) (C : List Value) (hC : x.cells = C) (w : World) :
    Calls Tryd.prog 88 #[.agg C.toArray] w fun e w' => ∃ A c, e = .returned (.slice A (x.bare).length c) ∧ NewB w w' A (x.bare).length c (x.bare) := by
  obtain ⟨wa, hwa⟩ : ∃ wa, wa = w.alloc (Obj.cells C.toArray 87) := ⟨_, rfl⟩
  have hf0 : Fr [] w wa := by rw [hwa]; exact (Fr.refl [] w).alloc _
  have hb0 : Blk wa w.heap.size 87 x.cells.toArray := by rw [hwa, hC]; exact Blk.new _ _ _
  have HALL : Hid (wa.rangeAt w.heap.size 0 C) := Lib.hid (by rw [← hC]; exact hb0.range)
  have HLN : Hid (C.length = 38) := Lib.hid (by rw [← hC]; exact Wvt.len hx.h)
  have hat := Wvt.at_of (o := 0) hb0.range hx.h
  have HAT := Lib.hid hat
  have HYH : Hid (By wa (some ⟨w.heap.size, 4, none⟩) 32 x.h) := Lib.hid (by have h := By.of_range hat.hash; rw [hx.h] at h; exact h)
  have HX := Lib.hid hx
  have HRC := Lib.hid hC
  clear hb0 hx hC hat
  have HF0 := Lib.hid hf0
  have HWA := Lib.hid hwa
  clear hwa hf0
  go_enter Tryd.func88, Tryd.ntmps88
  go_wp2
  rw [← HWA.out]
  refine wp_region_held_drew (S := Fr [] wa) (by kernel_rfl) (Fr.drew (Fr.refl _ wa)) (fun hHeld => ?_)
  have HFD : Hid (Fr [] wa wa.drew) := Lib.hid (Fr.drew (Fr.refl [] wa))
  generalize wa.drew = wd at *
  refine run_at (i := 0) (v := ?_) rfl (by kernel_rfl) (by rfl) (fun _ _ _ h => h) hHeld (fun w1 hw1 => ?_) ?_
  rotate_left 1
  · skip
    go_simp
    (try (first | with_reducible rfl | (apply And.intro <;> rfl)))
  simp only [Act.put, List.setIfInBounds_toArray, List.set_cons_zero, List.set_cons_succ]
  refine run_at (i := 1) (v := ?_) rfl (by kernel_rfl) (by rfl) (fun _ _ _ h => h) hHeld (fun w1 hw1 => ?_) ?_
  rotate_left 1
  · skip
    have hcw0 := hw1.cell (HAT.out.k) (by first | (simp; done) | exact HNS.out | exact HNW.out | (intro hm; have hlt := HSB.out _ hm; (try dsimp only at hlt); omega))
    go_simp
    (try (first | with_reducible rfl | (apply And.intro <;> rfl)))
  simp only [Act.put, List.setIfInBounds_toArray, List.set_cons_zero, List.set_cons_succ]
  refine run_at (i := 3) (v := ?_) rfl (by kernel_rfl) (by rfl) (fun _ _ _ h => h) hHeld (fun w1 hw1 => ?_) ?_
  rotate_left 1
  · skip
    go_simp
    (try (first | with_reducible rfl | (apply And.intro <;> rfl)))
  simp only [Act.put, List.setIfInBounds_toArray, List.set_cons_zero, List.set_cons_succ]
  refine run_at (i := 4) (v := ?_) rfl (by kernel_rfl) (by rfl) (fun _ _ _ h => h) hHeld (fun w1 hw1 => ?_) ?_
  rotate_left 1
  · skip
    have hcw0 := hw1.cell (HAT.out.e) (by first | (simp; done) | exact HNS.out | exact HNW.out | (intro hm; have hlt := HSB.out _ hm; (try dsimp only at hlt); omega))
    go_simp
    (try (first | with_reducible rfl | (apply And.intro <;> rfl)))
  simp only [Act.put, List.setIfInBounds_toArray, List.set_cons_zero, List.set_cons_succ]
  refine run_at (i := 6) (v := ?_) rfl (by kernel_rfl) (by rfl) (fun _ _ _ h => h) hHeld (fun w1 hw1 => ?_) ?_
  rotate_left 1
  · skip
    go_simp
    (try (first | with_reducible rfl | (apply And.intro <;> rfl)))
  simp only [Act.put, List.setIfInBounds_toArray, List.set_cons_zero, List.set_cons_succ]
  refine run_at (i := 7) (v := ?_) rfl (by kernel_rfl) (by rfl) (fun _ _ _ h => h) hHeld (fun w1 hw1 => ?_) ?_
  rotate_left 1
  · skip
    have hcw0 := hw1.cell (HAT.out.r) (by first | (simp; done) | exact HNS.out | exact HNW.out | (intro hm; have hlt := HSB.out _ hm; (try dsimp only at hlt); omega))
    go_simp
    (try (first | with_reducible rfl | (apply And.intro <;> rfl)))
  simp only [Act.put, List.setIfInBounds_toArray, List.set_cons_zero, List.set_cons_succ]
  refine run_at (i := 9) (v := ?_) rfl (by kernel_rfl) (by rfl) (fun _ _ _ h => h) hHeld (fun w1 hw1 => ?_) ?_
  rotate_left 1
  · skip
    go_simp
    (try (first | with_reducible rfl | (apply And.intro <;> rfl)))
  simp only [Act.put, List.setIfInBounds_toArray, List.set_cons_zero, List.set_cons_succ]
  refine run_at (i := 10) (v := ?_) rfl (by kernel_rfl) (by rfl) (fun _ _ _ h => h) hHeld (fun w1 hw1 => ?_) ?_
  rotate_left 1
  · skip
    have hcw0 := hw1.cell (HAT.out.p) (by first | (simp; done) | exact HNS.out | exact HNW.out | (intro hm; have hlt := HSB.out _ hm; (try dsimp only at hlt); omega))
    go_simp
    (try (first | with_reducible rfl | (apply And.intro <;> rfl)))
  simp only [Act.put, List.setIfInBounds_toArray, List.set_cons_zero, List.set_cons_succ]
  refine run_at (i := 12) (v := ?_) rfl (by kernel_rfl) (by rfl) (fun _ _ _ h => h) hHeld (fun w1 hw1 => ?_) ?_
  rotate_left 1
  · skip
    go_simp
    (try (first | with_reducible rfl | (apply And.intro <;> rfl)))
  simp only [Act.put, List.setIfInBounds_toArray, List.set_cons_zero, List.set_cons_succ]
  refine run_at (i := 13) (v := ?_) rfl (by kernel_rfl) (by rfl) (fun _ _ _ h => h) hHeld (fun w1 hw1 => ?_) ?_
  rotate_left 1
  · skip
    go_simp
    (try (first | with_reducible rfl | (apply And.intro <;> rfl)))
  simp only [Act.put, List.setIfInBounds_toArray, List.set_cons_zero, List.set_cons_succ]
  refine call_at (i := 2) (f := ?_) (args := ?_) rfl (by kernel_rfl) (by rfl) ?_ ?_
  rotate_left 2
  · go_simp
    (try (first | with_reducible rfl | (apply And.intro <;> rfl)))
  refine (refint_any x.k HX.out.k.2 wd).mono ?_
  rintro e w2 ⟨A2, c2, rfl, hN⟩
  obtain ⟨n2, hn2⟩ : ∃ nn_, nn_ = (encI x.k).length := ⟨_, rfl⟩
  obtain ⟨l2, hl2⟩ : ∃ ll_, ll_ = encI x.k := ⟨_, rfl⟩
  rw [← hn2] at hN ⊢
  rw [← hl2] at hN
  have HB2 : Hid (n2 ≤ 20000) := Lib.hid (by rw [hn2]; have := encI_len x.k HX.out.k.2; omega)
  have HL2 := Lib.hid hl2
  refine ⟨_, rfl, hHeld.go hN.2.1 (by simp), fun hHeld => ?_⟩
  simp only [Act.put, List.setIfInBounds_toArray, List.set_cons_zero, List.set_cons_succ]
  have HY2 := Lib.hid hN.by
  have HFD := Lib.hid (HFD.out.and hN.2.1 (by simp))
  clear hN hn2 hl2
  refine call_at (i := 5) (f := ?_) (args := ?_) rfl (by kernel_rfl) (by rfl) ?_ ?_
  rotate_left 2
  · go_simp
    (try (first | with_reducible rfl | (apply And.intro <;> rfl)))
  refine (refint_any x.e HX.out.e.2 w2).mono ?_
  rintro e w5 ⟨A5, c5, rfl, hN⟩
  obtain ⟨n5, hn5⟩ : ∃ nn_, nn_ = (encI x.e).length := ⟨_, rfl⟩
  obtain ⟨l5, hl5⟩ : ∃ ll_, ll_ = encI x.e := ⟨_, rfl⟩
  rw [← hn5] at hN ⊢
  rw [← hl5] at hN
  have HB5 : Hid (n5 ≤ 20000) := Lib.hid (by rw [hn5]; have := encI_len x.e HX.out.e.2; omega)
  have HL5 := Lib.hid hl5
  refine ⟨_, rfl, hHeld.go hN.2.1 (by simp), fun hHeld => ?_⟩
  simp only [Act.put, List.setIfInBounds_toArray, List.set_cons_zero, List.set_cons_succ]
  have HY5 := Lib.hid hN.by
  have HFD := Lib.hid (HFD.out.and hN.2.1 (by simp))
  have HY2 := Lib.hid (Fr.byk hN.2.1 HY2.out)
  clear hN hn5 hl5
  refine call_at (i := 8) (f := ?_) (args := ?_) rfl (by kernel_rfl) (by rfl) ?_ ?_
  rotate_left 2
  · go_simp
    (try (first | with_reducible rfl | (apply And.intro <;> rfl)))
  refine (refint_any x.r HX.out.r.2 w5).mono ?_
  rintro e w8 ⟨A8, c8, rfl, hN⟩
  obtain ⟨n8, hn8⟩ : ∃ nn_, nn_ = (encI x.r).length := ⟨_, rfl⟩
  obtain ⟨l8, hl8⟩ : ∃ ll_, ll_ = encI x.r := ⟨_, rfl⟩
  rw [← hn8] at hN ⊢
  rw [← hl8] at hN
  have HB8 : Hid (n8 ≤ 20000) := Lib.hid (by rw [hn8]; have := encI_len x.r HX.out.r.2; omega)
  have HL8 := Lib.hid hl8
  refine ⟨_, rfl, hHeld.go hN.2.1 (by simp), fun hHeld => ?_⟩
  simp only [Act.put, List.setIfInBounds_toArray, List.set_cons_zero, List.set_cons_succ]
  have HY8 := Lib.hid hN.by
  have HFD := Lib.hid (HFD.out.and hN.2.1 (by simp))
  have HY2 := Lib.hid (Fr.byk hN.2.1 HY2.out)
  have HY5 := Lib.hid (Fr.byk hN.2.1 HY5.out)
  clear hN hn8 hl8
  refine call_at (i := 11) (f := ?_) (args := ?_) rfl (by kernel_rfl) (by rfl) ?_ ?_
  rotate_left 2
  · go_simp
    (try (first | with_reducible rfl | (apply And.intro <;> rfl)))
  refine (refint_any x.p HX.out.p.2 w8).mono ?_
  rintro e w11 ⟨A11, c11, rfl, hN⟩
  obtain ⟨n11, hn11⟩ : ∃ nn_, nn_ = (encI x.p).length := ⟨_, rfl⟩
  obtain ⟨l11, hl11⟩ : ∃ ll_, ll_ = encI x.p := ⟨_, rfl⟩
  rw [← hn11] at hN ⊢
  rw [← hl11] at hN
  have HB11 : Hid (n11 ≤ 20000) := Lib.hid (by rw [hn11]; have := encI_len x.p HX.out.p.2; omega)
  have HL11 := Lib.hid hl11
  refine ⟨_, rfl, hHeld.go hN.2.1 (by simp), fun hHeld => ?_⟩
  simp only [Act.put, List.setIfInBounds_toArray, List.set_cons_zero, List.set_cons_succ]
  have HY11 := Lib.hid hN.by
  have HFD := Lib.hid (HFD.out.and hN.2.1 (by simp))
  have HY2 := Lib.hid (Fr.byk hN.2.1 HY2.out)
  have HY5 := Lib.hid (Fr.byk hN.2.1 HY5.out)
  have HY8 := Lib.hid (Fr.byk hN.2.1 HY8.out)
  clear hN hn11 hl11
  refine step_at (i := 14) rfl (by kernel_rfl) (by rfl) (fun K hK => ?_)
  refine wp_run (v := ?_) (w' := ?_) ?_ ?_
  rotate_left 2
  · go_simp
    (try (first | with_reducible rfl | (apply And.intro <;> rfl)))
  refine hK.out _ (w11.alloc (Obj.cells #[.slice A2 n2 c2, .slice A5 n5 c5, .slice A8 n8 c8, .slice A11 n11 c11, .slice (some ⟨w.heap.size, 4, none⟩) 32 32] 23)) (hHeld.alloc _) (fun hHeld => ?_)
  clear hK K
  simp only [Act.put, List.setIfInBounds_toArray, List.set_cons_zero, List.set_cons_succ]
  have hfb : Fr [] w11 (w11.alloc (Obj.cells #[.slice A2 n2 c2, .slice A5 n5 c5, .slice A8 n8 c8, .slice A11 n11 c11, .slice (some ⟨w.heap.size, 4, none⟩) 32 32] 23)) := (Fr.refl [] w11).alloc _
  have hbb : Blk (w11.alloc (Obj.cells #[.slice A2 n2 c2, .slice A5 n5 c5, .slice A8 n8 c8, .slice A11 n11 c11, .slice (some ⟨w.heap.size, 4, none⟩) 32 32] 23)) w11.heap.size 23 (([⟨A2, n2, c2, l2⟩, ⟨A5, n5, c5, l5⟩, ⟨A8, n8, c8, l8⟩, ⟨A11, n11, c11, l11⟩, ⟨some ⟨w.heap.size, 4, none⟩, 32, 32, x.h⟩] : List RowV).map RowV.val).toArray := Blk.new _ _ _
  generalize w11.alloc (Obj.cells #[.slice A2 n2 c2, .slice A5 n5 c5, .slice A8 n8 c8, .slice A11 n11 c11, .slice (some ⟨w.heap.size, 4, none⟩) 32 32] 23) = wj at *
  have HFD := Lib.hid (HFD.out.and hfb (by simp))
  have hj := join_big w11.heap.size 5 [⟨A2, n2, c2, l2⟩, ⟨A5, n5, c5, l5⟩, ⟨A8, n8, c8, l8⟩, ⟨A11, n11, c11, l11⟩, ⟨some ⟨w.heap.size, 4, none⟩, 32, 32, x.h⟩] wj hbb rfl (by omega) (by
    intro r hr
    simp only [List.mem_cons, List.not_mem_nil, or_false] at hr
    rcases hr with rfl | rfl | rfl | rfl | rfl
    · exact ⟨Fr.byk hfb HY2.out, HB2.out⟩
    · exact ⟨Fr.byk hfb HY5.out, HB5.out⟩
    · exact ⟨Fr.byk hfb HY8.out, HB8.out⟩
    · exact ⟨Fr.byk hfb HY11.out, HB11.out⟩
    · exact ⟨Fr.byk HFD.out HYH.out, by show 32 ≤ 20000; omega⟩)
  have hJ : joinL [⟨A2, n2, c2, l2⟩, ⟨A5, n5, c5, l5⟩, ⟨A8, n8, c8, l8⟩, ⟨A11, n11, c11, l11⟩, ⟨some ⟨w.heap.size, 4, none⟩, 32, 32, x.h⟩] = x.bare := by
    simp only [joinL, List.map_cons, List.map_nil, List.flatten_cons, List.flatten_nil, HL2.out, HL5.out, HL8.out, HL11.out]
    simp [Wvt.bare]
  rw [hJ] at hj
  obtain ⟨X, hX⟩ : ∃ X, X = x.bare := ⟨_, rfl⟩
  rw [← hX] at hj
  have HXT := Lib.hid hX
  clear hX
  have HJ := Lib.hid hj
  clear hfb hbb hj hJ HY2 HL2 HY5 HL5 HY8 HL8 HY11 HL11
  refine call_at (i := 15) (f := ?_) (args := ?_) rfl (by kernel_rfl) (by rfl) ?_ ?_
  rotate_left 2
  · go_simp
    (try (first | with_reducible rfl | (apply And.intro <;> rfl)))
  refine HJ.out.mono ?_
  rintro e wk ⟨Aj, cj, rfl, hN⟩
  have HN := Lib.hid (hN.from2 (HF0.out.and HFD.out (by simp)))
  refine ⟨_, rfl, hHeld.go hN.2.1 (by simp), fun hHeld => ?_⟩
  clear hN
  simp only [Act.put, List.setIfInBounds_toArray, List.set_cons_zero, List.set_cons_succ]
  refine run_at (i := 16) (v := ?_) rfl (by kernel_rfl) (by rfl) (fun _ _ _ h => h) hHeld (fun w1 hw1 => ?_) ?_
  rotate_left 1
  · skip
    go_simp
    (try (first | with_reducible rfl | (apply And.intro <;> rfl)))
  simp only [Act.put, List.setIfInBounds_toArray, List.set_cons_zero, List.set_cons_succ]
  refine wpAnyH_done (by kernel_rfl) ?_ _
  go_wp2
  go_ret
  rw [← HXT.out]
  exact ⟨Aj, cj, rfl, HN.out⟩
set_option maxHeartbeats 4000000 in
theorem refputDeny_any (x : Wdn) (hx : x.Ok) (C : List Value) (hC : x.cells = C) (w : World) :
    Calls Tryd.prog 67 #[.agg C.toArray] w fun e w' => ∃ A c, e = .returned (.slice A (x.full).length c) ∧ NewB w w' A (x.full).length c (x.full) := by
  obtain ⟨wa, hwa⟩ : ∃ wa, wa = w.alloc (Obj.cells C.toArray 83) := ⟨_, rfl⟩
  have hf0 : Fr [] w wa := by rw [hwa]; exact (Fr.refl [] w).alloc _
  have hb0 : Blk wa w.heap.size 83 x.cells.toArray := by rw [hwa, hC]; exact Blk.new _ _ _
  have HALL : Hid (wa.rangeAt w.heap.size 0 C) := Lib.hid (by rw [← hC]; exact hb0.range)
  have HLN : Hid (C.length = 4) := Lib.hid (by rw [← hC]; exact rfl)
  have hat := Wdn.at_of (o := 0) hb0.range
  have HAT := Lib.hid hat
  have HX := Lib.hid hx
  have HRC := Lib.hid hC
  clear hb0 hx hC hat
  have HF0 := Lib.hid hf0
  have HWA := Lib.hid hwa
  clear hwa hf0
  go_enter Tryd.func67, Tryd.ntmps67
  go_wp2
  rw [← HWA.out]
  refine wp_region_held_drew (S := Fr [] wa) (by kernel_rfl) (Fr.drew (Fr.refl _ wa)) (fun hHeld => ?_)
  have HFD : Hid (Fr [] wa wa.drew) := Lib.hid (Fr.drew (Fr.refl [] wa))
  generalize wa.drew = wd at *
  refine run_at (i := 0) (v := ?_) rfl (by kernel_rfl) (by rfl) (fun _ _ _ h => h) hHeld (fun w1 hw1 => ?_) ?_
  rotate_left 1
  · skip
    go_simp
    (try (first | with_reducible rfl | (apply And.intro <;> rfl)))
  simp only [Act.put, List.setIfInBounds_toArray, List.set_cons_zero, List.set_cons_succ]
  refine run_at (i := 1) (v := ?_) rfl (by kernel_rfl) (by rfl) (fun _ _ _ h => h) hHeld (fun w1 hw1 => ?_) ?_
  rotate_left 1
  · skip
    have hcw0 := hw1.cell (HAT.out.r) (by first | (simp; done) | exact HNS.out | exact HNW.out | (intro hm; have hlt := HSB.out _ hm; (try dsimp only at hlt); omega))
    go_simp
    (try (first | with_reducible rfl | (apply And.intro <;> rfl)))
  simp only [Act.put, List.setIfInBounds_toArray, List.set_cons_zero, List.set_cons_succ]
  refine run_at (i := 3) (v := ?_) rfl (by kernel_rfl) (by rfl) (fun _ _ _ h => h) hHeld (fun w1 hw1 => ?_) ?_
  rotate_left 1
  · skip
    go_simp
    (try (first | with_reducible rfl | (apply And.intro <;> rfl)))
  simp only [Act.put, List.setIfInBounds_toArray, List.set_cons_zero, List.set_cons_succ]
  refine run_at (i := 4) (v := ?_) rfl (by kernel_rfl) (by rfl) (fun _ _ _ h => h) hHeld (fun w1 hw1 => ?_) ?_
  rotate_left 1
  · skip
    have hcw0 := hw1.cell (HAT.out.i) (by first | (simp; done) | exact HNS.out | exact HNW.out | (intro hm; have hlt := HSB.out _ hm; (try dsimp only at hlt); omega))
    go_simp
    (try (first | with_reducible rfl | (apply And.intro <;> rfl)))
  simp only [Act.put, List.setIfInBounds_toArray, List.set_cons_zero, List.set_cons_succ]
  refine run_at (i := 6) (v := ?_) rfl (by kernel_rfl) (by rfl) (fun _ _ _ h => h) hHeld (fun w1 hw1 => ?_) ?_
  rotate_left 1
  · skip
    go_simp
    (try (first | with_reducible rfl | (apply And.intro <;> rfl)))
  simp only [Act.put, List.setIfInBounds_toArray, List.set_cons_zero, List.set_cons_succ]
  refine row_at (i := 7) rfl (by kernel_rfl) (by rfl) _ _ rfl _ _ rfl _ (fun w1 hw1 => hw1.range (HAT.out.sig) (by first | (simp; done) | exact HNS.out | exact HNW.out | (intro hm; have hlt := HSB.out _ hm; (try dsimp only at hlt); omega))) (row_sig) (fun _ _ _ h => h) hHeld ?_
  simp only [Act.put, List.setIfInBounds_toArray, List.set_cons_zero, List.set_cons_succ]
  refine call_at (i := 2) (f := ?_) (args := ?_) rfl (by kernel_rfl) (by rfl) ?_ ?_
  rotate_left 2
  · go_simp
    (try (first | with_reducible rfl | (apply And.intro <;> rfl)))
  refine (refint_any x.r HX.out.r.2 wd).mono ?_
  rintro e w2 ⟨A2, c2, rfl, hN⟩
  obtain ⟨n2, hn2⟩ : ∃ nn_, nn_ = (encI x.r).length := ⟨_, rfl⟩
  obtain ⟨l2, hl2⟩ : ∃ ll_, ll_ = encI x.r := ⟨_, rfl⟩
  rw [← hn2] at hN ⊢
  rw [← hl2] at hN
  have HB2 : Hid (n2 ≤ 20000) := Lib.hid (by rw [hn2]; have := encI_len x.r HX.out.r.2; omega)
  have HL2 := Lib.hid hl2
  refine ⟨_, rfl, hHeld.go hN.2.1 (by simp), fun hHeld => ?_⟩
  simp only [Act.put, List.setIfInBounds_toArray, List.set_cons_zero, List.set_cons_succ]
  have HY2 := Lib.hid hN.by
  have HFD := Lib.hid (HFD.out.and hN.2.1 (by simp))
  clear hN hn2 hl2
  refine call_at (i := 5) (f := ?_) (args := ?_) rfl (by kernel_rfl) (by rfl) ?_ ?_
  rotate_left 2
  · go_simp
    (try (first | with_reducible rfl | (apply And.intro <;> rfl)))
  refine (refint_any x.i HX.out.i.2 w2).mono ?_
  rintro e w5 ⟨A5, c5, rfl, hN⟩
  obtain ⟨n5, hn5⟩ : ∃ nn_, nn_ = (encI x.i).length := ⟨_, rfl⟩
  obtain ⟨l5, hl5⟩ : ∃ ll_, ll_ = encI x.i := ⟨_, rfl⟩
  rw [← hn5] at hN ⊢
  rw [← hl5] at hN
  have HB5 : Hid (n5 ≤ 20000) := Lib.hid (by rw [hn5]; have := encI_len x.i HX.out.i.2; omega)
  have HL5 := Lib.hid hl5
  refine ⟨_, rfl, hHeld.go hN.2.1 (by simp), fun hHeld => ?_⟩
  simp only [Act.put, List.setIfInBounds_toArray, List.set_cons_zero, List.set_cons_succ]
  have HY5 := Lib.hid hN.by
  have HFD := Lib.hid (HFD.out.and hN.2.1 (by simp))
  have HY2 := Lib.hid (Fr.byk hN.2.1 HY2.out)
  clear hN hn5 hl5
  refine call_at (i := 8) (f := ?_) (args := ?_) rfl (by kernel_rfl) (by rfl) ?_ ?_
  rotate_left 2
  · go_simp
    (try (first | with_reducible rfl | (apply And.intro <;> rfl)))
  refine (refsig_any x.b x.m HX.out.b HX.out.m w5).mono ?_
  rintro e w8 ⟨A8, c8, rfl, hN⟩
  obtain ⟨n8, hn8⟩ : ∃ nn_, nn_ = (sgL x.b x.m).length := ⟨_, rfl⟩
  obtain ⟨l8, hl8⟩ : ∃ ll_, ll_ = sgL x.b x.m := ⟨_, rfl⟩
  rw [← hn8] at hN ⊢
  rw [← hl8] at hN
  have HB8 : Hid (n8 ≤ 20000) := Lib.hid (by rw [hn8]; have := encI_len x.b HX.out.b.2; have := encI_len x.m HX.out.m.2; simp only [sgL, List.length_append]; omega)
  have HL8 := Lib.hid hl8
  refine ⟨_, rfl, hHeld.go hN.2.1 (by simp), fun hHeld => ?_⟩
  simp only [Act.put, List.setIfInBounds_toArray, List.set_cons_zero, List.set_cons_succ]
  have HY8 := Lib.hid hN.by
  have HFD := Lib.hid (HFD.out.and hN.2.1 (by simp))
  have HY2 := Lib.hid (Fr.byk hN.2.1 HY2.out)
  have HY5 := Lib.hid (Fr.byk hN.2.1 HY5.out)
  clear hN hn8 hl8
  refine step_at (i := 9) rfl (by kernel_rfl) (by rfl) (fun K hK => ?_)
  refine wp_run (v := ?_) (w' := ?_) ?_ ?_
  rotate_left 2
  · go_simp
    (try (first | with_reducible rfl | (apply And.intro <;> rfl)))
  refine hK.out _ (w8.alloc (Obj.cells #[.slice A2 n2 c2, .slice A5 n5 c5, .slice A8 n8 c8] 23)) (hHeld.alloc _) (fun hHeld => ?_)
  clear hK K
  simp only [Act.put, List.setIfInBounds_toArray, List.set_cons_zero, List.set_cons_succ]
  have hfb : Fr [] w8 (w8.alloc (Obj.cells #[.slice A2 n2 c2, .slice A5 n5 c5, .slice A8 n8 c8] 23)) := (Fr.refl [] w8).alloc _
  have hbb : Blk (w8.alloc (Obj.cells #[.slice A2 n2 c2, .slice A5 n5 c5, .slice A8 n8 c8] 23)) w8.heap.size 23 (([⟨A2, n2, c2, l2⟩, ⟨A5, n5, c5, l5⟩, ⟨A8, n8, c8, l8⟩] : List RowV).map RowV.val).toArray := Blk.new _ _ _
  generalize w8.alloc (Obj.cells #[.slice A2 n2 c2, .slice A5 n5 c5, .slice A8 n8 c8] 23) = wj at *
  have HFD := Lib.hid (HFD.out.and hfb (by simp))
  have hj := join_big w8.heap.size 3 [⟨A2, n2, c2, l2⟩, ⟨A5, n5, c5, l5⟩, ⟨A8, n8, c8, l8⟩] wj hbb rfl (by omega) (by
    intro r hr
    simp only [List.mem_cons, List.not_mem_nil, or_false] at hr
    rcases hr with rfl | rfl | rfl
    · exact ⟨Fr.byk hfb HY2.out, HB2.out⟩
    · exact ⟨Fr.byk hfb HY5.out, HB5.out⟩
    · exact ⟨Fr.byk hfb HY8.out, HB8.out⟩)
  have hJ : joinL [⟨A2, n2, c2, l2⟩, ⟨A5, n5, c5, l5⟩, ⟨A8, n8, c8, l8⟩] = x.full := by
    simp only [joinL, List.map_cons, List.map_nil, List.flatten_cons, List.flatten_nil, HL2.out, HL5.out, HL8.out]
    simp [Wdn.full, Wdn.bare]
  rw [hJ] at hj
  obtain ⟨X, hX⟩ : ∃ X, X = x.full := ⟨_, rfl⟩
  rw [← hX] at hj
  have HXT := Lib.hid hX
  clear hX
  have HJ := Lib.hid hj
  clear hfb hbb hj hJ HY2 HL2 HY5 HL5 HY8 HL8
  refine call_at (i := 10) (f := ?_) (args := ?_) rfl (by kernel_rfl) (by rfl) ?_ ?_
  rotate_left 2
  · go_simp
    (try (first | with_reducible rfl | (apply And.intro <;> rfl)))
  refine HJ.out.mono ?_
  rintro e wk ⟨Aj, cj, rfl, hN⟩
  have HN := Lib.hid (hN.from2 (HF0.out.and HFD.out (by simp)))
  refine ⟨_, rfl, hHeld.go hN.2.1 (by simp), fun hHeld => ?_⟩
  clear hN
  simp only [Act.put, List.setIfInBounds_toArray, List.set_cons_zero, List.set_cons_succ]
  refine run_at (i := 11) (v := ?_) rfl (by kernel_rfl) (by rfl) (fun _ _ _ h => h) hHeld (fun w1 hw1 => ?_) ?_
  rotate_left 1
  · skip
    go_simp
    (try (first | with_reducible rfl | (apply And.intro <;> rfl)))
  simp only [Act.put, List.setIfInBounds_toArray, List.set_cons_zero, List.set_cons_succ]
  refine wpAnyH_done (by kernel_rfl) ?_ _
  go_wp2
  go_ret
  rw [← HXT.out]
  exact ⟨Aj, cj, rfl, HN.out⟩
set_option maxHeartbeats 4000000 in
theorem refputStamp_any (x : Wst) (hx : x.Ok) (C : List Value) (hC : x.cells = C) (w : World) :
    Calls Tryd.prog 74 #[.agg C.toArray] w fun e w' => ∃ A c, e = .returned (.slice A (x.full).length c) ∧ NewB w w' A (x.full).length c (x.full) := by
  obtain ⟨wa, hwa⟩ : ∃ wa, wa = w.alloc (Obj.cells C.toArray 79) := ⟨_, rfl⟩
  have hf0 : Fr [] w wa := by rw [hwa]; exact (Fr.refl [] w).alloc _
  have hb0 : Blk wa w.heap.size 79 x.cells.toArray := by rw [hwa, hC]; exact Blk.new _ _ _
  have HALL : Hid (wa.rangeAt w.heap.size 0 C) := Lib.hid (by rw [← hC]; exact hb0.range)
  have HLN : Hid (C.length = 38) := Lib.hid (by rw [← hC]; exact Wst.len hx.h)
  have hat := Wst.at_of (o := 0) hb0.range hx.h
  have HAT := Lib.hid hat
  have HX := Lib.hid hx
  have HRC := Lib.hid hC
  clear hb0 hx hC hat
  have HF0 := Lib.hid hf0
  have HWA := Lib.hid hwa
  clear hwa hf0
  go_enter Tryd.func74, Tryd.ntmps74
  go_wp2
  rw [← HWA.out]
  refine wp_region_held_drew (S := Fr [] wa) (by kernel_rfl) (Fr.drew (Fr.refl _ wa)) (fun hHeld => ?_)
  have HFD : Hid (Fr [] wa wa.drew) := Lib.hid (Fr.drew (Fr.refl [] wa))
  generalize wa.drew = wd at *
  refine row_at (i := 0) rfl (by kernel_rfl) (by rfl) _ _ rfl _ _ rfl _ (fun w1 hw1 => hw1.range (HALL.out) (by first | (simp; done) | exact HNS.out | exact HNW.out | (intro hm; have hlt := HSB.out _ hm; (try dsimp only at hlt); omega))) (row_stamp.of HLN.out) (fun _ _ _ h => h) hHeld ?_
  simp only [Act.put, List.setIfInBounds_toArray, List.set_cons_zero, List.set_cons_succ]
  refine run_at (i := 2) (v := ?_) rfl (by kernel_rfl) (by rfl) (fun _ _ _ h => h) hHeld (fun w1 hw1 => ?_) ?_
  rotate_left 1
  · skip
    go_simp
    (try (first | with_reducible rfl | (apply And.intro <;> rfl)))
  simp only [Act.put, List.setIfInBounds_toArray, List.set_cons_zero, List.set_cons_succ]
  refine row_at (i := 3) rfl (by kernel_rfl) (by rfl) _ _ rfl _ _ rfl _ (fun w1 hw1 => hw1.range (HAT.out.sig) (by first | (simp; done) | exact HNS.out | exact HNW.out | (intro hm; have hlt := HSB.out _ hm; (try dsimp only at hlt); omega))) (row_sig) (fun _ _ _ h => h) hHeld ?_
  simp only [Act.put, List.setIfInBounds_toArray, List.set_cons_zero, List.set_cons_succ]
  refine call_at (i := 1) (f := ?_) (args := ?_) rfl (by kernel_rfl) (by rfl) ?_ ?_
  rotate_left 2
  · go_simp
    (try (first | with_reducible rfl | (apply And.intro <;> rfl)))
  refine (refbare_any x HX.out C HRC.out wd).mono ?_
  rintro e w1 ⟨A1, c1, rfl, hN⟩
  obtain ⟨n1, hn1⟩ : ∃ nn_, nn_ = (x.bare).length := ⟨_, rfl⟩
  obtain ⟨l1, hl1⟩ : ∃ ll_, ll_ = x.bare := ⟨_, rfl⟩
  rw [← hn1] at hN ⊢
  rw [← hl1] at hN
  have HB1 : Hid (n1 ≤ 20000) := Lib.hid (by rw [hn1]; have := Wst.bare_len HX.out; omega)
  have HL1 := Lib.hid hl1
  refine ⟨_, rfl, hHeld.go hN.2.1 (by simp), fun hHeld => ?_⟩
  simp only [Act.put, List.setIfInBounds_toArray, List.set_cons_zero, List.set_cons_succ]
  have HY1 := Lib.hid hN.by
  have HFD := Lib.hid (HFD.out.and hN.2.1 (by simp))
  clear hN hn1 hl1
  refine call_at (i := 4) (f := ?_) (args := ?_) rfl (by kernel_rfl) (by rfl) ?_ ?_
  rotate_left 2
  · go_simp
    (try (first | with_reducible rfl | (apply And.intro <;> rfl)))
  refine (refsig_any x.b x.m HX.out.b HX.out.m w1).mono ?_
  rintro e w4 ⟨A4, c4, rfl, hN⟩
  obtain ⟨n4, hn4⟩ : ∃ nn_, nn_ = (sgL x.b x.m).length := ⟨_, rfl⟩
  obtain ⟨l4, hl4⟩ : ∃ ll_, ll_ = sgL x.b x.m := ⟨_, rfl⟩
  rw [← hn4] at hN ⊢
  rw [← hl4] at hN
  have HB4 : Hid (n4 ≤ 20000) := Lib.hid (by rw [hn4]; have := encI_len x.b HX.out.b.2; have := encI_len x.m HX.out.m.2; simp only [sgL, List.length_append]; omega)
  have HL4 := Lib.hid hl4
  refine ⟨_, rfl, hHeld.go hN.2.1 (by simp), fun hHeld => ?_⟩
  simp only [Act.put, List.setIfInBounds_toArray, List.set_cons_zero, List.set_cons_succ]
  have HY4 := Lib.hid hN.by
  have HFD := Lib.hid (HFD.out.and hN.2.1 (by simp))
  have HY1 := Lib.hid (Fr.byk hN.2.1 HY1.out)
  clear hN hn4 hl4
  refine step_at (i := 5) rfl (by kernel_rfl) (by rfl) (fun K hK => ?_)
  refine wp_run (v := ?_) (w' := ?_) ?_ ?_
  rotate_left 2
  · go_simp
    (try (first | with_reducible rfl | (apply And.intro <;> rfl)))
  refine hK.out _ (w4.alloc (Obj.cells #[.slice A1 n1 c1, .slice A4 n4 c4] 23)) (hHeld.alloc _) (fun hHeld => ?_)
  clear hK K
  simp only [Act.put, List.setIfInBounds_toArray, List.set_cons_zero, List.set_cons_succ]
  have hfb : Fr [] w4 (w4.alloc (Obj.cells #[.slice A1 n1 c1, .slice A4 n4 c4] 23)) := (Fr.refl [] w4).alloc _
  have hbb : Blk (w4.alloc (Obj.cells #[.slice A1 n1 c1, .slice A4 n4 c4] 23)) w4.heap.size 23 (([⟨A1, n1, c1, l1⟩, ⟨A4, n4, c4, l4⟩] : List RowV).map RowV.val).toArray := Blk.new _ _ _
  generalize w4.alloc (Obj.cells #[.slice A1 n1 c1, .slice A4 n4 c4] 23) = wj at *
  have HFD := Lib.hid (HFD.out.and hfb (by simp))
  have hj := join_big w4.heap.size 2 [⟨A1, n1, c1, l1⟩, ⟨A4, n4, c4, l4⟩] wj hbb rfl (by omega) (by
    intro r hr
    simp only [List.mem_cons, List.not_mem_nil, or_false] at hr
    rcases hr with rfl | rfl
    · exact ⟨Fr.byk hfb HY1.out, HB1.out⟩
    · exact ⟨Fr.byk hfb HY4.out, HB4.out⟩)
  have hJ : joinL [⟨A1, n1, c1, l1⟩, ⟨A4, n4, c4, l4⟩] = x.full := by
    simp only [joinL, List.map_cons, List.map_nil, List.flatten_cons, List.flatten_nil, HL1.out, HL4.out]
    simp [Wst.full]
  rw [hJ] at hj
  obtain ⟨X, hX⟩ : ∃ X, X = x.full := ⟨_, rfl⟩
  rw [← hX] at hj
  have HXT := Lib.hid hX
  clear hX
  have HJ := Lib.hid hj
  clear hfb hbb hj hJ HY1 HL1 HY4 HL4
  refine call_at (i := 6) (f := ?_) (args := ?_) rfl (by kernel_rfl) (by rfl) ?_ ?_
  rotate_left 2
  · go_simp
    (try (first | with_reducible rfl | (apply And.intro <;> rfl)))
  refine HJ.out.mono ?_
  rintro e wk ⟨Aj, cj, rfl, hN⟩
  have HN := Lib.hid (hN.from2 (HF0.out.and HFD.out (by simp)))
  refine ⟨_, rfl, hHeld.go hN.2.1 (by simp), fun hHeld => ?_⟩
  clear hN
  simp only [Act.put, List.setIfInBounds_toArray, List.set_cons_zero, List.set_cons_succ]
  refine run_at (i := 7) (v := ?_) rfl (by kernel_rfl) (by rfl) (fun _ _ _ h => h) hHeld (fun w1 hw1 => ?_) ?_
  rotate_left 1
  · skip
    go_simp
    (try (first | with_reducible rfl | (apply And.intro <;> rfl)))
  simp only [Act.put, List.setIfInBounds_toArray, List.set_cons_zero, List.set_cons_succ]
  refine wpAnyH_done (by kernel_rfl) ?_ _
  go_wp2
  go_ret
  rw [← HXT.out]
  exact ⟨Aj, cj, rfl, HN.out⟩
set_option maxHeartbeats 4000000 in
theorem refstampText_any (x : Wst) (hx : x.Ok) (C : List Value) (hC : x.cells = C) (w : World) :
    Calls Tryd.prog 37 #[.agg C.toArray] w fun e w' => ∃ A c, e = .returned (.slice A (x.text).length c) ∧ NewB w w' A (x.text).length c (x.text) := by
  obtain ⟨wa, hwa⟩ : ∃ wa, wa = w.alloc (Obj.cells C.toArray 79) := ⟨_, rfl⟩
  have hf0 : Fr [] w wa := by rw [hwa]; exact (Fr.refl [] w).alloc _
  have hb0 : Blk wa w.heap.size 79 x.cells.toArray := by rw [hwa, hC]; exact Blk.new _ _ _
  have HALL : Hid (wa.rangeAt w.heap.size 0 C) := Lib.hid (by rw [← hC]; exact hb0.range)
  have HLN : Hid (C.length = 38) := Lib.hid (by rw [← hC]; exact Wst.len hx.h)
  have HX := Lib.hid hx
  have HRC := Lib.hid hC
  clear hb0 hx hC
  have HF0 := Lib.hid hf0
  have HWA := Lib.hid hwa
  clear hwa hf0
  go_enter Tryd.func37, Tryd.ntmps37
  go_wp2
  rw [← HWA.out]
  refine wp_region_held_drew (S := Fr [] wa) (by kernel_rfl) (Fr.drew (Fr.refl _ wa)) (fun hHeld => ?_)
  have HFD : Hid (Fr [] wa wa.drew) := Lib.hid (Fr.drew (Fr.refl [] wa))
  generalize wa.drew = wd at *
  refine row_at (i := 3) rfl (by kernel_rfl) (by rfl) _ _ rfl _ _ rfl _ (fun w1 hw1 => hw1.range (HALL.out) (by first | (simp; done) | exact HNS.out | exact HNW.out | (intro hm; have hlt := HSB.out _ hm; (try dsimp only at hlt); omega))) (row_stamp.of HLN.out) (fun _ _ _ h => h) hHeld ?_
  simp only [Act.put, List.setIfInBounds_toArray, List.set_cons_zero, List.set_cons_succ]
  refine step_at (i := 0) rfl (by kernel_rfl) (by rfl) (fun K hK => ?_)
  refine wp_run (v := ?_) (w' := ?_) ?_ ?_
  rotate_left 2
  · go_simp
    (try (first | with_reducible rfl | (apply And.intro <;> rfl)))
  refine hK.out _ (wd.alloc (Obj.cells (wWst.map by8).toArray 5)) (hHeld.alloc _) (fun hHeld => ?_)
  clear hK K
  simp only [Act.put, List.setIfInBounds_toArray, List.set_cons_zero, List.set_cons_succ]
  have hconv := conv_const wd (wWst.map by8).toArray 5 5 wd.heap.size rfl
  have hyw : By (wd.alloc (Obj.cells (wWst.map by8).toArray 5 (5, 5 + 1))) (some ⟨wd.heap.size, 0, none⟩) 5 wWst := By.mark wd _ rfl _ _ _ wWst rfl
  have hfw : Fr [] wd (wd.alloc (Obj.cells (wWst.map by8).toArray 5 (5, 5 + 1))) := (Fr.refl [] wd).alloc _
  refine step_at (i := 1) rfl (by kernel_rfl) (by rfl) (fun K hK => ?_)
  refine wp_run (v := .slice (some ⟨wd.heap.size, 0, none⟩) 5 5) (w' := wd.alloc (Obj.cells (wWst.map by8).toArray 5 (5, 5 + 1))) ?_ ?_
  · have hrun := hconv
    go_simp
    (try (first | rfl | exact ⟨rfl, rfl⟩))
  refine hK.out _ _ ((HFD.out.and hfw (by simp)).mono (by simp)) (fun hHeld => ?_)
  clear hK K hconv
  simp only [Act.put, List.setIfInBounds_toArray, List.set_cons_zero, List.set_cons_succ]
  have HYW := Lib.hid hyw
  have HW1 := Lib.hid hfw
  have HFD := Lib.hid (HFD.out.and hfw (by simp))
  have HGW : Hid (wd.heap.size < (wd.alloc (Obj.cells (wWst.map by8).toArray 5 (5, 5 + 1))).heap.size) := Lib.hid (by show wd.heap.size < (wd.heap.push _).size; rw [Array.size_push]; omega)
  generalize wd.alloc (Obj.cells (wWst.map by8).toArray 5 (5, 5 + 1)) = wv at *
  clear hyw hfw
  refine call_at (i := 2) (f := ?_) (args := ?_) rfl (by kernel_rfl) (by rfl) ?_ ?_
  rotate_left 2
  · go_simp
    (try (first | with_reducible rfl | (apply And.intro <;> rfl)))
  refine (refrow_any (some ⟨wd.heap.size, 0, none⟩) 5 5 wWst wv HYW.out (fun k hk => by simp [bk] at hk; subst hk; exact HGW.out) (by omega)).mono ?_
  rintro e w2 ⟨A2, c2, rfl, hN⟩
  obtain ⟨n2, hn2⟩ : ∃ nn_, nn_ = (enc 5).length + 5 := ⟨_, rfl⟩
  obtain ⟨l2, hl2⟩ : ∃ ll_, ll_ = enc 5 ++ wWst := ⟨_, rfl⟩
  rw [← hn2] at hN ⊢
  rw [← hl2] at hN
  have HB2 : Hid (n2 ≤ 20000) := Lib.hid (by rw [hn2]; have := enc_ten (m := 5) (by omega); omega)
  have HL2 := Lib.hid hl2
  refine ⟨_, rfl, hHeld.go hN.2.1 (by simp), fun hHeld => ?_⟩
  simp only [Act.put, List.setIfInBounds_toArray, List.set_cons_zero, List.set_cons_succ]
  have HY2 := Lib.hid hN.by
  have HFD := Lib.hid (HFD.out.and hN.2.1 (by simp))
  clear hN hn2 hl2
  clear HYW HW1 HGW
  refine call_at (i := 4) (f := ?_) (args := ?_) rfl (by kernel_rfl) (by rfl) ?_ ?_
  rotate_left 2
  · go_simp
    (try (first | with_reducible rfl | (apply And.intro <;> rfl)))
  refine (refbare_any x HX.out C HRC.out w2).mono ?_
  rintro e w4 ⟨A4, c4, rfl, hN⟩
  obtain ⟨n4, hn4⟩ : ∃ nn_, nn_ = (x.bare).length := ⟨_, rfl⟩
  obtain ⟨l4, hl4⟩ : ∃ ll_, ll_ = x.bare := ⟨_, rfl⟩
  rw [← hn4] at hN ⊢
  rw [← hl4] at hN
  have HB4 : Hid (n4 ≤ 20000) := Lib.hid (by rw [hn4]; have := Wst.bare_len HX.out; omega)
  have HL4 := Lib.hid hl4
  refine ⟨_, rfl, hHeld.go hN.2.1 (by simp), fun hHeld => ?_⟩
  simp only [Act.put, List.setIfInBounds_toArray, List.set_cons_zero, List.set_cons_succ]
  have HY4 := Lib.hid hN.by
  have HFD := Lib.hid (HFD.out.and hN.2.1 (by simp))
  have HY2 := Lib.hid (Fr.byk hN.2.1 HY2.out)
  clear hN hn4 hl4
  refine step_at (i := 5) rfl (by kernel_rfl) (by rfl) (fun K hK => ?_)
  refine wp_run (v := ?_) (w' := ?_) ?_ ?_
  rotate_left 2
  · go_simp
    (try (first | with_reducible rfl | (apply And.intro <;> rfl)))
  refine hK.out _ (w4.alloc (Obj.cells #[.slice A2 n2 c2, .slice A4 n4 c4] 23)) (hHeld.alloc _) (fun hHeld => ?_)
  clear hK K
  simp only [Act.put, List.setIfInBounds_toArray, List.set_cons_zero, List.set_cons_succ]
  have hfb : Fr [] w4 (w4.alloc (Obj.cells #[.slice A2 n2 c2, .slice A4 n4 c4] 23)) := (Fr.refl [] w4).alloc _
  have hbb : Blk (w4.alloc (Obj.cells #[.slice A2 n2 c2, .slice A4 n4 c4] 23)) w4.heap.size 23 (([⟨A2, n2, c2, l2⟩, ⟨A4, n4, c4, l4⟩] : List RowV).map RowV.val).toArray := Blk.new _ _ _
  generalize w4.alloc (Obj.cells #[.slice A2 n2 c2, .slice A4 n4 c4] 23) = wj at *
  have HFD := Lib.hid (HFD.out.and hfb (by simp))
  have hj := join_big w4.heap.size 2 [⟨A2, n2, c2, l2⟩, ⟨A4, n4, c4, l4⟩] wj hbb rfl (by omega) (by
    intro r hr
    simp only [List.mem_cons, List.not_mem_nil, or_false] at hr
    rcases hr with rfl | rfl
    · exact ⟨Fr.byk hfb HY2.out, HB2.out⟩
    · exact ⟨Fr.byk hfb HY4.out, HB4.out⟩)
  have hJ : joinL [⟨A2, n2, c2, l2⟩, ⟨A4, n4, c4, l4⟩] = x.text := by
    simp only [joinL, List.map_cons, List.map_nil, List.flatten_cons, List.flatten_nil, HL2.out, HL4.out]
    simp [Wst.text, wWst]
  rw [hJ] at hj
  obtain ⟨X, hX⟩ : ∃ X, X = x.text := ⟨_, rfl⟩
  rw [← hX] at hj
  have HXT := Lib.hid hX
  clear hX
  have HJ := Lib.hid hj
  clear hfb hbb hj hJ HY2 HL2 HY4 HL4
  refine call_at (i := 6) (f := ?_) (args := ?_) rfl (by kernel_rfl) (by rfl) ?_ ?_
  rotate_left 2
  · go_simp
    (try (first | with_reducible rfl | (apply And.intro <;> rfl)))
  refine HJ.out.mono ?_
  rintro e wk ⟨Aj, cj, rfl, hN⟩
  have HN := Lib.hid (hN.from2 (HF0.out.and HFD.out (by simp)))
  refine ⟨_, rfl, hHeld.go hN.2.1 (by simp), fun hHeld => ?_⟩
  clear hN
  simp only [Act.put, List.setIfInBounds_toArray, List.set_cons_zero, List.set_cons_succ]
  refine run_at (i := 7) (v := ?_) rfl (by kernel_rfl) (by rfl) (fun _ _ _ h => h) hHeld (fun w1 hw1 => ?_) ?_
  rotate_left 1
  · skip
    go_simp
    (try (first | with_reducible rfl | (apply And.intro <;> rfl)))
  simp only [Act.put, List.setIfInBounds_toArray, List.set_cons_zero, List.set_cons_succ]
  refine wpAnyH_done (by kernel_rfl) ?_ _
  go_wp2
  go_ret
  rw [← HXT.out]
  exact ⟨Aj, cj, rfl, HN.out⟩
set_option maxHeartbeats 4000000 in
theorem refackText_any (x : Wst) (hx : x.Ok) (C : List Value) (hC : x.cells = C) (w : World) :
    Calls Tryd.prog 39 #[.agg C.toArray] w fun e w' => ∃ A c, e = .returned (.slice A (x.ack).length c) ∧ NewB w w' A (x.ack).length c (x.ack) := by
  obtain ⟨wa, hwa⟩ : ∃ wa, wa = w.alloc (Obj.cells C.toArray 81) := ⟨_, rfl⟩
  have hf0 : Fr [] w wa := by rw [hwa]; exact (Fr.refl [] w).alloc _
  have hb0 : Blk wa w.heap.size 81 x.cells.toArray := by rw [hwa, hC]; exact Blk.new _ _ _
  have HALL : Hid (wa.rangeAt w.heap.size 0 C) := Lib.hid (by rw [← hC]; exact hb0.range)
  have HLN : Hid (C.length = 38) := Lib.hid (by rw [← hC]; exact Wst.len hx.h)
  have HX := Lib.hid hx
  have HRC := Lib.hid hC
  clear hb0 hx hC
  have HF0 := Lib.hid hf0
  have HWA := Lib.hid hwa
  clear hwa hf0
  go_enter Tryd.func39, Tryd.ntmps39
  go_wp2
  rw [← HWA.out]
  refine wp_region_held_drew (S := Fr [] wa) (by kernel_rfl) (Fr.drew (Fr.refl _ wa)) (fun hHeld => ?_)
  have HFD : Hid (Fr [] wa wa.drew) := Lib.hid (Fr.drew (Fr.refl [] wa))
  generalize wa.drew = wd at *
  refine row_at (i := 3) rfl (by kernel_rfl) (by rfl) _ _ rfl _ _ rfl _ (fun w1 hw1 => hw1.range (HALL.out) (by first | (simp; done) | exact HNS.out | exact HNW.out | (intro hm; have hlt := HSB.out _ hm; (try dsimp only at hlt); omega))) (row_ack.of HLN.out) (fun _ _ _ h => h) hHeld ?_
  simp only [Act.put, List.setIfInBounds_toArray, List.set_cons_zero, List.set_cons_succ]
  refine step_at (i := 0) rfl (by kernel_rfl) (by rfl) (fun K hK => ?_)
  refine wp_run (v := ?_) (w' := ?_) ?_ ?_
  rotate_left 2
  · go_simp
    (try (first | with_reducible rfl | (apply And.intro <;> rfl)))
  refine hK.out _ (wd.alloc (Obj.cells (wAck.map by8).toArray 5)) (hHeld.alloc _) (fun hHeld => ?_)
  clear hK K
  simp only [Act.put, List.setIfInBounds_toArray, List.set_cons_zero, List.set_cons_succ]
  have hconv := conv_const wd (wAck.map by8).toArray 3 3 wd.heap.size rfl
  have hyw : By (wd.alloc (Obj.cells (wAck.map by8).toArray 5 (3, 3 + 1))) (some ⟨wd.heap.size, 0, none⟩) 3 wAck := By.mark wd _ rfl _ _ _ wAck rfl
  have hfw : Fr [] wd (wd.alloc (Obj.cells (wAck.map by8).toArray 5 (3, 3 + 1))) := (Fr.refl [] wd).alloc _
  refine step_at (i := 1) rfl (by kernel_rfl) (by rfl) (fun K hK => ?_)
  refine wp_run (v := .slice (some ⟨wd.heap.size, 0, none⟩) 3 3) (w' := wd.alloc (Obj.cells (wAck.map by8).toArray 5 (3, 3 + 1))) ?_ ?_
  · have hrun := hconv
    go_simp
    (try (first | rfl | exact ⟨rfl, rfl⟩))
  refine hK.out _ _ ((HFD.out.and hfw (by simp)).mono (by simp)) (fun hHeld => ?_)
  clear hK K hconv
  simp only [Act.put, List.setIfInBounds_toArray, List.set_cons_zero, List.set_cons_succ]
  have HYW := Lib.hid hyw
  have HW1 := Lib.hid hfw
  have HFD := Lib.hid (HFD.out.and hfw (by simp))
  have HGW : Hid (wd.heap.size < (wd.alloc (Obj.cells (wAck.map by8).toArray 5 (3, 3 + 1))).heap.size) := Lib.hid (by show wd.heap.size < (wd.heap.push _).size; rw [Array.size_push]; omega)
  generalize wd.alloc (Obj.cells (wAck.map by8).toArray 5 (3, 3 + 1)) = wv at *
  clear hyw hfw
  refine call_at (i := 2) (f := ?_) (args := ?_) rfl (by kernel_rfl) (by rfl) ?_ ?_
  rotate_left 2
  · go_simp
    (try (first | with_reducible rfl | (apply And.intro <;> rfl)))
  refine (refrow_any (some ⟨wd.heap.size, 0, none⟩) 3 3 wAck wv HYW.out (fun k hk => by simp [bk] at hk; subst hk; exact HGW.out) (by omega)).mono ?_
  rintro e w2 ⟨A2, c2, rfl, hN⟩
  obtain ⟨n2, hn2⟩ : ∃ nn_, nn_ = (enc 3).length + 3 := ⟨_, rfl⟩
  obtain ⟨l2, hl2⟩ : ∃ ll_, ll_ = enc 3 ++ wAck := ⟨_, rfl⟩
  rw [← hn2] at hN ⊢
  rw [← hl2] at hN
  have HB2 : Hid (n2 ≤ 20000) := Lib.hid (by rw [hn2]; have := enc_ten (m := 3) (by omega); omega)
  have HL2 := Lib.hid hl2
  refine ⟨_, rfl, hHeld.go hN.2.1 (by simp), fun hHeld => ?_⟩
  simp only [Act.put, List.setIfInBounds_toArray, List.set_cons_zero, List.set_cons_succ]
  have HY2 := Lib.hid hN.by
  have HFD := Lib.hid (HFD.out.and hN.2.1 (by simp))
  clear hN hn2 hl2
  clear HYW HW1 HGW
  refine call_at (i := 4) (f := ?_) (args := ?_) rfl (by kernel_rfl) (by rfl) ?_ ?_
  rotate_left 2
  · go_simp
    (try (first | with_reducible rfl | (apply And.intro <;> rfl)))
  refine (refbareAck_any x HX.out C HRC.out w2).mono ?_
  rintro e w4 ⟨A4, c4, rfl, hN⟩
  obtain ⟨n4, hn4⟩ : ∃ nn_, nn_ = (x.bare).length := ⟨_, rfl⟩
  obtain ⟨l4, hl4⟩ : ∃ ll_, ll_ = x.bare := ⟨_, rfl⟩
  rw [← hn4] at hN ⊢
  rw [← hl4] at hN
  have HB4 : Hid (n4 ≤ 20000) := Lib.hid (by rw [hn4]; have := Wst.bare_len HX.out; omega)
  have HL4 := Lib.hid hl4
  refine ⟨_, rfl, hHeld.go hN.2.1 (by simp), fun hHeld => ?_⟩
  simp only [Act.put, List.setIfInBounds_toArray, List.set_cons_zero, List.set_cons_succ]
  have HY4 := Lib.hid hN.by
  have HFD := Lib.hid (HFD.out.and hN.2.1 (by simp))
  have HY2 := Lib.hid (Fr.byk hN.2.1 HY2.out)
  clear hN hn4 hl4
  refine step_at (i := 5) rfl (by kernel_rfl) (by rfl) (fun K hK => ?_)
  refine wp_run (v := ?_) (w' := ?_) ?_ ?_
  rotate_left 2
  · go_simp
    (try (first | with_reducible rfl | (apply And.intro <;> rfl)))
  refine hK.out _ (w4.alloc (Obj.cells #[.slice A2 n2 c2, .slice A4 n4 c4] 23)) (hHeld.alloc _) (fun hHeld => ?_)
  clear hK K
  simp only [Act.put, List.setIfInBounds_toArray, List.set_cons_zero, List.set_cons_succ]
  have hfb : Fr [] w4 (w4.alloc (Obj.cells #[.slice A2 n2 c2, .slice A4 n4 c4] 23)) := (Fr.refl [] w4).alloc _
  have hbb : Blk (w4.alloc (Obj.cells #[.slice A2 n2 c2, .slice A4 n4 c4] 23)) w4.heap.size 23 (([⟨A2, n2, c2, l2⟩, ⟨A4, n4, c4, l4⟩] : List RowV).map RowV.val).toArray := Blk.new _ _ _
  generalize w4.alloc (Obj.cells #[.slice A2 n2 c2, .slice A4 n4 c4] 23) = wj at *
  have HFD := Lib.hid (HFD.out.and hfb (by simp))
  have hj := join_big w4.heap.size 2 [⟨A2, n2, c2, l2⟩, ⟨A4, n4, c4, l4⟩] wj hbb rfl (by omega) (by
    intro r hr
    simp only [List.mem_cons, List.not_mem_nil, or_false] at hr
    rcases hr with rfl | rfl
    · exact ⟨Fr.byk hfb HY2.out, HB2.out⟩
    · exact ⟨Fr.byk hfb HY4.out, HB4.out⟩)
  have hJ : joinL [⟨A2, n2, c2, l2⟩, ⟨A4, n4, c4, l4⟩] = x.ack := by
    simp only [joinL, List.map_cons, List.map_nil, List.flatten_cons, List.flatten_nil, HL2.out, HL4.out]
    simp [Wst.ack, wAck]
  rw [hJ] at hj
  obtain ⟨X, hX⟩ : ∃ X, X = x.ack := ⟨_, rfl⟩
  rw [← hX] at hj
  have HXT := Lib.hid hX
  clear hX
  have HJ := Lib.hid hj
  clear hfb hbb hj hJ HY2 HL2 HY4 HL4
  refine call_at (i := 6) (f := ?_) (args := ?_) rfl (by kernel_rfl) (by rfl) ?_ ?_
  rotate_left 2
  · go_simp
    (try (first | with_reducible rfl | (apply And.intro <;> rfl)))
  refine HJ.out.mono ?_
  rintro e wk ⟨Aj, cj, rfl, hN⟩
  have HN := Lib.hid (hN.from2 (HF0.out.and HFD.out (by simp)))
  refine ⟨_, rfl, hHeld.go hN.2.1 (by simp), fun hHeld => ?_⟩
  clear hN
  simp only [Act.put, List.setIfInBounds_toArray, List.set_cons_zero, List.set_cons_succ]
  refine run_at (i := 7) (v := ?_) rfl (by kernel_rfl) (by rfl) (fun _ _ _ h => h) hHeld (fun w1 hw1 => ?_) ?_
  rotate_left 1
  · skip
    go_simp
    (try (first | with_reducible rfl | (apply And.intro <;> rfl)))
  simp only [Act.put, List.setIfInBounds_toArray, List.set_cons_zero, List.set_cons_succ]
  refine wpAnyH_done (by kernel_rfl) ?_ _
  go_wp2
  go_ret
  rw [← HXT.out]
  exact ⟨Aj, cj, rfl, HN.out⟩
set_option maxHeartbeats 4000000 in
theorem refvoteText_any (x : Wvt) (hx : x.Ok) (C : List Value) (hC : x.cells = C) (w : World) :
    Calls Tryd.prog 47 #[.agg C.toArray] w fun e w' => ∃ A c, e = .returned (.slice A (x.text).length c) ∧ NewB w w' A (x.text).length c (x.text) := by
  obtain ⟨wa, hwa⟩ : ∃ wa, wa = w.alloc (Obj.cells C.toArray 87) := ⟨_, rfl⟩
  have hf0 : Fr [] w wa := by rw [hwa]; exact (Fr.refl [] w).alloc _
  have hb0 : Blk wa w.heap.size 87 x.cells.toArray := by rw [hwa, hC]; exact Blk.new _ _ _
  have HALL : Hid (wa.rangeAt w.heap.size 0 C) := Lib.hid (by rw [← hC]; exact hb0.range)
  have HLN : Hid (C.length = 38) := Lib.hid (by rw [← hC]; exact Wvt.len hx.h)
  have HX := Lib.hid hx
  have HRC := Lib.hid hC
  clear hb0 hx hC
  have HF0 := Lib.hid hf0
  have HWA := Lib.hid hwa
  clear hwa hf0
  go_enter Tryd.func47, Tryd.ntmps47
  go_wp2
  rw [← HWA.out]
  refine wp_region_held_drew (S := Fr [] wa) (by kernel_rfl) (Fr.drew (Fr.refl _ wa)) (fun hHeld => ?_)
  have HFD : Hid (Fr [] wa wa.drew) := Lib.hid (Fr.drew (Fr.refl [] wa))
  generalize wa.drew = wd at *
  refine row_at (i := 3) rfl (by kernel_rfl) (by rfl) _ _ rfl _ _ rfl _ (fun w1 hw1 => hw1.range (HALL.out) (by first | (simp; done) | exact HNS.out | exact HNW.out | (intro hm; have hlt := HSB.out _ hm; (try dsimp only at hlt); omega))) (row_vote.of HLN.out) (fun _ _ _ h => h) hHeld ?_
  simp only [Act.put, List.setIfInBounds_toArray, List.set_cons_zero, List.set_cons_succ]
  refine step_at (i := 0) rfl (by kernel_rfl) (by rfl) (fun K hK => ?_)
  refine wp_run (v := ?_) (w' := ?_) ?_ ?_
  rotate_left 2
  · go_simp
    (try (first | with_reducible rfl | (apply And.intro <;> rfl)))
  refine hK.out _ (wd.alloc (Obj.cells (wWvt.map by8).toArray 5)) (hHeld.alloc _) (fun hHeld => ?_)
  clear hK K
  simp only [Act.put, List.setIfInBounds_toArray, List.set_cons_zero, List.set_cons_succ]
  have hconv := conv_const wd (wWvt.map by8).toArray 4 4 wd.heap.size rfl
  have hyw : By (wd.alloc (Obj.cells (wWvt.map by8).toArray 5 (4, 4 + 1))) (some ⟨wd.heap.size, 0, none⟩) 4 wWvt := By.mark wd _ rfl _ _ _ wWvt rfl
  have hfw : Fr [] wd (wd.alloc (Obj.cells (wWvt.map by8).toArray 5 (4, 4 + 1))) := (Fr.refl [] wd).alloc _
  refine step_at (i := 1) rfl (by kernel_rfl) (by rfl) (fun K hK => ?_)
  refine wp_run (v := .slice (some ⟨wd.heap.size, 0, none⟩) 4 4) (w' := wd.alloc (Obj.cells (wWvt.map by8).toArray 5 (4, 4 + 1))) ?_ ?_
  · have hrun := hconv
    go_simp
    (try (first | rfl | exact ⟨rfl, rfl⟩))
  refine hK.out _ _ ((HFD.out.and hfw (by simp)).mono (by simp)) (fun hHeld => ?_)
  clear hK K hconv
  simp only [Act.put, List.setIfInBounds_toArray, List.set_cons_zero, List.set_cons_succ]
  have HYW := Lib.hid hyw
  have HW1 := Lib.hid hfw
  have HFD := Lib.hid (HFD.out.and hfw (by simp))
  have HGW : Hid (wd.heap.size < (wd.alloc (Obj.cells (wWvt.map by8).toArray 5 (4, 4 + 1))).heap.size) := Lib.hid (by show wd.heap.size < (wd.heap.push _).size; rw [Array.size_push]; omega)
  generalize wd.alloc (Obj.cells (wWvt.map by8).toArray 5 (4, 4 + 1)) = wv at *
  clear hyw hfw
  refine call_at (i := 2) (f := ?_) (args := ?_) rfl (by kernel_rfl) (by rfl) ?_ ?_
  rotate_left 2
  · go_simp
    (try (first | with_reducible rfl | (apply And.intro <;> rfl)))
  refine (refrow_any (some ⟨wd.heap.size, 0, none⟩) 4 4 wWvt wv HYW.out (fun k hk => by simp [bk] at hk; subst hk; exact HGW.out) (by omega)).mono ?_
  rintro e w2 ⟨A2, c2, rfl, hN⟩
  obtain ⟨n2, hn2⟩ : ∃ nn_, nn_ = (enc 4).length + 4 := ⟨_, rfl⟩
  obtain ⟨l2, hl2⟩ : ∃ ll_, ll_ = enc 4 ++ wWvt := ⟨_, rfl⟩
  rw [← hn2] at hN ⊢
  rw [← hl2] at hN
  have HB2 : Hid (n2 ≤ 20000) := Lib.hid (by rw [hn2]; have := enc_ten (m := 4) (by omega); omega)
  have HL2 := Lib.hid hl2
  refine ⟨_, rfl, hHeld.go hN.2.1 (by simp), fun hHeld => ?_⟩
  simp only [Act.put, List.setIfInBounds_toArray, List.set_cons_zero, List.set_cons_succ]
  have HY2 := Lib.hid hN.by
  have HFD := Lib.hid (HFD.out.and hN.2.1 (by simp))
  clear hN hn2 hl2
  clear HYW HW1 HGW
  refine call_at (i := 4) (f := ?_) (args := ?_) rfl (by kernel_rfl) (by rfl) ?_ ?_
  rotate_left 2
  · go_simp
    (try (first | with_reducible rfl | (apply And.intro <;> rfl)))
  refine (refbareVote_any x HX.out C HRC.out w2).mono ?_
  rintro e w4 ⟨A4, c4, rfl, hN⟩
  obtain ⟨n4, hn4⟩ : ∃ nn_, nn_ = (x.bare).length := ⟨_, rfl⟩
  obtain ⟨l4, hl4⟩ : ∃ ll_, ll_ = x.bare := ⟨_, rfl⟩
  rw [← hn4] at hN ⊢
  rw [← hl4] at hN
  have HB4 : Hid (n4 ≤ 20000) := Lib.hid (by rw [hn4]; have := Wvt.bare_len HX.out; omega)
  have HL4 := Lib.hid hl4
  refine ⟨_, rfl, hHeld.go hN.2.1 (by simp), fun hHeld => ?_⟩
  simp only [Act.put, List.setIfInBounds_toArray, List.set_cons_zero, List.set_cons_succ]
  have HY4 := Lib.hid hN.by
  have HFD := Lib.hid (HFD.out.and hN.2.1 (by simp))
  have HY2 := Lib.hid (Fr.byk hN.2.1 HY2.out)
  clear hN hn4 hl4
  refine step_at (i := 5) rfl (by kernel_rfl) (by rfl) (fun K hK => ?_)
  refine wp_run (v := ?_) (w' := ?_) ?_ ?_
  rotate_left 2
  · go_simp
    (try (first | with_reducible rfl | (apply And.intro <;> rfl)))
  refine hK.out _ (w4.alloc (Obj.cells #[.slice A2 n2 c2, .slice A4 n4 c4] 23)) (hHeld.alloc _) (fun hHeld => ?_)
  clear hK K
  simp only [Act.put, List.setIfInBounds_toArray, List.set_cons_zero, List.set_cons_succ]
  have hfb : Fr [] w4 (w4.alloc (Obj.cells #[.slice A2 n2 c2, .slice A4 n4 c4] 23)) := (Fr.refl [] w4).alloc _
  have hbb : Blk (w4.alloc (Obj.cells #[.slice A2 n2 c2, .slice A4 n4 c4] 23)) w4.heap.size 23 (([⟨A2, n2, c2, l2⟩, ⟨A4, n4, c4, l4⟩] : List RowV).map RowV.val).toArray := Blk.new _ _ _
  generalize w4.alloc (Obj.cells #[.slice A2 n2 c2, .slice A4 n4 c4] 23) = wj at *
  have HFD := Lib.hid (HFD.out.and hfb (by simp))
  have hj := join_big w4.heap.size 2 [⟨A2, n2, c2, l2⟩, ⟨A4, n4, c4, l4⟩] wj hbb rfl (by omega) (by
    intro r hr
    simp only [List.mem_cons, List.not_mem_nil, or_false] at hr
    rcases hr with rfl | rfl
    · exact ⟨Fr.byk hfb HY2.out, HB2.out⟩
    · exact ⟨Fr.byk hfb HY4.out, HB4.out⟩)
  have hJ : joinL [⟨A2, n2, c2, l2⟩, ⟨A4, n4, c4, l4⟩] = x.text := by
    simp only [joinL, List.map_cons, List.map_nil, List.flatten_cons, List.flatten_nil, HL2.out, HL4.out]
    simp [Wvt.text, wWvt]
  rw [hJ] at hj
  obtain ⟨X, hX⟩ : ∃ X, X = x.text := ⟨_, rfl⟩
  rw [← hX] at hj
  have HXT := Lib.hid hX
  clear hX
  have HJ := Lib.hid hj
  clear hfb hbb hj hJ HY2 HL2 HY4 HL4
  refine call_at (i := 6) (f := ?_) (args := ?_) rfl (by kernel_rfl) (by rfl) ?_ ?_
  rotate_left 2
  · go_simp
    (try (first | with_reducible rfl | (apply And.intro <;> rfl)))
  refine HJ.out.mono ?_
  rintro e wk ⟨Aj, cj, rfl, hN⟩
  have HN := Lib.hid (hN.from2 (HF0.out.and HFD.out (by simp)))
  refine ⟨_, rfl, hHeld.go hN.2.1 (by simp), fun hHeld => ?_⟩
  clear hN
  simp only [Act.put, List.setIfInBounds_toArray, List.set_cons_zero, List.set_cons_succ]
  refine run_at (i := 7) (v := ?_) rfl (by kernel_rfl) (by rfl) (fun _ _ _ h => h) hHeld (fun w1 hw1 => ?_) ?_
  rotate_left 1
  · skip
    go_simp
    (try (first | with_reducible rfl | (apply And.intro <;> rfl)))
  simp only [Act.put, List.setIfInBounds_toArray, List.set_cons_zero, List.set_cons_succ]
  refine wpAnyH_done (by kernel_rfl) ?_ _
  go_wp2
  go_ret
  rw [← HXT.out]
  exact ⟨Aj, cj, rfl, HN.out⟩
set_option maxHeartbeats 4000000 in
theorem refdenyText_any (x : Wdn) (hx : x.Ok) (C : List Value) (hC : x.cells = C) (w : World) :
    Calls Tryd.prog 43 #[.agg C.toArray] w fun e w' => ∃ A c, e = .returned (.slice A (x.text).length c) ∧ NewB w w' A (x.text).length c (x.text) := by
  obtain ⟨wa, hwa⟩ : ∃ wa, wa = w.alloc (Obj.cells C.toArray 83) := ⟨_, rfl⟩
  have hf0 : Fr [] w wa := by rw [hwa]; exact (Fr.refl [] w).alloc _
  have hb0 : Blk wa w.heap.size 83 x.cells.toArray := by rw [hwa, hC]; exact Blk.new _ _ _
  have HALL : Hid (wa.rangeAt w.heap.size 0 C) := Lib.hid (by rw [← hC]; exact hb0.range)
  have HLN : Hid (C.length = 4) := Lib.hid (by rw [← hC]; exact rfl)
  have hat := Wdn.at_of (o := 0) hb0.range
  have HAT := Lib.hid hat
  have HX := Lib.hid hx
  have HRC := Lib.hid hC
  clear hb0 hx hC hat
  have HF0 := Lib.hid hf0
  have HWA := Lib.hid hwa
  clear hwa hf0
  go_enter Tryd.func43, Tryd.ntmps43
  go_wp2
  rw [← HWA.out]
  refine wp_region_held_drew (S := Fr [] wa) (by kernel_rfl) (Fr.drew (Fr.refl _ wa)) (fun hHeld => ?_)
  have HFD : Hid (Fr [] wa wa.drew) := Lib.hid (Fr.drew (Fr.refl [] wa))
  generalize wa.drew = wd at *
  refine run_at (i := 3) (v := ?_) rfl (by kernel_rfl) (by rfl) (fun _ _ _ h => h) hHeld (fun w1 hw1 => ?_) ?_
  rotate_left 1
  · skip
    go_simp
    (try (first | with_reducible rfl | (apply And.intro <;> rfl)))
  simp only [Act.put, List.setIfInBounds_toArray, List.set_cons_zero, List.set_cons_succ]
  refine run_at (i := 4) (v := ?_) rfl (by kernel_rfl) (by rfl) (fun _ _ _ h => h) hHeld (fun w1 hw1 => ?_) ?_
  rotate_left 1
  · skip
    have hcw0 := hw1.cell (HAT.out.r) (by first | (simp; done) | exact HNS.out | exact HNW.out | (intro hm; have hlt := HSB.out _ hm; (try dsimp only at hlt); omega))
    go_simp
    (try (first | with_reducible rfl | (apply And.intro <;> rfl)))
  simp only [Act.put, List.setIfInBounds_toArray, List.set_cons_zero, List.set_cons_succ]
  refine run_at (i := 6) (v := ?_) rfl (by kernel_rfl) (by rfl) (fun _ _ _ h => h) hHeld (fun w1 hw1 => ?_) ?_
  rotate_left 1
  · skip
    go_simp
    (try (first | with_reducible rfl | (apply And.intro <;> rfl)))
  simp only [Act.put, List.setIfInBounds_toArray, List.set_cons_zero, List.set_cons_succ]
  refine run_at (i := 7) (v := ?_) rfl (by kernel_rfl) (by rfl) (fun _ _ _ h => h) hHeld (fun w1 hw1 => ?_) ?_
  rotate_left 1
  · skip
    have hcw0 := hw1.cell (HAT.out.i) (by first | (simp; done) | exact HNS.out | exact HNW.out | (intro hm; have hlt := HSB.out _ hm; (try dsimp only at hlt); omega))
    go_simp
    (try (first | with_reducible rfl | (apply And.intro <;> rfl)))
  simp only [Act.put, List.setIfInBounds_toArray, List.set_cons_zero, List.set_cons_succ]
  refine step_at (i := 0) rfl (by kernel_rfl) (by rfl) (fun K hK => ?_)
  refine wp_run (v := ?_) (w' := ?_) ?_ ?_
  rotate_left 2
  · go_simp
    (try (first | with_reducible rfl | (apply And.intro <;> rfl)))
  refine hK.out _ (wd.alloc (Obj.cells (wWdn.map by8).toArray 5)) (hHeld.alloc _) (fun hHeld => ?_)
  clear hK K
  simp only [Act.put, List.setIfInBounds_toArray, List.set_cons_zero, List.set_cons_succ]
  have hconv := conv_const wd (wWdn.map by8).toArray 4 4 wd.heap.size rfl
  have hyw : By (wd.alloc (Obj.cells (wWdn.map by8).toArray 5 (4, 4 + 1))) (some ⟨wd.heap.size, 0, none⟩) 4 wWdn := By.mark wd _ rfl _ _ _ wWdn rfl
  have hfw : Fr [] wd (wd.alloc (Obj.cells (wWdn.map by8).toArray 5 (4, 4 + 1))) := (Fr.refl [] wd).alloc _
  refine step_at (i := 1) rfl (by kernel_rfl) (by rfl) (fun K hK => ?_)
  refine wp_run (v := .slice (some ⟨wd.heap.size, 0, none⟩) 4 4) (w' := wd.alloc (Obj.cells (wWdn.map by8).toArray 5 (4, 4 + 1))) ?_ ?_
  · have hrun := hconv
    go_simp
    (try (first | rfl | exact ⟨rfl, rfl⟩))
  refine hK.out _ _ ((HFD.out.and hfw (by simp)).mono (by simp)) (fun hHeld => ?_)
  clear hK K hconv
  simp only [Act.put, List.setIfInBounds_toArray, List.set_cons_zero, List.set_cons_succ]
  have HYW := Lib.hid hyw
  have HW1 := Lib.hid hfw
  have HFD := Lib.hid (HFD.out.and hfw (by simp))
  have HGW : Hid (wd.heap.size < (wd.alloc (Obj.cells (wWdn.map by8).toArray 5 (4, 4 + 1))).heap.size) := Lib.hid (by show wd.heap.size < (wd.heap.push _).size; rw [Array.size_push]; omega)
  generalize wd.alloc (Obj.cells (wWdn.map by8).toArray 5 (4, 4 + 1)) = wv at *
  clear hyw hfw
  refine call_at (i := 2) (f := ?_) (args := ?_) rfl (by kernel_rfl) (by rfl) ?_ ?_
  rotate_left 2
  · go_simp
    (try (first | with_reducible rfl | (apply And.intro <;> rfl)))
  refine (refrow_any (some ⟨wd.heap.size, 0, none⟩) 4 4 wWdn wv HYW.out (fun k hk => by simp [bk] at hk; subst hk; exact HGW.out) (by omega)).mono ?_
  rintro e w2 ⟨A2, c2, rfl, hN⟩
  obtain ⟨n2, hn2⟩ : ∃ nn_, nn_ = (enc 4).length + 4 := ⟨_, rfl⟩
  obtain ⟨l2, hl2⟩ : ∃ ll_, ll_ = enc 4 ++ wWdn := ⟨_, rfl⟩
  rw [← hn2] at hN ⊢
  rw [← hl2] at hN
  have HB2 : Hid (n2 ≤ 20000) := Lib.hid (by rw [hn2]; have := enc_ten (m := 4) (by omega); omega)
  have HL2 := Lib.hid hl2
  refine ⟨_, rfl, hHeld.go hN.2.1 (by simp), fun hHeld => ?_⟩
  simp only [Act.put, List.setIfInBounds_toArray, List.set_cons_zero, List.set_cons_succ]
  have HY2 := Lib.hid hN.by
  have HFD := Lib.hid (HFD.out.and hN.2.1 (by simp))
  clear hN hn2 hl2
  clear HYW HW1 HGW
  refine call_at (i := 5) (f := ?_) (args := ?_) rfl (by kernel_rfl) (by rfl) ?_ ?_
  rotate_left 2
  · go_simp
    (try (first | with_reducible rfl | (apply And.intro <;> rfl)))
  refine (refint_any x.r HX.out.r.2 w2).mono ?_
  rintro e w5 ⟨A5, c5, rfl, hN⟩
  obtain ⟨n5, hn5⟩ : ∃ nn_, nn_ = (encI x.r).length := ⟨_, rfl⟩
  obtain ⟨l5, hl5⟩ : ∃ ll_, ll_ = encI x.r := ⟨_, rfl⟩
  rw [← hn5] at hN ⊢
  rw [← hl5] at hN
  have HB5 : Hid (n5 ≤ 20000) := Lib.hid (by rw [hn5]; have := encI_len x.r HX.out.r.2; omega)
  have HL5 := Lib.hid hl5
  refine ⟨_, rfl, hHeld.go hN.2.1 (by simp), fun hHeld => ?_⟩
  simp only [Act.put, List.setIfInBounds_toArray, List.set_cons_zero, List.set_cons_succ]
  have HY5 := Lib.hid hN.by
  have HFD := Lib.hid (HFD.out.and hN.2.1 (by simp))
  have HY2 := Lib.hid (Fr.byk hN.2.1 HY2.out)
  clear hN hn5 hl5
  refine call_at (i := 8) (f := ?_) (args := ?_) rfl (by kernel_rfl) (by rfl) ?_ ?_
  rotate_left 2
  · go_simp
    (try (first | with_reducible rfl | (apply And.intro <;> rfl)))
  refine (refint_any x.i HX.out.i.2 w5).mono ?_
  rintro e w8 ⟨A8, c8, rfl, hN⟩
  obtain ⟨n8, hn8⟩ : ∃ nn_, nn_ = (encI x.i).length := ⟨_, rfl⟩
  obtain ⟨l8, hl8⟩ : ∃ ll_, ll_ = encI x.i := ⟨_, rfl⟩
  rw [← hn8] at hN ⊢
  rw [← hl8] at hN
  have HB8 : Hid (n8 ≤ 20000) := Lib.hid (by rw [hn8]; have := encI_len x.i HX.out.i.2; omega)
  have HL8 := Lib.hid hl8
  refine ⟨_, rfl, hHeld.go hN.2.1 (by simp), fun hHeld => ?_⟩
  simp only [Act.put, List.setIfInBounds_toArray, List.set_cons_zero, List.set_cons_succ]
  have HY8 := Lib.hid hN.by
  have HFD := Lib.hid (HFD.out.and hN.2.1 (by simp))
  have HY2 := Lib.hid (Fr.byk hN.2.1 HY2.out)
  have HY5 := Lib.hid (Fr.byk hN.2.1 HY5.out)
  clear hN hn8 hl8
  refine step_at (i := 9) rfl (by kernel_rfl) (by rfl) (fun K hK => ?_)
  refine wp_run (v := ?_) (w' := ?_) ?_ ?_
  rotate_left 2
  · go_simp
    (try (first | with_reducible rfl | (apply And.intro <;> rfl)))
  refine hK.out _ (w8.alloc (Obj.cells #[.slice A2 n2 c2, .slice A5 n5 c5, .slice A8 n8 c8] 23)) (hHeld.alloc _) (fun hHeld => ?_)
  clear hK K
  simp only [Act.put, List.setIfInBounds_toArray, List.set_cons_zero, List.set_cons_succ]
  have hfb : Fr [] w8 (w8.alloc (Obj.cells #[.slice A2 n2 c2, .slice A5 n5 c5, .slice A8 n8 c8] 23)) := (Fr.refl [] w8).alloc _
  have hbb : Blk (w8.alloc (Obj.cells #[.slice A2 n2 c2, .slice A5 n5 c5, .slice A8 n8 c8] 23)) w8.heap.size 23 (([⟨A2, n2, c2, l2⟩, ⟨A5, n5, c5, l5⟩, ⟨A8, n8, c8, l8⟩] : List RowV).map RowV.val).toArray := Blk.new _ _ _
  generalize w8.alloc (Obj.cells #[.slice A2 n2 c2, .slice A5 n5 c5, .slice A8 n8 c8] 23) = wj at *
  have HFD := Lib.hid (HFD.out.and hfb (by simp))
  have hj := join_big w8.heap.size 3 [⟨A2, n2, c2, l2⟩, ⟨A5, n5, c5, l5⟩, ⟨A8, n8, c8, l8⟩] wj hbb rfl (by omega) (by
    intro r hr
    simp only [List.mem_cons, List.not_mem_nil, or_false] at hr
    rcases hr with rfl | rfl | rfl
    · exact ⟨Fr.byk hfb HY2.out, HB2.out⟩
    · exact ⟨Fr.byk hfb HY5.out, HB5.out⟩
    · exact ⟨Fr.byk hfb HY8.out, HB8.out⟩)
  have hJ : joinL [⟨A2, n2, c2, l2⟩, ⟨A5, n5, c5, l5⟩, ⟨A8, n8, c8, l8⟩] = x.text := by
    simp only [joinL, List.map_cons, List.map_nil, List.flatten_cons, List.flatten_nil, HL2.out, HL5.out, HL8.out]
    simp [Wdn.text, Wdn.bare, wWdn]
  rw [hJ] at hj
  obtain ⟨X, hX⟩ : ∃ X, X = x.text := ⟨_, rfl⟩
  rw [← hX] at hj
  have HXT := Lib.hid hX
  clear hX
  have HJ := Lib.hid hj
  clear hfb hbb hj hJ HY2 HL2 HY5 HL5 HY8 HL8
  refine call_at (i := 10) (f := ?_) (args := ?_) rfl (by kernel_rfl) (by rfl) ?_ ?_
  rotate_left 2
  · go_simp
    (try (first | with_reducible rfl | (apply And.intro <;> rfl)))
  refine HJ.out.mono ?_
  rintro e wk ⟨Aj, cj, rfl, hN⟩
  have HN := Lib.hid (hN.from2 (HF0.out.and HFD.out (by simp)))
  refine ⟨_, rfl, hHeld.go hN.2.1 (by simp), fun hHeld => ?_⟩
  clear hN
  simp only [Act.put, List.setIfInBounds_toArray, List.set_cons_zero, List.set_cons_succ]
  refine run_at (i := 11) (v := ?_) rfl (by kernel_rfl) (by rfl) (fun _ _ _ h => h) hHeld (fun w1 hw1 => ?_) ?_
  rotate_left 1
  · skip
    go_simp
    (try (first | with_reducible rfl | (apply And.intro <;> rfl)))
  simp only [Act.put, List.setIfInBounds_toArray, List.set_cons_zero, List.set_cons_succ]
  refine wpAnyH_done (by kernel_rfl) ?_ _
  go_wp2
  go_ret
  rw [← HXT.out]
  exact ⟨Aj, cj, rfl, HN.out⟩
end Go.Proofs.YtdgbcdmooklciaaDoor

namespace Go.Proofs.YtdgbcdmooklciaaDoor
open Go.RowKit
set_option maxRecDepth 100000
/-- a batch: its epoch, its time, where its promises, openings, tombstones lie -/
structure Wba where
  e : Int
  t : Nat
  A : Option Addr
  n : Nat
  d : Nat
  l : List Wpr
  A2 : Option Addr
  n2 : Nat
  d2 : Nat
  l2 : List Wop
  A3 : Option Addr
  n3 : Nat
  d3 : Nat
  l3 : List Wtb
def Wba.cells (x : Wba) : List Value := [.int .i64 x.e, .int .u64 (x.t : Int), .slice x.A x.n x.d, .slice x.A2 x.n2 x.d2, .slice x.A3 x.n3 x.d3]
def Wba.val (x : Wba) : Value := .agg x.cells.toArray
structure Wba.Ok (w : World) (S : List Nat) (x : Wba) : Prop where
  e : i64In x.e
  t : x.t < 18446744073709551616
  l : Lst 6 Wpr.cells (fun w v => v.Ok w S) w x.A x.n x.l
  n : x.n ≤ 4
  ap : 0 < x.n → ∀ a, x.A = some a → ¬ a.block ∈ S
  l2 : Lst 34 Wop.cells (fun w v => v.Ok w S) w x.A2 x.n2 x.l2
  n2 : x.n2 ≤ 4
  ap2 : 0 < x.n2 → ∀ a, x.A2 = some a → ¬ a.block ∈ S
  l3 : Lst 2 Wtb.cells (fun w v => v.Ok w S) w x.A3 x.n3 x.l3
  n3 : x.n3 ≤ 4
  ap3 : 0 < x.n3 → ∀ a, x.A3 = some a → ¬ a.block ∈ S
theorem Wba.one (x : Wba) : ∀ v ∈ x.cells, v.oneCell' = true := by
  intro v hv
  simp only [Wba.cells, List.mem_cons, List.not_mem_nil, or_false] at hv
  rcases hv with rfl | rfl | rfl | rfl | rfl <;> rfl
theorem Wba.len (x : Wba) : x.cells.length = 5 := rfl
theorem Wba.Ok.keep {w W : World} {S S' : List Nat} {x : Wba} (h : x.Ok w S) (hf : Fr S w W) (hs : ∀ k ∈ S', k < w.heap.size → k ∈ S) : x.Ok W S' :=
  ⟨h.e, h.t, h.l.keep' hf h.ap (fun _ _ h => h.keep hf hs), h.n, fun hn a ha hin => h.ap hn a ha (hs _ hin (h.l.lt hn (by decide) (fun _ _ => rfl) a ha)),
    h.l2.keep' hf h.ap2 (fun _ _ h => h.keep hf hs), h.n2, fun hn a ha hin => h.ap2 hn a ha (hs _ hin (h.l2.lt hn (by decide) (fun v hv => Wop.len (h.l2.2.1 v hv).2.h) a ha)),
    h.l3.keep' hf h.ap3 (fun _ _ h => h.keep hf hs), h.n3, fun hn a ha hin => h.ap3 hn a ha (hs _ hin (h.l3.lt hn (by decide) (fun _ _ => rfl) a ha))⟩
def Wba.full (x : Wba) : List UInt8 := encI x.e ++ enc x.t ++ listL Wpr.full x.l ++ listL Wop.full x.l2 ++ listL Wtb.full x.l3
theorem Wba.l_len {w : World} {S : List Nat} {x : Wba} (hx : x.Ok w S) : (listL Wpr.full x.l).length ≤ 9300 := by
  have b1 := encI_len (x.l.length : Int) (by have := hx.n; have := hx.l.1; omega)
  have b2 : (x.l.flatMap Wpr.full).length ≤ 4 * 2300 := flat_len (fun v hv => Wpr.full_len (hx.l.2.1 v hv).2) (by have := hx.n; have := hx.l.1; omega)
  simp only [listL, List.length_append]
  omega
theorem Wba.l2_len {w : World} {S : List Nat} {x : Wba} (hx : x.Ok w S) : (listL Wop.full x.l2).length ≤ 1300 := by
  have b1 := encI_len (x.l2.length : Int) (by have := hx.n2; have := hx.l2.1; omega)
  have b2 : (x.l2.flatMap Wop.full).length ≤ 4 * 320 := flat_len (fun v hv => Wop.full_len (hx.l2.2.1 v hv).2) (by have := hx.n2; have := hx.l2.1; omega)
  simp only [listL, List.length_append]
  omega
theorem Wba.l3_len {w : World} {S : List Nat} {x : Wba} (hx : x.Ok w S) : (listL Wtb.full x.l3).length ≤ 2200 := by
  have b1 := encI_len (x.l3.length : Int) (by have := hx.n3; have := hx.l3.1; omega)
  have b2 : (x.l3.flatMap Wtb.full).length ≤ 4 * 520 := flat_len (fun v hv => Wtb.full_len (hx.l3.2.1 v hv).2) (by have := hx.n3; have := hx.l3.1; omega)
  simp only [listL, List.length_append]
  omega
theorem Wba.full_len {w : World} {S : List Nat} {x : Wba} (hx : x.Ok w S) : x.full.length ≤ 13000 := by
  have b0 := encI_len x.e hx.e.2
  have b1 := enc_ten hx.t
  have b2 := Wba.l_len hx
  have b3 := Wba.l2_len hx
  have b4 := Wba.l3_len hx
  simp only [Wba.full, List.length_append]
  omega
set_option maxHeartbeats 1000000 in
theorem putBatch_any (x : Wba) (w : World) (S : List Nat) (g : Nat) (l : List UInt8) (hw : Wr w S g l) (hl : l.length + 60000 ≤ 1073741000) (hx : x.Ok w S) :
    Calls Tryd.prog 62 #[.pointer (some ⟨g, 0, none⟩), x.val] w fun e w' => e = .returned (.pointer (some ⟨g, 0, none⟩)) ∧ Gr w S g (l ++ x.full) w' := by
  obtain ⟨wa, hwa⟩ : ∃ wa, wa = w.alloc (Obj.cells x.cells.toArray 39) := ⟨_, rfl⟩
  have hf0 : Fr [] w wa := by rw [hwa]; exact (Fr.refl [] w).alloc _
  have hb0 : Blk wa w.heap.size 39 x.cells.toArray := by rw [hwa]; exact Blk.new _ _ _
  have HNS : Hid (¬ w.heap.size ∈ S) := Lib.hid (fun h => by have := hw.lt _ h; omega)
  have HG0 := Lib.hid (Gr.begin hw hf0)
  have HC0 : Hid (wa.cell? ⟨w.heap.size, 0 + 0, none⟩ = some (.int .i64 x.e)) := Lib.hid (hb0.range (cs := x.cells) 0 _ rfl)
  have HC1 : Hid (wa.cell? ⟨w.heap.size, 0 + 1, none⟩ = some (.int .u64 (x.t : Int))) := Lib.hid (hb0.range (cs := x.cells) 1 _ rfl)
  have HC2 : Hid (wa.cell? ⟨w.heap.size, 0 + 2, none⟩ = some (.slice x.A x.n x.d)) := Lib.hid (hb0.range (cs := x.cells) 2 _ rfl)
  have HC3 : Hid (wa.cell? ⟨w.heap.size, 0 + 3, none⟩ = some (.slice x.A2 x.n2 x.d2)) := Lib.hid (hb0.range (cs := x.cells) 3 _ rfl)
  have HC4 : Hid (wa.cell? ⟨w.heap.size, 0 + 4, none⟩ = some (.slice x.A3 x.n3 x.d3)) := Lib.hid (hb0.range (cs := x.cells) 4 _ rfl)
  have HXA : Hid (x.Ok wa S) := Lib.hid (hx.keep (hf0.mono (T := S) (by simp)) (fun k hk _ => hk))
  have HF0 := Lib.hid hf0
  have HWA := Lib.hid hwa
  have HL := Lib.hid hl
  have HX := Lib.hid hx
  clear hwa hf0 hb0 hl hw hx
  unfold Wba.val
  generalize hC : x.cells = C at *
  have HRC := Lib.hid hC
  clear hC
  go_enter Tryd.func62, Tryd.ntmps62
  go_wp2
  rw [← HWA.out]
  refine wp_region_held_drew (S := Fr S wa) (by kernel_rfl) (Fr.drew (Fr.refl _ wa)) (fun hHeld => ?_)
  refine run_at (i := 0) (v := ?_) rfl (by kernel_rfl) (by rfl) (fun _ _ _ h => h) hHeld (fun w1 hw1 => ?_) ?_
  rotate_left 1
  · skip
    go_simp
    (try (first | with_reducible rfl | (apply And.intro <;> rfl)))
  simp only [Act.put, List.setIfInBounds_toArray, List.set_cons_zero, List.set_cons_succ]
  refine run_at (i := 1) (v := ?_) rfl (by kernel_rfl) (by rfl) (fun _ _ _ h => h) hHeld (fun w1 hw1 => ?_) ?_
  rotate_left 1
  · skip
    go_simp
    (try (first | with_reducible rfl | (apply And.intro <;> rfl)))
  simp only [Act.put, List.setIfInBounds_toArray, List.set_cons_zero, List.set_cons_succ]
  refine run_at (i := 2) (v := ?_) rfl (by kernel_rfl) (by rfl) (fun _ _ _ h => h) hHeld (fun w1 hw1 => ?_) ?_
  rotate_left 1
  · skip
    have hcw0 := hw1.cell (HC0.out) (by first | (simp; done) | exact HNS.out | exact HNW.out | (intro hm; have hlt := HSB.out _ hm; (try dsimp only at hlt); omega))
    go_simp
    (try (first | with_reducible rfl | (apply And.intro <;> rfl)))
  simp only [Act.put, List.setIfInBounds_toArray, List.set_cons_zero, List.set_cons_succ]
  refine run_at (i := 4) (v := ?_) rfl (by kernel_rfl) (by rfl) (fun _ _ _ h => h) hHeld (fun w1 hw1 => ?_) ?_
  rotate_left 1
  · skip
    go_simp
    (try (first | with_reducible rfl | (apply And.intro <;> rfl)))
  simp only [Act.put, List.setIfInBounds_toArray, List.set_cons_zero, List.set_cons_succ]
  refine run_at (i := 5) (v := ?_) rfl (by kernel_rfl) (by rfl) (fun _ _ _ h => h) hHeld (fun w1 hw1 => ?_) ?_
  rotate_left 1
  · skip
    have hcw0 := hw1.cell (HC1.out) (by first | (simp; done) | exact HNS.out | exact HNW.out | (intro hm; have hlt := HSB.out _ hm; (try dsimp only at hlt); omega))
    go_simp
    (try (first | with_reducible rfl | (apply And.intro <;> rfl)))
  simp only [Act.put, List.setIfInBounds_toArray, List.set_cons_zero, List.set_cons_succ]
  refine call_at (i := 3) (f := ?_) (args := ?_) rfl (by kernel_rfl) (by rfl) ?_ ?_
  rotate_left 2
  · go_simp
    (try (first | with_reducible rfl | (apply And.intro <;> rfl)))
  refine (HG0.out.call fun S1 k1 => int_any x.e HX.out.e.1 HX.out.e.2 _ S1 g _ k1 (by have h0 := HL.out; (try simp only [List.length_append, sgL, nmL] at *); omega)).mono ?_
  rintro e w1 ⟨rfl, hg1⟩
  have HG1 := Lib.hid hg1
  refine ⟨_, rfl, hg1.fr, fun hHeld => ?_⟩
  clear hg1 HG0
  simp only [Act.put, List.setIfInBounds_toArray, List.set_cons_zero, List.set_cons_succ]
  refine call_at (i := 6) (f := ?_) (args := ?_) rfl (by kernel_rfl) (by rfl) ?_ ?_
  rotate_left 2
  · go_simp
    (try (first | with_reducible rfl | (apply And.intro <;> rfl)))
  refine (HG1.out.call fun S1 k1 => num_any x.t HX.out.t _ S1 g _ k1 (by have h0 := HL.out; have b0 := encI_len x.e HX.out.e.2; (try simp only [List.length_append, sgL, nmL] at *); omega)).mono ?_
  rintro e w2 ⟨rfl, hg2⟩
  have HG2 := Lib.hid hg2
  refine ⟨_, rfl, hg2.fr, fun hHeld => ?_⟩
  clear hg2 HG1
  simp only [Act.put, List.setIfInBounds_toArray, List.set_cons_zero, List.set_cons_succ]
  refine wpAnyH_done (by kernel_rfl) ?_ _
  have hc2 : w2.cell? ⟨w.heap.size, 2, none⟩ = some (.slice x.A x.n x.d) := HG2.out.fr.cell HC2.out HNS.out
  go_wp2_with fail
  refine (HG2.out.calls fun S1 k1 f1 s1 => putPromises_any Wpr.cells (fun w S v => v.Ok w S) Wpr.full 6200 Wpr.one rfl (fun _ _ v h => Nat.le_trans (Wpr.full_len h) (by decide)) (fun v W S g l h hw hl => putPromise_any v W S g l hw hl h) _ S1 g _ k1 x.A x.n x.d x.l (HXA.out.keep f1 s1).l (by have := HX.out.n; omega) (HXA.out.keep f1 s1).ap (fun _ _ hf hs _ _ h => h.keep hf hs) (by have h0 := HL.out; have b0 := encI_len x.e HX.out.e.2; have b1 := enc_ten HX.out.t; have b2 := Wba.l_len HX.out; have b3 := Wba.l2_len HX.out; have := HX.out.n; simp only [List.length_append]; omega)).mono ?_
  rintro e w3 ⟨rfl, hg3⟩
  have HG3 := Lib.hid hg3
  clear hg3 HG2 hc2
  have hc3 : w3.cell? ⟨w.heap.size, 3, none⟩ = some (.slice x.A2 x.n2 x.d2) := HG3.out.fr.cell HC3.out HNS.out
  go_wp2_with fail
  refine (HG3.out.calls fun S1 k1 f1 s1 => putOpenings_any Wop.cells (fun w S v => v.Ok w S) Wop.full 500 Wop.one rfl (fun _ _ v h => Nat.le_trans (Wop.full_len h) (by decide)) (fun v W S g l h hw hl => putOpening_any v W S g l hw hl h) _ S1 g _ k1 x.A2 x.n2 x.d2 x.l2 (HXA.out.keep f1 s1).l2 (by have := HX.out.n2; omega) (HXA.out.keep f1 s1).ap2 (fun _ _ hf hs _ _ h => h.keep hf hs) (by have h0 := HL.out; have b0 := encI_len x.e HX.out.e.2; have b1 := enc_ten HX.out.t; have b2 := Wba.l_len HX.out; have b3 := Wba.l2_len HX.out; have := HX.out.n2; simp only [List.length_append]; omega)).mono ?_
  rintro e w4 ⟨rfl, hg4⟩
  have HG4 := Lib.hid hg4
  clear hg4 HG3 hc3
  have hc4 : w4.cell? ⟨w.heap.size, 4, none⟩ = some (.slice x.A3 x.n3 x.d3) := HG4.out.fr.cell HC4.out HNS.out
  go_wp2_with fail
  refine (HG4.out.calls fun S1 k1 f1 s1 => putTombs_any Wtb.cells (fun w S v => v.Ok w S) Wtb.full 1500 Wtb.one rfl (fun _ _ v h => Nat.le_trans (Wtb.full_len h) (by decide)) (fun v W S g l h hw hl => putTomb_any v W S g l hw hl h) _ S1 g _ k1 x.A3 x.n3 x.d3 x.l3 (HXA.out.keep f1 s1).l3 (by have := HX.out.n3; omega) (HXA.out.keep f1 s1).ap3 (fun _ _ hf hs _ _ h => h.keep hf hs) (by have h0 := HL.out; have b0 := encI_len x.e HX.out.e.2; have b1 := enc_ten HX.out.t; have b2 := Wba.l_len HX.out; have b3 := Wba.l2_len HX.out; have := HX.out.n3; simp only [List.length_append]; omega)).mono ?_
  rintro e w5 ⟨rfl, hg5⟩
  have HG5 := Lib.hid hg5
  clear hg5 HG4 hc4
  go_wp2
  go_ret
  exact ⟨rfl, (HG5.out.from_ HF0.out).eq (by simp [Wba.full, List.append_assoc])⟩
theorem putBatch_any' (x : Wba) (C : List Value) (hC : x.cells = C) (w : World) (S : List Nat) (g : Nat) (l : List UInt8) (hw : Wr w S g l) (hl : l.length + 60000 ≤ 1073741000) (hx : x.Ok w S) :
    Calls Tryd.prog 62 #[.pointer (some ⟨g, 0, none⟩), .agg C.toArray] w fun e w' => e = .returned (.pointer (some ⟨g, 0, none⟩)) ∧ Gr w S g (l ++ x.full) w' := by
  subst hC
  exact putBatch_any x w S g l hw hl hx
end Go.Proofs.YtdgbcdmooklciaaDoor

namespace Go.Proofs.YtdgbcdmooklciaaDoor
open Go.RowKit
set_option maxRecDepth 100000
theorem NewWr.calls {P : Program} {f : FuncId} {args : Array Value} {w0 w : World} {g : Nat} {l l' : List UInt8} {v : Value} (h : NewWr w0 w g l)
    (hc : ∀ S, Wr w S g l → Fr [] w0 w → (∀ k ∈ S, w0.heap.size ≤ k) → Calls P f args w fun e w' => e = .returned v ∧ Gr w S g l' w') : Calls P f args w fun e w' => e = .returned v ∧ NewWr w0 w' g l' := by
  obtain ⟨S, k1, k2, k3⟩ := h
  refine (hc S k1 k2 k3).mono ?_
  rintro e w' ⟨rfl, hg⟩
  exact ⟨rfl, NewWr.add k2 k3 hg⟩
def wWpr : List UInt8 := [112, 114, 111, 109, 105, 115, 101]
def Wpr.text (x : Wpr) : List UInt8 := enc wWpr.length ++ wWpr ++ x.bare
theorem Wpr.text_len {w : World} {S : List Nat} {x : Wpr} (hx : x.Ok w S) : x.text.length ≤ 2300 := by
  have b0 := Wpr.bare_len hx
  have b1 := enc_ten (m := wWpr.length) (by decide)
  have b2 : wWpr.length = 7 := rfl
  simp only [Wpr.text, List.length_append]
  omega
set_option maxHeartbeats 1000000 in
theorem promiseText_any (x : Wpr) (w : World) (hx : x.Ok w []) :
    Calls Tryd.prog 40 #[x.val] w fun e w' => ∃ A c, e = .returned (.slice A x.text.length c) ∧ NewB w w' A x.text.length c x.text := by
  obtain ⟨wa, hwa⟩ : ∃ wa, wa = w.alloc (Obj.cells x.cells.toArray 62) := ⟨_, rfl⟩
  have hf0 : Fr [] w wa := by rw [hwa]; exact (Fr.refl [] w).alloc _
  have hb0 : Blk wa w.heap.size 62 x.cells.toArray := by rw [hwa]; exact Blk.new _ _ _
  have HALL := Lib.hid hb0.range
  have HLN : Hid (x.cells.length = 6) := Lib.hid (Wpr.len x)
  have HTL := Lib.hid (Wpr.text_len hx)
  have HF0 := Lib.hid hf0
  have HWA := Lib.hid hwa
  have HX := Lib.hid (hx.keep (S' := []) hf0 (by simp))
  clear hwa hf0 hb0 hx
  unfold Wpr.val
  generalize hC : x.cells = C at *
  have HRC := Lib.hid hC
  clear hC
  go_enter Tryd.func40, Tryd.ntmps40
  go_wp2
  rw [← HWA.out]
  refine wp_region_held_drew (S := Fr [] wa) (by kernel_rfl) (Fr.drew (Fr.refl _ wa)) (fun hHeld => ?_)
  refine row_at (i := 1) rfl (by kernel_rfl) (by rfl) _ _ rfl _ _ rfl _ (fun w1 hw1 => hw1.range (HALL.out) (by first | (simp; done) | exact HNS.out | exact HNW.out | (intro hm; have hlt := HSB.out _ hm; (try dsimp only at hlt); omega))) (row_prm.of HLN.out) (fun _ _ _ h => h) hHeld ?_
  simp only [Act.put, List.setIfInBounds_toArray, List.set_cons_zero, List.set_cons_succ]
  refine call_at (i := 0) (f := ?_) (args := ?_) rfl (by kernel_rfl) (by rfl) ?_ ?_
  rotate_left 2
  · go_simp
    (try (first | with_reducible rfl | (apply And.intro <;> rfl)))
  refine (wbegin_any wWpr (by decide) _).mono ?_
  rintro e w1 ⟨g, rfl, hw1⟩
  have HW := Lib.hid (hw1.from_ (Fr.drew (Fr.refl [] wa)))
  refine ⟨_, rfl, HW.out.fr, fun hHeld => ?_⟩
  clear hw1
  simp only [Act.put, List.setIfInBounds_toArray, List.set_cons_zero, List.set_cons_succ]
  refine call_at (i := 2) (f := ?_) (args := ?_) rfl (by kernel_rfl) (by rfl) ?_ ?_
  rotate_left 2
  · go_simp
    (try (first | with_reducible rfl | (apply And.intro <;> rfl)))
  refine (HW.out.calls fun S1 k1 f1 s1 => promiseFields_any' x C HRC.out _ S1 g _ k1 (by have b1 := enc_ten (m := wWpr.length) (by decide); have b2 : wWpr.length = 7 := rfl; simp only [List.length_append]; omega) (HX.out.keep f1 (fun k hk hl => absurd (s1 k hk) (by omega)))).mono ?_
  rintro e w2 ⟨rfl, hw2⟩
  have HW2 : Hid (NewWr wa w2 g x.text) := Lib.hid hw2
  refine ⟨_, rfl, hw2.fr, fun hHeld => ?_⟩
  clear hw2 HW
  simp only [Act.put, List.setIfInBounds_toArray, List.set_cons_zero, List.set_cons_succ]
  refine call_at (i := 3) (f := ?_) (args := ?_) rfl (by kernel_rfl) (by rfl) ?_ ?_
  rotate_left 2
  · go_simp
    (try (first | with_reducible rfl | (apply And.intro <;> rfl)))
  refine (bytes_head wa w2 g _ HW2.out (by have := HTL.out; omega)).mono ?_
  rintro e w3 ⟨A3, c3, rfl, hn3⟩
  have HN3 := Lib.hid hn3
  refine ⟨_, rfl, hn3.2.1, fun hHeld => ?_⟩
  clear hn3 HW2
  simp only [Act.put, List.setIfInBounds_toArray, List.set_cons_zero, List.set_cons_succ]
  refine run_at (i := 4) (v := ?_) rfl (by kernel_rfl) (by rfl) (fun _ _ _ h => h) hHeld (fun w1 hw1 => ?_) ?_
  rotate_left 1
  · skip
    go_simp
    (try (first | with_reducible rfl | (apply And.intro <;> rfl)))
  simp only [Act.put, List.setIfInBounds_toArray, List.set_cons_zero, List.set_cons_succ]
  refine wpAnyH_done (by kernel_rfl) ?_ _
  go_wp2
  go_ret
  exact ⟨A3, c3, rfl, HN3.out.1, HF0.out.and HN3.out.2.1 (by simp), fun k hk => Nat.le_trans HF0.out.size (HN3.out.2.2 k hk)⟩
set_option maxHeartbeats 2000000 in
theorem batchHash_any (x : Wba) (w : World) (hx : x.Ok w []) (hK : KW w) (C : List Value) (hC : x.cells = C) :
    Calls Tryd.prog 18 #[.agg C.toArray] w fun e w' => e = .returned (.agg ((sumL x.full).map by8).toArray) ∧ Fr [] w w' := by
  have hCl : C.length = 5 := by rw [← hC]; exact Wba.len x
  obtain ⟨wa, hwa⟩ : ∃ wa, wa = (w.alloc (Obj.cells C.toArray 39)).alloc (Obj.cells zeroH 26) := ⟨_, rfl⟩
  have hf0 : Fr [] w wa := by rw [hwa]; exact ((Fr.refl [] w).alloc _).alloc _
  have hb1 : Blk wa w.heap.size 39 C.toArray := by rw [hwa]; exact blk_alloc (Blk.new _ _ _)
  have hb3 : Blk wa (w.heap.size + 1) 26 zeroH := by
    have := Blk.new (w.alloc (Obj.cells C.toArray 39)) 26 zeroH
    rw [hwa]
    simpa using this
  have HR1 := Lib.hid hb1.range
  have HB3 := Lib.hid hb3
  have HX := Lib.hid (hx.keep (S' := []) hf0 (by simp))
  have HXL := Lib.hid (Wba.full_len hx)
  have HF0 := Lib.hid hf0
  have HWA := Lib.hid hwa
  have HK := Lib.hid hK
  have HRC := Lib.hid hC
  have HCL := Lib.hid hCl
  clear hb1 hb3 hf0 hwa hK hx hC hCl
  go_enter Tryd.func18, Tryd.ntmps18
  go_wp2
  change Code.wp _ _ _ _ ((w.alloc (Obj.cells C.toArray 39)).alloc (Obj.cells zeroH 26))
  rw [← HWA.out]
  refine wp_region_held_drew (S := Fr [w.heap.size + 1] wa) (by kernel_rfl) (Fr.drew (Fr.refl _ wa)) (fun hHeld => ?_)
  refine row_at (i := 1) rfl (by kernel_rfl) (by rfl) _ _ rfl _ _ rfl _ (fun w1 hw1 => hw1.range (HR1.out) (by first | (simp; done) | exact HNS.out | exact HNW.out | (intro hm; have hlt := HSB.out _ hm; (try dsimp only at hlt); omega))) (row_bat.of HCL.out) (fun _ _ _ h => h) hHeld ?_
  simp only [Act.put, List.setIfInBounds_toArray, List.set_cons_zero, List.set_cons_succ]
  refine call_at (i := 0) (f := ?_) (args := ?_) rfl (by kernel_rfl) (by rfl) ?_ ?_
  rotate_left 2
  · go_simp
    (try (first | with_reducible rfl | (apply And.intro <;> rfl)))
  refine (newWriter_any _).mono ?_
  rintro e w1 ⟨rfl, hw1, hf1⟩
  have HW := Lib.hid (show NewWr wa w1 wa.drew.heap.size [] from ⟨_, hw1, (Fr.drew (Fr.refl [] wa)).and hf1 (by simp), fun k hk => by rw [List.mem_singleton.1 hk]; exact Nat.le_refl _⟩)
  refine ⟨_, rfl, hHeld.go hf1 (by simp), fun hHeld => ?_⟩
  clear hw1 hf1
  generalize wa.drew.heap.size = g at *
  simp only [Act.put, List.setIfInBounds_toArray, List.set_cons_zero, List.set_cons_succ]
  refine call_at (i := 2) (f := ?_) (args := ?_) rfl (by kernel_rfl) (by rfl) ?_ ?_
  rotate_left 2
  · go_simp
    (try (first | with_reducible rfl | (apply And.intro <;> rfl)))
  refine (HW.out.calls fun S1 k1 f1 s1 => putBatch_any' x C HRC.out _ S1 g _ k1 (by decide) (HX.out.keep f1 (fun k hk hl => absurd (s1 k hk) (by omega)))).mono ?_
  rintro e w2 ⟨rfl, hw2⟩
  rw [List.nil_append] at hw2
  have HW3 := Lib.hid hw2
  refine ⟨_, rfl, hw2.fr.mono (by simp), fun hHeld => ?_⟩
  clear hw2 HW
  simp only [Act.put, List.setIfInBounds_toArray, List.set_cons_zero, List.set_cons_succ]
  generalize hXF : x.full = X at *
  have HXF := Lib.hid hXF
  clear hXF
  have HLEN : Hid (X.length ≤ 1073741824) := Lib.hid (by have := HXL.out; omega)
  refine call_at (i := 3) (f := ?_) (args := ?_) rfl (by kernel_rfl) (by rfl) ?_ ?_
  rotate_left 2
  · go_simp
    (try (first | with_reducible rfl | (apply And.intro <;> rfl)))
  refine (bytes_head wa w2 g _ HW3.out HLEN.out).mono ?_
  rintro e w4 ⟨A4, c4, rfl, hn4⟩
  have HN4 := Lib.hid hn4
  refine ⟨_, rfl, hn4.2.1.mono (by simp), fun hHeld => ?_⟩
  clear hn4 HW3
  simp only [Act.put, List.setIfInBounds_toArray, List.set_cons_zero, List.set_cons_succ]
  have hsum := sum_any A4 _ c4 _ w4 HN4.out.by HN4.out.cap HLEN.out (HK.out.keep (HF0.out.and HN4.out.2.1 (by simp)) (by simp))
  have hsl : ((sumL X).map by8).toArray.size = 32 := by simp [sumL_len]
  have hone := by8_all (sumL X)
  have hH : ((sumL x.full).map by8).toArray = ((sumL X).map by8).toArray := by rw [HXF.out]
  generalize ((sumL X).map by8).toArray = H at *
  have HSUM := Lib.hid hsum
  have HSL := Lib.hid hsl
  have HONE := Lib.hid hone
  have HH2 := Lib.hid hH
  clear hsum hsl hone hH
  refine call_at (i := 4) (f := ?_) (args := ?_) rfl (by kernel_rfl) (by rfl) ?_ ?_
  rotate_left 2
  · go_simp
    (try (first | with_reducible rfl | (apply And.intro <;> rfl)))
  refine HSUM.out.mono ?_
  rintro e w5 ⟨rfl, hf5⟩
  refine ⟨_, rfl, hHeld.go hf5 (by simp), fun hHeld => ?_⟩
  simp only [Act.put, List.setIfInBounds_toArray, List.set_cons_zero, List.set_cons_succ]
  have HB5 := Lib.hid (HB3.out.keep (HN4.out.2.1.and hf5 (by simp)) (by simp))
  have HF5 := Lib.hid (HF0.out.and (HN4.out.2.1.and hf5 (by simp)) (by simp))
  clear hf5 HN4 HSUM
  refine step_at (i := 5) rfl (by kernel_rfl) (by rfl) (fun K hK => ?_)
  refine wp_store_blk 26 _ _ rfl (w.heap.size + 1) H rfl rfl 26 zeroH HB5.out (by rw [hash_sizeS, HSL.out]) (by rw [HSL.out, zeroH_size]) HONE.out ?_
  intro w6 hb6 hf6
  refine hK.out _ _ (hHeld.trans hf6 (fun x hx _ => hx)) (fun hHeld => ?_)
  clear hK K
  simp only [Act.put, List.setIfInBounds_toArray, List.set_cons_zero, List.set_cons_succ]
  have HB6 := Lib.hid hb6
  have HF6 := Lib.hid (HF5.out.go hf6 (by simp))
  clear hb6 hf6
  refine wpAnyH_done (by kernel_rfl) ?_ _
  go_wp2
  exact bodyPost_ret (v := .agg H) (results_cell_row Tryd.results18 _ _ (w.heap.size + 1) 26 H _ _ rfl HB6.out Tryd.underlying26 rfl (by rw [hash_sizeS, HSL.out])) rfl ⟨by rw [HH2.out], HF6.out⟩
/-- one more than z, below 0: 0 -/
def oneM (z : Int) : Nat := if z < 0 then 0 else z.toNat + 1
theorem oneMore_any (z : Int) (hz : i64In z) (w : World) :
    Calls Tryd.prog 110 #[.int .i64 z] w fun e w' => e = .returned (.int .u64 (oneM z : Int)) ∧ w' = w := by
  obtain ⟨h1, h2⟩ := hz
  unfold oneM
  by_cases h : z < 0
  · rw [if_pos h]
    go_enter Tryd.func110, Tryd.ntmps110
    go_wp2
    go_ret
    exact ⟨rfl, rfl⟩
  · rw [if_neg h]
    have e1 : IntKind.u64.wrap z = z := IntWalk.u64_in _ (by omega)
    have e2 : IntKind.u64.wrap (z + 1) = z + 1 := IntWalk.u64_in _ (by omega)
    go_enter Tryd.func110, Tryd.ntmps110
    go_wp2
    go_ret
    exact ⟨by show Ending.returned (Value.int IntKind.u64 (z + 1)) = _; congr 2; omega, rfl⟩
/-- a proposal -/
structure Wpo where
  e : Int
  r : Int
  v : Int
  p : Int
  k : Wba
  b : Int
  m : Int
def Wpo.cells (x : Wpo) : List Value := [.int .i64 x.e, .int .i64 x.r, .int .i64 x.v, .int .i64 x.p] ++ (x.k.cells ++ [.int .i64 x.b, .int .i64 x.m])
def Wpo.val (x : Wpo) : Value := .agg x.cells.toArray
structure Wpo.Ok (w : World) (x : Wpo) : Prop where
  e : i64In x.e
  r : i64In x.r
  v : i64In x.v
  p : i64In x.p
  k : x.k.Ok w []
  b : i64In x.b
  m : i64In x.m
theorem Wpo.len (x : Wpo) : x.cells.length = 11 := rfl
def wWpo : List UInt8 := [112, 114, 111, 112, 111, 115, 97, 108]
def Wpo.head (x : Wpo) : List UInt8 := encI x.e ++ encI x.r ++ enc (oneM x.v) ++ encI x.p
theorem Wpo.head_len {x : Wpo} (he : i64In x.e) (hr : i64In x.r) (hv : i64In x.v) (hp : i64In x.p) : x.head.length ≤ 40 := by
  have b0 := encI_len x.e he.2
  have b1 := encI_len x.r hr.2
  have b2 := encI_len x.p hp.2
  have b3 : oneM x.v < 18446744073709551616 := by have := hv.2; unfold oneM; split <;> omega
  have b4 := enc_ten b3
  simp only [Wpo.head, List.length_append]
  omega
def Wpo.text (x : Wpo) : List UInt8 := enc wWpo.length ++ wWpo ++ x.head ++ sumL x.k.full
theorem row_prop : RowTy Tryd.prog 85 11 := ⟨by kernel_rfl, by kernel_rfl⟩
set_option maxHeartbeats 1000000 in
theorem proposalHead_any (x : Wpo) (C : List Value) (hC : x.cells = C) (w : World) (S : List Nat) (g : Nat) (l : List UInt8) (hw : Wr w S g l) (hl : l.length + 100 ≤ 1073741000) (he : i64In x.e) (hr : i64In x.r) (hv : i64In x.v) (hp : i64In x.p) :
    Calls Tryd.prog 85 #[.pointer (some ⟨g, 0, none⟩), .agg C.toArray] w fun e w' => e = .returned (.pointer (some ⟨g, 0, none⟩)) ∧ Gr w S g (l ++ x.head) w' := by
  obtain ⟨wa, hwa⟩ : ∃ wa, wa = w.alloc (Obj.cells C.toArray 85) := ⟨_, rfl⟩
  have hf0 : Fr [] w wa := by rw [hwa]; exact (Fr.refl [] w).alloc _
  have hb0 : Blk wa w.heap.size 85 x.cells.toArray := by rw [hwa, hC]; exact Blk.new _ _ _
  have HNS : Hid (¬ w.heap.size ∈ S) := Lib.hid (fun h => by have := hw.lt _ h; omega)
  have HG0 := Lib.hid (Gr.begin hw hf0)
  have HC0 : Hid (wa.cell? ⟨w.heap.size, 0 + 0, none⟩ = some (.int .i64 x.e)) := Lib.hid (hb0.range (cs := x.cells) 0 _ rfl)
  have HC1 : Hid (wa.cell? ⟨w.heap.size, 0 + 1, none⟩ = some (.int .i64 x.r)) := Lib.hid (hb0.range (cs := x.cells) 1 _ rfl)
  have HC2 : Hid (wa.cell? ⟨w.heap.size, 0 + 2, none⟩ = some (.int .i64 x.v)) := Lib.hid (hb0.range (cs := x.cells) 2 _ rfl)
  have HC3 : Hid (wa.cell? ⟨w.heap.size, 0 + 3, none⟩ = some (.int .i64 x.p)) := Lib.hid (hb0.range (cs := x.cells) 3 _ rfl)
  have HM : Hid (oneM x.v < 18446744073709551616) := Lib.hid (by have := hv.2; unfold oneM; split <;> omega)
  have HF0 := Lib.hid hf0
  have HWA := Lib.hid hwa
  have HL := Lib.hid hl
  have HE := Lib.hid he
  have HR := Lib.hid hr
  have HV := Lib.hid hv
  have HP := Lib.hid hp
  clear hwa hf0 hb0 hl hw he hr hv hp hC
  go_enter Tryd.func85, Tryd.ntmps85
  go_wp2
  rw [← HWA.out]
  refine wp_region_held_drew (S := Fr S wa) (by kernel_rfl) (Fr.drew (Fr.refl _ wa)) (fun hHeld => ?_)
  refine run_at (i := 0) (v := ?_) rfl (by kernel_rfl) (by rfl) (fun _ _ _ h => h) hHeld (fun w1 hw1 => ?_) ?_
  rotate_left 1
  · skip
    go_simp
    (try (first | with_reducible rfl | (apply And.intro <;> rfl)))
  simp only [Act.put, List.setIfInBounds_toArray, List.set_cons_zero, List.set_cons_succ]
  refine run_at (i := 1) (v := ?_) rfl (by kernel_rfl) (by rfl) (fun _ _ _ h => h) hHeld (fun w1 hw1 => ?_) ?_
  rotate_left 1
  · skip
    go_simp
    (try (first | with_reducible rfl | (apply And.intro <;> rfl)))
  simp only [Act.put, List.setIfInBounds_toArray, List.set_cons_zero, List.set_cons_succ]
  refine run_at (i := 2) (v := ?_) rfl (by kernel_rfl) (by rfl) (fun _ _ _ h => h) hHeld (fun w1 hw1 => ?_) ?_
  rotate_left 1
  · skip
    have hcw0 := hw1.cell (HC0.out) (by first | (simp; done) | exact HNS.out | exact HNW.out | (intro hm; have hlt := HSB.out _ hm; (try dsimp only at hlt); omega))
    go_simp
    (try (first | with_reducible rfl | (apply And.intro <;> rfl)))
  simp only [Act.put, List.setIfInBounds_toArray, List.set_cons_zero, List.set_cons_succ]
  refine run_at (i := 4) (v := ?_) rfl (by kernel_rfl) (by rfl) (fun _ _ _ h => h) hHeld (fun w1 hw1 => ?_) ?_
  rotate_left 1
  · skip
    go_simp
    (try (first | with_reducible rfl | (apply And.intro <;> rfl)))
  simp only [Act.put, List.setIfInBounds_toArray, List.set_cons_zero, List.set_cons_succ]
  refine run_at (i := 5) (v := ?_) rfl (by kernel_rfl) (by rfl) (fun _ _ _ h => h) hHeld (fun w1 hw1 => ?_) ?_
  rotate_left 1
  · skip
    have hcw0 := hw1.cell (HC1.out) (by first | (simp; done) | exact HNS.out | exact HNW.out | (intro hm; have hlt := HSB.out _ hm; (try dsimp only at hlt); omega))
    go_simp
    (try (first | with_reducible rfl | (apply And.intro <;> rfl)))
  simp only [Act.put, List.setIfInBounds_toArray, List.set_cons_zero, List.set_cons_succ]
  refine run_at (i := 7) (v := ?_) rfl (by kernel_rfl) (by rfl) (fun _ _ _ h => h) hHeld (fun w1 hw1 => ?_) ?_
  rotate_left 1
  · skip
    go_simp
    (try (first | with_reducible rfl | (apply And.intro <;> rfl)))
  simp only [Act.put, List.setIfInBounds_toArray, List.set_cons_zero, List.set_cons_succ]
  refine run_at (i := 8) (v := ?_) rfl (by kernel_rfl) (by rfl) (fun _ _ _ h => h) hHeld (fun w1 hw1 => ?_) ?_
  rotate_left 1
  · skip
    have hcw0 := hw1.cell (HC2.out) (by first | (simp; done) | exact HNS.out | exact HNW.out | (intro hm; have hlt := HSB.out _ hm; (try dsimp only at hlt); omega))
    go_simp
    (try (first | with_reducible rfl | (apply And.intro <;> rfl)))
  simp only [Act.put, List.setIfInBounds_toArray, List.set_cons_zero, List.set_cons_succ]
  refine run_at (i := 11) (v := ?_) rfl (by kernel_rfl) (by rfl) (fun _ _ _ h => h) hHeld (fun w1 hw1 => ?_) ?_
  rotate_left 1
  · skip
    go_simp
    (try (first | with_reducible rfl | (apply And.intro <;> rfl)))
  simp only [Act.put, List.setIfInBounds_toArray, List.set_cons_zero, List.set_cons_succ]
  refine run_at (i := 12) (v := ?_) rfl (by kernel_rfl) (by rfl) (fun _ _ _ h => h) hHeld (fun w1 hw1 => ?_) ?_
  rotate_left 1
  · skip
    have hcw0 := hw1.cell (HC3.out) (by first | (simp; done) | exact HNS.out | exact HNW.out | (intro hm; have hlt := HSB.out _ hm; (try dsimp only at hlt); omega))
    go_simp
    (try (first | with_reducible rfl | (apply And.intro <;> rfl)))
  simp only [Act.put, List.setIfInBounds_toArray, List.set_cons_zero, List.set_cons_succ]
  refine call_at (i := 3) (f := ?_) (args := ?_) rfl (by kernel_rfl) (by rfl) ?_ ?_
  rotate_left 2
  · go_simp
    (try (first | with_reducible rfl | (apply And.intro <;> rfl)))
  refine (HG0.out.call fun S1 k1 => int_any x.e HE.out.1 HE.out.2 _ S1 g _ k1 (by have h0 := HL.out; (try simp only [List.length_append] at *); omega)).mono ?_
  rintro e w1 ⟨rfl, hg1⟩
  have HG1 := Lib.hid hg1
  refine ⟨_, rfl, hg1.fr, fun hHeld => ?_⟩
  clear hg1 HG0
  simp only [Act.put, List.setIfInBounds_toArray, List.set_cons_zero, List.set_cons_succ]
  refine call_at (i := 6) (f := ?_) (args := ?_) rfl (by kernel_rfl) (by rfl) ?_ ?_
  rotate_left 2
  · go_simp
    (try (first | with_reducible rfl | (apply And.intro <;> rfl)))
  refine (HG1.out.call fun S1 k1 => int_any x.r HR.out.1 HR.out.2 _ S1 g _ k1 (by have h0 := HL.out; have b0 := encI_len x.e HE.out.2; (try simp only [List.length_append] at *); omega)).mono ?_
  rintro e w2 ⟨rfl, hg2⟩
  have HG2 := Lib.hid hg2
  refine ⟨_, rfl, hg2.fr, fun hHeld => ?_⟩
  clear hg2 HG1
  simp only [Act.put, List.setIfInBounds_toArray, List.set_cons_zero, List.set_cons_succ]
  refine call_at (i := 9) (f := ?_) (args := ?_) rfl (by kernel_rfl) (by rfl) ?_ ?_
  rotate_left 2
  · go_simp
    (try (first | with_reducible rfl | (apply And.intro <;> rfl)))
  refine (oneMore_any x.v HV.out w2).mono ?_
  rintro e w4 ⟨rfl, hw4⟩
  rw [hw4]
  clear hw4 w4
  refine ⟨_, rfl, HG2.out.fr, fun hHeld => ?_⟩
  simp only [Act.put, List.setIfInBounds_toArray, List.set_cons_zero, List.set_cons_succ]
  refine call_at (i := 10) (f := ?_) (args := ?_) rfl (by kernel_rfl) (by rfl) ?_ ?_
  rotate_left 2
  · go_simp
    (try (first | with_reducible rfl | (apply And.intro <;> rfl)))
  refine (HG2.out.call fun S1 k1 => num_any (oneM x.v) HM.out _ S1 g _ k1 (by have h0 := HL.out; have b0 := encI_len x.e HE.out.2; have b1 := encI_len x.r HR.out.2; (try simp only [List.length_append] at *); omega)).mono ?_
  rintro e w5 ⟨rfl, hg5⟩
  have HG5 := Lib.hid hg5
  refine ⟨_, rfl, hg5.fr, fun hHeld => ?_⟩
  clear hg5 HG2
  simp only [Act.put, List.setIfInBounds_toArray, List.set_cons_zero, List.set_cons_succ]
  refine call_at (i := 13) (f := ?_) (args := ?_) rfl (by kernel_rfl) (by rfl) ?_ ?_
  rotate_left 2
  · go_simp
    (try (first | with_reducible rfl | (apply And.intro <;> rfl)))
  refine (HG5.out.call fun S1 k1 => int_any x.p HP.out.1 HP.out.2 _ S1 g _ k1 (by have h0 := HL.out; have b0 := encI_len x.e HE.out.2; have b1 := encI_len x.r HR.out.2; have b2 := enc_ten HM.out; (try simp only [List.length_append] at *); omega)).mono ?_
  rintro e w6 ⟨rfl, hg6⟩
  have HG6 := Lib.hid hg6
  refine ⟨_, rfl, hg6.fr, fun hHeld => ?_⟩
  clear hg6 HG5
  simp only [Act.put, List.setIfInBounds_toArray, List.set_cons_zero, List.set_cons_succ]
  refine run_at (i := 14) (v := ?_) rfl (by kernel_rfl) (by rfl) (fun _ _ _ h => h) hHeld (fun w1 hw1 => ?_) ?_
  rotate_left 1
  · skip
    go_simp
    (try (first | with_reducible rfl | (apply And.intro <;> rfl)))
  simp only [Act.put, List.setIfInBounds_toArray, List.set_cons_zero, List.set_cons_succ]
  refine wpAnyH_done (by kernel_rfl) ?_ _
  go_wp2
  go_ret
  exact ⟨rfl, (HG6.out.from_ HF0.out).eq (by simp [Wpo.head, List.append_assoc])⟩
set_option maxHeartbeats 2000000 in
theorem proposalText_any (x : Wpo) (w : World) (hx : x.Ok w) (hK : KW w) :
    Calls Tryd.prog 44 #[x.val] w fun e w' => ∃ A c, e = .returned (.slice A x.text.length c) ∧ NewB w w' A x.text.length c x.text := by
  obtain ⟨wa, hwa⟩ : ∃ wa, wa = w.alloc (Obj.cells x.cells.toArray 85) := ⟨_, rfl⟩
  have hf0 : Fr [] w wa := by rw [hwa]; exact (Fr.refl [] w).alloc _
  have hb0 : Blk wa w.heap.size 85 x.cells.toArray := by rw [hwa]; exact Blk.new _ _ _
  have HALL := Lib.hid hb0.range
  have HLN : Hid (x.cells.length = 11) := Lib.hid (Wpo.len x)
  have HBT : Hid (wa.rangeAt w.heap.size (0 + 4) x.k.cells) := Lib.hid (rangeAt_sub (xs := [.int .i64 x.e, .int .i64 x.r, .int .i64 x.v, .int .i64 x.p]) (ys := x.k.cells) (zs := [.int .i64 x.b, .int .i64 x.m]) hb0.range)
  have HKL : Hid (x.k.cells.length = 5) := Lib.hid (Wba.len x.k)
  have hke := hx.k.keep (S' := []) hf0 (by simp)
  have HKE := Lib.hid hke
  have HF0 := Lib.hid hf0
  have HWA := Lib.hid hwa
  have HX := Lib.hid hx
  have HK := Lib.hid (hK.keep hf0 (by simp))
  clear hwa hf0 hb0 hx hke hK
  unfold Wpo.val
  generalize hC : x.cells = C at *
  have HRC := Lib.hid hC
  clear hC
  generalize hD : x.k.cells = D at *
  have HRD := Lib.hid hD
  clear hD
  go_enter Tryd.func44, Tryd.ntmps44
  go_wp2
  rw [← HWA.out]
  refine wp_region_held_drew (S := Fr [] wa) (by kernel_rfl) (Fr.drew (Fr.refl _ wa)) (fun hHeld => ?_)
  refine run_at (i := 3) (v := ?_) rfl (by kernel_rfl) (by rfl) (fun _ _ _ h => h) hHeld (fun w1 hw1 => ?_) ?_
  rotate_left 1
  · skip
    go_simp
    (try (first | with_reducible rfl | (apply And.intro <;> rfl)))
  simp only [Act.put, List.setIfInBounds_toArray, List.set_cons_zero, List.set_cons_succ]
  refine row_at (i := 4) rfl (by kernel_rfl) (by rfl) _ _ rfl _ _ rfl _ (fun w1 hw1 => hw1.range (HBT.out) (by first | (simp; done) | exact HNS.out | exact HNW.out | (intro hm; have hlt := HSB.out _ hm; (try dsimp only at hlt); omega))) (row_bat.of HKL.out) (fun _ _ _ h => h) hHeld ?_
  simp only [Act.put, List.setIfInBounds_toArray, List.set_cons_zero, List.set_cons_succ]
  refine row_at (i := 1) rfl (by kernel_rfl) (by rfl) _ _ rfl _ _ rfl _ (fun w1 hw1 => hw1.range (HALL.out) (by first | (simp; done) | exact HNS.out | exact HNW.out | (intro hm; have hlt := HSB.out _ hm; (try dsimp only at hlt); omega))) (row_prop.of HLN.out) (fun _ _ _ h => h) hHeld ?_
  simp only [Act.put, List.setIfInBounds_toArray, List.set_cons_zero, List.set_cons_succ]
  refine call_at (i := 0) (f := ?_) (args := ?_) rfl (by kernel_rfl) (by rfl) ?_ ?_
  rotate_left 2
  · go_simp
    (try (first | with_reducible rfl | (apply And.intro <;> rfl)))
  refine (wbegin_any wWpo (by decide) _).mono ?_
  rintro e w1 ⟨g, rfl, hw1⟩
  have HW1 := Lib.hid (hw1.from_ (Fr.drew (Fr.refl [] wa)))
  refine ⟨_, rfl, HW1.out.fr, fun hHeld => ?_⟩
  clear hw1
  simp only [Act.put, List.setIfInBounds_toArray, List.set_cons_zero, List.set_cons_succ]
  refine call_at (i := 2) (f := ?_) (args := ?_) rfl (by kernel_rfl) (by rfl) ?_ ?_
  rotate_left 2
  · go_simp
    (try (first | with_reducible rfl | (apply And.intro <;> rfl)))
  refine (HW1.out.call fun S1 k1 => proposalHead_any x C HRC.out _ S1 g _ k1 (by have b1 := enc_ten (m := wWpo.length) (by decide); have b2 : wWpo.length = 8 := rfl; simp only [List.length_append]; omega) HX.out.e HX.out.r HX.out.v HX.out.p).mono ?_
  rintro e w2 ⟨rfl, hw2⟩
  have HW7 := Lib.hid hw2
  refine ⟨_, rfl, hw2.fr, fun hHeld => ?_⟩
  clear hw2 HW1
  simp only [Act.put, List.setIfInBounds_toArray, List.set_cons_zero, List.set_cons_succ]
  have hbh := batchHash_any x.k w2 (HKE.out.keep (S' := []) HW7.out.fr (by simp)) (HK.out.keep HW7.out.fr (by simp)) D HRD.out
  have hsl : ((sumL x.k.full)).length = 32 := sumL_len _
  have htx : x.text = enc wWpo.length ++ wWpo ++ x.head ++ sumL x.k.full := rfl
  have htl : x.text.length ≤ 1000 := by
    have b5 := Wpo.head_len HX.out.e HX.out.r HX.out.v HX.out.p
    have b1 := enc_ten (m := wWpo.length) (by decide)
    have b2 : wWpo.length = 8 := rfl
    rw [htx]
    simp only [List.length_append]
    omega
  generalize sumL x.k.full = Y at *
  have HBH := Lib.hid hbh
  have HSL := Lib.hid hsl
  have HTX := Lib.hid htx
  have HTL := Lib.hid htl
  clear hbh hsl htx htl
  refine call_at (i := 5) (f := ?_) (args := ?_) rfl (by kernel_rfl) (by rfl) ?_ ?_
  rotate_left 2
  · go_simp
    (try (first | with_reducible rfl | (apply And.intro <;> rfl)))
  refine HBH.out.mono ?_
  rintro e w8 ⟨rfl, hf8⟩
  have HW8 := Lib.hid (HW7.out.keep hf8)
  refine ⟨_, rfl, HW8.out.fr, fun hHeld => ?_⟩
  clear hf8 HW7 HBH
  simp only [Act.put, List.setIfInBounds_toArray, List.set_cons_zero, List.set_cons_succ]
  refine call_at (i := 6) (f := ?_) (args := ?_) rfl (by kernel_rfl) (by rfl) ?_ ?_
  rotate_left 2
  · go_simp
    (try (first | with_reducible rfl | (apply And.intro <;> rfl)))
  refine (hash_head wa w8 g _ HW8.out Y HSL.out (by have := HTL.out; rw [HTX.out] at this; simp only [List.length_append] at *; omega)).mono ?_
  rintro e w9 ⟨rfl, hw9⟩
  have HW9 : Hid (NewWr wa w9 g x.text) := Lib.hid (by rw [HTX.out]; exact hw9)
  refine ⟨_, rfl, hw9.fr, fun hHeld => ?_⟩
  clear hw9 HW8
  simp only [Act.put, List.setIfInBounds_toArray, List.set_cons_zero, List.set_cons_succ]
  refine call_at (i := 7) (f := ?_) (args := ?_) rfl (by kernel_rfl) (by rfl) ?_ ?_
  rotate_left 2
  · go_simp
    (try (first | with_reducible rfl | (apply And.intro <;> rfl)))
  refine (bytes_head wa w9 g _ HW9.out (by have := HTL.out; omega)).mono ?_
  rintro e w10 ⟨A3, c3, rfl, hn3⟩
  have HN3 := Lib.hid hn3
  refine ⟨_, rfl, hn3.2.1, fun hHeld => ?_⟩
  clear hn3 HW9
  simp only [Act.put, List.setIfInBounds_toArray, List.set_cons_zero, List.set_cons_succ]
  refine run_at (i := 8) (v := ?_) rfl (by kernel_rfl) (by rfl) (fun _ _ _ h => h) hHeld (fun w1 hw1 => ?_) ?_
  rotate_left 1
  · skip
    go_simp
    (try (first | with_reducible rfl | (apply And.intro <;> rfl)))
  simp only [Act.put, List.setIfInBounds_toArray, List.set_cons_zero, List.set_cons_succ]
  refine wpAnyH_done (by kernel_rfl) ?_ _
  go_wp2
  go_ret
  exact ⟨A3, c3, rfl, HN3.out.1, HF0.out.and HN3.out.2.1 (by simp), fun k hk => Nat.le_trans HF0.out.size (HN3.out.2.2 k hk)⟩
end Go.Proofs.YtdgbcdmooklciaaDoor
