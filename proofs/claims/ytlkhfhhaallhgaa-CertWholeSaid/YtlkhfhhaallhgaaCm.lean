/- Package commit: begin. -/
import Derived.Test.YtlkhfhhaallhgaaReg
import Derived.Test.YtlkhfhhaallhgaaHelp
import Derived.Laws.IdiomStrings
import Derived.Test.YtlkhfhhaallhgaaBook2
namespace Go.Proofs.Ytlkhfhhaallhgaa
open Go.RowKit
set_option maxRecDepth 100000

/-- the bytes of an int: below 0 it is 0 -/
def encI (z : Int) : List UInt8 := enc z.toNat
theorem int_any (z : Int) (h1 : -9223372036854775808 ≤ z) (h2 : z < 9223372036854775808) (w : World) (S : List Nat) (g : Nat) (l : List UInt8) (hw : Wr w S g l) (hl : l.length < 1073741824) :
    Calls Try.prog 57 #[.pointer (some ⟨g, 0, none⟩), .int .i64 z] w fun e w' => e = .returned (.pointer (some ⟨g, 0, none⟩)) ∧
      ∃ S', Wr w' S' g (l ++ encI z) ∧ Fr S w w' ∧ ∀ x ∈ S', x < w.heap.size → x ∈ S := by
  unfold encI
  by_cases hz : z < 0
  · rw [show z.toNat = 0 by omega]
    exact int_neg z hz w S g l hw hl
  · obtain ⟨n, rfl⟩ : ∃ n : Nat, z = n := ⟨z.toNat, by omega⟩
    rw [Int.toNat_natCast]
    exact int_nat n (by omega) w S g l hw hl
theorem encI_len (z : Int) (h2 : z < 9223372036854775808) : (encI z).length ≤ 10 := enc_ten (by omega)

/-- what is hashed or signed begins so -/
def headL (t : List UInt8) (c s : Int) : List UInt8 := enc t.length ++ t ++ encI c ++ encI s
/-- a writer in new memory -/
def NewWr (w w' : World) (g : Nat) (l : List UInt8) : Prop := ∃ S', Wr w' S' g l ∧ Fr [] w w' ∧ ∀ x ∈ S', w.heap.size ≤ x
theorem NewWr.fr {w w' : World} {g : Nat} {l : List UInt8} (h : NewWr w w' g l) : Fr [] w w' := by obtain ⟨_, _, h, _⟩ := h; exact h
theorem NewWr.add {w w1 w2 : World} {g : Nat} {l2 : List UInt8} {S : List Nat} (h2 : Fr [] w w1) (h3 : ∀ x ∈ S, w.heap.size ≤ x) (hc : ∃ S', Wr w2 S' g l2 ∧ Fr S w1 w2 ∧ ∀ x ∈ S', x < w1.heap.size → x ∈ S) : NewWr w w2 g l2 := by
  obtain ⟨S', k1, k2, k3⟩ := hc
  refine ⟨S', k1, h2.and k2 h3, fun x hx => ?_⟩
  by_cases hl : x < w1.heap.size
  · exact h3 x (k3 x hx hl)
  · have := h2.size; omega
theorem NewWr.keep {w0 w w' : World} {g : Nat} {l : List UInt8} (h : NewWr w0 w g l) (hf : Fr [] w w') : NewWr w0 w' g l := by
  obtain ⟨S, k1, k2, k3⟩ := h
  exact ⟨S, k1.keep hf (by simp), k2.and hf (by simp), k3⟩
theorem NewWr.from_ {w0 w w' : World} {g : Nat} {l : List UInt8} (h : NewWr w w' g l) (hf : Fr [] w0 w) : NewWr w0 w' g l := by
  obtain ⟨S, k1, k2, k3⟩ := h
  exact ⟨S, k1, hf.and k2 (by simp), fun x hx => by have := k3 x hx; have := hf.size; omega⟩
theorem int_head (w0 w : World) (g : Nat) (l : List UInt8) (h : NewWr w0 w g l) (z : Int) (h1 : -9223372036854775808 ≤ z) (h2 : z < 9223372036854775808) (hl : l.length < 1073741824) :
    Calls Try.prog 57 #[.pointer (some ⟨g, 0, none⟩), .int .i64 z] w fun e w' => e = .returned (.pointer (some ⟨g, 0, none⟩)) ∧ NewWr w0 w' g (l ++ encI z) := by
  obtain ⟨S, k1, k2, k3⟩ := h
  refine (int_any z h1 h2 w S g l k1 hl).mono ?_
  rintro e w' ⟨rfl, hs⟩
  exact ⟨rfl, NewWr.add k2 k3 hs⟩
theorem hash_head (w0 w : World) (g : Nat) (l : List UInt8) (h : NewWr w0 w g l) (hh : List UInt8) (h1 : hh.length = 32) (hl : l.length < 1073741000) :
    Calls Try.prog 56 #[.pointer (some ⟨g, 0, none⟩), .agg (hh.map by8).toArray] w fun e w' => e = .returned (.pointer (some ⟨g, 0, none⟩)) ∧ NewWr w0 w' g (l ++ hh) := by
  obtain ⟨S, k1, k2, k3⟩ := h
  refine (hash_any hh h1 w S g l k1 hl).mono ?_
  rintro e w' ⟨rfl, hs⟩
  exact ⟨rfl, NewWr.add k2 k3 hs⟩
theorem row_head (w0 w : World) (g : Nat) (l : List UInt8) (h : NewWr w0 w g l) (A : Option Addr) (n c : Nat) (b : List UInt8) (hb : By w A n b) (hn : n ≤ 1073741824) (hA : ∀ k ∈ bk A, k < w0.heap.size) (hl : l.length < 1073741000) :
    Calls Try.prog 75 #[.pointer (some ⟨g, 0, none⟩), .slice A n c] w fun e w' => e = .returned (.pointer (some ⟨g, 0, none⟩)) ∧ NewWr w0 w' g (l ++ (enc n ++ b)) := by
  obtain ⟨S, k1, k2, k3⟩ := h
  refine (row_any A n c b w hb hn S (fun k hk hS => by have := hA k hk; have := k3 k hS; omega) g l k1 hl).mono ?_
  rintro e w' ⟨rfl, hs⟩
  exact ⟨rfl, NewWr.add k2 k3 hs⟩
theorem bytes_head (w0 w : World) (g : Nat) (l : List UInt8) (h : NewWr w0 w g l) (hl : l.length ≤ 1073741824) :
    Calls Try.prog 58 #[.pointer (some ⟨g, 0, none⟩)] w fun e w' => ∃ A' c', e = .returned (.slice A' l.length c') ∧ NewB w0 w' A' l.length c' l := by
  obtain ⟨S, k1, k2, k3⟩ := h
  refine (bytes_any w S g l k1 hl).mono ?_
  rintro e w' ⟨A', c', rfl, h1, h2, h3⟩
  exact ⟨A', c', rfl, h1, k2.and h2 (by simp), fun k hk => by have := h3 k hk; have := k2.size; omega⟩
theorem conv_str (w : World) (t : List UInt8) : ∃ w' A c, (convert 9 41 (.string ⟨t.toArray⟩)).run Try.prog w = .ok (.slice A t.length c) w' ∧ Fr [] w w' ∧ By w' A t.length t ∧ (∀ k ∈ bk A, w.heap.size ≤ k ∧ k < w'.heap.size) := by
  have h := run_bytes_of_string (P := Try.prog) w 9 41 5 ⟨t.toArray⟩ Try.underlying9 Try.underlying41 Try.underlying5
  have hsz : (⟨t.toArray⟩ : ByteArray).size = t.length := by simp [ByteArray.size]
  rw [hsz] at h
  refine ⟨_, _, _, h, ((Fr.refl [] w).drew).alloc _, ⟨rfl, fun _ => ⟨_, rfl, fun j u hu => ?_⟩⟩, fun k hk => by
    have e : k = w.heap.size := by simpa [bk] using hk
    subst e
    exact ⟨Nat.le_refl _, by show w.heap.size < (w.heap.push _).size; rw [Array.size_push]; omega⟩⟩
  have hj : j < t.length := by simpa using (List.getElem?_eq_some_iff.1 hu).1
  have hadd : (⟨w.heap.size, 0, none⟩ : Addr).add j = ⟨w.heap.size, j, none⟩ := by unfold Addr.add; split <;> simp_all
  rw [hadd]
  have hm := World.cell?_alloc_mark w.drew
  have hd : w.drew.heap.size = w.heap.size := rfl
  rw [← hd, World.cell?_alloc_mark, bytesRow_at _ _ j (by simpa using hj)]
  simp [List.getElem?_eq_getElem hj, by8] at hu
  simp [hu]

set_option maxHeartbeats 1000000 in
theorem begin_any (t : List UInt8) (ht : t.length ≤ 1000) (c s : Int) (hc1 : -9223372036854775808 ≤ c) (hc2 : c < 9223372036854775808) (hs1 : -9223372036854775808 ≤ s) (hs2 : s < 9223372036854775808) (w : World) :
    Calls Try.prog 55 #[.string ⟨t.toArray⟩, .agg #[.int .i64 c, .int .i64 s]] w fun e w' => ∃ g, e = .returned (.pointer (some ⟨g, 0, none⟩)) ∧ NewWr w w' g (headL t c s) := by
  go_enter Try.func55, Try.ntmps55
  go_wp2
  have hf0 : Fr [] w (w.alloc (Obj.cells #[.int .i64 c, .int .i64 s] 23)) := (Fr.refl [] w).alloc _
  have hb0 := Blk.new w 23 #[.int .i64 c, .int .i64 s]
  generalize w.alloc (Obj.cells #[.int .i64 c, .int .i64 s] 23) = wa at *
  refine wp_region_held_drew (S := Fr [] wa) (by kernel_rfl) (Fr.drew (Fr.refl [] wa)) (fun hHeld => ?_)
  refine run_at (i := 1) (v := ?_) rfl (by kernel_rfl) (by rfl) (fun _ _ _ h => h) hHeld (fun w1 hw1 => ?_) ?_
  rotate_left 1
  · skip
    go_simp
    (try (first | with_reducible rfl | (apply And.intro <;> rfl)))
  simp only [Act.put, List.setIfInBounds_toArray, List.set_cons_zero, List.set_cons_succ]
  refine run_at (i := 4) (v := ?_) rfl (by kernel_rfl) (by rfl) (fun _ _ _ h => h) hHeld (fun w1 hw1 => ?_) ?_
  rotate_left 1
  · skip
    go_simp
    (try (first | with_reducible rfl | (apply And.intro <;> rfl)))
  simp only [Act.put, List.setIfInBounds_toArray, List.set_cons_zero, List.set_cons_succ]
  refine run_at (i := 5) (v := ?_) rfl (by kernel_rfl) (by rfl) (fun _ _ _ h => h) hHeld (fun w1 hw1 => ?_) ?_
  rotate_left 1
  · skip
    have hcw0 := hw1.cell (hb0.cell 0) (by first | (simp; done) | exact HNS.out | exact HNW.out | (intro hm; have hlt := HSB.out _ hm; (try dsimp only at hlt); omega))
    go_simp
    (try (first | with_reducible rfl | (apply And.intro <;> rfl)))
  simp only [Act.put, List.setIfInBounds_toArray, List.set_cons_zero, List.set_cons_succ]
  refine run_at (i := 7) (v := ?_) rfl (by kernel_rfl) (by rfl) (fun _ _ _ h => h) hHeld (fun w1 hw1 => ?_) ?_
  rotate_left 1
  · skip
    go_simp
    (try (first | with_reducible rfl | (apply And.intro <;> rfl)))
  simp only [Act.put, List.setIfInBounds_toArray, List.set_cons_zero, List.set_cons_succ]
  refine run_at (i := 8) (v := ?_) rfl (by kernel_rfl) (by rfl) (fun _ _ _ h => h) hHeld (fun w1 hw1 => ?_) ?_
  rotate_left 1
  · skip
    have hcw0 := hw1.cell (hb0.cell 1) (by first | (simp; done) | exact HNS.out | exact HNW.out | (intro hm; have hlt := HSB.out _ hm; (try dsimp only at hlt); omega))
    go_simp
    (try (first | with_reducible rfl | (apply And.intro <;> rfl)))
  simp only [Act.put, List.setIfInBounds_toArray, List.set_cons_zero, List.set_cons_succ]
  refine two_at (i := 0) (j := 2) rfl rfl (by kernel_rfl) (by rfl) (by rfl) (fun K hK => ?_) (fun K hK => ?_)
  focus
    refine wp_call (f := ?_) (args := ?_) ?_ ?_
    rotate_left 2
    · go_simp
      (try (first | with_reducible rfl | (apply And.intro <;> rfl)))
    refine (newWriter_any _).mono ?_
    rintro e w1 ⟨rfl, hw1, hf1⟩
    refine ⟨_, rfl, hK.out _ _ (hHeld.and hf1 (by simp)) (fun hHeld => ?_)⟩
    clear hK K
    simp only [Act.put, List.setIfInBounds_toArray, List.set_cons_zero, List.set_cons_succ]
    obtain ⟨w2, A, cc, hconv, hf2, hy2, hbk⟩ := conv_str w1 t
    refine step_at (i := 2) rfl (by kernel_rfl) (by rfl) (fun K hK => ?_)
    refine wp_run (v := ?_) (w' := ?_) ?_ ?_
    rotate_left 2
    · have hrun := hconv
      go_simp
      (try (first | with_reducible rfl | (apply And.intro <;> rfl)))
    refine hK.out _ _ (hHeld.and hf2 (by simp)) (fun hHeld => ?_)
    clear hK K
    simp only [Act.put, List.setIfInBounds_toArray, List.set_cons_zero, List.set_cons_succ]
    have HW := Lib.hid (hw1.keep hf2 (by simp))
    have HY := Lib.hid hy2
    have HA : Hid (∀ k ∈ bk A, ¬ k ∈ [wa.drew.heap.size]) := Lib.hid (fun k hk => by have := (hbk k hk).1; have := hw1.lt _ (List.mem_singleton.2 rfl); simp only [List.mem_singleton]; omega)
    have HN : Hid (wa.heap.size ≤ wa.drew.heap.size) := Lib.hid (Nat.le_refl _)
    generalize wa.drew.heap.size = g at *
    clear hconv hw1 hf1 hf2 hy2 hbk
    generalize w2 = wz at *
  rotate_left
  focus
    obtain ⟨w2, A, cc, hconv, hf2, hy2, hbk⟩ := conv_str wa.drew t
    refine wp_run (v := ?_) (w' := ?_) ?_ ?_
    rotate_left 2
    · have hrun := hconv
      go_simp
      (try (first | with_reducible rfl | (apply And.intro <;> rfl)))
    refine hK.out _ _ (hHeld.and hf2 (by simp)) (fun hHeld => ?_)
    clear hK K
    simp only [Act.put, List.setIfInBounds_toArray, List.set_cons_zero, List.set_cons_succ]
    refine call_at (i := 0) (f := ?_) (args := ?_) rfl (by kernel_rfl) (by rfl) ?_ ?_
    rotate_left 2
    · go_simp
      (try (first | with_reducible rfl | (apply And.intro <;> rfl)))
    refine (newWriter_any _).mono ?_
    rintro e w1 ⟨rfl, hw1, hf1⟩
    refine ⟨_, rfl, hHeld.and hf1 (by simp), fun hHeld => ?_⟩
    simp only [Act.put, List.setIfInBounds_toArray, List.set_cons_zero, List.set_cons_succ]
    have HW := Lib.hid hw1
    have HY := Lib.hid (hy2.keep hf1 (by simp))
    have HA : Hid (∀ k ∈ bk A, ¬ k ∈ [w2.heap.size]) := Lib.hid (fun k hk => by have := (hbk k hk).2; simp only [List.mem_singleton]; omega)
    have HN : Hid (wa.heap.size ≤ w2.heap.size) := Lib.hid hf2.size
    generalize w2.heap.size = g at *
    clear hconv hw1 hf1 hf2 hy2 hbk
    generalize w1 = wz at *
  all_goals
    refine call_at (i := 3) (f := ?_) (args := ?_) rfl (by kernel_rfl) (by rfl) ?_ ?_
    rotate_left 2
    · go_simp
      (try (first | with_reducible rfl | (apply And.intro <;> rfl)))
    refine (row_any A t.length cc t wz HY.out (by omega) [g] HA.out g [] HW.out (by decide)).mono ?_
    rintro e w3 ⟨rfl, S3, hw3, hf3, hs3⟩
    refine ⟨_, rfl, hHeld.and hf3 (by have := HN.out; simpa using this), fun hHeld => ?_⟩
    simp only [Act.put, List.setIfInBounds_toArray, List.set_cons_zero, List.set_cons_succ]
    have HW3 : Hid (NewWr wa w3 g ([] ++ (enc t.length ++ t))) := Lib.hid ⟨S3, hw3, hHeld, fun x hx => by
      by_cases hl : x < wz.heap.size
      · have h := hs3 x hx hl
        have := HN.out
        simp at h
        omega
      · have := (‹Fr [] wa wz›).size
        omega⟩
    clear hw3 hf3 hs3 HW HY HA HN
    refine call_at (i := 6) (f := ?_) (args := ?_) rfl (by kernel_rfl) (by rfl) ?_ ?_
    rotate_left 2
    · go_simp
      (try (first | with_reducible rfl | (apply And.intro <;> rfl)))
    refine (int_head wa w3 g _ HW3.out c hc1 hc2 (by have := enc_ten (m := t.length) (by omega); simp; omega)).mono ?_
    rintro e w4 ⟨rfl, hw4⟩
    have HW4 := Lib.hid hw4
    refine ⟨_, rfl, hw4.fr, fun hHeld => ?_⟩
    clear hw4 HW3
    simp only [Act.put, List.setIfInBounds_toArray, List.set_cons_zero, List.set_cons_succ]
    refine call_at (i := 9) (f := ?_) (args := ?_) rfl (by kernel_rfl) (by rfl) ?_ ?_
    rotate_left 2
    · go_simp
      (try (first | with_reducible rfl | (apply And.intro <;> rfl)))
    refine (int_head wa w4 g _ HW4.out s hs1 hs2 (by have := enc_ten (m := t.length) (by omega); have := encI_len c hc2; simp; omega)).mono ?_
    rintro e w5 ⟨rfl, hw5⟩
    have HW5 := Lib.hid hw5
    refine ⟨_, rfl, hw5.fr, fun hHeld => ?_⟩
    clear hw5 HW4
    simp only [Act.put, List.setIfInBounds_toArray, List.set_cons_zero, List.set_cons_succ]
    refine run_at (i := 10) (v := ?_) rfl (by kernel_rfl) (by rfl) (fun _ _ _ h => h) hHeld (fun w1 hw1 => ?_) ?_
    rotate_left 1
    · skip
      go_simp
      (try (first | with_reducible rfl | (apply And.intro <;> rfl)))
    simp only [Act.put, List.setIfInBounds_toArray, List.set_cons_zero, List.set_cons_succ]
    refine wpAnyH_done (by kernel_rfl) ?_ _
    go_wp2
    go_ret
    refine ⟨g, rfl, ?_⟩
    have h := HW5.out
    obtain ⟨S5, h1, h2, h3⟩ := h
    have h0 := hf0.size
    refine ⟨S5, by simpa [headL, List.append_assoc] using h1, hf0.and h2 (by simp), fun x hx => by have := h3 x hx; omega⟩
end Go.Proofs.Ytlkhfhhaallhgaa
