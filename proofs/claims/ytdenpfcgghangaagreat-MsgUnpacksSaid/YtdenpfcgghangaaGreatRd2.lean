/- Package code's reader: Num, Int, take, Row, Hash, OK, Left. -/
import Derived.Test.YtdenpfcgghangaaGreatRd
set_option linter.unusedSimpArgs false
set_option linter.unusedVariables false
namespace Go.Proofs.YtdenpfcgghangaaGreat
open Go.RowKit
def Rd (w : World) (g : Nat) (F : List Nat) (l : List UInt8) (bad : Bool) : Prop :=
 ∃ A n c, (∀ k ∈ bk A, k ∈ F ∧ k ≠ g) ∧ Blk w g 137 #[.slice A n c, .bool bad] ∧ By w A n l ∧ n ≤ c
theorem Rd.keep {w w' : World} {g : Nat} {F T : List Nat} {l : List UInt8} {bad : Bool} (h : Rd w g F l bad) (hf : Fr T w w') (hg : ¬ g ∈ T) (hF : ∀ k ∈ F, ¬ k ∈ T) : Rd w' g F l bad := by
 obtain ⟨A, n, c, hA, hb, hy, hc⟩ := h
 exact ⟨A, n, c, hA, hb.keep hf hg, hy.keep hf (fun a ha => hF _ (hA a.block (by simp [bk, ha])).1), hc⟩
theorem Rd.lt {w : World} {g : Nat} {F : List Nat} {l : List UInt8} {bad : Bool} (h : Rd w g F l bad) : g < w.heap.size := by
 obtain ⟨A, n, c, hA, hb, hy, hc⟩ := h
 exact hb.lt
theorem Rd.set {w : World} {g : Nat} {F : List Nat} {l' : List UInt8} {bad : Bool} {A' : Option Addr} {n' c' : Nat} {v : Value} (hb : Blk w g 137 #[v, .bool bad]) (hA : ∀ k ∈ bk A', k ∈ F ∧ k ≠ g) (hy : By w A' n' l') (hc : n' ≤ c') :
  Rd (w.setCell ⟨g, 0, none⟩ (.slice A' n' c')) g F l' bad ∧ Fr [g] w (w.setCell ⟨g, 0, none⟩ (.slice A' n' c')) := by
 have hf : Fr [g] w (w.setCell ⟨g, 0, none⟩ (.slice A' n' c')) := (Fr.refl [g] w).setCell _ (fun _ => by simp) _
 refine ⟨⟨A', n', c', hA, by simpa using hb.set 0 (.slice A' n' c'), hy.keep hf (fun a ha => ?_), hc⟩, hf⟩
 have := (hA a.block (by simp [bk, ha])).2
 simpa using this
theorem bk_map (A : Option Addr) (s : Nat) : bk (A.map (·.add s)) = bk A := by
 cases A <;> simp [bk, add_block]
theorem By.cut' {w : World} {A : Option Addr} {n c s : Nat} {l : List UInt8} (h : By w A n l) (hs : s ≤ n) (hc : n ≤ c) :
  (c = s → By w A (n - s) (l.drop s)) ∧ (¬ c = s → By w (A.map (·.add s)) (n - s) (l.drop s)) := by
 have := h.cut hs hc
 exact ⟨fun e => by rw [if_pos e] at this; exact this, fun e => by rw [if_neg e] at this; exact this⟩
theorem decF_some : ∀ (l : List UInt8) (i acc n s : Nat), acc < 2 ^ (7 * i) → decF i acc l = some (n, s) → i < s ∧ s ≤ i + l.length ∧ s ≤ 10 ∧ n < 18446744073709551616 := by
 intro l
 induction l with
 | nil => intro i acc n s _ h; cases h
 | cons x r ih =>
   intro i acc n s ha h
   by_cases h10 : i ≥ 10
   · rw [decF, if_pos h10] at h; cases h
   by_cases hov : i = 9 ∧ x.toNat % 128 > 1
   · rw [decF_over hov.1 hov.2] at h; cases h
   by_cases h0 : x.toNat = 0 ∧ 0 < i
   · rw [decF_long h0.1 h0.2 (by omega)] at h; cases h
   obtain ⟨_, _, _, h1, h2⟩ := shift_fits i (x.toNat % 128) acc (by omega) (by omega) hov ha
   by_cases hb : x.toNat < 128
   · rw [decF_last (by omega) hov h0 hb] at h
     injection h with h
     injection h with h3 h4
     simp only [List.length_cons]
     omega
   · rw [decF_more (by omega) hov hb] at h
     have := ih (i + 1) _ n s h1 h
     simp only [List.length_cons]
     omega
theorem dec_some {l : List UInt8} {n s : Nat} (h : dec l = some (n, s)) : 0 < s ∧ s ≤ l.length ∧ s ≤ 10 ∧ n < 18446744073709551616 := by
 have := decF_some l 0 0 n s (by simp) h
 omega
theorem fail_any (w : World) (g : Nat) (F : List Nat) (l : List UInt8) (bad : Bool) (hr : Rd w g F l bad) :
  Calls Tryz.prog 116 #[.pointer (some ⟨g, 0, none⟩)] w fun e w' => e = .returned (.tuple #[]) ∧ Rd w' g F [] true ∧ Fr [g] w w' := by
 obtain ⟨A, n, c, hA, hb, hy, hc⟩ := hr
 have hc0 := hb.cell 0
 have hc1 := hb.cell 1
 simp at hc0 hc1
 have hz0 := hb.frozen 0
 have hz1 := hb.frozen 1
 go_enter Tryz.func116, Tryz.ntmps116
 go_wp2
 go_end0
 refine ⟨rfl, ⟨none, 0, 0, by simp [bk], ?_, By.nil _ _, Nat.le_refl _⟩, ?_⟩
 · have := (hb.set 0 (.slice none 0 0)).set 1 (.bool true)
   simpa using this
 · exact ((Fr.refl [g] w).setCell _ (fun _ => by simp) _).setCell _ (fun _ => by simp) _
theorem ok_any (w : World) (g : Nat) (F : List Nat) (l : List UInt8) (bad : Bool) (hr : Rd w g F l bad) :
  Calls Tryz.prog 41 #[.pointer (some ⟨g, 0, none⟩)] w fun e w' => e = .returned (.bool (!bad)) ∧ w = w' := by
 obtain ⟨A, n, c, hA, hb, hy, hc⟩ := hr
 have hc1 := hb.cell 1
 simp at hc1
 go_enter Tryz.func41, Tryz.ntmps41
 go_wp2
 go_ret
 exact ⟨rfl, rfl⟩
theorem left_any (w : World) (g : Nat) (F : List Nat) (l : List UInt8) (bad : Bool) (hr : Rd w g F l bad) :
  Calls Tryz.prog 42 #[.pointer (some ⟨g, 0, none⟩)] w fun e w' => e = .returned (.int .i64 l.length) ∧ w = w' := by
 obtain ⟨A, n, c, hA, hb, hy, hc⟩ := hr
 have hc0 := hb.cell 0
 simp at hc0
 have HY := Lib.hid hy
 clear hy
 go_enter Tryz.func42, Tryz.ntmps42
 go_wp2
 go_ret
 exact ⟨by rw [HY.out.1]; rfl, rfl⟩
set_option maxHeartbeats 400000 in
theorem rnum_bad (w : World) (g : Nat) (F : List Nat) (l : List UInt8) (bad : Bool) (hr : Rd w g F l bad) (hl : l.length ≤ 1073741824) (hd : dec l = none) :
  Calls Tryz.prog 83 #[.pointer (some ⟨g, 0, none⟩)] w fun e w' => e = .returned (.int .u64 0) ∧ Rd w' g F [] true ∧ Fr [g] w w' := by
 have hr0 := hr
 obtain ⟨A, n, c, hA, hb, hy, hc⟩ := hr
 have hc0 := hb.cell 0
 simp at hc0
 have hn : n ≤ 1073741824 := by rw [← hy.1]; exact hl
 have hS : decS l = 0 := by simp [decS, hd]
 have HY := Lib.hid hy
 have HR := Lib.hid hr0
 have HS := Lib.hid hS
 clear hy hr0 hd hS hl
 go_enter Tryz.func83, Tryz.ntmps83
 go_wp2_with fail
 refine (number_any A n c l w HY.out hn hc).mono ?_
 rintro e w1 ⟨rfl, rfl⟩
 rw [HS.out]
 go_wp2_with fail
 refine (fail_any w g F l bad HR.out).mono ?_
 rintro e w1 ⟨rfl, h1, h2⟩
 have H1 := Lib.hid h1
 have H2 := Lib.hid h2
 clear h1 h2
 go_wp2
 go_ret
 exact ⟨rfl, H1.out, H2.out⟩
set_option maxHeartbeats 400000 in
theorem rnum_ok (w : World) (g : Nat) (F : List Nat) (l : List UInt8) (bad : Bool) (hr : Rd w g F l bad) (hl : l.length ≤ 1073741824) (v s : Nat) (hd : dec l = some (v, s)) :
  Calls Tryz.prog 83 #[.pointer (some ⟨g, 0, none⟩)] w fun e w' => e = .returned (.int .u64 v) ∧ Rd w' g F (l.drop s) bad ∧ Fr [g] w w' := by
 obtain ⟨A, n, c, hA, hb, hy, hc⟩ := hr
 have hc0 := hb.cell 0
 simp at hc0
 have hz0 := hb.frozen 0
 have hn : n ≤ 1073741824 := by rw [← hy.1]; exact hl
 have hS : decS l = s := by simp [decS, hd]
 have hN : decN l = v := by simp [decN, hd]
 obtain ⟨hs0, hsl, hs10, _⟩ := dec_some hd
 have hsn : s ≤ n := by rw [← hy.1]; exact hsl
 have HY := Lib.hid hy
 have HS := Lib.hid hS
 have HN := Lib.hid hN
 have hsb : ((s : Int) == 0) = false := by simp; omega
 clear hy hd hS hN hl hsl
 go_enter Tryz.func83, Tryz.ntmps83
 go_wp2_with fail
 refine (number_any A n c l w HY.out hn hc).mono ?_
 rintro e w1 ⟨rfl, rfl⟩
 rw [HS.out, HN.out]
 have HC := Lib.hid (HY.out.cut' hsn hc)
 by_cases hcs : c = s
 · subst hcs
   have hcc := HC.out.1 rfl
   rw [show n - c = 0 by omega] at hcc
   obtain ⟨h1, h2⟩ := Rd.set hb hA hcc (c' := 0) (by omega)
   have H1 := Lib.hid h1
   have H2 := Lib.hid h2
   clear h1 h2
   go_wp2
   go_ret
   exact ⟨rfl, H1.out, H2.out⟩
 · obtain ⟨h1, h2⟩ := Rd.set hb (by rw [bk_map]; exact hA) (HC.out.2 hcs) (c' := c - s) (by omega)
   have H1 := Lib.hid h1
   have H2 := Lib.hid h2
   clear h1 h2
   go_wp2
   go_ret
   exact ⟨rfl, H1.out, H2.out⟩
/-! ### Int -/
set_option maxHeartbeats 400000 in
theorem rint_ok (w : World) (g : Nat) (F : List Nat) (l : List UInt8) (bad : Bool) (hr : Rd w g F l bad) (hl : l.length ≤ 1073741824) (v s : Nat) (hd : dec l = some (v, s)) (m : Int) (hm : v ≤ m) (hm2 : m < 9223372036854775808) :
  Calls Tryz.prog 78 #[.pointer (some ⟨g, 0, none⟩), .int .i64 m] w fun e w' => e = .returned (.int .i64 v) ∧ Rd w' g F (l.drop s) bad ∧ Fr [g] w w' := by
 have HR := Lib.hid hr
 have HD := Lib.hid hd
 have HM := Lib.hid hm2
 have HV := Lib.hid (dec_some hd).2.2.2
 clear hr hd hm2
 go_enter Tryz.func78, Tryz.ntmps78
 go_wp2_with fail
 refine (rnum_ok w g F l bad HR.out hl v s HD.out).mono ?_
 rintro e w1 ⟨rfl, h1, h2⟩
 have H1 := Lib.hid h1
 have H2 := Lib.hid h2
 clear h1 h2
 have hw : IntKind.u64.wrap m = m := IntWalk.u64_in m ⟨by omega, by have := HM.out; omega⟩
 have hw2 : IntKind.i64.wrap (v : Int) = v := IntWalk.i64_in v ⟨by omega, by have := HM.out; omega⟩
 have hm0 : ¬ m < 0 := by omega
 go_wp2
 go_ret
 exact ⟨rfl, H1.out, H2.out⟩
def intBad (l : List UInt8) (m : Int) : Prop := dec l = none ∨ ∃ v s, dec l = some (v, s) ∧ m < v
set_option maxHeartbeats 400000 in
theorem rint_bad (w : World) (g : Nat) (F : List Nat) (l : List UInt8) (bad : Bool) (hr : Rd w g F l bad) (hl : l.length ≤ 1073741824) (m : Int) (hm : intBad l m) (hm2 : m < 9223372036854775808) :
  Calls Tryz.prog 78 #[.pointer (some ⟨g, 0, none⟩), .int .i64 m] w fun e w' => e = .returned (.int .i64 0) ∧ Rd w' g F [] true ∧ Fr [g] w w' := by
 have HR := Lib.hid hr
 have HM2 := Lib.hid hm2
 clear hr hm2
 rcases hm with hd | ⟨v, s, hd, hm⟩
 · have HD := Lib.hid hd
   clear hd
   by_cases hm0 : m < 0
   · go_enter Tryz.func78, Tryz.ntmps78
     go_wp2_with fail
     refine (rnum_bad w g F l bad HR.out hl HD.out).mono ?_
     rintro e w1 ⟨rfl, h1, h2⟩
     have H1 := Lib.hid h1
     have H2 := Lib.hid h2
     clear h1 h2
     go_wp2_with fail
     refine (fail_any w1 g F [] true H1.out).mono ?_
     rintro e w2 ⟨rfl, h3, h4⟩
     have H3 := Lib.hid h3
     have H4 := Lib.hid (H2.out.trans h4 (fun _ h _ => h))
     clear h3 h4
     go_wp2
     go_ret
     exact ⟨rfl, H3.out, H4.out⟩
   · go_enter Tryz.func78, Tryz.ntmps78
     go_wp2_with fail
     refine (rnum_bad w g F l bad HR.out hl HD.out).mono ?_
     rintro e w1 ⟨rfl, h1, h2⟩
     have H1 := Lib.hid h1
     have H2 := Lib.hid h2
     clear h1 h2
     have hw : IntKind.u64.wrap m = m := IntWalk.u64_in m ⟨by omega, by have := HM2.out; omega⟩
     go_wp2
     go_ret
     exact ⟨rfl, H1.out, H2.out⟩
 · have HD := Lib.hid hd
   have HV := Lib.hid (dec_some hd).2.2.2
   clear hd
   by_cases hm0 : m < 0
   all_goals
    go_enter Tryz.func78, Tryz.ntmps78
    go_wp2_with fail
    refine (rnum_ok w g F l bad HR.out hl v s HD.out).mono ?_
    rintro e w1 ⟨rfl, h1, h2⟩
    have H1 := Lib.hid h1
    have H2 := Lib.hid h2
    clear h1 h2
    have hw : m < 0 ∨ IntKind.u64.wrap m = m := by
     by_cases h : m < 0
     · exact .inl h
     · exact .inr (IntWalk.u64_in m ⟨by omega, by have := HM2.out; omega⟩)
    rcases hw with hw | hw
    all_goals
     go_wp2_with fail
     try
      refine (fail_any w1 g F _ _ H1.out).mono ?_
      rintro e w2 ⟨rfl, h3, h4⟩
      have H3 := Lib.hid h3
      have H4 := Lib.hid (H2.out.trans h4 (fun _ h _ => h))
      clear h3 h4
      go_wp2
      go_ret
      exact ⟨rfl, H3.out, H4.out⟩
/-! ### take -/
set_option maxHeartbeats 400000 in
theorem take_bad (w : World) (g : Nat) (F : List Nat) (l : List UInt8) (bad : Bool) (hr : Rd w g F l bad) (k : Nat) (hk : l.length < k) :
  Calls Tryz.prog 124 #[.pointer (some ⟨g, 0, none⟩), .int .i64 k] w fun e w' => e = .returned (.slice none 0 0) ∧ Rd w' g F [] true ∧ Fr [g] w w' := by
 have HR := Lib.hid hr
 obtain ⟨A, n, c, hA, hb, hy, hc⟩ := hr
 have hc0 := hb.cell 0
 simp at hc0
 have hn : n < k := by rw [← hy.1]; exact hk
 clear hy hk
 go_enter Tryz.func124, Tryz.ntmps124
 go_wp2_with fail
 refine (fail_any w g F _ _ HR.out).mono ?_
 rintro e w2 ⟨rfl, h3, h4⟩
 have H3 := Lib.hid h3
 have H4 := Lib.hid h4
 clear h3 h4
 go_wp2
 go_ret
 exact ⟨rfl, H3.out, H4.out⟩
set_option maxHeartbeats 400000 in
theorem take_ok (w : World) (g : Nat) (F : List Nat) (l : List UInt8) (bad : Bool) (hr : Rd w g F l bad) (hl : l.length ≤ 1073741824) (k : Nat) (hk : k ≤ l.length) :
  Calls Tryz.prog 124 #[.pointer (some ⟨g, 0, none⟩), .int .i64 k] w fun e w' =>
   ∃ A c, e = .returned (.slice A k c) ∧ By w' A k (l.take k) ∧ k ≤ c ∧ (∀ x ∈ bk A, x ∈ F ∧ x ≠ g) ∧ Rd w' g F (l.drop k) bad ∧ Fr [g] w w' := by
 obtain ⟨A, n, c, hA, hb, hy, hc⟩ := hr
 have hc0 := hb.cell 0
 simp at hc0
 have hz0 := hb.frozen 0
 have hn : n ≤ 1073741824 := by rw [← hy.1]; exact hl
 have hsn : k ≤ n := by rw [← hy.1]; exact hk
 have HY := Lib.hid hy
 clear hy hl hk
 have HC := Lib.hid (HY.out.cut' hsn hc)
 have hAg : ∀ (l : List UInt8) (q : Nat) (w' : World), By w A q l → Fr [g] w w' → By w' A q l := fun l q w' h hf => h.keep hf (fun a ha => by have := (hA a.block (by simp [bk, ha])).2; simpa using this)
 have HAG := Lib.hid hAg
 have HA := Lib.hid hA
 clear hAg
 by_cases hcs : c = k
 · subst hcs
   have hcc := HC.out.1 rfl
   rw [show n - c = 0 by omega] at hcc
   obtain ⟨h1, h2⟩ := Rd.set hb hA hcc (c' := 0) (by omega)
   have H1 := Lib.hid h1
   have H2 := Lib.hid h2
   clear h1 h2 hA hcc
   go_enter Tryz.func124, Tryz.ntmps124
   go_wp2
   go_ret
   exact ⟨A, c, rfl, HAG.out _ _ _ (HY.out.take hsn) H2.out, Nat.le_refl _, HA.out, H1.out, H2.out⟩
 · obtain ⟨h1, h2⟩ := Rd.set hb (by rw [bk_map]; exact hA) (HC.out.2 hcs) (c' := c - k) (by omega)
   have H1 := Lib.hid h1
   have H2 := Lib.hid h2
   clear h1 h2 hA
   go_enter Tryz.func124, Tryz.ntmps124
   go_wp2
   go_ret
   exact ⟨A, c, rfl, HAG.out _ _ _ (HY.out.take hsn) H2.out, by omega, HA.out, H1.out, H2.out⟩
/-! ### Row -/
set_option maxHeartbeats 400000 in
theorem rrow_ok (w : World) (g : Nat) (F : List Nat) (l : List UInt8) (bad : Bool) (hr : Rd w g F l bad) (hl : l.length ≤ 1073741824) (v s : Nat) (hd : dec l = some (v, s)) (m : Int) (hm : v ≤ m) (hm2 : m < 9223372036854775808) (hv : s + v ≤ l.length) :
  Calls Tryz.prog 90 #[.pointer (some ⟨g, 0, none⟩), .int .i64 m] w fun e w' =>
   ∃ A c w1, e = .returned (.slice A v c) ∧ Fr [g] w w1 ∧ NewB w1 w' A v c ((l.drop s).take v) ∧ Rd w' g F (l.drop (s + v)) bad := by
 have HR := Lib.hid hr
 have HD := Lib.hid hd
 have HM := Lib.hid hm2
 clear hr hd hm2
 have hgl := HR.out.lt
 go_enter Tryz.func90, Tryz.ntmps90
 go_wp2_with fail
 refine (rint_ok w g F l bad HR.out hl v s HD.out m hm HM.out).mono ?_
 rintro e w1 ⟨rfl, h1, h2⟩
 have H1 := Lib.hid h1
 have H2 := Lib.hid h2
 clear h1 h2
 go_wp2_with fail
 refine (take_ok w1 g F (l.drop s) bad H1.out (by rw [List.length_drop]; omega) v (by rw [List.length_drop]; omega)).mono ?_
 rintro e w2 ⟨A2, c2, rfl, h3, h4, h5, h6, h7⟩
 have H3 := Lib.hid h3
 have H6 := Lib.hid h6
 have H7 := Lib.hid (H2.out.trans h7 (fun _ h _ => h))
 clear h3 h5 h6 h7
 go_wp2_with fail
 refine (clone_any A2 v c2 _ w2 H3.out (by omega)).mono ?_
 rintro e w3 ⟨A3, c3, rfl, hN⟩
 have HN := Lib.hid hN
 clear hN
 go_wp2
 go_ret
 refine ⟨A3, c3, w2, rfl, H7.out, HN.out, ?_⟩
 have := H6.out.keep HN.out.2.1 (by simp) (by simp)
 rw [List.drop_drop] at this
 exact this
def rowBad (l : List UInt8) (m : Int) : Prop := intBad l m ∨ ∃ v s, dec l = some (v, s) ∧ (v : Int) ≤ m ∧ l.length < s + v
set_option maxHeartbeats 400000 in
theorem rrow_bad (w : World) (g : Nat) (F : List Nat) (l : List UInt8) (bad : Bool) (hr : Rd w g F l bad) (hl : l.length ≤ 1073741824) (m : Int) (hm : rowBad l m) (hm2 : m < 9223372036854775808) :
  Calls Tryz.prog 90 #[.pointer (some ⟨g, 0, none⟩), .int .i64 m] w fun e w' =>
   ∃ A c w1, e = .returned (.slice A 0 c) ∧ Fr [g] w w1 ∧ NewB w1 w' A 0 c [] ∧ Rd w' g F [] true := by
 have HR := Lib.hid hr
 have HM2 := Lib.hid hm2
 clear hr hm2
 rcases hm with hm | ⟨v, s, hd, hvm, hv⟩
 · have HM := Lib.hid hm
   clear hm
   go_enter Tryz.func90, Tryz.ntmps90
   go_wp2_with fail
   refine (rint_bad w g F l bad HR.out hl m HM.out HM2.out).mono ?_
   rintro e w1 ⟨rfl, h1, h2⟩
   have H1 := Lib.hid h1
   have H2 := Lib.hid h2
   clear h1 h2
   go_wp2_with fail
   rw [show (0 : Int) = ((0 : Nat) : Int) from rfl]
   refine (take_ok w1 g F [] true H1.out (by simp) 0 (by simp)).mono ?_
   rintro e w2 ⟨A2, c2, rfl, h3, h4, h5, h6, h7⟩
   have H3 := Lib.hid h3
   have H6 := Lib.hid h6
   have H7 := Lib.hid (H2.out.trans h7 (fun _ h _ => h))
   clear h3 h5 h6 h7
   go_wp2_with fail
   refine (clone_any A2 0 c2 _ w2 H3.out (by omega)).mono ?_
   rintro e w3 ⟨A3, c3, rfl, hN⟩
   have HN := Lib.hid hN
   clear hN
   go_wp2
   go_ret
   exact ⟨A3, c3, w2, rfl, H7.out, HN.out, H6.out.keep HN.out.2.1 (by simp) (by simp)⟩
 · have HD := Lib.hid hd
   have hs := (dec_some hd).2.2.1
   have hsl := (dec_some hd).2.1
   clear hd
   go_enter Tryz.func90, Tryz.ntmps90
   go_wp2_with fail
   refine (rint_ok w g F l bad HR.out hl v s HD.out m hvm HM2.out).mono ?_
   rintro e w1 ⟨rfl, h1, h2⟩
   have H1 := Lib.hid h1
   have H2 := Lib.hid h2
   clear h1 h2
   go_wp2_with fail
   refine (take_bad w1 g F (l.drop s) bad H1.out v (by rw [List.length_drop]; omega)).mono ?_
   rintro e w2 ⟨rfl, h6, h7⟩
   have H6 := Lib.hid h6
   have H7 := Lib.hid (H2.out.trans h7 (fun _ h _ => h))
   clear h6 h7
   go_wp2_with fail
   refine (clone_any none 0 0 [] w2 (By.nil _ _) (by omega)).mono ?_
   rintro e w3 ⟨A3, c3, rfl, hN⟩
   have HN := Lib.hid hN
   clear hN
   go_wp2
   go_ret
   exact ⟨A3, c3, w2, rfl, H7.out, HN.out, H6.out.keep HN.out.2.1 (by simp) (by simp)⟩
/-! ### NewReader -/
theorem newReader_any (A : Option Addr) (n c : Nat) (l : List UInt8) (w : World) (hr : By w A n l) (hn : n ≤ 1073741824) :
  Calls Tryz.prog 38 #[.slice A n c] w fun e w' => ∃ g F, e = .returned (.pointer (some ⟨g, 0, none⟩)) ∧ Rd w' g F l false ∧ Fr [] w w' ∧ w.heap.size ≤ g ∧ ∀ k ∈ F, w.heap.size ≤ k ∧ k < w'.heap.size := by
 have HR := Lib.hid hr
 clear hr
 go_enter Tryz.func38, Tryz.ntmps38
 go_wp2_with fail
 refine (clone_any A n c l w HR.out hn).mono ?_
 rintro e w1 ⟨A1, c1, rfl, hN⟩
 have HN := Lib.hid hN
 have hs := hN.2.1.size
 clear hN
 go_wp2
 go_ret
 have hlt : ∀ k ∈ bk A1, k < w1.heap.size := fun k hk => own_lt HN.out.1 k (by rw [bk_mem]; exact hk)
 refine ⟨w1.heap.size, bk A1, rfl, ⟨A1, n, c1, fun k hk => ⟨hk, by have := hlt k hk; omega⟩, Blk.new _ _ _, HN.out.by.keep ((Fr.refl [] w1).alloc _) (by simp), HN.out.cap⟩, HN.out.2.1.alloc _, hs, ?_⟩
 intro k hk
 have h1 := hlt k hk
 have h2 := HN.out.2.2 k hk
 simp
 omega
end Go.Proofs.YtdenpfcgghangaaGreat
