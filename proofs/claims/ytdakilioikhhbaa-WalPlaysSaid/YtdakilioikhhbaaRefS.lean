/- gavelref01's Reader: Int, Row, Hash; and code's reader beside it, each read as one function of what is left. -/
import Derived.Test.YtdakilioikhhbaaRefR
import Derived.Test.YtdakilioikhhbaaRead
import Derived.Test.YtdakilioikhhbaaLend
namespace Go.Proofs.Ytdakilioikhhbaa
open Go.RowKit

theorem rw_in (R : List UInt8) (m : Int) (bad : Bool) :
    rwV R m = (if (inL R m).length < inN R m then [] else (inL R m).take (inN R m)) ∧ rwL R m = (if (inL R m).length < inN R m then [] else (inL R m).drop (inN R m)) ∧
      rwB R m bad = (if (inL R m).length < inN R m then true else inB R m bad) := by
  unfold rwV rwL rwB inL inN inB
  cases hd : dec R with
  | none => simp
  | some p =>
    obtain ⟨v, s⟩ := p
    have hs := (dec_some hd).2.1
    by_cases hv : (v : Int) ≤ m
    · by_cases hl : s + v ≤ R.length
      · have h2 : ¬ (R.drop s).length < v := by rw [List.length_drop]; omega
        simp only [hv, hl, and_self, if_true, h2, if_false, List.drop_drop]
      · have h2 : (R.drop s).length < v := by rw [List.length_drop]; omega
        simp only [hv, hl, and_false, if_true, h2, if_false]
        exact ⟨trivial, trivial, trivial⟩
    · simp [hv]

section
variable {w : World} {g : Nat} {F : List Nat} {R : List UInt8} {bad : Bool}
/-! ### code's reader, with its blocks named -/
theorem rnum_f (hr : Rd w g F R bad) (hl : R.length ≤ 1073741824) :
    Calls Try.prog 59 #[.pointer (some ⟨g, 0, none⟩)] w fun e w' => e = .returned (.int .u64 (rdN R)) ∧ Rd w' g F (rdL R) (rdB R bad) ∧ Fr [g] w w' := by
  unfold rdN rdL rdB
  cases hd : dec R with
  | none => exact rnum_bad w g F R bad hr hl hd
  | some p => exact rnum_ok w g F R bad hr hl p.1 p.2 hd
theorem rint_f (m : Int) (hm2 : m < 9223372036854775808) (hr : Rd w g F R bad) (hl : R.length ≤ 1073741824) :
    Calls Try.prog 53 #[.pointer (some ⟨g, 0, none⟩), .int .i64 m] w fun e w' => e = .returned (.int .i64 (inN R m)) ∧ Rd w' g F (inL R m) (inB R m bad) ∧ Fr [g] w w' := by
  unfold inN inL inB
  cases hd : dec R with
  | none => exact rint_bad w g F R bad hr hl m (intBad_none hd) hm2
  | some p =>
    by_cases hv : (p.1 : Int) ≤ m
    · simp only [if_pos hv]
      exact rint_ok w g F R bad hr hl p.1 p.2 hd m hv hm2
    · simp only [if_neg hv]
      exact rint_bad w g F R bad hr hl m (intBad_lt hd (by omega)) hm2
theorem inL_len (R : List UInt8) (m : Int) : (inL R m).length ≤ R.length := by
  unfold inL
  split
  · split
    · rw [List.length_drop]; omega
    · simp
  · simp
theorem rdL_len (R : List UInt8) : (rdL R).length ≤ R.length := by
  unfold rdL
  split
  · rw [List.length_drop]; omega
  · simp
theorem inN_max (R : List UInt8) (m : Int) (h : m < 9223372036854775808) : inN R m < 9223372036854775808 := by
  unfold inN
  split
  · split
    · omega
    · omega
  · omega
set_option maxHeartbeats 400000 in
theorem rrow_f (m : Int) (hm2 : m < 9223372036854775808) (hr : Rd w g F R bad) (hl : R.length ≤ 1073741824) :
    Calls Try.prog 39 #[.pointer (some ⟨g, 0, none⟩), .int .i64 m] w fun e w' =>
      ∃ A c s, e = .returned (.slice A (rwV R m).length c) ∧ FullB w' A (rwV R m).length c (rwV R m) s ∧ (∀ x ∈ bk A, w.heap.size ≤ x) ∧ c ≤ maxLen ∧ Rd w' g F (rwL R m) (rwB R m bad) ∧ Fr [g] w w' := by
  have HR := Lib.hid hr
  have HM := Lib.hid hm2
  have HW := Lib.hid (rw_in R m bad)
  have HLL := Lib.hid (inL_len R m)
  clear hr hm2
  go_enter Try.func39, Try.ntmps39
  go_wp2_with fail
  refine (rint_f m HM.out HR.out hl).mono ?_
  rintro e w1 ⟨rfl, h1, h2⟩
  have H1 := Lib.hid h1
  have H2 := Lib.hid h2
  clear h1 h2
  generalize inL R m = L at *
  generalize inN R m = k at *
  generalize inB R m bad = bad1 at *
  by_cases hk : L.length < k
  · rw [if_pos hk, if_pos hk, if_pos hk] at HW
    go_wp2_with fail
    refine (take_bad w1 g F L bad1 H1.out k hk).mono ?_
    rintro e w2 ⟨rfl, h6, h7⟩
    have H6 := Lib.hid h6
    have H7 := Lib.hid (H2.out.trans h7 (fun _ h _ => h))
    clear h6 h7
    go_wp2_with fail
    refine (clone_full none 0 0 [] w2 (By.nil _ _) (by omega)).mono ?_
    rintro e w3 ⟨A3, c3, s3, rfl, hF, hf, hn, hm⟩
    have HF := Lib.hid hF
    have HFR := Lib.hid hf
    have HN := Lib.hid hn
    have HMM := Lib.hid hm
    clear hF hf hn hm
    go_wp2
    go_ret
    rw [HW.out.1, HW.out.2.1, HW.out.2.2]
    exact ⟨A3, c3, s3, rfl, HF.out, fun x hx => Nat.le_trans H7.out.size (HN.out x hx), HMM.out, H6.out.keep HFR.out (by simp) (by simp), H7.out.trans HFR.out (by simp)⟩
  · rw [if_neg hk, if_neg hk, if_neg hk] at HW
    have hkl : k ≤ L.length := by omega
    have HLE := Lib.hid hkl
    have hLR := HLL.out
    clear hk hkl
    go_wp2_with fail
    refine (take_ok w1 g F L bad1 H1.out (by omega) k HLE.out).mono ?_
    rintro e w2 ⟨A2, c2, rfl, h3, h4, h5, h6, h7⟩
    have H3 := Lib.hid h3
    have H6 := Lib.hid h6
    have H7 := Lib.hid (H2.out.trans h7 (fun _ h _ => h))
    clear h3 h5 h6 h7
    go_wp2_with fail
    refine (clone_full A2 k c2 _ w2 H3.out (by have := HLE.out; omega)).mono ?_
    rintro e w3 ⟨A3, c3, s3, rfl, hF, hf, hn, hm⟩
    have HF := Lib.hid hF
    have HFR := Lib.hid hf
    have HN := Lib.hid hn
    have HMM := Lib.hid hm
    clear hF hf hn hm
    go_wp2
    go_ret
    rw [HW.out.1, HW.out.2.1, HW.out.2.2]
    have hlen : (L.take k).length = k := by rw [List.length_take]; have := HLE.out; omega
    rw [hlen]
    exact ⟨A3, c3, s3, rfl, HF.out, fun x hx => Nat.le_trans H7.out.size (HN.out x hx), HMM.out, H6.out.keep HFR.out (by simp) (by simp), H7.out.trans HFR.out (by simp)⟩

/-! ### the document's reader -/
theorem qnum_f (hr : Rq w g F R bad) (hl : R.length ≤ 1073741824) :
    Calls Try.prog 60 #[.pointer (some ⟨g, 0, none⟩)] w fun e w' => e = .returned (.int .u64 (rdN R)) ∧ Rq w' g F (rdL R) (rdB R bad) ∧ Fr [g] w w' := by
  refine (qnum_any w g F R bad hr hl).mono ?_
  rintro e w' ⟨rfl, hf, h⟩
  unfold rdN rdL rdB decN
  rcases h with ⟨hd, hq⟩ | ⟨v, s, hd, hq⟩
  · rw [hd]; exact ⟨rfl, hq, hf⟩
  · rw [hd]; exact ⟨rfl, hq, hf⟩
set_option maxHeartbeats 400000 in
theorem qint_f (m : Int) (hm2 : m < 9223372036854775808) (hr : Rq w g F R bad) (hl : R.length ≤ 1073741824) :
    Calls Try.prog 54 #[.pointer (some ⟨g, 0, none⟩), .int .i64 m] w fun e w' => e = .returned (.int .i64 (inN R m)) ∧ Rq w' g F (inL R m) (inB R m bad) ∧ Fr [g] w w' := by
  have HR := Lib.hid hr
  have HM := Lib.hid hm2
  have hrd : inN R m = (if (rdN R : Int) ≤ m then rdN R else 0) ∧ inL R m = (if (rdN R : Int) ≤ m then rdL R else []) ∧ inB R m bad = (if (rdN R : Int) ≤ m then rdB R bad else true) := by
    unfold inN inL inB rdN rdL rdB
    cases hd : dec R with
    | none => simp
    | some p => simp
  have hV : rdN R < 18446744073709551616 := by
    unfold rdN
    cases hd : dec R with
    | none => simp
    | some p => exact (dec_some hd).2.2.2
  have HRD := Lib.hid hrd
  clear hr hm2 hrd
  go_enter Try.func54, Try.ntmps54
  go_wp2_with fail
  refine (qnum_f HR.out hl).mono ?_
  rintro e w1 ⟨rfl, h1, h2⟩
  have H1 := Lib.hid h1
  have H2 := Lib.hid h2
  clear h1 h2
  generalize rdN R = v at *
  generalize rdL R = L at *
  generalize rdB R bad = bad1 at *
  by_cases hvm : (v : Int) ≤ m
  · rw [if_pos hvm, if_pos hvm, if_pos hvm] at HRD
    have hw : IntKind.u64.wrap m = m := IntWalk.u64_in m ⟨by omega, by have := HM.out; omega⟩
    have hw2 : IntKind.i64.wrap (v : Int) = v := IntWalk.i64_in v ⟨by omega, by have := HM.out; omega⟩
    have hm0 : ¬ m < 0 := by omega
    go_wp2
    go_ret
    rw [HRD.out.1, HRD.out.2.1, HRD.out.2.2]
    exact ⟨rfl, H1.out, H2.out⟩
  · rw [if_neg hvm, if_neg hvm, if_neg hvm] at HRD
    have hw : m < 0 ∨ (0 ≤ m ∧ IntKind.u64.wrap m = m) := by
      by_cases h : m < 0
      · exact .inl h
      · exact .inr ⟨by omega, IntWalk.u64_in m ⟨by omega, by have := HM.out; omega⟩⟩
    rcases hw with hw | ⟨hw0, hw⟩
    all_goals
      go_wp2_with fail
      refine (qfail_any w1 g F _ _ H1.out).mono ?_
      rintro e w2 ⟨rfl, h3, h4⟩
      have H3 := Lib.hid h3
      have H4 := Lib.hid (H2.out.trans h4 (fun _ h _ => h))
      clear h3 h4
      go_wp2
      go_ret
      rw [HRD.out.1, HRD.out.2.1, HRD.out.2.2]
      exact ⟨rfl, H3.out, H4.out⟩
/-- what a row that was read leaves -/
def RowPost (w : World) (g : Nat) (F : List Nat) (V L : List UInt8) (b : Bool) (e : Ending) (w' : World) : Prop :=
  ∃ A c, e = .returned (.slice A V.length c) ∧ By w' A V.length V ∧ (∀ x ∈ bk A, w.heap.size ≤ x ∧ x < w'.heap.size) ∧ Rq w' g F L b ∧ Fr [g] w w'
theorem RowPost.mk {w w' : World} {g : Nat} {F : List Nat} {V L : List UInt8} {b : Bool} {e : Ending} (h : ∃ A c, e = .returned (.slice A V.length c) ∧ By w' A V.length V ∧ (∀ x ∈ bk A, w.heap.size ≤ x ∧ x < w'.heap.size) ∧ Rq w' g F L b ∧ Fr [g] w w') : RowPost w g F V L b e w' := h
set_option maxHeartbeats 800000 in
theorem qrow_f (m : Int) (hm2 : m < 9223372036854775808) (hr : Rq w g F R bad) (hl : R.length ≤ 1073741824) :
    Calls Try.prog 42 #[.pointer (some ⟨g, 0, none⟩), .int .i64 m] w (RowPost w g F (rwV R m) (rwL R m) (rwB R m bad)) := by
  have HR := Lib.hid hr
  have HM := Lib.hid hm2
  have HW := Lib.hid (rw_in R m bad)
  have HLL := Lib.hid (inL_len R m)
  clear hr hm2
  go_enter Try.func42, Try.ntmps42
  go_wp2_with fail
  refine (qint_f m HM.out HR.out hl).mono ?_
  rintro e w1 ⟨rfl, h1, h2⟩
  have hq := h1
  have H1 := Lib.hid h1
  have H2 := Lib.hid h2
  have hLR := HLL.out
  clear h1 h2
  generalize inL R m = L at *
  generalize inN R m = k at *
  generalize inB R m bad = bad1 at *
  obtain ⟨A1, n1, c1, hA1, hb1, hy1, hnc1⟩ := hq
  have hc0 := hb1.cell 0
  simp at hc0
  have hz0 := hb1.frozen 0
  have hn1 : n1 = L.length := hy1.1.symm
  subst hn1
  have HA1 := Lib.hid hA1
  have HB1 := Lib.hid hb1
  have HY1 := Lib.hid hy1
  clear hA1 hb1 hy1
  by_cases hk : L.length < k
  · rw [if_pos hk, if_pos hk, if_pos hk] at HW
    go_wp2_with fail
    refine (qfail_any w1 g F L bad1 H1.out).mono ?_
    rintro e w2 ⟨rfl, h6, h7⟩
    have H6 := Lib.hid h6
    have H7 := Lib.hid (H2.out.trans h7 (fun _ h _ => h))
    clear h6 h7
    go_wp2
    go_ret
    rw [HW.out.1, HW.out.2.1, HW.out.2.2]
    exact RowPost.mk ⟨none, 0, rfl, By.nil _ _, by simp [bk], H6.out, H7.out⟩
  · rw [if_neg hk, if_neg hk, if_neg hk] at HW
    have hkl : k ≤ L.length := by omega
    have HLE := Lib.hid hkl
    clear hk
    have HT := Lib.hid (HY1.out.take hkl)
    have hlen : (L.take k).length = k := by rw [List.length_take]; omega
    have HLEN := Lib.hid hlen
    clear hlen
    go_wp2_with (at_builtin; refine Stop.mk ?_)
    refine Stop.go ?_
    refine wpList_append_bytes _ rfl (.const (.slice none 0 0)) (.tmp 24) _ rfl 5 Try.underlying22 info_u8 (.slice none 0 0) 0 [] rfl
      ⟨rfl, .inl ⟨rfl, rfl⟩⟩ A1 k c1 (L.take k) rfl HT.out ?_ ?_
    · have := HLE.out; omega
    intro A2 c2 w2 ho2 hg2 hat2
    have hf2 : Fr [] w1 w2 := (Fr.refl [] w1).grown hg2 (by intro k hk hl; simp [Value.ownBlock] at hk)
    have hnew : ∀ x ∈ bk A2, w1.heap.size ≤ x := by
      intro x hx
      rcases hat2 with h | h <;> rw [h] at hx <;> simp [Value.ownBlock] at hx <;> omega
    have hlt2 : ∀ x ∈ bk A2, x < w2.heap.size := fun x hx => own_lt ho2 x (by rw [bk_mem]; exact hx)
    have hgl : g < w1.heap.size := HB1.out.lt
    have HO2 := Lib.hid ho2
    have HF2 := Lib.hid hf2
    have HNEW := Lib.hid hnew
    have HLT2 := Lib.hid hlt2
    have HB2 := Lib.hid (HB1.out.keep hf2 (by simp))
    have HY2 := Lib.hid (HY1.out.keep hf2 (by simp))
    have hc02 := HB2.out.cell 0
    simp at hc02
    have hz02 := HB2.out.frozen 0
    have HGL := Lib.hid hgl
    have hge : g ∉ bk A2 := fun h => by have := hnew g h; omega
    have HGE := Lib.hid hge
    clear ho2 hf2 hg2 hat2 hnew hlt2 hc0 hz0 hgl hge
    have HC := Lib.hid (HY2.out.cut' HLE.out hnc1)
    rw [Nat.zero_add]
    by_cases hcs : c1 = k
    · subst hcs
      have hcc := HC.out.1 rfl
      rw [show L.length - c1 = 0 by have := HLE.out; omega] at hcc
      obtain ⟨h1, h2⟩ := Rq.set HB2.out HA1.out hcc (c' := 0) (by omega)
      have HS1 := Lib.hid h1
      have HS2 := Lib.hid h2
      clear h1 h2 hcc
      go_wp2
      go_ret
      rw [HW.out.1, HW.out.2.1, HW.out.2.2]
      refine RowPost.mk ⟨A2, c2, by rw [HLEN.out]; rfl, by rw [HLEN.out]; exact (By.of_own (by have := HO2.out; rwa [Nat.zero_add, List.nil_append] at this)).keep HS2.out (fun a ha => by
        subst ha
        have := HGE.out
        simp [bk] at this ⊢
        omega), fun x hx => ⟨Nat.le_trans H2.out.size (HNEW.out x hx), Nat.lt_of_lt_of_le (HLT2.out x hx) HS2.out.size⟩, HS1.out, (H2.out.trans HF2.out (by simp)).trans HS2.out (fun _ h _ => h)⟩
    · obtain ⟨h1, h2⟩ := Rq.set HB2.out (by rw [bk_map]; exact HA1.out) (HC.out.2 hcs) (c' := c1 - k) (by omega)
      have HS1 := Lib.hid h1
      have HS2 := Lib.hid h2
      clear h1 h2
      go_wp2
      go_ret
      rw [HW.out.1, HW.out.2.1, HW.out.2.2]
      refine RowPost.mk ⟨A2, c2, by rw [HLEN.out]; rfl, by rw [HLEN.out]; exact (By.of_own (by have := HO2.out; rwa [Nat.zero_add, List.nil_append] at this)).keep HS2.out (fun a ha => by
        subst ha
        have := HGE.out
        simp [bk] at this ⊢
        omega), fun x hx => ⟨Nat.le_trans H2.out.size (HNEW.out x hx), Nat.lt_of_lt_of_le (HLT2.out x hx) HS2.out.size⟩, HS1.out, (H2.out.trans HF2.out (by simp)).trans HS2.out (fun _ h _ => h)⟩
end
end Go.Proofs.Ytdakilioikhhbaa
