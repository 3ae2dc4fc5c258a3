/- The calls of package code once more, told by one number: below block B nothing turns, and the object lies from B on. -/
import Derived.Test.YtnpjihdhpoddgaaGreatRHash
import Derived.Test.YtnpjihdhpoddgaaGreatHelp
import Derived.Test.YtnpjihdhpoddgaaGreatCodec
set_option linter.unusedSimpArgs false
set_option linter.unusedVariables false
namespace Go.Proofs.YtnpjihdhpoddgaaGreat
open Go.RowKit

section
variable {w w' : World} {B B' : Nat}
theorem Fr.from {S : List Nat} (h : Fr S w w') (hB : B ≤ w.heap.size) (hs : ∀ k ∈ S, B ≤ k) : Below B w w' := h.below hB hs
theorem Fr.nil_below (h : Fr [] w w') (hB : B ≤ w.heap.size) : Below B w w' := h.below hB (by simp)
theorem intBad_none {l : List UInt8} {m : Int} (h : dec l = none) : intBad l m := Or.inl h
theorem intBad_lt {l : List UInt8} {v s : Nat} {m : Int} (h : dec l = some (v, s)) (hm : m < v) : intBad l m := Or.inr ⟨v, s, h, hm⟩
theorem rowBad_int {l : List UInt8} {m : Int} (h : intBad l m) : rowBad l m := Or.inl h
theorem rowBad_short {l : List UInt8} {v s : Nat} {m : Int} (h : dec l = some (v, s)) (hm : (v : Int) ≤ m) (hl : l.length < s + v) : rowBad l m := Or.inr ⟨v, s, h, hm, hl⟩
theorem intBad_neg (l : List UInt8) {m : Int} (h : m < 0) : intBad l m := by
  unfold intBad
  cases hd : dec l with
  | none => exact .inl rfl
  | some p => exact .inr ⟨p.1, p.2, rfl, by omega⟩
/-- a slice of bytes below B -/
def Lo (w : World) (B : Nat) (A : Option Addr) (n : Nat) (l : List UInt8) : Prop := By w A n l ∧ ∀ k ∈ bk A, k < B
theorem Lo.by {A : Option Addr} {n : Nat} {l : List UInt8} (h : Lo w B A n l) : By w A n l := h.1
theorem Lo.below {A : Option Addr} {n : Nat} {l : List UInt8} (h : Lo w B A n l) (hb : Below B w w') : Lo w' B A n l := by
  refine ⟨⟨h.1.1, fun hn => ?_⟩, h.2⟩
  obtain ⟨ad, rfl, hc⟩ := h.1.2 hn
  refine ⟨ad, rfl, fun j u hu => ?_⟩
  have := hc j u hu
  rw [hb.cell (by rw [add_block]; exact h.2 _ (by simp [bk]))]
  exact this
theorem Lo.more {A : Option Addr} {n : Nat} {l : List UInt8} (h : Lo w B A n l) (hB : B ≤ B') : Lo w B' A n l := ⟨h.1, fun k hk => Nat.lt_of_lt_of_le (h.2 k hk) hB⟩
theorem NewB.lo {A : Option Addr} {n c : Nat} {l : List UInt8} (h : NewB w w' A n c l) : Lo w' w'.heap.size A n l := ⟨h.by, h.lt⟩

/-- a writer from B on -/
def WB (w : World) (B g : Nat) (l : List UInt8) : Prop := ∃ S, Wr w S g l ∧ (∀ k ∈ S, B ≤ k) ∧ B ≤ w.heap.size
/-- a reader from B on -/
def RB (w : World) (B g : Nat) (l : List UInt8) (bad : Bool) : Prop := ∃ F, Rd w g F l bad ∧ B ≤ g ∧ (∀ k ∈ F, B ≤ k ∧ k < w.heap.size) ∧ B ≤ w.heap.size
theorem WB.step {S S' : List Nat} {g : Nat} {l' : List UInt8} (hS : ∀ k ∈ S, B ≤ k) (hB : B ≤ w.heap.size) (h1 : Wr w' S' g l') (h2 : Fr S w w') (h3 : ∀ x ∈ S', x < w.heap.size → x ∈ S) : WB w' B g l' ∧ Below B w w' := by
  refine ⟨⟨S', h1, fun k hk => ?_, Nat.le_trans hB h2.size⟩, h2.below hB hS⟩
  by_cases h : k < w.heap.size
  · exact hS k (h3 k hk h)
  · omega
theorem WB.fr {g : Nat} {l : List UInt8} (h : WB w B g l) (hf : Fr [] w w') : WB w' B g l := by
  obtain ⟨S, h1, h2, h3⟩ := h
  exact ⟨S, h1.keep hf (by simp), h2, Nat.le_trans h3 hf.size⟩
theorem WB.lt {g : Nat} {l : List UInt8} (h : WB w B g l) : g < w.heap.size := by
  obtain ⟨S, h1, h2, h3⟩ := h
  obtain ⟨A, c, rfl, hb, _⟩ := h1
  exact hb.lt
theorem RB.step {F : List Nat} {g : Nat} {l' : List UInt8} {bad' : Bool} (hg : B ≤ g) (hF : ∀ k ∈ F, B ≤ k ∧ k < w.heap.size) (hB : B ≤ w.heap.size) (h1 : Rd w' g F l' bad') (h2 : Fr [g] w w') : RB w' B g l' bad' ∧ Below B w w' :=
  ⟨⟨F, h1, hg, fun k hk => ⟨(hF k hk).1, Nat.lt_of_lt_of_le (hF k hk).2 h2.size⟩, Nat.le_trans hB h2.size⟩, h2.below hB (by simpa using hg)⟩
theorem RB.fr {g : Nat} {l : List UInt8} {bad : Bool} (h : RB w B g l bad) (hf : Fr [] w w') : RB w' B g l bad := by
  obtain ⟨F, h1, h2, h3, h4⟩ := h
  exact ⟨F, h1.keep hf (by simp) (by simp), h2, fun k hk => ⟨(h3 k hk).1, Nat.lt_of_lt_of_le (h3 k hk).2 hf.size⟩, Nat.le_trans h4 hf.size⟩
theorem RB.low {g : Nat} {l : List UInt8} {bad : Bool} (h : RB w B g l bad) (hB : B' ≤ B) : RB w B' g l bad := by
  obtain ⟨F, h1, h2, h3, h4⟩ := h
  exact ⟨F, h1, by omega, fun k hk => ⟨Nat.le_trans hB (h3 k hk).1, (h3 k hk).2⟩, by omega⟩
theorem WB.low {g : Nat} {l : List UInt8} (h : WB w B g l) (hB : B' ≤ B) : WB w B' g l := by
  obtain ⟨S, h1, h2, h3⟩ := h
  exact ⟨S, h1, fun k hk => Nat.le_trans hB (h2 k hk), by omega⟩
end

section
variable {w : World} {B g : Nat} {l : List UInt8} {bad : Bool}
theorem newWriter_b (w : World) : Calls Tryz.prog 31 #[] w fun e w' => e = .returned (.pointer (some ⟨w.heap.size, 0, none⟩)) ∧ WB w' w.heap.size w.heap.size [] ∧ Below w.heap.size w w' :=
  (newWriter_any w).mono fun _ _ ⟨h1, h2, h3⟩ => ⟨h1, ⟨_, h2, by simp, h3.size⟩, h3.nil_below (Nat.le_refl _)⟩
theorem num_b (n : Nat) (hn : n < 18446744073709551616) (hw : WB w B g l) (hl : l.length < 1073741824) :
    Calls Tryz.prog 83 #[.pointer (some ⟨g, 0, none⟩), .int .u64 n] w fun e w' => e = .returned (.pointer (some ⟨g, 0, none⟩)) ∧ WB w' B g (l ++ enc n) ∧ Below B w w' := by
  obtain ⟨S, h1, h2, h3⟩ := hw
  exact (num_any n hn w S g l h1 hl).mono fun _ _ ⟨e1, S', k1, k2, k3⟩ => ⟨e1, WB.step h2 h3 k1 k2 k3⟩
theorem int_b (n : Nat) (hn : n < 9223372036854775808) (hw : WB w B g l) (hl : l.length < 1073741824) :
    Calls Tryz.prog 32 #[.pointer (some ⟨g, 0, none⟩), .int .i64 n] w fun e w' => e = .returned (.pointer (some ⟨g, 0, none⟩)) ∧ WB w' B g (l ++ enc n) ∧ Below B w w' := by
  obtain ⟨S, h1, h2, h3⟩ := hw
  exact (int_nat n hn w S g l h1 hl).mono fun _ _ ⟨e1, S', k1, k2, k3⟩ => ⟨e1, WB.step h2 h3 k1 k2 k3⟩
theorem int_neg_b (n : Int) (hn : n < 0) (hw : WB w B g l) (hl : l.length < 1073741824) :
    Calls Tryz.prog 32 #[.pointer (some ⟨g, 0, none⟩), .int .i64 n] w fun e w' => e = .returned (.pointer (some ⟨g, 0, none⟩)) ∧ WB w' B g (l ++ enc 0) ∧ Below B w w' := by
  obtain ⟨S, h1, h2, h3⟩ := hw
  exact (int_neg n hn w S g l h1 hl).mono fun _ _ ⟨e1, S', k1, k2, k3⟩ => ⟨e1, WB.step h2 h3 k1 k2 k3⟩
theorem row_b (A : Option Addr) (n c : Nat) (b : List UInt8) (hb : Lo w B A n b) (hn : n ≤ 1073741824) (hw : WB w B g l) (hl : l.length < 1073741000) :
    Calls Tryz.prog 94 #[.pointer (some ⟨g, 0, none⟩), .slice A n c] w fun e w' => e = .returned (.pointer (some ⟨g, 0, none⟩)) ∧ WB w' B g (l ++ (enc n ++ b)) ∧ Below B w w' := by
  obtain ⟨S, h1, h2, h3⟩ := hw
  exact (row_any A n c b w hb.1 hn S (fun k hk hm => by have := hb.2 k hk; have := h2 k hm; omega) g l h1 hl).mono fun _ _ ⟨e1, S', k1, k2, k3⟩ => ⟨e1, WB.step h2 h3 k1 k2 k3⟩
theorem row_n (w0 : World) (A : Option Addr) (n c : Nat) (b : List UInt8) (hN : NewB w0 w A n c b) (hn : n ≤ 1073741824) (hw : WB w0 B g l) (hl : l.length < 1073741000) :
    Calls Tryz.prog 94 #[.pointer (some ⟨g, 0, none⟩), .slice A n c] w fun e w' => e = .returned (.pointer (some ⟨g, 0, none⟩)) ∧ WB w' B g (l ++ (enc n ++ b)) ∧ Below B w w' := by
  obtain ⟨S, h1, h2, h3⟩ := hw
  exact (row_any A n c b w hN.by hn S (fun k hk hm => by have := hN.2.2 k hk; have := h1.lt k hm; omega) g l (h1.keep hN.2.1 (by simp)) hl).mono fun _ _ ⟨e1, S', k1, k2, k3⟩ => ⟨e1, WB.step h2 (Nat.le_trans h3 hN.2.1.size) k1 k2 k3⟩
theorem hash_b (h : List UInt8) (hh : h.length = 32) (hw : WB w B g l) (hl : l.length < 1073741000) :
    Calls Tryz.prog 125 #[.pointer (some ⟨g, 0, none⟩), .agg (h.map by8).toArray] w fun e w' => e = .returned (.pointer (some ⟨g, 0, none⟩)) ∧ WB w' B g (l ++ h) ∧ Below B w w' := by
  obtain ⟨S, h1, h2, h3⟩ := hw
  exact (hash_any h hh w S g l h1 hl).mono fun _ _ ⟨e1, S', k1, k2, k3⟩ => ⟨e1, WB.step h2 h3 k1 k2 k3⟩
theorem bytes_b (hw : WB w B g l) (hl : l.length ≤ 1073741824) :
    Calls Tryz.prog 34 #[.pointer (some ⟨g, 0, none⟩)] w fun e w' => ∃ A' c', e = .returned (.slice A' l.length c') ∧ NewB w w' A' l.length c' l ∧ WB w' B g l ∧ Below B w w' := by
  obtain ⟨S, h1, h2, h3⟩ := hw
  exact (bytes_any w S g l h1 hl).mono fun _ _ ⟨A', c', k1, k2⟩ => ⟨A', c', k1, k2, ⟨S, h1.keep k2.2.1 (by simp), h2, Nat.le_trans h3 k2.2.1.size⟩, k2.2.1.nil_below h3⟩

theorem newReader_b (A : Option Addr) (n c : Nat) (l : List UInt8) (w : World) (hr : By w A n l) (hn : n ≤ 1073741824) :
    Calls Tryz.prog 56 #[.slice A n c] w fun e w' => ∃ g, e = .returned (.pointer (some ⟨g, 0, none⟩)) ∧ RB w' w.heap.size g l false ∧ Fr [] w w' :=
  (newReader_any A n c l w hr hn).mono fun _ _ ⟨g, F, k1, k2, k3, k4, k5⟩ => ⟨g, k1, ⟨F, k2, k4, k5, k3.size⟩, k3⟩
theorem ok_b (hr : RB w B g l bad) : Calls Tryz.prog 59 #[.pointer (some ⟨g, 0, none⟩)] w fun e w' => e = .returned (.bool (!bad)) ∧ w = w' := by
  obtain ⟨F, h1, _⟩ := hr
  exact ok_any w g F l bad h1
theorem left_b (hr : RB w B g l bad) : Calls Tryz.prog 60 #[.pointer (some ⟨g, 0, none⟩)] w fun e w' => e = .returned (.int .i64 l.length) ∧ w = w' := by
  obtain ⟨F, h1, _⟩ := hr
  exact left_any w g F l bad h1
theorem rnum_ok_b (v s : Nat) (hd : dec l = some (v, s)) (hr : RB w B g l bad) (hl : l.length ≤ 1073741824) :
    Calls Tryz.prog 107 #[.pointer (some ⟨g, 0, none⟩)] w fun e w' => e = .returned (.int .u64 v) ∧ RB w' B g (l.drop s) bad ∧ Below B w w' := by
  obtain ⟨F, h1, h2, h3, h4⟩ := hr
  exact (rnum_ok w g F l bad h1 hl v s hd).mono fun _ _ ⟨k1, k2, k3⟩ => ⟨k1, RB.step h2 h3 h4 k2 k3⟩
theorem rnum_bad_b (hd : dec l = none) (hr : RB w B g l bad) (hl : l.length ≤ 1073741824) :
    Calls Tryz.prog 107 #[.pointer (some ⟨g, 0, none⟩)] w fun e w' => e = .returned (.int .u64 0) ∧ RB w' B g [] true ∧ Below B w w' := by
  obtain ⟨F, h1, h2, h3, h4⟩ := hr
  exact (rnum_bad w g F l bad h1 hl hd).mono fun _ _ ⟨k1, k2, k3⟩ => ⟨k1, RB.step h2 h3 h4 k2 k3⟩
theorem rint_ok_b (v s : Nat) (hd : dec l = some (v, s)) (m : Int) (hm : v ≤ m) (hm2 : m < 9223372036854775808) (hr : RB w B g l bad) (hl : l.length ≤ 1073741824) :
    Calls Tryz.prog 102 #[.pointer (some ⟨g, 0, none⟩), .int .i64 m] w fun e w' => e = .returned (.int .i64 v) ∧ RB w' B g (l.drop s) bad ∧ Below B w w' := by
  obtain ⟨F, h1, h2, h3, h4⟩ := hr
  exact (rint_ok w g F l bad h1 hl v s hd m hm hm2).mono fun _ _ ⟨k1, k2, k3⟩ => ⟨k1, RB.step h2 h3 h4 k2 k3⟩
theorem rint_bad_b (m : Int) (hm : intBad l m) (hm2 : m < 9223372036854775808) (hr : RB w B g l bad) (hl : l.length ≤ 1073741824) :
    Calls Tryz.prog 102 #[.pointer (some ⟨g, 0, none⟩), .int .i64 m] w fun e w' => e = .returned (.int .i64 0) ∧ RB w' B g [] true ∧ Below B w w' := by
  obtain ⟨F, h1, h2, h3, h4⟩ := hr
  exact (rint_bad w g F l bad h1 hl m hm hm2).mono fun _ _ ⟨k1, k2, k3⟩ => ⟨k1, RB.step h2 h3 h4 k2 k3⟩
theorem rrow_ok_b (v s : Nat) (hd : dec l = some (v, s)) (m : Int) (hm : v ≤ m) (hm2 : m < 9223372036854775808) (hv : s + v ≤ l.length) (hr : RB w B g l bad) (hl : l.length ≤ 1073741824) :
    Calls Tryz.prog 114 #[.pointer (some ⟨g, 0, none⟩), .int .i64 m] w fun e w' => ∃ A c, e = .returned (.slice A v c) ∧ By w' A v ((l.drop s).take v) ∧ v ≤ c ∧ (∀ k ∈ bk A, w.heap.size ≤ k) ∧ RB w' B g (l.drop (s + v)) bad ∧ Below B w w' := by
  obtain ⟨F, h1, h2, h3, h4⟩ := hr
  refine (rrow_ok w g F l bad h1 hl v s hd m hm hm2 hv).mono fun _ w' ⟨A, c, w1, k1, k2, k3, k4⟩ => ⟨A, c, k1, k3.by, k3.cap, fun k hk => Nat.le_trans k2.size (k3.2.2 k hk), ?_⟩
  exact RB.step h2 h3 h4 k4 (k2.trans k3.2.1 (by simp))
theorem rrow_bad_b (m : Int) (hm : rowBad l m) (hm2 : m < 9223372036854775808) (hr : RB w B g l bad) (hl : l.length ≤ 1073741824) :
    Calls Tryz.prog 114 #[.pointer (some ⟨g, 0, none⟩), .int .i64 m] w fun e w' => ∃ A c, e = .returned (.slice A 0 c) ∧ By w' A 0 [] ∧ (∀ k ∈ bk A, w.heap.size ≤ k) ∧ RB w' B g [] true ∧ Below B w w' := by
  obtain ⟨F, h1, h2, h3, h4⟩ := hr
  refine (rrow_bad w g F l bad h1 hl m hm hm2).mono fun _ w' ⟨A, c, w1, k1, k2, k3, k4⟩ => ⟨A, c, k1, k3.by, fun k hk => Nat.le_trans k2.size (k3.2.2 k hk), ?_⟩
  exact RB.step h2 h3 h4 k4 (k2.trans k3.2.1 (by simp))
theorem rhash_b (hr : RB w B g l bad) (hl : l.length ≤ 1073741824) :
    Calls Tryz.prog 138 #[.pointer (some ⟨g, 0, none⟩)] w fun e w' => e = .returned (.agg ((hashOf l).map by8).toArray) ∧ RB w' B g (tookL l) (tookB l bad) ∧ Below B w w' := by
  obtain ⟨F, h1, h2, h3, h4⟩ := hr
  exact (rhash_any w g F l bad h1 (fun k hk => (h3 k hk).2) hl).mono fun _ _ ⟨k1, k2, k3⟩ => ⟨k1, RB.step h2 h3 h4 k2 k3⟩
end
end Go.Proofs.YtnpjihdhpoddgaaGreat
