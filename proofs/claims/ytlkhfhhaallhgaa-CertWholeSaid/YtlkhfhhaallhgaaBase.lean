/- The calls of package code once more, told by one number: below block B nothing turns, and the object lies from B on. -/
import Derived.Test.YtlkhfhhaallhgaaRHash
import Derived.Test.YtlkhfhhaallhgaaHelp
import Derived.Test.YtlkhfhhaallhgaaCodec
namespace Go.Proofs.Ytlkhfhhaallhgaa
open Go.RowKit

section
variable {w w' : World} {B B' : Nat}
theorem Fr.from {S : List Nat} (h : Fr S w w') (hB : B ≤ w.heap.size) (hs : ∀ k ∈ S, B ≤ k) : Below B w w' := h.below hB hs
theorem Fr.nil_below (h : Fr [] w w') (hB : B ≤ w.heap.size) : Below B w w' := h.below hB (by simp)
theorem intBad_none {l : List UInt8} {m : Int} (h : dec l = none) : intBad l m := Or.inl h
theorem intBad_lt {l : List UInt8} {v s : Nat} {m : Int} (h : dec l = some (v, s)) (hm : m < v) : intBad l m := Or.inr ⟨v, s, h, hm⟩
theorem rowBad_int {l : List UInt8} {m : Int} (h : intBad l m) : rowBad l m := Or.inl h
theorem rowBad_short {l : List UInt8} {v s : Nat} {m : Int} (h : dec l = some (v, s)) (hm : (v : Int) ≤ m) (hl : l.length < s + v) : rowBad l m := Or.inr ⟨v, s, h, hm, hl⟩
theorem intBad_neg (l : List UInt8) {m : Int} (h : m < 0) : intBad l m := by
  unfold intBad
  cases hd : dec l with
  | none => exact .inl rfl
  | some p => exact .inr ⟨p.1, p.2, rfl, by omega⟩
/-- a slice of bytes below B -/
def Lo (w : World) (B : Nat) (A : Option Addr) (n : Nat) (l : List UInt8) : Prop := By w A n l ∧ ∀ k ∈ bk A, k < B
theorem Lo.by {A : Option Addr} {n : Nat} {l : List UInt8} (h : Lo w B A n l) : By w A n l := h.1
theorem Lo.below {A : Option Addr} {n : Nat} {l : List UInt8} (h : Lo w B A n l) (hb : Below B w w') : Lo w' B A n l := by
  refine ⟨⟨h.1.1, fun hn => ?_⟩, h.2⟩
  obtain ⟨ad, rfl, hc⟩ := h.1.2 hn
  refine ⟨ad, rfl, fun j u hu => ?_⟩
  have := hc j u hu
  rw [hb.cell (by rw [add_block]; exact h.2 _ (by simp [bk]))]
  exact this
theorem Lo.more {A : Option Addr} {n : Nat} {l : List UInt8} (h : Lo w B A n l) (hB : B ≤ B') : Lo w B' A n l := ⟨h.1, fun k hk => Nat.lt_of_lt_of_le (h.2 k hk) hB⟩
theorem NewB.lo {A : Option Addr} {n c : Nat} {l : List UInt8} (h : NewB w w' A n c l) : Lo w' w'.heap.size A n l := ⟨h.by, h.lt⟩

/-- a writer from B on -/
def WB (w : World) (B g : Nat) (l : List UInt8) : Prop := ∃ S, Wr w S g l ∧ (∀ k ∈ S, B ≤ k) ∧ B ≤ w.heap.size
theorem WB.step {S S' : List Nat} {g : Nat} {l' : List UInt8} (hS : ∀ k ∈ S, B ≤ k) (hB : B ≤ w.heap.size) (h1 : Wr w' S' g l') (h2 : Fr S w w') (h3 : ∀ x ∈ S', x < w.heap.size → x ∈ S) : WB w' B g l' ∧ Below B w w' := by
  refine ⟨⟨S', h1, fun k hk => ?_, Nat.le_trans hB h2.size⟩, h2.below hB hS⟩
  by_cases h : k < w.heap.size
  · exact hS k (h3 k hk h)
  · omega
theorem WB.fr {g : Nat} {l : List UInt8} (h : WB w B g l) (hf : Fr [] w w') : WB w' B g l := by
  obtain ⟨S, h1, h2, h3⟩ := h
  exact ⟨S, h1.keep hf (by simp), h2, Nat.le_trans h3 hf.size⟩
theorem WB.lt {g : Nat} {l : List UInt8} (h : WB w B g l) : g < w.heap.size := by
  obtain ⟨S, h1, h2, h3⟩ := h
  obtain ⟨A, c, rfl, hb, _⟩ := h1
  exact hb.lt
theorem WB.low {g : Nat} {l : List UInt8} (h : WB w B g l) (hB : B' ≤ B) : WB w B' g l := by
  obtain ⟨S, h1, h2, h3⟩ := h
  exact ⟨S, h1, fun k hk => Nat.le_trans hB (h2 k hk), by omega⟩
end

section
variable {w : World} {B g : Nat} {l : List UInt8} {bad : Bool}
theorem newWriter_b (w : World) : Calls Try.prog 74 #[] w fun e w' => e = .returned (.pointer (some ⟨w.heap.size, 0, none⟩)) ∧ WB w' w.heap.size w.heap.size [] ∧ Below w.heap.size w w' :=
  (newWriter_any w).mono fun _ _ ⟨h1, h2, h3⟩ => ⟨h1, ⟨_, h2, by simp, h3.size⟩, h3.nil_below (Nat.le_refl _)⟩
theorem num_b (n : Nat) (hn : n < 18446744073709551616) (hw : WB w B g l) (hl : l.length < 1073741824) :
    Calls Try.prog 76 #[.pointer (some ⟨g, 0, none⟩), .int .u64 n] w fun e w' => e = .returned (.pointer (some ⟨g, 0, none⟩)) ∧ WB w' B g (l ++ enc n) ∧ Below B w w' := by
  obtain ⟨S, h1, h2, h3⟩ := hw
  exact (num_any n hn w S g l h1 hl).mono fun _ _ ⟨e1, S', k1, k2, k3⟩ => ⟨e1, WB.step h2 h3 k1 k2 k3⟩
theorem int_b (n : Nat) (hn : n < 9223372036854775808) (hw : WB w B g l) (hl : l.length < 1073741824) :
    Calls Try.prog 57 #[.pointer (some ⟨g, 0, none⟩), .int .i64 n] w fun e w' => e = .returned (.pointer (some ⟨g, 0, none⟩)) ∧ WB w' B g (l ++ enc n) ∧ Below B w w' := by
  obtain ⟨S, h1, h2, h3⟩ := hw
  exact (int_nat n hn w S g l h1 hl).mono fun _ _ ⟨e1, S', k1, k2, k3⟩ => ⟨e1, WB.step h2 h3 k1 k2 k3⟩
theorem int_neg_b (n : Int) (hn : n < 0) (hw : WB w B g l) (hl : l.length < 1073741824) :
    Calls Try.prog 57 #[.pointer (some ⟨g, 0, none⟩), .int .i64 n] w fun e w' => e = .returned (.pointer (some ⟨g, 0, none⟩)) ∧ WB w' B g (l ++ enc 0) ∧ Below B w w' := by
  obtain ⟨S, h1, h2, h3⟩ := hw
  exact (int_neg n hn w S g l h1 hl).mono fun _ _ ⟨e1, S', k1, k2, k3⟩ => ⟨e1, WB.step h2 h3 k1 k2 k3⟩
theorem row_b (A : Option Addr) (n c : Nat) (b : List UInt8) (hb : Lo w B A n b) (hn : n ≤ 1073741824) (hw : WB w B g l) (hl : l.length < 1073741000) :
    Calls Try.prog 75 #[.pointer (some ⟨g, 0, none⟩), .slice A n c] w fun e w' => e = .returned (.pointer (some ⟨g, 0, none⟩)) ∧ WB w' B g (l ++ (enc n ++ b)) ∧ Below B w w' := by
  obtain ⟨S, h1, h2, h3⟩ := hw
  exact (row_any A n c b w hb.1 hn S (fun k hk hm => by have := hb.2 k hk; have := h2 k hm; omega) g l h1 hl).mono fun _ _ ⟨e1, S', k1, k2, k3⟩ => ⟨e1, WB.step h2 h3 k1 k2 k3⟩
theorem row_n (w0 : World) (A : Option Addr) (n c : Nat) (b : List UInt8) (hN : NewB w0 w A n c b) (hn : n ≤ 1073741824) (hw : WB w0 B g l) (hl : l.length < 1073741000) :
    Calls Try.prog 75 #[.pointer (some ⟨g, 0, none⟩), .slice A n c] w fun e w' => e = .returned (.pointer (some ⟨g, 0, none⟩)) ∧ WB w' B g (l ++ (enc n ++ b)) ∧ Below B w w' := by
  obtain ⟨S, h1, h2, h3⟩ := hw
  exact (row_any A n c b w hN.by hn S (fun k hk hm => by have := hN.2.2 k hk; have := h1.lt k hm; omega) g l (h1.keep hN.2.1 (by simp)) hl).mono fun _ _ ⟨e1, S', k1, k2, k3⟩ => ⟨e1, WB.step h2 (Nat.le_trans h3 hN.2.1.size) k1 k2 k3⟩
theorem hash_b (h : List UInt8) (hh : h.length = 32) (hw : WB w B g l) (hl : l.length < 1073741000) :
    Calls Try.prog 56 #[.pointer (some ⟨g, 0, none⟩), .agg (h.map by8).toArray] w fun e w' => e = .returned (.pointer (some ⟨g, 0, none⟩)) ∧ WB w' B g (l ++ h) ∧ Below B w w' := by
  obtain ⟨S, h1, h2, h3⟩ := hw
  exact (hash_any h hh w S g l h1 hl).mono fun _ _ ⟨e1, S', k1, k2, k3⟩ => ⟨e1, WB.step h2 h3 k1 k2 k3⟩
theorem bytes_b (hw : WB w B g l) (hl : l.length ≤ 1073741824) :
    Calls Try.prog 58 #[.pointer (some ⟨g, 0, none⟩)] w fun e w' => ∃ A' c', e = .returned (.slice A' l.length c') ∧ NewB w w' A' l.length c' l ∧ WB w' B g l ∧ Below B w w' := by
  obtain ⟨S, h1, h2, h3⟩ := hw
  exact (bytes_any w S g l h1 hl).mono fun _ _ ⟨A', c', k1, k2⟩ => ⟨A', c', k1, k2, ⟨S, h1.keep k2.2.1 (by simp), h2, Nat.le_trans h3 k2.2.1.size⟩, k2.2.1.nil_below h3⟩

end
end Go.Proofs.Ytlkhfhhaallhgaa
