/- The calls of package code once more, told by one number: below block B nothing turns, and the object lies from B on. -/
import Derived.Test.YtdenpfcgghangaaGreatRHash
import Derived.Test.YtdenpfcgghangaaGreatHelp
import Derived.Test.YtdenpfcgghangaaGreatCodec
set_option linter.unusedSimpArgs false
set_option linter.unusedVariables false
namespace Go.Proofs.YtdenpfcgghangaaGreat
open Go.RowKit
section
variable {w w' : World} {B B' : Nat}
theorem Fr.from {S : List Nat} (h : Fr S w w') (hB : B ≤ w.heap.size) (hs : ∀ k ∈ S, B ≤ k) : Below B w w' := h.below hB hs
theorem intBad_none {l : List UInt8} {m : Int} (h : dec l = none) : intBad l m := Or.inl h
theorem intBad_lt {l : List UInt8} {v s : Nat} {m : Int} (h : dec l = some (v, s)) (hm : m < v) : intBad l m := Or.inr ⟨v, s, h, hm⟩
theorem rowBad_int {l : List UInt8} {m : Int} (h : intBad l m) : rowBad l m := Or.inl h
theorem rowBad_short {l : List UInt8} {v s : Nat} {m : Int} (h : dec l = some (v, s)) (hm : (v : Int) ≤ m) (hl : l.length < s + v) : rowBad l m := Or.inr ⟨v, s, h, hm, hl⟩
def Lo (w : World) (B : Nat) (A : Option Addr) (n : Nat) (l : List UInt8) : Prop := By w A n l ∧ ∀ k ∈ bk A, k < B
theorem Lo.by {A : Option Addr} {n : Nat} {l : List UInt8} (h : Lo w B A n l) : By w A n l := h.1
theorem Lo.below {A : Option Addr} {n : Nat} {l : List UInt8} (h : Lo w B A n l) (hb : Below B w w') : Lo w' B A n l := by
 refine ⟨⟨h.1.1, fun hn => ?_⟩, h.2⟩
 obtain ⟨ad, rfl, hc⟩ := h.1.2 hn
 refine ⟨ad, rfl, fun j u hu => ?_⟩
 have := hc j u hu
 rw [hb.cell (by rw [add_block]; exact h.2 _ (by simp [bk]))]
 exact this
theorem Lo.more {A : Option Addr} {n : Nat} {l : List UInt8} (h : Lo w B A n l) (hB : B ≤ B') : Lo w B' A n l := ⟨h.1, fun k hk => Nat.lt_of_lt_of_le (h.2 k hk) hB⟩
def WB (w : World) (B g : Nat) (l : List UInt8) : Prop := ∃ S, Wr w S g l ∧ (∀ k ∈ S, B ≤ k) ∧ B ≤ w.heap.size
def RB (w : World) (B g : Nat) (l : List UInt8) (bad : Bool) : Prop := ∃ F, Rd w g F l bad ∧ B ≤ g ∧ (∀ k ∈ F, B ≤ k ∧ k < w.heap.size) ∧ B ≤ w.heap.size
theorem WB.step {S S' : List Nat} {g : Nat} {l' : List UInt8} (hS : ∀ k ∈ S, B ≤ k) (hB : B ≤ w.heap.size) (h1 : Wr w' S' g l') (h2 : Fr S w w') (h3 : ∀ x ∈ S', x < w.heap.size → x ∈ S) : WB w' B g l' ∧ Below B w w' := by
 refine ⟨⟨S', h1, fun k hk => ?_, Nat.le_trans hB h2.size⟩, h2.below hB hS⟩
 by_cases h : k < w.heap.size
 · exact hS k (h3 k hk h)
 · omega
theorem WB.fr {g : Nat} {l : List UInt8} (h : WB w B g l) (hf : Fr [] w w') : WB w' B g l := by
 obtain ⟨S, h1, h2, h3⟩ := h
 exact ⟨S, h1.keep hf (by simp), h2, Nat.le_trans h3 hf.size⟩
theorem WB.lt {g : Nat} {l : List UInt8} (h : WB w B g l) : g < w.heap.size := by
 obtain ⟨S, h1, h2, h3⟩ := h
 obtain ⟨A, c, rfl, hb, _⟩ := h1
 exact hb.lt
theorem RB.step {F : List Nat} {g : Nat} {l' : List UInt8} {bad' : Bool} (hg : B ≤ g) (hF : ∀ k ∈ F, B ≤ k ∧ k < w.heap.size) (hB : B ≤ w.heap.size) (h1 : Rd w' g F l' bad') (h2 : Fr [g] w w') : RB w' B g l' bad' ∧ Below B w w' :=
 ⟨⟨F, h1, hg, fun k hk => ⟨(hF k hk).1, Nat.lt_of_lt_of_le (hF k hk).2 h2.size⟩, Nat.le_trans hB h2.size⟩, h2.below hB (by simpa using hg)⟩
theorem RB.fr {g : Nat} {l : List UInt8} {bad : Bool} (h : RB w B g l bad) (hf : Fr [] w w') : RB w' B g l bad := by
 obtain ⟨F, h1, h2, h3, h4⟩ := h
 exact ⟨F, h1.keep hf (by simp) (by simp), h2, fun k hk => ⟨(h3 k hk).1, Nat.lt_of_lt_of_le (h3 k hk).2 hf.size⟩, Nat.le_trans h4 hf.size⟩
end
section
variable {w : World} {B g : Nat} {l : List UInt8} {bad : Bool}
end
end Go.Proofs.YtdenpfcgghangaaGreat
