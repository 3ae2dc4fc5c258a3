/- The calls of package code once more, told by one number: below block B nothing turns, and the object lies from B on. -/
import Derived.Test.YtfmkegblhpnfcaaRHash
import Derived.Test.YtfmkegblhpnfcaaHelp
import Derived.Test.YtfmkegblhpnfcaaCodec
set_option linter.unusedSimpArgs false
set_option linter.unusedVariables false
namespace Go.Proofs.Ytfmkegblhpnfcaa
open Go.RowKit

section
variable {w w' : World} {B B' : Nat}
theorem Fr.from {S : List Nat} (h : Fr S w w') (hB : B ≤ w.heap.size) (hs : ∀ k ∈ S, B ≤ k) : Below B w w' := h.below hB hs
theorem Fr.nil_below (h : Fr [] w w') (hB : B ≤ w.heap.size) : Below B w w' := h.below hB (by simp)
theorem intBad_none {l : List UInt8} {m : Int} (h : dec l = none) : intBad l m := Or.inl h
theorem intBad_lt {l : List UInt8} {v s : Nat} {m : Int} (h : dec l = some (v, s)) (hm : m < v) : intBad l m := Or.inr ⟨v, s, h, hm⟩
theorem rowBad_int {l : List UInt8} {m : Int} (h : intBad l m) : rowBad l m := Or.inl h
theorem rowBad_short {l : List UInt8} {v s : Nat} {m : Int} (h : dec l = some (v, s)) (hm : (v : Int) ≤ m) (hl : l.length < s + v) : rowBad l m := Or.inr ⟨v, s, h, hm, hl⟩
theorem intBad_neg (l : List UInt8) {m : Int} (h : m < 0) : intBad l m := by
  unfold intBad
  cases hd : dec l with
  | none => exact .inl rfl
  | some p => exact .inr ⟨p.1, p.2, rfl, by omega⟩
/-- a slice of bytes below B -/
def Lo (w : World) (B : Nat) (A : Option Addr) (n : Nat) (l : List UInt8) : Prop := By w A n l ∧ ∀ k ∈ bk A, k < B
theorem Lo.by {A : Option Addr} {n : Nat} {l : List UInt8} (h : Lo w B A n l) : By w A n l := h.1
theorem Lo.below {A : Option Addr} {n : Nat} {l : List UInt8} (h : Lo w B A n l) (hb : Below B w w') : Lo w' B A n l := by
  refine ⟨⟨h.1.1, fun hn => ?_⟩, h.2⟩
  obtain ⟨ad, rfl, hc⟩ := h.1.2 hn
  refine ⟨ad, rfl, fun j u hu => ?_⟩
  have := hc j u hu
  rw [hb.cell (by rw [add_block]; exact h.2 _ (by simp [bk]))]
  exact this
theorem Lo.more {A : Option Addr} {n : Nat} {l : List UInt8} (h : Lo w B A n l) (hB : B ≤ B') : Lo w B' A n l := ⟨h.1, fun k hk => Nat.lt_of_lt_of_le (h.2 k hk) hB⟩
theorem NewB.lo {A : Option Addr} {n c : Nat} {l : List UInt8} (h : NewB w w' A n c l) : Lo w' w'.heap.size A n l := ⟨h.by, h.lt⟩

end

section
variable {w : World} {B g : Nat} {l : List UInt8} {bad : Bool}
end
end Go.Proofs.Ytfmkegblhpnfcaa
