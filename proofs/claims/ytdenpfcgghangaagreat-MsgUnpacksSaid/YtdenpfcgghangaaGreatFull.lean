/- Memory that is known whole, spare room and all: what Clone leaves; gavelkeep.Spoil. -/
import Derived.Test.YtdenpfcgghangaaGreatBase
import Derived.Laws.MakeOwn
import Derived.Laws.OwnMore
set_option linter.unusedSimpArgs false
set_option linter.unusedVariables false
namespace Go.Proofs.YtdenpfcgghangaaGreat
open Go.RowKit
def FullB (w : World) (A : Option Addr) (n c : Nat) (l s : List UInt8) : Prop :=
 l.length = n ∧ (l ++ s).length = c ∧ (A = none ∧ c = 0 ∨ ∃ g, A = some ⟨g, 0, none⟩ ∧ Blk w g 5 ((l ++ s).map by8).toArray)
theorem FullB.by {w : World} {A : Option Addr} {n c : Nat} {l s : List UInt8} (h : FullB w A n c l s) : By w A n l := by
 obtain ⟨h1, h2, h3⟩ := h
 rcases h3 with ⟨rfl, rfl⟩ | ⟨g, rfl, hb⟩
 · have : n = 0 := by rw [List.length_append] at h2; omega
   subst this
   have : l = [] := List.eq_nil_of_length_eq_zero h1
   subst this
   exact By.nil _ _
 · have := (By.blk (l ++ s) hb rfl).take (k := n) (by rw [List.length_append, h1]; omega)
   rw [← h1, List.take_left] at this
   rw [← h1]
   exact this
theorem FullB.keep {w w' : World} {S : List Nat} {A : Option Addr} {n c : Nat} {l s : List UInt8} (h : FullB w A n c l s) (hf : Fr S w w') (hA : ∀ x ∈ bk A, ¬ x ∈ S) : FullB w' A n c l s := by
 obtain ⟨h1, h2, h3⟩ := h
 refine ⟨h1, h2, ?_⟩
 rcases h3 with h3 | ⟨g, rfl, hb⟩
 · exact .inl h3
 · exact .inr ⟨g, rfl, hb.keep hf (hA g (by simp [bk]))⟩
theorem FullB.lt {w : World} {A : Option Addr} {n c : Nat} {l s : List UInt8} (h : FullB w A n c l s) : ∀ x ∈ bk A, x < w.heap.size := by
 obtain ⟨_, _, h3⟩ := h
 rcases h3 with ⟨rfl, _⟩ | ⟨g, rfl, hb⟩
 · simp [bk]
 · intro x hx; simp [bk] at hx; subst hx; exact hb.lt
section
variable {P : Program}
end
end Go.Proofs.YtdenpfcgghangaaGreat
