/- Numbers' bytes: what was written is read; what is written longer, or breaks off, is none. Plain lemmas. -/
import Derived.Test.YtdenpfcgghangaaGreatRd
set_option linter.unusedSimpArgs false
set_option linter.unusedVariables false
namespace Go.Proofs.YtdenpfcgghangaaGreat
open Go.RowKit
/-! ### a store into an own row of bytes -/
theorem own_store {w : World} {e : TypeId} {A : Option Addr} {n c j : Nat} {l : List UInt8} (h : w.ownsRow 0 e 1 (.slice A n c) n (l.map by8)) (hj : j < n) :
  ∃ ad b, A = some ad ∧ l[j]? = some b ∧ w.cell? (ad.add j) = some (.int .u8 (b.toNat : Int)) ∧ w.frozen? (ad.add j) = false ∧
   ∀ (x : Int) (b' : UInt8), x = (b'.toNat : Int) → (w.setCell (ad.add j) (.int .u8 x)).ownsRow 0 e 1 (.slice A n c) n ((l.set j b').map by8) ∧ Fr (bk A) w (w.setCell (ad.add j) (.int .u8 x)) := by
 obtain ⟨g, cap, hv, _, hlt⟩ := h.form (by omega)
 injection hv with hA hn hc
 subst hA hc
 have hl : l.length = n := by have := h.1; simpa using this
 have hjl : j < l.length := by omega
 have hadd : (⟨g, 0, none⟩ : Addr).add j = ⟨g, j, none⟩ := by unfold Addr.add; split <;> simp_all
 refine ⟨⟨g, 0, none⟩, l[j], rfl, List.getElem?_eq_getElem hjl, ?_, ?_, fun x b' hx => ?_⟩
 · rw [hadd, h.cellAt j (by omega)]
   simp [List.getElem?_eq_getElem hjl, by8]
 · rw [hadd]; exact h.frozenAt j
 · rw [hadd]
   refine ⟨?_, (Fr.refl _ w).setCell _ (fun _ => by simp [bk]) _⟩
   have := (h.stored j (.int .u8 x)).1
   rw [List.map_set]
   rw [show by8 b' = Value.int .u8 x by rw [by8, hx]]
   exact this
end Go.Proofs.YtdenpfcgghangaaGreat
