/- A hash that comes in as an argument. -/
import Derived.Test.YtfmkegblhpnfcaaActs
import Derived.Test.YtfmkegblhpnfcaaOpen
set_option linter.unusedSimpArgs false
set_option linter.unusedVariables false
namespace Go.Proofs.Ytfmkegblhpnfcaa
set_option maxRecDepth 100000
open Go.RowKit
theorem hash_open {H : Type} {enc : TypeId × Value → H} {W : World} {r : Reach} {base b0 : Nat} {v : Value} {d : DataW H} {p : List MemPlace} {sp : Nat → Bool} {held : Bool} (hv : Value.okWide Try.prog W r base 30 v) (h : DataW.Trod enc Try.prog W b0 sp held 30 v d p) (hb : b0 = 0) :
    ∃ l : List UInt8, l.length = 32 ∧ v = .agg (l.map by8).toArray := by
  subst hb
  unfold Value.okWide at hv
  rw [Try.underlying30] at hv
  obtain ⟨cs, rfl, -⟩ := hv
  obtain ⟨fuel, hf⟩ := h
  obtain ⟨l, hl, e⟩ := hash_of_trod (show DataW.trod enc Try.prog W 0 sp held fuel 30 cs.toList = some (d, p) from hf)
  exact ⟨l, hl, by rw [← e]⟩
end Go.Proofs.Ytfmkegblhpnfcaa
