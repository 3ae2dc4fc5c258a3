/- Package sha: mixAll, hash. -/
import Derived.Test.YtdenpfcgghangaaGreatShaM
set_option linter.unusedSimpArgs false
set_option linter.unusedVariables false
namespace Go.Proofs.YtdenpfcgghangaaGreat
set_option maxRecDepth 100000
open Go.RowKit
def lenV : Value → Nat
 | .slice _ n _ => n
 | _ => 0
def zeroH : Array Value := ((List.replicate 32 (0 : UInt8)).map by8).toArray
theorem Blk.byte {w : World} {g : Nat} {t : TypeId} {M : List UInt8} (h : Blk w g t (M.map by8).toArray) {i : Nat} (hi : i < M.length) : w.cell? ⟨g, i, none⟩ = some (.int .u8 ((M.getD i 0).toNat : Int)) := by
 rw [h.cell i, List.getD]
 simp [List.getElem?_eq_getElem hi, by8]
end Go.Proofs.YtdenpfcgghangaaGreat
