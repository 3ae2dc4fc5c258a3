/- Package commit: Of, Text. -/
import Derived.Test.YtdenpfcgghangaaGreatCm
import Derived.Test.YtdenpfcgghangaaGreatShaQ
set_option linter.unusedSimpArgs false
set_option linter.unusedVariables false
namespace Go.Proofs.YtdenpfcgghangaaGreat
open Go.RowKit
set_option maxRecDepth 100000
def wCommit : List UInt8 := [99, 111, 109, 109, 105, 116]
def wRequest : List UInt8 := [114, 101, 113, 117, 101, 115, 116]
def ofL (c s : Int) (h b : List UInt8) : List UInt8 := headL wCommit c s ++ h ++ (enc b.length ++ b)
theorem row_name : RowTy Tryz.prog 23 2 := ⟨by kernel_rfl, by kernel_rfl⟩
theorem row_hash : RowTy Tryz.prog 25 32 := ⟨by kernel_rfl, by kernel_rfl⟩
theorem RowTy.of {P : Program} {ty : TypeId} {n m : Nat} (h : RowTy P ty n) (e : m = n) : RowTy P ty m := e ▸ h
theorem blk_alloc {w : World} {g : Nat} {t t' : TypeId} {cs cs' : Array Value} (h : Blk w g t cs) : Blk (w.alloc (.cells cs' t')) g t cs := h.keep ((Fr.refl [] w).alloc _) (by simp)
end Go.Proofs.YtdenpfcgghangaaGreat
