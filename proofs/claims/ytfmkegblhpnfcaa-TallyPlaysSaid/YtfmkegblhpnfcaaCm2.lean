/- Package commit: Of, Text. -/
import Derived.Test.YtfmkegblhpnfcaaCm
import Derived.Test.YtfmkegblhpnfcaaShaQ
set_option linter.unusedSimpArgs false
set_option linter.unusedVariables false
namespace Go.Proofs.Ytfmkegblhpnfcaa
open Go.RowKit
set_option maxRecDepth 100000

def wCommit : List UInt8 := [99, 111, 109, 109, 105, 116]
def wRequest : List UInt8 := [114, 101, 113, 117, 101, 115, 116]
/-- what a commitment is the hash of -/
def ofL (c s : Int) (h b : List UInt8) : List UInt8 := headL wCommit c s ++ h ++ (enc b.length ++ b)
theorem headL_len (t : List UInt8) (ht : t.length ≤ 1000) (c s : Int) (hc : c < 9223372036854775808) (hs : s < 9223372036854775808) : (headL t c s).length ≤ 1030 := by
  have h1 := encI_len c hc
  have h2 := encI_len s hs
  have h3 := enc_ten (m := t.length) (by omega)
  simp only [headL, List.length_append]
  omega
theorem row_hash : RowTy Try.prog 30 32 := ⟨by kernel_rfl, by kernel_rfl⟩
theorem RowTy.of {P : Program} {ty : TypeId} {n m : Nat} (h : RowTy P ty n) (e : m = n) : RowTy P ty m := e ▸ h
theorem by8_all (l : List UInt8) : ((l.map by8).toArray.all (·.oneCell')) = true := by
  rw [Array.all_eq_true_iff_forall_mem]
  intro u hu
  exact by8_one l u (by simpa using hu)
theorem blk_alloc {w : World} {g : Nat} {t t' : TypeId} {cs cs' : Array Value} (h : Blk w g t cs) : Blk (w.alloc (.cells cs' t')) g t cs := h.keep ((Fr.refl [] w).alloc _) (by simp)

end Go.Proofs.Ytfmkegblhpnfcaa
