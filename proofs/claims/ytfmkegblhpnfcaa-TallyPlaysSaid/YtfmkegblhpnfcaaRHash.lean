/- The reader's Hash. -/
import Derived.Test.YtfmkegblhpnfcaaRd2
import Derived.Deep.RegionLaw
set_option linter.unusedSimpArgs false
set_option linter.unusedVariables false
namespace Go.Proofs.Ytfmkegblhpnfcaa
open Go.RowKit

/-- what a reader takes for a hash; what is left behind it -/
def took (l : List UInt8) : List UInt8 := if l.length < 32 then [] else l.take 32
def tookL (l : List UInt8) : List UInt8 := if l.length < 32 then [] else l.drop 32
def tookB (l : List UInt8) (bad : Bool) : Bool := if l.length < 32 then true else bad
def hashOf (l : List UInt8) : List UInt8 := took l ++ (List.replicate 32 (0 : UInt8)).drop (took l).length
theorem took_le (l : List UInt8) : (took l).length ≤ 32 := by
  unfold took; split <;> simp <;> omega

def zero32 : Array Value := ((List.replicate 32 (0 : UInt8)).map by8).toArray
theorem hash_size : (Try.prog.info? 30).map (·.size) = some 32 := by kernel_rfl
theorem u8_size : (Try.prog.info? 5).map (·.size) = some 1 := by kernel_rfl

end Go.Proofs.Ytfmkegblhpnfcaa
