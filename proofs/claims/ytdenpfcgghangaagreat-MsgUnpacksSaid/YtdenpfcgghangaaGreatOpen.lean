/- From what an argument reads as to plain facts: integers' bounds, bytes. Plain lemmas. -/
import Derived.Test.YtdenpfcgghangaaGreatRows
import Derived.Test.YtdenpfcgghangaaGreatMem
import Derived.ChangeOld
import Derived.Below
import Derived.ProofKit
import Derived.OpenShut
import Derived.ShutString
set_option linter.unusedSimpArgs false
set_option linter.unusedVariables false
namespace Go.Proofs.YtdenpfcgghangaaGreat
set_option maxRecDepth 100000
open Go.RowKit
theorem u64_of {x : Int} (h : (Lit.int .u64 x).wf = true) : ∃ n : Nat, x = (n : Int) ∧ n < 18446744073709551616 := by
 have hb := bounds_u64 h
 refine ⟨x.toNat, by omega, by omega⟩
theorem i64_of {x : Int} (h : (Lit.int .i64 x).wf = true) : -9223372036854775808 ≤ x ∧ x < 9223372036854775808 := by
 have hb := bounds_i64 h
 omega
theorem By.of_ints {w : World} {x : Addr} {zs : List Int} {len : Nat} (hcell : ∀ i, i < zs.length → w.cell? (x.add i) = some (.int .u8 (zs.getD i 0)))
  (hwf : ∀ n ∈ zs, (Lit.int .u8 n).wf = true) (hl : len ≤ zs.length) : ∃ l, By w (some x) len l := by
 refine ⟨(zs.take len).map (fun z => UInt8.ofNat z.toNat), by simp; omega, fun _ => ⟨x, rfl, fun j u hu => ?_⟩⟩
 simp only [List.map_map, List.getElem?_map, Option.map_eq_some_iff] at hu
 obtain ⟨z, hz1, rfl⟩ := hu
 rw [List.getElem?_take] at hz1
 split at hz1
 · have hj : j < zs.length := (List.getElem?_eq_some_iff.1 hz1).1
   have hb := bounds_u8 (hwf z (List.mem_of_getElem? hz1))
   rw [hcell j hj]
   simp only [List.getD_eq_getElem?_getD, hz1, Option.getD_some, Function.comp, by8, UInt8.toNat_ofNat']
   congr 2
   omega
 · cases hz1
theorem laidOut : laidOutB Tryz.prog = true := by kernel_rfl
end Go.Proofs.YtdenpfcgghangaaGreat
