/- gavelref01's Num, Int, Row: the document's own bytes. -/
import Derived.Test.YtniaacjfkaakjaaWr2
namespace Go.Proofs.Ytniaacjfkaakjaa
open Go.RowKit

theorem u8_add128 (m : Nat) : (m : Int) % 128 + 128 = ((UInt8.ofNat (m % 128 + 128)).toNat : Int) := by
  rw [UInt8.toNat_ofNat']
  omega

theorem NewB.grow {w wa w1 : World} {A A1 : Option Addr} {n c m c1 : Nat} {l news : List UInt8} (hf : Fr [] w wa) (hA : ∀ k ∈ bk A, w.heap.size ≤ k)
    (ho1 : w1.ownsRow 0 5 1 (.slice A1 (n + m) c1) (n + m) ((l ++ news).map by8)) (hg : wa.grownBy w1 (Value.slice A n c).ownBlock)
    (hat : bk A1 = (Value.slice A n c).ownBlock.toList ∨ bk A1 = [wa.heap.size]) : NewB w w1 A1 (n + m) c1 (l ++ news) := by
  refine ⟨ho1, hf.grown hg (fun k hk hl => ?_), fun x hx => ?_⟩
  · rw [bk_mem] at hk
    have := hA k hk
    omega
  · rw [bk_own] at hat
    rcases hat with e | e <;> rw [e] at hx
    · exact hA x hx
    · simp at hx
      have := hf.size
      omega

end Go.Proofs.Ytniaacjfkaakjaa
