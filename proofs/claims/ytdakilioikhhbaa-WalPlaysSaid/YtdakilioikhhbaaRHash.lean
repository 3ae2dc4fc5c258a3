/- The reader's Hash. -/
import Derived.Test.YtdakilioikhhbaaRd2
import Derived.Deep.RegionLaw
namespace Go.Proofs.Ytdakilioikhhbaa
open Go.RowKit

/-- what a reader takes for a hash; what is left behind it -/
def took (l : List UInt8) : List UInt8 := if l.length < 32 then [] else l.take 32
def tookL (l : List UInt8) : List UInt8 := if l.length < 32 then [] else l.drop 32
def tookB (l : List UInt8) (bad : Bool) : Bool := if l.length < 32 then true else bad
def hashOf (l : List UInt8) : List UInt8 := took l ++ (List.replicate 32 (0 : UInt8)).drop (took l).length
theorem took_le (l : List UInt8) : (took l).length ≤ 32 := by
  unfold took; split <;> simp <;> omega

theorem take32 (w : World) (g : Nat) (F : List Nat) (l : List UInt8) (bad : Bool) (hr : Rd w g F l bad) (hl : l.length ≤ 1073741824) :
    Calls Try.prog 52 #[.pointer (some ⟨g, 0, none⟩), .int .i64 32] w fun e w' =>
      ∃ A c, e = .returned (.slice A (took l).length c) ∧ By w' A (took l).length (took l) ∧ (∀ k ∈ bk A, k ∈ F) ∧ Rd w' g F (tookL l) (tookB l bad) ∧ Fr [g] w w' := by
  rw [show (32 : Int) = ((32 : Nat) : Int) from rfl]
  by_cases h : l.length < 32
  · refine (take_bad w g F l bad hr 32 h).mono ?_
    rintro e w' ⟨rfl, h1, h2⟩
    unfold took tookL tookB
    rw [if_pos h, if_pos h, if_pos h]
    exact ⟨none, 0, rfl, By.nil _ _, by simp [bk], h1, h2⟩
  · refine (take_ok w g F l bad hr hl 32 (by omega)).mono ?_
    rintro e w' ⟨A, c, rfl, h1, h2, h3, h4, h5⟩
    unfold took tookL tookB
    rw [if_neg h, if_neg h, if_neg h, List.length_take, Nat.min_eq_left (by omega)]
    exact ⟨A, c, rfl, h1, fun k hk => (h3 k hk).1, h4, h5⟩

def zero32 : Array Value := ((List.replicate 32 (0 : UInt8)).map by8).toArray
theorem u8_size : (Try.prog.info? 5).map (·.size) = some 1 := by kernel_rfl

end Go.Proofs.Ytdakilioikhhbaa
