/- Package sha: mixAll, hash. -/
import Derived.Test.YtfmkegblhpnfcaaShaM
set_option linter.unusedSimpArgs false
set_option linter.unusedVariables false
namespace Go.Proofs.Ytfmkegblhpnfcaa
set_option maxRecDepth 100000
open Go.RowKit

theorem mixes_append : ∀ (a b : Nat) (s : St) (l1 l2 : List UInt8), l1.length = 64 * a → mixes (a + b) s (l1 ++ l2) = mixes b (mixes a s l1) l2 := by
  intro a
  induction a with
  | zero =>
    intro b s l1 l2 h
    have : l1 = [] := List.eq_nil_of_length_eq_zero (by omega)
    subst this
    simp [mixes]
  | succ a ih =>
    intro b s l1 l2 h
    rw [show a + 1 + b = (a + b) + 1 by omega]
    simp only [mixes]
    rw [List.take_append_of_le_length (by omega), List.drop_append_of_le_length (by omega)]
    exact ih b _ _ _ (by rw [List.length_drop]; omega)
theorem mixes_nn : ∀ (a : Nat) (s : St) (l : List UInt8), s.Nn → (mixes a s l).Nn
  | 0, _, _, h => h
  | a + 1, s, _, _ => mixes_nn a _ _ (mixS_nn s _)
def lenV : Value → Nat
  | .slice _ n _ => n
  | _ => 0
/-- the slice from s on, wherever its capacity ends -/
theorem By.cutc {w : World} {A : Option Addr} {n c s : Nat} {l : List UInt8} (h : By w A n l) (hs : s ≤ n) (hc : n ≤ c) :
    (c = s → By w A (n - s) (l.drop s)) ∧ (c ≠ s → By w (A.map (·.add s)) (n - s) (l.drop s)) := by
  have := h.cut hs hc
  exact ⟨fun e => by rw [if_pos e] at this; exact this, fun e => by rw [if_neg e] at this; exact this⟩
theorem bk_add (A : Option Addr) (s : Nat) : bk (A.map (·.add s)) = bk A := by cases A <;> simp [bk, add_block]

theorem hash_sizeS : (Try.prog.info? 30).map (·.size) = some 32 := by kernel_rfl
def zeroH : Array Value := ((List.replicate 32 (0 : UInt8)).map by8).toArray
theorem zeroH_size : zeroH.size = 32 := by simp [zeroH]
theorem set_takeB {M L : List UInt8} {j : Nat} {d : UInt8} (h : M.take j = L.take j) (hj : j < M.length) (hL : L[j]? = some d) : (M.set j d).take (j + 1) = L.take (j + 1) := by
  rw [List.take_add_one, List.take_add_one, hL, List.take_set_of_le (Nat.le_refl j), h, List.getElem?_set_self hj]
theorem Blk.setByte {w : World} {g : Nat} {t : TypeId} {M : List UInt8} (h : Blk w g t (M.map by8).toArray) (i : Nat) (z : UInt8) : Blk (w.setCell ⟨g, i, none⟩ (by8 z)) g t ((M.set i z).map by8).toArray := by
  have hbs := h.set i (by8 z)
  rw [show ((M.map by8).toArray.setIfInBounds i (by8 z)) = ((M.set i z).map by8).toArray from by simp [List.map_set]] at hbs
  exact hbs
theorem Blk.byte {w : World} {g : Nat} {t : TypeId} {M : List UInt8} (h : Blk w g t (M.map by8).toArray) {i : Nat} (hi : i < M.length) : w.cell? ⟨g, i, none⟩ = some (.int .u8 ((M.getD i 0).toNat : Int)) := by
  rw [h.cell i, List.getD]
  simp [List.getElem?_eq_getElem hi, by8]

end Go.Proofs.Ytfmkegblhpnfcaa
