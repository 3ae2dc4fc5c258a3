/- Package commit: begin. -/
import Derived.Test.YtfmkegblhpnfcaaReg
import Derived.Test.YtfmkegblhpnfcaaHelp
import Derived.Laws.IdiomStrings
import Derived.Test.YtfmkegblhpnfcaaBook2
set_option linter.unusedSimpArgs false
set_option linter.unusedVariables false
namespace Go.Proofs.Ytfmkegblhpnfcaa
open Go.RowKit
set_option maxRecDepth 100000

/-- the bytes of an int: below 0 it is 0 -/
def encI (z : Int) : List UInt8 := enc z.toNat
theorem encI_len (z : Int) (h2 : z < 9223372036854775808) : (encI z).length ≤ 10 := enc_ten (by omega)

/-- what is hashed or signed begins so -/
def headL (t : List UInt8) (c s : Int) : List UInt8 := enc t.length ++ t ++ encI c ++ encI s
theorem conv_str (w : World) (t : List UInt8) : ∃ w' A c, (convert 9 77 (.string ⟨t.toArray⟩)).run Try.prog w = .ok (.slice A t.length c) w' ∧ Fr [] w w' ∧ By w' A t.length t ∧ (∀ k ∈ bk A, w.heap.size ≤ k ∧ k < w'.heap.size) := by
  have h := run_bytes_of_string (P := Try.prog) w 9 77 5 ⟨t.toArray⟩ Try.underlying9 Try.underlying77 Try.underlying5
  have hsz : (⟨t.toArray⟩ : ByteArray).size = t.length := by simp [ByteArray.size]
  rw [hsz] at h
  refine ⟨_, _, _, h, ((Fr.refl [] w).drew).alloc _, ⟨rfl, fun _ => ⟨_, rfl, fun j u hu => ?_⟩⟩, fun k hk => by
    have e : k = w.heap.size := by simpa [bk] using hk
    subst e
    exact ⟨Nat.le_refl _, by show w.heap.size < (w.heap.push _).size; rw [Array.size_push]; omega⟩⟩
  have hj : j < t.length := by simpa using (List.getElem?_eq_some_iff.1 hu).1
  have hadd : (⟨w.heap.size, 0, none⟩ : Addr).add j = ⟨w.heap.size, j, none⟩ := by unfold Addr.add; split <;> simp_all
  rw [hadd]
  have hm := World.cell?_alloc_mark w.drew
  have hd : w.drew.heap.size = w.heap.size := rfl
  rw [← hd, World.cell?_alloc_mark, bytesRow_at _ _ j (by simpa using hj)]
  simp [List.getElem?_eq_getElem hj, by8] at hu
  simp [hu]

end Go.Proofs.Ytfmkegblhpnfcaa
