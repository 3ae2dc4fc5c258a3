/- gavelkeep.Lend and Intact. -/
import Derived.Test.YtfmkegblhpnfcaaFull
import Derived.Deep.RegionLaw
set_option linter.unusedSimpArgs false
set_option linter.unusedVariables false
namespace Go.Proofs.Ytfmkegblhpnfcaa
open Go.RowKit

def lent (l : List UInt8) : List UInt8 := l ++ [85, 85, 85]
theorem lent_len (l : List UInt8) : (lent l).length = l.length + 3 := by simp [lent]
theorem lent_tail (l : List UInt8) {j : Nat} (h : l.length ≤ j) (h2 : j < l.length + 3) : (lent l)[j]? = some 85 := by
  unfold lent
  rw [List.getElem?_append_right h]
  have : j - l.length = 0 ∨ j - l.length = 1 ∨ j - l.length = 2 := by omega
  rcases this with e | e | e <;> rw [e] <;> rfl
theorem lent_head (l : List UInt8) {j : Nat} (h : j < l.length) : (lent l)[j]? = l[j]? := by
  unfold lent
  rw [List.getElem?_append_left h]
theorem set_take {M L : List UInt8} {j : Nat} {d : UInt8} (h : M.take j = L.take j) (hj : j < M.length) (hL : L[j]? = some d) : (M.set j d).take (j + 1) = L.take (j + 1) := by
  rw [List.take_add_one, List.take_add_one, hL, List.take_set_of_le (Nat.le_refl j), h, List.getElem?_set_self hj]

theorem madeCells_u8 (k : Nat) : madeCells (Value.int .u8 0).cells k = ((List.replicate k (0 : UInt8)).map by8).toArray := by
  show madeCells #[.int .u8 0] k = _
  apply Array.ext'
  rw [toList_madeCells_one]
  simp [by8]

theorem make_u8 (n : Nat) (hn : n ≤ 1073741824) (w : World) : (Instr.makeSlice 77 (.int .i64 n) (.int .i64 ((n : Int) + 3))).run Try.prog w =
    .ok (.slice (some ⟨w.heap.size, 0, none⟩) n (n + 3)) (w.alloc (.cells ((List.replicate (n + 3) (0 : UInt8)).map by8).toArray 5)) := by
  obtain ⟨i, hi0, hz0, hz1, hz2⟩ := info_parts info_u8
  have h := run_make (P := Try.prog) w 77 5 i _ Try.underlying77 hi0 hz0 .i64 .i64 n ((n : Int) + 3) (by omega) (by omega) (by rw [hz2]; omega) (by omega)
  rw [h, hz1, Nat.mul_one, madeCells_u8]
  have e : ((n : Int) + 3).toNat = n + 3 := by omega
  rw [e]
  simp

theorem u8_sizeL : (Try.prog.info? 5).map (·.size) = some 1 := by kernel_rfl

theorem make_b (n : Nat) (hn : n ≤ 1073741824) (w : World) : ∃ wa, (Instr.makeSlice 77 (.int .i64 n) (.int .i64 ((n : Int) + 3))).run Try.prog w = .ok (.slice (some ⟨w.heap.size, 0, none⟩) n (n + 3)) wa ∧
    Blk wa w.heap.size 5 ((List.replicate (n + 3) (0 : UInt8)).map by8).toArray ∧ Fr [] w wa :=
  ⟨_, make_u8 n hn w, Blk.new _ _ _, (Fr.refl [] w).alloc _⟩

theorem copy_b (w : World) (ty : TypeId) (g dLen dCap : Nat) (A : Option Addr) (n c : Nat) (cur l : List UInt8) (t : TypeId) (hg : Blk w g t (cur.map by8).toArray) (hy : By w A n l) (hn : n ≤ dLen) (hfit : n ≤ cur.length) :
    ∃ w', (Builtin.copy_ #[77, 77] ty #[.slice (some ⟨g, 0, none⟩) dLen dCap, .slice A n c]).run Try.prog w = .ok (goInt n) w' ∧ Blk w' g t ((l ++ cur.drop n).map by8).toArray ∧ Fr [g] w w' := by
  have hu := Try.underlying77
  rcases Nat.eq_zero_or_pos n with h0 | h0
  · subst h0
    have hl : l = [] := List.eq_nil_of_length_eq_zero hy.1
    subst hl
    exact ⟨w, run_copy_none (P := Try.prog) w _ _ ty _ (some ⟨g, 0, none⟩) A dLen dCap 0 c hu u8_sizeL (by simp), by simpa using hg, Fr.refl _ _⟩
  · obtain ⟨ad, rfl, hc⟩ := hy.2 h0
    have hln := hy.1
    have hrun := run_copy_row (P := Try.prog) w 77 77 ty _ g 0 dLen dCap ad n c (cur.map by8).toArray t (l.map by8) hu u8_sizeL hg (by rw [List.length_map, hln]; exact (Nat.min_eq_left hn).symm) hc (by simp; omega) (by8_one l)
    refine ⟨_, by simpa [hln] using hrun, ?_, setRow_fr w g _⟩
    have := setRow_blk hg (List.map by8 l ++ List.drop n (List.map by8 cur)).toArray
    simpa [hln] using this

end Go.Proofs.Ytfmkegblhpnfcaa
