/- gavelkeep.Lend and Intact. -/
import Derived.Test.YtdenpfcgghangaaGreatFull
import Derived.Deep.RegionLaw
set_option linter.unusedSimpArgs false
set_option linter.unusedVariables false
namespace Go.Proofs.YtdenpfcgghangaaGreat
open Go.RowKit
def lent (l : List UInt8) : List UInt8 := l ++ [85, 85, 85]
theorem lent_len (l : List UInt8) : (lent l).length = l.length + 3 := by simp [lent]
theorem lent_tail (l : List UInt8) {j : Nat} (h : l.length ≤ j) (h2 : j < l.length + 3) : (lent l)[j]? = some 85 := by
 unfold lent
 rw [List.getElem?_append_right h]
 have : j - l.length = 0 ∨ j - l.length = 1 ∨ j - l.length = 2 := by omega
 rcases this with e | e | e <;> rw [e] <;> rfl
theorem lent_head (l : List UInt8) {j : Nat} (h : j < l.length) : (lent l)[j]? = l[j]? := by
 unfold lent
 rw [List.getElem?_append_left h]
theorem set_take {M L : List UInt8} {j : Nat} {d : UInt8} (h : M.take j = L.take j) (hj : j < M.length) (hL : L[j]? = some d) : (M.set j d).take (j + 1) = L.take (j + 1) := by
 rw [List.take_add_one, List.take_add_one, hL, List.take_set_of_le (Nat.le_refl j), h, List.getElem?_set_self hj]
theorem madeCells_u8 (k : Nat) : madeCells (Value.int .u8 0).cells k = ((List.replicate k (0 : UInt8)).map by8).toArray := by
 show madeCells #[.int .u8 0] k = _
 apply Array.ext'
 rw [toList_madeCells_one]
 simp [by8]
theorem make_u8 (n : Nat) (hn : n ≤ 1073741824) (w : World) : (Instr.makeSlice 52 (.int .i64 n) (.int .i64 ((n : Int) + 3))).run Tryz.prog w =
  .ok (.slice (some ⟨w.heap.size, 0, none⟩) n (n + 3)) (w.alloc (.cells ((List.replicate (n + 3) (0 : UInt8)).map by8).toArray 5)) := by
 obtain ⟨i, hi0, hz0, hz1, hz2⟩ := info_parts info_u8
 have h := run_make (P := Tryz.prog) w 52 5 i _ Tryz.underlying52 hi0 hz0 .i64 .i64 n ((n : Int) + 3) (by omega) (by omega) (by rw [hz2]; omega) (by omega)
 rw [h, hz1, Nat.mul_one, madeCells_u8]
 have e : ((n : Int) + 3).toNat = n + 3 := by omega
 rw [e]
 simp
theorem u8_sizeL : (Tryz.prog.info? 5).map (·.size) = some 1 := by kernel_rfl
theorem make_b (n : Nat) (hn : n ≤ 1073741824) (w : World) : ∃ wa, (Instr.makeSlice 52 (.int .i64 n) (.int .i64 ((n : Int) + 3))).run Tryz.prog w = .ok (.slice (some ⟨w.heap.size, 0, none⟩) n (n + 3)) wa ∧
  Blk wa w.heap.size 5 ((List.replicate (n + 3) (0 : UInt8)).map by8).toArray ∧ Fr [] w wa :=
 ⟨_, make_u8 n hn w, Blk.new _ _ _, (Fr.refl [] w).alloc _⟩
theorem copy_b (w : World) (ty : TypeId) (g dLen dCap : Nat) (A : Option Addr) (n c : Nat) (cur l : List UInt8) (t : TypeId) (hg : Blk w g t (cur.map by8).toArray) (hy : By w A n l) (hn : n ≤ dLen) (hfit : n ≤ cur.length) :
  ∃ w', (Builtin.copy_ #[52, 52] ty #[.slice (some ⟨g, 0, none⟩) dLen dCap, .slice A n c]).run Tryz.prog w = .ok (goInt n) w' ∧ Blk w' g t ((l ++ cur.drop n).map by8).toArray ∧ Fr [g] w w' := by
 have hu := Tryz.underlying52
 rcases Nat.eq_zero_or_pos n with h0 | h0
 · subst h0
   have hl : l = [] := List.eq_nil_of_length_eq_zero hy.1
   subst hl
   exact ⟨w, run_copy_none (P := Tryz.prog) w _ _ ty _ (some ⟨g, 0, none⟩) A dLen dCap 0 c hu u8_sizeL (by simp), by simpa using hg, Fr.refl _ _⟩
 · obtain ⟨ad, rfl, hc⟩ := hy.2 h0
   have hln := hy.1
   have hrun := run_copy_row (P := Tryz.prog) w 52 52 ty _ g 0 dLen dCap ad n c (cur.map by8).toArray t (l.map by8) hu u8_sizeL hg (by rw [List.length_map, hln]; exact (Nat.min_eq_left hn).symm) hc (by simp; omega) (by8_one l)
   refine ⟨_, by simpa [hln] using hrun, ?_, setRow_fr w g _⟩
   have := setRow_blk hg (List.map by8 l ++ List.drop n (List.map by8 cur)).toArray
   simpa [hln] using this
set_option maxRecDepth 100000 in
set_option maxHeartbeats 400000 in
theorem lend_any (A : Option Addr) (n c : Nat) (l : List UInt8) (w : World) (hr : By w A n l) (hn : n ≤ 1073741824) :
  Calls Tryz.prog 9 #[.slice A n c] w fun e w' => ∃ g, e = .returned (.slice (some ⟨g, 0, none⟩) n (n + 3)) ∧ Blk w' g 5 ((lent l).map by8).toArray ∧ w.heap.size ≤ g ∧ Fr [] w w' := by
 have HR := Lib.hid hr
 have HN := Lib.hid hn
 obtain ⟨wa, hmk, hba, hfa⟩ := make_b n hn w
 obtain ⟨wc, hcp, hbc, hfc⟩ := copy_b wa 3 w.heap.size n (n + 3) A n c (List.replicate (n + 3) (0 : UInt8)) l 5 hba (hr.keep hfa (by simp)) (Nat.le_refl _) (by simp)
 have hf : Fr [] w wc := hfa.trans hfc (by intro x hx hl; simp at hx; omega)
 have hlen := hr.1
 have HLEN := Lib.hid hlen
 have HB := Lib.hid hbc
 have HF := Lib.hid hf
 have HG := Lib.hid (Nat.le_refl w.heap.size)
 clear hr hn hbc hf hba hfa hfc
 obtain ⟨N, hN⟩ : ∃ N : Nat, N = n + 3 := ⟨_, rfl⟩
 have hNi : (n : Int) + 3 = (N : Int) := by omega
 have hn1 : (N : Int) ≤ 9223372036854775807 := by have := HN.out; omega
 have hnN : n ≤ N := by omega
 have HNN := Lib.hid hN
 rw [hNi, ← hN] at hmk
 rw [← hN] at hcp
 rw [← hN]
 clear hN
 generalize hgw : w.heap.size = g at *
 have hgw2 := Lib.hid hgw
 clear hgw
 go_enter Tryz.func9, Tryz.ntmps9
 go_wp2
 go_loopw [5] (fun i wr => ∃ (k : Nat) (M : List UInt8), n ≤ k ∧ k ≤ N ∧ i = .int .i64 k ∧ M.length = N ∧ M.take k = (lent l).take k ∧ Blk wr g 5 (M.map by8).toArray ∧ Fr [] w wr) (fun i _ => N - (intOf i).toNat)
 case atStart =>
  refine ⟨n, l ++ (List.replicate (n + 3) (0 : UInt8)).drop n, by omega, by omega, rfl, by simp; have := HNN.out; omega, ?_, HB.out, HF.out⟩
  unfold lent
  rw [← hlen, List.take_left, List.take_left]
 case round =>
  obtain ⟨k, M, hk0, hk, rfl, hM, hT, hbm, hfm⟩ := hrel
  clear hmk hcp hlen hNi
  have HBM := Lib.hid hbm
  have HFM := Lib.hid hfm
  have HM := Lib.hid hM
  have HT := Lib.hid hT
  clear hbm hfm hM hT
  by_cases hlt : k < N
  · have hkM : k < M.length := by have := HM.out; omega
    have hc0 := HBM.out.cell k
    have hz0 := HBM.out.frozen k
    rw [show ((M.map by8).toArray)[k]? = some (.int .u8 (M[k].toNat : Int)) from by simp [List.getElem?_eq_getElem hkM, by8]] at hc0
    generalize M[k] = bk at hc0
    have HKM := Lib.hid hkM
    clear hkM
    go_wp2
    refine ⟨⟨k + 1, M.set k 85, by omega, by omega, rfl, by rw [List.length_set]; exact HM.out, set_take HT.out HKM.out (lent_tail l (by rw [HLEN.out]; omega) (by rw [HLEN.out]; have := HNN.out; omega)), ?_, HFM.out.setCell _ (fun h => ?_) _⟩, by simp [intOf]; omega⟩
    · have hbs := HBM.out.set k (.int .u8 85)
      rw [show ((M.map by8).toArray.setIfInBounds k (.int .u8 85)) = ((M.set k 85).map by8).toArray from by simp [List.map_set, by8]] at hbs
      exact hbs
    · have := hgw2.out; simp at h; omega
  · have hk3 : k = N := by omega
    have hML : M = lent l := by
     have e := HT.out
     rw [List.take_of_length_le (by have := HM.out; omega), List.take_of_length_le (by rw [lent_len, HLEN.out]; have := HNN.out; omega)] at e
     exact e
    have HML := Lib.hid hML
    clear hML
    go_wp2
    go_ret
    exact ⟨g, rfl, by rw [← HML.out]; exact HBM.out, by have := hgw2.out; omega, HFM.out⟩
end Go.Proofs.YtdenpfcgghangaaGreat
