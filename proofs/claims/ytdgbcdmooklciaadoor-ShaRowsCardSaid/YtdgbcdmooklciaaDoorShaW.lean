/- The example of the document (wakes) over package sha. -/
import Derived.Test.YtdgbcdmooklciaaDoorShaQ
namespace Go.Proofs.YtdgbcdmooklciaaDoor
set_option maxRecDepth 100000
open Go.RowKit

set_option maxRecDepth 100000 in
set_option maxHeartbeats 1000000 in
theorem shawakes_any (w : World) (hK : KW w) : Calls Tryd.prog 14 #[] w fun e w' => e = .returned (.bool true) ∧ Fr [] w w' := by
  obtain ⟨rest, hrest⟩ : ∃ rest, sumL [] = 227 :: 176 :: 196 :: 66 :: rest := by
    have h := wakesum
    have hl := sumL_len []
    match hs : sumL [], h, hl with
    | a :: b :: c :: d :: r, h, _ =>
      simp at h
      obtain ⟨rfl, rfl, rfl, rfl⟩ := h
      exact ⟨r, rfl⟩
    | [], _, h => simp at h
    | [_], _, h => simp at h
    | [_, _], _, h => simp at h
    | [_, _, _], _, h => simp at h
  have HR := Lib.hid hrest
  have hlen := sumL_len []
  have hs := sum_any none 0 0 [] w (By.nil w none) (Nat.le_refl _) (by omega) hK
  generalize sumL [] = S at *
  have HLEN := Lib.hid hlen
  have HS := Lib.hid hs
  clear hrest hlen hs hK
  go_enter Tryd.func14, Tryd.ntmps14
  go_wp2_with fail
  refine HS.out.mono ?_
  rintro e w1 ⟨rfl, hf1⟩
  have HF1 := Lib.hid hf1
  clear hf1
  go_wp2_with (first
    | (refine wpList_store_box rfl 26 _ _ rfl _ 26 (S.map by8) rfl rfl (by rw [hash_sizeS, List.length_map, HLEN.out]) (by rw [List.length_map, HLEN.out]; rfl) (by8_one S) ?_
       intro wb hblk hfb
       have c0 : wb.cell? ⟨w1.heap.size, 0, none⟩ = some (.int .u8 227) := by rw [hblk.cell 0, HR.out]; rfl
       have c1 : wb.cell? ⟨w1.heap.size, 1, none⟩ = some (.int .u8 176) := by rw [hblk.cell 1, HR.out]; rfl
       have c2 : wb.cell? ⟨w1.heap.size, 2, none⟩ = some (.int .u8 196) := by rw [hblk.cell 2, HR.out]; rfl
       have c3 : wb.cell? ⟨w1.heap.size, 3, none⟩ = some (.int .u8 66) := by rw [hblk.cell 3, HR.out]; rfl
       have HFB := Lib.hid hfb
       clear hblk hfb))
  go_wp2
  go_ret
  exact ⟨rfl, HF1.out.trans HFB.out (by simp)⟩
end Go.Proofs.YtdgbcdmooklciaaDoor
