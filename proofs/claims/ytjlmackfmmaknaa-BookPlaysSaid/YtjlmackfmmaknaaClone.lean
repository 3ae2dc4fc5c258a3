/- Package book: the contract of Clone. -/
import Derived.Test.YtjlmackfmmaknaaBook3
import Derived.Laws.Externs
namespace Go.Proofs.Ytjlmackfmmaknaa
set_option maxRecDepth 100000
open Go.RowKit

set_option maxHeartbeats 1000000 in
theorem mclone_any (w : World) (b : Nat) (es : Array MapEntry) (clock : Nat) (hb : w.heap[b]? = some (.map es clock)) :
    Calls Try.prog 41 #[.map (some b)] w fun e w' => e = .returned (.map (some w.heap.size)) ∧ w' = w.alloc (.map es clock) := by
  have hq := fun w => run_eql_map_nil_sl (P := Try.prog) w 89 _ _ (some b) Try.underlying89
  go_enter Try.func41, Try.ntmps41
  go_wp2
  rw [run_callFunc_extern (P := Try.prog) Try.func57 (by kernel_rfl) (by kernel_rfl) (by kernel_rfl) (e := Extern.MapsClone.clone) (by kernel_rfl), run_maps_clone_sl w 89 hb]
  simp only [Result.andThen]
  rw [Oper.upon_value]
  go_wp2
  rw [run_typeAssert_map_sl _ 89 20 _ _ _ Try.underlying89]
  simp only [Result.andThen]
  rw [Oper.upon_value]
  go_wp2
  go_ret
  exact ⟨rfl, rfl⟩

set_option maxHeartbeats 1000000 in
theorem clone_book (w : World) (S : List Nat) (g : Nat) (l : List Ent) (h : Bok w S g l) :
    Calls Try.prog 10 #[.pointer (some ⟨g, 0, none⟩)] w fun e w' => e = .returned (.pointer (some ⟨w.heap.size + 1, 0, none⟩)) ∧ Bok w' [w.heap.size + 1, w.heap.size] (w.heap.size + 1) l ∧ Fr [] w w' := by
  obtain ⟨b, D, rfl, h1, h2, h3⟩ := h
  have hc := h1.cell 0
  simp at hc
  have H3 := Lib.hid h3
  obtain ⟨es, clock, hb, hF, hs, hD⟩ := h2
  have HF := Lib.hid hF
  have HS := Lib.hid hs
  have HD := Lib.hid hD
  have hcl := mclone_any w b es clock hb
  clear h1 h3 hF hs hD
  go_enter Try.func10, Try.ntmps10
  go_wp2_with fail
  refine hcl.mono ?_
  rintro e w1 ⟨rfl, hw1⟩
  have HW1 := Lib.hid hw1
  have hf1 : Fr [] w w1 := by rw [hw1]; exact (Fr.refl [] w).alloc _
  have hsz : w1.heap.size = w.heap.size + 1 := by rw [hw1]; simp
  have hm1 : w1.heap[w.heap.size]? = some (.map es clock) := by rw [hw1]; exact (MapKept.heap_alloc w _).1
  have HF1 := Lib.hid hf1
  have HSZ := Lib.hid hsz
  have HM1 := Lib.hid hm1
  clear hw1 hf1 hsz hm1 hc hcl hb
  go_wp2
  go_ret
  refine ⟨by rw [HSZ.out]; rfl, ⟨w.heap.size, D, rfl, ?_, ?_, H3.out⟩, HF1.out.alloc _⟩
  · have := Blk.new w1 91 #[.map (some w.heap.size)]
    rw [HSZ.out] at this
    exact this
  · have ho : w1.ownsMap Try.prog 98 (plainElem Try.prog 3) w.heap.size l.length D := ⟨es, clock, HM1.out, HF.out, HS.out, HD.out⟩
    exact ho.alloc _
end Go.Proofs.Ytjlmackfmmaknaa
