/- gavelkeep.Within, Cut; the writer's Hash. -/
import Derived.Test.YtpcnedpheplofaaGreatWr2
import Derived.Deep.RegionLaw
import Derived.IntWalk
set_option linter.unusedSimpArgs false
set_option linter.unusedVariables false
namespace Go.Proofs.YtpcnedpheplofaaGreat
open Go.RowKit
theorem cut_any (A : Option Addr) (n c m : Nat) (l : List UInt8) (w : World) (hr : By w A n l) (hn : n ≤ maxLen) (hc : n ≤ c) (hm : m ≤ 1073741824) :
  Calls Tryz.prog 15 #[.slice A n c, .int .i64 m] w fun e w' => ∃ A' c', e = .returned (.slice A' (l.take m).length c') ∧ NewB w w' A' (l.take m).length c' (l.take m) := by
 unfold maxLen at hn
 have HR := Lib.hid hr
 have HL : Hid ((l.take m).length = min m n) := by rw [List.length_take, hr.1]; rfl
 clear hr
 by_cases hnm : n ≤ m
 · have hmin : Hid (min m n = n) := Nat.min_eq_right hnm
   go_enter Tryz.func15, Tryz.ntmps15
   go_wp2_with fail
   refine (copy_any A n c (l.take m) w (by have h := HR.out.1; rw [List.take_of_length_le (by omega)]; exact HR.out) (by omega)).mono ?_
   rintro e w1 ⟨A1, c1, rfl, hN⟩
   have HN := Lib.hid hN
   clear hN
   go_wp2
   go_ret
   rw [HL.out, hmin.out]
   exact ⟨A1, c1, rfl, HN.out⟩
 · have hmin : Hid (min m n = m) := Nat.min_eq_left (by omega)
   have hmc : m ≤ c := by omega
   go_enter Tryz.func15, Tryz.ntmps15
   go_wp2_with fail
   refine (copy_any A m c (l.take m) w (HR.out.take (by omega)) (by omega)).mono ?_
   rintro e w1 ⟨A1, c1, rfl, hN⟩
   have HN := Lib.hid hN
   clear hN
   go_wp2
   go_ret
   rw [HL.out, hmin.out]
   exact ⟨A1, c1, rfl, HN.out⟩
set_option maxRecDepth 100000 in
set_option maxHeartbeats 1000000 in
theorem hash_any (h : List UInt8) (hh : h.length = 32) (w : World) (S : List Nat) (g : Nat) (l : List UInt8) (hw : Wr w S g l) (hl : l.length < 1073741000) :
  Calls Tryz.prog 120 #[.pointer (some ⟨g, 0, none⟩), .agg (h.map by8).toArray] w fun e w' => e = .returned (.pointer (some ⟨g, 0, none⟩)) ∧
   ∃ S', Wr w' S' g (l ++ h) ∧ Fr S w w' ∧ ∀ x ∈ S', x < w.heap.size → x ∈ S := by
 have HL := Lib.hid hl
 have HW := Lib.hid hw
 have HH := Lib.hid hh
 clear hl hw hh
 generalize hcs : (h.map by8).toArray = cs
 have HCS := Lib.hid hcs
 clear hcs
 go_enter Tryz.func120, Tryz.ntmps120
 go_wp2
 have hfa : Fr [] w (w.alloc (Obj.cells cs 25)) := (Fr.refl [] w).alloc _
 have hbh : Blk (w.alloc (Obj.cells cs 25)) w.heap.size 25 cs := Blk.new _ _ _
 generalize w.alloc (Obj.cells cs 25) = wa at *
 obtain ⟨A, c, hS, hb, ho⟩ := HW.out.keep hfa (by simp)
 have hc := hb.cell 0
 simp at hc
 have hy : By wa (some ⟨w.heap.size, 0, none⟩) 32 h := by
  have := By.blk h hbh HCS.out.symm
  rw [HH.out] at this
  exact this
 have HY := Lib.hid hy
 have HS := Lib.hid hS
 have HFA := Lib.hid hfa
 clear hy hS hfa
 generalize w.heap.size = gh at *
 go_region_law (first
  | (refine step_append_bytes _ rfl (.tmp 9) (.tmp 10) _ rfl 5 Tryz.underlying52 info_u8 (.slice A l.length c) l.length l rfl ho (some ⟨gh, 0, none⟩) 32 32 h rfl HY.out (by have := HL.out; omega) ?_
     intro A1 c1 w1 ho1 hg1 hat1
     obtain ⟨hb1, hP1, hP2, hP3⟩ := Wr.put hb ho ((Fr.refl [] wa).drew) HH.out ho1 hg1 hat1
     have hc1 := hb1.cell 0
     have hz1 := hb1.frozen 0
     simp at hc1
     have HP1 := Lib.hid hP1
     have HP2 := Lib.hid hP2
     have HP3 := Lib.hid hP3
     clear hP1 hP2 hP3))
 go_wp2
 go_ret
 refine ⟨rfl, g :: bk A1, HP1.out, ?_, ?_⟩
 · refine (HFA.out.mono (T := S) (by simp)).trans HP2.out ?_
   rw [← HS.out]
   exact fun _ h _ => h
 · intro x hx hl
   have := HP3.out x hx (Nat.lt_of_lt_of_le hl HFA.out.size)
   rw [← HS.out] at this
   exact this
end Go.Proofs.YtpcnedpheplofaaGreat
