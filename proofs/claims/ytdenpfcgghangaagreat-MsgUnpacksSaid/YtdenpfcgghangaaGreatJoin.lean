/- gavelref01's join. -/
import Derived.Test.YtdenpfcgghangaaGreatShaRr
import Derived.Test.YtdenpfcgghangaaGreatReg2
set_option linter.unusedSimpArgs false
set_option linter.unusedVariables false
namespace Go.Proofs.YtdenpfcgghangaaGreat
open Go.RowKit
set_option maxRecDepth 100000
def joinL (rs : List RowV) : List UInt8 := (rs.map (·.b)).flatten
theorem joinL_snoc {rs : List RowV} {k : Nat} {r : RowV} (h : rs[k]? = some r) : joinL (rs.take (k + 1)) = joinL (rs.take k) ++ r.b := by
 unfold joinL
 rw [List.take_add_one, h]
 simp
set_option maxHeartbeats 2000000 in
theorem join_big (g n : Nat) (rs : List RowV) (w : World) (hb : Blk w g 52 (rs.map RowV.val).toArray) (hl : rs.length = n) (hn : n ≤ 8) (hr : ∀ r ∈ rs, By w r.A r.n r.b ∧ r.n ≤ 20000) :
  Calls Tryz.prog 19 #[.slice (some ⟨g, 0, none⟩) n n] w fun e w' => ∃ A c, e = .returned (.slice A (joinL rs).length c) ∧ NewB w w' A (joinL rs).length c (joinL rs) := by
 have HB := Lib.hid hb
 have HL := Lib.hid hl
 have HR := Lib.hid hr
 clear hb hl hr
 go_enter Tryz.func19, Tryz.ntmps19
 go_wp2
 go_loopw [3, 7] (fun s3 i wr => ∃ (k : Nat) (A3 : Option Addr) (c3 : Nat) (L : List UInt8), k ≤ n ∧ i = .int .i64 k ∧ s3 = .slice A3 L.length c3 ∧ L = joinL (rs.take k) ∧ L.length ≤ 20000 * k ∧ NewB w wr A3 L.length c3 L) (fun _ i _ => n - (intOf i).toNat)
 case atStart => exact ⟨0, none, 0, [], by omega, rfl, rfl, by simp [joinL], by simp, ⟨⟨rfl, .inl ⟨rfl, rfl⟩⟩, Fr.refl _ _, by simp [bk]⟩⟩
 case round =>
  obtain ⟨k, A3, c3, L, hk, rfl, rfl, hL, hLl, hN⟩ := hrel
  have HLE := Lib.hid hL
  have HLL := Lib.hid hLl
  have HN := Lib.hid hN
  clear hL hLl hN
  by_cases hlt : k < n
  · obtain ⟨r, hg⟩ : ∃ r, rs[k]? = some r := ⟨_, List.getElem?_eq_getElem (by rw [HL.out]; exact hlt)⟩
    have hm := List.mem_of_getElem? hg
    obtain ⟨hy, hrn⟩ := HR.out r hm
    have hcell : wr.cell? ⟨g, k, none⟩ = some (.slice r.A r.n r.c) := HN.out.2.1.cell (by rw [HB.out.cell k]; simp [hg, RowV.val]) (by simp)
    have HY := Lib.hid (hy.keep HN.out.2.1 (by simp))
    have HG := Lib.hid hg
    have HYL := Lib.hid hy.1
    have hk0 : (0 : Int) ≤ k := by omega
    clear hg hm hy
    go_wp2_with (at_builtin; refine Stop.mk ?_)
    refine Stop.go ?_
    refine wpList_append_bytes _ rfl _ _ _ rfl 5 Tryz.underlying52 info_u8 (.slice A3 L.length c3) L.length L rfl HN.out.1 r.A r.n r.c r.b rfl HY.out (by have := HLL.out; omega) ?_
    intro A5 c5 w5 ho5 hg5 hat5
    have hN5 := NewB.grow HN.out.2.1 HN.out.2.2 ho5 hg5 hat5
    have hl5 : (L ++ r.b).length = L.length + r.n := by rw [List.length_append, HYL.out]
    have hL5 : L ++ r.b = joinL (rs.take (k + 1)) := by rw [joinL_snoc HG.out, ← HLE.out]
    have hb5 : (L ++ r.b).length ≤ 20000 * (k + 1) := by have := HLL.out; rw [hl5]; omega
    rw [← hl5] at hN5 ⊢
    generalize L ++ r.b = L5 at *
    have HN5 := Lib.hid hN5
    have HL5 := Lib.hid hL5
    have HB5 := Lib.hid hb5
    clear ho5 hg5 hat5 hN5 hl5 hL5 hb5
    go_wp2
    go_roundw
    case rel => exact ⟨k + 1, A5, c5, L5, by omega, by go_num, rfl, HL5.out, HB5.out, HN5.out⟩
    case measure => simp [intOf]; omega
  · have hkn : k = n := by omega
    have HE : Hid (L = joinL rs) := Lib.hid (by
     have h := HLE.out
     rwa [hkn, List.take_of_length_le (by rw [HL.out]; exact Nat.le_refl _)] at h)
    have hd : decide (k < n) = false := by simp; omega
    clear hkn hlt
    go_wp2
    go_ret
    rw [← HE.out]
    exact ⟨A3, c3, rfl, HN.out⟩
end Go.Proofs.YtdenpfcgghangaaGreat
