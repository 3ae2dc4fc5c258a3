/- gavelkeep.Within, Cut; the writer's Hash. -/
import Derived.Test.YtdenpfcgghangaaGreatWr2
import Derived.Deep.RegionLaw
import Derived.IntWalk
set_option linter.unusedSimpArgs false
set_option linter.unusedVariables false
namespace Go.Proofs.YtdenpfcgghangaaGreat
open Go.RowKit
theorem tmod_emod (v n : Int) (hn : 0 < n) : v % n = if v.tmod n < 0 then v.tmod n + n else v.tmod n := by
 have h1 := Int.lt_tmod_of_pos v hn
 have h2 := Int.tmod_lt_of_pos v hn
 have h3 : v % n = v.tmod n % n := by
  conv => lhs; rw [← Int.tmod_add_mul_tdiv v n]
  rw [Int.add_mul_emod_self_left]
 rw [h3]
 split
 · rw [← Int.add_emod_right, Int.emod_eq_of_lt (by omega) (by omega)]
 · rw [Int.emod_eq_of_lt (by omega) (by omega)]
theorem within_pos (v n : Int) (h1 : -9223372036854775808 ≤ v) (h2 : v < 9223372036854775808) (hn : 0 < n) (hn2 : n < 4611686018427387904) (w : World) :
  Calls Tryz.prog 7 #[.int .i64 v, .int .i64 n] w fun e w' => e = .returned (.int .i64 (v % n)) ∧ w = w' := by
 have H1 := Lib.hid h1
 have H2 := Lib.hid h2
 have HN := Lib.hid hn2
 have HE := Lib.hid (tmod_emod v n hn)
 have HT := Lib.hid (Int.tmod_lt_of_pos v hn)
 have HS := Lib.hid (Int.lt_tmod_of_pos v hn)
 clear h1 h2 hn2
 have hn1 : ¬ n < 1 := by omega
 have hn0 : ¬ n = 0 := by omega
 by_cases hv : v.tmod n < 0
 · go_enter Tryz.func7, Tryz.ntmps7
   go_wp2
   go_ret
   refine ⟨?_, rfl⟩
   have h1 := HE.out
   have h2 := HS.out
   have h3 := HN.out
   rw [if_pos hv] at h1
   rw [h1]
   have e : wrap64 (v.tmod n + n) = v.tmod n + n := by
    unfold wrap64
    omega
   show Ending.returned (.int .i64 (wrap64 (v.tmod n + n))) = _
   rw [e]
 · go_enter Tryz.func7, Tryz.ntmps7
   go_wp2
   go_ret
   refine ⟨?_, rfl⟩
   have h1 := HE.out
   rw [if_neg (by omega)] at h1
   rw [h1]
   rfl
theorem cut_any (A : Option Addr) (n c m : Nat) (l : List UInt8) (w : World) (hr : By w A n l) (hn : n ≤ maxLen) (hc : n ≤ c) (hm : m ≤ 1073741824) :
  Calls Tryz.prog 8 #[.slice A n c, .int .i64 m] w fun e w' => ∃ A' c', e = .returned (.slice A' (l.take m).length c') ∧ NewB w w' A' (l.take m).length c' (l.take m) := by
 unfold maxLen at hn
 have HR := Lib.hid hr
 have HL : Hid ((l.take m).length = min m n) := by rw [List.length_take, hr.1]; rfl
 clear hr
 by_cases hnm : n ≤ m
 · have hmin : Hid (min m n = n) := Nat.min_eq_right hnm
   go_enter Tryz.func8, Tryz.ntmps8
   go_wp2_with fail
   refine (copy_any A n c (l.take m) w (by have h := HR.out.1; rw [List.take_of_length_le (by omega)]; exact HR.out) (by omega)).mono ?_
   rintro e w1 ⟨A1, c1, rfl, hN⟩
   have HN := Lib.hid hN
   clear hN
   go_wp2
   go_ret
   rw [HL.out, hmin.out]
   exact ⟨A1, c1, rfl, HN.out⟩
 · have hmin : Hid (min m n = m) := Nat.min_eq_left (by omega)
   have hmc : m ≤ c := by omega
   go_enter Tryz.func8, Tryz.ntmps8
   go_wp2_with fail
   refine (copy_any A m c (l.take m) w (HR.out.take (by omega)) (by omega)).mono ?_
   rintro e w1 ⟨A1, c1, rfl, hN⟩
   have HN := Lib.hid hN
   clear hN
   go_wp2
   go_ret
   rw [HL.out, hmin.out]
   exact ⟨A1, c1, rfl, HN.out⟩
end Go.Proofs.YtdenpfcgghangaaGreat
