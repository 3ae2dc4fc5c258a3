/- gavelref01's Num, Int, Row: the document's own bytes. -/
import Derived.Test.YtdenpfcgghangaaGreatWr2
set_option linter.unusedSimpArgs false
set_option linter.unusedVariables false
namespace Go.Proofs.YtdenpfcgghangaaGreat
open Go.RowKit
theorem u8_add128 (m : Nat) : (m : Int) % 128 + 128 = ((UInt8.ofNat (m % 128 + 128)).toNat : Int) := by
 rw [UInt8.toNat_ofNat']
 omega
theorem NewB.grow {w wa w1 : World} {A A1 : Option Addr} {n c m c1 : Nat} {l news : List UInt8} (hf : Fr [] w wa) (hA : ∀ k ∈ bk A, w.heap.size ≤ k)
  (ho1 : w1.ownsRow 0 5 1 (.slice A1 (n + m) c1) (n + m) ((l ++ news).map by8)) (hg : wa.grownBy w1 (Value.slice A n c).ownBlock)
  (hat : bk A1 = (Value.slice A n c).ownBlock.toList ∨ bk A1 = [wa.heap.size]) : NewB w w1 A1 (n + m) c1 (l ++ news) := by
 refine ⟨ho1, hf.grown hg (fun k hk hl => ?_), fun x hx => ?_⟩
 · rw [bk_mem] at hk
   have := hA k hk
   omega
 · rw [bk_own] at hat
   rcases hat with e | e <;> rw [e] at hx
   · exact hA x hx
   · simp at hx
     have := hf.size
     omega
set_option maxRecDepth 100000 in
set_option maxHeartbeats 400000 in
theorem refnum_any (n : Nat) (hn : n < 18446744073709551616) (w : World) :
  Calls Tryz.prog 26 #[.int .u64 n] w fun e w' => ∃ A c, e = .returned (.slice A (enc n).length c) ∧ NewB w w' A (enc n).length c (enc n) := by
 have HN := Lib.hid hn
 clear hn
 go_enter Tryz.func26, Tryz.ntmps26
 go_wp2
 go_loopw [0, 3] (fun x y wr => ∃ (m c : Nat) (A : Option Addr) (l1 : List UInt8), m < 18446744073709551616 ∧ x = .int .u64 m ∧ y = .slice A l1.length c ∧ NewB w wr A l1.length c l1 ∧ l1 ++ enc m = enc n)
  (fun x _ _ => (intOf x).toNat)
 case atStart => exact ⟨n, 0, none, [], HN.out, rfl, rfl, ⟨⟨rfl, .inl ⟨rfl, rfl⟩⟩, Fr.refl _ _, by simp [bk]⟩, rfl⟩
 case round =>
  obtain ⟨m, c, A, l1, hm, rfl, rfl, hw1, heq⟩ := hrel
  have HM := Lib.hid hm
  have HEQ := Lib.hid heq
  have HW := Lib.hid hw1
  clear hm heq hw1
  have hll : l1.length ≤ 20 := by
   have e := congrArg List.length HEQ.out
   simp only [List.length_append] at e
   have h1 := enc_ten HN.out
   omega
  have HLL := Lib.hid hll
  clear hll
  by_cases hlt : m < 128
  · go_wp2_with (at_builtin; refine Stop.mk ?_)
    refine Stop.go ?_
    refine wpList_append_bytes _ rfl (.tmp 15) (.tmp 18) _ rfl 5 Tryz.underlying52 info_u8 (.slice A l1.length c) l1.length l1 rfl (HW.out.1.alloc _) (some ⟨wr.heap.size, 0, none⟩) 1 1 [UInt8.ofNat m] rfl
       (By.one (Blk.new _ _ _) ?_) ?_ ?_
    · exact u8_small hlt
    · have := HLL.out; omega
    intro A1 c1 w1 ho1 hg1 hat1
    have HO := Lib.hid ho1
    have HG := Lib.hid hg1
    have HT := Lib.hid hat1
    clear ho1 hg1 hat1
    go_wp2
    go_ret
    have hN := NewB.grow (HW.out.2.1.alloc _) HW.out.2.2 HO.out HG.out HT.out
    have e := HEQ.out
    rw [enc_small hlt] at e
    have el : l1.length + 1 = (enc n).length := by rw [← e]; simp
    rw [e, el] at hN
    refine ⟨A1, c1, ?_, hN⟩
    simp [el]
  · go_wp2_with (at_builtin; refine Stop.mk ?_)
    refine Stop.go ?_
    refine wpList_append_bytes _ rfl (.tmp 6) (.tmp 11) _ rfl 5 Tryz.underlying52 info_u8 (.slice A l1.length c) l1.length l1 rfl (HW.out.1.alloc _) (some ⟨wr.heap.size, 0, none⟩) 1 1 [UInt8.ofNat (m % 128 + 128)] rfl
       (By.one (Blk.new _ _ _) ?_) ?_ ?_
    · exact u8_add128 m
    · have := HLL.out; omega
    intro A1 c1 w1 ho1 hg1 hat1
    have HO := Lib.hid ho1
    have HG := Lib.hid hg1
    have HT := Lib.hid hat1
    clear ho1 hg1 hat1
    go_wp2
    go_roundw
    case rel =>
     have hN := NewB.grow (HW.out.2.1.alloc _) HW.out.2.2 HO.out HG.out HT.out
     refine ⟨m / 128, c1, A1, l1 ++ [UInt8.ofNat (m % 128 + 128)], by have := HM.out; omega, ?_, by simp, by simpa using hN, ?_⟩
     · rw [IntWalk.u64_in _ ⟨by omega, by have := HM.out; omega⟩]; simp
     · rw [← HEQ.out, enc_great hlt]; simp
    case measure => rw [IntWalk.u64_in _ ⟨by omega, by have := HM.out; omega⟩]; simp [intOf]; omega
theorem refint_nat (n : Nat) (hn : n < 9223372036854775808) (w : World) :
  Calls Tryz.prog 20 #[.int .i64 n] w fun e w' => ∃ A c, e = .returned (.slice A (enc n).length c) ∧ NewB w w' A (enc n).length c (enc n) := by
 have HN := Lib.hid hn
 clear hn
 go_enter Tryz.func20, Tryz.ntmps20
 go_wp2_with fail
 rw [IntWalk.u64_in _ ⟨by omega, by have := HN.out; omega⟩]
 refine (refnum_any n (by have := HN.out; omega) w).mono ?_
 rintro e w1 ⟨A, c, rfl, hN⟩
 go_wp2
 go_ret
 exact ⟨A, c, rfl, hN⟩
theorem refint_neg (n : Int) (hn : n < 0) (w : World) :
  Calls Tryz.prog 20 #[.int .i64 n] w fun e w' => ∃ A c, e = .returned (.slice A (enc 0).length c) ∧ NewB w w' A (enc 0).length c (enc 0) := by
 go_enter Tryz.func20, Tryz.ntmps20
 go_wp2_with fail
 rw [show (0 : Int) = ((0 : Nat) : Int) from rfl]
 refine (refnum_any 0 (by omega) w).mono ?_
 rintro e w1 ⟨A, c, rfl, hN⟩
 go_wp2
 go_ret
 exact ⟨A, c, rfl, hN⟩
theorem refrow_any (A : Option Addr) (n c : Nat) (l : List UInt8) (w : World) (hr : By w A n l) (hA : ∀ k ∈ bk A, k < w.heap.size) (hn : n ≤ 1073741824) :
  Calls Tryz.prog 33 #[.slice A n c] w fun e w' => ∃ A' c', e = .returned (.slice A' ((enc n).length + n) c') ∧ NewB w w' A' ((enc n).length + n) c' (enc n ++ l) := by
 have HR := Lib.hid hr
 have HN := Lib.hid hn
 have HA := Lib.hid hA
 clear hr hn hA
 go_enter Tryz.func33, Tryz.ntmps33
 go_wp2_with fail
 refine (refint_nat n (by have := HN.out; omega) w).mono ?_
 rintro e w1 ⟨A1, c1, rfl, hN⟩
 have HNB := Lib.hid hN
 clear hN
 go_wp2_with (at_builtin; refine Stop.mk ?_)
 refine Stop.go ?_
 have hlen := enc_ten (m := n) (by have := HN.out; omega)
 refine wpList_append_bytes _ rfl (.tmp 5) (.tmp 6) _ rfl 5 Tryz.underlying52 info_u8 (.slice A1 (enc n).length c1) (enc n).length (enc n) rfl HNB.out.1 A n c l rfl (HR.out.keep HNB.out.2.1 (by simp)) (by have := HN.out; omega) ?_
 intro A2 c2 w2 ho2 hg2 hat2
 have hN2 := NewB.grow HNB.out.2.1 HNB.out.2.2 ho2 hg2 hat2
 have HN2 := Lib.hid hN2
 clear hN2 ho2 hg2 hat2
 go_wp2
 go_ret
 exact ⟨A2, c2, rfl, HN2.out⟩
end Go.Proofs.YtdenpfcgghangaaGreat
