/- Package code's writer: Int, Row, Hash. -/
import Derived.Test.YtpcnedpheplofaaGreatSame
import Derived.IntWalk
set_option linter.unusedSimpArgs false
set_option linter.unusedVariables false
namespace Go.Proofs.YtpcnedpheplofaaGreat
open Go.RowKit
theorem int_nat (n : Nat) (hn : n < 9223372036854775808) (w : World) (S : List Nat) (g : Nat) (l : List UInt8) (hw : Wr w S g l) (hl : l.length < 1073741824) :
  Calls Tryz.prog 26 #[.pointer (some ⟨g, 0, none⟩), .int .i64 n] w fun e w' => e = .returned (.pointer (some ⟨g, 0, none⟩)) ∧
   ∃ S', Wr w' S' g (l ++ enc n) ∧ Fr S w w' ∧ ∀ x ∈ S', x < w.heap.size → x ∈ S := by
 have HN := Lib.hid hn
 have HL := Lib.hid hl
 have HW := Lib.hid hw
 clear hn hl hw
 go_enter Tryz.func26, Tryz.ntmps26
 go_wp2_with fail
 rw [IntWalk.u64_in _ ⟨by omega, by have := HN.out; omega⟩]
 refine (num_any n (by have := HN.out; omega) w S g l HW.out HL.out).mono ?_
 rintro e w1 ⟨rfl, S1, h1, h2, h3⟩
 have H1 := Lib.hid h1
 have H2 := Lib.hid h2
 have H3 := Lib.hid h3
 clear h1 h2 h3
 go_wp2
 go_ret
 exact ⟨rfl, S1, H1.out, H2.out, H3.out⟩
theorem int_neg (n : Int) (hn : n < 0) (w : World) (S : List Nat) (g : Nat) (l : List UInt8) (hw : Wr w S g l) (hl : l.length < 1073741824) :
  Calls Tryz.prog 26 #[.pointer (some ⟨g, 0, none⟩), .int .i64 n] w fun e w' => e = .returned (.pointer (some ⟨g, 0, none⟩)) ∧
   ∃ S', Wr w' S' g (l ++ enc 0) ∧ Fr S w w' ∧ ∀ x ∈ S', x < w.heap.size → x ∈ S := by
 have HL := Lib.hid hl
 have HW := Lib.hid hw
 clear hl hw
 go_enter Tryz.func26, Tryz.ntmps26
 go_wp2_with fail
 rw [show (0 : Int) = ((0 : Nat) : Int) from rfl]
 refine (num_any 0 (by omega) w S g l HW.out HL.out).mono ?_
 rintro e w1 ⟨rfl, S1, h1, h2, h3⟩
 have H1 := Lib.hid h1
 have H2 := Lib.hid h2
 have H3 := Lib.hid h3
 clear h1 h2 h3
 go_wp2
 go_ret
 exact ⟨rfl, S1, H1.out, H2.out, H3.out⟩
theorem row_any (A : Option Addr) (n c : Nat) (b : List UInt8) (w : World) (hb : By w A n b) (hn : n ≤ 1073741824) (S : List Nat) (hA : ∀ k ∈ bk A, ¬ k ∈ S) (g : Nat) (l : List UInt8) (hw : Wr w S g l) (hl : l.length < 1073741000) :
  Calls Tryz.prog 88 #[.pointer (some ⟨g, 0, none⟩), .slice A n c] w fun e w' => e = .returned (.pointer (some ⟨g, 0, none⟩)) ∧
   ∃ S', Wr w' S' g (l ++ (enc n ++ b)) ∧ Fr S w w' ∧ ∀ x ∈ S', x < w.heap.size → x ∈ S := by
 have HB := Lib.hid hb
 have HA := Lib.hid hA
 have HN := Lib.hid hn
 have HL := Lib.hid hl
 have HW := Lib.hid hw
 clear hn hl hw hb hA
 go_enter Tryz.func88, Tryz.ntmps88
 go_wp2_with fail
 refine (int_nat n (by have := HN.out; omega) w S g l HW.out (by have := HL.out; omega)).mono ?_
 rintro e w1 ⟨rfl, S1, ⟨A1, c1, hS1, hb1, ho1⟩, h2, h3⟩
 generalize hl1 : l ++ enc n = l1 at hb1 ho1
 have HL1 := Lib.hid hl1
 have HS1 := Lib.hid hS1
 have H2 := Lib.hid h2
 have H3 := Lib.hid h3
 have hc1 := hb1.cell 0
 simp only [List.getElem?_toArray, List.getElem?_cons_zero] at hc1
 have HLL : Hid (l1.length + n ≤ 140737488355328) := by
  have := HL.out
  have := HN.out
  have := enc_ten (m := n) (by omega)
  rw [← HL1.out, List.length_append]
  show _ ≤ _
  omega
 clear h2 h3 hS1 hl1
 go_wp2_with (at_builtin; refine Stop.mk ?_)
 refine Stop.go ?_
 refine wpList_append_bytes _ rfl (.tmp 13) (.tmp 14) _ rfl 5 Tryz.underlying52 info_u8 (.slice A1 l1.length c1) l1.length l1 rfl ho1 A n c b rfl
  (HB.out.keep H2.out (by intro a ha; exact HA.out _ (by rw [ha]; simp [bk]))) HLL.out ?_
 intro A2 c2 w2 ho2 hg2 hat2
 obtain ⟨hb2, hP1, hP2, hP3⟩ := Wr.put hb1 ho1 (Fr.refl [] w1) HB.out.1 ho2 hg2 hat2
 have hc2 := hb2.cell 0
 have hz2 := hb2.frozen 0
 simp at hc2
 have HP1 := Lib.hid hP1
 have HP2 := Lib.hid hP2
 have HP3 := Lib.hid hP3
 clear hP1 hP2 hP3
 go_wp2
 go_ret
 refine ⟨rfl, g :: bk A2, ?_, ?_, ?_⟩
 · rw [← List.append_assoc, HL1.out]
   exact HP1.out
 · refine H2.out.trans HP2.out ?_
   rw [← HS1.out]
   exact H3.out
 · intro x hx hl
   have := HP3.out x hx (Nat.lt_of_lt_of_le hl H2.out.size)
   rw [← HS1.out] at this
   exact H3.out x this hl
end Go.Proofs.YtpcnedpheplofaaGreat
