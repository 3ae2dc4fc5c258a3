/- Package code's writer: Int, Row, Hash. -/
import Derived.Test.YtdenpfcgghangaaGreatSame
import Derived.IntWalk
set_option linter.unusedSimpArgs false
set_option linter.unusedVariables false
namespace Go.Proofs.YtdenpfcgghangaaGreat
open Go.RowKit
theorem int_nat (n : Nat) (hn : n < 9223372036854775808) (w : World) (S : List Nat) (g : Nat) (l : List UInt8) (hw : Wr w S g l) (hl : l.length < 1073741824) :
  Calls Tryz.prog 64 #[.pointer (some ⟨g, 0, none⟩), .int .i64 n] w fun e w' => e = .returned (.pointer (some ⟨g, 0, none⟩)) ∧
   ∃ S', Wr w' S' g (l ++ enc n) ∧ Fr S w w' ∧ ∀ x ∈ S', x < w.heap.size → x ∈ S := by
 have HN := Lib.hid hn
 have HL := Lib.hid hl
 have HW := Lib.hid hw
 clear hn hl hw
 go_enter Tryz.func64, Tryz.ntmps64
 go_wp2_with fail
 rw [IntWalk.u64_in _ ⟨by omega, by have := HN.out; omega⟩]
 refine (num_any n (by have := HN.out; omega) w S g l HW.out HL.out).mono ?_
 rintro e w1 ⟨rfl, S1, h1, h2, h3⟩
 have H1 := Lib.hid h1
 have H2 := Lib.hid h2
 have H3 := Lib.hid h3
 clear h1 h2 h3
 go_wp2
 go_ret
 exact ⟨rfl, S1, H1.out, H2.out, H3.out⟩
theorem int_neg (n : Int) (hn : n < 0) (w : World) (S : List Nat) (g : Nat) (l : List UInt8) (hw : Wr w S g l) (hl : l.length < 1073741824) :
  Calls Tryz.prog 64 #[.pointer (some ⟨g, 0, none⟩), .int .i64 n] w fun e w' => e = .returned (.pointer (some ⟨g, 0, none⟩)) ∧
   ∃ S', Wr w' S' g (l ++ enc 0) ∧ Fr S w w' ∧ ∀ x ∈ S', x < w.heap.size → x ∈ S := by
 have HL := Lib.hid hl
 have HW := Lib.hid hw
 clear hl hw
 go_enter Tryz.func64, Tryz.ntmps64
 go_wp2_with fail
 rw [show (0 : Int) = ((0 : Nat) : Int) from rfl]
 refine (num_any 0 (by omega) w S g l HW.out HL.out).mono ?_
 rintro e w1 ⟨rfl, S1, h1, h2, h3⟩
 have H1 := Lib.hid h1
 have H2 := Lib.hid h2
 have H3 := Lib.hid h3
 clear h1 h2 h3
 go_wp2
 go_ret
 exact ⟨rfl, S1, H1.out, H2.out, H3.out⟩
end Go.Proofs.YtdenpfcgghangaaGreat
