/- gavelkeep.Same over bytes; the example of the document (wakes). -/
import Derived.Test.YtdenpfcgghangaaGreatBy
import Derived.LaidEqlPtr
set_option linter.unusedSimpArgs false
set_option linter.unusedVariables false
namespace Go.Proofs.YtdenpfcgghangaaGreat
open Go.RowKit
theorem take_eq_succ {l1 l2 : List UInt8} {k : Nat} {a b : UInt8} (h : l1.take k = l2.take k) (h1 : l1[k]? = some a) (h2 : l2[k]? = some b) (e : a = b) : l1.take (k + 1) = l2.take (k + 1) := by
 rw [List.take_add_one, List.take_add_one, h, h1, h2, e]
theorem drew_add (w : World) (a b : Nat) : (w.drewN a).drewN b = w.drewN (a + b) := by
 simp [World.drewN, Nat.add_assoc]
set_option maxHeartbeats 400000 in
theorem same_eq (A B : Option Addr) (n c d : Nat) (l1 l2 : List UInt8) (w : World) (h1 : By w A n l1) (h2 : By w B n l2) (hn : n ≤ 1073741824) :
  Calls Tryz.prog 16 #[.slice A n c, .slice B n d] w fun e w' => e = .returned (.bool (decide (l1 = l2))) ∧ ∃ k, w' = w.drewN k := by
 have H1 := Lib.hid h1
 have H2 := Lib.hid h2
 clear h1 h2
 have hb : ((n : Int) != (n : Int)) = false := by simp
 go_enter Tryz.func16, Tryz.ntmps16
 go_wp2
 go_loopw [5] (fun i wr => ∃ (k q : Nat), k ≤ n ∧ i = .int .i64 k ∧ l1.take k = l2.take k ∧ wr = w.drewN q) (fun i _ => n - (intOf i).toNat)
 case atStart => exact ⟨0, 0, by omega, rfl, by simp, rfl⟩
 case round =>
  obtain ⟨k, q, hk, rfl, heq, rfl⟩ := hrel
  have HE := Lib.hid heq
  clear heq
  by_cases hlt : k < n
  · obtain ⟨a1, b1, rfl, hg1, hc1⟩ := H1.out.at hlt
    obtain ⟨a2, b2, rfl, hg2, hc2⟩ := H2.out.at hlt
    have HG1 := Lib.hid hg1
    have HG2 := Lib.hid hg2
    clear hg1 hg2
    have ha1 : (0 : Int) ≤ k := by omega
    by_cases hbb : b1 = b2
    · have hne : ((b1.toNat : Int) != (b2.toNat : Int)) = false := by rw [hbb]; simp
      have HB := Lib.hid hbb
      clear hbb
      go_wp2
      go_quiet (fail)
      go_wp2
      go_roundw
      case rel => exact ⟨k + 1, q + nq, by omega, by go_num, take_eq_succ HE.out HG1.out HG2.out HB.out, rfl⟩
      case measure => simp [intOf]; omega
    · have hne : ((b1.toNat : Int) != (b2.toNat : Int)) = true := by
       simp only [bne_iff_ne, ne_eq]
       intro h
       exact hbb (UInt8.toNat_inj.1 (by omega))
      have hfin : decide (l1 = l2) = false := by
       simp only [decide_eq_false_iff_not]
       rintro rfl
       have e := HG1.out.symm.trans HG2.out
       exact hbb (by injection e)
      have HF := Lib.hid hfin
      clear hbb hfin
      go_wp2
      go_quiet (fail)
      go_wp2
      go_ret
      exact ⟨by rw [HF.out]; rfl, _, drew_add _ _ _⟩
  · have hfin : decide (l1 = l2) = true := by
     simp only [decide_eq_true_eq]
     have e := HE.out
     rw [List.take_of_length_le (by have := H1.out.1; omega), List.take_of_length_le (by have := H2.out.1; omega)] at e
     exact e
    have HF := Lib.hid hfin
    clear hfin
    go_wp2
    go_ret
    exact ⟨by rw [HF.out]; rfl, _, rfl⟩
theorem same_any (A B : Option Addr) (n m c d : Nat) (l1 l2 : List UInt8) (w : World) (h1 : By w A n l1) (h2 : By w B m l2) (hn : n ≤ 1073741824) :
  Calls Tryz.prog 16 #[.slice A n c, .slice B m d] w fun e w' => e = .returned (.bool (decide (l1 = l2))) ∧ ∃ k, w' = w.drewN k := by
 by_cases h : n = m
 · subst h
   exact same_eq A B n c d l1 l2 w h1 h2 hn
 · exact same_ne A B n m c d l1 l2 w h1 h2 h
end Go.Proofs.YtdenpfcgghangaaGreat
