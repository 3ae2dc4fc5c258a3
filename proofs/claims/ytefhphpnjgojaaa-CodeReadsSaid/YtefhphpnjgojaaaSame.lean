/- gavelkeep.Same over bytes; the example of the document (wakes). -/
import Derived.Test.YtefhphpnjgojaaaBy
import Derived.LaidEqlPtr
namespace Go.Proofs.Ytefhphpnjgojaaa
open Go.RowKit

theorem take_eq_succ {l1 l2 : List UInt8} {k : Nat} {a b : UInt8} (h : l1.take k = l2.take k) (h1 : l1[k]? = some a) (h2 : l2[k]? = some b) (e : a = b) : l1.take (k + 1) = l2.take (k + 1) := by
  rw [List.take_add_one, List.take_add_one, h, h1, h2, e]
theorem drew_add (w : World) (a b : Nat) : (w.drewN a).drewN b = w.drewN (a + b) := by
  simp [World.drewN, Nat.add_assoc]

set_option maxHeartbeats 400000 in
theorem same_eq (A B : Option Addr) (n c d : Nat) (l1 l2 : List UInt8) (w : World) (h1 : By w A n l1) (h2 : By w B n l2) (hn : n ≤ 1073741824) :
    Calls Try.prog 15 #[.slice A n c, .slice B n d] w fun e w' => e = .returned (.bool (decide (l1 = l2))) ∧ ∃ k, w' = w.drewN k := by
  have H1 := Lib.hid h1
  have H2 := Lib.hid h2
  clear h1 h2
  have hb : ((n : Int) != (n : Int)) = false := by simp
  go_enter Try.func15, Try.ntmps15
  go_wp2
  go_loopw [5] (fun i wr => ∃ (k q : Nat), k ≤ n ∧ i = .int .i64 k ∧ l1.take k = l2.take k ∧ wr = w.drewN q) (fun i _ => n - (intOf i).toNat)
  case atStart => exact ⟨0, 0, by omega, rfl, by simp, rfl⟩
  case round =>
    obtain ⟨k, q, hk, rfl, heq, rfl⟩ := hrel
    have HE := Lib.hid heq
    clear heq
    by_cases hlt : k < n
    · obtain ⟨a1, b1, rfl, hg1, hc1⟩ := H1.out.at hlt
      obtain ⟨a2, b2, rfl, hg2, hc2⟩ := H2.out.at hlt
      have HG1 := Lib.hid hg1
      have HG2 := Lib.hid hg2
      clear hg1 hg2
      have ha1 : (0 : Int) ≤ k := by omega
      by_cases hbb : b1 = b2
      · have hne : ((b1.toNat : Int) != (b2.toNat : Int)) = false := by rw [hbb]; simp
        have HB := Lib.hid hbb
        clear hbb
        go_wp2
        go_quiet (fail)
        go_wp2
        go_roundw
        case rel => exact ⟨k + 1, q + nq, by omega, by go_num, take_eq_succ HE.out HG1.out HG2.out HB.out, rfl⟩
        case measure => simp [intOf]; omega
      · have hne : ((b1.toNat : Int) != (b2.toNat : Int)) = true := by
          simp only [bne_iff_ne, ne_eq]
          intro h
          exact hbb (UInt8.toNat_inj.1 (by omega))
        have hfin : decide (l1 = l2) = false := by
          simp only [decide_eq_false_iff_not]
          rintro rfl
          have e := HG1.out.symm.trans HG2.out
          exact hbb (by injection e)
        have HF := Lib.hid hfin
        clear hbb hfin
        go_wp2
        go_quiet (fail)
        go_wp2
        go_ret
        exact ⟨by rw [HF.out]; rfl, _, drew_add _ _ _⟩
    · have hfin : decide (l1 = l2) = true := by
        simp only [decide_eq_true_eq]
        have e := HE.out
        rw [List.take_of_length_le (by have := H1.out.1; omega), List.take_of_length_le (by have := H2.out.1; omega)] at e
        exact e
      have HF := Lib.hid hfin
      clear hfin
      go_wp2
      go_ret
      exact ⟨by rw [HF.out]; rfl, _, rfl⟩

theorem same_any (A B : Option Addr) (n m c d : Nat) (l1 l2 : List UInt8) (w : World) (h1 : By w A n l1) (h2 : By w B m l2) (hn : n ≤ 1073741824) :
    Calls Try.prog 15 #[.slice A n c, .slice B m d] w fun e w' => e = .returned (.bool (decide (l1 = l2))) ∧ ∃ k, w' = w.drewN k := by
  by_cases h : n = m
  · subst h
    exact same_eq A B n c d l1 l2 w h1 h2 hn
  · exact same_ne A B n m c d l1 l2 w h1 h2 h

theorem enc_300 : enc 300 = [172, 2] := by rw [enc_great (by decide), enc_small (by decide)]; rfl

theorem info_wr : ∃ j, Try.prog.info? 56 = some j := by
  have h : (Try.prog.info? 56).isSome = true := by kernel_rfl
  exact Option.isSome_iff_exists.1 h
theorem eql_wr (a : Addr) (w : World) : (binOp .eql 51 (.pointer (some a)) (.pointer (some a))).run Try.prog w = .ok (.bool true) w := by
  obtain ⟨j, hj⟩ := info_wr
  exact run_eql_ptr_same w a Try.underlying51 hj

set_option maxHeartbeats 400000 in
theorem wakes_any (w : World) : Calls Try.prog 22 #[] w fun e w' => e = .returned (.bool true) ∧ Fr [] w w' := by
  have heq := eql_wr
  go_enter Try.func22, Try.ntmps22
  go_wp2_with fail
  refine (newWriter_any _).mono ?_
  rintro e w1 ⟨rfl, hw1, hf1⟩
  have HF1 := Lib.hid hf1
  clear hf1
  go_wp2_with fail
  rw [show (300 : Int) = ((300 : Nat) : Int) from rfl]
  refine (num_any 300 (by omega) w1 _ _ _ hw1 (by simp)).mono ?_
  rintro e w2 ⟨rfl, S2, hw2, hf2, hs2⟩
  have HF2 := Lib.hid hf2
  have HS2 := Lib.hid hs2
  clear hf2 hs2
  go_wp2_with fail
  rw [List.nil_append, enc_300] at hw2
  refine (bytes_any w2 _ _ _ hw2 (by simp)).mono ?_
  rintro e w3 ⟨A3, c3, rfl, hN⟩
  have HN := Lib.hid hN
  clear hN
  go_wp2_with fail
  refine (same_any A3 (some ⟨w3.heap.size, 0, none⟩) _ 2 _ 2 [172, 2] [172, 2] _ (HN.out.by.keep ((Fr.refl [] w3).alloc _) (by simp)) (By.blk [172, 2] (Blk.new _ _ _) rfl) (by simp)).mono ?_
  rintro e w4 ⟨rfl, k, rfl⟩
  go_wp2
  go_ret
  refine ⟨rfl, Fr.drewN (Fr.alloc ?_ _) k⟩
  exact (HF1.out.trans (HF2.out.trans HN.out.2.1 (by simp)) (by intro x hx hl; simp at hx; omega))
end Go.Proofs.Ytefhphpnjgojaaa
