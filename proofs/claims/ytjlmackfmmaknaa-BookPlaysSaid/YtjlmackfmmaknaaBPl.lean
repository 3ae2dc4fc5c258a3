/- The walk of BookPlays. -/
import Derived.Test.YtjlmackfmmaknaaPlay
import Derived.Test.YtjlmackfmmaknaaClone
import Derived.Test.YtjlmackfmmaknaaRefBc
namespace Go.Proofs.Ytjlmackfmmaknaa
open Go.RowKit
set_option maxRecDepth 100000

theorem new_ex (w : World) : Calls Try.prog 8 #[] w fun e w' => ∃ S g, e = .returned (.pointer (some ⟨g, 0, none⟩)) ∧ Bok w' S g [] ∧ Fr [] w w' ∧ ∀ x ∈ S, w.heap.size ≤ x :=
  (new_any w).mono fun e w' ⟨he, hb, hf⟩ => ⟨_, _, he, hb, hf, by simp⟩
theorem clone_ex (w : World) (S : List Nat) (g : Nat) (l : List Ent) (h : Bok w S g l) : Calls Try.prog 10 #[.pointer (some ⟨g, 0, none⟩)] w fun e w' => ∃ S' g', e = .returned (.pointer (some ⟨g', 0, none⟩)) ∧ Bok w' S' g' l ∧ Fr [] w w' ∧ ∀ x ∈ S', w.heap.size ≤ x :=
  (clone_book w S g l h).mono fun e w' ⟨he, hb, hf⟩ => ⟨_, _, he, hb, hf, by simp⟩
set_option maxHeartbeats 4000000 in
theorem bookPlays_walk (w : World) (A : Option Addr) (n c : Nat) (l : List Act3V) (hl : Acts3 w A n l) (hn : n ≤ c) (hc : c ≤ maxLen) (A' : Option Addr) (n' c' : Nat) (m : List Act3V) (hm : Acts3 w A' n' m) (hn' : n' ≤ c') (hc' : c' ≤ maxLen) :
    Calls Try.prog 3 #[.slice A n c, .slice A' n' c'] w fun e w' => e = .returned (.bool true) ∧ Fr [] w w' := by
  have HL := Lib.hid hl
  have HM := Lib.hid hm
  have HN := Lib.hid (And.intro hn hc)
  have HN' := Lib.hid (And.intro hn' hc')
  clear hl hm hn hc hn' hc'
  go_enter Try.func3, Try.ntmps3
  go_wp2_with fail
  refine (new_ex w).mono ?_
  rintro e w1 ⟨S, g, rfl, hb1, hf1, hn1⟩
  have HB1 := Lib.hid hb1
  have HF1 := Lib.hid hf1
  have HS1 := Lib.hid hn1
  clear hb1 hf1 hn1
  go_wp2_with fail
  have HF2 : Hid (Fr [] w (w1.alloc (Obj.cells #[.slice none 0 0] 28))) := Lib.hid (HF1.out.alloc _)
  have HB2 := Lib.hid (HB1.out.keep ((Fr.refl [] w1).alloc (Obj.cells #[.slice none 0 0] 28)) (by simp))
  have HR2 : Hid (RBk (w1.alloc (Obj.cells #[.slice none 0 0] 28)) [w1.heap.size] w1.heap.size []) := Lib.hid ⟨none, 0, rfl, Blk.new _ _ _, ⟨rfl, .inl ⟨rfl, rfl⟩⟩⟩
  have HD2 : Hid (∀ x ∈ S, ¬ x ∈ [w1.heap.size]) := Lib.hid (fun x hx hm => by have := HB1.out.lt x hx; simp at hm; omega)
  have HT2 : Hid (∀ x ∈ [w1.heap.size], w.heap.size ≤ x) := Lib.hid (by have := HF1.out.size; simpa using this)
  generalize w1.alloc (Obj.cells #[.slice none 0 0] 28) = w2 at *
  generalize w1.heap.size = r at *
  generalize [r] = T at *
  refine (play_any w w2 S T g r [] HB2.out HR2.out (by simp) HD2.out A n c l HL.out HF2.out.below_all (fun x hx => hx.elim (HS1.out x) (HT2.out x)) (by simp) HN.out.1 HN.out.2).mono ?_
  rintro e w3 ⟨rfl, l1, T1, hb3, hr3, hnd, hst, hll, hf3, ht3⟩
  have HB3 := Lib.hid hb3
  have HR3 := Lib.hid hr3
  have HND := Lib.hid hnd
  have HST := Lib.hid hst
  have HLL : Hid (l1.length ≤ 30) := Lib.hid (by simpa using hll)
  have HF3 : Hid (Fr [] w w3) := Lib.hid (HF2.out.go hf3 (fun x hx => by rcases List.mem_append.1 hx with h | h; exact HS1.out x h; exact HT2.out x h))
  have HT3 : Hid (∀ x ∈ T1, w.heap.size ≤ x) := Lib.hid (fun x hx => by
    by_cases hlt : x < w2.heap.size
    · exact HT2.out x (ht3 x hx hlt)
    · have := HF2.out.size; omega)
  clear hb3 hr3 hnd hst hll hf3 ht3
  go_wp2_with fail
  refine (clone_ex w3 S g l1 HB3.out).mono ?_
  rintro e w4 ⟨Sc, gc, rfl, hb4, hf4, hn4⟩
  have HB4 := Lib.hid hb4
  have HF4 := Lib.hid hf4
  have HN4 := Lib.hid hn4
  clear hb4 hf4 hn4
  go_wp2_with fail
  refine (refcopy_any w4 T1 r l1 (HR3.out.keep HF4.out (by simp)) (by have := HLL.out; omega)).mono ?_
  rintro e w5 ⟨gs, Ss, rfl, hr5, hf5, hn5⟩
  have HR5 := Lib.hid hr5
  have HB5 := Lib.hid (HB4.out.keep hf5 (by simp))
  have HF35 := Lib.hid (HF4.out.and hf5 (by simp))
  have HF5 := Lib.hid (HF3.out.and HF35.out (by simp))
  have HDS : Hid (∀ x ∈ Sc, ¬ x ∈ Ss) := Lib.hid (fun x hx hm => by have := HB4.out.lt x hx; have := hn5 x hm; omega)
  have HN5 : Hid (∀ x ∈ Ss, w3.heap.size ≤ x) := Lib.hid (fun x hx => Nat.le_trans HF4.out.size (hn5 x hx))
  clear hr5 hf5 hn5
  go_wp2_with fail
  refine (play_any w w5 Sc Ss gc gs l1 HB5.out HR5.out HND.out HDS.out A' n' c' m HM.out HF5.out.below_all (fun x hx => by have := HF3.out.size; rcases hx with h | h; exact Nat.le_trans this (HN4.out x h); exact Nat.le_trans this (HN5.out x h)) (by have := HLL.out; omega) HN'.out.1 HN'.out.2).mono ?_
  rintro e w6 ⟨rfl, l2, T2, hb6, hr6, hnd6, hst6, hll6, hf6, ht6⟩
  have hge : ∀ x ∈ Sc ++ Ss, w3.heap.size ≤ x := fun x hx => by rcases List.mem_append.1 hx with h | h; exact HN4.out x h; exact HN5.out x h
  have HF36 := Lib.hid (HF35.out.go hf6 hge)
  have HB6 := Lib.hid (HB3.out.keep HF36.out (by simp))
  have HR6 := Lib.hid (HR3.out.keep HF36.out (by simp))
  have HF6 := Lib.hid (HF3.out.and HF36.out (by simp))
  clear hb6 hr6 hnd6 hst6 hll6 hf6 ht6 hge
  go_wp2_with fail
  refine (play_any w w6 S T1 g r l1 HB6.out HR6.out HND.out HST.out A n c l HL.out HF6.out.below_all (fun x hx => hx.elim (HS1.out x) (HT3.out x)) (by have := HLL.out; omega) HN.out.1 HN.out.2).mono ?_
  rintro e w7 ⟨rfl, l3, T3, hb7, hr7, hnd7, hst7, hll7, hf7, ht7⟩
  have HF7 := Lib.hid (HF6.out.go hf7 (fun x hx => by rcases List.mem_append.1 hx with h | h; exact HS1.out x h; exact HT3.out x h))
  clear hb7 hr7 hnd7 hst7 hll7 hf7 ht7
  go_wp2_with fail
  refine (bwakes_any _).mono ?_
  rintro e w8 ⟨rfl, hf8⟩
  have HF8 := Lib.hid (HF7.out.and hf8 (by simp))
  clear hf8
  go_wp2
  go_ret
  exact ⟨rfl, HF8.out⟩
end Go.Proofs.Ytjlmackfmmaknaa
