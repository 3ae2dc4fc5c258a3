/- Helps over slices of bytes: bytes.Clone, Copy, Same, Within, Cut: what each call does to the world. -/
import Derived.Test.YtdenpfcgghangaaGreatWr
import Derived.Deep.QuietTactic
import Derived.BigQuiet
set_option linter.unusedSimpArgs false
set_option linter.unusedVariables false
namespace Go.Proofs.YtdenpfcgghangaaGreat
open Go.RowKit
def NewB (w w' : World) (A : Option Addr) (n c : Nat) (l : List UInt8) : Prop :=
 w'.ownsRow 0 5 1 (.slice A n c) n (l.map by8) ∧ Fr [] w w' ∧ (∀ k ∈ bk A, w.heap.size ≤ k)
theorem NewB.by {w w' : World} {A : Option Addr} {n c : Nat} {l : List UInt8} (h : NewB w w' A n c l) : By w' A n l := By.of_own h.1
theorem NewB.cap {w w' : World} {A : Option Addr} {n c : Nat} {l : List UInt8} (h : NewB w w' A n c l) : n ≤ c := by
 rcases h.1.2 with ⟨h1, h2⟩ | ⟨g, cap, cur, hv, _, _, hc, _⟩
 · injection h1; omega
 · injection hv; omega
theorem NewB.lt {w w' : World} {A : Option Addr} {n c : Nat} {l : List UInt8} (h : NewB w w' A n c l) : ∀ k ∈ bk A, k < w'.heap.size := fun k hk => own_lt h.1 k (by rw [bk_mem]; exact hk)
theorem clone_any (A : Option Addr) (n c : Nat) (l : List UInt8) (w : World) (hr : By w A n l) (hn : n ≤ 1073741824) :
  Calls Tryz.prog 77 #[.slice A n c] w fun e w' => ∃ A' c', e = .returned (.slice A' n c') ∧ NewB w w' A' n c' l := by
 have hq := @Lib.run_eql_slice_nil Tryz.prog
 rcases A with _ | ad
 · obtain ⟨rfl, rfl⟩ := hr.none_
   clear hr hn
   go_enter Tryz.func77, Tryz.ntmps77
   go_wp2
   go_ret
   exact ⟨none, 0, rfl, ⟨rfl, .inl ⟨rfl, rfl⟩⟩, Fr.refl _ _, by simp [bk]⟩
 · have HR := Lib.hid hr
   have HN := Lib.hid hn
   clear hr hn
   go_enter Tryz.func77, Tryz.ntmps77
   go_wp2_with (at_builtin; refine Stop.mk ?_)
   refine Stop.go ?_
   refine wpList_append_bytes _ rfl (.tmp 5) (.tmp 6) _ rfl 5 Tryz.underlying52 info_u8 (.slice (some ⟨w.heap.size, 0, none⟩) 0 0) 0 [] rfl
    (World.ownsRow_made w #[] 0 (Nat.zero_le _) (by decide) rfl) (some ad) n c l rfl (HR.out.keep ((Fr.refl [] w).alloc _) (by simp)) ?_ ?_
   · have := HN.out; omega
   intro A1 c1 w1 ho1 hg1 hat1
   have HO := Lib.hid ho1
   have HG := Lib.hid hg1
   have HT := Lib.hid hat1
   clear ho1 hg1 hat1
   go_wp2
   go_ret
   refine ⟨A1, c1, ?_, ?_, ?_, ?_⟩
   · simp
   · simpa using HO.out
   · exact ((Fr.refl [] w).alloc _).grown HG.out (by intro k hk hl; simp [Value.ownBlock] at hk; omega)
   · intro k hk
     rcases HT.out with h | h <;> rw [h] at hk <;> simp [Value.ownBlock] at hk <;> omega
theorem copy_any (A : Option Addr) (n c : Nat) (l : List UInt8) (w : World) (hr : By w A n l) (hn : n ≤ 1073741824) :
  Calls Tryz.prog 18 #[.slice A n c] w fun e w' => ∃ A' c', e = .returned (.slice A' n c') ∧ NewB w w' A' n c' l := by
 have HR := Lib.hid hr
 have HN := Lib.hid hn
 clear hr hn
 go_enter Tryz.func18, Tryz.ntmps18
 go_wp2_with (at_builtin; refine Stop.mk ?_)
 refine Stop.go ?_
 refine wpList_append_bytes _ rfl (.const (.slice none 0 0)) (.tmp 3) _ rfl 5 Tryz.underlying52 info_u8 (.slice none 0 0) 0 [] rfl
   ⟨rfl, .inl ⟨rfl, rfl⟩⟩ A n c l rfl HR.out ?_ ?_
 · have := HN.out; omega
 intro A1 c1 w1 ho1 hg1 hat1
 have HO := Lib.hid ho1
 have HG := Lib.hid hg1
 have HT := Lib.hid hat1
 clear ho1 hg1 hat1
 go_wp2
 go_ret
 refine ⟨A1, c1, ?_, ?_, ?_, ?_⟩
 · simp
 · simpa using HO.out
 · exact (Fr.refl [] w).grown HG.out (by intro k hk hl; simp [Value.ownBlock] at hk)
 · intro k hk
   rcases HT.out with h | h <;> rw [h] at hk <;> simp [Value.ownBlock] at hk <;> omega
theorem bytes_any (w : World) (S : List Nat) (g : Nat) (l : List UInt8) (hw : Wr w S g l) (hl : l.length ≤ 1073741824) :
  Calls Tryz.prog 66 #[.pointer (some ⟨g, 0, none⟩)] w fun e w' => ∃ A' c', e = .returned (.slice A' l.length c') ∧ NewB w w' A' l.length c' l := by
 obtain ⟨A, c, _, hb, ho⟩ := hw
 have hc := hb.cell 0
 simp at hc
 have HL := Lib.hid hl
 clear hl
 go_enter Tryz.func66, Tryz.ntmps66
 go_wp2_with fail
 refine (clone_any A l.length c l w (By.of_own ho) HL.out).mono ?_
 rintro e w' ⟨A', c', rfl, hN⟩
 go_wp2
 go_ret
 exact ⟨A', c', rfl, hN⟩
theorem newWriter_any (w : World) :
  Calls Tryz.prog 63 #[] w fun e w' => e = .returned (.pointer (some ⟨w.heap.size, 0, none⟩)) ∧ Wr w' [w.heap.size] w.heap.size [] ∧ Fr [] w w' := by
 go_enter Tryz.func63, Tryz.ntmps63
 go_wp2
 go_ret
 exact ⟨rfl, ⟨none, 0, rfl, Blk.new _ _ _, ⟨rfl, .inl ⟨rfl, rfl⟩⟩⟩, (Fr.refl [] w).alloc _⟩
theorem same_ne (A B : Option Addr) (n m c d : Nat) (l1 l2 : List UInt8) (w : World) (h1 : By w A n l1) (h2 : By w B m l2) (hne : n ≠ m) :
  Calls Tryz.prog 16 #[.slice A n c, .slice B m d] w fun e w' => e = .returned (.bool (decide (l1 = l2))) ∧ ∃ k, w' = w.drewN k := by
 have H : decide (l1 = l2) = false := by
  simp only [decide_eq_false_iff_not]
  rintro rfl
  exact hne (h1.1.symm.trans h2.1)
 have hb : ((n : Int) != (m : Int)) = true := by simp; omega
 rw [H]
 clear H h1 h2
 go_enter Tryz.func16, Tryz.ntmps16
 go_wp2
 go_ret
 exact ⟨rfl, 0, rfl⟩
end Go.Proofs.YtdenpfcgghangaaGreat
