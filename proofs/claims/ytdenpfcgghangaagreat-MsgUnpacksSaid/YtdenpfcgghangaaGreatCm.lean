/- Package commit: begin. -/
import Derived.Test.YtdenpfcgghangaaGreatReg
import Derived.Test.YtdenpfcgghangaaGreatHelp
import Derived.Laws.IdiomStrings
import Derived.Test.YtdenpfcgghangaaGreatBook2
set_option linter.unusedSimpArgs false
set_option linter.unusedVariables false
namespace Go.Proofs.YtdenpfcgghangaaGreat
open Go.RowKit
set_option maxRecDepth 100000
def encI (z : Int) : List UInt8 := enc z.toNat
theorem int_any (z : Int) (h1 : -9223372036854775808 ≤ z) (h2 : z < 9223372036854775808) (w : World) (S : List Nat) (g : Nat) (l : List UInt8) (hw : Wr w S g l) (hl : l.length < 1073741824) :
  Calls Tryz.prog 64 #[.pointer (some ⟨g, 0, none⟩), .int .i64 z] w fun e w' => e = .returned (.pointer (some ⟨g, 0, none⟩)) ∧
   ∃ S', Wr w' S' g (l ++ encI z) ∧ Fr S w w' ∧ ∀ x ∈ S', x < w.heap.size → x ∈ S := by
 unfold encI
 by_cases hz : z < 0
 · rw [show z.toNat = 0 by omega]
   exact int_neg z hz w S g l hw hl
 · obtain ⟨n, rfl⟩ : ∃ n : Nat, z = n := ⟨z.toNat, by omega⟩
   rw [Int.toNat_natCast]
   exact int_nat n (by omega) w S g l hw hl
theorem encI_len (z : Int) (h2 : z < 9223372036854775808) : (encI z).length ≤ 10 := enc_ten (by omega)
def headL (t : List UInt8) (c s : Int) : List UInt8 := enc t.length ++ t ++ encI c ++ encI s
def NewWr (w w' : World) (g : Nat) (l : List UInt8) : Prop := ∃ S', Wr w' S' g l ∧ Fr [] w w' ∧ ∀ x ∈ S', w.heap.size ≤ x
theorem NewWr.fr {w w' : World} {g : Nat} {l : List UInt8} (h : NewWr w w' g l) : Fr [] w w' := by obtain ⟨_, _, h, _⟩ := h; exact h
theorem NewWr.add {w w1 w2 : World} {g : Nat} {l2 : List UInt8} {S : List Nat} (h2 : Fr [] w w1) (h3 : ∀ x ∈ S, w.heap.size ≤ x) (hc : ∃ S', Wr w2 S' g l2 ∧ Fr S w1 w2 ∧ ∀ x ∈ S', x < w1.heap.size → x ∈ S) : NewWr w w2 g l2 := by
 obtain ⟨S', k1, k2, k3⟩ := hc
 refine ⟨S', k1, h2.and k2 h3, fun x hx => ?_⟩
 by_cases hl : x < w1.heap.size
 · exact h3 x (k3 x hx hl)
 · have := h2.size; omega
theorem NewWr.keep {w0 w w' : World} {g : Nat} {l : List UInt8} (h : NewWr w0 w g l) (hf : Fr [] w w') : NewWr w0 w' g l := by
 obtain ⟨S, k1, k2, k3⟩ := h
 exact ⟨S, k1.keep hf (by simp), k2.and hf (by simp), k3⟩
theorem NewWr.from_ {w0 w w' : World} {g : Nat} {l : List UInt8} (h : NewWr w w' g l) (hf : Fr [] w0 w) : NewWr w0 w' g l := by
 obtain ⟨S, k1, k2, k3⟩ := h
 exact ⟨S, k1, hf.and k2 (by simp), fun x hx => by have := k3 x hx; have := hf.size; omega⟩
theorem int_head (w0 w : World) (g : Nat) (l : List UInt8) (h : NewWr w0 w g l) (z : Int) (h1 : -9223372036854775808 ≤ z) (h2 : z < 9223372036854775808) (hl : l.length < 1073741824) :
  Calls Tryz.prog 64 #[.pointer (some ⟨g, 0, none⟩), .int .i64 z] w fun e w' => e = .returned (.pointer (some ⟨g, 0, none⟩)) ∧ NewWr w0 w' g (l ++ encI z) := by
 obtain ⟨S, k1, k2, k3⟩ := h
 refine (int_any z h1 h2 w S g l k1 hl).mono ?_
 rintro e w' ⟨rfl, hs⟩
 exact ⟨rfl, NewWr.add k2 k3 hs⟩
theorem bytes_head (w0 w : World) (g : Nat) (l : List UInt8) (h : NewWr w0 w g l) (hl : l.length ≤ 1073741824) :
  Calls Tryz.prog 66 #[.pointer (some ⟨g, 0, none⟩)] w fun e w' => ∃ A' c', e = .returned (.slice A' l.length c') ∧ NewB w0 w' A' l.length c' l := by
 obtain ⟨S, k1, k2, k3⟩ := h
 refine (bytes_any w S g l k1 hl).mono ?_
 rintro e w' ⟨A', c', rfl, h1, h2, h3⟩
 exact ⟨A', c', rfl, h1, k2.and h2 (by simp), fun k hk => by have := h3 k hk; have := k2.size; omega⟩
theorem conv_str (w : World) (t : List UInt8) : ∃ w' A c, (convert 9 52 (.string ⟨t.toArray⟩)).run Tryz.prog w = .ok (.slice A t.length c) w' ∧ Fr [] w w' ∧ By w' A t.length t ∧ (∀ k ∈ bk A, w.heap.size ≤ k ∧ k < w'.heap.size) := by
 have h := run_bytes_of_string (P := Tryz.prog) w 9 52 5 ⟨t.toArray⟩ Tryz.underlying9 Tryz.underlying52 Tryz.underlying5
 have hsz : (⟨t.toArray⟩ : ByteArray).size = t.length := by simp [ByteArray.size]
 rw [hsz] at h
 refine ⟨_, _, _, h, ((Fr.refl [] w).drew).alloc _, ⟨rfl, fun _ => ⟨_, rfl, fun j u hu => ?_⟩⟩, fun k hk => by
  have e : k = w.heap.size := by simpa [bk] using hk
  subst e
  exact ⟨Nat.le_refl _, by show w.heap.size < (w.heap.push _).size; rw [Array.size_push]; omega⟩⟩
 have hj : j < t.length := by simpa using (List.getElem?_eq_some_iff.1 hu).1
 have hadd : (⟨w.heap.size, 0, none⟩ : Addr).add j = ⟨w.heap.size, j, none⟩ := by unfold Addr.add; split <;> simp_all
 rw [hadd]
 have hm := World.cell?_alloc_mark w.drew
 have hd : w.drew.heap.size = w.heap.size := rfl
 rw [← hd, World.cell?_alloc_mark, bytesRow_at _ _ j (by simpa using hj)]
 simp [List.getElem?_eq_getElem hj, by8] at hu
 simp [hu]
end Go.Proofs.YtdenpfcgghangaaGreat
