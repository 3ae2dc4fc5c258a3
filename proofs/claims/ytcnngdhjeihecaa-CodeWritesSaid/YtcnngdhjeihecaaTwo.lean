/- A writer, and beside it a slice that grows: for CodeWrites. -/
import Derived.Test.YtcnngdhjeihecaaRead
import Derived.Test.YtcnngdhjeihecaaIntact
import Derived.Test.YtcnngdhjeihecaaRefW
import Derived.Lib.Builder
namespace Go.Proofs.Ytcnngdhjeihecaa
open Go.RowKit

/-- a writer at g that has written L1, and apart from it a slice that holds L2; all since w0 -/
def Two (w0 w : World) (g : Nat) (S : List Nat) (L1 : List UInt8) (A : Option Addr) (c : Nat) (L2 : List UInt8) : Prop :=
  Wr w S g L1 ∧ NewB w0 w A L2.length c L2 ∧ ∀ x ∈ S, w0.heap.size ≤ x ∧ ¬ x ∈ bk A
section
variable {w0 w w' : World} {g : Nat} {S : List Nat} {L1 L2 : List UInt8} {A : Option Addr} {c : Nat}
theorem NewB.fr {n : Nat} {T : List Nat} (h : NewB w0 w A n c L2) (hf : Fr T w w') (hT : ∀ x ∈ T, w0.heap.size ≤ x ∧ ¬ x ∈ bk A) : NewB w0 w' A n c L2 :=
  ⟨own_keep h.1 hf (fun k hk => by rw [bk_mem] at hk; exact fun hk2 => (hT k hk2).2 hk), h.2.1.trans hf (fun x hx hl => by have := (hT x hx).1; omega), h.2.2⟩
theorem Two.fr {T : List Nat} (h : Two w0 w g S L1 A c L2) (hf : Fr T w w') (h1 : ∀ x ∈ T, w0.heap.size ≤ x ∧ ¬ x ∈ S ∧ ¬ x ∈ bk A) : Two w0 w' g S L1 A c L2 :=
  ⟨h.1.keep hf (fun k hk hk2 => (h1 k hk2).2.1 hk), h.2.1.fr hf (fun x hx => ⟨(h1 x hx).1, (h1 x hx).2.2⟩), h.2.2⟩
theorem Two.same (h : Two w0 w g S L1 A c L2) (hf : Fr [] w w') : Two w0 w' g S L1 A c L2 := h.fr hf (by simp)
theorem Two.wr {S' : List Nat} {L1' : List UInt8} (h : Two w0 w g S L1 A c L2) (hw : Wr w' S' g L1') (hf : Fr S w w') (hS : ∀ x ∈ S', x < w.heap.size → x ∈ S) : Two w0 w' g S' L1' A c L2 := by
  refine ⟨hw, h.2.1.fr hf h.2.2, fun x hx => ?_⟩
  have hs := h.2.1.2.1.size
  rcases Nat.lt_or_ge x w.heap.size with hl | hl
  · exact h.2.2 x (hS x hx hl)
  · exact ⟨by omega, fun hx2 => by have := h.2.1.lt x hx2; omega⟩
theorem Two.grow {A1 : Option Addr} {m c1 : Nat} {news : List UInt8} (h : Two w0 w g S L1 A c L2) (ho1 : w'.ownsRow 0 5 1 (.slice A1 (L2.length + m) c1) (L2.length + m) ((L2 ++ news).map by8))
    (hg : w.grownBy w' (Value.slice A L2.length c).ownBlock) (hat : bk A1 = (Value.slice A L2.length c).ownBlock.toList ∨ bk A1 = [w.heap.size]) (hm : news.length = m) : Two w0 w' g S L1 A1 c1 (L2 ++ news) := by
  subst hm
  have hfr : Fr (bk A) w w' := (Fr.refl _ w).grown hg (fun k hk _ => by rw [bk_mem] at hk; exact hk)
  have hN := NewB.grow h.2.1.2.1 h.2.1.2.2 ho1 hg hat
  refine ⟨h.1.keep hfr (fun k hk => (h.2.2 k hk).2), by rw [List.length_append]; exact hN, fun x hx => ⟨(h.2.2 x hx).1, fun hx2 => ?_⟩⟩
  rw [bk_own] at hat
  rcases hat with e | e <;> rw [e] at hx2
  · exact (h.2.2 x hx).2 hx2
  · simp at hx2
    have := h.1.lt x hx
    omega
end

theorem neq_wr (a : Addr) (w : World) : (binOp .neq 25 (.pointer (some a)) (.pointer (some a))).run Try.prog w = .ok (.bool false) w := by
  obtain ⟨j, hj⟩ := info_wr
  exact Lib.run_neq_ptr_same w a Try.underlying25 hj

/-- what a call puts -/
def putOf (v : ActV) : List UInt8 := if v.d % 4 = 0 then enc v.u else if v.d % 4 = 1 then enc v.n.toNat else if v.d % 4 = 2 then enc (v.b.take 100).length ++ v.b.take 100 else v.h
def puts (l : List ActV) : List UInt8 := (l.map putOf).flatten
theorem puts_snoc {l : List ActV} {k : Nat} {v : ActV} (h : l[k]? = some v) : puts (l.take (k + 1)) = puts (l.take k) ++ putOf v := by
  unfold puts
  rw [List.take_add_one, h]
  simp
theorem putOf_len {w : World} {v : ActV} (h : ActOk w v) : (putOf v).length ≤ 120 := by
  unfold putOf
  split
  · have := enc_ten h.u; omega
  · split
    · have := h.n2
      have := enc_ten (m := v.n.toNat) (by omega); omega
    · split
      · have h1 : (v.b.take 100).length ≤ 100 := List.length_take_le _ _
        have := enc_ten (m := (v.b.take 100).length) (by omega)
        rw [List.length_append]; omega
      · rw [h.h]; omega

/-- a call in a box, its bytes put anew -/
theorem ActV.reb {w : World} {g : Nat} {t : TypeId} {v : ActV} (hb : Blk w g t v.cells.toArray) (A : Option Addr) (m c : Nat) (b : List UInt8) :
    Blk (w.setCell ⟨g, 3, none⟩ (.slice A m c)) g t (ActV.cells { v with A := A, m := m, c := c, b := b }).toArray := by
  have := hb.set 3 (.slice A m c)
  simpa [ActV.cells] using this

theorem wint_any (n : Int) (h1 : -9223372036854775808 ≤ n) (h2 : n < 9223372036854775808) (w : World) (S : List Nat) (g : Nat) (l : List UInt8) (hw : Wr w S g l) (hl : l.length < 1073741824) :
    Calls Try.prog 15 #[.pointer (some ⟨g, 0, none⟩), .int .i64 n] w fun e w' => e = .returned (.pointer (some ⟨g, 0, none⟩)) ∧
      ∃ S', Wr w' S' g (l ++ enc n.toNat) ∧ Fr S w w' ∧ ∀ x ∈ S', x < w.heap.size → x ∈ S := by
  by_cases h : n < 0
  · rw [show n.toNat = 0 by omega]
    exact int_neg n h w S g l hw hl
  · obtain ⟨t, rfl⟩ : ∃ t : Nat, n = (t : Int) := ⟨n.toNat, by omega⟩
    rw [Int.toNat_natCast]
    exact int_nat t (by omega) w S g l hw hl
theorem refint_any (n : Int) (h1 : -9223372036854775808 ≤ n) (h2 : n < 9223372036854775808) (w : World) :
    Calls Try.prog 28 #[.int .i64 n] w fun e w' => ∃ A c, e = .returned (.slice A (enc n.toNat).length c) ∧ NewB w w' A (enc n.toNat).length c (enc n.toNat) := by
  by_cases h : n < 0
  · rw [show n.toNat = 0 by omega]
    exact refint_neg n h w
  · obtain ⟨t, rfl⟩ : ∃ t : Nat, n = (t : Int) := ⟨n.toNat, by omega⟩
    rw [Int.toNat_natCast]
    exact refint_nat t (by omega) w

theorem bytes_full (w : World) (S : List Nat) (g : Nat) (l : List UInt8) (hw : Wr w S g l) (hl : l.length ≤ 1073741824) :
    Calls Try.prog 17 #[.pointer (some ⟨g, 0, none⟩)] w fun e w' => ∃ A' c' s, e = .returned (.slice A' l.length c') ∧ FullB w' A' l.length c' l s ∧ Fr [] w w' ∧ (∀ x ∈ bk A', w.heap.size ≤ x) ∧ c' ≤ maxLen := by
  obtain ⟨A, c, _, hb, ho⟩ := hw
  have hc := hb.cell 0
  simp at hc
  have HL := Lib.hid hl
  clear hl
  go_enter Try.func17, Try.ntmps17
  go_wp2_with fail
  refine (clone_full A l.length c l w (By.of_own ho) HL.out).mono ?_
  rintro e w' ⟨A', c', s, rfl, hN⟩
  go_wp2
  go_ret
  exact ⟨A', c', s, rfl, hN⟩
end Go.Proofs.Ytcnngdhjeihecaa
