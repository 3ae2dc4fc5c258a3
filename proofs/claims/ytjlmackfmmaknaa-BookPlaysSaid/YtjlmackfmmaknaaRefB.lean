/- gavelref01's Book: the document's own signatures, as a list. -/
import Derived.Test.YtjlmackfmmaknaaBook3
import Derived.Test.YtjlmackfmmaknaaActs
import Derived.Deep.DeepCutAuto
namespace Go.Proofs.Ytjlmackfmmaknaa
set_option maxRecDepth 100000
open Go.RowKit

def ecells (e : Ent) : List Value := [.int .i64 e.1, .string ⟨e.2.toArray⟩]
/-- the document's book at block g -/
def RBk (w : World) (S : List Nat) (g : Nat) (l : List Ent) : Prop :=
  ∃ A c, S = g :: bk A ∧ Blk w g 28 #[.slice A l.length c] ∧ w.ownsRow 0 121 2 (.slice A l.length c) l.length (l.flatMap ecells)
theorem RBk.keep {w w' : World} {S T : List Nat} {g : Nat} {l : List Ent} (h : RBk w S g l) (hf : Fr T w w') (hn : ∀ x ∈ S, ¬ x ∈ T) : RBk w' S g l := by
  obtain ⟨A, c, rfl, h1, h2⟩ := h
  exact ⟨A, c, rfl, h1.keep hf (hn g (by simp)), own_keep h2 hf (fun x hx => hn x (by rw [bk_mem] at hx; simp [hx]))⟩
theorem RBk.lt {w : World} {S : List Nat} {g : Nat} {l : List Ent} (h : RBk w S g l) : ∀ x ∈ S, x < w.heap.size := by
  obtain ⟨A, c, rfl, h1, h2⟩ := h
  intro x hx
  simp at hx
  rcases hx with rfl | hx
  · exact h1.lt
  · exact own_lt h2 x (by rw [bk_mem]; exact hx)
theorem ecells_at {l : List Ent} {i : Nat} {e : Ent} (h : l[i]? = some e) : (l.flatMap ecells)[i * 2]? = some (.int .i64 e.1) ∧ (l.flatMap ecells)[i * 2 + 1]? = some (.string ⟨e.2.toArray⟩) := by
  induction l generalizing i with
  | nil => simp at h
  | cons a r ih =>
    rcases i with _ | i
    · simp at h
      subst h
      simp [ecells]
    · simp at h
      obtain ⟨h1, h2⟩ := ih h
      rw [show (i + 1) * 2 = i * 2 + 2 by omega]
      simp only [List.flatMap_cons, ecells, List.cons_append, List.nil_append, List.getElem?_cons_succ]
      exact ⟨h1, h2⟩
/-- where the entries lie -/
theorem RBk.cells {w : World} {S : List Nat} {g : Nat} {l : List Ent} (h : RBk w S g l) :
    ∃ A c, S = g :: bk A ∧ w.cell? ⟨g, 0, none⟩ = some (.slice A l.length c) ∧ ∀ i e, l[i]? = some e → ∃ gq, A = some ⟨gq, 0, none⟩ ∧ w.cell? ⟨gq, i * 2, none⟩ = some (.int .i64 e.1) ∧ w.cell? ⟨gq, i * 2 + 1, none⟩ = some (.string ⟨e.2.toArray⟩) := by
  obtain ⟨A, c, hS, h1, h2⟩ := h
  refine ⟨A, c, hS, by simpa using h1.cell 0, fun i e hi => ?_⟩
  have hl : i < l.length := (List.getElem?_eq_some_iff.1 hi).1
  obtain ⟨gq, cap, hv, _, _⟩ := h2.form (by omega)
  injection hv with hA
  subst hA
  have hc := h2.cells (g := gq) rfl
  have hadd : ∀ j, (⟨gq, 0, none⟩ : Addr).add j = ⟨gq, j, none⟩ := fun j => by unfold Addr.add; split <;> simp_all
  obtain ⟨e1, e2⟩ := ecells_at hi
  exact ⟨gq, rfl, by rw [← hadd]; exact hc _ _ e1, by rw [← hadd]; exact hc _ _ e2⟩

theorem rightB_at {l : List Ent} (hnd : l.Nodup) {x : Int} {t : List UInt8} {i : Nat} {e : Ent} (hi : l[i]? = some e) : rightB l x ((i : Int) + 1) t = decide (e = (x, t)) := by
  unfold rightB
  obtain ⟨hl, hg⟩ := List.getElem?_eq_some_iff.1 hi
  by_cases he : e = (x, t)
  · have hm : (x, t) ∈ l := by rw [← he, ← hg]; exact List.getElem_mem hl
    have hidx : l.idxOf (x, t) = i := by rw [← he, ← hg]; exact List.Nodup.idxOf_getElem hnd i hl
    rw [hidx]
    simp [hm, he]
  · rw [decide_eq_false he]
    simp only [Bool.and_eq_false_iff, decide_eq_false_iff_not]
    by_cases hm : (x, t) ∈ l
    · right
      have hlt : l.idxOf (x, t) < l.length := List.idxOf_lt_length_iff.2 hm
      have hge : l[l.idxOf (x, t)] = (x, t) := List.getElem_idxOf hlt
      have hne : l.idxOf (x, t) ≠ i := by
        intro h
        apply he
        rw [← hg, ← hge]
        simp only [h]
      simp
      omega
    · exact Or.inl hm
theorem rightB_out {l : List Ent} {x m : Int} {t : List UInt8} (h : m < 1 ∨ (l.length : Int) < m) : rightB l x m t = false := by
  unfold rightB
  by_cases hm : (x, t) ∈ l
  · have hlt : l.idxOf (x, t) < l.length := List.idxOf_lt_length_iff.2 hm
    simp only [Bool.and_eq_false_iff]
    right
    simp
    omega
  · simp [hm]

set_option maxRecDepth 100000 in
set_option maxHeartbeats 2000000 in
theorem refright_any (w : World) (S : List Nat) (g : Nat) (l : List Ent) (h : RBk w S g l) (hnd : l.Nodup) (x m : Int) (A : Option Addr) (n c : Nat) (t : List UInt8) (hy : By w A n t) (hm1 : -9223372036854775808 ≤ m) (hm2 : m < 9223372036854775808) :
    Calls Try.prog 37 #[.pointer (some ⟨g, 0, none⟩), .agg #[.int .i64 x, .int .i64 m], .slice A n c] w fun e w' => e = .returned (.bool (rightB l x m t)) ∧ Fr [] w w' := by
  have HB := Lib.hid h
  have HY := Lib.hid hy
  have HND := Lib.hid hnd
  clear h hy hnd
  go_enter Try.func37, Try.ntmps37
  go_wp2
  have hfa : Fr [] w (w.alloc (Obj.cells #[.int .i64 x, .int .i64 m] 39)) := (Fr.refl [] w).alloc _
  have hbx : Blk (w.alloc (Obj.cells #[.int .i64 x, .int .i64 m] 39)) w.heap.size 39 #[.int .i64 x, .int .i64 m] := Blk.new _ _ _
  have HB1 := Lib.hid (HB.out.keep hfa (by simp))
  have HY1 := Lib.hid (HY.out.keep hfa (by simp))
  have HFA := Lib.hid hfa
  clear hfa
  generalize w.alloc (Obj.cells #[.int .i64 x, .int .i64 m] 39) = wa at *
  generalize w.heap.size = gh at *
  have hc0 := hbx.cell 0
  have hc1 := hbx.cell 1
  simp at hc0 hc1
  clear hbx
  obtain ⟨A0, c0, hS, hcb, hcells⟩ := HB1.out.cells
  have HCS := Lib.hid hcells
  have HHS := Lib.hid hS
  have hconv := fun k : Nat => conv_text A n c t (wa.drewN k) (HY1.out.drewN k)
  clear hcells hS
  by_cases h1 : m < 1
  · have HR : Hid (rightB l x m t = false) := Lib.hid (rightB_out (Or.inl h1))
    have hd : decide (1 ≤ m) = false := by simp; omega
    clear h1
    go_quiet (fail)
    go_wp2
    go_ret
    exact ⟨by rw [HR.out]; rfl, HFA.out.drewN _⟩
  · by_cases h2 : (l.length : Int) < m
    · have HR : Hid (rightB l x m t = false) := Lib.hid (rightB_out (Or.inr h2))
      have hd1 : decide (1 ≤ m) = true := by simp; omega
      have hd2 : decide (m ≤ (l.length : Int)) = false := by simp; omega
      have hd3 : (1 : Int) ≤ m := by omega
      clear h1 h2
      go_quiet (fail)
      go_wp2
      go_ret
      exact ⟨by rw [HR.out]; rfl, HFA.out.drewN _⟩
    · obtain ⟨i, hi⟩ : ∃ i : Nat, m = (i : Int) + 1 := ⟨(m - 1).toNat, by omega⟩
      have hil : i < l.length := by omega
      have hge : l[i]? = some l[i] := List.getElem?_eq_getElem hil
      generalize l[i] = e at *
      have HR : Hid (rightB l x m t = decide (e = (x, t))) := Lib.hid (by rw [hi]; exact rightB_at HND.out hge)
      obtain ⟨gq, rfl, hca, hcs⟩ := HCS.out i e hge
      obtain ⟨x', t'⟩ := e
      simp only at hca hcs
      have hsub : IntKind.i64.wrap (m - 1) = (i : Int) := by rw [IntWalk.i64_in _ (by omega)]; omega
      have hsub2 : m - 1 = (i : Int) := by omega
      have hd1 : decide (1 ≤ m) = true := by simp; omega
      have hd2 : decide (m ≤ (l.length : Int)) = true := by simp; omega
      have hi0 : (0 : Int) ≤ i := by omega
      have hiL : (i : Int) < (l.length : Int) := by omega
      have hd3 : (1 : Int) ≤ m := by omega
      have hd4 : m ≤ (l.length : Int) := by omega
      clear h1 h2 hi hge HCS
      by_cases hx : x' = x
      · have hxe : (x' == x) = true := by simp [hx]
        have HD : Hid (rightB l x m t = (t' == t)) := Lib.hid (by rw [HR.out, hx]; by_cases ht : t' = t <;> simp [ht])
        clear hx
        go_quiet (fail)
        go_wp2
        go_ret
        exact ⟨by rw [HD.out]; rfl, HFA.out.drewN _⟩
      · have hxe : (x' == x) = false := by simp [hx]
        have HD : Hid (rightB l x m t = false) := Lib.hid (by rw [HR.out]; simp [hx])
        clear hx
        go_quiet (fail)
        go_wp2
        go_ret
        exact ⟨by rw [HD.out]; rfl, HFA.out.drewN _⟩
end Go.Proofs.Ytjlmackfmmaknaa
