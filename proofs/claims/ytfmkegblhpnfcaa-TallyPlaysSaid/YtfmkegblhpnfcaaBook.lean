/- Package book: what a book in memory is; the contracts of its calls. -/
import Derived.Test.YtfmkegblhpnfcaaHelp
import Derived.Maps.OwnSet
import Derived.DeepKeys4
import Derived.Deep.QuietTactic
import Derived.BigQuiet
import Derived.BigRegion
import Derived.Laws.IdiomStrings
import Derived.Shelf.Bytes.SlSmallAll
set_option linter.unusedSimpArgs false
set_option linter.unusedVariables false
namespace Go.Proofs.Ytfmkegblhpnfcaa
set_option maxRecDepth 100000
open Go.RowKit

set_option maxRecDepth 100000 in
theorem laidOutP : laidOutB Try.prog = true := by kernel_rfl
theorem zeroK (w : World) : (zeroValue 3).run Try.prog w = .ok (.int .i64 0) w := by kernel_rfl

/-- a signature's signer and text -/
abbrev Ent := Int × List UInt8
def sval (l : List UInt8) : Value := .string ⟨l.toArray⟩
def kval (e : Ent) : Value := .agg #[.int .i64 e.1, .string ⟨e.2.toArray⟩]
def klit (e : Ent) : Lit := .string (keyBytes [.int .i64 e.1, .string e.2])
def eok (e : Ent) : Prop := (Lit.int .i64 e.1).wf = true ∧ e.2.length ≤ maxLen

theorem cellsI : Try.prog.cellsOf 3 = 1 := by kernel_rfl
theorem cellsS : Try.prog.cellsOf 9 = 1 := by kernel_rfl
/-- the map's datum bears the marks of the entries, one behind the other -/
structure Marks (D : DataW Unit) (l : List Ent) : Prop where
  tidy : Maps.Tidy D
  ok : ∀ e ∈ l, eok e
  size : Maps.size D = l.length
  has : ∀ e, eok e → Maps.has D (klit e) = decide (e ∈ l)
  mark : ∀ e ∈ l, D.atKey (klit e) (.lit (.int .i64 0)) = .lit (.int .i64 (l.idxOf e + 1 : Nat))
theorem Marks.nil : Marks (.map [] : DataW Unit) [] :=
  ⟨Maps.tidy_empty, by simp, rfl, fun e _ => by simp [Maps.has_eq], by simp⟩
theorem own_fr {w w' : World} {S : List Nat} {b n : Nat} {D : DataW Unit} {R : Value → Option (DataW Unit × List MemPlace)} {k : TypeId} (h : w.ownsMap Try.prog k R b n D) (hf : Fr S w w') (hn : ¬ b ∈ S) : w'.ownsMap Try.prog k R b n D := by
  obtain ⟨es, clock, hb, r⟩ := h
  exact ⟨es, clock, hf.heap hb hn, r⟩
theorem Fr.turned {S : List Nat} {a w w' : World} {b : Nat} (h : Fr S a w) (hm : w.mapTurned w' b) (hb : b < a.heap.size → b ∈ S) : Fr S a w' :=
  h.grown hm.grown (fun k hk => by cases hk; exact hb)

theorem conv_text (A : Option Addr) (n c : Nat) (t : List UInt8) (w : World) (h : By w A n t) : (convert 77 9 (.slice A n c)).run Try.prog w = .ok (.string ⟨t.toArray⟩) w := by
  rcases Nat.eq_zero_or_pos n with h0 | h0
  · subst h0
    have : t = [] := List.eq_nil_of_length_eq_zero h.1
    subst this
    exact run_convert_bytes_zero w _ _ Try.underlying77 Try.underlying5 A c 9 Try.underlying9
  · obtain ⟨ad, rfl, hc⟩ := h.2 h0
    have hl := h.1
    subst hl
    refine run_convert_bytes_back w _ _ _ ad c t Try.underlying77 Try.underlying5 Try.underlying9 (fun j hj => ?_)
    exact hc j _ (by simp [List.getElem?_eq_getElem hj, by8])
end Go.Proofs.Ytfmkegblhpnfcaa
