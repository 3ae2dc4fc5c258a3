/- Package book: what a book in memory is; the contracts of its calls. -/
import Derived.Test.YtdenpfcgghangaaGreatHelp
import Derived.Maps.OwnSet
import Derived.DeepKeys4
import Derived.Deep.QuietTactic
import Derived.BigQuiet
import Derived.BigRegion
import Derived.Laws.IdiomStrings
import Derived.Shelf.Bytes.SlSmallAll
set_option linter.unusedSimpArgs false
set_option linter.unusedVariables false
namespace Go.Proofs.YtdenpfcgghangaaGreat
set_option maxRecDepth 100000
open Go.RowKit
abbrev Ent := Int × List UInt8
def sval (l : List UInt8) : Value := .string ⟨l.toArray⟩
def kval (e : Ent) : Value := .agg #[.int .i64 e.1, .string ⟨e.2.toArray⟩]
def klit (e : Ent) : Lit := .string (keyBytes [.int .i64 e.1, .string e.2])
def eok (e : Ent) : Prop := (Lit.int .i64 e.1).wf = true ∧ e.2.length ≤ maxLen
structure Marks (D : DataW Unit) (l : List Ent) : Prop where
 tidy : Maps.Tidy D
 ok : ∀ e ∈ l, eok e
 size : Maps.size D = l.length
 has : ∀ e, eok e → Maps.has D (klit e) = decide (e ∈ l)
 mark : ∀ e ∈ l, D.atKey (klit e) (.lit (.int .i64 0)) = .lit (.int .i64 (l.idxOf e + 1 : Nat))
theorem Marks.nil : Marks (.map [] : DataW Unit) [] :=
 ⟨Maps.tidy_empty, by simp, rfl, fun e _ => by simp [Maps.has_eq], by simp⟩
theorem Fr.turned {S : List Nat} {a w w' : World} {b : Nat} (h : Fr S a w) (hm : w.mapTurned w' b) (hb : b < a.heap.size → b ∈ S) : Fr S a w' :=
 h.grown hm.grown (fun k hk => by cases hk; exact hb)
end Go.Proofs.YtdenpfcgghangaaGreat
