/- Package book: what a book in memory is; the contracts of its calls. -/
import Derived.Test.YtlkhfhhaallhgaaHelp
import Derived.Maps.OwnSet
import Derived.DeepKeys4
import Derived.Deep.QuietTactic
import Derived.BigQuiet
import Derived.BigRegion
import Derived.Laws.IdiomStrings
import Derived.Shelf.Bytes.SlSmallAll
namespace Go.Proofs.Ytlkhfhhaallhgaa
set_option maxRecDepth 100000
open Go.RowKit

set_option maxRecDepth 100000 in
theorem laidOutP : laidOutB Try.prog = true := by kernel_rfl
set_option maxRecDepth 100000 in
theorem rowK : (84 : TypeId) < Try.prog.types.size := of_decide_eq_true (by kernel_rfl)
theorem wideK : (match Try.prog.underlying 84 with | some (.array _ _) | some (.struct _) => true | _ => false) = true := by rw [Try.underlying84]
set_option maxRecDepth 100000 in
theorem keyLawK : Maps.Keyed Try.prog 84 := Maps.Keyed.of_law (deep_law_laid laidOutP (m := 2) (by omega) rowK (by kernel_rfl) wideK)
theorem keyTypeK : Try.prog.keyType 84 = true := by kernel_rfl
theorem zeroK (w : World) : (zeroValue 3).run Try.prog w = .ok (.int .i64 0) w := by kernel_rfl

/-- a signature's signer and text -/
abbrev Ent := Int × List UInt8
def sval (l : List UInt8) : Value := .string ⟨l.toArray⟩
def kval (e : Ent) : Value := .agg #[.int .i64 e.1, .string ⟨e.2.toArray⟩]
def klit (e : Ent) : Lit := .string (keyBytes [.int .i64 e.1, .string e.2])
def eok (e : Ent) : Prop := (Lit.int .i64 e.1).wf = true ∧ e.2.length ≤ maxLen

theorem cellsK : Try.prog.cellsOf 84 = 2 := by kernel_rfl
theorem cellsI : Try.prog.cellsOf 3 = 1 := by kernel_rfl
theorem cellsS : Try.prog.cellsOf 9 = 1 := by kernel_rfl
theorem key_mk (e : Ent) (h : eok e) : keyOf Try.prog 84 (kval e) = some (klit e) := by
  obtain ⟨x, t⟩ := e
  obtain ⟨h1, h2⟩ := h
  simp only at h1 h2
  have hlen : ({ data := t.toArray } : ByteArray).size = t.length := by simp [ByteArray.size]
  obtain ⟨m, hm⟩ : ∃ m, Try.prog.types.size = m + 1 := ⟨Try.prog.types.size - 1, (Nat.succ_pred_eq_of_pos (Nat.lt_of_le_of_lt (Nat.zero_le _) rowK)).symm⟩
  have hI : ∀ d, Try.prog.keyLits (d + 1) 3 [.int .i64 x] = some [.int .i64 x] := fun d => by simp [Program.keyLits, Try.underlying3, h1]
  have hS : ∀ d, Try.prog.keyLits (d + 1) 9 [.string ⟨t.toArray⟩] = some [.string t] := fun d => by simp [Program.keyLits, Try.underlying9, hlen, h2]
  have hf : (kval (x, t)).formed Try.prog 84 = true := by simp [kval, Value.formed, Try.underlying84, cellsK]
  have hk : Try.prog.keyLits (Try.prog.types.size + 1) 84 (kval (x, t)).cells.toList = some [.int .i64 x, .string t] := by
    rw [hm]
    simp [Program.keyLits, Try.underlying84, kval, Value.cells, cellsK, cellsI, cellsS, Try.underlying3, Try.underlying9, h1, hlen, h2]
  unfold keyOf
  rw [Try.underlying84]
  show (if (Try.prog.keyType 84 && (kval (x, t)).formed Try.prog 84) = true then (Try.prog.keyLits (Try.prog.types.size + 1) 84 (kval (x, t)).cells.toList).map fun ls => Lit.string (keyBytes ls) else none) = _
  rw [keyTypeK, hf, hk]
  rfl
theorem klit_inj {e e' : Ent} (h : eok e) (h' : eok e') (hk : klit e = klit e') : e = e' := by
  have := keyLawK.inj (key_mk e h) (hk ▸ key_mk e' h')
  obtain ⟨a, b⟩ := e
  obtain ⟨a', b'⟩ := e'
  simp [kval] at this
  simp [this]
theorem klit_key {e : Ent} (h : eok e) : WideAt.IsKeyLit (klit e) := keyLawK.key (key_mk e h)

/-- the map's datum bears the marks of the entries, one behind the other -/
structure Marks (D : DataW Unit) (l : List Ent) : Prop where
  tidy : Maps.Tidy D
  ok : ∀ e ∈ l, eok e
  size : Maps.size D = l.length
  has : ∀ e, eok e → Maps.has D (klit e) = decide (e ∈ l)
  mark : ∀ e ∈ l, D.atKey (klit e) (.lit (.int .i64 0)) = .lit (.int .i64 (l.idxOf e + 1 : Nat))
theorem Marks.nil : Marks (.map [] : DataW Unit) [] :=
  ⟨Maps.tidy_empty, by simp, rfl, fun e _ => by simp [Maps.has_eq], by simp⟩
theorem Marks.snoc {D : DataW Unit} {l : List Ent} {e : Ent} (h : Marks D l) (he : eok e) (hn : ¬ e ∈ l) :
    Marks (D.put (klit e) (.lit (.int .i64 (l.length + 1 : Nat)))) (l ++ [e]) := by
  have hne : ∀ e', eok e' → e' ≠ e → klit e' ≠ klit e := fun e' h' hh hk => hh (klit_inj h' he hk)
  refine ⟨h.tidy.put (klit_key he) _, ?_, ?_, ?_, ?_⟩
  · intro x hx
    rcases List.mem_append.1 hx with hx | hx
    · exact h.ok x hx
    · rw [List.mem_singleton.1 hx]; exact he
  · rw [Maps.size_put h.tidy, h.has e he, h.size]
    simp [hn]
  · intro x hx
    by_cases hxe : x = e
    · subst hxe
      rw [Maps.has_put_same h.tidy.isMap (klit_key he)]
      simp
    · rw [Maps.has_put_other (hne x hx hxe), h.has x hx]
      simp [hxe]
  · intro x hx
    by_cases hxe : x = e
    · subst hxe
      rw [Maps.atKey_put_same h.tidy.isMap (klit_key he)]
      simp [List.idxOf_append, hn]
    · have hxl : x ∈ l := by simpa [hxe] using hx
      rw [Maps.atKey_put_other (hne x (h.ok x hxl) hxe), h.mark x hxl]
      simp [List.idxOf_append, hxl]

/-- a book at block g -/
def Bok (w : World) (S : List Nat) (g : Nat) (l : List Ent) : Prop :=
  ∃ b D, S = [g, b] ∧ Blk w g 81 #[.map (some b)] ∧ w.ownsMap Try.prog 84 (plainElem Try.prog 3) b l.length D ∧ Marks D l
theorem own_fr {w w' : World} {S : List Nat} {b n : Nat} {D : DataW Unit} {R : Value → Option (DataW Unit × List MemPlace)} {k : TypeId} (h : w.ownsMap Try.prog k R b n D) (hf : Fr S w w') (hn : ¬ b ∈ S) : w'.ownsMap Try.prog k R b n D := by
  obtain ⟨es, clock, hb, r⟩ := h
  exact ⟨es, clock, hf.heap hb hn, r⟩
theorem Bok.keep {w w' : World} {S T : List Nat} {g : Nat} {l : List Ent} (h : Bok w S g l) (hf : Fr T w w') (hn : ∀ x ∈ S, ¬ x ∈ T) : Bok w' S g l := by
  obtain ⟨b, D, rfl, h1, h2, h3⟩ := h
  exact ⟨b, D, rfl, h1.keep hf (hn g (by simp)), own_fr h2 hf (hn b (by simp)), h3⟩
theorem Bok.lt {w : World} {S : List Nat} {g : Nat} {l : List Ent} (h : Bok w S g l) : ∀ x ∈ S, x < w.heap.size := by
  obtain ⟨b, D, rfl, h1, h2, h3⟩ := h
  intro x hx
  simp at hx
  rcases hx with rfl | rfl
  · exact h1.lt
  · exact h2.lt
theorem Bok.mem {w : World} {S : List Nat} {g : Nat} {l : List Ent} (h : Bok w S g l) : g ∈ S := by
  obtain ⟨b, D, rfl, _⟩ := h
  simp
theorem Bok.ok {w : World} {S : List Nat} {g : Nat} {l : List Ent} (h : Bok w S g l) : ∀ e ∈ l, eok e := by
  obtain ⟨b, D, rfl, _, _, h⟩ := h
  exact h.ok
theorem Fr.turned {S : List Nat} {a w w' : World} {b : Nat} (h : Fr S a w) (hm : w.mapTurned w' b) (hb : b < a.heap.size → b ∈ S) : Fr S a w' :=
  h.grown hm.grown (fun k hk => by cases hk; exact hb)

set_option maxHeartbeats 400000 in
theorem new_any (w : World) : Calls Try.prog 18 #[] w fun e w' => e = .returned (.pointer (some ⟨w.heap.size + 1, 0, none⟩)) ∧ Bok w' [w.heap.size + 1, w.heap.size] (w.heap.size + 1) [] ∧ Fr [] w w' := by
  have hmm := @run_makeMap Try.prog
  go_enter Try.func18, Try.ntmps18
  go_wp2
  go_ret
  refine ⟨by simp, ⟨w.heap.size, .map [], rfl, ?_, ?_, Marks.nil⟩, ((Fr.refl [] w).alloc _).alloc _⟩
  · have := Blk.new (w.alloc (.map #[] 0)) 81 #[.map (some w.heap.size)]
    simpa using this
  · exact (World.ownsMap_made _ _ _ _).alloc _

theorem conv_text (A : Option Addr) (n c : Nat) (t : List UInt8) (w : World) (h : By w A n t) : (convert 41 9 (.slice A n c)).run Try.prog w = .ok (.string ⟨t.toArray⟩) w := by
  rcases Nat.eq_zero_or_pos n with h0 | h0
  · subst h0
    have : t = [] := List.eq_nil_of_length_eq_zero h.1
    subst this
    exact run_convert_bytes_zero w _ _ Try.underlying41 Try.underlying5 A c 9 Try.underlying9
  · obtain ⟨ad, rfl, hc⟩ := h.2 h0
    have hl := h.1
    subst hl
    refine run_convert_bytes_back w _ _ _ ad c t Try.underlying41 Try.underlying5 Try.underlying9 (fun j hj => ?_)
    exact hc j _ (by simp [List.getElem?_eq_getElem hj, by8])
end Go.Proofs.Ytlkhfhhaallhgaa
