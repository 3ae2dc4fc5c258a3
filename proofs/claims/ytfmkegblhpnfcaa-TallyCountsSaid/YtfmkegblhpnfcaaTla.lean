/- Package tally: ballots and polls as keys of maps; a value stored anew. -/
import Derived.Test.YtfmkegblhpnfcaaTab
import Derived.Test.YtfmkegblhpnfcaaCm2
import Derived.Test.YtfmkegblhpnfcaaWCf
import Derived.Test.YtfmkegblhpnfcaaBook
import Derived.Test.YtfmkegblhpnfcaaEqS
set_option linter.unusedSimpArgs false
set_option linter.unusedVariables false
namespace Go.Proofs.Ytfmkegblhpnfcaa
set_option maxRecDepth 100000
open Go.RowKit
section
variable {P : Program} {k : TypeId} {κ : Type}
variable [BEq κ]
/-- l with v at x -/
def upd (l : List (κ × Value)) (x : κ) (v : Value) : List (κ × Value) := l.map fun e => if e.1 == x then (e.1, v) else e
theorem upd_look [LawfulBEq κ] (l : List (κ × Value)) (x y : κ) (v : Value) : (upd l x v).lookup y = if y == x then (l.lookup y).map (fun _ => v) else l.lookup y := by
  induction l with
  | nil => simp [upd]
  | cons e l ih =>
    obtain ⟨a, b⟩ := e
    unfold upd at ih ⊢
    rw [List.map_cons, List.lookup_cons]
    by_cases hax : a = x
    · subst hax
      simp only [beq_self_eq_true, if_true, List.lookup_cons]
      by_cases hy : y = a
      · subst hy
        simp
      · have hy' : (y == a) = false := by simpa using hy
        rw [hy'] at ih ⊢
        simpa using ih
    · have hax' : (a == x) = false := by simpa using hax
      simp only [hax', Bool.false_eq_true, if_false, List.lookup_cons]
      by_cases hy : y = a
      · subst hy
        simp [hax']
      · have hy' : (y == a) = false := by simpa using hy
        rw [hy']
        exact ih
theorem Tab.upd [LawfulBEq κ] {K : KeyKind P k κ} {D : DataW Value} {l : List (κ × Value)} {x : κ} {v : Value} (h : Tab K D l) (hx : K.ok x) (hl : (l.lookup x).isSome = true) : Tab K (D.put (K.lit x) (.held v)) (upd l x v) := by
  have hne : ∀ y, K.ok y → y ≠ x → K.lit y ≠ K.lit x := fun y hy hh hk => hh (K.lit_inj hy hx hk)
  refine ⟨h.tidy.put (K.lit_key hx) _, ?_, ?_, ?_, ?_⟩
  · intro e he
    obtain ⟨q, hq, rfl⟩ := List.mem_map.1 he
    have := h.ok q hq
    split <;> exact this
  · rw [Maps.size_put h.tidy, h.has x hx, h.size, hl]
    simp [Go.Proofs.Ytfmkegblhpnfcaa.upd]
  · intro y hy
    rw [upd_look]
    by_cases hyx : y = x
    · subst hyx
      rw [Maps.has_put_same h.tidy.isMap (K.lit_key hy)]
      simp [hl]
    · have hyx' : (y == x) = false := by simpa using hyx
      rw [Maps.has_put_other (hne y hy hyx), h.has y hy, hyx']
      rfl
  · intro y u hy hu z
    rw [upd_look] at hu
    by_cases hyx : y = x
    · subst hyx
      obtain ⟨o, ho⟩ := Option.isSome_iff_exists.1 hl
      rw [ho] at hu
      simp at hu
      subst hu
      rw [Maps.atKey_put_same h.tidy.isMap (K.lit_key hy)]
    · have hyx' : (y == x) = false := by simpa using hyx
      rw [hyx'] at hu
      rw [Maps.atKey_put_other (hne y hy hyx)]
      exact h.val y u hy (by simpa using hu) z
/-- what a store makes of a list of keys and values -/
def putl (l : List (κ × Value)) (x : κ) (v : Value) : List (κ × Value) := if (l.lookup x).isSome then upd l x v else l ++ [(x, v)]
theorem putl_look [LawfulBEq κ] (l : List (κ × Value)) (x y : κ) (v : Value) : (putl l x v).lookup y = if y == x then some v else l.lookup y := by
  unfold putl
  split
  · rename_i h
    rw [upd_look]
    by_cases hy : y = x
    · subst hy
      obtain ⟨o, ho⟩ := Option.isSome_iff_exists.1 h
      simp [ho]
    · have hy' : (y == x) = false := by simpa using hy
      simp [hy']
  · rename_i h
    have hn : l.lookup x = none := Option.not_isSome_iff_eq_none.1 h
    by_cases hy : y = x
    · subst hy
      rw [lookup_same hn]
      simp
    · have hy' : (y == x) = false := by simpa using hy
      rw [lookup_other hy, hy']
      rfl
theorem putl_len (l : List (κ × Value)) (x : κ) (v : Value) : (putl l x v).length ≤ l.length + 1 := by
  unfold putl
  split
  · simp [upd]
  · simp
theorem MapAt.put [LawfulBEq κ] {K : KeyKind P k κ} {w : World} {b : Nat} {l : List (κ × Value)} (h : MapAt K w b l) {t e : TypeId} (ht : P.underlying t = some (.map k e)) (hl : l.length < maxLen) {x : κ} (hx : K.ok x) (v : Value) :
    ∃ w', (Instr.mapUpdate t (.map (some b)) (K.val x) v).run P w = .ok () w' ∧ MapAt K w' b (putl l x v) ∧ Fr [b] w w' := by
  unfold putl
  split
  · rename_i hs
    obtain ⟨D, h1, h2⟩ := h
    have h3 := h2.upd (v := v) hx hs
    obtain ⟨w', hrun, hown, hturn⟩ := h1.store K.keyed ht hl (K.key x hx) (show heldElem v = some (.held v, []) from rfl)
    refine ⟨w', hrun, ⟨_, ?_, h3⟩, (Fr.refl [b] w).turnedT hturn (by simp)⟩
    obtain ⟨es, clock, hb, F, hs', hD⟩ := hown
    refine ⟨es, clock, hb, F, ?_, hD⟩
    have e1 : Maps.size (D.put (K.lit x) (DataW.held v)) = es.size := by rw [hD]; simp [Maps.size, length_sorted]
    have e2 := h3.size
    simp only [Go.Proofs.Ytfmkegblhpnfcaa.upd, List.length_map] at e2 ⊢
    omega
  · rename_i hs
    exact h.store ht hl hx (Option.not_isSome_iff_eq_none.1 hs) v
theorem MapAt.entryP [LawfulBEq κ] {K : KeyKind P k κ} (hlaw : Go.WideMaps.KeyLaw P k) {w : World} {b : Nat} {l : List (κ × Value)} (h : MapAt K w b l) {t e : TypeId} (ht : P.underlying t = some (.map k e)) (hl : l.length < maxLen) {z : Value} (hz : ∀ u : World, (zeroValue e).run P u = .ok z u)
    {x : κ} (hx : K.ok x) :
    ∃ v0 st w1, (Instr.mapEntry t (.map (some b)) (K.val x)).run P w = .ok (.tuple #[v0, goInt st]) w1 ∧ Fr [b] w w1 ∧ ∀ (w2 : World) (v : Value), w2.heap[b]? = w1.heap[b]? →
      ∃ w3, (Instr.entryStore t (.map (some b)) (goInt st) v).run P w2 = .ok () w3 ∧ MapAt K w3 b (putl l x v) ∧ Fr [b] w2 w3 := by
  have hall := fun v => h.put ht hl hx v
  obtain ⟨D, ⟨es, clock, hb, F, hs, hD⟩, h2⟩ := h
  obtain ⟨v0, st, es1, clock1, hrun, _, hst⟩ := Go.WideElems.entry_then_store hlaw ht hz hb F (K.key x hx)
  refine ⟨v0, st, _, hrun, ⟨rfl, rfl, rfl, by simp [ChangeMaps.setBlock], fun i _ hi => Go.ChangeMaps.heap_setBlock_other hb _ (by simpa using hi)⟩, fun w2 v hw2 => ?_⟩
  rw [Go.ChangeMaps.heap_setBlock_same hb] at hw2
  obtain ⟨es', clock', h3, h4⟩ := hst w2 v hw2
  obtain ⟨w', hrun', hmap, _⟩ := hall v
  rw [h4] at hrun'
  cases hrun'
  refine ⟨_, h3, ?_, ⟨rfl, rfl, rfl, by simp [ChangeMaps.setBlock], fun i _ hi => Go.ChangeMaps.heap_setBlock_other hw2 _ (by simpa using hi)⟩⟩
  obtain ⟨D', ⟨es2, clock2, hb2, r⟩, h5⟩ := hmap
  rw [Go.ChangeMaps.heap_setBlock_same hb] at hb2
  exact ⟨D', ⟨es2, clock2, (Go.ChangeMaps.heap_setBlock_same hw2 _).trans hb2, r⟩, h5⟩
end
theorem wfI {z : Int} (h : i64In z) : (Lit.int .i64 z).wf = true := WalkArith.wf_i64 ⟨h.1, by have := h.2; omega⟩
theorem mapM_some {α β : Type} (f : α → Option β) (g : α → β) : ∀ l : List α, (∀ x ∈ l, f x = some (g x)) → l.mapM f = some (l.map g) := by
  intro l
  induction l with
  | nil => intro _; rfl
  | cons a l ih =>
    intro h
    rw [List.mapM_cons, h a (by simp), ih (fun x hx => h x (by simp [hx]))]
    rfl
theorem wf_u8 (b : UInt8) : (Lit.int .u8 (b.toNat : Int)).wf = true := by
  have h : ∀ n : Fin 256, (Lit.int .u8 (n.val : Int)).wf = true := by decide +kernel
  exact h ⟨b.toNat, b.toNat_lt⟩
theorem flat1 {α β : Type} (f : α → β) : ∀ l : List α, (l.map fun i => [f i]).flatten = l.map f := by
  intro l
  induction l with
  | nil => rfl
  | cons a l ih => simp only [List.map_cons, List.flatten_cons, ih, List.singleton_append]
theorem lits_hash (h : List UInt8) (hh : h.length = 32) (d : Nat) : Try.prog.keyLits (d + 2) 30 (h.map by8) = some (h.map fun b => .int .u8 (b.toNat : Int)) := by
  have hc : Try.prog.cellsOf 30 = 32 := by kernel_rfl
  have hc1 : Try.prog.cellsOf 5 = 1 := by kernel_rfl
  have hm := mapM_some (fun i => Try.prog.keyLits (d + 1) 5 (((h.map by8).drop (i * 1)).take 1)) (fun i => [Lit.int .u8 ((h.getD i 0).toNat : Int)]) (List.range 32) (by
    intro i hi
    have hi' : i < h.length := by rw [hh]; exact List.mem_range.1 hi
    have e : ((h.map by8).drop (i * 1)).take 1 = [by8 h[i]] := by
      rw [Nat.mul_one, List.drop_eq_getElem_cons (by simpa using hi')]
      simp
    have hl : (Lit.int .u8 (h[i].toNat : Int)).wf = true := wf_u8 h[i]
    simp only [e]
    simp [Program.keyLits, Try.underlying5, by8, hl, List.getD_eq_getElem?_getD, hi'])
  have hu : Try.prog.underlying 30 = some (.array 32 5) := Try.underlying30
  unfold Program.keyLits
  rw [hu]
  simp only [hc, hc1, List.length_map, hh, if_true]
  rw [hm]
  simp only [Option.map_some, Option.some.injEq, flat1 (fun i => Lit.int .u8 ((h.getD i 0).toNat : Int))]
  apply List.ext_getElem
  · simp [hh]
  · intro i h1 h2
    have hi : i < h.length := by simpa using h2
    simp [hi]
theorem rowBal : (68 : TypeId) < Try.prog.types.size := of_decide_eq_true (by kernel_rfl)
theorem rowPol : (65 : TypeId) < Try.prog.types.size := of_decide_eq_true (by kernel_rfl)
theorem wideBal : (match Try.prog.underlying 68 with | some (.array _ _) | some (.struct _) => true | _ => false) = true := by rw [Try.underlying68]
theorem widePol : (match Try.prog.underlying 65 with | some (.array _ _) | some (.struct _) => true | _ => false) = true := by rw [Try.underlying65]
theorem laidOutT : laidOutB Try.prog = true := by kernel_rfl
theorem keyLawBal : Go.WideMaps.KeyLaw Try.prog 68 := deep_law_laid laidOutT (m := 3) (by omega) rowBal (by kernel_rfl) wideBal
theorem keyLawPol : Go.WideMaps.KeyLaw Try.prog 65 := deep_law_laid laidOutT (m := 2) (by omega) rowPol (by kernel_rfl) widePol
theorem keyTypeBal : Try.prog.keyType 68 = true := by kernel_rfl
theorem keyTypePol : Try.prog.keyType 65 = true := by kernel_rfl
theorem cellsBal : Try.prog.cellsOf 68 = 34 := by kernel_rfl
theorem cellsPol : Try.prog.cellsOf 65 = 2 := by kernel_rfl
theorem cellsInt : Try.prog.cellsOf 3 = 1 := by kernel_rfl
theorem cellsHsh : Try.prog.cellsOf 30 = 32 := by kernel_rfl
/-- a kind, a round, a hash -/
abbrev Bal := Int × Int × List UInt8
abbrev Pol := Int × Int
def bcells (e : Bal) : List Value := .int .i64 e.1 :: .int .i64 e.2.1 :: e.2.2.map by8
def bval (e : Bal) : Value := .agg (bcells e).toArray
def blit (e : Bal) : Lit := .string (keyBytes (.int .i64 e.1 :: .int .i64 e.2.1 :: e.2.2.map fun b => .int .u8 (b.toNat : Int)))
def bok (e : Bal) : Prop := i64In e.1 ∧ i64In e.2.1 ∧ e.2.2.length = 32
def pval (e : Pol) : Value := .agg #[.int .i64 e.1, .int .i64 e.2]
def plit (e : Pol) : Lit := .string (keyBytes [.int .i64 e.1, .int .i64 e.2])
def pok (e : Pol) : Prop := i64In e.1 ∧ i64In e.2
theorem key_bal (e : Bal) (h : bok e) : keyOf Try.prog 68 (bval e) = some (blit e) := by
  obtain ⟨x, t, l⟩ := e
  have h1 := wfI h.1
  have h2 := wfI h.2.1
  have h3 := h.2.2
  simp only at h1 h2 h3
  obtain ⟨m, hm⟩ : ∃ m, Try.prog.types.size = m + 2 := ⟨Try.prog.types.size - 2, by have : 2 < Try.prog.types.size := of_decide_eq_true (by kernel_rfl); omega⟩
  have hf : (bval (x, t, l)).formed Try.prog 68 = true := by simp [bval, bcells, Value.formed, Try.underlying68, cellsBal, h3]
  have hH := lits_hash l h3 m
  have hk : Try.prog.keyLits (Try.prog.types.size + 1) 68 (bval (x, t, l)).cells.toList = some (.int .i64 x :: .int .i64 t :: l.map fun b => .int .u8 (b.toNat : Int)) := by
    rw [hm]
    have e3 : ((l.map by8).take 32) = l.map by8 := List.take_of_length_le (by simp [h3])
    have hI : ∀ d z, (Lit.int .i64 z).wf = true → Try.prog.keyLits (d + 1) 3 [.int .i64 z] = some [.int .i64 z] := fun d z hz => by simp [Program.keyLits, Try.underlying3, hz]
    unfold Program.keyLits
    simp only [Try.underlying68, bval, bcells, Value.cells, cellsBal, List.length_cons, List.length_map, h3]
    simp [cellsInt, cellsHsh, hI, h1, h2, e3, hH]
  unfold keyOf
  rw [Try.underlying68]
  show (if (Try.prog.keyType 68 && (bval (x, t, l)).formed Try.prog 68) = true then (Try.prog.keyLits (Try.prog.types.size + 1) 68 (bval (x, t, l)).cells.toList).map fun ls => Lit.string (keyBytes ls) else none) = _
  rw [keyTypeBal, hf, hk]
  rfl
theorem key_pol (e : Pol) (h : pok e) : keyOf Try.prog 65 (pval e) = some (plit e) := by
  obtain ⟨x, t⟩ := e
  have h1 := wfI h.1
  have h2 := wfI h.2
  simp only at h1 h2
  obtain ⟨m, hm⟩ : ∃ m, Try.prog.types.size = m + 1 := ⟨Try.prog.types.size - 1, (Nat.succ_pred_eq_of_pos (Nat.lt_of_le_of_lt (Nat.zero_le _) rowPol)).symm⟩
  have hf : (pval (x, t)).formed Try.prog 65 = true := by simp [pval, Value.formed, Try.underlying65, cellsPol]
  have hk : Try.prog.keyLits (Try.prog.types.size + 1) 65 (pval (x, t)).cells.toList = some [.int .i64 x, .int .i64 t] := by
    rw [hm]
    simp [Program.keyLits, Try.underlying65, pval, Value.cells, cellsPol, cellsInt, Try.underlying3, h1, h2]
  unfold keyOf
  rw [Try.underlying65]
  show (if (Try.prog.keyType 65 && (pval (x, t)).formed Try.prog 65) = true then (Try.prog.keyLits (Try.prog.types.size + 1) 65 (pval (x, t)).cells.toList).map fun ls => Lit.string (keyBytes ls) else none) = _
  rw [keyTypePol, hf, hk]
  rfl
theorem by8_inj : ∀ {a b : List UInt8}, a.map by8 = b.map by8 → a = b := by
  intro a
  induction a with
  | nil => intro b h; cases b with
    | nil => rfl
    | cons y b => simp at h
  | cons x a ih =>
    intro b h
    cases b with
    | nil => simp at h
    | cons y b =>
      simp only [List.map_cons, List.cons.injEq] at h
      have e : x = y := by
        have h1 := h.1
        unfold by8 at h1
        injection h1 with _ h1
        exact UInt8.toNat_inj.1 (by omega)
      rw [e, ih h.2]
def balKey : KeyKind Try.prog 68 Bal where
  val := bval
  lit := blit
  ok := bok
  keyed := Maps.Keyed.of_law keyLawBal
  key := key_bal
  inj := fun x y h => by
    obtain ⟨a, b, l⟩ := x
    obtain ⟨c, d, m⟩ := y
    simp [bval, bcells] at h
    obtain ⟨rfl, rfl, h⟩ := h
    have h' : l = m := by8_inj h
    rw [h']
def polKey : KeyKind Try.prog 65 Pol where
  val := pval
  lit := plit
  ok := pok
  keyed := Maps.Keyed.of_law keyLawPol
  key := key_pol
  inj := fun x y h => by
    obtain ⟨a, b⟩ := x
    obtain ⟨c, d⟩ := y
    simp [pval] at h
    simp [h]
end Go.Proofs.Ytfmkegblhpnfcaa
