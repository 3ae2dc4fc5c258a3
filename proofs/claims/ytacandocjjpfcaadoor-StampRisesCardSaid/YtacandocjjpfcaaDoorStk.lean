/- Package stamp: names as keys; a stamper as numbers and a list; where it lies. -/
import Derived.Test.YtacandocjjpfcaaDoorTab
import Derived.Test.YtacandocjjpfcaaDoorBook2
import Derived.Test.YtacandocjjpfcaaDoorWd
import Derived.Test.YtacandocjjpfcaaDoorWCf
import Derived.Test.YtacandocjjpfcaaDoorPut
import Derived.Test.YtacandocjjpfcaaDoorCm4
import Derived.Test.YtacandocjjpfcaaDoorBook3
namespace Go.Proofs.YtacandocjjpfcaaDoor
set_option maxRecDepth 100000
open Go.RowKit

theorem rowN : (30 : TypeId) < Tryd.prog.types.size := of_decide_eq_true (by kernel_rfl)
theorem wideN : (match Tryd.prog.underlying 30 with | some (.array _ _) | some (.struct _) => true | _ => false) = true := by rw [Tryd.underlying30]
theorem keyLawN : Go.WideMaps.KeyLaw Tryd.prog 30 := deep_law_laid laidOutP (m := 2) (by omega) rowN (by kernel_rfl) wideN
theorem keyTypeN : Tryd.prog.keyType 30 = true := by kernel_rfl
theorem cellsN : Tryd.prog.cellsOf 30 = 2 := by kernel_rfl
abbrev Nam := Int × Int
def nval (e : Nam) : Value := .agg #[.int .i64 e.1, .int .i64 e.2]
def nlit (e : Nam) : Lit := .string (keyBytes [.int .i64 e.1, .int .i64 e.2])
def nok (e : Nam) : Prop := i64In e.1 ∧ i64In e.2
theorem wf_i64In {z : Int} (h : i64In z) : (Lit.int .i64 z).wf = true := WalkArith.wf_i64 ⟨h.1, by have := h.2; omega⟩
theorem key_name (e : Nam) (h : nok e) : keyOf Tryd.prog 30 (nval e) = some (nlit e) := by
  obtain ⟨x, t⟩ := e
  have h1 := wf_i64In h.1
  have h2 := wf_i64In h.2
  simp only at h1 h2
  obtain ⟨m, hm⟩ : ∃ m, Tryd.prog.types.size = m + 1 := ⟨Tryd.prog.types.size - 1, (Nat.succ_pred_eq_of_pos (Nat.lt_of_le_of_lt (Nat.zero_le _) rowN)).symm⟩
  have hf : (nval (x, t)).formed Tryd.prog 30 = true := by simp [nval, Value.formed, Tryd.underlying30, cellsN]
  have hk : Tryd.prog.keyLits (Tryd.prog.types.size + 1) 30 (nval (x, t)).cells.toList = some [.int .i64 x, .int .i64 t] := by
    rw [hm]
    simp [Program.keyLits, Tryd.underlying30, nval, Value.cells, cellsN, cellsI, Tryd.underlying3, h1, h2]
  unfold keyOf
  rw [Tryd.underlying30]
  show (if (Tryd.prog.keyType 30 && (nval (x, t)).formed Tryd.prog 30) = true then (Tryd.prog.keyLits (Tryd.prog.types.size + 1) 30 (nval (x, t)).cells.toList).map fun ls => Lit.string (keyBytes ls) else none) = _
  rw [keyTypeN, hf, hk]
  rfl
def nameKey : KeyKind Tryd.prog 30 Nam where
  val := nval
  lit := nlit
  ok := nok
  law := keyLawN
  key := key_name
  inj := fun x y h => by
    obtain ⟨a, b⟩ := x
    obtain ⟨c, d⟩ := y
    simp [nval] at h
    simp [h]

/-- a replica's times: configuration, replica, clock, floor, last time, what was stamped -/
structure Sst where
  f : Int
  k : Int
  r : Int
  now : Nat
  fl : Nat
  la : Nat
  l : List (Nam × Wst)
def encS (l : List (Nam × Wst)) : List (Nam × Value) := l.map fun e => (e.1, e.2.val)
theorem encS_look (l : List (Nam × Wst)) (n : Nam) : (encS l).lookup n = (l.lookup n).map Wst.val := by
  induction l with
  | nil => rfl
  | cons e l ih =>
    obtain ⟨a, b⟩ := e
    simp only [encS, List.map_cons, List.lookup_cons]
    split
    · rfl
    · exact ih
theorem encS_len (l : List (Nam × Wst)) : (encS l).length = l.length := by simp [encS]
theorem encS_snoc (l : List (Nam × Wst)) (n : Nam) (y : Wst) : encS (l ++ [(n, y)]) = encS l ++ [(n, y.val)] := by simp [encS]
/-- may this replica be? -/
def mayB (f k r : Int) : Bool := confB f k && decide (0 ≤ r ∧ r < 3 * f + 1)
structure Sst.Ok (x : Sst) : Prop where
  conf : confB x.f x.k = true
  r : 0 ≤ x.r ∧ x.r < 3 * x.f + 1
  now : x.now ≤ 18446744073709551615
  fl : x.fl < 18446744073709551615
  la : x.la < 18446744073709551615
  l : ∀ n y, x.l.lookup n = some y → y.Ok ∧ y.r = x.r ∧ (y.c, y.s) = n ∧ y.t ≤ x.la ∧ 1 ≤ y.t
  n : ∀ e ∈ x.l, nok e.1
theorem conf_of {f k : Int} (h : confB f k = true) : 1 ≤ f ∧ f ≤ 21 ∧ 1 ≤ k ∧ k ≤ 100 := by simpa [confB] using h
theorem may_of {f k r : Int} (h : mayB f k r = true) : confB f k = true ∧ 0 ≤ r ∧ r < 3 * f + 1 := by simpa [mayB] using h
/-- the stamper's block; where it lies -/
def Sst.cells (x : Sst) (b : Nat) : Array Value := #[.int .i64 x.f, .int .i64 x.k, .int .i64 x.r, .int .u64 (x.now : Int), .int .u64 (x.fl : Int), .int .u64 (x.la : Int), .map (some b)]
def Sk (w : World) (S : List Nat) (g : Nat) (x : Sst) : Prop :=
  ∃ b, S = [g, b] ∧ Blk w g 90 (x.cells b) ∧ MapAt nameKey w b (encS x.l)
theorem Sk.keep {w w' : World} {S T : List Nat} {g : Nat} {x : Sst} (h : Sk w S g x) (hf : Fr T w w') (hn : ∀ y ∈ S, ¬ y ∈ T) : Sk w' S g x := by
  obtain ⟨b, rfl, h1, h2⟩ := h
  exact ⟨b, rfl, h1.keep hf (hn g (by simp)), h2.keep hf (hn b (by simp))⟩
theorem Sk.lt {w : World} {S : List Nat} {g : Nat} {x : Sst} (h : Sk w S g x) : ∀ y ∈ S, y < w.heap.size := by
  obtain ⟨b, rfl, h1, h2⟩ := h
  intro y hy
  simp at hy
  rcases hy with rfl | rfl
  · exact h1.lt
  · exact h2.lt
theorem Sk.mem {w : World} {S : List Nat} {g : Nat} {x : Sst} (h : Sk w S g x) : g ∈ S := by
  obtain ⟨b, rfl, _⟩ := h
  simp
theorem Sk.drewN {w : World} {S : List Nat} {g : Nat} {x : Sst} (h : Sk w S g x) (n : Nat) : Sk (w.drewN n) S g x := h
theorem Sk.drew {w : World} {S : List Nat} {g : Nat} {x : Sst} (h : Sk w S g x) : Sk w.drew S g x := h
/-- one field of it changes -/
theorem Sk.set {w : World} {S : List Nat} {g : Nat} {x y : Sst} (h : Sk w S g x) (i : Nat) (u : Value) (hl : y.l = x.l) (hc : ∀ b, (x.cells b).setIfInBounds i u = y.cells b) : Sk (w.setCell ⟨g, i, none⟩ u) S g y := by
  obtain ⟨b, rfl, h1, h2⟩ := h
  refine ⟨b, rfl, ?_, ?_⟩
  · rw [← hc b]
    exact h1.set i u
  · rw [hl]
    exact h2.keep ((Fr.refl [g] w).setCell ⟨g, i, none⟩ (by simp) u) (by have := h2.ne h1; simpa using fun e => this e.symm)
/-- the next time -/
def Sst.next (x : Sst) : Nat := max (max x.now (x.fl + 1)) (x.la + 1)
def Sst.tick (x : Sst) (n : Nat) : Sst := { x with now := min (x.now + n) 18446744073709551615 }
def Sst.raise (x : Sst) (t : Nat) : Sst := if t = 18446744073709551615 then x else { x with fl := max x.fl t }
def raiseE (t : Nat) : Int := if t = 18446744073709551615 then 4 else 0
theorem Sst.tick_ok {x : Sst} (h : x.Ok) (n : Nat) : (x.tick n).Ok := ⟨h.conf, h.r, Nat.min_le_right _ _, h.fl, h.la, h.l, h.n⟩
theorem Sst.raise_ok {x : Sst} (h : x.Ok) {t : Nat} (ht : t < 18446744073709551616) : (x.raise t).Ok := by
  unfold Sst.raise
  split
  · exact h
  · exact ⟨h.conf, h.r, h.now, by have := h.fl; show max x.fl t < _; omega, h.la, h.l, h.n⟩
def zSt : Wst := ⟨0, 0, 0, List.replicate 32 0, 0, 0, 0⟩
/-- the stamp that is given; the stamper behind it; the book behind it -/
def Sst.bare (x : Sst) (y : Cm) : Wst := ⟨x.r, y.c, y.s, y.h, x.next, 0, 0⟩
def Sst.given (x : Sst) (y : Cm) (l : List Ent) : Wst := ⟨x.r, y.c, y.s, y.h, x.next, x.r, mrk (sgn l (x.r, (x.bare y).text)) (x.r, (x.bare y).text)⟩
/-- Stamp: the stamp, the error, the stamper, the book -/
def Sst.stamp (x : Sst) (l : List Ent) (y : Cm) : Wst × Int × Sst × List Ent :=
  if rightC x.k l y = false then (zSt, 3, x, l) else
  match x.l.lookup (y.c, y.s) with
  | some o => if o.h = y.h then (o, 0, x, l) else (zSt, 5, x, l)
  | none => if x.next = 18446744073709551615 then (zSt, 4, x, l) else
    (x.given y l, 0, { x with la := x.next, l := x.l ++ [((y.c, y.s), x.given y l)] }, sgn l (x.r, (x.bare y).text))
end Go.Proofs.YtacandocjjpfcaaDoor
