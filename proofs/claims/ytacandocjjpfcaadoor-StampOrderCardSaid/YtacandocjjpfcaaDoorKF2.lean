/- Texts that the proof stands on: Commitments that come in: what their reading says of cells. | The stamper's list of calls that comes in ([]Act of chapter 9), lists of times and numbers: what their reading says of cells. | Stamps, acks, votes, denials, signatures that come in: what their reading says of cells. | The example of the document (wakes) over package sha. | The laid table: what the condition of a row gives the walks; the door's own heap meets it. -/
import Derived.Test.YtacandocjjpfcaaDoorKF1
import Derived.Test.YtacandocjjpfcaaDoorWd
import Derived.Test.YtacandocjjpfcaaDoorShaQ
import Derived.Test.YtacandocjjpfcaaDoorTie
import Derived.ProofKit
import Derived.LaidMore
import Derived.OpenShut
import Derived.Stop.Joined
import Derived.Test.YtacandocjjpfcaaDoorCards
set_option maxRecDepth 100000

namespace Go.Proofs.YtacandocjjpfcaaDoor
open Go.ChangeShapes Go.WideShapes Go.ChangeAt Go.RowKit
set_option maxRecDepth 100000
theorem pair_of_trod {H : Type} {enc : TypeId × Value → H} {W : World} {sp : Nat → Bool} {held : Bool} {ty : TypeId} {x y : Field} (hu : Tryd.prog.underlying ty = some (.struct #[x, y])) (hx : x.type = 3 ∧ x.offset = 0) (hy : y.type = 3 ∧ y.offset = 1) (hc2 : Tryd.prog.cellsOf ty = 2)
    {fuel : Nat} {cs : List Value} {r : DataW H × List MemPlace} (h : DataW.trod enc Tryd.prog W 0 sp held fuel ty cs = some r) : ∃ c s : Int, i64In c ∧ i64In s ∧ cs = [.int .i64 c, .int .i64 s] := by
  obtain ⟨xs, m, _, _, hlen, hxl, hat⟩ := DataW.trod_struct hu h
  rw [hc2] at hlen
  have c1 : Tryd.prog.cellsOf 3 = 1 := by kernel_rfl
  have hx2 : ∀ i (hi : i < 2), xs[i]? = some (xs[i]'(by rw [hxl]; exact hi)) := fun i hi => List.getElem?_eq_getElem _
  have f0 : DataW.trod enc Tryd.prog W 0 sp held m x.type ((cs.drop x.offset).take (Tryd.prog.cellsOf x.type)) = _ := (hat 0 _ rfl).trans (hx2 0 (by omega))
  have f1 : DataW.trod enc Tryd.prog W 0 sp held m y.type ((cs.drop y.offset).take (Tryd.prog.cellsOf y.type)) = _ := (hat 1 _ rfl).trans (hx2 1 (by omega))
  rw [hx.1, hx.2, c1] at f0
  rw [hy.1, hy.2, c1] at f1
  obtain ⟨c, e0, _, w0⟩ := DataW.trod_int Tryd.underlying3 f0
  obtain ⟨s, e1, _, w1⟩ := DataW.trod_int Tryd.underlying3 f1
  refine ⟨c, s, i64In_of w0, i64In_of w1, ?_⟩
  match hL : cs, hlen with
  | [x, y], _ =>
    simp at e0 e1
    rw [e0, e1]
theorem commit_open {H : Type} {enc : TypeId × Value → H} {W : World} {r : Reach} {base b0 : Nat} {v : Value} {d : DataW H} {p : List MemPlace} {sp : Nat → Bool} {held : Bool} (hv : Value.okWide Tryd.prog W r base 36 v) (h : DataW.Trod enc Tryd.prog W b0 sp held 36 v d p) (hb : b0 = 0) :
    ∃ x : Cm, x.Ok ∧ v = x.val := by
  subst hb
  unfold Value.okWide at hv
  rw [Tryd.underlying36] at hv
  obtain ⟨cs, rfl, -⟩ := hv
  obtain ⟨fuel, hf⟩ := h
  obtain ⟨xs, m, _, _, hlen, hxl, hat⟩ := DataW.trod_struct Tryd.underlying36 (show DataW.trod enc Tryd.prog W 0 sp held fuel 36 cs.toList = some (d, p) from hf)
  rw [show Tryd.prog.cellsOf 36 = 37 by kernel_rfl] at hlen
  have c1 : Tryd.prog.cellsOf 3 = 1 := by kernel_rfl
  have c2 : Tryd.prog.cellsOf 30 = 2 := by kernel_rfl
  have c3 : Tryd.prog.cellsOf 32 = 32 := by kernel_rfl
  have c4 : Tryd.prog.cellsOf 34 = 2 := by kernel_rfl
  have hx : ∀ i (hi : i < 4), xs[i]? = some (xs[i]'(by rw [hxl]; exact hi)) := fun i hi => List.getElem?_eq_getElem _
  have f0 : DataW.trod enc Tryd.prog W 0 sp held m 30 ((cs.toList.drop 0).take (Tryd.prog.cellsOf 30)) = _ := (hat 0 _ rfl).trans (hx 0 (by omega))
  have f1 : DataW.trod enc Tryd.prog W 0 sp held m 32 ((cs.toList.drop 2).take (Tryd.prog.cellsOf 32)) = _ := (hat 1 _ rfl).trans (hx 1 (by omega))
  have f2 : DataW.trod enc Tryd.prog W 0 sp held m 3 ((cs.toList.drop 34).take (Tryd.prog.cellsOf 3)) = _ := (hat 2 _ rfl).trans (hx 2 (by omega))
  have f3 : DataW.trod enc Tryd.prog W 0 sp held m 34 ((cs.toList.drop 35).take (Tryd.prog.cellsOf 34)) = _ := (hat 3 _ rfl).trans (hx 3 (by omega))
  rw [c2] at f0
  rw [c3] at f1
  rw [c1] at f2
  rw [c4] at f3
  obtain ⟨c, s, hc, hs, e0⟩ := pair_of_trod Tryd.underlying30 ⟨rfl, rfl⟩ ⟨rfl, rfl⟩ c2 f0
  obtain ⟨hh, hl, e1⟩ := hash_of_trod f1
  obtain ⟨n, e2, _, w2⟩ := DataW.trod_int Tryd.underlying3 f2
  obtain ⟨b, m', hb, hm, e3⟩ := pair_of_trod Tryd.underlying34 ⟨rfl, rfl⟩ ⟨rfl, rfl⟩ c4 f3
  refine ⟨⟨c, s, hh, n, b, m'⟩, ⟨hc, hs, hl, i64In_of w2, hb, hm⟩, ?_⟩
  have key : cs.toList = Cm.cells ⟨c, s, hh, n, b, m'⟩ := by
    have d0 : cs.toList = cs.toList.take 2 ++ ((cs.toList.drop 2).take 32 ++ ((cs.toList.drop 34).take 1 ++ (cs.toList.drop 35).take 2)) := by
      have t3 : (cs.toList.drop 35).take 2 = cs.toList.drop 35 := List.take_of_length_le (by rw [List.length_drop, hlen]; omega)
      have s1 : (cs.toList.drop 34).take 1 ++ cs.toList.drop 35 = cs.toList.drop 34 := by
        have := List.take_append_drop 1 (cs.toList.drop 34)
        rwa [List.drop_drop] at this
      have s2 : (cs.toList.drop 2).take 32 ++ cs.toList.drop 34 = cs.toList.drop 2 := by
        have := List.take_append_drop 32 (cs.toList.drop 2)
        rwa [List.drop_drop] at this
      rw [t3, s1, s2, List.take_append_drop]
    rw [d0, e1, e2, e3, show cs.toList.take 2 = (cs.toList.drop 0).take 2 by rw [List.drop_zero], e0]
    rfl
  show Value.agg cs = Value.agg _
  rw [← key, Array.toArray_toList]
end Go.Proofs.YtacandocjjpfcaaDoor

namespace Go.Proofs.YtacandocjjpfcaaDoor
open Go.ChangeShapes Go.WideShapes Go.ChangeAt Go.RowKit
set_option maxRecDepth 100000

structure Act9 where
  d : Int
  q : Int
  t : Nat
  c : Int
  s : Int
  A : Option Addr
  m : Nat
  p : Nat
  b : List UInt8
instance : Inhabited Act9 := ⟨⟨0, 0, 0, 0, 0, none, 0, 0, []⟩⟩
def Act9.cells (v : Act9) : List Value := [.int .i64 v.d, .int .i64 v.q, .int .u64 (v.t : Int), .int .i64 v.c, .int .i64 v.s, .slice v.A v.m v.p]
theorem Act9.one (v : Act9) : ∀ x ∈ v.cells, x.oneCell' = true := by
  intro x hx
  simp only [Act9.cells, List.mem_cons, List.not_mem_nil, or_false] at hx
  rcases hx with rfl | rfl | rfl | rfl | rfl | rfl <;> rfl
structure Act9.Ok (w : World) (v : Act9) : Prop where
  d : i64In v.d
  q : i64In v.q
  t : v.t < 18446744073709551616
  c : i64In v.c
  s : i64In v.s
  b : By w v.A v.m v.b
  m : v.m ≤ v.p
  p : v.p ≤ maxLen
theorem Act9.Ok.keep {w w' : World} {S : List Nat} {v : Act9} (h : v.Ok w) (hf : Fr S w w') (hS : ∀ a, v.A = some a → ¬ a.block ∈ S) : v.Ok w' := ⟨h.d, h.q, h.t, h.c, h.s, h.b.keep hf hS, h.m, h.p⟩
theorem Act9.Ok.old {w w' : World} {v : Act9} (h : v.Ok w) (hb : Below w.heap.size w w') : v.Ok w' := ⟨h.d, h.q, h.t, h.c, h.s, h.b.old hb, h.m, h.p⟩
theorem act9_size : (Tryd.prog.info? 72).map (·.size) = some 6 := by kernel_rfl
theorem row_act9 : RowTy Tryd.prog 72 6 := ⟨by kernel_rfl, by kernel_rfl⟩
section
variable {H : Type} {enc : TypeId × Value → H} {w : World} {spare : Nat → Bool} {held : Bool}
theorem act9_of_trod {fuel : Nat} {cs : List Value} {x : DataW H × List MemPlace} (h : DataW.trod enc Tryd.prog w 0 spare held fuel 72 cs = some x) :
    ∃ v : Act9, v.Ok w ∧ cs = v.cells := by
  obtain ⟨xs, m, _, _, hlen, hxl, hat⟩ := DataW.trod_struct Tryd.underlying72 h
  rw [show Tryd.prog.cellsOf 72 = 6 by kernel_rfl] at hlen
  have c1 : Tryd.prog.cellsOf 3 = 1 := by kernel_rfl
  have c2 : Tryd.prog.cellsOf 45 = 1 := by kernel_rfl
  have c3 : Tryd.prog.cellsOf 38 = 1 := by kernel_rfl
  have c4 : Tryd.prog.cellsOf 30 = 2 := by kernel_rfl
  have hx : ∀ i (hi : i < 5), xs[i]? = some (xs[i]'(by rw [hxl]; exact hi)) := fun i hi => List.getElem?_eq_getElem _
  have f0 : DataW.trod enc Tryd.prog w 0 spare held m 3 ((cs.drop 0).take (Tryd.prog.cellsOf 3)) = _ := (hat 0 _ rfl).trans (hx 0 (by omega))
  have f1 : DataW.trod enc Tryd.prog w 0 spare held m 3 ((cs.drop 1).take (Tryd.prog.cellsOf 3)) = _ := (hat 1 _ rfl).trans (hx 1 (by omega))
  have f2 : DataW.trod enc Tryd.prog w 0 spare held m 45 ((cs.drop 2).take (Tryd.prog.cellsOf 45)) = _ := (hat 2 _ rfl).trans (hx 2 (by omega))
  have f3 : DataW.trod enc Tryd.prog w 0 spare held m 30 ((cs.drop 3).take (Tryd.prog.cellsOf 30)) = _ := (hat 3 _ rfl).trans (hx 3 (by omega))
  have f4 : DataW.trod enc Tryd.prog w 0 spare held m 38 ((cs.drop 5).take (Tryd.prog.cellsOf 38)) = _ := (hat 4 _ rfl).trans (hx 4 (by omega))
  rw [c1] at f0 f1
  rw [c2] at f2
  rw [c4] at f3
  rw [c3] at f4
  obtain ⟨d, e0, _, w0⟩ := DataW.trod_int Tryd.underlying3 f0
  obtain ⟨n, e1, _, w1⟩ := DataW.trod_int Tryd.underlying3 f1
  obtain ⟨t0, e2, _, w2⟩ := DataW.trod_int Tryd.underlying45 f2
  obtain ⟨t, rfl, b2⟩ := u64_of w2
  obtain ⟨c, s, hc, hs, e3⟩ := pair_of_trod Tryd.underlying30 ⟨rfl, rfl⟩ ⟨rfl, rfl⟩ (by kernel_rfl) f3
  obtain ⟨A, l, p, e4⟩ := Go.Joins.slice_form Tryd.underlying38 f4
  rw [e4] at f4
  obtain ⟨b, hb, hm, hp⟩ := by_of_trod f4
  obtain ⟨p0, p1, p2, p3, p4, p5, rfl⟩ : ∃ p0 p1 p2 p3 p4 p5, cs = [p0, p1, p2, p3, p4, p5] := by
    rcases cs with _ | ⟨p0, _ | ⟨p1, _ | ⟨p2, _ | ⟨p3, _ | ⟨p4, _ | ⟨p5, _ | ⟨p6, l⟩⟩⟩⟩⟩⟩⟩ <;> simp at hlen
    exact ⟨p0, p1, p2, p3, p4, p5, rfl⟩
  simp at e0 e1 e2 e3 e4
  obtain ⟨rfl, rfl⟩ := e3
  subst e0
  subst e1
  subst e2
  subst e4
  exact ⟨⟨d, n, t, c, s, A, l, p, b⟩, ⟨i64In_of w0, i64In_of w1, b2, hc, hs, hb, hm, hp⟩, rfl⟩
/-- a list of such acts -/
def Acts9 (w : World) (A : Option Addr) (n : Nat) (l : List Act9) : Prop := Lst 6 Act9.cells (fun w v => v.Ok w) w A n l
theorem acts9_of_trod {fuel : Nat} {A : Option Addr} {len cap : Nat} {x : DataW H × List MemPlace} (h : DataW.trod enc Tryd.prog w 0 spare held fuel 56 [.slice A len cap] = some x) :
    ∃ l, Acts9 w A len l ∧ len ≤ cap ∧ cap ≤ maxLen :=
  lst_of_trod Tryd.underlying56 (by kernel_rfl) (fun _ _ _ h => act9_of_trod h) h
/-- times; numbers -/
def U64s (w : World) (A : Option Addr) (n : Nat) (l : List Nat) : Prop := Lst 1 (fun t : Nat => [Value.int .u64 (t : Int)]) (fun _ t => t < 18446744073709551616) w A n l
def Ints (w : World) (A : Option Addr) (n : Nat) (l : List Int) : Prop := Lst 1 (fun z : Int => [Value.int .i64 z]) (fun _ z => i64In z) w A n l
theorem u64s_of_trod {fuel : Nat} {A : Option Addr} {len cap : Nat} {x : DataW H × List MemPlace} (h : DataW.trod enc Tryd.prog w 0 spare held fuel 22 [.slice A len cap] = some x) :
    ∃ l, U64s w A len l ∧ len ≤ cap ∧ cap ≤ maxLen :=
  lst_of_trod Tryd.underlying22 (by kernel_rfl) (fun _ _ _ h => by
    obtain ⟨t0, rfl, _, w2⟩ := DataW.trod_int Tryd.underlying45 h
    obtain ⟨t, rfl, b2⟩ := u64_of w2
    exact ⟨t, b2, rfl⟩) h
theorem ints_of_trod {fuel : Nat} {A : Option Addr} {len cap : Nat} {x : DataW H × List MemPlace} (h : DataW.trod enc Tryd.prog w 0 spare held fuel 23 [.slice A len cap] = some x) :
    ∃ l, Ints w A len l ∧ len ≤ cap ∧ cap ≤ maxLen :=
  lst_of_trod Tryd.underlying23 (by kernel_rfl) (fun _ _ _ h => by
    obtain ⟨z, rfl, _, w2⟩ := DataW.trod_int Tryd.underlying3 h
    exact ⟨z, i64In_of w2, rfl⟩) h
end
end Go.Proofs.YtacandocjjpfcaaDoor

namespace Go.Proofs.YtacandocjjpfcaaDoor
open Go.ChangeShapes Go.WideShapes Go.ChangeAt Go.RowKit
set_option maxRecDepth 100000
theorem cut_at {α : Type} (l : List α) (o n k : Nat) (hk : o + n = k) : l.drop o = (l.drop o).take n ++ l.drop k := by
  subst hk
  rw [← List.drop_drop, List.take_append_drop]
theorem stamp_open {H : Type} {enc : TypeId × Value → H} {W : World} {r : Reach} {base b0 : Nat} {v : Value} {d : DataW H} {p : List MemPlace} {sp : Nat → Bool} {held : Bool} (hv : Value.okWide Tryd.prog W r base 47 v) (h : DataW.Trod enc Tryd.prog W b0 sp held 47 v d p) (hb : b0 = 0) :
    ∃ x : Wst, x.Ok ∧ v = x.val := by
  subst hb
  unfold Value.okWide at hv
  rw [Tryd.underlying47] at hv
  obtain ⟨cs, rfl, -⟩ := hv
  obtain ⟨fuel, hf⟩ := h
  obtain ⟨xs, m, _, _, hlen, hxl, hat⟩ := DataW.trod_struct Tryd.underlying47 (show DataW.trod enc Tryd.prog W 0 sp held fuel 47 cs.toList = some (d, p) from hf)
  rw [show Tryd.prog.cellsOf 47 = 38 by kernel_rfl] at hlen
  have hx : ∀ i (hi : i < 5), xs[i]? = some (xs[i]'(by rw [hxl]; exact hi)) := fun i hi => List.getElem?_eq_getElem _
  have f0 : DataW.trod enc Tryd.prog W 0 sp held m 3 ((cs.toList.drop 0).take (Tryd.prog.cellsOf 3)) = _ := (hat 0 _ rfl).trans (hx 0 (by omega))
  rw [show Tryd.prog.cellsOf 3 = 1 by kernel_rfl] at f0
  obtain ⟨r, e0, _, w0⟩ := DataW.trod_int Tryd.underlying3 f0
  have f1 : DataW.trod enc Tryd.prog W 0 sp held m 30 ((cs.toList.drop 1).take (Tryd.prog.cellsOf 30)) = _ := (hat 1 _ rfl).trans (hx 1 (by omega))
  rw [show Tryd.prog.cellsOf 30 = 2 by kernel_rfl] at f1
  obtain ⟨c, s, w1, w1', e1⟩ := pair_of_trod Tryd.underlying30 ⟨rfl, rfl⟩ ⟨rfl, rfl⟩ (by kernel_rfl) f1
  have f2 : DataW.trod enc Tryd.prog W 0 sp held m 32 ((cs.toList.drop 3).take (Tryd.prog.cellsOf 32)) = _ := (hat 2 _ rfl).trans (hx 2 (by omega))
  rw [show Tryd.prog.cellsOf 32 = 32 by kernel_rfl] at f2
  obtain ⟨hh, w2, e2⟩ := hash_of_trod f2
  have f3 : DataW.trod enc Tryd.prog W 0 sp held m 45 ((cs.toList.drop 35).take (Tryd.prog.cellsOf 45)) = _ := (hat 3 _ rfl).trans (hx 3 (by omega))
  rw [show Tryd.prog.cellsOf 45 = 1 by kernel_rfl] at f3
  obtain ⟨u3, e3, _, w3⟩ := DataW.trod_int Tryd.underlying45 f3
  obtain ⟨t, rfl, b3⟩ := u64_of w3
  have f4 : DataW.trod enc Tryd.prog W 0 sp held m 34 ((cs.toList.drop 36).take (Tryd.prog.cellsOf 34)) = _ := (hat 4 _ rfl).trans (hx 4 (by omega))
  rw [show Tryd.prog.cellsOf 34 = 2 by kernel_rfl] at f4
  obtain ⟨b, mm, w4, w4', e4⟩ := pair_of_trod Tryd.underlying34 ⟨rfl, rfl⟩ ⟨rfl, rfl⟩ (by kernel_rfl) f4
  refine ⟨⟨r, c, s, hh, t, b, mm⟩, ⟨i64In_of w0, w1, w1', w2, b3, w4, w4'⟩, ?_⟩
  have key : cs.toList = Wst.cells ⟨r, c, s, hh, t, b, mm⟩ := by
    have z : cs.toList.drop 38 = [] := List.drop_eq_nil_of_le (by omega)
    have s0 : cs.toList = cs.toList.drop 0 := rfl
    rw [s0, cut_at cs.toList 0 1 1 rfl, e0, cut_at cs.toList 1 2 3 rfl, e1, cut_at cs.toList 3 32 35 rfl, e2, cut_at cs.toList 35 1 36 rfl, e3, cut_at cs.toList 36 2 38 rfl, e4, z]
    simp [Wst.cells]
  show Value.agg cs = Value.agg _
  rw [← key, Array.toArray_toList]
end Go.Proofs.YtacandocjjpfcaaDoor

namespace Go.Proofs.YtacandocjjpfcaaDoor
set_option maxRecDepth 100000
open Go.RowKit

end Go.Proofs.YtacandocjjpfcaaDoor

namespace Go.Proofs.YtacandocjjpfcaaDoor
set_option maxRecDepth 100000
open Go.ChangeShapes Go.WideShapes Go.ChangeAt Go.RowKit

theorem gK : Tryd.prog.globalNamed "gavel/sha.roundWords" = some 0 := by kernel_rfl
theorem tK : (Tryd.prog.globals[0]?).map (·.type) = some 136 := by kernel_rfl
theorem kay_lits {H : Type} : (Rows.laid_gavel_sha_roundWords : DataW H) = .agg (kay.map fun z => .lit (.int .u32 z)) := rfl
theorem kw_of_laid {W : World} (h : laidMetH Tryd.prog [("gavel/sha.roundWords", Rows.laid_gavel_sha_roundWords)] W) : KW W := by
  rw [MakeChecks.laidMetH_plain _ _ _ (by kernel_rfl)] at h
  obtain ⟨ps, ⟨g0, t0, cs0, f0, p0, q0, hg0, ht0, hv0, hd0, _, _⟩, _⟩ := h
  obtain rfl := Option.some.inj (gK.symm.trans hg0)
  obtain rfl := Option.some.inj (tK.symm.trans ht0)
  obtain ⟨xs, m1, rfl, hx1, hlen, hn3, hel⟩ := DataW.trod_array Tryd.underlying136 hd0
  have c1 : Tryd.prog.cellsOf 117 = 1 := by kernel_rfl
  have c64 : Tryd.prog.cellsOf 136 = 64 := by kernel_rfl
  rw [kay_lits] at hx1
  simp only [Prod.mk.injEq, DataW.agg.injEq] at hx1
  intro i hi
  have hw := World.var?_cell hg0 hv0 i
  have hl64 : cs0.toList.length = 64 := by rw [hlen, c64]
  have h1 := hel i hi
  have hxi : xs[i]? = some (xs[i]'(by omega)) := List.getElem?_eq_getElem _
  rw [hxi, c1, Nat.mul_one] at h1
  have hci : i < cs0.size := by simpa using (show i < cs0.toList.length by omega)
  have h2 : (cs0.toList.drop i).take 1 = [cs0[i]] := by
    rw [List.drop_eq_getElem_cons (by simpa using hci)]
    simp
  rw [h2] at h1
  obtain ⟨k, e1, e2, _⟩ := DataW.trod_int Tryd.underlying117 h1
  injection e1 with e1
  have hk : k = kay.getD i 0 := by
    have h3 : (xs.map (·.1))[i]? = (kay.map fun z => (.lit (.int .u32 z) : DataW _))[i]? := by rw [hx1.1]
    have hkl : i < kay.length := hi
    rw [List.getElem?_map, hxi, List.getElem?_map, List.getElem?_eq_getElem hkl] at h3
    simp only [Option.map_some, Option.some.injEq] at h3
    rw [e2] at h3
    simp only [DataW.lit.injEq, Lit.int.injEq] at h3
    rw [List.getD, List.getElem?_eq_getElem hkl]
    exact h3.2
  rw [hw, Array.getElem?_eq_getElem hci, e1, hk]
theorem door_met (os : Os) (args : Array Value) : laidMetH Tryd.prog [("gavel/sha.roundWords", Rows.laid_gavel_sha_roundWords)] ((World.doorLaid Tryd.prog 14 os).forCall (fun _ _ => 0) ⟨#[], args, []⟩).memory :=
  laidMetH_of_parts3 (fuel := 8) (laidMet_of_run' 8 (by kernel_rfl) (by kernel_rfl)) (by kernel_rfl) (by kernel_rfl)
theorem hash_open {H : Type} {enc : TypeId × Value → H} {W : World} {r : Reach} {base b0 : Nat} {v : Value} {d : DataW H} {p : List MemPlace} {sp : Nat → Bool} {held : Bool} (hv : Value.okWide Tryd.prog W r base 32 v) (h : DataW.Trod enc Tryd.prog W b0 sp held 32 v d p) (hb : b0 = 0) :
    ∃ l : List UInt8, l.length = 32 ∧ v = .agg (l.map by8).toArray := by
  subst hb
  unfold Value.okWide at hv
  rw [Tryd.underlying32] at hv
  obtain ⟨cs, rfl, -⟩ := hv
  obtain ⟨fuel, hf⟩ := h
  obtain ⟨l, hl, e⟩ := hash_of_trod (show DataW.trod enc Tryd.prog W 0 sp held fuel 32 cs.toList = some (d, p) from hf)
  exact ⟨l, hl, by rw [← e]⟩
theorem own : ownKnob Tryd.prog.godebug = none := by kernel_rfl
end Go.Proofs.YtacandocjjpfcaaDoor
