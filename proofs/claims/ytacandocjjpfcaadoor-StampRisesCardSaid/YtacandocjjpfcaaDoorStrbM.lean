/- gavellaw09.StampRises: one round of it as code; what holds behind it. (written by gen_strs4.py) -/
import Derived.Test.YtacandocjjpfcaaDoorStkrM
import Derived.Test.YtacandocjjpfcaaDoorKF3
namespace Go.Proofs.YtacandocjjpfcaaDoor
set_option maxRecDepth 100000
open Go.RowKit
def cFst : Code → Code
  | .seq a _ => a
  | c => c
def cSnd : Code → Code
  | .seq _ b => b
  | c => c
def cInn : Code → Code
  | .block _ c => c
  | .loop c => c
  | c => c
def cBody (f : Func) : Code := match f.body with
  | some c => c
  | none => .ret
def RRise (w0 : World) (S Sb : List Nat) (g gb bm k : Nat) (s7 : Value) (wx : World) : Prop := ∃ (x2 : Sst) (l2 : List Ent) (la2 : Nat), s7 = .int .u64 (la2 : Int) ∧ Hid (la2 = x2.la) ∧ Hid (x2.k = 3 ∧ x2.r = 2 ∧ x2.l.length ≤ k + 1) ∧ Hid (l2.length ≤ 2 * (k + 1)) ∧ Hid (SB w0 wx S Sb g gb x2 l2) ∧ Hid (MapAt nameKey wx bm (encS x2.l)) ∧ Hid (Fr [] w0 wx)
theorem RRise.of {w0 : World} {S Sb : List Nat} {g gb bm k : Nat} {s7 : Value} {wx : World} (h : ∃ (x2 : Sst) (l2 : List Ent) (la2 : Nat), s7 = .int .u64 (la2 : Int) ∧ Hid (la2 = x2.la) ∧ Hid (x2.k = 3 ∧ x2.r = 2 ∧ x2.l.length ≤ k + 1) ∧ Hid (l2.length ≤ 2 * (k + 1)) ∧ Hid (SB w0 wx S Sb g gb x2 l2) ∧ Hid (MapAt nameKey wx bm (encS x2.l)) ∧ Hid (Fr [] w0 wx)) : RRise w0 S Sb g gb bm k s7 wx := h
theorem RRise.open {w0 : World} {S Sb : List Nat} {g gb bm k : Nat} {s7 : Value} {wx : World} (h : RRise w0 S Sb g gb bm k s7 wx) : ∃ (x2 : Sst) (l2 : List Ent) (la2 : Nat), s7 = .int .u64 (la2 : Int) ∧ Hid (la2 = x2.la) ∧ Hid (x2.k = 3 ∧ x2.r = 2 ∧ x2.l.length ≤ k + 1) ∧ Hid (l2.length ≤ 2 * (k + 1)) ∧ Hid (SB w0 wx S Sb g gb x2 l2) ∧ Hid (MapAt nameKey wx bm (encS x2.l)) ∧ Hid (Fr [] w0 wx) := h
end Go.Proofs.YtacandocjjpfcaaDoor
