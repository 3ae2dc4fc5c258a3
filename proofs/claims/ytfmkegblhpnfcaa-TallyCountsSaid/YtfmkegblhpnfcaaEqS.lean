/- Equality of structs, field by field: names, signatures, stamps, votes, denials. -/
import Derived.Test.YtfmkegblhpnfcaaPut
import Derived.Test.YtfmkegblhpnfcaaRead
import Derived.Laws.StructEq
set_option linter.unusedSimpArgs false
set_option linter.unusedVariables false
namespace Go.Proofs.Ytfmkegblhpnfcaa
open Go.RowKit
set_option maxRecDepth 100000

theorem eqFields_bool {P : Program} {d : Nat} {xs ys : Array Value} {f : Field} {fs : List Field} {u v : Value} {b : Bool} {w : World} (hn : f.name ≠ "_") (p : (part f.type xs f.offset).run P w = .ok u w) (p' : (part f.type ys f.offset).run P w = .ok v w)
    (q : (Op.equalIn d f.type u v).run P w = .ok b w) : (Op.eqFields d xs ys (f :: fs)).run P w = if b then (Op.eqFields d xs ys fs).run P w else .ok false w := by
  rw [Op.eqFields, if_pos hn]
  simp only [Sem.run_bind, p, p', Result.andThen_ok, q]
  cases b <;> simp
def FieldsEq (P : Program) (w : World) (d : Nat) (C D : Array Value) : List (TypeId × Nat) → List Bool → Prop
  | [], [] => True
  | (t, o) :: fs, b :: bs => (∃ u v, (part t C o).run P w = .ok u w ∧ (part t D o).run P w = .ok v w ∧ (Op.equalIn d t u v).run P w = .ok b w) ∧ FieldsEq P w d C D fs bs
  | _, _ => False
theorem eqFields_all {P : Program} {w : World} {d : Nat} {C D : Array Value} : ∀ (fs : List Field) (l : List (TypeId × Nat)) (bs : List Bool), fs.map (fun f => (f.type, f.offset, f.name == "_")) = l.map (fun x => (x.1, x.2, false)) →
    FieldsEq P w d C D l bs → (Op.eqFields d C D fs).run P w = .ok (bs.all id) w
  | [], [], [], _, _ => rfl
  | [], [], _ :: _, _, h => h.elim
  | [], _ :: _, _, h, _ => by simp at h
  | _ :: _, [], _, h, _ => by simp at h
  | _ :: _, _ :: _, [], _, h => h.elim
  | f :: fs, (t, o) :: l, b :: bs, h, hb => by
    simp only [List.map_cons, List.cons.injEq, Prod.mk.injEq, beq_eq_false_iff_ne] at h
    obtain ⟨⟨rfl, rfl, hn⟩, h⟩ := h
    obtain ⟨⟨u, v, p, p', q⟩, hr⟩ := hb
    rw [eqFields_bool hn p p' q, eqFields_all fs l bs h hr]
    cases b <;> simp
theorem part_rowx (ty : TypeId) (n off : Nat) (xs ys zs : List Value) (h : RowTy Try.prog ty n) (hx : xs.length = off) (hy : ys.length = n) (w : World) : (part ty (xs ++ (ys ++ zs)).toArray off).run Try.prog w = .ok (.agg ys.toArray) w := by
  obtain ⟨h1, h2⟩ := h
  cases hu : Try.prog.underlying ty with
  | none => rw [hu] at h1; cases h1
  | some d =>
    rw [hu] at h1
    cases hi : Try.prog.info? ty with
    | none => rw [hi] at h2; cases h2
    | some i =>
      have hs : i.size = n := by simpa [hi] using h2
      have hagg : (isAgg ty).run Try.prog w = .ok true w := by
        unfold isAgg
        rw [Sem.run_bind, run_underlying hu w]
        cases d <;> simp_all
      unfold part
      simp [hagg, sizeOf, typeInfo, hi, hs]
      subst hx
      subst hy
      simp
theorem eql_hash (a b : List UInt8) (ha : a.length = 32) (hb : b.length = 32) (d : Nat) (w : World) : (Op.equalIn (d + 2) 30 (.agg (a.map by8).toArray) (.agg (b.map by8).toArray)).run Try.prog w = .ok (decide (a = b)) w := by
  have h := run_equalIn_bytes (P := Try.prog) w d 30 5 32 Try.underlying30 Try.underlying5 u8_size1 a b ha hb
  rw [show decide (a = b) = (a == b) by rw [Bool.eq_iff_iff]; simp]
  exact h
theorem eql_int (y z : Int) (d : Nat) (w : World) : (Op.equalIn (d + 1) 3 (.int .i64 y) (.int .i64 z)).run Try.prog w = .ok (decide (y = z)) w := by
  have h := run_equalIn_int (P := Try.prog) w d 3 .i64 .i64 y z Try.underlying3
  rw [show decide (y = z) = (y == z) by rw [Bool.eq_iff_iff]; simp]
  exact h
theorem eql_u64 (y z : Int) (d : Nat) (w : World) : (Op.equalIn (d + 1) 61 (.int .u64 y) (.int .u64 z)).run Try.prog w = .ok (decide (y = z)) w := by
  have h := run_equalIn_int (P := Try.prog) w d 61 .u64 .u64 y z Try.underlying61
  rw [show decide (y = z) = (y == z) by rw [Bool.eq_iff_iff]; simp]
  exact h
theorem part_int (off : Nat) (cs : Array Value) (v : Value) (hv : cs[off]? = some v) (w : World) : (part 3 cs off).run Try.prog w = .ok v w := run_part_plain w (by kernel_rfl) hv
theorem part_u64 (off : Nat) (cs : Array Value) (v : Value) (hv : cs[off]? = some v) (w : World) : (part 61 cs off).run Try.prog w = .ok v w := run_part_plain w (by kernel_rfl) hv
theorem eql_of {ty : TypeId} {d : Nat} {C D : Array Value} {w : World} {l : List (TypeId × Nat)} {bs : List Bool} (e : (Op.equalIn (d + 1) ty (.agg C) (.agg D)).run Try.prog w = (Op.eqFields d C D (Try.prog.fieldsOf ty).toList).run Try.prog w)
    (hfs : (Try.prog.fieldsOf ty).toList.map (fun f => (f.type, f.offset, f.name == "_")) = l.map (fun x => (x.1, x.2, false))) (hb : FieldsEq Try.prog w d C D l bs) : (Op.equalIn (d + 1) ty (.agg C) (.agg D)).run Try.prog w = .ok (bs.all id) w := by
  rw [e]
  exact eqFields_all _ l bs hfs hb
def Wst.eqB (x y : Wst) : Bool := [decide (x.r = y.r), (decide (x.c = y.c) && decide (x.s = y.s)), decide (x.h = y.h), decide ((x.t : Int) = (y.t : Int)), (decide (x.b = y.b) && decide (x.m = y.m))].all id
theorem Wst.eqB_iff (x y : Wst) : x.eqB y = true ↔ x = y := by
  obtain ⟨_, _, _, _, _, _, _⟩ := x
  obtain ⟨_, _, _, _, _, _, _⟩ := y
  simp [Wst.eqB, Wst.mk.injEq, and_assoc]
  (try omega)
def Wvt.eqB (x y : Wvt) : Bool := [decide (x.k = y.k), decide (x.e = y.e), decide (x.r = y.r), decide (x.p = y.p), decide (x.h = y.h), (decide (x.b = y.b) && decide (x.m = y.m))].all id
theorem Wvt.eqB_iff (x y : Wvt) : x.eqB y = true ↔ x = y := by
  obtain ⟨_, _, _, _, _, _, _⟩ := x
  obtain ⟨_, _, _, _, _, _, _⟩ := y
  simp [Wvt.eqB, Wvt.mk.injEq, and_assoc]
  (try omega)
def Wdn.eqB (x y : Wdn) : Bool := [decide (x.r = y.r), decide (x.i = y.i), (decide (x.b = y.b) && decide (x.m = y.m))].all id
theorem Wdn.eqB_iff (x y : Wdn) : x.eqB y = true ↔ x = y := by
  obtain ⟨_, _, _, _⟩ := x
  obtain ⟨_, _, _, _⟩ := y
  simp [Wdn.eqB, Wdn.mk.injEq, and_assoc]
  (try omega)
end Go.Proofs.Ytfmkegblhpnfcaa
