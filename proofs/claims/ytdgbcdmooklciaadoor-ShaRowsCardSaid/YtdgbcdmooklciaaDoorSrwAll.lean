/- Proved here: ShaRows' statement, the tied card. Its texts in one: a claim has room for 60 files. -/
import Derived.Test.YtdgbcdmooklciaaDoorReg
import Derived.Test.YtdgbcdmooklciaaDoorPut
import Derived.Test.YtdgbcdmooklciaaDoorRead
import Derived.Laws.StructEq
import Derived.Test.YtdgbcdmooklciaaDoorVals
import Derived.Test.YtdgbcdmooklciaaDoorShaQ
import Derived.Test.YtdgbcdmooklciaaDoorRefW
import Derived.Deep.DeepCutAuto
import Derived.Test.YtdgbcdmooklciaaDoorPutX
import Derived.Test.YtdgbcdmooklciaaDoorLst3
import Derived.Test.YtdgbcdmooklciaaDoorShaW
import Derived.Test.YtdgbcdmooklciaaDoorReg2
import Derived.Deep.CutBlock
import Derived.IntWalk
import Derived.Test.YtdgbcdmooklciaaDoorWo
import Derived.Test.YtdgbcdmooklciaaDoorNm2
import Derived.Test.YtdgbcdmooklciaaDoorShaL
import Derived.Test.YtdgbcdmooklciaaDoorOpen
import Derived.SevenTiedAt
/-! ### EqX -/
namespace Go.Proofs.YtdgbcdmooklciaaDoor
open Go.RowKit
set_option maxRecDepth 100000
theorem exec_eql {P : Program} {ev : Operand → Value} {o : Oper} {w : World} (ty r : TypeId) (x y : Operand) (ho : o.op = .binOp .eql ty x y r) (C D : Array Value) (hx : ev x = .agg C) (hy : ev y = .agg D) (b : Bool)
    (hg : P.eqGuardType P.depth ty = false) (hq : (Op.equalIn 10000 ty (.agg C) (.agg D)).run P w = .ok b w) : (execOp ev o).run P w = .ok (.value (.bool b)) w := by
  have hq' : (Op.equal ty (.agg C) (.agg D)).run P w = .ok b w := hq
  unfold execOp
  simp only [ho, hx, hy]
  simp [eqGuard, binOp, hg, hq', Result.andThen]
theorem eql_at {P : Program} {l : List Oper} {Q : Exit → Act → World → Prop} {md : Region.Mode} {S : World → Prop} {fuel : Nat} {listed : Array Bool} {a : Act} {w : World}
    {i : Nat} {oi : Oper} (hi : nthOp l i = some oi) (ht : takeOk md l.toArray listed i = true) (hw : Region.wanted oi (yielded l.toArray a.tmps) = true)
    (ty r : TypeId) (x y : Operand) (ho : oi.op = .binOp .eql ty x y r) (C D : Array Value) (hx : a.eval x = .agg C) (hy : a.eval y = .agg D) (b : Bool) (hg : P.eqGuardType P.depth ty = false)
    (hq : ∀ w, (Op.equalIn 10000 ty (.agg C) (.agg D)).run P w = .ok b w)
    (hQ : ∀ c a w, Q (.panic c) (a.put oi.dst (.bool b)) w → Q (.panic c) a w) (hS : S w)
    (h : wpAnyH P md l.toArray Q S fuel (listed.setIfInBounds i true) (a.put oi.dst (.bool b)) w) : wpAnyH P md l.toArray Q S (fuel + 1) listed a w :=
  run_at hi ht hw hQ hS (fun _ _ => exec_eql ty r x y ho C D hx hy b hg (hq _)) h
theorem exec_neq {P : Program} {ev : Operand → Value} {o : Oper} {w : World} (ty r : TypeId) (x y : Operand) (ho : o.op = .binOp .neq ty x y r) (C D : Array Value) (hx : ev x = .agg C) (hy : ev y = .agg D) (b : Bool)
    (hg : P.eqGuardType P.depth ty = false) (hq : (Op.equalIn 10000 ty (.agg C) (.agg D)).run P w = .ok b w) : (execOp ev o).run P w = .ok (.value (.bool (!b))) w := by
  have hq' : (Op.equal ty (.agg C) (.agg D)).run P w = .ok b w := hq
  unfold execOp
  simp only [ho, hx, hy]
  simp [eqGuard, binOp, hg, hq', Result.andThen]
theorem neq_at {P : Program} {l : List Oper} {Q : Exit → Act → World → Prop} {md : Region.Mode} {S : World → Prop} {fuel : Nat} {listed : Array Bool} {a : Act} {w : World}
    {i : Nat} {oi : Oper} (hi : nthOp l i = some oi) (ht : takeOk md l.toArray listed i = true) (hw : Region.wanted oi (yielded l.toArray a.tmps) = true)
    (ty r : TypeId) (x y : Operand) (ho : oi.op = .binOp .neq ty x y r) (C D : Array Value) (hx : a.eval x = .agg C) (hy : a.eval y = .agg D) (b : Bool) (hg : P.eqGuardType P.depth ty = false)
    (hq : ∀ w, (Op.equalIn 10000 ty (.agg C) (.agg D)).run P w = .ok b w)
    (hQ : ∀ c a w, Q (.panic c) (a.put oi.dst (.bool (!b))) w → Q (.panic c) a w) (hS : S w)
    (h : wpAnyH P md l.toArray Q S fuel (listed.setIfInBounds i true) (a.put oi.dst (.bool (!b))) w) : wpAnyH P md l.toArray Q S (fuel + 1) listed a w :=
  run_at hi ht hw hQ hS (fun _ _ => exec_neq ty r x y ho C D hx hy b hg (hq _)) h
end Go.Proofs.YtdgbcdmooklciaaDoor

/-! ### EqS -/
namespace Go.Proofs.YtdgbcdmooklciaaDoor
open Go.RowKit
set_option maxRecDepth 100000

theorem eqFields_bool {P : Program} {d : Nat} {xs ys : Array Value} {f : Field} {fs : List Field} {u v : Value} {b : Bool} {w : World} (hn : f.name ≠ "_") (p : (part f.type xs f.offset).run P w = .ok u w) (p' : (part f.type ys f.offset).run P w = .ok v w)
    (q : (Op.equalIn d f.type u v).run P w = .ok b w) : (Op.eqFields d xs ys (f :: fs)).run P w = if b then (Op.eqFields d xs ys fs).run P w else .ok false w := by
  rw [Op.eqFields, if_pos hn]
  simp only [Sem.run_bind, p, p', Result.andThen_ok, q]
  cases b <;> simp
def FieldsEq (P : Program) (w : World) (d : Nat) (C D : Array Value) : List (TypeId × Nat) → List Bool → Prop
  | [], [] => True
  | (t, o) :: fs, b :: bs => (∃ u v, (part t C o).run P w = .ok u w ∧ (part t D o).run P w = .ok v w ∧ (Op.equalIn d t u v).run P w = .ok b w) ∧ FieldsEq P w d C D fs bs
  | _, _ => False
theorem eqFields_all {P : Program} {w : World} {d : Nat} {C D : Array Value} : ∀ (fs : List Field) (l : List (TypeId × Nat)) (bs : List Bool), fs.map (fun f => (f.type, f.offset, f.name == "_")) = l.map (fun x => (x.1, x.2, false)) →
    FieldsEq P w d C D l bs → (Op.eqFields d C D fs).run P w = .ok (bs.all id) w
  | [], [], [], _, _ => rfl
  | [], [], _ :: _, _, h => h.elim
  | [], _ :: _, _, h, _ => by simp at h
  | _ :: _, [], _, h, _ => by simp at h
  | _ :: _, _ :: _, [], _, h => h.elim
  | f :: fs, (t, o) :: l, b :: bs, h, hb => by
    simp only [List.map_cons, List.cons.injEq, Prod.mk.injEq, beq_eq_false_iff_ne] at h
    obtain ⟨⟨rfl, rfl, hn⟩, h⟩ := h
    obtain ⟨⟨u, v, p, p', q⟩, hr⟩ := hb
    rw [eqFields_bool hn p p' q, eqFields_all fs l bs h hr]
    cases b <;> simp
theorem part_rowx (ty : TypeId) (n off : Nat) (xs ys zs : List Value) (h : RowTy Tryd.prog ty n) (hx : xs.length = off) (hy : ys.length = n) (w : World) : (part ty (xs ++ (ys ++ zs)).toArray off).run Tryd.prog w = .ok (.agg ys.toArray) w := by
  obtain ⟨h1, h2⟩ := h
  cases hu : Tryd.prog.underlying ty with
  | none => rw [hu] at h1; cases h1
  | some d =>
    rw [hu] at h1
    cases hi : Tryd.prog.info? ty with
    | none => rw [hi] at h2; cases h2
    | some i =>
      have hs : i.size = n := by simpa [hi] using h2
      have hagg : (isAgg ty).run Tryd.prog w = .ok true w := by
        unfold isAgg
        rw [Sem.run_bind, run_underlying hu w]
        cases d <;> simp_all
      unfold part
      simp [hagg, sizeOf, typeInfo, hi, hs]
      subst hx
      subst hy
      simp
theorem eql_hash (a b : List UInt8) (ha : a.length = 32) (hb : b.length = 32) (d : Nat) (w : World) : (Op.equalIn (d + 2) 26 (.agg (a.map by8).toArray) (.agg (b.map by8).toArray)).run Tryd.prog w = .ok (decide (a = b)) w := by
  have h := run_equalIn_bytes (P := Tryd.prog) w d 26 5 32 Tryd.underlying26 Tryd.underlying5 u8_size1 a b ha hb
  rw [show decide (a = b) = (a == b) by rw [Bool.eq_iff_iff]; simp]
  exact h
theorem eql_int (y z : Int) (d : Nat) (w : World) : (Op.equalIn (d + 1) 3 (.int .i64 y) (.int .i64 z)).run Tryd.prog w = .ok (decide (y = z)) w := by
  have h := run_equalIn_int (P := Tryd.prog) w d 3 .i64 .i64 y z Tryd.underlying3
  rw [show decide (y = z) = (y == z) by rw [Bool.eq_iff_iff]; simp]
  exact h
theorem eql_u64 (y z : Int) (d : Nat) (w : World) : (Op.equalIn (d + 1) 34 (.int .u64 y) (.int .u64 z)).run Tryd.prog w = .ok (decide (y = z)) w := by
  have h := run_equalIn_int (P := Tryd.prog) w d 34 .u64 .u64 y z Tryd.underlying34
  rw [show decide (y = z) = (y == z) by rw [Bool.eq_iff_iff]; simp]
  exact h
theorem part_int (off : Nat) (cs : Array Value) (v : Value) (hv : cs[off]? = some v) (w : World) : (part 3 cs off).run Tryd.prog w = .ok v w := run_part_plain w (by kernel_rfl) hv
theorem part_u64 (off : Nat) (cs : Array Value) (v : Value) (hv : cs[off]? = some v) (w : World) : (part 34 cs off).run Tryd.prog w = .ok v w := run_part_plain w (by kernel_rfl) hv
theorem eql_of {ty : TypeId} {d : Nat} {C D : Array Value} {w : World} {l : List (TypeId × Nat)} {bs : List Bool} (e : (Op.equalIn (d + 1) ty (.agg C) (.agg D)).run Tryd.prog w = (Op.eqFields d C D (Tryd.prog.fieldsOf ty).toList).run Tryd.prog w)
    (hfs : (Tryd.prog.fieldsOf ty).toList.map (fun f => (f.type, f.offset, f.name == "_")) = l.map (fun x => (x.1, x.2, false))) (hb : FieldsEq Tryd.prog w d C D l bs) : (Op.equalIn (d + 1) ty (.agg C) (.agg D)).run Tryd.prog w = .ok (bs.all id) w := by
  rw [e]
  exact eqFields_all _ l bs hfs hb
theorem eql_name (a b a' b' : Int) (d : Nat) (w : World) : (Op.equalIn (d + 2) 52 (.agg #[.int .i64 a, .int .i64 b]) (.agg #[.int .i64 a', .int .i64 b'])).run Tryd.prog w = .ok (decide (a = a') && decide (b = b')) w := by
  have h := eql_of (l := [(3, 0), (3, 1)]) (run_equalIn_struct w (d + 1) 52 #[.int .i64 a, .int .i64 b] #[.int .i64 a', .int .i64 b'] (by kernel_rfl) (by kernel_rfl)) (by kernel_rfl)
    (bs := [decide (a = a'), decide (b = b')]) ⟨⟨_, _, part_int 0 _ _ rfl w, part_int 0 _ _ rfl w, eql_int a a' d w⟩, ⟨_, _, part_int 1 _ _ rfl w, part_int 1 _ _ rfl w, eql_int b b' d w⟩, trivial⟩
  rw [h]
  simp
theorem eql_sig (a b a' b' : Int) (d : Nat) (w : World) : (Op.equalIn (d + 2) 54 (.agg #[.int .i64 a, .int .i64 b]) (.agg #[.int .i64 a', .int .i64 b'])).run Tryd.prog w = .ok (decide (a = a') && decide (b = b')) w := by
  have h := eql_of (l := [(3, 0), (3, 1)]) (run_equalIn_struct w (d + 1) 54 #[.int .i64 a, .int .i64 b] #[.int .i64 a', .int .i64 b'] (by kernel_rfl) (by kernel_rfl)) (by kernel_rfl)
    (bs := [decide (a = a'), decide (b = b')]) ⟨⟨_, _, part_int 0 _ _ rfl w, part_int 0 _ _ rfl w, eql_int a a' d w⟩, ⟨_, _, part_int 1 _ _ rfl w, part_int 1 _ _ rfl w, eql_int b b' d w⟩, trivial⟩
  rw [h]
  simp
def Wst.eqB (x y : Wst) : Bool := [decide (x.r = y.r), (decide (x.c = y.c) && decide (x.s = y.s)), decide (x.h = y.h), decide ((x.t : Int) = (y.t : Int)), (decide (x.b = y.b) && decide (x.m = y.m))].all id
theorem Wst.eqB_iff (x y : Wst) : x.eqB y = true ↔ x = y := by
  obtain ⟨_, _, _, _, _, _, _⟩ := x
  obtain ⟨_, _, _, _, _, _, _⟩ := y
  simp [Wst.eqB, Wst.mk.injEq, and_assoc]
  (try omega)
set_option maxHeartbeats 1000000 in
theorem eql_Wst (x y : Wst) (hx : x.h.length = 32) (hy : y.h.length = 32) (w : World) : (Op.equalIn 10000 79 (.agg x.cells.toArray) (.agg y.cells.toArray)).run Tryd.prog w = .ok (x.eqB y) w :=
  eql_of (d := 9999) (C := x.cells.toArray) (D := y.cells.toArray) (l := [(3, 0), (52, 1), (26, 3), (34, 35), (54, 36)]) (run_equalIn_struct w 9999 79 x.cells.toArray y.cells.toArray (by kernel_rfl) (by kernel_rfl)) (by kernel_rfl)
    (bs := [decide (x.r = y.r), (decide (x.c = y.c) && decide (x.s = y.s)), decide (x.h = y.h), decide ((x.t : Int) = (y.t : Int)), (decide (x.b = y.b) && decide (x.m = y.m))])
    ⟨⟨_, _, part_int 0 _ _ (show x.cells.toArray[0]? = some (.int .i64 x.r) from rfl) w, part_int 0 _ _ (show y.cells.toArray[0]? = some (.int .i64 y.r) from rfl) w, eql_int _ _ 9998 w⟩,
      ⟨_, _, (part_rowx 52 2 1 [.int .i64 x.r] [.int .i64 x.c, .int .i64 x.s] ([] ++ (x.h.map by8 ++ [.int .u64 (x.t : Int), .int .i64 x.b, .int .i64 x.m])) row_name rfl rfl w), (part_rowx 52 2 1 [.int .i64 y.r] [.int .i64 y.c, .int .i64 y.s] ([] ++ (y.h.map by8 ++ [.int .u64 (y.t : Int), .int .i64 y.b, .int .i64 y.m])) row_name rfl rfl w), eql_name _ _ _ _ 9997 w⟩,
      ⟨_, _, (part_rowx 26 32 3 [.int .i64 x.r, .int .i64 x.c, .int .i64 x.s] (x.h.map by8) [.int .u64 (x.t : Int), .int .i64 x.b, .int .i64 x.m] row_hash rfl (by rw [List.length_map]; exact hx) w), (part_rowx 26 32 3 [.int .i64 y.r, .int .i64 y.c, .int .i64 y.s] (y.h.map by8) [.int .u64 (y.t : Int), .int .i64 y.b, .int .i64 y.m] row_hash rfl (by rw [List.length_map]; exact hy) w), eql_hash x.h y.h hx hy 9997 w⟩,
      ⟨_, _, part_u64 35 _ _ (show x.cells.toArray[35]? = some (.int .u64 (x.t : Int)) by rw [List.getElem?_toArray]; exact post_cell [.int .i64 x.r, .int .i64 x.c, .int .i64 x.s] (x.h.map by8) [.int .u64 (x.t : Int), .int .i64 x.b, .int .i64 x.m] (by rw [List.length_map]; exact hx) 0 rfl) w, part_u64 35 _ _ (show y.cells.toArray[35]? = some (.int .u64 (y.t : Int)) by rw [List.getElem?_toArray]; exact post_cell [.int .i64 y.r, .int .i64 y.c, .int .i64 y.s] (y.h.map by8) [.int .u64 (y.t : Int), .int .i64 y.b, .int .i64 y.m] (by rw [List.length_map]; exact hy) 0 rfl) w, eql_u64 _ _ 9998 w⟩,
      ⟨_, _, (show (part 54 x.cells.toArray 36).run Tryd.prog w = .ok (.agg [.int .i64 x.b, .int .i64 x.m].toArray) w by rw [show x.cells = ([.int .i64 x.r, .int .i64 x.c, .int .i64 x.s] ++ (x.h.map by8 ++ [.int .u64 (x.t : Int)])) ++ ([.int .i64 x.b, .int .i64 x.m] ++ []) by simp [Wst.cells]]; exact part_rowx 54 2 36 _ _ _ row_sig (by simp [hx]) rfl w), (show (part 54 y.cells.toArray 36).run Tryd.prog w = .ok (.agg [.int .i64 y.b, .int .i64 y.m].toArray) w by rw [show y.cells = ([.int .i64 y.r, .int .i64 y.c, .int .i64 y.s] ++ (y.h.map by8 ++ [.int .u64 (y.t : Int)])) ++ ([.int .i64 y.b, .int .i64 y.m] ++ []) by simp [Wst.cells]]; exact part_rowx 54 2 36 _ _ _ row_sig (by simp [hy]) rfl w), eql_sig _ _ _ _ 9997 w⟩, trivial⟩
def Wvt.eqB (x y : Wvt) : Bool := [decide (x.k = y.k), decide (x.e = y.e), decide (x.r = y.r), decide (x.p = y.p), decide (x.h = y.h), (decide (x.b = y.b) && decide (x.m = y.m))].all id
theorem Wvt.eqB_iff (x y : Wvt) : x.eqB y = true ↔ x = y := by
  obtain ⟨_, _, _, _, _, _, _⟩ := x
  obtain ⟨_, _, _, _, _, _, _⟩ := y
  simp [Wvt.eqB, Wvt.mk.injEq, and_assoc]
  (try omega)
set_option maxHeartbeats 1000000 in
theorem eql_Wvt (x y : Wvt) (hx : x.h.length = 32) (hy : y.h.length = 32) (w : World) : (Op.equalIn 10000 87 (.agg x.cells.toArray) (.agg y.cells.toArray)).run Tryd.prog w = .ok (x.eqB y) w :=
  eql_of (d := 9999) (C := x.cells.toArray) (D := y.cells.toArray) (l := [(3, 0), (3, 1), (3, 2), (3, 3), (26, 4), (54, 36)]) (run_equalIn_struct w 9999 87 x.cells.toArray y.cells.toArray (by kernel_rfl) (by kernel_rfl)) (by kernel_rfl)
    (bs := [decide (x.k = y.k), decide (x.e = y.e), decide (x.r = y.r), decide (x.p = y.p), decide (x.h = y.h), (decide (x.b = y.b) && decide (x.m = y.m))])
    ⟨⟨_, _, part_int 0 _ _ (show x.cells.toArray[0]? = some (.int .i64 x.k) from rfl) w, part_int 0 _ _ (show y.cells.toArray[0]? = some (.int .i64 y.k) from rfl) w, eql_int _ _ 9998 w⟩,
      ⟨_, _, part_int 1 _ _ (show x.cells.toArray[1]? = some (.int .i64 x.e) from rfl) w, part_int 1 _ _ (show y.cells.toArray[1]? = some (.int .i64 y.e) from rfl) w, eql_int _ _ 9998 w⟩,
      ⟨_, _, part_int 2 _ _ (show x.cells.toArray[2]? = some (.int .i64 x.r) from rfl) w, part_int 2 _ _ (show y.cells.toArray[2]? = some (.int .i64 y.r) from rfl) w, eql_int _ _ 9998 w⟩,
      ⟨_, _, part_int 3 _ _ (show x.cells.toArray[3]? = some (.int .i64 x.p) from rfl) w, part_int 3 _ _ (show y.cells.toArray[3]? = some (.int .i64 y.p) from rfl) w, eql_int _ _ 9998 w⟩,
      ⟨_, _, (part_rowx 26 32 4 [.int .i64 x.k, .int .i64 x.e, .int .i64 x.r, .int .i64 x.p] (x.h.map by8) [.int .i64 x.b, .int .i64 x.m] row_hash rfl (by rw [List.length_map]; exact hx) w), (part_rowx 26 32 4 [.int .i64 y.k, .int .i64 y.e, .int .i64 y.r, .int .i64 y.p] (y.h.map by8) [.int .i64 y.b, .int .i64 y.m] row_hash rfl (by rw [List.length_map]; exact hy) w), eql_hash x.h y.h hx hy 9997 w⟩,
      ⟨_, _, (show (part 54 x.cells.toArray 36).run Tryd.prog w = .ok (.agg [.int .i64 x.b, .int .i64 x.m].toArray) w by rw [show x.cells = ([.int .i64 x.k, .int .i64 x.e, .int .i64 x.r, .int .i64 x.p] ++ (x.h.map by8 ++ [])) ++ ([.int .i64 x.b, .int .i64 x.m] ++ []) by simp [Wvt.cells]]; exact part_rowx 54 2 36 _ _ _ row_sig (by simp [hx]) rfl w), (show (part 54 y.cells.toArray 36).run Tryd.prog w = .ok (.agg [.int .i64 y.b, .int .i64 y.m].toArray) w by rw [show y.cells = ([.int .i64 y.k, .int .i64 y.e, .int .i64 y.r, .int .i64 y.p] ++ (y.h.map by8 ++ [])) ++ ([.int .i64 y.b, .int .i64 y.m] ++ []) by simp [Wvt.cells]]; exact part_rowx 54 2 36 _ _ _ row_sig (by simp [hy]) rfl w), eql_sig _ _ _ _ 9997 w⟩, trivial⟩
def Wdn.eqB (x y : Wdn) : Bool := [decide (x.r = y.r), decide (x.i = y.i), (decide (x.b = y.b) && decide (x.m = y.m))].all id
theorem Wdn.eqB_iff (x y : Wdn) : x.eqB y = true ↔ x = y := by
  obtain ⟨_, _, _, _⟩ := x
  obtain ⟨_, _, _, _⟩ := y
  simp [Wdn.eqB, Wdn.mk.injEq, and_assoc]
  (try omega)
set_option maxHeartbeats 1000000 in
theorem eql_Wdn (x y : Wdn) (w : World) : (Op.equalIn 10000 83 (.agg x.cells.toArray) (.agg y.cells.toArray)).run Tryd.prog w = .ok (x.eqB y) w :=
  eql_of (d := 9999) (C := x.cells.toArray) (D := y.cells.toArray) (l := [(3, 0), (3, 1), (54, 2)]) (run_equalIn_struct w 9999 83 x.cells.toArray y.cells.toArray (by kernel_rfl) (by kernel_rfl)) (by kernel_rfl)
    (bs := [decide (x.r = y.r), decide (x.i = y.i), (decide (x.b = y.b) && decide (x.m = y.m))])
    ⟨⟨_, _, part_int 0 _ _ (show x.cells.toArray[0]? = some (.int .i64 x.r) from rfl) w, part_int 0 _ _ (show y.cells.toArray[0]? = some (.int .i64 y.r) from rfl) w, eql_int _ _ 9998 w⟩,
      ⟨_, _, part_int 1 _ _ (show x.cells.toArray[1]? = some (.int .i64 x.i) from rfl) w, part_int 1 _ _ (show y.cells.toArray[1]? = some (.int .i64 y.i) from rfl) w, eql_int _ _ 9998 w⟩,
      ⟨_, _, (part_rowx 54 2 2 [.int .i64 x.r, .int .i64 x.i] [.int .i64 x.b, .int .i64 x.m] [] row_sig rfl rfl w), (part_rowx 54 2 2 [.int .i64 y.r, .int .i64 y.i] [.int .i64 y.b, .int .i64 y.m] [] row_sig rfl rfl w), eql_sig _ _ _ _ 9997 w⟩, trivial⟩
end Go.Proofs.YtdgbcdmooklciaaDoor

/-! ### Rowv -/
namespace Go.Proofs.YtdgbcdmooklciaaDoor
set_option maxRecDepth 100000
open Go.RowKit
open Go.ChangeShapes Go.WideShapes
open Go.Deep (open_slice open_slice1)

theorem info_row : (Tryd.prog.info? 23).map (fun i => (i.zero, i.size, i.bytes)) = some (some (.slice none 0 0), 1, 24) := by kernel_rfl

/-- a row: a slice of bytes, with what it holds -/
structure RowV where
  A : Option Addr
  n : Nat
  c : Nat
  b : List UInt8
def RowV.val (r : RowV) : Value := .slice r.A r.n r.c
/-- a list of rows that comes in -/
def RowsIn (w : World) (A : Option Addr) (n : Nat) (l : List RowV) : Prop :=
  l.length = n ∧ (0 < n → ∃ ad, A = some ad ∧ ∀ i r, l[i]? = some r → By w r.A r.n r.b ∧ r.n ≤ r.c ∧ r.c ≤ maxLen ∧ w.cell? (ad.add i) = some r.val)
theorem RowsIn.at {w w' : World} {A : Option Addr} {n i : Nat} {l : List RowV} (h : RowsIn w A n l) (hb : Below w.heap.size w w') (hi : i < n) :
    ∃ ad r, A = some ad ∧ l[i]? = some r ∧ By w' r.A r.n r.b ∧ r.n ≤ r.c ∧ r.c ≤ maxLen ∧ w'.cell? (ad.add i) = some (.slice r.A r.n r.c) := by
  obtain ⟨ad, e, hc⟩ := h.2 (by omega)
  have hl : i < l.length := by rw [h.1]; exact hi
  obtain ⟨h1, h2, h3, h4⟩ := hc i l[i] (List.getElem?_eq_getElem hl)
  exact ⟨ad, l[i], e, List.getElem?_eq_getElem hl, h1.old hb, h2, h3, cell_old hb h4⟩
section
variable {H : Type} {enc : TypeId × Value → H} {w : World} {spare : Nat → Bool} {held : Bool}
theorem rows_of_trod {fuel : Nat} {A : Option Addr} {len cap : Nat} {x : DataW H × List MemPlace} (h : DataW.trod enc Tryd.prog w 0 spare held fuel 22 [.slice A len cap] = some x) :
    ∃ l, RowsIn w A len l ∧ len ≤ cap ∧ cap ≤ maxLen := by
  rcases open_slice Tryd.underlying22 h with ⟨hcs, _⟩ | ⟨a, len', cap', m, n, D, Pl, hcs, _, hl, hm, hmm, _, hi⟩
  · simp at hcs
    obtain ⟨rfl, rfl, rfl⟩ := hcs
    exact ⟨[], ⟨rfl, fun h => absurd h (by omega)⟩, Nat.le_refl _, Nat.zero_le _⟩
  · simp at hcs
    obtain ⟨rfl, rfl, rfl⟩ := hcs
    have hlm : len ≤ m := by rw [hmm]; split <;> omega
    have hv : ∀ i, i < len → ∃ r : RowV, By w r.A r.n r.b ∧ r.n ≤ r.c ∧ r.c ≤ maxLen ∧ w.cell? (a.add i) = some r.val := by
      intro i hil
      obtain ⟨cs', hc, ht⟩ := hi i (by omega)
      rw [show Tryd.prog.cellsOf 23 = 1 by kernel_rfl, Nat.mul_one] at hc
      obtain ⟨A', l', c', rfl⟩ := Go.Joins.slice_form Tryd.underlying23 ht
      obtain ⟨b, h1, h2, h3⟩ := by_of_trod ht
      obtain ⟨_, hcl, hat⟩ := World.cells?_some hc
      refine ⟨⟨A', l', c', b⟩, h1, h2, h3, ?_⟩
      have := hat 0 (by omega)
      simpa [Addr.add, RowV.val] using this
    refine ⟨(List.range len).map (fun i => if hi : i < len then Classical.choose (hv i hi) else ⟨none, 0, 0, []⟩), ⟨by simp, fun _ => ⟨a, rfl, fun i v hiv => ?_⟩⟩, hl, hm⟩
    simp only [List.getElem?_map, Option.map_eq_some_iff] at hiv
    obtain ⟨k, hk, rfl⟩ := hiv
    obtain ⟨hk1, hk2⟩ := List.getElem?_eq_some_iff.1 hk
    simp at hk1 hk2
    subst hk2
    rw [dif_pos hk1]
    exact Classical.choose_spec (hv i hk1)
end

/-- rows of the call's own: each in memory of its own kind, apart from the blocks of S -/
def RowsOk (w : World) (S : List Nat) (rs : List RowV) : Prop :=
  ∀ r ∈ rs, w.ownsRow 0 5 1 (.slice r.A r.n r.c) r.n (r.b.map by8) ∧ ∀ x ∈ bk r.A, ¬ x ∈ S
theorem RowsOk.lt {w : World} {S : List Nat} {rs : List RowV} (h : RowsOk w S rs) : ∀ r ∈ rs, ∀ x ∈ bk r.A, x < w.heap.size := fun r hr x hx => own_lt (h r hr).1 x (by rw [bk_mem]; exact hx)
theorem RowsOk.keep {w w' : World} {S S' T : List Nat} {rs : List RowV} (h : RowsOk w S rs) (hf : Fr T w w') (hT : ∀ r ∈ rs, ∀ x ∈ bk r.A, ¬ x ∈ T) (hS : ∀ x ∈ S', x < w.heap.size → x ∈ S) : RowsOk w' S' rs := by
  intro r hr
  refine ⟨own_keep (h r hr).1 hf (fun x hx => hT r hr x (by rw [bk_mem] at hx; exact hx)), fun x hx hm => ?_⟩
  exact (h r hr).2 x hx (hS x hm (h.lt r hr x hx))
/-- a row of rows shares no block with a row of bytes -/
theorem rows_apart {w : World} {A A' : Option Addr} {n c n' c' : Nat} {xs ys : List Value} (h : w.ownsRow 0 23 1 (.slice A n c) n xs) (h' : w.ownsRow 0 5 1 (.slice A' n' c') n' ys) : ∀ x ∈ bk A, ¬ x ∈ bk A' := by
  intro x hx hm
  rcases h'.2 with ⟨hv, _⟩ | ⟨g', cap, cur, hv, _, hh, _⟩
  · injection hv with hA
    subst hA
    simp [bk] at hm
  · injection hv with hA
    subst hA
    simp [bk] at hm
    subst hm
    exact own_ne h (g := x) (t := 5) (cs := cur) hh (by decide) (by rw [bk_mem]; exact hx)
end Go.Proofs.YtdgbcdmooklciaaDoor

/-! ### ShaRw -/
namespace Go.Proofs.YtdgbcdmooklciaaDoor
set_option maxRecDepth 100000
open Go.RowKit

def encRw (l : List (List UInt8)) : List UInt8 := (l.map fun b => enc b.length ++ b).flatten
theorem encRw_snoc {l : List (List UInt8)} {k : Nat} {b : List UInt8} (h : l[k]? = some b) : encRw (l.take (k + 1)) = encRw (l.take k) ++ (enc b.length ++ b) := by
  unfold encRw
  rw [List.take_add_one, h]
  simp
/-- rows that are there, each in memory that is there -/
def RwsIn (w : World) (A : Option Addr) (n : Nat) (rs : List RowV) : Prop :=
  rs.length = n ∧ (0 < n → ∃ ad, A = some ad ∧ ∀ i r, rs[i]? = some r → w.cell? (ad.add i) = some (.slice r.A r.n r.c)) ∧ (∀ r ∈ rs, By w r.A r.n r.b ∧ r.n ≤ 300 ∧ ∀ x ∈ bk r.A, x < w.heap.size) ∧ n ≤ 8
theorem RwsIn.at {w w' : World} {A : Option Addr} {n i : Nat} {rs : List RowV} (h : RwsIn w A n rs) (hb : Below w.heap.size w w') (hi : i < n) :
    ∃ ad r, A = some ad ∧ rs[i]? = some r ∧ By w' r.A r.n r.b ∧ r.n ≤ 300 ∧ (∀ x ∈ bk r.A, x < w.heap.size) ∧ w'.cell? (ad.add i) = some (.slice r.A r.n r.c) := by
  obtain ⟨ad, e, hc⟩ := h.2.1 (by omega)
  have hl : i < rs.length := by rw [h.1]; exact hi
  obtain ⟨h1, h2, h3⟩ := h.2.2.1 rs[i] (List.getElem_mem hl)
  exact ⟨ad, rs[i], e, List.getElem?_eq_getElem hl, h1.old hb, h2, h3, cell_old hb (hc i rs[i] (List.getElem?_eq_getElem hl))⟩

theorem rws_of_own {w : World} {A : Option Addr} {k c : Nat} {rs : List RowV} (hrl : rs.length = k) (hk : k ≤ 8) (hrn : ∀ r ∈ rs, r.n ≤ 300) (ho : w.ownsRow 0 23 1 (.slice A k c) k (rs.map RowV.val)) (hok : RowsOk w [] rs) : RwsIn w A k rs := by
  refine ⟨hrl, fun h => ?_, fun r hr => ⟨By.of_own (hok r hr).1, hrn r hr, hok.lt r hr⟩, hk⟩
  obtain ⟨gq, cap, hv, _, _⟩ := ho.form h
  injection hv with hA
  subst hA
  exact ⟨_, rfl, fun i r hi => ho.cells (g := gq) rfl i (.slice r.A r.n r.c) (by rw [List.getElem?_map, hi]; rfl)⟩

set_option maxRecDepth 100000 in
set_option maxHeartbeats 8000000 in
theorem sharows_any (A : Option Addr) (n c : Nat) (rs : List RowV) (w : World) (hr : RwsIn w A n rs) (hK : KW w) :
    Calls Tryd.prog 9 #[.slice A n c] w fun e w' => e = .returned (.agg ((sumL (enc n ++ encRw (rs.map (·.b)))).map by8).toArray) ∧ Fr [] w w' := by
  have HR := Lib.hid hr
  have HK := Lib.hid hK
  have hn8 := hr.2.2.2
  obtain ⟨w0, hw0⟩ : ∃ w0, w0 = w.alloc (Obj.cells zeroH 26) := ⟨_, rfl⟩
  have hf0 : Fr [] w w0 := by rw [hw0]; exact (Fr.refl [] w).alloc _
  have hb0 : Blk w0 w.heap.size 26 zeroH := by rw [hw0]; exact Blk.new _ _ _
  have hs0 : w0.heap.size = w.heap.size + 1 := by rw [hw0]; simp
  have HF0 := Lib.hid hf0
  have HB0 := Lib.hid hb0
  have HS0 := Lib.hid hs0
  have HW0 := Lib.hid hw0
  clear hr hK hw0 hf0 hb0 hs0
  go_enter Tryd.func9, Tryd.ntmps9
  go_upto_region 1 with (fail)
  change Code.wp _ _ _ _ (w.alloc (Obj.cells zeroH 26))
  rw [← HW0.out]
  generalize hg2 : w.heap.size = g2 at *
  have HG2 := Lib.hid hg2
  clear hg2
  go_wp2_with fail
  refine (newWriter_any _).mono ?_
  rintro e w1 ⟨rfl, hw1, hf1⟩
  have HW1 := Lib.hid hw1
  have HF1 := Lib.hid hf1
  clear hw1 hf1
  go_wp2_with fail
  refine (int_nat n (by omega) w1 _ _ _ HW1.out (by simp)).mono ?_
  rintro e w2 ⟨rfl, S2, hw2, hf2, hs2⟩
  have hgw : w0.heap.size = g2 + 1 := HS0.out
  have HW2 : Hid (Wr w2 S2 (g2 + 1) (enc n)) := Lib.hid (by rw [← hgw]; simpa using hw2)
  have hb2 : Blk w2 g2 26 zeroH := (HB0.out.keep HF1.out (by simp)).keep hf2 (by simp; omega)
  have HB2 := Lib.hid hb2
  have HSS : Hid (∀ y ∈ S2, g2 < y) := Lib.hid (fun y hy => by
    by_cases hl : y < w1.heap.size
    · have := hs2 y hy hl; simp at this; omega
    · have := HF1.out.size; omega)
  have HF2 : Hid (Fr [] w w2) := Lib.hid ((HF0.out.and HF1.out (by simp)).and hf2 (by simp; have := HG2.out; omega))
  have HEN := Lib.hid (show (enc n).length ≤ 10 by have := enc_ten (m := n) (by omega); omega)
  clear hw2 hf2 hs2 hb2
  rw [hgw]
  have HGW := Lib.hid hgw
  clear hgw
  go_wp2
  go_loopw [12] (fun i wr => ∃ (k : Nat) (S : List Nat) (L : List UInt8), k ≤ n ∧ i = .int .i64 k ∧ L = enc n ++ encRw ((rs.map (·.b)).take k) ∧ L.length ≤ 10 + 320 * k ∧ Wr wr S (g2 + 1) L ∧ (∀ y ∈ S, g2 < y) ∧ Blk wr g2 26 zeroH ∧ Fr [] w wr) (fun i _ => n - (intOf i).toNat)
  case atStart => exact ⟨0, S2, enc n, by omega, rfl, by simp [encRw], by have := HEN.out; omega, HW2.out, HSS.out, HB2.out, HF2.out⟩
  case round =>
    obtain ⟨k, S, L, hk, rfl, hL, hLl, hw, hS, hb, hf⟩ := hrel
    have HL := Lib.hid hL
    have HLL := Lib.hid hLl
    have HW := Lib.hid hw
    have HS := Lib.hid hS
    have HB := Lib.hid hb
    have HF := Lib.hid hf
    clear hL hLl hw hS hb hf HW2 HSS HB2 HF2
    by_cases hlt : k < n
    · obtain ⟨ad, r, rfl, hg, hy, hrc, hrm, hcell⟩ := HR.out.at HF.out.below_all hlt
      have hrn := hrc
      have hrb := hrm
      have hL1 : L ++ (enc r.n ++ r.b) = enc n ++ encRw ((rs.map (·.b)).take (k + 1)) := by
        rw [encRw_snoc (b := r.b) (by rw [List.getElem?_map, hg]; rfl), HL.out, hy.1, List.append_assoc]
      have hl1 : (L ++ (enc r.n ++ r.b)).length ≤ 10 + 320 * (k + 1) := by
        have h1 := enc_ten (m := r.n) (by omega)
        have h2 := HLL.out
        have h3 := hy.1
        simp only [List.length_append]
        omega
      have HL1 := Lib.hid hL1
      have Hl1 := Lib.hid hl1
      have HY := Lib.hid hy
      have HRB : Hid (∀ y ∈ bk r.A, ¬ y ∈ S) := Lib.hid (fun y hy hm => by have h1 := hrb y hy; have h2 := HS.out y hm; have := HG2.out; omega)
      have hk0 : (0 : Int) ≤ k := by omega
      clear hg hy hrc hrm hrb hL1 hl1
      go_wp2_with fail
      refine (row_any r.A r.n r.c r.b wr HY.out (by omega) S HRB.out (g2 + 1) L HW.out (by have := HLL.out; omega)).mono ?_
      rintro e w3 ⟨rfl, S3, hw3, hf3, hs3⟩
      have HW3 := Lib.hid hw3
      have HS3 : Hid (∀ y ∈ S3, g2 < y) := Lib.hid (fun y hy => by
        by_cases hl : y < wr.heap.size
        · exact HS.out y (hs3 y hy hl)
        · have := HB.out.lt; omega)
      have HB3 := Lib.hid (HB.out.keep hf3 (fun hm => by have := HS.out _ hm; omega))
      have HF3 := Lib.hid (HF.out.and hf3 (fun y hy => by have := HS.out y hy; have := HG2.out; omega))
      clear hw3 hf3 hs3
      go_wp2
      go_roundw
      case rel => exact ⟨k + 1, S3, _, by omega, by go_num, HL1.out, Hl1.out, HW3.out, HS3.out, HB3.out, HF3.out⟩
      case measure => simp [intOf]; omega
    · have hkn : k = n := by omega
      have HLE : Hid (L = enc n ++ encRw (rs.map (·.b))) := Lib.hid (by
        have h := HL.out
        rw [hkn, List.take_of_length_le (by rw [List.length_map, HR.out.1]; omega)] at h
        exact h)
      have hd : decide (k < n) = false := by simp; omega
      clear hkn hlt
      go_wp2_with fail
      refine (bytes_any wr S (g2 + 1) L HW.out (by have := HLL.out; omega)).mono ?_
      rintro e w4 ⟨A4, c4, rfl, hN⟩
      have HN := Lib.hid hN
      have HB4 := Lib.hid (HB.out.keep hN.2.1 (by simp))
      have HF4 := Lib.hid (HF.out.and hN.2.1 (by simp))
      clear hN
      go_wp2_with fail
      refine (sum_any A4 L.length c4 L w4 HN.out.by HN.out.cap (by have := HLL.out; omega) (HK.out.keep HF4.out (by simp))).mono ?_
      rintro e w5 ⟨rfl, hf5⟩
      have HB5 := Lib.hid (HB4.out.keep hf5 (by simp))
      have HF5 := Lib.hid (HF4.out.and hf5 (by simp))
      have hsz : (((sumL L).map by8).toArray).size = 32 := by simp [sumL_len]
      have hone : ((((sumL L).map by8).toArray).all (·.oneCell')) = true := by
        rw [Array.all_eq_true_iff_forall_mem]
        intro u hu
        exact by8_one (sumL L) u (by simpa using hu)
      have HHM : Hid (((sumL L).map by8).toArray = ((sumL (enc n ++ encRw (rs.map (·.b)))).map by8).toArray) := Lib.hid (by rw [HLE.out])
      have HSZ := Lib.hid hsz
      have HONE := Lib.hid hone
      clear hsz hone hf5
      generalize ((sumL L).map by8).toArray = H at *
      go_wp2_with (first
        | (refine wpList_store_row rfl 26 _ _ rfl g2 H rfl rfl 26 zeroH HB5.out (by rw [hash_sizeS, HSZ.out]) (by rw [HSZ.out, zeroH_size]) HONE.out ?_))
      have hgr := setRow_blk HB5.out H
      refine bodyPost_ret (v := .agg H) (results_cell_row Tryd.results9 _ _ g2 26 H _ _ rfl hgr Tryd.underlying26 rfl (by rw [hash_sizeS, HSZ.out])) rfl ⟨by rw [HHM.out], ?_⟩
      exact HF5.out.trans (setRow_fr _ g2 H) (fun y hy hl => by have := HG2.out; simp at hy; omega)
end Go.Proofs.YtdgbcdmooklciaaDoor

/-! ### LawW -/
namespace Go.Proofs.YtdgbcdmooklciaaDoor
open Go.RowKit
set_option maxRecDepth 100000

def zeroCe : Array Value := (Wce.cells ⟨⟨0, 0, List.replicate 32 0, 0, 0, 0⟩, none, 0, 0, []⟩).toArray
theorem set_last (K : List Value) (hK : K.length = 37) (u v : Value) : (K ++ [u]).toArray.setIfInBounds 37 v = (K ++ [v]).toArray := by
  rw [List.setIfInBounds_toArray, List.set_append_right _ _ (by omega), hK]
  rfl
set_option maxHeartbeats 1000000 in
theorem certCut_any (k : Wcm) (hk : k.Ok) (A : Option Addr) (n d : Nat) (l : List Wst) (w : World) (hl : Lst 38 Wst.cells (fun _ v => v.Ok) w A n l) (hn : n ≤ maxLen) (hd : n ≤ d) :
    Calls Tryd.prog 23 #[.agg (k.cells ++ [Value.slice A n d]).toArray] w fun e w' => ∃ A' d', e = .returned (.agg (k.cells ++ [Value.slice A' (l.take 5).length d']).toArray) ∧ NewL 79 38 Wst.cells w w' A' (l.take 5).length d' (l.take 5) := by
  obtain ⟨wa, hwa⟩ : ∃ wa, wa = (w.alloc (Obj.cells (k.cells ++ [Value.slice A n d]).toArray 59)).alloc (Obj.cells zeroCe 59) := ⟨_, rfl⟩
  have hf0 : Fr [] w wa := by rw [hwa]; exact ((Fr.refl [] w).alloc _).alloc _
  have hb0 : Blk wa w.heap.size 59 (k.cells ++ [Value.slice A n d]).toArray := by rw [hwa]; exact blk_alloc (Blk.new _ _ _)
  have hb1 : Blk wa (w.heap.size + 1) 59 zeroCe := by
    have := Blk.new (w.alloc (Obj.cells (k.cells ++ [Value.slice A n d]).toArray 59)) 59 zeroCe
    rw [hwa]
    simpa using this
  have hK : k.cells.length = 37 := Wcm.len hk.h
  have hone := Wcm.one k
  have hc : wa.cell? ⟨w.heap.size, 37, none⟩ = some (.slice A n d) := by
    have := hb0.range 37 (.slice A n d) (by rw [List.getElem?_append_right (by omega), hK]; rfl)
    simpa using this
  have HB0 := Lib.hid hb0
  have HB1 := Lib.hid hb1
  have HC := Lib.hid hc
  have HF0 := Lib.hid hf0
  have HWA := Lib.hid hwa
  have HX := Lib.hid hl
  have HK := Lib.hid hK
  have HONE := Lib.hid hone
  have HSZ : Hid (w.heap.size + 2 ≤ wa.heap.size) := Lib.hid (by have := hb1.lt; omega)
  clear hwa hf0 hb0 hb1 hc hl hK hone hk
  generalize k.cells = K at *
  go_enter Tryd.func23, Tryd.ntmps23
  go_upto_region 1 with (fail)
  change Code.wp _ _ _ _ ((w.alloc (Obj.cells (K ++ [Value.slice A n d]).toArray 59)).alloc (Obj.cells zeroCe 59))
  rw [← HWA.out]
  have hc := HC.out
  go_wp2_with fail
  refine (cutStamps_any A n d 5 l wa (HX.out.keep' HF0.out (by simp) (fun _ _ h => h)) hn hd (by decide)).mono ?_
  rintro e w1 ⟨A1, d1, rfl, hN⟩
  have hb2 := HB0.out.keep hN.2.1 (by simp)
  have hc2 := hN.2.1.cell hc (by simp)
  have HB1' := Lib.hid (HB1.out.keep hN.2.1 (by simp))
  have HN := Lib.hid hN
  have HS1 := Lib.hid (show w.heap.size + 2 ≤ w1.heap.size from Nat.le_trans HSZ.out hN.2.1.size)
  have HSET := Lib.hid (set_last K HK.out (Value.slice A n d) (Value.slice A1 (l.take 5).length d1))
  have HW2 := Lib.hid (hb2.set 37 (Value.slice A1 (l.take 5).length d1))
  have hz := hb2.frozen 37
  clear hc hN HB0 HB1
  generalize hm : (l.take 5).length = m at *
  have HM := Lib.hid hm
  clear hm
  have HSZ2 : Hid ((Tryd.prog.info? 59).map (·.size) = some (K ++ [Value.slice A1 m d1]).toArray.size) := Lib.hid (by rw [show (K ++ [Value.slice A1 m d1]).toArray.size = 38 by simp [HK.out]]; kernel_rfl)
  have HZC : Hid (zeroCe.size = (K ++ [Value.slice A1 m d1]).toArray.size) := Lib.hid (by rw [show (K ++ [Value.slice A1 m d1]).toArray.size = 38 by simp [HK.out]]; rfl)
  have HALL : Hid ((K ++ [Value.slice A1 m d1]).toArray.all (·.oneCell') = true) := Lib.hid (all_oneCell_toArray (by intro u hu; rcases List.mem_append.1 hu with h | h; exact HONE.out u h; rw [List.mem_singleton.1 h]; rfl))
  have hf2 : Fr [w.heap.size] w1 (w1.setCell ⟨w.heap.size, 37, none⟩ (Value.slice A1 m d1)) := (Fr.refl _ w1).setCell ⟨w.heap.size, 37, none⟩ (fun _ => by simp) (Value.slice A1 m d1)
  have HB1S := Lib.hid (HB1'.out.keep hf2 (by simp))
  have HF2 := Lib.hid hf2
  clear hf2
  go_wp2_with (first
    | (refine wpList_load_row rfl 59 _ rfl w.heap.size rfl 59 (K ++ [Value.slice A1 m d1]).toArray _ _ (by have := HW2.out; rw [HSET.out] at this; exact this) Tryd.underlying59 rfl HSZ2.out ?_)
    | (refine wpList_store_blk rfl 59 _ _ rfl (w.heap.size + 1) (K ++ [Value.slice A1 m d1]).toArray rfl rfl 59 zeroCe HB1S.out HSZ2.out HZC.out HALL.out ?_
       intro w3 hb3 hf3
       have HB3 := Lib.hid hb3
       have HF3 := Lib.hid hf3
       clear hb3 hf3))
  have HFa : Fr [w.heap.size, w.heap.size + 1] w1 w3 := (HF2.out.mono (by intro k hk _; simp at hk; simp [hk])).trans HF3.out (by intro k hk _; simp at hk; simp [hk])
  refine bodyPost_ret (v := .agg (K ++ [Value.slice A1 m d1]).toArray) (results_cell_row Tryd.results23 _ _ (w.heap.size + 1) 59 (K ++ [Value.slice A1 m d1]).toArray _ _ rfl HB3.out Tryd.underlying59 rfl HSZ2.out) rfl ⟨A1, d1, by rw [HM.out], ?_⟩
  rw [HM.out]
  refine ⟨own_keep HN.out.1 HFa (fun k hk hin => ?_), (HF0.out.and HN.out.2.1 (by simp)).and HFa (fun k hk => by simp at hk; omega), fun k hk => Nat.le_trans HF0.out.size (HN.out.2.2 k hk)⟩
  have h1 := HN.out.2.2 k ((bk_mem A1 m d1 k).1 hk)
  have h2 := HSZ.out
  simp at hin
  omega

theorem wpList_append_one2 {P : Program} {ops : Array Oper} {rest : List Oper} {o : Oper} {a : Act} {w : World} {Q : Exit → Act → World → Prop} (hg : o.guard = none) (s x : Operand) (t e : TypeId)
    (ho : o.op = .call { callee := .builtin .append, args := #[s, x], argTypes := #[t, t] }) (ht : P.underlying t = some (.slice e)) (k bytes : Nat) (he : ElTy P e k bytes) (hk : 0 < k)
    (base : Nat) (v : Value) (n : Nat) (xs cs : List Value) (hs : a.eval s = v) (hown : w.ownsRow base e k v n xs) (hbase : base ≤ w.heap.size) (hcl : cs.length = k) (h1 : ∀ u ∈ cs, u.oneCell' = true)
    (g : Nat) (t' : TypeId) (hx : a.eval x = .slice (some ⟨g, 0, none⟩) 1 1) (hb : Blk w g t' cs.toArray) (hn : n < 1000000) (hby : bytes ≤ 1000)
    (h : ∀ A c w', w'.ownsRow base e k (.slice A (n + 1) c) (n + 1) (xs ++ cs) → Fr v.ownBlock.toList w w' → ((Value.slice A (n + 1) c).ownBlock = v.ownBlock ∨ (Value.slice A (n + 1) c).ownBlock = some w.heap.size) → wpList P ops Q rest (a.put o.dst (.slice A (n + 1) c)) w') : wpList P ops Q (o :: rest) a w := by
  obtain ⟨i, z, hi, hz, hzs, hsz, hbs⟩ := he
  refine wpList_append_lies w hg s x t ho base e i z k bytes ht hi hz hsz hbs hzs hk v n xs hs hown ⟨g, 0, none⟩ 1 1 cs hx (by omega) (fun j u hu => ?_) h1 (by omega) (by simp only [maxLen]; omega)
    (Nat.le_trans (Nat.mul_le_mul (show n + 1 ≤ 1000000 by omega) hby) (by decide)) hbase _ rfl (fun g' cap w' h2 h3 h4 _ => ?_)
  · have hadd : (⟨g, 0, none⟩ : Addr).add j = ⟨g, j, none⟩ := by unfold Addr.add; split <;> simp_all
    rw [hadd, hb.cell j]
    simpa using hu
  · exact h _ _ w' h2 ((Fr.refl _ w).grown h3 (fun y hy _ => by simp [hy])) (h4.imp (fun e => e.symm) (fun e => by rw [e]; rfl))
theorem el_cert : ElTy Tryd.prog 59 38 96 := ElTy.of (by kernel_rfl)
/-- ys are xs, each with five stamps at most -/
def Small (ys xs : List Wce) : Prop := ys.map (fun y => (y.k, y.l)) = xs.map (fun x => (x.k, x.l.take 5))
def zeroPr : Array Value := (Wpr.cells ⟨0, 0, 0, none, 0, 0, [], 0, 0⟩).toArray
/-- a certificate that comes in: it lies in w, with any number of stamps -/
structure Wce.In (w : World) (x : Wce) : Prop where
  k : x.k.Ok
  l : Lst 38 Wst.cells (fun _ v => v.Ok) w x.A x.n x.l
  n : x.n ≤ maxLen
  d : x.n ≤ x.d
theorem Wce.In.keep {w w' : World} {x : Wce} (h : x.In w) (hf : Fr [] w w') : x.In w' := ⟨h.k, h.l.keep' hf (by simp) (fun _ _ h => h), h.n, h.d⟩
set_option maxHeartbeats 2000000 in
theorem promiseCut_any (x : Wpr) (w : World) (h1 : i64In x.r) (h2 : i64In x.e) (h3 : x.t < 18446744073709551616) (h4 : i64In x.b) (h5 : i64In x.m) (hl : Lst 38 Wce.cells (fun w v => v.In w) w x.A x.n x.l) (hn : x.n ≤ maxLen) :
    Calls Tryd.prog 24 #[.agg x.cells.toArray] w fun e w' => ∃ A' d' ys, e = .returned (.agg (Wpr.cells ⟨x.r, x.e, x.t, A', (x.l.take 3).length, d', ys, x.b, x.m⟩).toArray) ∧
      (∀ S0 : List Nat, (∀ k ∈ S0, k < w.heap.size) → (⟨x.r, x.e, x.t, A', (x.l.take 3).length, d', ys, x.b, x.m⟩ : Wpr).Ok w' S0) ∧ Small ys (x.l.take 3) ∧ Fr [] w w' := by
  obtain ⟨wa, hwa⟩ : ∃ wa, wa = (w.alloc (Obj.cells x.cells.toArray 62)).alloc (Obj.cells zeroPr 62) := ⟨_, rfl⟩
  have hf0 : Fr [] w wa := by rw [hwa]; exact ((Fr.refl [] w).alloc _).alloc _
  have hb0 : Blk wa w.heap.size 62 x.cells.toArray := by rw [hwa]; exact blk_alloc (Blk.new _ _ _)
  have hb1 : Blk wa (w.heap.size + 1) 62 zeroPr := by
    have := Blk.new (w.alloc (Obj.cells x.cells.toArray 62)) 62 zeroPr
    rw [hwa]
    simpa using this
  have hc : wa.cell? ⟨w.heap.size, 3, none⟩ = some (.slice x.A x.n x.d) := by
    have := hb0.range (cs := x.cells) 3 (.slice x.A x.n x.d) rfl
    simpa using this
  have HB0 := Lib.hid hb0
  have HB1 := Lib.hid hb1
  have HC := Lib.hid hc
  have HF0 := Lib.hid hf0
  have HWA := Lib.hid hwa
  have HX := Lib.hid hl
  have H1 := Lib.hid h1
  have H2 := Lib.hid h2
  have H3 := Lib.hid h3
  have H4 := Lib.hid h4
  have H5 := Lib.hid h5
  have HSZ : Hid (w.heap.size + 2 ≤ wa.heap.size) := Lib.hid (by have := hb1.lt; omega)
  have hxn := hl.1
  clear hwa hf0 hb0 hb1 hc hl h1 h2 h3 h4 h5
  obtain ⟨n, hn'⟩ : ∃ n, n = x.n := ⟨_, rfl⟩
  rw [← hn'] at hn hxn
  unfold maxLen at hn
  go_enter Tryd.func24, Tryd.ntmps24
  go_upto_region 1 with (fail)
  change Code.wp _ _ _ _ ((w.alloc (Obj.cells x.cells.toArray 62)).alloc (Obj.cells zeroPr 62))
  rw [← HWA.out]
  go_wp2_with fail
  go_loopw [3, 4] (fun s i wr => ∃ (k : Nat) (A4 : Option Addr) (c4 : Nat) (ys : List Wce), k ≤ n ∧ k ≤ 3 ∧ i = .int .i64 k ∧ s = .slice A4 k c4 ∧ Hid (Small ys (x.l.take k)) ∧ Hid (wr.ownsRow wa.heap.size 59 38 (.slice A4 k c4) k (ys.flatMap Wce.cells)) ∧
      Hid (∀ y ∈ ys, y.Ok wr [] ∧ ∀ a, y.A = some a → a.block < wr.heap.size ∧ wa.heap.size ≤ a.block ∧ ∀ g, (Value.slice A4 k c4).ownBlock = some g → a.block ≠ g) ∧ Hid (Fr [] wa wr)) (fun _ i _ => 3 - (intOf i).toNat)
  case atStart => exact ⟨0, none, 0, [], by omega, by omega, rfl, rfl, Lib.hid (by simp [Small]), Lib.hid ⟨by simp, .inl ⟨rfl, rfl⟩⟩, Lib.hid (by simp), Lib.hid (Fr.refl _ _)⟩
  case round =>
    obtain ⟨k, A4, c4, ys, hk, hk3, rfl, rfl, HSM, HO, HYS, HF⟩ := hrel
    have hc := HF.out.cell HC.out (by simp)
    by_cases hlt : k < n
    · by_cases hlt3 : k < 3
      · obtain ⟨ad, v, hA, hv, hcl, hok, hcells⟩ := HX.out.at (i := k) (by omega)
        rw [← hn', hA] at hc
        have hcells' : ∀ j u, v.cells[j]? = some u → wr.cell? ((ad.add (k * 38)).add j) = some u := fun j u hj => HF.out.cell (HF0.out.cell (hcells j u hj) (by simp)) (by simp)
        have HCELLS := Lib.hid hcells'
        have HCL := Lib.hid hcl
        have HIN := Lib.hid ((hok.keep HF0.out).keep HF.out)
        have HV := Lib.hid hv
        have hk0 : (0 : Int) ≤ k := by omega
        have HONE := Lib.hid (Wce.one v)
        clear hcells hcells' hcl hok hv
        have hcv : v.cells = v.k.cells ++ [Value.slice v.A v.n v.d] := rfl
        have HCV := Lib.hid hcv
        clear hcv
        generalize v.cells = C at *
        go_wp2_with (first | (refine wpList_cells rfl 59 _ rfl _ rfl C HCELLS.out (row_crt.of HCL.out) ?_))
        rw [HCV.out]
        refine (certCut_any v.k HIN.out.k v.A v.n v.d v.l wr HIN.out.l HIN.out.n HIN.out.d).mono ?_
        rintro e w1 ⟨A1, d1, rfl, hN⟩
        generalize hm : (v.l.take 5).length = m at *
        have HM := Lib.hid hm
        have hm5 : m ≤ 5 := by rw [← hm, List.length_take]; omega
        have HM5 := Lib.hid hm5
        have HN := Lib.hid hN
        have hD : (v.k.cells ++ [Value.slice A1 m d1]).length = 38 := by simp [Wcm.len HIN.out.k.h]
        have hD1 : ∀ u ∈ v.k.cells ++ [Value.slice A1 m d1], u.oneCell' = true := by
          intro u hu
          rcases List.mem_append.1 hu with h | h
          · exact Wcm.one v.k u h
          · rw [List.mem_singleton.1 h]; rfl
        have hDY : (⟨v.k, A1, m, d1, v.l.take 5⟩ : Wce).cells = v.k.cells ++ [Value.slice A1 m d1] := rfl
        generalize v.k.cells ++ [Value.slice A1 m d1] = D at *
        have HD := Lib.hid hD
        have HD1 := Lib.hid hD1
        have HDY := Lib.hid hDY
        have HO1 := Lib.hid (own_keep HO.out HN.out.2.1 (by simp))
        have HF1 := Lib.hid (HF.out.and HN.out.2.1 (by simp))
        have HLT := Lib.hid (own_lt HO.out)
        clear hN hm hm5 hD hD1 hDY HO hc
        go_wp2_with (first | (refine wpList_build_one rfl 60 59 _ rfl Tryd.underlying60 D 96 (by rw [HD.out]; exact el_cert) rfl (by rw [HD.out]; decide) (by rw [HD.out]; decide) ?_) | (at_builtin; refine Stop.mk ?_))
        refine Stop.go ?_
        refine wpList_append_one2 rfl _ _ 60 59 rfl Tryd.underlying60 38 96 el_cert (by decide) wa.heap.size (.slice A4 k c4) k _ D rfl (HO1.out.alloc _) (by have := HF1.out.size; simp; omega) HD.out HD1.out w1.heap.size 59 rfl (Blk.new _ _ _) (by omega) (by decide) ?_
        intro A9 c9 w9 ho9 hf9 hb9
        have HO9 := Lib.hid ho9
        have HF9 := Lib.hid hf9
        have HB9 := Lib.hid hb9
        clear ho9 hf9 hb9
        go_wp2
        go_roundw
        case rel =>
          refine ⟨k + 1, A9, c9, ys ++ [⟨v.k, A1, m, d1, v.l.take 5⟩], by omega, by omega, by go_num, rfl, ?_, ?_, ?_, ?_⟩
          · have e1 : x.l.take (k + 1) = x.l.take k ++ [v] := by rw [List.take_add_one, HV.out]; rfl
            have h := HSM.out
            refine Lib.hid ?_
            rw [e1]
            unfold Small at *
            rw [List.map_append, List.map_append, h]
            rfl
          · refine Lib.hid ?_
            rw [List.flatMap_append, List.flatMap_singleton, HDY.out]
            exact HO9.out
          · refine Lib.hid (fun y hy => ?_)
            have hfS : Fr (Value.slice A4 k c4).ownBlock.toList wr w9 := ((HN.out.2.1.alloc _).mono (T := (Value.slice A4 k c4).ownBlock.toList) (by simp)).trans HF9.out (fun y hy _ => hy)
            have hsz : (w1.alloc (Obj.cells D.toArray 59)).heap.size = w1.heap.size + 1 := by simp
            have hs1 := HN.out.2.1.size
            have hs9 := HF9.out.size
            rcases List.mem_append.1 hy with hy | hy
            · obtain ⟨hok, hbl⟩ := HYS.out y hy
              have hok2 : y.Ok wr (Value.slice A4 k c4).ownBlock.toList := ⟨hok.k, hok.l, hok.n, fun hn a ha hin => (hbl a ha).2.2 a.block (by simpa using hin) rfl⟩
              refine ⟨hok2.keep hfS (by simp), fun a ha => ⟨by have := (hbl a ha).1; omega, (hbl a ha).2.1, fun g hg => ?_⟩⟩
              rcases HB9.out with h | h
              · exact (hbl a ha).2.2 g (by rw [← h]; exact hg)
              · rw [h] at hg
                injection hg with hg
                have := (hbl a ha).1
                omega
            · rw [List.mem_singleton.1 hy]
              have hge : ∀ a, A1 = some a → wr.heap.size ≤ a.block := fun a ha => HN.out.2.2 a.block (by rw [ha]; simp [bk])
              have hlt : ∀ a, A1 = some a → a.block < w1.heap.size := fun a ha => own_lt HN.out.1 a.block (by rw [bk_mem, ha]; simp [bk])
              have hl1 : Lst 38 Wst.cells (fun _ v => v.Ok) w1 A1 m (v.l.take 5) := Lst.of_own HN.out.1 HM.out (fun u hu => HIN.out.l.2.1 u (List.mem_of_mem_take hu))
              refine ⟨⟨HIN.out.k, hl1.keep' (S := (Value.slice A4 k c4).ownBlock.toList) ((((Fr.refl [] w1).alloc _).mono (by simp)).trans HF9.out (fun y hy _ => hy)) (fun _ a ha hin => ?_) (fun _ _ h => h), HM5.out, by simp⟩, fun a ha => ⟨by have := hlt a ha; omega, by have := hge a ha; have := HF.out.size; omega, fun g hg => ?_⟩⟩
              · have := HLT.out a.block (by simpa using hin)
                have := hge a ha
                omega
              · rcases HB9.out with h | h
                · have := HLT.out g (by rw [← h]; exact hg)
                  have := hge a ha
                  omega
                · rw [h] at hg
                  injection hg with hg
                  have := hlt a ha
                  omega
          · exact Lib.hid ((HF1.out.alloc _).and HF9.out (fun y hy => (HO1.out.lt y (by simpa using hy)).1))
        case measure => simp [intOf]; omega
      · -- three are there
        have hbx := HB0.out.keep HF.out (by simp)
        have hz := hbx.frozen 3
        have HKL : Hid ((x.l.take 3).length = k) := Lib.hid (by rw [List.length_take]; omega)
        have HTK : Hid (x.l.take k = x.l.take 3) := Lib.hid (by rcases Nat.lt_or_ge k 3 with h | h; · rw [List.take_of_length_le (by omega), List.take_of_length_le (by omega)]
                                                                · rw [show k = 3 by omega])
        have hset : x.cells.toArray.setIfInBounds 3 (Value.slice A4 k c4) = (Wpr.cells ⟨x.r, x.e, x.t, A4, k, c4, ys, x.b, x.m⟩).toArray := rfl
        have HW2 := Lib.hid (hset ▸ hbx.set 3 (Value.slice A4 k c4))
        have hf2 : Fr [w.heap.size] wr (wr.setCell ⟨w.heap.size, 3, none⟩ (Value.slice A4 k c4)) := (Fr.refl _ wr).setCell ⟨w.heap.size, 3, none⟩ (fun _ => by simp) (Value.slice A4 k c4)
        have HB1S := Lib.hid ((HB1.out.keep HF.out (by simp)).keep hf2 (by simp))
        have HF2 := Lib.hid hf2
        have HCS : Hid ((Wpr.cells ⟨x.r, x.e, x.t, A4, k, c4, ys, x.b, x.m⟩).toArray = (Wpr.cells ⟨x.r, x.e, x.t, A4, k, c4, ys, x.b, x.m⟩).toArray) := Lib.hid rfl
        have HZS : Hid ((Tryd.prog.info? 62).map (·.size) = some (Wpr.cells ⟨x.r, x.e, x.t, A4, k, c4, ys, x.b, x.m⟩).toArray.size) := Lib.hid (by kernel_rfl)
        have HAL : Hid ((Wpr.cells ⟨x.r, x.e, x.t, A4, k, c4, ys, x.b, x.m⟩).toArray.all (·.oneCell') = true) := Lib.hid (all_oneCell_toArray (Wpr.one _))
        have HZP : Hid (zeroPr.size = (Wpr.cells ⟨x.r, x.e, x.t, A4, k, c4, ys, x.b, x.m⟩).toArray.size) := Lib.hid rfl
        generalize hcc : (Wpr.cells ⟨x.r, x.e, x.t, A4, k, c4, ys, x.b, x.m⟩).toArray = CC at *
        have HCC := Lib.hid hcc
        have hc := hc
        rw [← hn'] at hc
        clear hcc hset hf2 hbx
        go_wp2_with (first
          | (refine wpList_load_row rfl 62 _ rfl w.heap.size rfl 62 CC _ _ HW2.out Tryd.underlying62 rfl HZS.out ?_)
          | (refine wpList_store_blk rfl 62 _ _ rfl (w.heap.size + 1) CC rfl rfl 62 zeroPr HB1S.out HZS.out HZP.out HAL.out ?_
             intro w3 hb3 hf3
             have HB3 := Lib.hid hb3
             have HF3 := Lib.hid hf3
             clear hb3 hf3))
        have hkm : min 3 x.n = k := by omega
        rw [hkm]
        have hyl : ys.length = k := by
          have := congrArg List.length HSM.out
          simp at this
          omega
        have HFa : Fr [w.heap.size, w.heap.size + 1] wr w3 := (HF2.out.mono (by intro k hk _; simp at hk; simp [hk])).trans HF3.out (by intro k hk _; simp at hk; simp [hk])
        have hsz := HSZ.out
        refine bodyPost_ret (v := .agg CC) (results_cell_row Tryd.results24 _ _ (w.heap.size + 1) 62 CC _ _ rfl HB3.out Tryd.underlying62 rfl HZS.out) rfl ⟨A4, c4, ys, by rw [HCC.out], fun S0 hS0 => ⟨H1.out, H2.out, H3.out, ?_, by show k ≤ 3; omega, fun _ a ha hin => ?_, H4.out, H5.out⟩, HTK.out ▸ HSM.out, (HF0.out.and HF.out (by simp)).and HFa (fun k hk => by simp at hk; omega)⟩
        · have hlw : Lst 38 Wce.cells (fun w v => v.Ok w S0) wr A4 k ys := Lst.of_own HO.out hyl (fun y hy => ⟨Wce.len (HYS.out y hy).1.k.h, (HYS.out y hy).1.k, (HYS.out y hy).1.l, (HYS.out y hy).1.n, fun hn a ha hin => by
            have h1 := ((HYS.out y hy).2 a ha).2.1
            have h2 := hS0 _ hin
            omega⟩)
          refine hlw.keep' HFa (fun _ a ha hin => ?_) (fun y hy hok => ?_)
          · have := (HO.out.lt a.block (by rw [bk_mem, ha]; simp [bk])).1
            simp at hin
            omega
          · have hok2 : y.Ok wr (w.heap.size :: (w.heap.size + 1) :: S0) := ⟨hok.k, hok.l, hok.n, fun hn a ha hin => by
              have h1 := ((HYS.out y hy).2 a ha).2.1
              simp only [List.mem_cons] at hin
              rcases hin with h | h | h
              · omega
              · omega
              · have h2 := hS0 _ h
                omega⟩
            exact hok2.keep (HFa.mono (by intro k hk _; simp at hk; rcases hk with rfl | rfl <;> simp)) (fun k hk _ => by simp [hk])
        · have ha : A4 = some a := ha
          have h1 := (HO.out.lt a.block (by rw [bk_mem, ha]; simp [bk])).1
          have h2 := hS0 _ hin
          omega
    · -- no more are there
      have hbx := HB0.out.keep HF.out (by simp)
      have hz := hbx.frozen 3
      have HKL : Hid ((x.l.take 3).length = k) := Lib.hid (by rw [List.length_take]; omega)
      have HTK : Hid (x.l.take k = x.l.take 3) := Lib.hid (by rcases Nat.lt_or_ge k 3 with h | h; · rw [List.take_of_length_le (by omega), List.take_of_length_le (by omega)]
                                                              · rw [show k = 3 by omega])
      have hset : x.cells.toArray.setIfInBounds 3 (Value.slice A4 k c4) = (Wpr.cells ⟨x.r, x.e, x.t, A4, k, c4, ys, x.b, x.m⟩).toArray := rfl
      have HW2 := Lib.hid (hset ▸ hbx.set 3 (Value.slice A4 k c4))
      have hf2 : Fr [w.heap.size] wr (wr.setCell ⟨w.heap.size, 3, none⟩ (Value.slice A4 k c4)) := (Fr.refl _ wr).setCell ⟨w.heap.size, 3, none⟩ (fun _ => by simp) (Value.slice A4 k c4)
      have HB1S := Lib.hid ((HB1.out.keep HF.out (by simp)).keep hf2 (by simp))
      have HF2 := Lib.hid hf2
      have HCS : Hid ((Wpr.cells ⟨x.r, x.e, x.t, A4, k, c4, ys, x.b, x.m⟩).toArray = (Wpr.cells ⟨x.r, x.e, x.t, A4, k, c4, ys, x.b, x.m⟩).toArray) := Lib.hid rfl
      have HZS : Hid ((Tryd.prog.info? 62).map (·.size) = some (Wpr.cells ⟨x.r, x.e, x.t, A4, k, c4, ys, x.b, x.m⟩).toArray.size) := Lib.hid (by kernel_rfl)
      have HAL : Hid ((Wpr.cells ⟨x.r, x.e, x.t, A4, k, c4, ys, x.b, x.m⟩).toArray.all (·.oneCell') = true) := Lib.hid (all_oneCell_toArray (Wpr.one _))
      have HZP : Hid (zeroPr.size = (Wpr.cells ⟨x.r, x.e, x.t, A4, k, c4, ys, x.b, x.m⟩).toArray.size) := Lib.hid rfl
      generalize hcc : (Wpr.cells ⟨x.r, x.e, x.t, A4, k, c4, ys, x.b, x.m⟩).toArray = CC at *
      have HCC := Lib.hid hcc
      have hc := hc
      rw [← hn'] at hc
      clear hcc hset hf2 hbx
      go_wp2_with (first
        | (refine wpList_load_row rfl 62 _ rfl w.heap.size rfl 62 CC _ _ HW2.out Tryd.underlying62 rfl HZS.out ?_)
        | (refine wpList_store_blk rfl 62 _ _ rfl (w.heap.size + 1) CC rfl rfl 62 zeroPr HB1S.out HZS.out HZP.out HAL.out ?_
           intro w3 hb3 hf3
           have HB3 := Lib.hid hb3
           have HF3 := Lib.hid hf3
           clear hb3 hf3))
      have hkm : min 3 x.n = k := by omega
      rw [hkm]
      have hyl : ys.length = k := by
        have := congrArg List.length HSM.out
        simp at this
        omega
      have HFa : Fr [w.heap.size, w.heap.size + 1] wr w3 := (HF2.out.mono (by intro k hk _; simp at hk; simp [hk])).trans HF3.out (by intro k hk _; simp at hk; simp [hk])
      have hsz := HSZ.out
      refine bodyPost_ret (v := .agg CC) (results_cell_row Tryd.results24 _ _ (w.heap.size + 1) 62 CC _ _ rfl HB3.out Tryd.underlying62 rfl HZS.out) rfl ⟨A4, c4, ys, by rw [HCC.out], fun S0 hS0 => ⟨H1.out, H2.out, H3.out, ?_, by show k ≤ 3; omega, fun _ a ha hin => ?_, H4.out, H5.out⟩, HTK.out ▸ HSM.out, (HF0.out.and HF.out (by simp)).and HFa (fun k hk => by simp at hk; omega)⟩
      · have hlw : Lst 38 Wce.cells (fun w v => v.Ok w S0) wr A4 k ys := Lst.of_own HO.out hyl (fun y hy => ⟨Wce.len (HYS.out y hy).1.k.h, (HYS.out y hy).1.k, (HYS.out y hy).1.l, (HYS.out y hy).1.n, fun hn a ha hin => by
          have h1 := ((HYS.out y hy).2 a ha).2.1
          have h2 := hS0 _ hin
          omega⟩)
        refine hlw.keep' HFa (fun _ a ha hin => ?_) (fun y hy hok => ?_)
        · have := (HO.out.lt a.block (by rw [bk_mem, ha]; simp [bk])).1
          simp at hin
          omega
        · have hok2 : y.Ok wr (w.heap.size :: (w.heap.size + 1) :: S0) := ⟨hok.k, hok.l, hok.n, fun hn a ha hin => by
            have h1 := ((HYS.out y hy).2 a ha).2.1
            simp only [List.mem_cons] at hin
            rcases hin with h | h | h
            · omega
            · omega
            · have h2 := hS0 _ h
              omega⟩
          exact hok2.keep (HFa.mono (by intro k hk _; simp at hk; rcases hk with rfl | rfl <;> simp)) (fun k hk _ => by simp [hk])
      · have ha : A4 = some a := ha
        have h1 := (HO.out.lt a.block (by rw [bk_mem, ha]; simp [bk])).1
        have h2 := hS0 _ hin
        omega
end Go.Proofs.YtdgbcdmooklciaaDoor

/-! ### Srw -/
namespace Go.Proofs.YtdgbcdmooklciaaDoor
open Go.RowKit
set_option maxRecDepth 100000
theorem own_blk {w : World} {g : Nat} {t : TypeId} {l : List UInt8} (h : Blk w g t (l.map by8).toArray) (hl : l.length ≤ maxLen) : w.ownsRow 0 t 1 (.slice (some ⟨g, 0, none⟩) l.length l.length) l.length (l.map by8) :=
  ⟨by simp, .inr ⟨g, l.length, (l.map by8).toArray, rfl, Nat.zero_le _, h, Nat.le_refl _, hl, by simp, by simp [List.take_of_length_le]⟩⟩
theorem u8n {n : Nat} (h : n < 256) : ((UInt8.ofNat n).toNat : Int) = n := by rw [UInt8.toNat_ofNat']; omega
theorem el_rowb : ElTy Tryd.prog 23 1 24 := ElTy.of (by kernel_rfl)
def rvc (r : RowV) : List Value := [r.val]
theorem rvc_one (r : RowV) : ∀ u ∈ rvc r, u.oneCell' = true := by intro u hu; rw [List.mem_singleton.1 hu]; rfl
theorem copyRows_any (A : Option Addr) (n c : Nat) (l : List RowV) (w : World) (hr : Lst 1 rvc (fun _ _ => True) w A n l) (hn : n ≤ 1000000) :
    Calls Tryd.prog 10 #[.slice A n c] w fun e w' => ∃ A' c', e = .returned (.slice A' n c') ∧ NewL 23 1 rvc w w' A' n c' l := by
  have HR := Lib.hid hr
  have HN := Lib.hid hn
  clear hr hn
  go_enter Tryd.func10, Tryd.ntmps10
  go_wp2_with (at_builtin; refine Stop.mk ?_)
  refine Stop.go ?_
  refine wpList_append_lst _ rfl (.const (.slice none 0 0)) (.tmp 3) _ rfl 23 1 24 Tryd.underlying22 el_rowb (by decide) (by decide) rvc_one rfl A n c l rfl HR.out HN.out ?_
  intro A1 c1 w1 ho1
  have HO := Lib.hid ho1
  clear ho1
  go_wp2
  go_ret
  exact ⟨A1, c1, rfl, HO.out⟩














set_option maxHeartbeats 2000000 in
theorem rowOf_any (A : Option Addr) (n c : Nat) (l : List UInt8) (w : World) (hr : By w A n l) (hA : ∀ k ∈ bk A, k < w.heap.size) (hn : n < 16384) :
    Calls Tryd.prog 13 #[.slice A n c] w fun e w' => ∃ A' c', e = .returned (.slice A' (enc n ++ l).length c') ∧ NewB w w' A' (enc n ++ l).length c' (enc n ++ l) := by
  have HR := Lib.hid hr
  have HL := Lib.hid hr.1
  clear hr hA
  by_cases h : n < 128
  · have hu : ((n : Int) % 256) = n := by omega
    have hgt : ¬ (127 : Int) < n := by omega
    have HE : Hid (enc n = [UInt8.ofNat n]) := Lib.hid (enc_small h)
    have HB : Hid (Blk (w.alloc (Obj.cells #[.int .u8 (n : Int)] 5)) w.heap.size 5 (([UInt8.ofNat n] : List UInt8).map by8).toArray) := Lib.hid (by
      have e : (([UInt8.ofNat n] : List UInt8).map by8).toArray = #[.int .u8 (n : Int)] := by simp [by8, hu]
      rw [e]; exact Blk.new _ _ _)
    go_enter Tryd.func13, Tryd.ntmps13
    go_wp2_with (at_builtin; refine Stop.mk ?_)
    refine Stop.go ?_
    refine wpList_append_bytes _ rfl _ _ _ rfl 5 Tryd.underlying23 info_u8 (.slice (some ⟨w.heap.size, 0, none⟩) 1 1) 1 [UInt8.ofNat n] rfl (own_blk HB.out (show 1 ≤ 2 ^ 63 - 1 by decide)) A n c l rfl (HR.out.keep ((Fr.refl [] w).alloc _) (by simp)) (by omega) ?_
    intro A1 c1 w1 ho hg hat
    have HN1 := Lib.hid (NewB.grow ((Fr.refl [] w).alloc _) (by simp [bk]) ho hg hat)
    clear ho hg hat
    go_wp2
    go_ret
    rw [HE.out, show ([UInt8.ofNat n] ++ l).length = 1 + n by simp [HL.out]; omega]
    exact ⟨A1, c1, rfl, HN1.out⟩
  · have hgt : (127 : Int) < n := by omega
    have HE : Hid (enc n = [UInt8.ofNat (n % 128 + 128), UInt8.ofNat (n / 128)]) := Lib.hid (by rw [enc_great h, enc_small (by omega)])
    have hx1 : (n : Int) % 128 = ((n % 128 : Nat) : Int) := by omega
    have hx2 : (n : Int) / 128 = ((n / 128 : Nat) : Int) := by omega
    have HB : Hid (Blk ((w.alloc (Obj.cells #[.int .u8 ((n : Int) % 256)] 5)).alloc (Obj.cells #[.int .u8 ((n : Int) % 128 + 128), .int .u8 ((n : Int) / 128)] 5)) (w.heap.size + 1) 5 (([UInt8.ofNat (n % 128 + 128), UInt8.ofNat (n / 128)] : List UInt8).map by8).toArray) := Lib.hid (by
      have e : (([UInt8.ofNat (n % 128 + 128), UInt8.ofNat (n / 128)] : List UInt8).map by8).toArray = #[.int .u8 ((n : Int) % 128 + 128), .int .u8 ((n : Int) / 128)] := by
        simp only [List.map_cons, List.map_nil, by8, u8n (show n % 128 + 128 < 256 by omega), u8n (show n / 128 < 256 by omega)]
        rw [hx1, hx2]
        simp
      rw [e]
      have h2 := Blk.new (w.alloc (Obj.cells #[.int .u8 ((n : Int) % 256)] 5)) 5 #[.int .u8 ((n : Int) % 128 + 128), .int .u8 ((n : Int) / 128)]
      simpa using h2)
    clear hx1 hx2
    go_enter Tryd.func13, Tryd.ntmps13
    go_wp2_with (at_builtin; refine Stop.mk ?_)
    refine Stop.go ?_
    refine wpList_append_bytes _ rfl _ _ _ rfl 5 Tryd.underlying23 info_u8 (.slice (some ⟨w.heap.size + 1, 0, none⟩) 2 2) 2 [UInt8.ofNat (n % 128 + 128), UInt8.ofNat (n / 128)] rfl (own_blk HB.out (show 2 ≤ 2 ^ 63 - 1 by decide)) A n c l rfl (HR.out.keep (((Fr.refl [] w).alloc _).alloc _) (by simp)) (by omega) ?_
    intro A1 c1 w1 ho hg hat
    have HN1 := Lib.hid (NewB.grow (((Fr.refl [] w).alloc _).alloc _) (by simp [bk]) ho hg hat)
    clear ho hg hat
    go_wp2
    go_ret
    rw [HE.out, show ([UInt8.ofNat (n % 128 + 128), UInt8.ofNat (n / 128)] ++ l).length = 2 + n by simp [HL.out]; omega]
    exact ⟨A1, c1, rfl, HN1.out⟩

theorem eql_h (Y : List UInt8) (h : Y.length = 32) (w : World) : (Op.equalIn 10000 26 (.agg (Y.map by8).toArray) (.agg (Y.map by8).toArray)).run Tryd.prog w = .ok true w := by
  have e := eql_hash Y Y h h 9998 w
  rw [show decide (Y = Y) = true from decide_eq_true rfl] at e
  exact e
theorem share5 {F T : World → Nat → Nat → Option Addr → Nat → Prop} {G : Prop} (h1 : (∀ y b b' A c, F y b b' A c → T y b b' A c) → G) (h2 : ∀ y b b' A c, F y b b' A c → T y b b' A c) : G := h1 h2
theorem done_eq {P : Program} {md : Region.Mode} {ops : Array Oper} {Q : Exit → Act → World → Prop} {S : World → Prop} {fuel : Nat} {d d' : Array Bool} {a : Act} {w : World} (h : d' = d) (x : wpAnyH P md ops Q S fuel d a w) : wpAnyH P md ops Q S fuel d' a w := by rw [h]; exact x
theorem rws_one {w : World} {g : Nat} {r : RowV} (hb : Blk w g 23 #[r.val]) (hy : By w r.A r.n r.b) (hn : r.n ≤ 300) (hlt : ∀ x ∈ bk r.A, x < w.heap.size) : RwsIn w (some ⟨g, 0, none⟩) 1 [r] :=
  ⟨rfl, fun _ => ⟨_, rfl, fun i r' hi => by
    rcases i with _ | i
    · simp at hi; subst hi; exact hb.cell 0
    · simp at hi⟩, fun r' hr => by rw [List.mem_singleton.1 hr]; exact ⟨hy, hn, hlt⟩, by decide⟩
theorem rws_two {w : World} {g : Nat} {r s : RowV} (hb : Blk w g 23 #[r.val, s.val]) (hy : By w r.A r.n r.b) (hn : r.n ≤ 300) (hlt : ∀ x ∈ bk r.A, x < w.heap.size) (hy2 : By w s.A s.n s.b) (hn2 : s.n ≤ 300) (hlt2 : ∀ x ∈ bk s.A, x < w.heap.size) : RwsIn w (some ⟨g, 0, none⟩) 2 [r, s] :=
  ⟨rfl, fun _ => ⟨_, rfl, fun i r' hi => by
    rcases i with _ | _ | i
    · simp at hi; subst hi; exact hb.cell 0
    · simp at hi; subst hi
      have h := hb.cell 1
      simpa [Addr.add, RowV.val] using h
    · simp at hi⟩, fun r' hr => by
    simp only [List.mem_cons, List.not_mem_nil, or_false] at hr
    rcases hr with rfl | rfl
    · exact ⟨hy, hn, hlt⟩
    · exact ⟨hy2, hn2, hlt2⟩, by decide⟩
theorem rvc_flat : ∀ l : List RowV, l.flatMap rvc = l.map RowV.val
  | [] => rfl
  | x :: l => by rw [List.flatMap_cons, rvc_flat l]; rfl
set_option maxHeartbeats 4000000 in
theorem shaRows_walk (w : World) (A : Option Addr) (n c : Nat) (l : List RowV) (hl : RowsIn w A n l) (hn : n ≤ c) (hc : c ≤ maxLen) (ct : Int) (hct : i64In ct) (hK : KW w) :
    Calls Tryd.prog 3 #[.slice A n c, .int .i64 ct] w fun e w' => e = .returned (.bool true) ∧ Fr [] w w' := by
  unfold maxLen at hc
  have HL := Lib.hid hl
  have HCT := Lib.hid hct
  have HKW := Lib.hid hK
  clear hl hct hK
  go_enter Tryd.func3, Tryd.ntmps3
  go_upto_block 0 with (fail)
  go_cut [5, 6, 7] (fun s5 s6 _ wx => ∃ (k : Nat) (A5 : Option Addr) (c5 : Nat) (A6 : Option Addr) (c6 : Nat) (rs : List RowV) (al : List UInt8), k ≤ 5 ∧ s5 = .slice A5 k c5 ∧ s6 = .slice A6 al.length c6 ∧ rs.length = k ∧ al.length ≤ 40 * k ∧ Hid (al = rs.flatMap (·.b)) ∧ Hid (∀ r ∈ rs, r.n ≤ 40) ∧ Hid (wx.ownsRow 0 23 1 (.slice A5 k c5) k (rs.map RowV.val)) ∧ Hid (wx.ownsRow 0 5 1 (.slice A6 al.length c6) al.length (al.map by8)) ∧ Hid (RowsOk wx (bk A5 ++ bk A6) rs) ∧ Hid (Fr [] w wx) ∧ Hid (∀ x ∈ bk A5 ++ bk A6, w.heap.size ≤ x))
  case first =>
    go_wp2_with fail
    go_loopw [5, 6, 7] (fun s5 s6 i wr => (∃ (k : Nat) (A5 : Option Addr) (c5 : Nat) (A6 : Option Addr) (c6 : Nat) (rs : List RowV) (al : List UInt8), k ≤ 5 ∧ s5 = .slice A5 k c5 ∧ s6 = .slice A6 al.length c6 ∧ rs.length = k ∧ al.length ≤ 40 * k ∧ Hid (al = rs.flatMap (·.b)) ∧ Hid (∀ r ∈ rs, r.n ≤ 40) ∧ Hid (wr.ownsRow 0 23 1 (.slice A5 k c5) k (rs.map RowV.val)) ∧ Hid (wr.ownsRow 0 5 1 (.slice A6 al.length c6) al.length (al.map by8)) ∧ Hid (RowsOk wr (bk A5 ++ bk A6) rs) ∧ Hid (Fr [] w wr) ∧ Hid (∀ x ∈ bk A5 ++ bk A6, w.heap.size ≤ x)) ∧ ∃ k : Nat, k ≤ n ∧ k ≤ 5 ∧ i = .int .i64 k ∧ ∃ A c, s5 = .slice A k c) (fun _ _ i _ => 5 - (intOf i).toNat)
    case atStart => exact ⟨⟨0, none, 0, none, 0, [], [], by omega, rfl, rfl, rfl, by simp, Lib.hid rfl, Lib.hid (by simp), Lib.hid ⟨by simp, .inl ⟨rfl, rfl⟩⟩, Lib.hid ⟨by simp, .inl ⟨rfl, rfl⟩⟩, Lib.hid (by intro r hr; simp at hr), Lib.hid (Fr.refl _ _), Lib.hid (by simp [bk])⟩, 0, by omega, by omega, rfl, _, _, rfl⟩
    case round =>
      obtain ⟨⟨k, A5, c5, A6, c6, rs, al, -, rfl, rfl, hrl, hal, HAL, HRN, HO5, HO6, HROK, HF, HGE⟩, k', hkn, hk5, rfl, A', c', he⟩ := hrel
      obtain ⟨hA', hkk, hc'⟩ : A5 = A' ∧ k = k' ∧ c5 = c' := by injection he with h1 h2 h3; exact ⟨h1, h2, h3⟩
      subst hkk
      clear he hA' hc' A' c'
      have HALN := Lib.hid hal
      by_cases hlt : k < n ∧ k < 5
      · obtain ⟨hk1, hk2⟩ := hlt
        obtain ⟨ad, r, hA, hgr, hy, hrc, hrm, hcell⟩ := HL.out.at HF.out.below_all hk1
        subst hA
        have HY := Lib.hid hy
        have HRC := Lib.hid (And.intro hrc hrm)
        have hk0 : (0 : Int) ≤ k := by omega
        clear hgr hy hrc hrm
        go_wp2_with fail
        rw [show (40 : Int) = ((40 : Nat) : Int) from rfl]
        refine (cut_any r.A r.n r.c 40 r.b wr HY.out (Nat.le_trans HRC.out.1 HRC.out.2) HRC.out.1 (by omega)).mono ?_
        rintro e w2 ⟨A2, c2, rfl, hN2⟩
        have h40 : (r.b.take 40).length ≤ 40 := List.length_take_le _ _
        generalize r.b.take 40 = t at *
        have HN2 := Lib.hid hN2
        have H40 := Lib.hid h40
        have HLT5 : Hid (∀ x ∈ bk A5, x < wr.heap.size) := Lib.hid (fun x hx => own_lt HO5.out x (by rw [bk_mem]; exact hx))
        have HLT6 : Hid (∀ x ∈ bk A6, x < wr.heap.size) := Lib.hid (fun x hx => own_lt HO6.out x (by rw [bk_mem]; exact hx))
        have HLTR : Hid (∀ r ∈ rs, ∀ x ∈ bk r.A, x < wr.heap.size) := Lib.hid (fun r hr x hx => HROK.out.lt r hr x hx)
        have HA2 : Hid (∀ x ∈ bk A2, wr.heap.size ≤ x ∧ x < w2.heap.size) := Lib.hid (fun x hx => ⟨HN2.out.2.2 x hx, NewB.lt HN2.out x hx⟩)
        have HS2 : Hid (wr.heap.size ≤ w2.heap.size) := Lib.hid HN2.out.2.1.size
        have HA56 : Hid (∀ x ∈ bk A5, ¬ x ∈ bk A6) := Lib.hid (rows_apart HO5.out HO6.out)
        have HO5 := Lib.hid (own_keep HO5.out HN2.out.2.1 (by simp))
        have HO6 := Lib.hid (own_keep HO6.out HN2.out.2.1 (by simp))
        have HROK := Lib.hid (HROK.out.keep (S' := bk A5 ++ bk A6) HN2.out.2.1 (by simp) (fun x hx _ => hx))
        have HF := Lib.hid (HF.out.and HN2.out.2.1 (by simp))
        have HRD1 : Hid (∀ u ∈ ([Value.slice A2 t.length c2] : List Value), u.oneCell' = true) := Lib.hid (by intro u hu; rw [List.mem_singleton.1 hu]; rfl)
        clear hN2 h40 hcell
        go_wp2_with (at_builtin; refine Stop.mk ?_)
        refine Stop.go ?_
        refine wpList_append_one2 rfl _ _ 22 23 rfl Tryd.underlying22 1 24 el_rowb (by decide) 0 (.slice A5 k c5) k _ [.slice A2 t.length c2] rfl (HO5.out.alloc _) (Nat.zero_le _) rfl HRD1.out w2.heap.size 23 rfl (Blk.new _ _ _) (by omega) (by decide) ?_
        intro A9 c9 w9 ho9 hf9 hb9
        have HF29 : Hid (Fr (bk A5) w2 w9) := Lib.hid ((((Fr.refl [] w2).alloc _).mono (T := bk A5) (by simp)).trans (T := bk A5) (by rw [bk_own A5 k c5] at hf9; exact hf9) (fun x hx _ => hx))
        have HB9 : Hid (∀ q ∈ bk A9, q ∈ bk A5 ∨ q = w2.heap.size + 1) := Lib.hid (by
          intro q hq
          rw [← bk_own A9 (k + 1) c9] at hq
          rcases hb9 with h | h
          · rw [h, bk_own] at hq; exact .inl hq
          · rw [h] at hq; simp at hq; exact .inr hq)
        have HS9 : Hid (w2.heap.size + 1 ≤ w9.heap.size) := Lib.hid (by have := hf9.size; simpa using this)
        have hcat : ∃ ad9, A9 = some ad9 ∧ w9.cell? (ad9.add k) = some (.slice A2 t.length c2) := by
          obtain ⟨gq, cap, hv, _, _⟩ := ho9.form (by omega)
          injection hv with hA
          refine ⟨_, hA, ?_⟩
          subst hA
          have hkl : (rs.map RowV.val).length = k := by simp [hrl]
          exact ho9.cells (g := gq) rfl k _ (by rw [List.getElem?_append_right (by omega), hkl]; simp)
        obtain ⟨ad9, rfl, hc9⟩ := hcat
        have HO9 := Lib.hid ho9
        have HO6 := Lib.hid (own_keep HO6.out HF29.out (fun x hx hin => by rw [bk_mem] at hx; exact HA56.out x hin hx))
        have HROK := Lib.hid (HROK.out.keep (S' := bk A5 ++ bk A6) HF29.out (fun r hr x hx hin => (HROK.out r hr).2 x hx (by simp [hin])) (fun x hx _ => hx))
        have HNA : Hid (w9.ownsRow 0 5 1 (.slice A2 t.length c2) t.length (t.map by8)) := Lib.hid (own_keep HN2.out.1 HF29.out (fun x hx hin => by rw [bk_mem] at hx; have h1 := (HA2.out x hx).1; have h2 := HLT5.out x hin; omega))
        have HF9 : Hid (Fr [] w w9) := Lib.hid (HF.out.go HF29.out (fun x hx => HGE.out x (by simp [hx])))
        clear ho9 hf9 hb9
        go_wp2_with (at_builtin; refine Stop.mk ?_)
        refine Stop.go ?_
        refine wpList_append_bytes _ rfl _ _ _ rfl 5 Tryd.underlying23 info_u8 (.slice A6 al.length c6) al.length al rfl HO6.out A2 t.length c2 t rfl (By.of_own HNA.out) (by have := HALN.out; have := H40.out; omega) ?_
        intro A8 c8 w8 ho8 hg8 hat8
        have hl8 : (al ++ t).length = al.length + t.length := List.length_append
        rw [← hl8] at ho8 ⊢
        generalize ha8 : al ++ t = a8 at *
        have HAE := Lib.hid ha8
        clear ha8
        have HO8 := Lib.hid ho8
        have HF98 : Hid (Fr (bk A6) w9 w8) := Lib.hid (((Fr.refl (bk A6) w9)).grown hg8 (fun q hq _ => by rw [bk_mem] at hq; exact hq))
        have HB8 : Hid (∀ q ∈ bk A8, q ∈ bk A6 ∨ q = w9.heap.size) := Lib.hid (by
          intro q hq
          rcases hat8 with h | h
          · rw [h, bk_own] at hq; exact .inl hq
          · rw [h] at hq; simp at hq; exact .inr hq)
        clear ho8 hg8 hat8 hl8
        have HA9 : Hid (∀ x ∈ bk (some ad9), ¬ x ∈ bk A6) := Lib.hid (fun x hx hin => by
          rcases HB9.out x hx with h | h
          · exact HA56.out x h hin
          · have h1 := HLT6.out x hin; have h2 := HS2.out; omega)
        have HO9 := Lib.hid (own_keep HO9.out HF98.out (fun x hx => HA9.out x (by rw [bk_mem] at hx; exact hx)))
        have HROK := Lib.hid (HROK.out.keep (S' := bk A5 ++ bk A6) HF98.out (fun r hr x hx hin => (HROK.out r hr).2 x hx (by simp [hin])) (fun x hx _ => hx))
        have HNA := Lib.hid (own_keep HNA.out HF98.out (fun x hx hin => by rw [bk_mem] at hx; have h1 := (HA2.out x hx).1; have h2 := HLT6.out x hin; omega))
        have HF8 : Hid (Fr [] w w8) := Lib.hid (HF9.out.go HF98.out (fun x hx => HGE.out x (by simp [hx])))
        go_wp2
        go_roundw
        case rel =>
          have s2 := HS2.out
          have s9 := HS9.out
          refine ⟨⟨k + 1, some ad9, c9, A8, c8, rs ++ [⟨A2, t.length, c2, t⟩], a8, by omega, rfl, rfl, by simp [hrl], by have h1 := HALN.out; have h2 := H40.out; rw [← HAE.out, List.length_append]; omega, Lib.hid ?_, Lib.hid ?_, Lib.hid ?_, HO8, Lib.hid ?_, HF8, Lib.hid ?_⟩, k + 1, by omega, by omega, by go_num, _, _, rfl⟩
          · rw [← HAE.out, List.flatMap_append, HAL.out, List.flatMap_singleton]
          · intro r hr
            rcases List.mem_append.1 hr with h | h
            · exact HRN.out r h
            · rw [List.mem_singleton.1 h]; exact H40.out
          · rw [List.map_append]; exact HO9.out
          · intro r hr
            have hnew : ∀ x, x < w2.heap.size → ¬ x ∈ bk A5 → ¬ x ∈ bk A6 → ¬ x ∈ bk (some ad9) ++ bk A8 := fun x h1 h3 h4 hin => by
              simp only [List.mem_append] at hin
              rcases hin with h | h
              · rcases HB9.out x h with h | h
                · exact h3 h
                · omega
              · rcases HB8.out x h with h | h
                · exact h4 h
                · omega
            rcases List.mem_append.1 hr with h | h
            · refine ⟨(HROK.out r h).1, fun x hx => ?_⟩
              have h1 := (HROK.out r h).2 x hx
              simp only [List.mem_append, not_or] at h1
              exact hnew x (by have := HLTR.out r h x hx; omega) h1.1 h1.2
            · rw [List.mem_singleton.1 h]
              refine ⟨HNA.out, fun x hx => ?_⟩
              have h1 := HA2.out x hx
              exact hnew x (by omega) (fun hin => by have := HLT5.out x hin; omega) (fun hin => by have := HLT6.out x hin; omega)
          · intro x hx
            simp only [List.mem_append] at hx
            have s0 := HF.out.size
            rcases hx with h | h
            · rcases HB9.out x h with h2 | h2
              · exact HGE.out x (by simp [h2])
              · omega
            · rcases HB8.out x h with h2 | h2
              · exact HGE.out x (by simp [h2])
              · omega
        case measure => simp [intOf]; omega
      · have hkx : (n : Int) ≤ k ∨ (5 : Int) ≤ k := by omega
        rcases hkx with hkx | hkx
        all_goals
          go_wp2_with fail
          all_goals
            go_meet
            exact ⟨k, A5, c5, A6, c6, rs, al, hk5, rfl, rfl, hrl, hal, HAL, HRN, HO5, HO6, HROK, HF, HGE⟩
  case rest =>
    obtain ⟨k, A5, c5, A6, c6, rs, al, hk5, rfl, rfl, hrl, hal, HAL, HRN, HO5, HO6, HROK, HF, HGE⟩ := hcut
    have HALN := Lib.hid hal
    have HRL := Lib.hid hrl
    have HK5 := Lib.hid hk5
    have HK : Hid (KW wc) := Lib.hid (HKW.out.keep HF.out (by simp))
    have HRW : Hid (∀ W, Fr [] wc W → RwsIn W A5 k rs) := Lib.hid (fun W hW => rws_of_own HRL.out (by have := HK5.out; omega) (fun r hr => Nat.le_trans (HRN.out r hr) (by decide)) (own_keep HO5.out hW (by simp)) (HROK.out.keep hW (by simp) (by simp)))
    have HYA : Hid (∀ W, Fr [] wc W → By W A6 al.length al) := Lib.hid (fun W hW => (By.of_own HO6.out).keep hW (by simp))
    have hLR : Lst 1 rvc (fun _ _ => True) wc A5 k rs := Lst.of_own (by rw [rvc_flat]; exact HO5.out) hrl (fun v _ => ⟨rfl, trivial⟩)
    have HLR := Lib.hid hLR
    have HAC : Hid (al.length ≤ c6) := Lib.hid (by
      rcases HO6.out.2 with ⟨h1, h2⟩ | ⟨g, cap, cur, hv, _, _, hcp, _⟩
      · omega
      · injection hv with _ _ h3; omega)
    clear hLR hrl hal HKW HL
    have hsl : (sumL (enc k ++ encRw (rs.map (·.b)))).length = 32 := sumL_len _
    obtain ⟨H1, hH1⟩ : ∃ H1, H1 = sumL (enc k ++ encRw (rs.map (·.b))) := ⟨_, rfl⟩
    rw [← hH1] at hsl
    have HH1 := Lib.hid hH1
    have HSL := Lib.hid hsl
    have hys : (H1.map by8).toArray.size = 32 := by simp [hsl]
    have HYS := Lib.hid hys
    have HYO : Hid ((H1.map by8).toArray.all (·.oneCell') = true) := Lib.hid (by8_all H1)
    clear hH1 hsl hys
    go_wp2_with fail
    refine (sharows_any A5 k c5 rs wc (HRW.out wc (Fr.refl _ _)) HK.out).mono ?_
    rw [← HH1.out]
    rintro e w1 ⟨rfl, hf1⟩
    have HF1 := Lib.hid hf1
    clear hf1
    go_upto_region 9 with (refine wpList_store_blk rfl 26 _ _ rfl w1.heap.size (H1.map by8).toArray rfl rfl 26 _ (Blk.new w1 _ _) (by rw [hash_sizeS, HYS.out]) (by rw [HYS.out]; rfl) HYO.out ?_; intro w2 hb2 hf2)
    have HF2 : Hid (Fr [] wc w2) := Lib.hid ((HF1.out.alloc _).and hf2 (by have := HF1.out.size; simp; omega))
    have HG8 := Lib.hid hb2
    generalize w1.heap.size = g8 at *
    clear hb2 hf2 HF1
    have HRH : Hid (RowTy Tryd.prog 26 (H1.map by8).length) := Lib.hid (by rw [List.length_map, HSL.out]; exact row_hash)
    refine wp_region_held_drew (S := Fr [] w2) (by kernel_rfl) (Fr.drew (Fr.refl _ w2)) (fun hHeld => ?_)
    generalize w2.drew = x0 at *
    refine row_at (i := 0) rfl (by kernel_rfl) (by rfl) _ _ rfl _ _ rfl _ (fun w1 hw1 => hw1.range (HG8.out.range) (by first | (simp; done) | exact HNS.out | exact HNW.out | (intro hm; have hlt := HSB.out _ hm; (try dsimp only at hlt); omega))) (HRH.out) (fun _ _ _ h => h) hHeld ?_
    simp only [Act.put, List.setIfInBounds_toArray, List.set_cons_zero, List.set_cons_succ]
    refine run_at (i := 1) (v := ?_) rfl (by kernel_rfl) (by rfl) (fun _ _ _ h => h) hHeld (fun w1 hw1 => ?_) ?_
    rotate_left 1
    · skip
      go_simp
      (try (first | with_reducible rfl | (apply And.intro <;> rfl)))
    simp only [Act.put, List.setIfInBounds_toArray, List.set_cons_zero, List.set_cons_succ]
    refine call_at (i := 2) (f := ?_) (args := ?_) rfl (by kernel_rfl) (by rfl) ?_ ?_
    rotate_left 2
    · go_simp
      (try (first | with_reducible rfl | (apply And.intro <;> rfl)))
    refine (copyRows_any A5 k c5 rs x0 (HLR.out.keep' (HF2.out.and hHeld (by simp)) (by simp) (fun _ _ h => h)) (by have := HK5.out; omega)).mono ?_
    rintro e_ x1 ⟨A7, c7, rfl, hN7⟩
    have HRW7 : Hid (RwsIn x1 A7 k rs) := Lib.hid (rws_of_own (c := c7) HRL.out (by have := HK5.out; omega) (fun r hr => Nat.le_trans (HRN.out r hr) (by decide)) (by rw [← rvc_flat]; exact hN7.1) (HROK.out.keep ((HF2.out.and hHeld (by simp)).and hN7.2.1 (by simp)) (by simp) (by simp)))
    refine ⟨_, rfl, hHeld.and hN7.2.1 (by simp), fun hHeld => ?_⟩
    clear hN7
    simp only [Act.put, List.setIfInBounds_toArray, List.set_cons_zero, List.set_cons_succ]
    refine call_at (i := 3) (f := ?_) (args := ?_) rfl (by kernel_rfl) (by rfl) ?_ ?_
    rotate_left 2
    · go_simp
      (try (first | with_reducible rfl | (apply And.intro <;> rfl)))
    refine (sharows_any A7 k c7 rs x1 HRW7.out (HK.out.keep (HF2.out.and hHeld (by simp)) (by simp))).mono ?_
    rw [← HH1.out]
    rintro e_ x2 ⟨rfl, hf⟩
    refine ⟨_, rfl, hHeld.and hf (by simp), fun hHeld => ?_⟩
    clear hf HRW7
    simp only [Act.put, List.setIfInBounds_toArray, List.set_cons_zero, List.set_cons_succ]
    refine neq_at (i := 4) rfl (by kernel_rfl) (by rfl) _ _ _ _ rfl _ _ rfl rfl _ (by kernel_rfl) (fun W => eql_h H1 HSL.out W) (fun _ _ _ h => h) hHeld ?_
    simp only [Act.put, List.setIfInBounds_toArray, List.set_cons_zero, List.set_cons_succ]
    rw [show (!true) = false from rfl]
    refine wpAnyH_done (by kernel_rfl) ?_ _
    have HF3 : Hid (Fr [] wc x2) := Lib.hid (HF2.out.and hHeld (by simp))
    have HG8 := Lib.hid (HG8.out.keep hHeld (by simp))
    clear hHeld HF2
    have hk0 : (0 : Int) ≤ k := by omega
    have hku : (k : Int) % 256 = k := by have := HK5.out; omega
    skip
    have HT0 : Hid (Blk (x2.alloc (Obj.cells #[.int .u8 (k : Int)] 5)) x2.heap.size 5 ((enc k).map by8).toArray) := Lib.hid (by
      have e : ((enc k).map by8).toArray = #[.int .u8 (k : Int)] := by rw [enc_small (by have := HK5.out; omega)]; simp [by8, hku]
      rw [e]; exact Blk.new _ _ _)
    have HEK : Hid ((enc k).length = 1) := Lib.hid (by rw [enc_small (by have := HK5.out; omega)]; rfl)
    have HNT : Hid (NewB x2 (x2.alloc (Obj.cells #[.int .u8 (k : Int)] 5)) (some ⟨x2.heap.size, 0, none⟩) (enc k).length 1 (enc k)) := Lib.hid ⟨by have h := own_blk HT0.out (by rw [HEK.out]; show 1 ≤ 2 ^ 63 - 1; decide); rw [HEK.out] at h ⊢; exact h, (Fr.refl [] x2).alloc _, by simp [bk]⟩
    go_wp2
    go_loopw [9, 49] (fun s i wr => ∃ (j : Nat) (A9 : Option Addr) (c9 : Nat) (L : List UInt8), j ≤ k ∧ i = .int .i64 j ∧ s = .slice A9 L.length c9 ∧ Hid (L = enc k ++ encRw ((rs.map (·.b)).take j)) ∧ Hid (L.length ≤ 10 + 60 * j) ∧ Hid (NewB x2 wr A9 L.length c9 L)) (fun _ i _ => k - (intOf i).toNat)
    case atStart => exact ⟨0, some ⟨x2.heap.size, 0, none⟩, 1, enc k, by omega, rfl, by rw [HEK.out], Lib.hid (by simp [encRw]), Lib.hid (by rw [HEK.out]; omega), HNT⟩
    case round =>
      obtain ⟨j, A9, c9, L, hj, rfl, rfl, HLE, HLB, HNL⟩ := hrel
      have hk5 := HK5.out
      by_cases hlt : j < k
      · have hRWx := HRW.out x2 HF3.out
        obtain ⟨ad, r, hA, hg, hy, hrn, hrb, hcell⟩ := hRWx.at (Fr.below_all (Fr.refl [] x2)) hlt
        have hj0 : (0 : Int) ≤ j := by omega
        have HRM := Lib.hid (HRN.out r (List.mem_of_getElem? hg))
        have HG := Lib.hid hg
        have HY := Lib.hid hy
        have HCE : Hid (x2.cell? (ad.add j) = some (.slice r.A r.n r.c)) := Lib.hid hcell
        have HCB : Hid ((ad.add j).block < x2.heap.size) := Lib.hid (World.block_lt_of_cell? x2 _ hcell)
        have HYB : Hid (∀ a, r.A = some a → a.block < x2.heap.size) := Lib.hid (fun a ha => hrb a.block (by rw [ha]; simp [bk]))
        have hcw : wr.cell? (ad.add j) = some (.slice r.A r.n r.c) := HNL.out.2.1.cell hcell (by simp)
        have HCW := Lib.hid hcw
        have HNS : Hid (¬ (ad.add j).block ∈ bk A9) := Lib.hid (fun hin => by have h1 := HNL.out.2.2 _ hin; have h2 := HCB.out; omega)
        have HYN : Hid (∀ a, r.A = some a → ¬ a.block ∈ bk A9) := Lib.hid (fun a ha hin => by have h1 := HNL.out.2.2 _ hin; have h2 := HYB.out a ha; omega)
        have hrnu : IntKind.u8.wrap (r.n : Int) = r.n := IntWalk.u8_in _ (by have := HRM.out; omega)
        clear hRWx hg hy hrn hrb hcell hcw
        subst hA
        go_upto_region 15 with (fail)
        refine wp_region_held_drew (S := Fr (bk A9) wr) (by kernel_rfl) (Fr.drew (Fr.refl _ wr)) (fun hHeld => ?_)
        have HNL0 : Hid (NewB x2 wr.drew A9 L.length c9 L) := Lib.hid ⟨own_keep HNL.out.1 (Fr.drew (Fr.refl [] wr)) (by simp), HNL.out.2.1.drew, HNL.out.2.2⟩
        generalize wr.drew = y0 at *
        refine run_at (i := 0) (v := ?_) rfl (by kernel_rfl) (by rfl) (fun _ _ _ h => h) hHeld (fun w1 hw1 => ?_) ?_
        rotate_left 1
        · skip
          go_simp
          (try (first | with_reducible rfl | (apply And.intro <;> rfl)))
        simp only [Act.put, List.setIfInBounds_toArray, List.set_cons_zero, List.set_cons_succ]
        refine run_at (i := 1) (v := ?_) rfl (by kernel_rfl) (by rfl) (fun _ _ _ h => h) hHeld (fun w1 hw1 => ?_) ?_
        rotate_left 1
        · skip
          go_simp
          (try (first | with_reducible rfl | (apply And.intro <;> rfl)))
        simp only [Act.put, List.setIfInBounds_toArray, List.set_cons_zero, List.set_cons_succ]
        refine run_at (i := 2) (v := ?_) rfl (by kernel_rfl) (by rfl) (fun _ _ _ h => h) hHeld (fun w1 hw1 => ?_) ?_
        rotate_left 1
        · skip
          go_simp
          (try (first | with_reducible rfl | (apply And.intro <;> rfl)))
        simp only [Act.put, List.setIfInBounds_toArray, List.set_cons_zero, List.set_cons_succ]
        refine run_at (i := 3) (v := ?_) rfl (by kernel_rfl) (by rfl) (fun _ _ _ h => h) hHeld (fun w1 hw1 => ?_) ?_
        rotate_left 1
        · skip
          go_simp
          (try (first | with_reducible rfl | (apply And.intro <;> rfl)))
        simp only [Act.put, List.setIfInBounds_toArray, List.set_cons_zero, List.set_cons_succ]
        refine run_at (i := 4) (v := ?_) rfl (by kernel_rfl) (by rfl) (fun _ _ _ h => h) hHeld (fun w1 hw1 => ?_) ?_
        rotate_left 1
        · skip
          have hcw0 := hw1.cell (HCW.out) (by first | (simp; done) | exact HNS.out | exact HNW.out | (intro hm; have hlt := HSB.out _ hm; (try dsimp only at hlt); omega))
          go_simp
          (try (first | with_reducible rfl | (apply And.intro <;> rfl)))
        simp only [Act.put, List.setIfInBounds_toArray, List.set_cons_zero, List.set_cons_succ]
        refine run_at (i := 5) (v := ?_) rfl (by kernel_rfl) (by rfl) (fun _ _ _ h => h) hHeld (fun w1 hw1 => ?_) ?_
        rotate_left 1
        · skip
          go_simp
          (try (first | with_reducible rfl | (apply And.intro <;> rfl)))
        simp only [Act.put, List.setIfInBounds_toArray, List.set_cons_zero, List.set_cons_succ]
        refine run_at (i := 6) (v := ?_) rfl (by kernel_rfl) (by rfl) (fun _ _ _ h => h) hHeld (fun w1 hw1 => ?_) ?_
        rotate_left 1
        · skip
          go_simp
          (try (first | with_reducible rfl | (apply And.intro <;> rfl)))
        simp only [Act.put, List.setIfInBounds_toArray, List.set_cons_zero, List.set_cons_succ]
        refine run_at (i := 9) (v := ?_) rfl (by kernel_rfl) (by rfl) (fun _ _ _ h => h) hHeld (fun w1 hw1 => ?_) ?_
        rotate_left 1
        · skip
          go_simp
          (try (first | with_reducible rfl | (apply And.intro <;> rfl)))
        simp only [Act.put, List.setIfInBounds_toArray, List.set_cons_zero, List.set_cons_succ]
        refine run_at (i := 10) (v := ?_) rfl (by kernel_rfl) (by rfl) (fun _ _ _ h => h) hHeld (fun w1 hw1 => ?_) ?_
        rotate_left 1
        · skip
          go_simp
          (try (first | with_reducible rfl | (apply And.intro <;> rfl)))
        simp only [Act.put, List.setIfInBounds_toArray, List.set_cons_zero, List.set_cons_succ]
        refine run_at (i := 11) (v := ?_) rfl (by kernel_rfl) (by rfl) (fun _ _ _ h => h) hHeld (fun w1 hw1 => ?_) ?_
        rotate_left 1
        · skip
          go_simp
          (try (first | with_reducible rfl | (apply And.intro <;> rfl)))
        simp only [Act.put, List.setIfInBounds_toArray, List.set_cons_zero, List.set_cons_succ]
        refine run_at (i := 12) (v := ?_) rfl (by kernel_rfl) (by rfl) (fun _ _ _ h => h) hHeld (fun w1 hw1 => ?_) ?_
        rotate_left 1
        · skip
          have hcw0 := hw1.cell (HCW.out) (by first | (simp; done) | exact HNS.out | exact HNW.out | (intro hm; have hlt := HSB.out _ hm; (try dsimp only at hlt); omega))
          go_simp
          (try (first | with_reducible rfl | (apply And.intro <;> rfl)))
        simp only [Act.put, List.setIfInBounds_toArray, List.set_cons_zero, List.set_cons_succ]
        refine step_at (i := 7) rfl (by kernel_rfl) (by rfl) (fun K hK => ?_)
        refine wp_run (v := ?_) (w' := ?_) ?_ ?_
        rotate_left 2
        · go_simp
          (try (first | with_reducible rfl | (apply And.intro <;> rfl)))
        refine hK.out _ (y0.alloc (Obj.cells #[.int .u8 (r.n : Int)] 5)) (hHeld.alloc _) (fun hHeld => ?_)
        clear hK K
        simp only [Act.put, List.setIfInBounds_toArray, List.set_cons_zero, List.set_cons_succ]
        have HB1 : Hid (By (y0.alloc (Obj.cells #[.int .u8 (r.n : Int)] 5)) (some ⟨y0.heap.size, 0, none⟩) 1 [UInt8.ofNat r.n]) := Lib.hid (By.one (Blk.new _ _ _) (by rw [u8n (by have := HRM.out; omega)]))
        have hNA : NewB x2 (y0.alloc (Obj.cells #[.int .u8 (r.n : Int)] 5)) A9 L.length c9 L := ⟨HNL0.out.1.alloc _, HNL0.out.2.1.alloc _, HNL0.out.2.2⟩
        have HNA := Lib.hid hNA
        clear hNA
        have hHA := hHeld
        refine step_at (i := 8) rfl (by kernel_rfl) (by rfl) (fun K hK => ?_)
        refine wp_append_bytes _ _ _ _ rfl 5 Tryd.underlying23 info_u8 (.slice A9 L.length c9) L.length L rfl HNA.out.1 (some ⟨y0.heap.size, 0, none⟩) 1 1 [UInt8.ofNat r.n] rfl HB1.out (by have := HLB.out; omega) ?_
        intro A10 c10 w10 ho hg hat
        have hN10 := NewB.grow HNA.out.2.1 HNA.out.2.2 ho hg hat
        have hf10 : Fr (bk A9) (y0.alloc (Obj.cells #[.int .u8 (r.n : Int)] 5)) w10 := (Fr.refl (bk A9) _).grown hg (fun q hq _ => by rw [bk_mem] at hq; exact hq)
        have hb10 : ∀ q ∈ bk A10, q ∈ bk A9 ∨ wr.heap.size ≤ q := by
          intro q hq
          rcases hat with h | h
          · rw [h, bk_own] at hq; exact .inl hq
          · rw [h] at hq; have h3 := hHA.size; simp at hq h3; exact .inr (by omega)
        refine hK.out _ _ (hHeld.trans hf10 (fun x hx _ => hx)) (fun hHeld => ?_)
        clear hK K
        simp only [Act.put, List.setIfInBounds_toArray, List.set_cons_zero, List.set_cons_succ]
        have HN10 := Lib.hid hN10
        have HB10 := Lib.hid hb10
        clear ho hg hat hN10 hf10 hb10 hHA HNA
        have HYW : Hid (By w10 r.A r.n r.b) := Lib.hid (HY.out.keep HN10.out.2.1 (by simp))
        refine step_at (i := 13) rfl (by kernel_rfl) (by rfl) (fun K hK => ?_)
        refine wp_append_bytes _ _ _ _ rfl 5 Tryd.underlying23 info_u8 (.slice A10 (L.length + 1) c10) (L.length + 1) (L ++ [UInt8.ofNat r.n]) rfl HN10.out.1 r.A r.n r.c r.b rfl HYW.out (by have := HLB.out; have := HRM.out; omega) ?_
        intro A11 c11 w11 ho hg hat
        have hN11 := NewB.grow HN10.out.2.1 HN10.out.2.2 ho hg hat
        have hf11 : Fr (bk A10) w10 w11 := (Fr.refl (bk A10) _).grown hg (fun q hq _ => by rw [bk_mem] at hq; exact hq)
        refine hK.out _ _ (hHeld.trans hf11 (fun x hx hl => (HB10.out x hx).elim id (fun h => by omega))) (fun hHeld => ?_)
        clear hK K
        simp only [Act.put, List.setIfInBounds_toArray, List.set_cons_zero, List.set_cons_succ]
        refine run_at (i := 14) (v := ?_) rfl (by kernel_rfl) (by rfl) (fun _ _ _ h => h) hHeld (fun w1 hw1 => ?_) ?_
        rotate_left 1
        · skip
          go_simp
          (try (first | with_reducible rfl | (apply And.intro <;> rfl)))
        simp only [Act.put, List.setIfInBounds_toArray, List.set_cons_zero, List.set_cons_succ]
        refine wpAnyH_done (by kernel_rfl) ?_ _
        have HLN : Hid (r.b.length = r.n) := Lib.hid HY.out.1
        have hL2 : L ++ [UInt8.ofNat r.n] ++ r.b = enc k ++ encRw ((rs.map (·.b)).take (j + 1)) := by rw [encRw_snoc (b := r.b) (by rw [List.getElem?_map, HG.out]; rfl), HLE.out, HLN.out, enc_small (m := r.n) (by have := HRM.out; omega)]; simp
        have hln : L.length + 1 + r.n = (L ++ [UInt8.ofNat r.n] ++ r.b).length := by simp [HLN.out]; omega
        rw [hln] at hN11 ⊢
        have hB2 : (L ++ [UInt8.ofNat r.n] ++ r.b).length ≤ 10 + 60 * (j + 1) := by have h1 := HLB.out; have h2 := HRM.out; rw [← hln]; omega
        generalize L ++ [UInt8.ofNat r.n] ++ r.b = L2 at *
        have HN11 := Lib.hid hN11
        have HL2 := Lib.hid hL2
        have HB2 := Lib.hid hB2
        clear ho hg hat hN11 hf11 hL2 hln hB2 hHeld
        go_wp2
        go_roundw
        case rel => exact ⟨j + 1, A11, c11, L2, by omega, by go_num, rfl, HL2, HB2, HN11⟩
        case measure => simp [intOf]; omega
      · have hjk : j = k := by omega
        have HLF : Hid (L = enc k ++ encRw (rs.map (·.b))) := Lib.hid (by have h := HLE.out; rwa [hjk, List.take_of_length_le (by rw [List.length_map, HRL.out]; exact Nat.le_refl _)] at h)
        have hd : decide (j < k) = false := by simp; omega
        clear hlt hjk
        have hal0 := HALN.out
        go_wp2_with fail
        refine (within_pos ct ((al.length : Int) + 1) HCT.out.1 HCT.out.2 (by omega) (by omega) wr).mono ?_
        rintro e x3 ⟨rfl, rfl⟩
        obtain ⟨q, hq⟩ : ∃ q : Nat, ct % ((al.length : Int) + 1) = q := ⟨(ct % ((al.length : Int) + 1)).toNat, by have := Int.emod_nonneg ct (b := (al.length : Int) + 1) (by omega); omega⟩
        have hqa : q ≤ al.length := by have := Int.emod_lt_of_pos ct (show (0 : Int) < (al.length : Int) + 1 by omega); omega
        rw [hq]
        clear hq
        have HQA := Lib.hid hqa
        have hac := HAC.out
        have hqc : q ≤ c6 := by omega
        have hq0 : (0 : Int) ≤ q := by omega
        have HFW : Hid (Fr [] wc wr) := Lib.hid (HF3.out.and HNL.out.2.1 (by simp))
        have HG8 := Lib.hid (HG8.out.keep HNL.out.2.1 (by simp))
        have HKR : Hid (KW wr) := Lib.hid (HK.out.keep HFW.out (by simp))
        go_upto_region 18 with (fail)
        refine wp_region_held_drew (S := Fr [] wr) (by kernel_rfl) (Fr.drew (Fr.refl _ wr)) (fun hHeld => ?_)
        generalize wr.drew = y0 at *
        refine row_at (i := 0) rfl (by kernel_rfl) (by rfl) _ _ rfl _ _ rfl _ (fun w1 hw1 => hw1.range (HG8.out.range) (by first | (simp; done) | exact HNS.out | exact HNW.out | (intro hm; have hlt := HSB.out _ hm; (try dsimp only at hlt); omega))) (HRH.out) (fun _ _ _ h => h) hHeld ?_
        simp only [Act.put, List.setIfInBounds_toArray, List.set_cons_zero, List.set_cons_succ]
        refine run_at (i := 1) (v := ?_) rfl (by kernel_rfl) (by rfl) (fun _ _ _ h => h) hHeld (fun w1 hw1 => ?_) ?_
        rotate_left 1
        · skip
          go_simp
          (try (first | with_reducible rfl | (apply And.intro <;> rfl)))
        simp only [Act.put, List.setIfInBounds_toArray, List.set_cons_zero, List.set_cons_succ]
        refine call_at (i := 2) (f := ?_) (args := ?_) rfl (by kernel_rfl) (by rfl) ?_ ?_
        rotate_left 2
        · go_simp
          (try (first | with_reducible rfl | (apply And.intro <;> rfl)))
        refine (sum_any A9 L.length c9 L y0 ((NewB.by HNL.out).keep hHeld (by simp)) (NewB.cap HNL.out) (by have := HLB.out; omega) (HKR.out.keep hHeld (by simp))).mono ?_
        rw [show sumL L = H1 by rw [HLF.out, HH1.out]]
        rintro e_ y1 ⟨rfl, hf⟩
        refine ⟨_, rfl, hHeld.and hf (by simp), fun hHeld => ?_⟩
        clear hf
        simp only [Act.put, List.setIfInBounds_toArray, List.set_cons_zero, List.set_cons_succ]
        refine eql_at (i := 3) rfl (by kernel_rfl) (by rfl) _ _ _ _ rfl _ _ rfl rfl _ (by kernel_rfl) (fun W => eql_h H1 HSL.out W) (fun _ _ _ h => h) hHeld ?_
        simp only [Act.put, List.setIfInBounds_toArray, List.set_cons_zero, List.set_cons_succ]
        refine run_at (i := 4) (v := ?_) rfl (by kernel_rfl) (by rfl) (fun _ _ _ h => h) hHeld (fun w1 hw1 => ?_) ?_
        rotate_left 1
        · skip
          go_simp
          (try (first | with_reducible rfl | (apply And.intro <;> rfl)))
        simp only [Act.put, List.setIfInBounds_toArray, List.set_cons_zero, List.set_cons_succ]
        refine run_at (i := 5) (v := ?_) rfl (by kernel_rfl) (by rfl) (fun _ _ _ h => h) hHeld (fun w1 hw1 => ?_) ?_
        rotate_left 1
        · skip
          go_simp
          (try (first | with_reducible rfl | (apply And.intro <;> rfl)))
        simp only [Act.put, List.setIfInBounds_toArray, List.set_cons_zero, List.set_cons_succ]
        refine run_at (i := 9) (v := ?_) rfl (by kernel_rfl) (by rfl) (fun _ _ _ h => h) hHeld (fun w1 hw1 => ?_) ?_
        rotate_left 1
        · skip
          go_simp
          (try (first | with_reducible rfl | (apply And.intro <;> rfl)))
        simp only [Act.put, List.setIfInBounds_toArray, List.set_cons_zero, List.set_cons_succ]
        have HA6L : Hid (∀ x ∈ bk A6, x < wr.heap.size) := Lib.hid (fun x hx => Nat.lt_of_lt_of_le (own_lt HO6.out x (by rw [bk_mem]; exact hx)) HFW.out.size)
        have HENL : Hid ((enc al.length).length ≤ 10) := Lib.hid (enc_ten (by have := HALN.out; have := HK5.out; omega))
        obtain ⟨X1, hX1⟩ : ∃ X1, X1 = enc al.length ++ al := ⟨_, rfl⟩
        have HX1L : Hid (X1.length ≤ 250) := Lib.hid (by rw [hX1, List.length_append]; have := HENL.out; have := HALN.out; have := HK5.out; omega)
        have HRO : Hid (∀ W (h : Fr [] wr W), Calls Tryd.prog 13 #[.slice A6 al.length c6] W fun e w' => ∃ A' c', e = .returned (.slice A' X1.length c') ∧ NewB W w' A' X1.length c' X1) := Lib.hid (fun W h => by
          have hr := rowOf_any A6 al.length c6 al W (HYA.out W (HFW.out.and h (by simp))) (fun x hx => Nat.lt_of_lt_of_le (HA6L.out x hx) h.size) (by have := HALN.out; have := HK5.out; omega)
          rw [← hX1] at hr
          exact hr)
        have hsl2 : (sumL ([UInt8.ofNat 1] ++ X1)).length = 32 := sumL_len _
        obtain ⟨H2, hH2⟩ : ∃ H2, H2 = sumL ([UInt8.ofNat 1] ++ X1) := ⟨_, rfl⟩
        have HH2 : Hid (sumL ([UInt8.ofNat 1] ++ X1) = H2) := Lib.hid hH2.symm
        rw [← hH2] at hsl2
        have HSL2 := Lib.hid hsl2
        have HE1 : Hid (sumL (enc 1 ++ encRw ([(⟨A6, al.length, c6, al⟩ : RowV)].map (·.b))) = H2) := Lib.hid (by rw [hH2, hX1, enc_small (by decide)]; simp [encRw])
        clear hsl2 hH2 hX1
        have HRS1 : Hid (∀ W (h : Fr [] wr W) g, Blk W g 23 #[(⟨A6, al.length, c6, al⟩ : RowV).val] → Calls Tryd.prog 9 #[.slice (some ⟨g, 0, none⟩) 1 1] W fun e w' => e = .returned (.agg (H2.map by8).toArray) ∧ Fr [] W w') := Lib.hid (fun W h g hb => by
          have hr := sharows_any (some ⟨g, 0, none⟩) 1 1 [⟨A6, al.length, c6, al⟩] W (rws_one hb (HYA.out W (HFW.out.and h (by simp))) (by have := HALN.out; have := HK5.out; show al.length ≤ 300; omega) (fun x hx => Nat.lt_of_lt_of_le (HA6L.out x hx) h.size)) (HKR.out.keep h (by simp))
          rw [HE1.out] at hr
          exact hr)
        have hlt1 : (al.take q).length = q := by rw [List.length_take]; have := HQA.out; omega
        have hld1 : (al.drop q).length = al.length - q := List.length_drop
        have hA0 := HALN.out
        have hA1 := HK5.out
        have hen1 : (enc q).length ≤ 10 := enc_ten (by have := HQA.out; omega)
        have hen2 : (enc (al.length - q)).length ≤ 10 := enc_ten (by omega)
        obtain ⟨Y1, hY1⟩ : ∃ Y1, Y1 = enc q ++ al.take q := ⟨_, rfl⟩
        obtain ⟨Y2, hY2⟩ : ∃ Y2, Y2 = enc (al.length - q) ++ al.drop q := ⟨_, rfl⟩
        have HY1L : Hid (Y1.length ≤ 250) := Lib.hid (by rw [hY1, List.length_append, hlt1]; have := HQA.out; omega)
        have HY2L : Hid (Y2.length ≤ 250) := Lib.hid (by rw [hY2, List.length_append, hld1]; omega)
        have HCL : Hid (∀ x ∈ bk (if c6 = q then A6 else A6.map (·.add q)), x < wr.heap.size) := Lib.hid (by
          intro x hx
          split at hx
          · exact HA6L.out x hx
          · rw [bk_add] at hx; exact HA6L.out x hx)
        have HROA : Hid (∀ W (h : Fr [] wr W), Calls Tryd.prog 13 #[.slice A6 q c6] W fun e w' => ∃ A' c', e = .returned (.slice A' Y1.length c') ∧ NewB W w' A' Y1.length c' Y1) := Lib.hid (fun W h => by
          have hr := rowOf_any A6 q c6 (al.take q) W ((HYA.out W (HFW.out.and h (by simp))).take HQA.out) (fun x hx => Nat.lt_of_lt_of_le (HA6L.out x hx) h.size) (by have := HQA.out; omega)
          rw [← hY1] at hr
          exact hr)
        have HROB : Hid (∀ W (h : Fr [] wr W), Calls Tryd.prog 13 #[.slice (if c6 = q then A6 else A6.map (·.add q)) (al.length - q) (c6 - q)] W fun e w' => ∃ A' c', e = .returned (.slice A' Y2.length c') ∧ NewB W w' A' Y2.length c' Y2) := Lib.hid (fun W h => by
          have hr := rowOf_any (if c6 = q then A6 else A6.map (·.add q)) (al.length - q) (c6 - q) (al.drop q) W ((HYA.out W (HFW.out.and h (by simp))).cut HQA.out HAC.out) (fun x hx => Nat.lt_of_lt_of_le (HCL.out x hx) h.size) (by omega)
          rw [← hY2] at hr
          exact hr)
        have hsl3 : (sumL ([UInt8.ofNat 2] ++ Y1 ++ Y2)).length = 32 := sumL_len _
        obtain ⟨H3, hH3⟩ : ∃ H3, H3 = sumL ([UInt8.ofNat 2] ++ Y1 ++ Y2) := ⟨_, rfl⟩
        have HH3 : Hid (sumL ([UInt8.ofNat 2] ++ Y1 ++ Y2) = H3) := Lib.hid hH3.symm
        rw [← hH3] at hsl3
        have HSL3 := Lib.hid hsl3
        have HE2 : Hid (sumL (enc 2 ++ encRw ([(⟨A6, q, c6, al.take q⟩ : RowV), (⟨(if c6 = q then A6 else A6.map (·.add q)), al.length - q, c6 - q, al.drop q⟩ : RowV)].map (·.b))) = H3) := Lib.hid (by rw [hH3, hY1, hY2, enc_small (by decide)]; simp [encRw, Nat.min_eq_left HQA.out])
        have HRS2 : Hid (∀ W (h : Fr [] wr W) g, Blk W g 23 #[(⟨A6, q, c6, al.take q⟩ : RowV).val, (⟨(if c6 = q then A6 else A6.map (·.add q)), al.length - q, c6 - q, al.drop q⟩ : RowV).val] → Calls Tryd.prog 9 #[.slice (some ⟨g, 0, none⟩) 2 2] W fun e w' => e = .returned (.agg (H3.map by8).toArray) ∧ Fr [] W w') := Lib.hid (fun W h g hb => by
          have hr := sharows_any (some ⟨g, 0, none⟩) 2 2 [⟨A6, q, c6, al.take q⟩, ⟨(if c6 = q then A6 else A6.map (·.add q)), al.length - q, c6 - q, al.drop q⟩] W (rws_two hb ((HYA.out W (HFW.out.and h (by simp))).take HQA.out) (by have := HQA.out; show q ≤ 300; omega) (fun x hx => Nat.lt_of_lt_of_le (HA6L.out x hx) h.size) ((HYA.out W (HFW.out.and h (by simp))).cut HQA.out HAC.out) (by show al.length - q ≤ 300; omega) (fun x hx => Nat.lt_of_lt_of_le (HCL.out x hx) h.size)) (HKR.out.keep h (by simp))
          rw [HE2.out] at hr
          exact hr)
        clear hsl3 hH3 hY1 hY2 hlt1 hld1 hen1 hen2 hA0 hA1
        refine share5 (F := fun y _ bb AA _ => Fr [] wr y ∧ Blk y bb 5 (([UInt8.ofNat 1] : List UInt8).map by8).toArray ∧ wr.heap.size ≤ bb ∧ By y AA X1.length X1) (T := ?LA) (fun REST => ?LAM) ?LAR
        case LAM =>
          refine two_at (i := 6) (j := 8) rfl rfl (by kernel_rfl) (by rfl) (by rfl) (fun K hK => ?_) (fun K hK => ?_)
          · skip
            have hHS := hHeld
            refine wp_run (v := ?_) (w' := ?_) ?_ ?_
            rotate_left 2
            · go_simp
              (try (first | with_reducible rfl | (apply And.intro <;> rfl)))
            refine hK.out _ (y1.alloc (Obj.cells #[.slice A6 al.length c6] 23)) (hHeld.alloc _) (fun hHeld => ?_)
            clear hK K
            simp only [Act.put, List.setIfInBounds_toArray, List.set_cons_zero, List.set_cons_succ]
            have hfx : Fr [] y1 (y1.alloc (Obj.cells #[.slice A6 al.length c6] 23)) := (Fr.refl [] y1).alloc _
            have HB6 : Hid (Blk (y1.alloc (Obj.cells #[.slice A6 al.length c6] 23)) y1.heap.size 23 #[(⟨A6, al.length, c6, al⟩ : RowV).val]) := Lib.hid (Blk.new _ _ _)
            have HB6G : Hid (wr.heap.size ≤ y1.heap.size) := Lib.hid (by have h1 := hHeld.size; have h2 := hfx.size; have h3 := hHS.size; omega)
            clear hfx
            generalize y1.alloc (Obj.cells #[.slice A6 al.length c6] 23) = y12 at *
            generalize y1.heap.size = b6 at *
            clear hHS
            refine two_at (i := 7) (j := 8) rfl rfl (by kernel_rfl) (by rfl) (by rfl) (fun K hK => ?_) (fun K hK => ?_)
            · skip
              refine wp_call (f := ?_) (args := ?_) ?_ ?_
              rotate_left 2
              · go_simp
                (try (first | with_reducible rfl | (apply And.intro <;> rfl)))
              refine (HRS1.out y12 hHeld b6 HB6.out).mono ?_
              rintro e_ y13 ⟨rfl, hf⟩
              refine ⟨_, rfl, ?_⟩
              refine hK.out _ _ (hHeld.and hf (by simp)) (fun hHeld => ?_)
              clear hK K
              have HB6 := Lib.hid (HB6.out.keep hf (by simp))
              clear hf
              simp only [Act.put, List.setIfInBounds_toArray, List.set_cons_zero, List.set_cons_succ]
              refine two_at (i := 8) (j := 10) rfl rfl (by kernel_rfl) (by rfl) (by rfl) (fun K hK => ?_) (fun K hK => ?_)
              · skip
                have hHS := hHeld
                refine wp_run (v := ?_) (w' := ?_) ?_ ?_
                rotate_left 2
                · go_simp
                  (try (first | with_reducible rfl | (apply And.intro <;> rfl)))
                refine hK.out _ (y13.alloc (Obj.cells #[.int .u8 1] 5)) (hHeld.alloc _) (fun hHeld => ?_)
                clear hK K
                simp only [Act.put, List.setIfInBounds_toArray, List.set_cons_zero, List.set_cons_succ]
                have hfx : Fr [] y13 (y13.alloc (Obj.cells #[.int .u8 1] 5)) := (Fr.refl [] y13).alloc _
                have HB6 := Lib.hid (HB6.out.keep hfx (by simp))
                have HB8 : Hid (Blk (y13.alloc (Obj.cells #[.int .u8 1] 5)) y13.heap.size 5 (([UInt8.ofNat 1] : List UInt8).map by8).toArray) := Lib.hid (Blk.new _ _ _)
                have HB8G : Hid (wr.heap.size ≤ y13.heap.size) := Lib.hid (by have h1 := hHeld.size; have h2 := hfx.size; have h3 := hHS.size; omega)
                clear hfx
                generalize y13.alloc (Obj.cells #[.int .u8 1] 5) = y16 at *
                generalize y13.heap.size = b8 at *
                clear hHS
                refine call_at (i := 10) (f := ?_) (args := ?_) rfl (by kernel_rfl) (by rfl) ?_ ?_
                rotate_left 2
                · go_simp
                  (try (first | with_reducible rfl | (apply And.intro <;> rfl)))
                refine (HRO.out y16 hHeld).mono ?_
                rintro e_ y17 ⟨A10, c10, rfl, hn⟩
                refine ⟨_, rfl, hHeld.and hn.2.1 (by simp), fun hHeld => ?_⟩
                have HB6 := Lib.hid (HB6.out.keep hn.2.1 (by simp))
                have HB8 := Lib.hid (HB8.out.keep hn.2.1 (by simp))
                have HY10 := Lib.hid hn.by
                clear hn
                simp only [Act.put, List.setIfInBounds_toArray, List.set_cons_zero, List.set_cons_succ]
                refine done_eq (d := #[true, true, true, true, true, true, true, true, true, true, true, false, false, false, false, false, false, false, false, false, false, false, false, false, false, false, false, false, false, false, false, false, false, false, false, false, false, false, false, false, false, false]) (by kernel_rfl) ?_
                exact REST y17 b6 b8 A10 c10 ⟨hHeld, HB8.out, HB8G.out, HY10.out⟩
              · skip
                refine wp_call (f := ?_) (args := ?_) ?_ ?_
                rotate_left 2
                · go_simp
                  (try (first | with_reducible rfl | (apply And.intro <;> rfl)))
                refine (HRO.out y13 hHeld).mono ?_
                rintro e_ y14 ⟨A10, c10, rfl, hn⟩
                refine ⟨_, rfl, ?_⟩
                refine hK.out _ _ (hHeld.and hn.2.1 (by simp)) (fun hHeld => ?_)
                clear hK K
                have HB6 := Lib.hid (HB6.out.keep hn.2.1 (by simp))
                have HY10 := Lib.hid hn.by
                clear hn
                simp only [Act.put, List.setIfInBounds_toArray, List.set_cons_zero, List.set_cons_succ]
                have hHS := hHeld
                refine step_at (i := 8) rfl (by kernel_rfl) (by rfl) (fun K hK => ?_)
                refine wp_run (v := ?_) (w' := ?_) ?_ ?_
                rotate_left 2
                · go_simp
                  (try (first | with_reducible rfl | (apply And.intro <;> rfl)))
                refine hK.out _ (y14.alloc (Obj.cells #[.int .u8 1] 5)) (hHeld.alloc _) (fun hHeld => ?_)
                clear hK K
                simp only [Act.put, List.setIfInBounds_toArray, List.set_cons_zero, List.set_cons_succ]
                have hfx : Fr [] y14 (y14.alloc (Obj.cells #[.int .u8 1] 5)) := (Fr.refl [] y14).alloc _
                have HB6 := Lib.hid (HB6.out.keep hfx (by simp))
                have HY10 := Lib.hid (HY10.out.keep hfx (by simp))
                have HB8 : Hid (Blk (y14.alloc (Obj.cells #[.int .u8 1] 5)) y14.heap.size 5 (([UInt8.ofNat 1] : List UInt8).map by8).toArray) := Lib.hid (Blk.new _ _ _)
                have HB8G : Hid (wr.heap.size ≤ y14.heap.size) := Lib.hid (by have h1 := hHeld.size; have h2 := hfx.size; have h3 := hHS.size; omega)
                clear hfx
                generalize y14.alloc (Obj.cells #[.int .u8 1] 5) = y15 at *
                generalize y14.heap.size = b8 at *
                clear hHS
                refine done_eq (d := #[true, true, true, true, true, true, true, true, true, true, true, false, false, false, false, false, false, false, false, false, false, false, false, false, false, false, false, false, false, false, false, false, false, false, false, false, false, false, false, false, false, false]) (by kernel_rfl) ?_
                exact REST y15 b6 b8 A10 c10 ⟨hHeld, HB8.out, HB8G.out, HY10.out⟩
            · skip
              have hHS := hHeld
              refine wp_run (v := ?_) (w' := ?_) ?_ ?_
              rotate_left 2
              · go_simp
                (try (first | with_reducible rfl | (apply And.intro <;> rfl)))
              refine hK.out _ (y12.alloc (Obj.cells #[.int .u8 1] 5)) (hHeld.alloc _) (fun hHeld => ?_)
              clear hK K
              simp only [Act.put, List.setIfInBounds_toArray, List.set_cons_zero, List.set_cons_succ]
              have hfx : Fr [] y12 (y12.alloc (Obj.cells #[.int .u8 1] 5)) := (Fr.refl [] y12).alloc _
              have HB6 := Lib.hid (HB6.out.keep hfx (by simp))
              have HB8 : Hid (Blk (y12.alloc (Obj.cells #[.int .u8 1] 5)) y12.heap.size 5 (([UInt8.ofNat 1] : List UInt8).map by8).toArray) := Lib.hid (Blk.new _ _ _)
              have HB8G : Hid (wr.heap.size ≤ y12.heap.size) := Lib.hid (by have h1 := hHeld.size; have h2 := hfx.size; have h3 := hHS.size; omega)
              clear hfx
              generalize y12.alloc (Obj.cells #[.int .u8 1] 5) = y18 at *
              generalize y12.heap.size = b8 at *
              clear hHS
              refine call_at (i := 7) (f := ?_) (args := ?_) rfl (by kernel_rfl) (by rfl) ?_ ?_
              rotate_left 2
              · go_simp
                (try (first | with_reducible rfl | (apply And.intro <;> rfl)))
              refine (HRS1.out y18 hHeld b6 HB6.out).mono ?_
              rintro e_ y19 ⟨rfl, hf⟩
              refine ⟨_, rfl, hHeld.and hf (by simp), fun hHeld => ?_⟩
              have HB6 := Lib.hid (HB6.out.keep hf (by simp))
              have HB8 := Lib.hid (HB8.out.keep hf (by simp))
              clear hf
              simp only [Act.put, List.setIfInBounds_toArray, List.set_cons_zero, List.set_cons_succ]
              refine call_at (i := 10) (f := ?_) (args := ?_) rfl (by kernel_rfl) (by rfl) ?_ ?_
              rotate_left 2
              · go_simp
                (try (first | with_reducible rfl | (apply And.intro <;> rfl)))
              refine (HRO.out y19 hHeld).mono ?_
              rintro e_ y20 ⟨A10, c10, rfl, hn⟩
              refine ⟨_, rfl, hHeld.and hn.2.1 (by simp), fun hHeld => ?_⟩
              have HB6 := Lib.hid (HB6.out.keep hn.2.1 (by simp))
              have HB8 := Lib.hid (HB8.out.keep hn.2.1 (by simp))
              have HY10 := Lib.hid hn.by
              clear hn
              simp only [Act.put, List.setIfInBounds_toArray, List.set_cons_zero, List.set_cons_succ]
              refine done_eq (d := #[true, true, true, true, true, true, true, true, true, true, true, false, false, false, false, false, false, false, false, false, false, false, false, false, false, false, false, false, false, false, false, false, false, false, false, false, false, false, false, false, false, false]) (by kernel_rfl) ?_
              exact REST y20 b6 b8 A10 c10 ⟨hHeld, HB8.out, HB8G.out, HY10.out⟩
          · skip
            have hHS := hHeld
            refine wp_run (v := ?_) (w' := ?_) ?_ ?_
            rotate_left 2
            · go_simp
              (try (first | with_reducible rfl | (apply And.intro <;> rfl)))
            refine hK.out _ (y1.alloc (Obj.cells #[.int .u8 1] 5)) (hHeld.alloc _) (fun hHeld => ?_)
            clear hK K
            simp only [Act.put, List.setIfInBounds_toArray, List.set_cons_zero, List.set_cons_succ]
            have hfx : Fr [] y1 (y1.alloc (Obj.cells #[.int .u8 1] 5)) := (Fr.refl [] y1).alloc _
            have HB8 : Hid (Blk (y1.alloc (Obj.cells #[.int .u8 1] 5)) y1.heap.size 5 (([UInt8.ofNat 1] : List UInt8).map by8).toArray) := Lib.hid (Blk.new _ _ _)
            have HB8G : Hid (wr.heap.size ≤ y1.heap.size) := Lib.hid (by have h1 := hHeld.size; have h2 := hfx.size; have h3 := hHS.size; omega)
            clear hfx
            generalize y1.alloc (Obj.cells #[.int .u8 1] 5) = y21 at *
            generalize y1.heap.size = b8 at *
            clear hHS
            have hHS := hHeld
            refine step_at (i := 6) rfl (by kernel_rfl) (by rfl) (fun K hK => ?_)
            refine wp_run (v := ?_) (w' := ?_) ?_ ?_
            rotate_left 2
            · go_simp
              (try (first | with_reducible rfl | (apply And.intro <;> rfl)))
            refine hK.out _ (y21.alloc (Obj.cells #[.slice A6 al.length c6] 23)) (hHeld.alloc _) (fun hHeld => ?_)
            clear hK K
            simp only [Act.put, List.setIfInBounds_toArray, List.set_cons_zero, List.set_cons_succ]
            have hfx : Fr [] y21 (y21.alloc (Obj.cells #[.slice A6 al.length c6] 23)) := (Fr.refl [] y21).alloc _
            have HB8 := Lib.hid (HB8.out.keep hfx (by simp))
            have HB6 : Hid (Blk (y21.alloc (Obj.cells #[.slice A6 al.length c6] 23)) y21.heap.size 23 #[(⟨A6, al.length, c6, al⟩ : RowV).val]) := Lib.hid (Blk.new _ _ _)
            have HB6G : Hid (wr.heap.size ≤ y21.heap.size) := Lib.hid (by have h1 := hHeld.size; have h2 := hfx.size; have h3 := hHS.size; omega)
            clear hfx
            generalize y21.alloc (Obj.cells #[.slice A6 al.length c6] 23) = y22 at *
            generalize y21.heap.size = b6 at *
            clear hHS
            refine call_at (i := 7) (f := ?_) (args := ?_) rfl (by kernel_rfl) (by rfl) ?_ ?_
            rotate_left 2
            · go_simp
              (try (first | with_reducible rfl | (apply And.intro <;> rfl)))
            refine (HRS1.out y22 hHeld b6 HB6.out).mono ?_
            rintro e_ y23 ⟨rfl, hf⟩
            refine ⟨_, rfl, hHeld.and hf (by simp), fun hHeld => ?_⟩
            have HB8 := Lib.hid (HB8.out.keep hf (by simp))
            have HB6 := Lib.hid (HB6.out.keep hf (by simp))
            clear hf
            simp only [Act.put, List.setIfInBounds_toArray, List.set_cons_zero, List.set_cons_succ]
            refine call_at (i := 10) (f := ?_) (args := ?_) rfl (by kernel_rfl) (by rfl) ?_ ?_
            rotate_left 2
            · go_simp
              (try (first | with_reducible rfl | (apply And.intro <;> rfl)))
            refine (HRO.out y23 hHeld).mono ?_
            rintro e_ y24 ⟨A10, c10, rfl, hn⟩
            refine ⟨_, rfl, hHeld.and hn.2.1 (by simp), fun hHeld => ?_⟩
            have HB8 := Lib.hid (HB8.out.keep hn.2.1 (by simp))
            have HB6 := Lib.hid (HB6.out.keep hn.2.1 (by simp))
            have HY10 := Lib.hid hn.by
            clear hn
            simp only [Act.put, List.setIfInBounds_toArray, List.set_cons_zero, List.set_cons_succ]
            refine done_eq (d := #[true, true, true, true, true, true, true, true, true, true, true, false, false, false, false, false, false, false, false, false, false, false, false, false, false, false, false, false, false, false, false, false, false, false, false, false, false, false, false, false, false, false]) (by kernel_rfl) ?_
            exact REST y24 b6 b8 A10 c10 ⟨hHeld, HB8.out, HB8G.out, HY10.out⟩
        case LAR =>
          intro y11 b6 b8 A10 c10 ⟨hHeld, hb8, hg8, hy10⟩
          have HB8 := Lib.hid hb8
          have HB8G := Lib.hid hg8
          have HY10 := Lib.hid hy10
          clear hb8 hg8 hy10
          refine step_at (i := 11) rfl (by kernel_rfl) (by rfl) (fun K hK => ?_)
          refine wp_append_bytes _ _ _ _ rfl 5 Tryd.underlying23 info_u8 (.slice (some ⟨b8, 0, none⟩) 1 1) (1) ([UInt8.ofNat 1]) rfl ((own_blk HB8.out (show 1 ≤ 2 ^ 63 - 1 by decide))) A10 (X1).length c10 (X1) rfl HY10.out (by have := HX1L.out; omega) ?_
          intro A11 c11 y25 ho hg hat
          have hNX := NewB.grow (w := wr) hHeld (by intro x hx; simp [bk] at hx; subst hx; exact HB8G.out) ho hg hat
          refine hK.out _ _ hNX.2.1 (fun hHeld => ?_)
          clear hK K
          have HN11 := Lib.hid hNX
          clear hNX ho hg hat
          simp only [Act.put, List.setIfInBounds_toArray, List.set_cons_zero, List.set_cons_succ]
          refine call_at (i := 12) (f := ?_) (args := ?_) rfl (by kernel_rfl) (by rfl) ?_ ?_
          rotate_left 2
          · go_simp
            (try (first | with_reducible rfl | (apply And.intro <;> rfl)))
          refine (sum_any A11 (1 + X1.length) c11 ([UInt8.ofNat 1] ++ X1) y25 (NewB.by HN11.out) (NewB.cap HN11.out) (by have := HX1L.out; omega) (HKR.out.keep hHeld (by simp))).mono ?_
          rw [HH2.out]
          rintro e_ y26 ⟨rfl, hf⟩
          refine ⟨_, rfl, hHeld.and hf (by simp), fun hHeld => ?_⟩
          clear hf HN11 HY10 HB8 HB8G
          simp only [Act.put, List.setIfInBounds_toArray, List.set_cons_zero, List.set_cons_succ]
          refine eql_at (i := 13) rfl (by kernel_rfl) (by rfl) _ _ _ _ rfl _ _ rfl rfl _ (by kernel_rfl) (fun W => eql_h H2 HSL2.out W) (fun _ _ _ h => h) hHeld ?_
          simp only [Act.put, List.setIfInBounds_toArray, List.set_cons_zero, List.set_cons_succ]
          refine run_at (i := 14) (v := ?_) rfl (by kernel_rfl) (by rfl) (fun _ _ _ h => h) hHeld (fun w1 hw1 => ?_) ?_
          rotate_left 1
          · skip
            go_simp
            (try (first | with_reducible rfl | (apply And.intro <;> rfl)))
          simp only [Act.put, List.setIfInBounds_toArray, List.set_cons_zero, List.set_cons_succ]
          refine run_at (i := 15) (v := ?_) rfl (by kernel_rfl) (by rfl) (fun _ _ _ h => h) hHeld (fun w1 hw1 => ?_) ?_
          rotate_left 1
          · skip
            go_simp
            (try (first | with_reducible rfl | (apply And.intro <;> rfl)))
          simp only [Act.put, List.setIfInBounds_toArray, List.set_cons_zero, List.set_cons_succ]
          refine run_at (i := 16) (v := ?_) rfl (by kernel_rfl) (by rfl) (fun _ _ _ h => h) hHeld (fun w1 hw1 => ?_) ?_
          rotate_left 1
          · skip
            go_simp
            (try (first | with_reducible rfl | (apply And.intro <;> rfl)))
          simp only [Act.put, List.setIfInBounds_toArray, List.set_cons_zero, List.set_cons_succ]
          refine run_at (i := 17) (v := ?_) rfl (by kernel_rfl) (by rfl) (fun _ _ _ h => h) hHeld (fun w1 hw1 => ?_) ?_
          rotate_left 1
          · skip
            go_simp
            (try (first | with_reducible rfl | (apply And.intro <;> rfl)))
          simp only [Act.put, List.setIfInBounds_toArray, List.set_cons_zero, List.set_cons_succ]
          refine run_at (i := 18) (v := ?_) rfl (by kernel_rfl) (by rfl) (fun _ _ _ h => h) hHeld (fun w1 hw1 => ?_) ?_
          rotate_left 1
          · skip
            go_simp
            (try (first | with_reducible rfl | (apply And.intro <;> rfl)))
          simp only [Act.put, List.setIfInBounds_toArray, List.set_cons_zero, List.set_cons_succ]
          refine run_at (i := 19) (v := ?_) rfl (by kernel_rfl) (by rfl) (fun _ _ _ h => h) hHeld (fun w1 hw1 => ?_) ?_
          rotate_left 1
          · skip
            go_simp
            (try (first | with_reducible rfl | (apply And.intro <;> rfl)))
          simp only [Act.put, List.setIfInBounds_toArray, List.set_cons_zero, List.set_cons_succ]
          refine run_at (i := 20) (v := ?_) rfl (by kernel_rfl) (by rfl) (fun _ _ _ h => h) hHeld (fun w1 hw1 => ?_) ?_
          rotate_left 1
          · skip
            go_simp
            (try (first | with_reducible rfl | (apply And.intro <;> rfl)))
          simp only [Act.put, List.setIfInBounds_toArray, List.set_cons_zero, List.set_cons_succ]
          refine run_at (i := 21) (v := ?_) rfl (by kernel_rfl) (by rfl) (fun _ _ _ h => h) hHeld (fun w1 hw1 => ?_) ?_
          rotate_left 1
          · skip
            go_simp
            (try (first | with_reducible rfl | (apply And.intro <;> rfl)))
          simp only [Act.put, List.setIfInBounds_toArray, List.set_cons_zero, List.set_cons_succ]
          refine run_at (i := 25) (v := ?_) rfl (by kernel_rfl) (by rfl) (fun _ _ _ h => h) hHeld (fun w1 hw1 => ?_) ?_
          rotate_left 1
          · skip
            go_simp
            (try (first | with_reducible rfl | (apply And.intro <;> rfl)))
          simp only [Act.put, List.setIfInBounds_toArray, List.set_cons_zero, List.set_cons_succ]
          refine run_at (i := 26) (v := ?_) rfl (by kernel_rfl) (by rfl) (fun _ _ _ h => h) hHeld (fun w1 hw1 => ?_) ?_
          rotate_left 1
          · skip
            go_simp
            (try (first | with_reducible rfl | (apply And.intro <;> rfl)))
          simp only [Act.put, List.setIfInBounds_toArray, List.set_cons_zero, List.set_cons_succ]
          refine run_at (i := 27) (v := ?_) rfl (by kernel_rfl) (by rfl) (fun _ _ _ h => h) hHeld (fun w1 hw1 => ?_) ?_
          rotate_left 1
          · skip
            go_simp
            (try (first | with_reducible rfl | (apply And.intro <;> rfl)))
          simp only [Act.put, List.setIfInBounds_toArray, List.set_cons_zero, List.set_cons_succ]
          refine run_at (i := 30) (v := ?_) rfl (by kernel_rfl) (by rfl) (fun _ _ _ h => h) hHeld (fun w1 hw1 => ?_) ?_
          rotate_left 1
          · skip
            go_simp
            (try (first | with_reducible rfl | (apply And.intro <;> rfl)))
          simp only [Act.put, List.setIfInBounds_toArray, List.set_cons_zero, List.set_cons_succ]
          refine run_at (i := 31) (v := ?_) rfl (by kernel_rfl) (by rfl) (fun _ _ _ h => h) hHeld (fun w1 hw1 => ?_) ?_
          rotate_left 1
          · skip
            go_simp
            (try (first | with_reducible rfl | (apply And.intro <;> rfl)))
          simp only [Act.put, List.setIfInBounds_toArray, List.set_cons_zero, List.set_cons_succ]
          refine run_at (i := 32) (v := ?_) rfl (by kernel_rfl) (by rfl) (fun _ _ _ h => h) hHeld (fun w1 hw1 => ?_) ?_
          rotate_left 1
          · skip
            go_simp
            (try (first | with_reducible rfl | (apply And.intro <;> rfl)))
          simp only [Act.put, List.setIfInBounds_toArray, List.set_cons_zero, List.set_cons_succ]
          refine share5 (F := fun y _ bb AA _ => Fr [] wr y ∧ Blk y bb 5 (([UInt8.ofNat 2] : List UInt8).map by8).toArray ∧ wr.heap.size ≤ bb ∧ By y AA Y1.length Y1) (T := ?LB) (fun REST => ?LBM) ?LBR
          case LBM =>
            refine two_at (i := 22) (j := 24) rfl rfl (by kernel_rfl) (by rfl) (by rfl) (fun K hK => ?_) (fun K hK => ?_)
            · skip
              have hHS := hHeld
              refine wp_run (v := ?_) (w' := ?_) ?_ ?_
              rotate_left 2
              · go_simp
                (try (first | with_reducible rfl | (apply And.intro <;> rfl)))
              refine hK.out _ (y26.alloc (Obj.cells #[.slice A6 q c6, .slice (if c6 = q then A6 else A6.map (·.add q)) (al.length - q) (c6 - q)] 23)) (hHeld.alloc _) (fun hHeld => ?_)
              clear hK K
              simp only [Act.put, List.setIfInBounds_toArray, List.set_cons_zero, List.set_cons_succ]
              have hfx : Fr [] y26 (y26.alloc (Obj.cells #[.slice A6 q c6, .slice (if c6 = q then A6 else A6.map (·.add q)) (al.length - q) (c6 - q)] 23)) := (Fr.refl [] y26).alloc _
              have HB22 : Hid (Blk (y26.alloc (Obj.cells #[.slice A6 q c6, .slice (if c6 = q then A6 else A6.map (·.add q)) (al.length - q) (c6 - q)] 23)) y26.heap.size 23 #[(⟨A6, q, c6, al.take q⟩ : RowV).val, (⟨(if c6 = q then A6 else A6.map (·.add q)), al.length - q, c6 - q, al.drop q⟩ : RowV).val]) := Lib.hid (Blk.new _ _ _)
              have HB22G : Hid (wr.heap.size ≤ y26.heap.size) := Lib.hid (by have h1 := hHeld.size; have h2 := hfx.size; have h3 := hHS.size; omega)
              clear hfx
              generalize y26.alloc (Obj.cells #[.slice A6 q c6, .slice (if c6 = q then A6 else A6.map (·.add q)) (al.length - q) (c6 - q)] 23) = y28 at *
              generalize y26.heap.size = b22 at *
              clear hHS
              refine two_at (i := 23) (j := 24) rfl rfl (by kernel_rfl) (by rfl) (by rfl) (fun K hK => ?_) (fun K hK => ?_)
              · skip
                refine wp_call (f := ?_) (args := ?_) ?_ ?_
                rotate_left 2
                · go_simp
                  (try (first | with_reducible rfl | (apply And.intro <;> rfl)))
                refine (HRS2.out y28 hHeld b22 HB22.out).mono ?_
                rintro e_ y29 ⟨rfl, hf⟩
                refine ⟨_, rfl, ?_⟩
                refine hK.out _ _ (hHeld.and hf (by simp)) (fun hHeld => ?_)
                clear hK K
                have HB22 := Lib.hid (HB22.out.keep hf (by simp))
                clear hf
                simp only [Act.put, List.setIfInBounds_toArray, List.set_cons_zero, List.set_cons_succ]
                refine two_at (i := 24) (j := 28) rfl rfl (by kernel_rfl) (by rfl) (by rfl) (fun K hK => ?_) (fun K hK => ?_)
                · skip
                  have hHS := hHeld
                  refine wp_run (v := ?_) (w' := ?_) ?_ ?_
                  rotate_left 2
                  · go_simp
                    (try (first | with_reducible rfl | (apply And.intro <;> rfl)))
                  refine hK.out _ (y29.alloc (Obj.cells #[.int .u8 2] 5)) (hHeld.alloc _) (fun hHeld => ?_)
                  clear hK K
                  simp only [Act.put, List.setIfInBounds_toArray, List.set_cons_zero, List.set_cons_succ]
                  have hfx : Fr [] y29 (y29.alloc (Obj.cells #[.int .u8 2] 5)) := (Fr.refl [] y29).alloc _
                  have HB22 := Lib.hid (HB22.out.keep hfx (by simp))
                  have HB24 : Hid (Blk (y29.alloc (Obj.cells #[.int .u8 2] 5)) y29.heap.size 5 (([UInt8.ofNat 2] : List UInt8).map by8).toArray) := Lib.hid (Blk.new _ _ _)
                  have HB24G : Hid (wr.heap.size ≤ y29.heap.size) := Lib.hid (by have h1 := hHeld.size; have h2 := hfx.size; have h3 := hHS.size; omega)
                  clear hfx
                  generalize y29.alloc (Obj.cells #[.int .u8 2] 5) = y32 at *
                  generalize y29.heap.size = b24 at *
                  clear hHS
                  refine call_at (i := 28) (f := ?_) (args := ?_) rfl (by kernel_rfl) (by rfl) ?_ ?_
                  rotate_left 2
                  · go_simp
                    (try (first | with_reducible rfl | (apply And.intro <;> rfl)))
                  refine (HROA.out y32 hHeld).mono ?_
                  rintro e_ y33 ⟨A28, c28, rfl, hn⟩
                  refine ⟨_, rfl, hHeld.and hn.2.1 (by simp), fun hHeld => ?_⟩
                  have HB22 := Lib.hid (HB22.out.keep hn.2.1 (by simp))
                  have HB24 := Lib.hid (HB24.out.keep hn.2.1 (by simp))
                  have HY28 := Lib.hid hn.by
                  clear hn
                  simp only [Act.put, List.setIfInBounds_toArray, List.set_cons_zero, List.set_cons_succ]
                  refine done_eq (d := #[true, true, true, true, true, true, true, true, true, true, true, true, true, true, true, true, true, true, true, true, true, true, true, true, true, true, true, true, true, false, true, true, true, false, false, false, false, false, false, false, false, false]) (by kernel_rfl) ?_
                  exact REST y33 b22 b24 A28 c28 ⟨hHeld, HB24.out, HB24G.out, HY28.out⟩
                · skip
                  refine wp_call (f := ?_) (args := ?_) ?_ ?_
                  rotate_left 2
                  · go_simp
                    (try (first | with_reducible rfl | (apply And.intro <;> rfl)))
                  refine (HROA.out y29 hHeld).mono ?_
                  rintro e_ y30 ⟨A28, c28, rfl, hn⟩
                  refine ⟨_, rfl, ?_⟩
                  refine hK.out _ _ (hHeld.and hn.2.1 (by simp)) (fun hHeld => ?_)
                  clear hK K
                  have HB22 := Lib.hid (HB22.out.keep hn.2.1 (by simp))
                  have HY28 := Lib.hid hn.by
                  clear hn
                  simp only [Act.put, List.setIfInBounds_toArray, List.set_cons_zero, List.set_cons_succ]
                  have hHS := hHeld
                  refine step_at (i := 24) rfl (by kernel_rfl) (by rfl) (fun K hK => ?_)
                  refine wp_run (v := ?_) (w' := ?_) ?_ ?_
                  rotate_left 2
                  · go_simp
                    (try (first | with_reducible rfl | (apply And.intro <;> rfl)))
                  refine hK.out _ (y30.alloc (Obj.cells #[.int .u8 2] 5)) (hHeld.alloc _) (fun hHeld => ?_)
                  clear hK K
                  simp only [Act.put, List.setIfInBounds_toArray, List.set_cons_zero, List.set_cons_succ]
                  have hfx : Fr [] y30 (y30.alloc (Obj.cells #[.int .u8 2] 5)) := (Fr.refl [] y30).alloc _
                  have HB22 := Lib.hid (HB22.out.keep hfx (by simp))
                  have HY28 := Lib.hid (HY28.out.keep hfx (by simp))
                  have HB24 : Hid (Blk (y30.alloc (Obj.cells #[.int .u8 2] 5)) y30.heap.size 5 (([UInt8.ofNat 2] : List UInt8).map by8).toArray) := Lib.hid (Blk.new _ _ _)
                  have HB24G : Hid (wr.heap.size ≤ y30.heap.size) := Lib.hid (by have h1 := hHeld.size; have h2 := hfx.size; have h3 := hHS.size; omega)
                  clear hfx
                  generalize y30.alloc (Obj.cells #[.int .u8 2] 5) = y31 at *
                  generalize y30.heap.size = b24 at *
                  clear hHS
                  refine done_eq (d := #[true, true, true, true, true, true, true, true, true, true, true, true, true, true, true, true, true, true, true, true, true, true, true, true, true, true, true, true, true, false, true, true, true, false, false, false, false, false, false, false, false, false]) (by kernel_rfl) ?_
                  exact REST y31 b22 b24 A28 c28 ⟨hHeld, HB24.out, HB24G.out, HY28.out⟩
              · skip
                have hHS := hHeld
                refine wp_run (v := ?_) (w' := ?_) ?_ ?_
                rotate_left 2
                · go_simp
                  (try (first | with_reducible rfl | (apply And.intro <;> rfl)))
                refine hK.out _ (y28.alloc (Obj.cells #[.int .u8 2] 5)) (hHeld.alloc _) (fun hHeld => ?_)
                clear hK K
                simp only [Act.put, List.setIfInBounds_toArray, List.set_cons_zero, List.set_cons_succ]
                have hfx : Fr [] y28 (y28.alloc (Obj.cells #[.int .u8 2] 5)) := (Fr.refl [] y28).alloc _
                have HB22 := Lib.hid (HB22.out.keep hfx (by simp))
                have HB24 : Hid (Blk (y28.alloc (Obj.cells #[.int .u8 2] 5)) y28.heap.size 5 (([UInt8.ofNat 2] : List UInt8).map by8).toArray) := Lib.hid (Blk.new _ _ _)
                have HB24G : Hid (wr.heap.size ≤ y28.heap.size) := Lib.hid (by have h1 := hHeld.size; have h2 := hfx.size; have h3 := hHS.size; omega)
                clear hfx
                generalize y28.alloc (Obj.cells #[.int .u8 2] 5) = y34 at *
                generalize y28.heap.size = b24 at *
                clear hHS
                refine call_at (i := 23) (f := ?_) (args := ?_) rfl (by kernel_rfl) (by rfl) ?_ ?_
                rotate_left 2
                · go_simp
                  (try (first | with_reducible rfl | (apply And.intro <;> rfl)))
                refine (HRS2.out y34 hHeld b22 HB22.out).mono ?_
                rintro e_ y35 ⟨rfl, hf⟩
                refine ⟨_, rfl, hHeld.and hf (by simp), fun hHeld => ?_⟩
                have HB22 := Lib.hid (HB22.out.keep hf (by simp))
                have HB24 := Lib.hid (HB24.out.keep hf (by simp))
                clear hf
                simp only [Act.put, List.setIfInBounds_toArray, List.set_cons_zero, List.set_cons_succ]
                refine call_at (i := 28) (f := ?_) (args := ?_) rfl (by kernel_rfl) (by rfl) ?_ ?_
                rotate_left 2
                · go_simp
                  (try (first | with_reducible rfl | (apply And.intro <;> rfl)))
                refine (HROA.out y35 hHeld).mono ?_
                rintro e_ y36 ⟨A28, c28, rfl, hn⟩
                refine ⟨_, rfl, hHeld.and hn.2.1 (by simp), fun hHeld => ?_⟩
                have HB22 := Lib.hid (HB22.out.keep hn.2.1 (by simp))
                have HB24 := Lib.hid (HB24.out.keep hn.2.1 (by simp))
                have HY28 := Lib.hid hn.by
                clear hn
                simp only [Act.put, List.setIfInBounds_toArray, List.set_cons_zero, List.set_cons_succ]
                refine done_eq (d := #[true, true, true, true, true, true, true, true, true, true, true, true, true, true, true, true, true, true, true, true, true, true, true, true, true, true, true, true, true, false, true, true, true, false, false, false, false, false, false, false, false, false]) (by kernel_rfl) ?_
                exact REST y36 b22 b24 A28 c28 ⟨hHeld, HB24.out, HB24G.out, HY28.out⟩
            · skip
              have hHS := hHeld
              refine wp_run (v := ?_) (w' := ?_) ?_ ?_
              rotate_left 2
              · go_simp
                (try (first | with_reducible rfl | (apply And.intro <;> rfl)))
              refine hK.out _ (y26.alloc (Obj.cells #[.int .u8 2] 5)) (hHeld.alloc _) (fun hHeld => ?_)
              clear hK K
              simp only [Act.put, List.setIfInBounds_toArray, List.set_cons_zero, List.set_cons_succ]
              have hfx : Fr [] y26 (y26.alloc (Obj.cells #[.int .u8 2] 5)) := (Fr.refl [] y26).alloc _
              have HB24 : Hid (Blk (y26.alloc (Obj.cells #[.int .u8 2] 5)) y26.heap.size 5 (([UInt8.ofNat 2] : List UInt8).map by8).toArray) := Lib.hid (Blk.new _ _ _)
              have HB24G : Hid (wr.heap.size ≤ y26.heap.size) := Lib.hid (by have h1 := hHeld.size; have h2 := hfx.size; have h3 := hHS.size; omega)
              clear hfx
              generalize y26.alloc (Obj.cells #[.int .u8 2] 5) = y37 at *
              generalize y26.heap.size = b24 at *
              clear hHS
              have hHS := hHeld
              refine step_at (i := 22) rfl (by kernel_rfl) (by rfl) (fun K hK => ?_)
              refine wp_run (v := ?_) (w' := ?_) ?_ ?_
              rotate_left 2
              · go_simp
                (try (first | with_reducible rfl | (apply And.intro <;> rfl)))
              refine hK.out _ (y37.alloc (Obj.cells #[.slice A6 q c6, .slice (if c6 = q then A6 else A6.map (·.add q)) (al.length - q) (c6 - q)] 23)) (hHeld.alloc _) (fun hHeld => ?_)
              clear hK K
              simp only [Act.put, List.setIfInBounds_toArray, List.set_cons_zero, List.set_cons_succ]
              have hfx : Fr [] y37 (y37.alloc (Obj.cells #[.slice A6 q c6, .slice (if c6 = q then A6 else A6.map (·.add q)) (al.length - q) (c6 - q)] 23)) := (Fr.refl [] y37).alloc _
              have HB24 := Lib.hid (HB24.out.keep hfx (by simp))
              have HB22 : Hid (Blk (y37.alloc (Obj.cells #[.slice A6 q c6, .slice (if c6 = q then A6 else A6.map (·.add q)) (al.length - q) (c6 - q)] 23)) y37.heap.size 23 #[(⟨A6, q, c6, al.take q⟩ : RowV).val, (⟨(if c6 = q then A6 else A6.map (·.add q)), al.length - q, c6 - q, al.drop q⟩ : RowV).val]) := Lib.hid (Blk.new _ _ _)
              have HB22G : Hid (wr.heap.size ≤ y37.heap.size) := Lib.hid (by have h1 := hHeld.size; have h2 := hfx.size; have h3 := hHS.size; omega)
              clear hfx
              generalize y37.alloc (Obj.cells #[.slice A6 q c6, .slice (if c6 = q then A6 else A6.map (·.add q)) (al.length - q) (c6 - q)] 23) = y38 at *
              generalize y37.heap.size = b22 at *
              clear hHS
              refine call_at (i := 23) (f := ?_) (args := ?_) rfl (by kernel_rfl) (by rfl) ?_ ?_
              rotate_left 2
              · go_simp
                (try (first | with_reducible rfl | (apply And.intro <;> rfl)))
              refine (HRS2.out y38 hHeld b22 HB22.out).mono ?_
              rintro e_ y39 ⟨rfl, hf⟩
              refine ⟨_, rfl, hHeld.and hf (by simp), fun hHeld => ?_⟩
              have HB24 := Lib.hid (HB24.out.keep hf (by simp))
              have HB22 := Lib.hid (HB22.out.keep hf (by simp))
              clear hf
              simp only [Act.put, List.setIfInBounds_toArray, List.set_cons_zero, List.set_cons_succ]
              refine call_at (i := 28) (f := ?_) (args := ?_) rfl (by kernel_rfl) (by rfl) ?_ ?_
              rotate_left 2
              · go_simp
                (try (first | with_reducible rfl | (apply And.intro <;> rfl)))
              refine (HROA.out y39 hHeld).mono ?_
              rintro e_ y40 ⟨A28, c28, rfl, hn⟩
              refine ⟨_, rfl, hHeld.and hn.2.1 (by simp), fun hHeld => ?_⟩
              have HB24 := Lib.hid (HB24.out.keep hn.2.1 (by simp))
              have HB22 := Lib.hid (HB22.out.keep hn.2.1 (by simp))
              have HY28 := Lib.hid hn.by
              clear hn
              simp only [Act.put, List.setIfInBounds_toArray, List.set_cons_zero, List.set_cons_succ]
              refine done_eq (d := #[true, true, true, true, true, true, true, true, true, true, true, true, true, true, true, true, true, true, true, true, true, true, true, true, true, true, true, true, true, false, true, true, true, false, false, false, false, false, false, false, false, false]) (by kernel_rfl) ?_
              exact REST y40 b22 b24 A28 c28 ⟨hHeld, HB24.out, HB24G.out, HY28.out⟩
          case LBR =>
            intro y27 b22 b24 A28 c28 ⟨hHeld, hb8, hg8, hy10⟩
            have HB24 := Lib.hid hb8
            have HB24G := Lib.hid hg8
            have HY28 := Lib.hid hy10
            clear hb8 hg8 hy10
            refine step_at (i := 29) rfl (by kernel_rfl) (by rfl) (fun K hK => ?_)
            refine wp_append_bytes _ _ _ _ rfl 5 Tryd.underlying23 info_u8 (.slice (some ⟨b24, 0, none⟩) 1 1) (1) ([UInt8.ofNat 2]) rfl ((own_blk HB24.out (show 1 ≤ 2 ^ 63 - 1 by decide))) A28 (Y1).length c28 (Y1) rfl HY28.out (by have := HY1L.out; omega) ?_
            intro A29 c29 y41 ho hg hat
            have hNX := NewB.grow (w := wr) hHeld (by intro x hx; simp [bk] at hx; subst hx; exact HB24G.out) ho hg hat
            refine hK.out _ _ hNX.2.1 (fun hHeld => ?_)
            clear hK K
            have HN29 := Lib.hid hNX
            clear hNX ho hg hat HY28 HB24 HB24G
            simp only [Act.put, List.setIfInBounds_toArray, List.set_cons_zero, List.set_cons_succ]
            refine call_at (i := 33) (f := ?_) (args := ?_) rfl (by kernel_rfl) (by rfl) ?_ ?_
            rotate_left 2
            · go_simp
              (try (first | with_reducible rfl | (apply And.intro <;> rfl)))
            refine (HROB.out y41 hHeld).mono ?_
            rintro e_ y42 ⟨A33, c33, rfl, hn⟩
            have HN29 : Hid (NewB wr y42 A29 (1 + Y1.length) c29 ([UInt8.ofNat 2] ++ Y1)) := Lib.hid ⟨own_keep HN29.out.1 hn.2.1 (by simp), HN29.out.2.1.and hn.2.1 (by simp), HN29.out.2.2⟩
            have HY33 := Lib.hid hn.by
            refine ⟨_, rfl, hHeld.and hn.2.1 (by simp), fun hHeld => ?_⟩
            clear hn
            simp only [Act.put, List.setIfInBounds_toArray, List.set_cons_zero, List.set_cons_succ]
            refine step_at (i := 34) rfl (by kernel_rfl) (by rfl) (fun K hK => ?_)
            refine wp_append_bytes _ _ _ _ rfl 5 Tryd.underlying23 info_u8 (.slice A29 (1 + Y1.length) c29) (1 + Y1.length) ([UInt8.ofNat 2] ++ Y1) rfl (HN29.out.1) A33 (Y2).length c33 (Y2) rfl HY33.out (by have := HY1L.out; have := HY2L.out; omega) ?_
            intro A34 c34 y43 ho hg hat
            have hNX := NewB.grow (w := wr) hHeld HN29.out.2.2 ho hg hat
            refine hK.out _ _ hNX.2.1 (fun hHeld => ?_)
            clear hK K
            have HN34 := Lib.hid hNX
            clear hNX ho hg hat HN29 HY33
            simp only [Act.put, List.setIfInBounds_toArray, List.set_cons_zero, List.set_cons_succ]
            refine call_at (i := 35) (f := ?_) (args := ?_) rfl (by kernel_rfl) (by rfl) ?_ ?_
            rotate_left 2
            · go_simp
              (try (first | with_reducible rfl | (apply And.intro <;> rfl)))
            refine (sum_any A34 (1 + Y1.length + Y2.length) c34 ([UInt8.ofNat 2] ++ Y1 ++ Y2) y43 (NewB.by HN34.out) (NewB.cap HN34.out) (by have := HY1L.out; have := HY2L.out; omega) (HKR.out.keep hHeld (by simp))).mono ?_
            rw [HH3.out]
            rintro e_ y44 ⟨rfl, hf⟩
            refine ⟨_, rfl, hHeld.and hf (by simp), fun hHeld => ?_⟩
            clear hf HN34
            simp only [Act.put, List.setIfInBounds_toArray, List.set_cons_zero, List.set_cons_succ]
            refine eql_at (i := 36) rfl (by kernel_rfl) (by rfl) _ _ _ _ rfl _ _ rfl rfl _ (by kernel_rfl) (fun W => eql_h H3 HSL3.out W) (fun _ _ _ h => h) hHeld ?_
            simp only [Act.put, List.setIfInBounds_toArray, List.set_cons_zero, List.set_cons_succ]
            refine run_at (i := 37) (v := ?_) rfl (by kernel_rfl) (by rfl) (fun _ _ _ h => h) hHeld (fun w1 hw1 => ?_) ?_
            rotate_left 1
            · skip
              go_simp
              (try (first | with_reducible rfl | (apply And.intro <;> rfl)))
            simp only [Act.put, List.setIfInBounds_toArray, List.set_cons_zero, List.set_cons_succ]
            refine run_at (i := 38) (v := ?_) rfl (by kernel_rfl) (by rfl) (fun _ _ _ h => h) hHeld (fun w1 hw1 => ?_) ?_
            rotate_left 1
            · skip
              go_simp
              (try (first | with_reducible rfl | (apply And.intro <;> rfl)))
            simp only [Act.put, List.setIfInBounds_toArray, List.set_cons_zero, List.set_cons_succ]
            refine call_at (i := 39) (f := ?_) (args := ?_) rfl (by kernel_rfl) (by rfl) ?_ ?_
            rotate_left 2
            · go_simp
              (try (first | with_reducible rfl | (apply And.intro <;> rfl)))
            refine (shawakes_any y44 (HKR.out.keep hHeld (by simp))).mono ?_
            rintro e_ y45 ⟨rfl, hf⟩
            refine ⟨_, rfl, hHeld.and hf (by simp), fun hHeld => ?_⟩
            clear hf
            simp only [Act.put, List.setIfInBounds_toArray, List.set_cons_zero, List.set_cons_succ]
            refine run_at (i := 40) (v := ?_) rfl (by kernel_rfl) (by rfl) (fun _ _ _ h => h) hHeld (fun w1 hw1 => ?_) ?_
            rotate_left 1
            · skip
              go_simp
              (try (first | with_reducible rfl | (apply And.intro <;> rfl)))
            simp only [Act.put, List.setIfInBounds_toArray, List.set_cons_zero, List.set_cons_succ]
            refine run_at (i := 41) (v := ?_) rfl (by kernel_rfl) (by rfl) (fun _ _ _ h => h) hHeld (fun w1 hw1 => ?_) ?_
            rotate_left 1
            · skip
              go_simp
              (try (first | with_reducible rfl | (apply And.intro <;> rfl)))
            simp only [Act.put, List.setIfInBounds_toArray, List.set_cons_zero, List.set_cons_succ]
            refine wpAnyH_done (by kernel_rfl) ?_ _
            have HFF : Hid (Fr [] w y45) := Lib.hid ((HF.out.and HFW.out (by simp)).and hHeld (by simp))
            go_wp2
            all_goals
              go_ret
              exact ⟨rfl, HFF.out⟩
end Go.Proofs.YtdgbcdmooklciaaDoor

/-! ### SrwLaw -/
namespace Go.Proofs.YtdgbcdmooklciaaDoor
open Go.RowKit
set_option maxRecDepth 100000
namespace shaRows
open Go.ChangeShapes Go.WideShapes Go.ChangeAt
open Go.ChangeMaps (open_string shut_string)
set_option linter.unusedVariables false
set_option maxRecDepth 100000 in
set_option maxHeartbeats 2000000 in
theorem lifted (os : Os) (started : os.Started) (H : Type) (enc : TypeId × Value → H) :
    ReturnsInHanded {} Tryd.checked os 3 .any (fun w args => (Rows.shaRowsSpec.pre enc Tryd.prog Tryd.f3 [] false w args ∧ laidMetH Tryd.prog [("gavel/sha.roundWords", Rows.laid_gavel_sha_roundWords)] w) ∧ sizedMet enc Tryd.prog Tryd.f3 (OpenSpec.ofChange Rows.shaRowsSpec) false w args)
      (Rows.shaRowsSpec.post enc Tryd.prog Tryd.f3 false true false false) := by
  refine returnsInHanded_of_change_and (C := Tryd.checked) (X := fun w _ => laidMetH Tryd.prog [("gavel/sha.roundWords", Rows.laid_gavel_sha_roundWords)] w) (fun _ _ _ hh h => h.of_heap hh) own started (by kernel_rfl) Tryd.func3
    (ChangeSpec.witness_shaped (enc := enc) (C := Tryd.checked) (os := os) (X := fun w _ => laidMetH Tryd.prog [("gavel/sha.roundWords", Rows.laid_gavel_sha_roundWords)] w) false (World.doorLaid Tryd.prog 14 os) #[.slice none 0 0, .int .i64 0] 8 rfl (World.shaped_of_RefB (by kernel_rfl) (by kernel_rfl)) (by kernel_rfl) (by kernel_rfl) (by kernel_rfl) (door_met os _)) ?_
  intro W base args ds gs before hval0 hW _ _ hL _
  have hval : ∀ (j : Nat) t v, Tryd.f3.params[j]? = some t → args[j]? = some v → Value.okWide Tryd.prog W .any base t v := hval0
  have hW' := hW
  obtain ⟨p, q, hA0, hV, rfl, hfz, hnd⟩ := hW
  have hA : DataW.TrodAll enc Tryd.prog W 0 (fun _ => true) true Tryd.f3.params.toList args.toList ds p := hA0
  rw [Tryd.params3] at hA hval
  obtain ⟨v0, vs0, d0, ds0, p0, q0, hargs, rfl, rfl, h0, r0⟩ := trodAll_cons hA
  obtain ⟨v1, vs1, d1, ds1, p1, q1, rfl, rfl, rfl, h1, r1⟩ := trodAll_cons r0
  obtain ⟨rfl, rfl, rfl⟩ := trodAll_nil r1
  obtain rfl : args = #[v0, v1] := by cases args; simp_all
  obtain ⟨rfl, rfl⟩ := trodVars_none hV
  obtain ⟨a0, len0, cap0, rfl⟩ := okWide_slice Tryd.underlying22 (hval 0 22 v0 rfl rfl)
  have k0 := h0
  have lt0 : ∀ x ∈ p0, x.block < W.heap.size := by obtain ⟨m, hm⟩ := k0; exact DataW.trod_lt m _ _ _ hm
  obtain ⟨l0, y0, c0, x0⟩ : ∃ l, RowsIn W a0 len0 l ∧ len0 ≤ cap0 ∧ cap0 ≤ maxLen := by
    obtain ⟨fuel, hf⟩ := h0
    exact rows_of_trod (by simpa [Value.cells] using hf)
  obtain ⟨a1, rfl, rfl, rfl, w1⟩ := open_int Tryd.underlying3 (hval 1 3 v1 rfl rfl) h1
  have b1 := i64_of w1
  clear hA0 hval0
  refine (shaRows_walk W a0 len0 cap0 l0 y0 c0 x0 a1 b1 (kw_of_laid hL)).mono fun e W' ⟨he, hg⟩ => ?_
  subst he
  have hb := hg.below_all
  exact ⟨_, rfl, _, _, _, [], _, [], hW', trodAll_mk1 (shut_bool Tryd.underlying4 _), (trodAll_cons_mk (Below.trod laidOut (by kernel_rfl) (of_decide_eq_true (by kernel_rfl)) k0 hb lt0) (trodAll_cons_mk (shut_int Tryd.underlying3 w1) trodAll_mk0)), rfl, hb.frame _, fun h => by cases h⟩
theorem over : Rows.shaRowsRow.holds Tryd.pinned (OpenSpec.ofChange Rows.shaRowsSpec) :=
  OpenClaim.holds_of_wide 3 Tryd.f3 rfl rfl rfl rfl rfl rfl rfl ⟨rfl, rfl, rfl, rfl, rfl⟩ rfl rfl rfl rfl rfl (by kernel_rfl) Tryd.func3 (by kernel_rfl)
    (of_decide_eq_true (by kernel_rfl)) (by unfold Func.isWrapper; first | (rw [if_pos (by decide +kernel)]; kernel_rfl) | (rw [if_neg (by decide +kernel)]; exact ⟨rfl, rfl⟩))
    (fun os started H enc _ => lifted os started H enc)
/-- the statement: the tied card -/
theorem proved : Rows.ShaRowsCardSaid :=
  Claim7.holds_tied_plain_at .later [] [.data] true Rows.shaRowsCard.stood.harness false
    over (fun _ h => by cases h) (by kernel_rfl) (fun _ h => by cases h) shaRows_row_tie rfl ⟨rfl, rfl⟩ (by kernel_rfl) rfl
    (fun f fn hf hfn => by
      obtain rfl : f = 3 := Option.some.inj ((show Tryd.prog.funcNamed "gavel/gavellaw02.ShaRows" = some 3 by kernel_rfl).symm.trans hf) |>.symm
      obtain rfl : fn = Tryd.f3 := (Option.some.inj (Tryd.func3.symm.trans hfn)).symm
      exact ⟨by kernel_rfl, fun j t ht => by
        rw [Tryd.params3] at ht
        have hm : t ∈ [22, 3] := by simpa using Array.mem_of_getElem? ht
        have hall : ([22, 3].all fun u => !Tryd.prog.wantsStandIn u) = true := by kernel_rfl
        exact (show Tryd.prog.wantsStandIn t = false by simpa using List.all_eq_true.1 hall t hm)⟩)
    (by kernel_rfl)
end shaRows
end Go.Proofs.YtdgbcdmooklciaaDoor
