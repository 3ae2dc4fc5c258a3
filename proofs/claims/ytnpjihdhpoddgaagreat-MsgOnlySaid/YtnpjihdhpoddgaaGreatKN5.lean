/- Texts that the proof stands on: Equality of structs, field by field: names, signatures, stamps, votes, denials. | gavelkeep's Openings and Tombs of one list on both sides. (written by gen_slf.py) | Package commit: the document's example (wakes). | Package commit: an opening is built of its parts. | Package commit: a commitment is equal to itself. | gavelkeep's Cert, Promise, Batch of parts that say the same, wherever they lie. (written by gen_keq.py) | Equality of acks, entries, whatever they say. (written by gen_mq.py) | What is behind a false '&&': operations that are not met, picks and moves, all at once. | gavelkeep's Proposal and Msg, wherever the parts lie. (written by gen_mke.py) | Package part: slices.Clone of stamps, votes, denials; CopyCert, CopyOpening, copyTomb. (written by gen_mcp.py) -/
import Derived.Test.YtnpjihdhpoddgaaGreatKN4
import Derived.Laws.StructEq
import Derived.Test.YtnpjihdhpoddgaaGreatMem
import Derived.Test.YtnpjihdhpoddgaaGreatReg
import Derived.Lib.LazyBuf
set_option linter.unusedSimpArgs false
set_option linter.unusedVariables false
set_option maxRecDepth 100000

namespace Go.Proofs.YtnpjihdhpoddgaaGreat
open Go.RowKit
set_option maxRecDepth 100000

theorem eqFields_bool {P : Program} {d : Nat} {xs ys : Array Value} {f : Field} {fs : List Field} {u v : Value} {b : Bool} {w : World} (hn : f.name ≠ "_") (p : (part f.type xs f.offset).run P w = .ok u w) (p' : (part f.type ys f.offset).run P w = .ok v w)
    (q : (Op.equalIn d f.type u v).run P w = .ok b w) : (Op.eqFields d xs ys (f :: fs)).run P w = if b then (Op.eqFields d xs ys fs).run P w else .ok false w := by
  rw [Op.eqFields, if_pos hn]
  simp only [Sem.run_bind, p, p', Result.andThen_ok, q]
  cases b <;> simp
def FieldsEq (P : Program) (w : World) (d : Nat) (C D : Array Value) : List (TypeId × Nat) → List Bool → Prop
  | [], [] => True
  | (t, o) :: fs, b :: bs => (∃ u v, (part t C o).run P w = .ok u w ∧ (part t D o).run P w = .ok v w ∧ (Op.equalIn d t u v).run P w = .ok b w) ∧ FieldsEq P w d C D fs bs
  | _, _ => False
theorem eqFields_all {P : Program} {w : World} {d : Nat} {C D : Array Value} : ∀ (fs : List Field) (l : List (TypeId × Nat)) (bs : List Bool), fs.map (fun f => (f.type, f.offset, f.name == "_")) = l.map (fun x => (x.1, x.2, false)) →
    FieldsEq P w d C D l bs → (Op.eqFields d C D fs).run P w = .ok (bs.all id) w
  | [], [], [], _, _ => rfl
  | [], [], _ :: _, _, h => h.elim
  | [], _ :: _, _, h, _ => by simp at h
  | _ :: _, [], _, h, _ => by simp at h
  | _ :: _, _ :: _, [], _, h => h.elim
  | f :: fs, (t, o) :: l, b :: bs, h, hb => by
    simp only [List.map_cons, List.cons.injEq, Prod.mk.injEq, beq_eq_false_iff_ne] at h
    obtain ⟨⟨rfl, rfl, hn⟩, h⟩ := h
    obtain ⟨⟨u, v, p, p', q⟩, hr⟩ := hb
    rw [eqFields_bool hn p p' q, eqFields_all fs l bs h hr]
    cases b <;> simp
theorem part_rowx (ty : TypeId) (n off : Nat) (xs ys zs : List Value) (h : RowTy Tryz.prog ty n) (hx : xs.length = off) (hy : ys.length = n) (w : World) : (part ty (xs ++ (ys ++ zs)).toArray off).run Tryz.prog w = .ok (.agg ys.toArray) w := by
  obtain ⟨h1, h2⟩ := h
  cases hu : Tryz.prog.underlying ty with
  | none => rw [hu] at h1; cases h1
  | some d =>
    rw [hu] at h1
    cases hi : Tryz.prog.info? ty with
    | none => rw [hi] at h2; cases h2
    | some i =>
      have hs : i.size = n := by simpa [hi] using h2
      have hagg : (isAgg ty).run Tryz.prog w = .ok true w := by
        unfold isAgg
        rw [Sem.run_bind, run_underlying hu w]
        cases d <;> simp_all
      unfold part
      simp [hagg, sizeOf, typeInfo, hi, hs]
      subst hx
      subst hy
      simp
theorem eql_hash (a b : List UInt8) (ha : a.length = 32) (hb : b.length = 32) (d : Nat) (w : World) : (Op.equalIn (d + 2) 25 (.agg (a.map by8).toArray) (.agg (b.map by8).toArray)).run Tryz.prog w = .ok (decide (a = b)) w := by
  have h := run_equalIn_bytes (P := Tryz.prog) w d 25 5 32 Tryz.underlying25 Tryz.underlying5 u8_size1 a b ha hb
  rw [show decide (a = b) = (a == b) by rw [Bool.eq_iff_iff]; simp]
  exact h
theorem eql_int (y z : Int) (d : Nat) (w : World) : (Op.equalIn (d + 1) 3 (.int .i64 y) (.int .i64 z)).run Tryz.prog w = .ok (decide (y = z)) w := by
  have h := run_equalIn_int (P := Tryz.prog) w d 3 .i64 .i64 y z Tryz.underlying3
  rw [show decide (y = z) = (y == z) by rw [Bool.eq_iff_iff]; simp]
  exact h
theorem eql_u64 (y z : Int) (d : Nat) (w : World) : (Op.equalIn (d + 1) 30 (.int .u64 y) (.int .u64 z)).run Tryz.prog w = .ok (decide (y = z)) w := by
  have h := run_equalIn_int (P := Tryz.prog) w d 30 .u64 .u64 y z Tryz.underlying30
  rw [show decide (y = z) = (y == z) by rw [Bool.eq_iff_iff]; simp]
  exact h
theorem part_int (off : Nat) (cs : Array Value) (v : Value) (hv : cs[off]? = some v) (w : World) : (part 3 cs off).run Tryz.prog w = .ok v w := run_part_plain w (by kernel_rfl) hv
theorem part_u64 (off : Nat) (cs : Array Value) (v : Value) (hv : cs[off]? = some v) (w : World) : (part 30 cs off).run Tryz.prog w = .ok v w := run_part_plain w (by kernel_rfl) hv
theorem eql_of {ty : TypeId} {d : Nat} {C D : Array Value} {w : World} {l : List (TypeId × Nat)} {bs : List Bool} (e : (Op.equalIn (d + 1) ty (.agg C) (.agg D)).run Tryz.prog w = (Op.eqFields d C D (Tryz.prog.fieldsOf ty).toList).run Tryz.prog w)
    (hfs : (Tryz.prog.fieldsOf ty).toList.map (fun f => (f.type, f.offset, f.name == "_")) = l.map (fun x => (x.1, x.2, false))) (hb : FieldsEq Tryz.prog w d C D l bs) : (Op.equalIn (d + 1) ty (.agg C) (.agg D)).run Tryz.prog w = .ok (bs.all id) w := by
  rw [e]
  exact eqFields_all _ l bs hfs hb
theorem eql_name (a b a' b' : Int) (d : Nat) (w : World) : (Op.equalIn (d + 2) 23 (.agg #[.int .i64 a, .int .i64 b]) (.agg #[.int .i64 a', .int .i64 b'])).run Tryz.prog w = .ok (decide (a = a') && decide (b = b')) w := by
  have h := eql_of (l := [(3, 0), (3, 1)]) (run_equalIn_struct w (d + 1) 23 #[.int .i64 a, .int .i64 b] #[.int .i64 a', .int .i64 b'] (by kernel_rfl) (by kernel_rfl)) (by kernel_rfl)
    (bs := [decide (a = a'), decide (b = b')]) ⟨⟨_, _, part_int 0 _ _ rfl w, part_int 0 _ _ rfl w, eql_int a a' d w⟩, ⟨_, _, part_int 1 _ _ rfl w, part_int 1 _ _ rfl w, eql_int b b' d w⟩, trivial⟩
  rw [h]
  simp
theorem eql_sig (a b a' b' : Int) (d : Nat) (w : World) : (Op.equalIn (d + 2) 27 (.agg #[.int .i64 a, .int .i64 b]) (.agg #[.int .i64 a', .int .i64 b'])).run Tryz.prog w = .ok (decide (a = a') && decide (b = b')) w := by
  have h := eql_of (l := [(3, 0), (3, 1)]) (run_equalIn_struct w (d + 1) 27 #[.int .i64 a, .int .i64 b] #[.int .i64 a', .int .i64 b'] (by kernel_rfl) (by kernel_rfl)) (by kernel_rfl)
    (bs := [decide (a = a'), decide (b = b')]) ⟨⟨_, _, part_int 0 _ _ rfl w, part_int 0 _ _ rfl w, eql_int a a' d w⟩, ⟨_, _, part_int 1 _ _ rfl w, part_int 1 _ _ rfl w, eql_int b b' d w⟩, trivial⟩
  rw [h]
  simp
def Wst.eqB (x y : Wst) : Bool := [decide (x.r = y.r), (decide (x.c = y.c) && decide (x.s = y.s)), decide (x.h = y.h), decide ((x.t : Int) = (y.t : Int)), (decide (x.b = y.b) && decide (x.m = y.m))].all id
theorem Wst.eqB_iff (x y : Wst) : x.eqB y = true ↔ x = y := by
  obtain ⟨_, _, _, _, _, _, _⟩ := x
  obtain ⟨_, _, _, _, _, _, _⟩ := y
  simp [Wst.eqB, Wst.mk.injEq, and_assoc]
  (try omega)
set_option maxHeartbeats 1000000 in
theorem eql_Wst (x y : Wst) (hx : x.h.length = 32) (hy : y.h.length = 32) (w : World) : (Op.equalIn 10000 32 (.agg x.cells.toArray) (.agg y.cells.toArray)).run Tryz.prog w = .ok (x.eqB y) w :=
  eql_of (d := 9999) (C := x.cells.toArray) (D := y.cells.toArray) (l := [(3, 0), (23, 1), (25, 3), (30, 35), (27, 36)]) (run_equalIn_struct w 9999 32 x.cells.toArray y.cells.toArray (by kernel_rfl) (by kernel_rfl)) (by kernel_rfl)
    (bs := [decide (x.r = y.r), (decide (x.c = y.c) && decide (x.s = y.s)), decide (x.h = y.h), decide ((x.t : Int) = (y.t : Int)), (decide (x.b = y.b) && decide (x.m = y.m))])
    ⟨⟨_, _, part_int 0 _ _ (show x.cells.toArray[0]? = some (.int .i64 x.r) from rfl) w, part_int 0 _ _ (show y.cells.toArray[0]? = some (.int .i64 y.r) from rfl) w, eql_int _ _ 9998 w⟩,
      ⟨_, _, (part_rowx 23 2 1 [.int .i64 x.r] [.int .i64 x.c, .int .i64 x.s] ([] ++ (x.h.map by8 ++ [.int .u64 (x.t : Int), .int .i64 x.b, .int .i64 x.m])) row_name rfl rfl w), (part_rowx 23 2 1 [.int .i64 y.r] [.int .i64 y.c, .int .i64 y.s] ([] ++ (y.h.map by8 ++ [.int .u64 (y.t : Int), .int .i64 y.b, .int .i64 y.m])) row_name rfl rfl w), eql_name _ _ _ _ 9997 w⟩,
      ⟨_, _, (part_rowx 25 32 3 [.int .i64 x.r, .int .i64 x.c, .int .i64 x.s] (x.h.map by8) [.int .u64 (x.t : Int), .int .i64 x.b, .int .i64 x.m] row_hash rfl (by rw [List.length_map]; exact hx) w), (part_rowx 25 32 3 [.int .i64 y.r, .int .i64 y.c, .int .i64 y.s] (y.h.map by8) [.int .u64 (y.t : Int), .int .i64 y.b, .int .i64 y.m] row_hash rfl (by rw [List.length_map]; exact hy) w), eql_hash x.h y.h hx hy 9997 w⟩,
      ⟨_, _, part_u64 35 _ _ (show x.cells.toArray[35]? = some (.int .u64 (x.t : Int)) by rw [List.getElem?_toArray]; exact post_cell [.int .i64 x.r, .int .i64 x.c, .int .i64 x.s] (x.h.map by8) [.int .u64 (x.t : Int), .int .i64 x.b, .int .i64 x.m] (by rw [List.length_map]; exact hx) 0 rfl) w, part_u64 35 _ _ (show y.cells.toArray[35]? = some (.int .u64 (y.t : Int)) by rw [List.getElem?_toArray]; exact post_cell [.int .i64 y.r, .int .i64 y.c, .int .i64 y.s] (y.h.map by8) [.int .u64 (y.t : Int), .int .i64 y.b, .int .i64 y.m] (by rw [List.length_map]; exact hy) 0 rfl) w, eql_u64 _ _ 9998 w⟩,
      ⟨_, _, (show (part 27 x.cells.toArray 36).run Tryz.prog w = .ok (.agg [.int .i64 x.b, .int .i64 x.m].toArray) w by rw [show x.cells = ([.int .i64 x.r, .int .i64 x.c, .int .i64 x.s] ++ (x.h.map by8 ++ [.int .u64 (x.t : Int)])) ++ ([.int .i64 x.b, .int .i64 x.m] ++ []) by simp [Wst.cells]]; exact part_rowx 27 2 36 _ _ _ row_sig (by simp [hx]) rfl w), (show (part 27 y.cells.toArray 36).run Tryz.prog w = .ok (.agg [.int .i64 y.b, .int .i64 y.m].toArray) w by rw [show y.cells = ([.int .i64 y.r, .int .i64 y.c, .int .i64 y.s] ++ (y.h.map by8 ++ [.int .u64 (y.t : Int)])) ++ ([.int .i64 y.b, .int .i64 y.m] ++ []) by simp [Wst.cells]]; exact part_rowx 27 2 36 _ _ _ row_sig (by simp [hy]) rfl w), eql_sig _ _ _ _ 9997 w⟩, trivial⟩
def Wvt.eqB (x y : Wvt) : Bool := [decide (x.k = y.k), decide (x.e = y.e), decide (x.r = y.r), decide (x.p = y.p), decide (x.h = y.h), (decide (x.b = y.b) && decide (x.m = y.m))].all id
theorem Wvt.eqB_iff (x y : Wvt) : x.eqB y = true ↔ x = y := by
  obtain ⟨_, _, _, _, _, _, _⟩ := x
  obtain ⟨_, _, _, _, _, _, _⟩ := y
  simp [Wvt.eqB, Wvt.mk.injEq, and_assoc]
  (try omega)
set_option maxHeartbeats 1000000 in
theorem eql_Wvt (x y : Wvt) (hx : x.h.length = 32) (hy : y.h.length = 32) (w : World) : (Op.equalIn 10000 49 (.agg x.cells.toArray) (.agg y.cells.toArray)).run Tryz.prog w = .ok (x.eqB y) w :=
  eql_of (d := 9999) (C := x.cells.toArray) (D := y.cells.toArray) (l := [(3, 0), (3, 1), (3, 2), (3, 3), (25, 4), (27, 36)]) (run_equalIn_struct w 9999 49 x.cells.toArray y.cells.toArray (by kernel_rfl) (by kernel_rfl)) (by kernel_rfl)
    (bs := [decide (x.k = y.k), decide (x.e = y.e), decide (x.r = y.r), decide (x.p = y.p), decide (x.h = y.h), (decide (x.b = y.b) && decide (x.m = y.m))])
    ⟨⟨_, _, part_int 0 _ _ (show x.cells.toArray[0]? = some (.int .i64 x.k) from rfl) w, part_int 0 _ _ (show y.cells.toArray[0]? = some (.int .i64 y.k) from rfl) w, eql_int _ _ 9998 w⟩,
      ⟨_, _, part_int 1 _ _ (show x.cells.toArray[1]? = some (.int .i64 x.e) from rfl) w, part_int 1 _ _ (show y.cells.toArray[1]? = some (.int .i64 y.e) from rfl) w, eql_int _ _ 9998 w⟩,
      ⟨_, _, part_int 2 _ _ (show x.cells.toArray[2]? = some (.int .i64 x.r) from rfl) w, part_int 2 _ _ (show y.cells.toArray[2]? = some (.int .i64 y.r) from rfl) w, eql_int _ _ 9998 w⟩,
      ⟨_, _, part_int 3 _ _ (show x.cells.toArray[3]? = some (.int .i64 x.p) from rfl) w, part_int 3 _ _ (show y.cells.toArray[3]? = some (.int .i64 y.p) from rfl) w, eql_int _ _ 9998 w⟩,
      ⟨_, _, (part_rowx 25 32 4 [.int .i64 x.k, .int .i64 x.e, .int .i64 x.r, .int .i64 x.p] (x.h.map by8) [.int .i64 x.b, .int .i64 x.m] row_hash rfl (by rw [List.length_map]; exact hx) w), (part_rowx 25 32 4 [.int .i64 y.k, .int .i64 y.e, .int .i64 y.r, .int .i64 y.p] (y.h.map by8) [.int .i64 y.b, .int .i64 y.m] row_hash rfl (by rw [List.length_map]; exact hy) w), eql_hash x.h y.h hx hy 9997 w⟩,
      ⟨_, _, (show (part 27 x.cells.toArray 36).run Tryz.prog w = .ok (.agg [.int .i64 x.b, .int .i64 x.m].toArray) w by rw [show x.cells = ([.int .i64 x.k, .int .i64 x.e, .int .i64 x.r, .int .i64 x.p] ++ (x.h.map by8 ++ [])) ++ ([.int .i64 x.b, .int .i64 x.m] ++ []) by simp [Wvt.cells]]; exact part_rowx 27 2 36 _ _ _ row_sig (by simp [hx]) rfl w), (show (part 27 y.cells.toArray 36).run Tryz.prog w = .ok (.agg [.int .i64 y.b, .int .i64 y.m].toArray) w by rw [show y.cells = ([.int .i64 y.k, .int .i64 y.e, .int .i64 y.r, .int .i64 y.p] ++ (y.h.map by8 ++ [])) ++ ([.int .i64 y.b, .int .i64 y.m] ++ []) by simp [Wvt.cells]]; exact part_rowx 27 2 36 _ _ _ row_sig (by simp [hy]) rfl w), eql_sig _ _ _ _ 9997 w⟩, trivial⟩
def Wdn.eqB (x y : Wdn) : Bool := [decide (x.r = y.r), decide (x.i = y.i), (decide (x.b = y.b) && decide (x.m = y.m))].all id
theorem Wdn.eqB_iff (x y : Wdn) : x.eqB y = true ↔ x = y := by
  obtain ⟨_, _, _, _⟩ := x
  obtain ⟨_, _, _, _⟩ := y
  simp [Wdn.eqB, Wdn.mk.injEq, and_assoc]
  (try omega)
set_option maxHeartbeats 1000000 in
theorem eql_Wdn (x y : Wdn) (w : World) : (Op.equalIn 10000 56 (.agg x.cells.toArray) (.agg y.cells.toArray)).run Tryz.prog w = .ok (x.eqB y) w :=
  eql_of (d := 9999) (C := x.cells.toArray) (D := y.cells.toArray) (l := [(3, 0), (3, 1), (27, 2)]) (run_equalIn_struct w 9999 56 x.cells.toArray y.cells.toArray (by kernel_rfl) (by kernel_rfl)) (by kernel_rfl)
    (bs := [decide (x.r = y.r), decide (x.i = y.i), (decide (x.b = y.b) && decide (x.m = y.m))])
    ⟨⟨_, _, part_int 0 _ _ (show x.cells.toArray[0]? = some (.int .i64 x.r) from rfl) w, part_int 0 _ _ (show y.cells.toArray[0]? = some (.int .i64 y.r) from rfl) w, eql_int _ _ 9998 w⟩,
      ⟨_, _, part_int 1 _ _ (show x.cells.toArray[1]? = some (.int .i64 x.i) from rfl) w, part_int 1 _ _ (show y.cells.toArray[1]? = some (.int .i64 y.i) from rfl) w, eql_int _ _ 9998 w⟩,
      ⟨_, _, (part_rowx 27 2 2 [.int .i64 x.r, .int .i64 x.i] [.int .i64 x.b, .int .i64 x.m] [] row_sig rfl rfl w), (part_rowx 27 2 2 [.int .i64 y.r, .int .i64 y.i] [.int .i64 y.b, .int .i64 y.m] [] row_sig rfl rfl w), eql_sig _ _ _ _ 9997 w⟩, trivial⟩
end Go.Proofs.YtnpjihdhpoddgaaGreat

namespace Go.Proofs.YtnpjihdhpoddgaaGreat
open Go.RowKit
set_option maxRecDepth 100000
theorem add_off (g o j : Nat) : (⟨g, o, none⟩ : Addr).add j = ⟨g, o + j, none⟩ := by unfold Addr.add; split <;> simp_all
theorem wpList_eqlg {P : Program} {ops : Array Oper} {rest : List Oper} {op : Oper} {a : Act} {w : World} {Q : Exit → Act → World → Prop} (hw : Region.wanted op (yielded ops a.tmps) = true) (ty r : TypeId) (x y : Operand) (ho : op.op = .binOp .eql ty x y r) (C D : Array Value) (hx : a.eval x = .agg C) (hy : a.eval y = .agg D) (b : Bool)
    (hg : P.eqGuardType P.depth ty = false) (hq : (Op.equalIn 10000 ty (.agg C) (.agg D)).run P w = .ok b w) (h : wpList P ops Q rest (a.put op.dst (.bool b)) w) : wpList P ops Q (op :: rest) a w :=
  BigFrame.wpList_want hw fun _ hK => wp_run (exec_eql ty r x y ho C D hx hy b hg hq) (hK _ _ h)
theorem wpList_midg {P : Program} {ops : Array Oper} {rest : List Oper} {op : Oper} {a : Act} {w : World} {Q : Exit → Act → World → Prop} (hw : Region.wanted op (yielded ops a.tmps) = true) (ty : TypeId) (x : Operand) (ho : op.op = .load ty x)
    (b o : Nat) (hx : a.eval x = .pointer (some ⟨b, o, none⟩)) (cs : List Value) (hc : w.rangeAt b o cs) (hr : RowTy P ty cs.length) (h : wpList P ops Q rest (a.put op.dst (.agg cs.toArray)) w) : wpList P ops Q (op :: rest) a w :=
  wpList_cells hw ty x ho ⟨b, o, none⟩ hx cs (fun j v hv => by rw [add_off]; exact hc j v hv) hr h
section
variable {P : Program} {l : List Oper} {Q : Exit → Act → World → Prop} {md : Region.Mode} {S : World → Prop} {fuel : Nat} {listed : Array Bool} {a : Act} {w : World}
theorem crow_at {i : Nat} {oi : Oper} (hi : nthOp l i = some oi) (ht : takeOk md l.toArray listed i = true) (hw : Region.wanted oi (yielded l.toArray a.tmps) = true)
    (ty : TypeId) (x : Operand) (ho : oi.op = .load ty x) (ad : Addr) (hx : a.eval x = .pointer (some ad)) (cs : List Value) (hc : ∀ w1, S w1 → ∀ j v, cs[j]? = some v → w1.cell? (ad.add j) = some v) (hr : RowTy P ty cs.length)
    (hQ : ∀ c a w, Q (.panic c) (a.put oi.dst (.agg cs.toArray)) w → Q (.panic c) a w) (hS : S w)
    (h : wpAnyH P md l.toArray Q S fuel (listed.setIfInBounds i true) (a.put oi.dst (.agg cs.toArray)) w) : wpAnyH P md l.toArray Q S (fuel + 1) listed a w :=
  take_at hi ht hQ (.inl ⟨hw, fun w1 h1 => exec_cells ty x ho ad hx cs hr (hc w1 h1)⟩) hS h
end
theorem row_hs : RowTy Tryz.prog 25 32 := ⟨by kernel_rfl, by kernel_rfl⟩
theorem row_opS : RowTy Tryz.prog 54 34 := ⟨by kernel_rfl, by kernel_rfl⟩
theorem row_dnS : RowTy Tryz.prog 56 4 := ⟨by kernel_rfl, by kernel_rfl⟩

theorem fld_add (ad : Addr) (m j : Nat) : (ad.add m).add (j + 1) = ⟨(ad.add m).block, (ad.add m).off + (j + 1), none⟩ := rfl

set_option maxHeartbeats 2000000 in
theorem opening_self (x : Wop) (w : World) (hx : x.Ok w []) (C : List Value) (hC : x.cells = C) :
    Calls Tryz.prog 38 #[.agg C.toArray, .agg C.toArray] w fun e w' => e = .returned (.bool true) ∧ Fr [] w w' := by
  obtain ⟨wa, hwa⟩ : ∃ wa, wa = (w.alloc (Obj.cells C.toArray 54)).alloc (Obj.cells C.toArray 54) := ⟨_, rfl⟩
  have hf0 : Fr [] w wa := by rw [hwa]; exact ((Fr.refl [] w).alloc _).alloc _
  have hb0 : Blk wa w.heap.size 54 x.cells.toArray := by rw [hwa, hC]; exact blk_alloc (Blk.new _ _ _)
  have hb1 : Blk wa (w.heap.size + 1) 54 x.cells.toArray := by
    have := Blk.new (w.alloc (Obj.cells C.toArray 54)) 54 C.toArray
    rw [hwa, hC]
    simpa using this
  have hr0 := hb0.range
  have hr1 := hb1.range
  have h00 : wa.cell? ⟨w.heap.size, 0, none⟩ = some (.int .i64 x.i) := by have h := hr0 0 _ rfl; simpa using h
  have h10 : wa.cell? ⟨w.heap.size + 1, 0, none⟩ = some (.int .i64 x.i) := by have h := hr1 0 _ rfl; simpa using h
  have h01 : wa.cell? ⟨w.heap.size, 1, none⟩ = some (.slice x.A x.n x.d) := by have h := hr0 1 _ rfl; simpa using h
  have h11 : wa.cell? ⟨w.heap.size + 1, 1, none⟩ = some (.slice x.A x.n x.d) := by have h := hr1 1 _ rfl; simpa using h
  have HH0 : Hid (wa.rangeAt w.heap.size 2 (x.h.map by8)) := Lib.hid (rangeAt_sub (o := 0) (xs := [.int .i64 x.i, .slice x.A x.n x.d]) (ys := x.h.map by8) (zs := []) hr0)
  have HH1 : Hid (wa.rangeAt (w.heap.size + 1) 2 (x.h.map by8)) := Lib.hid (rangeAt_sub (o := 0) (xs := [.int .i64 x.i, .slice x.A x.n x.d]) (ys := x.h.map by8) (zs := []) hr1)
  have HHL : Hid ((x.h.map by8).length = 32) := Lib.hid (by rw [List.length_map]; exact hx.h)
  have HEQ : Hid ((Op.equalIn 10000 25 (.agg (x.h.map by8).toArray) (.agg (x.h.map by8).toArray)).run Tryz.prog wa = .ok true wa) := Lib.hid (by
    have h := eql_hash x.h x.h hx.h hx.h 9998 wa
    simpa using h)
  have HF0 := Lib.hid hf0
  have HWA := Lib.hid hwa
  have HX := Lib.hid hx
  have hii : (x.i == x.i) = true := by simp
  clear hwa hf0 hb0 hb1 hr0 hr1 hx hC
  generalize hHV : x.h.map by8 = HV at *
  clear hHV
  go_enter Tryz.func38, Tryz.ntmps38
  go_upto_region 1 with (fail)
  change Code.wp _ _ _ _ ((w.alloc (Obj.cells C.toArray 54)).alloc (Obj.cells C.toArray 54))
  rw [← HWA.out]
  go_wp2_with (first
    | (refine wpList_midg rfl 25 _ rfl w.heap.size 2 rfl HV HH0.out (row_hs.of HHL.out) ?_)
    | (refine wpList_midg rfl 25 _ rfl (w.heap.size + 1) 2 rfl HV HH1.out (row_hs.of HHL.out) ?_)
    | (refine wpList_eqlg rfl 25 _ _ _ rfl HV.toArray HV.toArray rfl rfl true (by kernel_rfl) HEQ.out ?_))
  refine (same_any x.A x.A x.n x.n x.d x.d x.p x.p wa (HX.out.p.keep HF0.out (by simp)) (HX.out.p.keep HF0.out (by simp)) (by have := HX.out.n; omega)).mono ?_
  rintro e w1 ⟨rfl, k1, hw1⟩
  simp only [decide_true]
  have HF1 : Hid (Fr [] w w1) := Lib.hid (by rw [hw1]; exact HF0.out.drewN _)
  clear hw1 h00 h10 h01 h11 hii
  go_wp2
  go_ret
  exact ⟨rfl, HF1.out⟩

set_option maxHeartbeats 4000000 in
theorem openings_self (A : Option Addr) (n d : Nat) (l : List Wop) (w : World) (hl : Lst 34 Wop.cells (fun w v => v.Ok w []) w A n l) (hn : n ≤ 1000) :
    Calls Tryz.prog 98 #[.slice A n d, .slice A n d] w fun e w' => e = .returned (.bool true) ∧ Fr [] w w' := by
  have HL := Lib.hid hl
  have HN := Lib.hid hn
  have hn1 : (n : Int) ≤ 9223372036854775807 := by omega
  have hnn : ((n : Int) != (n : Int)) = false := by simp
  clear hl hn
  go_enter Tryz.func98, Tryz.ntmps98
  go_wp2_with fail
  clear hnn
  go_loopw [13] (fun i wr => ∃ j : Nat, j ≤ n ∧ i = .int .i64 j ∧ Hid (Fr [] w wr)) (fun i _ => n - (intOf i).toNat)
  case atStart => exact ⟨0, by omega, rfl, Lib.hid (Fr.refl _ _)⟩
  case round =>
    obtain ⟨j, hj, rfl, HF⟩ := hrel
    by_cases hlt : j < n
    · obtain ⟨ad, v, hA, hv, hcl, hok, hcells⟩ := HL.out.at (i := j) hlt
      subst hA
      have HCELLS : Hid (∀ i u, (Wop.cells v)[i]? = some u → wr.cell? ((ad.add (j * 34)).add i) = some u) := Lib.hid (fun i u hu => HF.out.cell (hcells i u hu) (by simp))
      have HCL := Lib.hid hcl
      have HOK := Lib.hid hok
      have HJN := Lib.hid hlt
      have hj0 : (0 : Int) ≤ j := by omega
      clear hcells hcl hok hv
      go_upto_region 6 with (fail)
      refine wp_region_held_drew (S := Fr [] wr) (by kernel_rfl) (Fr.drew (Fr.refl _ wr)) (fun hHeld => ?_)
      generalize wr.drew = wd at *
      refine run_at (i := 0) (v := ?_) rfl (by kernel_rfl) (by rfl) (fun _ _ _ h => h) hHeld (fun w1 hw1 => ?_) ?_
      rotate_left 1
      · skip
        go_simp
        (try (first | with_reducible rfl | (apply And.intro <;> rfl)))
      simp only [Act.put, List.setIfInBounds_toArray, List.set_cons_zero, List.set_cons_succ]
      refine run_at (i := 1) (v := ?_) rfl (by kernel_rfl) (by rfl) (fun _ _ _ h => h) hHeld (fun w1 hw1 => ?_) ?_
      rotate_left 1
      · skip
        go_simp
        (try (first | with_reducible rfl | (apply And.intro <;> rfl)))
      simp only [Act.put, List.setIfInBounds_toArray, List.set_cons_zero, List.set_cons_succ]
      refine run_at (i := 2) (v := ?_) rfl (by kernel_rfl) (by rfl) (fun _ _ _ h => h) hHeld (fun w1 hw1 => ?_) ?_
      rotate_left 1
      · skip
        go_simp
        (try (first | with_reducible rfl | (apply And.intro <;> rfl)))
      simp only [Act.put, List.setIfInBounds_toArray, List.set_cons_zero, List.set_cons_succ]
      refine crow_at (i := 3) rfl (by kernel_rfl) (by rfl) _ _ rfl _ rfl _ (fun w1 hw1 j v hv => hw1.cell ((HCELLS.out) j v hv) (by simp)) (row_opS.of HCL.out) (fun _ _ _ h => h) hHeld ?_
      simp only [Act.put, List.setIfInBounds_toArray, List.set_cons_zero, List.set_cons_succ]
      refine run_at (i := 4) (v := ?_) rfl (by kernel_rfl) (by rfl) (fun _ _ _ h => h) hHeld (fun w1 hw1 => ?_) ?_
      rotate_left 1
      · skip
        go_simp
        (try (first | with_reducible rfl | (apply And.intro <;> rfl)))
      simp only [Act.put, List.setIfInBounds_toArray, List.set_cons_zero, List.set_cons_succ]
      refine run_at (i := 5) (v := ?_) rfl (by kernel_rfl) (by rfl) (fun _ _ _ h => h) hHeld (fun w1 hw1 => ?_) ?_
      rotate_left 1
      · skip
        go_simp
        (try (first | with_reducible rfl | (apply And.intro <;> rfl)))
      simp only [Act.put, List.setIfInBounds_toArray, List.set_cons_zero, List.set_cons_succ]
      refine run_at (i := 6) (v := ?_) rfl (by kernel_rfl) (by rfl) (fun _ _ _ h => h) hHeld (fun w1 hw1 => ?_) ?_
      rotate_left 1
      · skip
        go_simp
        (try (first | with_reducible rfl | (apply And.intro <;> rfl)))
      simp only [Act.put, List.setIfInBounds_toArray, List.set_cons_zero, List.set_cons_succ]
      refine crow_at (i := 7) rfl (by kernel_rfl) (by rfl) _ _ rfl _ rfl _ (fun w1 hw1 j v hv => hw1.cell ((HCELLS.out) j v hv) (by simp)) (row_opS.of HCL.out) (fun _ _ _ h => h) hHeld ?_
      simp only [Act.put, List.setIfInBounds_toArray, List.set_cons_zero, List.set_cons_succ]
      refine call_at (i := 8) (f := ?_) (args := ?_) rfl (by kernel_rfl) (by rfl) ?_ ?_
      rotate_left 2
      · go_simp
        (try (first | with_reducible rfl | (apply And.intro <;> rfl)))
      refine (opening_self v wd ((HOK.out.keep HF.out (by simp)).keep hHeld (by simp)) _ rfl).mono ?_
      rintro e_ w9 ⟨rfl, hf⟩
      refine ⟨_, rfl, hHeld.and hf (by simp), fun hHeld => ?_⟩
      clear hf
      simp only [Act.put, List.setIfInBounds_toArray, List.set_cons_zero, List.set_cons_succ]
      refine run_at (i := 9) (v := ?_) rfl (by kernel_rfl) (by rfl) (fun _ _ _ h => h) hHeld (fun w1 hw1 => ?_) ?_
      rotate_left 1
      · skip
        go_simp
        (try (first | with_reducible rfl | (apply And.intro <;> rfl)))
      simp only [Act.put, List.setIfInBounds_toArray, List.set_cons_zero, List.set_cons_succ]
      refine wpAnyH_done (by kernel_rfl) ?_ _
      have HF9 : Hid (Fr [] w w9) := Lib.hid (HF.out.and hHeld (by simp))
      clear hHeld HCELLS HCL
      clear HOK
      go_wp2
      go_roundw
      case rel => exact ⟨j + 1, by have := HJN.out; omega, by go_num, HF9⟩
      case measure => have := HJN.out; simp [intOf]; omega
    · have hjn : n = j := by omega
      subst hjn
      clear hlt hj
      go_wp2
      go_ret
      exact ⟨rfl, HF.out⟩

set_option maxHeartbeats 4000000 in
theorem denies_self (A : Option Addr) (n d : Nat) (l : List Wdn) (w : World) (hl : Lst 4 Wdn.cells (fun _ v => v.Ok) w A n l) (hn : n ≤ 1000) :
    Calls Tryz.prog 135 #[.slice A n d, .slice A n d] w fun e w' => e = .returned (.bool true) ∧ Fr [] w w' := by
  have HL := Lib.hid hl
  have HN := Lib.hid hn
  have hn1 : (n : Int) ≤ 9223372036854775807 := by omega
  have hnn : ((n : Int) != (n : Int)) = false := by simp
  clear hl hn
  go_enter Tryz.func135, Tryz.ntmps135
  go_wp2_with fail
  clear hnn
  go_loopw [5] (fun i wr => ∃ j : Nat, j ≤ n ∧ i = .int .i64 j ∧ Hid (Fr [] w wr)) (fun i _ => n - (intOf i).toNat)
  case atStart => exact ⟨0, by omega, rfl, Lib.hid (Fr.refl _ _)⟩
  case round =>
    obtain ⟨j, hj, rfl, HF⟩ := hrel
    by_cases hlt : j < n
    · obtain ⟨ad, v, hA, hv, hcl, hok, hcells⟩ := HL.out.at (i := j) hlt
      subst hA
      have HCELLS : Hid (∀ i u, (Wdn.cells v)[i]? = some u → wr.cell? ((ad.add (j * 4)).add i) = some u) := Lib.hid (fun i u hu => HF.out.cell (hcells i u hu) (by simp))
      have HCL := Lib.hid hcl
      have HOK := Lib.hid hok
      have HJN := Lib.hid hlt
      have hj0 : (0 : Int) ≤ j := by omega
      clear hcells hcl hok hv
      have HEQ : Hid (∀ W : World, (Op.equalIn 10000 56 (.agg v.cells.toArray) (.agg v.cells.toArray)).run Tryz.prog W = .ok true W) := Lib.hid (fun W => by
        have h := eql_Wdn v v W
        rw [(Wdn.eqB_iff v v).2 rfl] at h
        exact h)
      go_upto_region 6 with (fail)
      refine wp_region_held_drew (S := Fr [] wr) (by kernel_rfl) (Fr.drew (Fr.refl _ wr)) (fun hHeld => ?_)
      generalize wr.drew = w9 at *
      refine run_at (i := 0) (v := ?_) rfl (by kernel_rfl) (by rfl) (fun _ _ _ h => h) hHeld (fun w1 hw1 => ?_) ?_
      rotate_left 1
      · skip
        go_simp
        (try (first | with_reducible rfl | (apply And.intro <;> rfl)))
      simp only [Act.put, List.setIfInBounds_toArray, List.set_cons_zero, List.set_cons_succ]
      refine run_at (i := 1) (v := ?_) rfl (by kernel_rfl) (by rfl) (fun _ _ _ h => h) hHeld (fun w1 hw1 => ?_) ?_
      rotate_left 1
      · skip
        go_simp
        (try (first | with_reducible rfl | (apply And.intro <;> rfl)))
      simp only [Act.put, List.setIfInBounds_toArray, List.set_cons_zero, List.set_cons_succ]
      refine run_at (i := 2) (v := ?_) rfl (by kernel_rfl) (by rfl) (fun _ _ _ h => h) hHeld (fun w1 hw1 => ?_) ?_
      rotate_left 1
      · skip
        go_simp
        (try (first | with_reducible rfl | (apply And.intro <;> rfl)))
      simp only [Act.put, List.setIfInBounds_toArray, List.set_cons_zero, List.set_cons_succ]
      refine crow_at (i := 3) rfl (by kernel_rfl) (by rfl) _ _ rfl _ rfl _ (fun w1 hw1 j v hv => hw1.cell ((HCELLS.out) j v hv) (by simp)) (row_dnS.of HCL.out) (fun _ _ _ h => h) hHeld ?_
      simp only [Act.put, List.setIfInBounds_toArray, List.set_cons_zero, List.set_cons_succ]
      refine run_at (i := 4) (v := ?_) rfl (by kernel_rfl) (by rfl) (fun _ _ _ h => h) hHeld (fun w1 hw1 => ?_) ?_
      rotate_left 1
      · skip
        go_simp
        (try (first | with_reducible rfl | (apply And.intro <;> rfl)))
      simp only [Act.put, List.setIfInBounds_toArray, List.set_cons_zero, List.set_cons_succ]
      refine run_at (i := 5) (v := ?_) rfl (by kernel_rfl) (by rfl) (fun _ _ _ h => h) hHeld (fun w1 hw1 => ?_) ?_
      rotate_left 1
      · skip
        go_simp
        (try (first | with_reducible rfl | (apply And.intro <;> rfl)))
      simp only [Act.put, List.setIfInBounds_toArray, List.set_cons_zero, List.set_cons_succ]
      refine run_at (i := 6) (v := ?_) rfl (by kernel_rfl) (by rfl) (fun _ _ _ h => h) hHeld (fun w1 hw1 => ?_) ?_
      rotate_left 1
      · skip
        go_simp
        (try (first | with_reducible rfl | (apply And.intro <;> rfl)))
      simp only [Act.put, List.setIfInBounds_toArray, List.set_cons_zero, List.set_cons_succ]
      refine crow_at (i := 7) rfl (by kernel_rfl) (by rfl) _ _ rfl _ rfl _ (fun w1 hw1 j v hv => hw1.cell ((HCELLS.out) j v hv) (by simp)) (row_dnS.of HCL.out) (fun _ _ _ h => h) hHeld ?_
      simp only [Act.put, List.setIfInBounds_toArray, List.set_cons_zero, List.set_cons_succ]
      refine neq_at (i := 8) rfl (by kernel_rfl) (by rfl) _ _ _ _ rfl _ _ rfl rfl _ (by kernel_rfl) (HEQ.out) (fun _ _ _ h => h) hHeld ?_
      simp only [Act.put, List.setIfInBounds_toArray, List.set_cons_zero, List.set_cons_succ]
      refine wpAnyH_done (by kernel_rfl) ?_ _
      have HF9 : Hid (Fr [] w w9) := Lib.hid (HF.out.and hHeld (by simp))
      clear hHeld HCELLS HCL
      clear HOK
      go_wp2
      go_roundw
      case rel => exact ⟨j + 1, by have := HJN.out; omega, by go_num, HF9⟩
      case measure => have := HJN.out; simp [intOf]; omega
    · have hjn : n = j := by omega
      subst hjn
      clear hlt hj
      go_wp2
      go_ret
      exact ⟨rfl, HF.out⟩

set_option maxHeartbeats 4000000 in
theorem tombs_self (A : Option Addr) (n d : Nat) (l : List Wtb) (w : World) (hl : Lst 2 Wtb.cells (fun w v => v.Ok w []) w A n l) (hn : n ≤ 1000) :
    Calls Tryz.prog 99 #[.slice A n d, .slice A n d] w fun e w' => e = .returned (.bool true) ∧ Fr [] w w' := by
  have HL := Lib.hid hl
  have HN := Lib.hid hn
  have hn1 : (n : Int) ≤ 9223372036854775807 := by omega
  have hnn : ((n : Int) != (n : Int)) = false := by simp
  clear hl hn
  go_enter Tryz.func99, Tryz.ntmps99
  go_wp2_with fail
  clear hnn
  go_loopw [13] (fun i wr => ∃ j : Nat, j ≤ n ∧ i = .int .i64 j ∧ Hid (Fr [] w wr)) (fun i _ => n - (intOf i).toNat)
  case atStart => exact ⟨0, by omega, rfl, Lib.hid (Fr.refl _ _)⟩
  case round =>
    obtain ⟨j, hj, rfl, HF⟩ := hrel
    by_cases hlt : j < n
    · obtain ⟨ad, v, hA, hv, hcl, hok, hcells⟩ := HL.out.at (i := j) hlt
      subst hA
      have HCELLS : Hid (∀ i u, (Wtb.cells v)[i]? = some u → wr.cell? ((ad.add (j * 2)).add i) = some u) := Lib.hid (fun i u hu => HF.out.cell (hcells i u hu) (by simp))
      have HCL := Lib.hid hcl
      have HOK := Lib.hid hok
      have HJN := Lib.hid hlt
      have hj0 : (0 : Int) ≤ j := by omega
      clear hcells hcl hok hv
      have HC0 : Hid (wr.cell? (ad.add (j * 2)) = some (.int .i64 v.i)) := Lib.hid (by have h := HCELLS.out 0 _ rfl; simpa [Addr.add] using h)
      have HC1 : Hid (wr.cell? ⟨(ad.add (j * 2)).block, (ad.add (j * 2)).off + 1, none⟩ = some (.slice v.A v.n v.d)) := Lib.hid (by have h := HCELLS.out 1 _ rfl; rw [fld_add] at h; exact h)
      have HII : Hid ((v.i != v.i) = false) := Lib.hid (by simp)
      go_upto_region 6 with (fail)
      refine wp_region_held_drew (S := Fr [] wr) (by kernel_rfl) (Fr.drew (Fr.refl _ wr)) (fun hHeld => ?_)
      generalize wr.drew = wd at *
      refine run_at (i := 0) (v := ?_) rfl (by kernel_rfl) (by rfl) (fun _ _ _ h => h) hHeld (fun w1 hw1 => ?_) ?_
      rotate_left 1
      · skip
        go_simp
        (try (first | with_reducible rfl | (apply And.intro <;> rfl)))
      simp only [Act.put, List.setIfInBounds_toArray, List.set_cons_zero, List.set_cons_succ]
      refine run_at (i := 1) (v := ?_) rfl (by kernel_rfl) (by rfl) (fun _ _ _ h => h) hHeld (fun w1 hw1 => ?_) ?_
      rotate_left 1
      · skip
        go_simp
        (try (first | with_reducible rfl | (apply And.intro <;> rfl)))
      simp only [Act.put, List.setIfInBounds_toArray, List.set_cons_zero, List.set_cons_succ]
      refine run_at (i := 2) (v := ?_) rfl (by kernel_rfl) (by rfl) (fun _ _ _ h => h) hHeld (fun w1 hw1 => ?_) ?_
      rotate_left 1
      · skip
        go_simp
        (try (first | with_reducible rfl | (apply And.intro <;> rfl)))
      simp only [Act.put, List.setIfInBounds_toArray, List.set_cons_zero, List.set_cons_succ]
      refine run_at (i := 3) (v := ?_) rfl (by kernel_rfl) (by rfl) (fun _ _ _ h => h) hHeld (fun w1 hw1 => ?_) ?_
      rotate_left 1
      · skip
        go_simp
        (try (first | with_reducible rfl | (apply And.intro <;> rfl)))
      simp only [Act.put, List.setIfInBounds_toArray, List.set_cons_zero, List.set_cons_succ]
      refine run_at (i := 4) (v := ?_) rfl (by kernel_rfl) (by rfl) (fun _ _ _ h => h) hHeld (fun w1 hw1 => ?_) ?_
      rotate_left 1
      · skip
        have hcw0 := hw1.cell (HC0.out) (by first | (simp; done) | exact HNS.out | exact HNW.out | (intro hm; have hlt := HSB.out _ hm; (try dsimp only at hlt); omega))
        go_simp
        (try (first | with_reducible rfl | (apply And.intro <;> rfl)))
      simp only [Act.put, List.setIfInBounds_toArray, List.set_cons_zero, List.set_cons_succ]
      refine run_at (i := 5) (v := ?_) rfl (by kernel_rfl) (by rfl) (fun _ _ _ h => h) hHeld (fun w1 hw1 => ?_) ?_
      rotate_left 1
      · skip
        go_simp
        (try (first | with_reducible rfl | (apply And.intro <;> rfl)))
      simp only [Act.put, List.setIfInBounds_toArray, List.set_cons_zero, List.set_cons_succ]
      refine run_at (i := 6) (v := ?_) rfl (by kernel_rfl) (by rfl) (fun _ _ _ h => h) hHeld (fun w1 hw1 => ?_) ?_
      rotate_left 1
      · skip
        go_simp
        (try (first | with_reducible rfl | (apply And.intro <;> rfl)))
      simp only [Act.put, List.setIfInBounds_toArray, List.set_cons_zero, List.set_cons_succ]
      refine run_at (i := 7) (v := ?_) rfl (by kernel_rfl) (by rfl) (fun _ _ _ h => h) hHeld (fun w1 hw1 => ?_) ?_
      rotate_left 1
      · skip
        go_simp
        (try (first | with_reducible rfl | (apply And.intro <;> rfl)))
      simp only [Act.put, List.setIfInBounds_toArray, List.set_cons_zero, List.set_cons_succ]
      refine run_at (i := 8) (v := ?_) rfl (by kernel_rfl) (by rfl) (fun _ _ _ h => h) hHeld (fun w1 hw1 => ?_) ?_
      rotate_left 1
      · skip
        go_simp
        (try (first | with_reducible rfl | (apply And.intro <;> rfl)))
      simp only [Act.put, List.setIfInBounds_toArray, List.set_cons_zero, List.set_cons_succ]
      refine run_at (i := 9) (v := ?_) rfl (by kernel_rfl) (by rfl) (fun _ _ _ h => h) hHeld (fun w1 hw1 => ?_) ?_
      rotate_left 1
      · skip
        have hcw0 := hw1.cell (HC0.out) (by first | (simp; done) | exact HNS.out | exact HNW.out | (intro hm; have hlt := HSB.out _ hm; (try dsimp only at hlt); omega))
        go_simp
        (try (first | with_reducible rfl | (apply And.intro <;> rfl)))
      simp only [Act.put, List.setIfInBounds_toArray, List.set_cons_zero, List.set_cons_succ]
      refine run_at (i := 10) (v := ?_) rfl (by kernel_rfl) (by rfl) (fun _ _ _ h => h) hHeld (fun w1 hw1 => ?_) ?_
      rotate_left 1
      · skip
        go_simp
        (try (first | with_reducible rfl | (apply And.intro <;> rfl)))
      simp only [Act.put, List.setIfInBounds_toArray, List.set_cons_zero, List.set_cons_succ]
      try rw [HII.out]
      refine run_at (i := 11) (v := ?_) rfl (by kernel_rfl) (by rfl) (fun _ _ _ h => h) hHeld (fun w1 hw1 => ?_) ?_
      rotate_left 1
      · skip
        go_simp
        (try (first | with_reducible rfl | (apply And.intro <;> rfl)))
      simp only [Act.put, List.setIfInBounds_toArray, List.set_cons_zero, List.set_cons_succ]
      refine run_at (i := 12) (v := ?_) rfl (by kernel_rfl) (by rfl) (fun _ _ _ h => h) hHeld (fun w1 hw1 => ?_) ?_
      rotate_left 1
      · skip
        go_simp
        (try (first | with_reducible rfl | (apply And.intro <;> rfl)))
      simp only [Act.put, List.setIfInBounds_toArray, List.set_cons_zero, List.set_cons_succ]
      refine run_at (i := 13) (v := ?_) rfl (by kernel_rfl) (by rfl) (fun _ _ _ h => h) hHeld (fun w1 hw1 => ?_) ?_
      rotate_left 1
      · skip
        go_simp
        (try (first | with_reducible rfl | (apply And.intro <;> rfl)))
      simp only [Act.put, List.setIfInBounds_toArray, List.set_cons_zero, List.set_cons_succ]
      refine run_at (i := 14) (v := ?_) rfl (by kernel_rfl) (by rfl) (fun _ _ _ h => h) hHeld (fun w1 hw1 => ?_) ?_
      rotate_left 1
      · skip
        go_simp
        (try (first | with_reducible rfl | (apply And.intro <;> rfl)))
      simp only [Act.put, List.setIfInBounds_toArray, List.set_cons_zero, List.set_cons_succ]
      refine run_at (i := 15) (v := ?_) rfl (by kernel_rfl) (by rfl) (fun _ _ _ h => h) hHeld (fun w1 hw1 => ?_) ?_
      rotate_left 1
      · skip
        go_simp
        (try (first | with_reducible rfl | (apply And.intro <;> rfl)))
      simp only [Act.put, List.setIfInBounds_toArray, List.set_cons_zero, List.set_cons_succ]
      refine run_at (i := 16) (v := ?_) rfl (by kernel_rfl) (by rfl) (fun _ _ _ h => h) hHeld (fun w1 hw1 => ?_) ?_
      rotate_left 1
      · skip
        have hcw0 := hw1.cell (HC1.out) (by first | (simp; done) | exact HNS.out | exact HNW.out | (intro hm; have hlt := HSB.out _ hm; (try dsimp only at hlt); omega))
        go_simp
        (try (first | with_reducible rfl | (apply And.intro <;> rfl)))
      simp only [Act.put, List.setIfInBounds_toArray, List.set_cons_zero, List.set_cons_succ]
      refine run_at (i := 17) (v := ?_) rfl (by kernel_rfl) (by rfl) (fun _ _ _ h => h) hHeld (fun w1 hw1 => ?_) ?_
      rotate_left 1
      · skip
        go_simp
        (try (first | with_reducible rfl | (apply And.intro <;> rfl)))
      simp only [Act.put, List.setIfInBounds_toArray, List.set_cons_zero, List.set_cons_succ]
      refine run_at (i := 18) (v := ?_) rfl (by kernel_rfl) (by rfl) (fun _ _ _ h => h) hHeld (fun w1 hw1 => ?_) ?_
      rotate_left 1
      · skip
        go_simp
        (try (first | with_reducible rfl | (apply And.intro <;> rfl)))
      simp only [Act.put, List.setIfInBounds_toArray, List.set_cons_zero, List.set_cons_succ]
      refine run_at (i := 19) (v := ?_) rfl (by kernel_rfl) (by rfl) (fun _ _ _ h => h) hHeld (fun w1 hw1 => ?_) ?_
      rotate_left 1
      · skip
        go_simp
        (try (first | with_reducible rfl | (apply And.intro <;> rfl)))
      simp only [Act.put, List.setIfInBounds_toArray, List.set_cons_zero, List.set_cons_succ]
      refine run_at (i := 20) (v := ?_) rfl (by kernel_rfl) (by rfl) (fun _ _ _ h => h) hHeld (fun w1 hw1 => ?_) ?_
      rotate_left 1
      · skip
        go_simp
        (try (first | with_reducible rfl | (apply And.intro <;> rfl)))
      simp only [Act.put, List.setIfInBounds_toArray, List.set_cons_zero, List.set_cons_succ]
      refine run_at (i := 21) (v := ?_) rfl (by kernel_rfl) (by rfl) (fun _ _ _ h => h) hHeld (fun w1 hw1 => ?_) ?_
      rotate_left 1
      · skip
        have hcw0 := hw1.cell (HC1.out) (by first | (simp; done) | exact HNS.out | exact HNW.out | (intro hm; have hlt := HSB.out _ hm; (try dsimp only at hlt); omega))
        go_simp
        (try (first | with_reducible rfl | (apply And.intro <;> rfl)))
      simp only [Act.put, List.setIfInBounds_toArray, List.set_cons_zero, List.set_cons_succ]
      refine call_at (i := 22) (f := ?_) (args := ?_) rfl (by kernel_rfl) (by rfl) ?_ ?_
      rotate_left 2
      · go_simp
        (try (first | with_reducible rfl | (apply And.intro <;> rfl)))
      refine (denies_self v.A v.n v.d v.l wd (HOK.out.l.keep' (HF.out.and hHeld (by simp)) (by simp) (fun _ _ h => h)) (by have := HOK.out.n; omega)).mono ?_
      rintro e_ w9 ⟨rfl, hf⟩
      refine ⟨_, rfl, hHeld.and hf (by simp), fun hHeld => ?_⟩
      clear hf
      simp only [Act.put, List.setIfInBounds_toArray, List.set_cons_zero, List.set_cons_succ]
      refine run_at (i := 23) (v := ?_) rfl (by kernel_rfl) (by rfl) (fun _ _ _ h => h) hHeld (fun w1 hw1 => ?_) ?_
      rotate_left 1
      · skip
        go_simp
        (try (first | with_reducible rfl | (apply And.intro <;> rfl)))
      simp only [Act.put, List.setIfInBounds_toArray, List.set_cons_zero, List.set_cons_succ]
      refine run_at (i := 24) (v := ?_) rfl (by kernel_rfl) (by rfl) (fun _ _ _ h => h) hHeld (fun w1 hw1 => ?_) ?_
      rotate_left 1
      · skip
        go_simp
        (try (first | with_reducible rfl | (apply And.intro <;> rfl)))
      simp only [Act.put, List.setIfInBounds_toArray, List.set_cons_zero, List.set_cons_succ]
      refine wpAnyH_done (by kernel_rfl) ?_ _
      have HF9 : Hid (Fr [] w w9) := Lib.hid (HF.out.and hHeld (by simp))
      clear hHeld HCELLS HCL HC0 HC1
      clear HOK
      go_wp2
      go_roundw
      case rel => exact ⟨j + 1, by have := HJN.out; omega, by go_num, HF9⟩
      case measure => have := HJN.out; simp [intOf]; omega
    · have hjn : n = j := by omega
      subst hjn
      clear hlt hj
      go_wp2
      go_ret
      exact ⟨rfl, HF.out⟩
end Go.Proofs.YtnpjihdhpoddgaaGreat

namespace Go.Proofs.YtnpjihdhpoddgaaGreat
open Go.RowKit
set_option maxRecDepth 100000

theorem made_ok (c s : Int) (hc : 0 ≤ c ∧ c < 1099511627776) (hs : i64In s) (h b : List UInt8) (hb : b.length ≤ 1000000) (l : List Ent) (hl : l.length < 1048576) : (made c s h b l).Ok := by
  refine ⟨⟨by show _ ≤ c; omega, by show c < _; omega⟩, hs, sumL_len _, ⟨by show _ ≤ ((b.length : Nat) : Int); omega, by show ((b.length : Nat) : Int) < _; omega⟩, ⟨by show _ ≤ 1000 + c; omega, by show 1000 + c < _; omega⟩, ?_⟩
  show i64In (mrk _ _)
  unfold mrk i64In
  have h1 : List.idxOf (1000 + c, (made0 c s h b).text) (sgn l (1000 + c, (made0 c s h b).text)) ≤ (sgn l (1000 + c, (made0 c s h b).text)).length := List.idxOf_le_length
  have h2 : (sgn l (1000 + c, (made0 c s h b).text)).length ≤ l.length + 1 := by unfold sgn; split <;> simp
  omega
theorem made_right (c s : Int) (hc : 0 ≤ c) (h b : List UInt8) (l : List Ent) (k : Int) (hk : c < k) (hs : 1 ≤ s ∧ s ≤ 1048576) (hb : b.length ≤ 256) :
    rightC k (sgn l (1000 + c, (made0 c s h b).text)) (made c s h b l) = true := by
  unfold rightC
  have h1 : validB k (made c s h b l) = true := by
    unfold validB
    simp only [decide_eq_true_eq]
    exact ⟨hc, hk, hs.1, hs.2, by show (0 : Int) ≤ ((b.length : Nat) : Int); omega, by show ((b.length : Nat) : Int) ≤ 256; omega⟩
  have h2 : signB (made c s h b l).b (made c s h b l).c = true := by
    unfold signB
    simp only [decide_eq_true_eq]
    exact ⟨by show 1000 ≤ 1000 + c; omega, by show 1000 + c - 1000 = c; omega⟩
  rw [h1, h2, made_text]
  exact rightB_sgn l (1000 + c) (made0 c s h b).text

end Go.Proofs.YtnpjihdhpoddgaaGreat

namespace Go.Proofs.YtnpjihdhpoddgaaGreat
open Go.RowKit
set_option maxRecDepth 100000
def zeroOp : Array Value := (opnCells 0 none 0 0 (List.replicate 32 0)).toArray
theorem built_op (parts : List (Nat × Value)) : Tryz.prog.built 54 parts = Instr.fill ([(0, 1), (1, 1), (2, 32)].toArray[·]?) zeroOp parts := by kernel_rfl
theorem built_opening (A : Option Addr) (n c : Nat) (h : List UInt8) (hh : h.length = 32) :
    Tryz.prog.built 54 [(1, .slice A n c), (2, .agg (h.map by8).toArray)] = some (opnCells 0 A n c h).toArray := by
  have hz : zeroOp.size = 34 := rfl
  rw [built_op, fill_step _ _ 1 1 1 _ _ rfl rfl (by rw [hz]; omega), fill_step _ _ 2 2 32 _ _ rfl (by simp [Value.cells, hh]) (by simp [splice, zeroOp, opnCells, Value.cells]), Instr.fill]
  congr 2
  simp [splice, zeroOp, opnCells, Value.cells, hh]
theorem built_opening3 (i : Int) (A : Option Addr) (n c : Nat) (h : List UInt8) (hh : h.length = 32) :
    Tryz.prog.built 54 [(0, .int .i64 i), (1, .slice A n c), (2, .agg (h.map by8).toArray)] = some (opnCells i A n c h).toArray := by
  have hz : zeroOp.size = 34 := rfl
  rw [built_op, fill_step _ _ 0 0 1 _ _ rfl rfl (by rw [hz]; omega), fill_step _ _ 1 1 1 _ _ rfl rfl (by simp [splice, zeroOp, opnCells, Value.cells]), fill_step _ _ 2 2 32 _ _ rfl (by simp [Value.cells, hh]) (by simp [splice, zeroOp, opnCells, Value.cells]), Instr.fill]
  congr 2
  simp [splice, zeroOp, opnCells, Value.cells, hh]
theorem built_opening2 (h : List UInt8) (hh : h.length = 32) :
    Tryz.prog.built 54 [(2, .agg (h.map by8).toArray)] = some (opnCells 0 none 0 0 h).toArray := by
  have hz : zeroOp.size = 34 := rfl
  rw [built_op, fill_step _ _ 2 2 32 _ _ rfl (by simp [Value.cells, hh]) (by rw [hz]; omega), Instr.fill]
  congr 2
  simp [splice, zeroOp, opnCells, Value.cells, hh]
end Go.Proofs.YtnpjihdhpoddgaaGreat

namespace Go.Proofs.YtnpjihdhpoddgaaGreat
open Go.RowKit
set_option maxRecDepth 100000
theorem part_row (ty : TypeId) (n off : Nat) (xs ys zs : List Value) (h : RowTy Tryz.prog ty n) (hx : xs.length = off) (hy : ys.length = n) (w : World) : (part ty (xs ++ (ys ++ zs)).toArray off).run Tryz.prog w = .ok (.agg ys.toArray) w := by
  obtain ⟨h1, h2⟩ := h
  cases hu : Tryz.prog.underlying ty with
  | none => rw [hu] at h1; cases h1
  | some d =>
    rw [hu] at h1
    cases hi : Tryz.prog.info? ty with
    | none => rw [hi] at h2; cases h2
    | some i =>
      have hs : i.size = n := by simpa [hi] using h2
      have hagg : (isAgg ty).run Tryz.prog w = .ok true w := by
        unfold isAgg
        rw [Sem.run_bind, run_underlying hu w]
        cases d <;> simp_all
      unfold part
      simp [hagg, sizeOf, typeInfo, hi, hs]
      subst hx
      subst hy
      simp
theorem hash_selfd (xs : List UInt8) (hx : xs.length = 32) (d : Nat) (w : World) :
    (Op.equalIn (d + 2) 25 (.agg (xs.map by8).toArray) (.agg (xs.map by8).toArray)).run Tryz.prog w = .ok true w := by
  have h := run_equalIn_bytes (P := Tryz.prog) w d 25 5 32 Tryz.underlying25 Tryz.underlying5 u8_size1 xs xs hx hx
  rw [show (xs == xs) = true by simp] at h
  exact h
theorem int_selfd (z : Int) (d : Nat) (w : World) : (Op.equalIn (d + 1) 3 (.int .i64 z) (.int .i64 z)).run Tryz.prog w = .ok true w := by
  have h := run_equalIn_int (P := Tryz.prog) w d 3 .i64 .i64 z z Tryz.underlying3
  rw [show (z == z) = true by simp] at h
  exact h
theorem stood (t : TypeId) (h : Tryz.prog.stoodInHeld t = false) : Tryz.prog.stoodInHeld t = false := h
set_option maxHeartbeats 1000000 in
theorem name_selfd (a b : Int) (d : Nat) (w : World) : (Op.equalIn (d + 2) 23 (.agg #[.int .i64 a, .int .i64 b]) (.agg #[.int .i64 a, .int .i64 b])).run Tryz.prog w = .ok true w := by
  have h1 := int_selfd a d w
  have h2 := int_selfd b d w
  rw [run_equalIn_struct w (d + 1) 23 _ _ (by kernel_rfl) (by kernel_rfl)]
  go_simp
theorem sig_selfd (a b : Int) (d : Nat) (w : World) : (Op.equalIn (d + 2) 27 (.agg #[.int .i64 a, .int .i64 b]) (.agg #[.int .i64 a, .int .i64 b])).run Tryz.prog w = .ok true w := by
  have h1 := int_selfd a d w
  have h2 := int_selfd b d w
  rw [run_equalIn_struct w (d + 1) 27 _ _ (by kernel_rfl) (by kernel_rfl)]
  go_simp
theorem part_one (off : Nat) (cs : Array Value) (v : Value) (hv : cs[off]? = some v) (w : World) : (part 3 cs off).run Tryz.prog w = .ok v w :=
  run_part_plain w (by kernel_rfl) hv
theorem eqFields_step {P : Program} {d : Nat} {xs : Array Value} {f : Field} {fs : List Field} {v : Value} {w : World} (hn : f.name ≠ "_") (p : (part f.type xs f.offset).run P w = .ok v w) (q : (Op.equalIn d f.type v v).run P w = .ok true w) :
    (Op.eqFields d xs xs (f :: fs)).run P w = (Op.eqFields d xs xs fs).run P w := by
  rw [Op.eqFields, if_pos hn]
  simp only [Sem.run_bind, p, Result.andThen_ok, q]
  simp
theorem commit_self (x : Cm) (hh : x.h.length = 32) (w : World) : (Op.equalIn 10000 29 (.agg x.cells.toArray) (.agg x.cells.toArray)).run Tryz.prog w = .ok true w := by
  have hl : (x.h.map by8).length = 32 := by rw [List.length_map]; exact hh
  have p0 := part_row 23 2 0 [] [.int .i64 x.c, .int .i64 x.s] (x.h.map by8 ++ [.int .i64 x.n, .int .i64 x.b, .int .i64 x.m]) row_name rfl rfl w
  have p1 := part_row 25 32 2 [.int .i64 x.c, .int .i64 x.s] (x.h.map by8) [.int .i64 x.n, .int .i64 x.b, .int .i64 x.m] row_hash rfl hl w
  have p3 := part_row 27 2 35 ([.int .i64 x.c, .int .i64 x.s] ++ x.h.map by8 ++ [.int .i64 x.n]) [.int .i64 x.b, .int .i64 x.m] [] row_sig (by simp [hh]) rfl w
  have e1 : [] ++ ([.int .i64 x.c, .int .i64 x.s] ++ (x.h.map by8 ++ [.int .i64 x.n, .int .i64 x.b, .int .i64 x.m])) = x.cells := rfl
  have e2 : [.int .i64 x.c, .int .i64 x.s] ++ (x.h.map by8 ++ [.int .i64 x.n, .int .i64 x.b, .int .i64 x.m]) = x.cells := rfl
  have e3 : ([.int .i64 x.c, .int .i64 x.s] ++ x.h.map by8 ++ [.int .i64 x.n]) ++ ([.int .i64 x.b, .int .i64 x.m] ++ []) = x.cells := by simp [Cm.cells]
  rw [e1] at p0
  rw [e2] at p1
  rw [e3] at p3
  have h4 : x.cells.toArray[34]? = some (.int .i64 x.n) := by
    rw [List.getElem?_toArray, ← e3, List.getElem?_append_left (by simp [hh]), List.getElem?_append_right (by simp [hh])]; simp [hh]
  have p2 := part_one 34 x.cells.toArray _ h4 w
  have q0 : (Op.equalIn 9999 23 (.agg #[.int .i64 x.c, .int .i64 x.s]) (.agg #[.int .i64 x.c, .int .i64 x.s])).run Tryz.prog w = .ok true w := name_selfd x.c x.s 9997 w
  have q1 : (Op.equalIn 9999 25 (.agg (x.h.map by8).toArray) (.agg (x.h.map by8).toArray)).run Tryz.prog w = .ok true w := hash_selfd x.h hh 9997 w
  have q2 : (Op.equalIn 9999 3 (.int .i64 x.n) (.int .i64 x.n)).run Tryz.prog w = .ok true w := int_selfd x.n 9998 w
  have q3 : (Op.equalIn 9999 27 (.agg #[.int .i64 x.b, .int .i64 x.m]) (.agg #[.int .i64 x.b, .int .i64 x.m])).run Tryz.prog w = .ok true w := sig_selfd x.b x.m 9997 w
  clear e1 e2 e3 h4
  generalize x.cells.toArray = C at *
  rw [run_equalIn_struct w 9999 29 _ _ (by kernel_rfl) (by kernel_rfl)]
  have hfs : (Tryz.prog.fieldsOf 29).toList.map (fun f => (f.type, f.offset, f.name == "_")) = [(23, 0, false), (25, 2, false), (3, 34, false), (27, 35, false)] := by kernel_rfl
  generalize (Tryz.prog.fieldsOf 29).toList = fs at *
  have hl4 : fs.length = 4 := by have := congrArg List.length hfs; simpa using this
  match fs, hl4, hfs with
  | [a, b, c, d], _, hfs =>
    simp only [List.map_cons, List.map_nil, List.cons.injEq, Prod.mk.injEq, beq_eq_false_iff_ne, and_true] at hfs
    obtain ⟨⟨a1, a2, a3⟩, ⟨b1, b2, b3⟩, ⟨c1, c2, c3⟩, ⟨d1, d2, d3⟩⟩ := hfs
    rw [eqFields_step a3 (by rw [a1, a2]; exact p0) (by rw [a1]; exact q0), eqFields_step b3 (by rw [b1, b2]; exact p1) (by rw [b1]; exact q1), eqFields_step c3 (by rw [c1, c2]; exact p2) (by rw [c1]; exact q2), eqFields_step d3 (by rw [d1, d2]; exact p3) (by rw [d1]; exact q3)]
    rfl
end Go.Proofs.YtnpjihdhpoddgaaGreat

namespace Go.Proofs.YtnpjihdhpoddgaaGreat
open Go.RowKit
set_option maxRecDepth 100000
theorem map_at {α β : Type} {f : α → β} {l m : List α} {j : Nat} {v u : α} (h : l.map f = m.map f) (hv : l[j]? = some v) (hu : m[j]? = some u) : f v = f u := by
  have h1 := congrArg (·[j]?) h
  simpa [hv, hu] using h1
theorem eq_Wcm (x : Wcm) (hh : x.h.length = 32) (w : World) : (Op.equalIn 10000 29 (.agg x.cells.toArray) (.agg x.cells.toArray)).run Tryz.prog w = .ok true w := commit_self ⟨x.c, x.s, x.h, x.n, x.b, x.m⟩ hh w
theorem Wce.Ok.li {w : World} {S : List Nat} {x : Wce} (h : x.Ok w S) : x.Li w S := ⟨h.k, h.l, Nat.le_trans h.n (by omega), h.ap⟩
theorem Wtb.Ok.li {w : World} {S : List Nat} {x : Wtb} (h : x.Ok w S) : x.Li w S := ⟨h.i, h.l, Nat.le_trans h.n (by omega), h.ap⟩
theorem Wpr.Ok.li {w : World} {S : List Nat} {x : Wpr} (h : x.Ok w S) : x.Li w S := ⟨h.r, h.e, h.t, ⟨h.l.1, fun v hv => ⟨(h.l.2.1 v hv).1, (h.l.2.1 v hv).2.li⟩, h.l.2.2⟩, Nat.le_trans h.n (by omega), h.ap, h.b, h.m⟩
theorem Wba.Ok.li {w : World} {S : List Nat} {x : Wba} (h : x.Ok w S) : x.Li w S := ⟨h.e, h.t, ⟨h.l.1, fun v hv => ⟨(h.l.2.1 v hv).1, (h.l.2.1 v hv).2.li⟩, h.l.2.2⟩, Nat.le_trans h.n (by omega), h.ap, h.l2, Nat.le_trans h.n2 (by omega), h.ap2, ⟨h.l3.1, fun v hv => ⟨(h.l3.2.1 v hv).1, (h.l3.2.1 v hv).2.li⟩, h.l3.2.2⟩, Nat.le_trans h.n3 (by omega), h.ap3⟩

set_option maxHeartbeats 2000000 in
theorem opening_eq (x y : Wop) (w : World) (hx : x.Ok w []) (hy : y.Ok w []) (he : x.con = y.con) (C D : List Value) (hC : x.cells = C) (hD : y.cells = D) :
    Calls Tryz.prog 38 #[.agg C.toArray, .agg D.toArray] w fun e w' => e = .returned (.bool true) ∧ Fr [] w w' := by
  obtain ⟨wa, hwa⟩ : ∃ wa, wa = (w.alloc (Obj.cells C.toArray 54)).alloc (Obj.cells D.toArray 54) := ⟨_, rfl⟩
  have hf0 : Fr [] w wa := by rw [hwa]; exact ((Fr.refl [] w).alloc _).alloc _
  have hb0 : Blk wa w.heap.size 54 x.cells.toArray := by rw [hwa, hC]; exact blk_alloc (Blk.new _ _ _)
  have hb1 : Blk wa (w.heap.size + 1) 54 y.cells.toArray := by
    have := Blk.new (w.alloc (Obj.cells C.toArray 54)) 54 D.toArray
    rw [hwa, hD]
    simpa using this
  obtain ⟨i, A, n, d, p, h⟩ := x
  obtain ⟨i', B, m, d', p', h'⟩ := y
  unfold Wop.con at he
  simp only [Cop.mk.injEq] at he
  obtain ⟨rfl, rfl, rfl⟩ := he
  have hr0 := hb0.range
  have hr1 := hb1.range
  have h00 : wa.cell? ⟨w.heap.size, 0, none⟩ = some (.int .i64 i) := by have h := hr0 0 _ rfl; simpa using h
  have h10 : wa.cell? ⟨w.heap.size + 1, 0, none⟩ = some (.int .i64 i) := by have h := hr1 0 _ rfl; simpa using h
  have h01 : wa.cell? ⟨w.heap.size, 1, none⟩ = some (.slice A n d) := by have h := hr0 1 _ rfl; simpa using h
  have h11 : wa.cell? ⟨w.heap.size + 1, 1, none⟩ = some (.slice B m d') := by have h := hr1 1 _ rfl; simpa using h
  have HH0 : Hid (wa.rangeAt w.heap.size 2 (h.map by8)) := Lib.hid (rangeAt_sub (o := 0) (xs := [.int .i64 i, .slice A n d]) (ys := h.map by8) (zs := []) hr0)
  have HH1 : Hid (wa.rangeAt (w.heap.size + 1) 2 (h.map by8)) := Lib.hid (rangeAt_sub (o := 0) (xs := [.int .i64 i, .slice B m d']) (ys := h.map by8) (zs := []) hr1)
  have HHL : Hid ((h.map by8).length = 32) := Lib.hid (by rw [List.length_map]; exact hx.h)
  have HEQ : Hid ((Op.equalIn 10000 25 (.agg (h.map by8).toArray) (.agg (h.map by8).toArray)).run Tryz.prog wa = .ok true wa) := Lib.hid (by
    have h := eql_hash h h hx.h hx.h 9998 wa
    simpa using h)
  have HF0 := Lib.hid hf0
  have HWA := Lib.hid hwa
  have HX := Lib.hid hx
  have HY := Lib.hid hy
  have hii : (i == i) = true := by simp
  clear hwa hf0 hb0 hb1 hr0 hr1 hx hy hC hD
  generalize hHV : h.map by8 = HV at *
  clear hHV
  go_enter Tryz.func38, Tryz.ntmps38
  go_upto_region 1 with (fail)
  change Code.wp _ _ _ _ ((w.alloc (Obj.cells C.toArray 54)).alloc (Obj.cells D.toArray 54))
  rw [← HWA.out]
  go_wp2_with (first
    | (refine wpList_midg rfl 25 _ rfl w.heap.size 2 rfl HV HH0.out (row_hs.of HHL.out) ?_)
    | (refine wpList_midg rfl 25 _ rfl (w.heap.size + 1) 2 rfl HV HH1.out (row_hs.of HHL.out) ?_)
    | (refine wpList_eqlg rfl 25 _ _ _ rfl HV.toArray HV.toArray rfl rfl true (by kernel_rfl) HEQ.out ?_))
  refine (same_any A B n m d d' p p wa (HX.out.p.keep HF0.out (by simp)) (HY.out.p.keep HF0.out (by simp)) (by have h1 : n ≤ 260 := HX.out.n; omega)).mono ?_
  rintro e w1 ⟨rfl, k1, hw1⟩
  simp only [decide_true]
  have HF1 : Hid (Fr [] w w1) := Lib.hid (by rw [hw1]; exact HF0.out.drewN _)
  clear hw1 h00 h10 h01 h11 hii
  go_wp2
  go_ret
  exact ⟨rfl, HF1.out⟩

set_option maxHeartbeats 4000000 in
theorem denies_eq (A B : Option Addr) (n d d' : Nat) (l m : List Wdn) (w : World) (hl : Lst 4 Wdn.cells (fun _ v => v.Ok) w A n l) (hm : Lst 4 Wdn.cells (fun _ v => v.Ok) w B n m) (hlm : l.map id = m.map id) (hn : n ≤ 1000) :
    Calls Tryz.prog 135 #[.slice A n d, .slice B n d'] w fun e w' => e = .returned (.bool true) ∧ Fr [] w w' := by
  have HL := Lib.hid hl
  have HM := Lib.hid hm
  have HLM := Lib.hid hlm
  have HN := Lib.hid hn
  have hn1 : (n : Int) ≤ 9223372036854775807 := by omega
  have hnn : ((n : Int) != (n : Int)) = false := by simp
  clear hl hm hn hlm
  go_enter Tryz.func135, Tryz.ntmps135
  go_wp2_with fail
  clear hnn
  go_loopw [5] (fun i wr => ∃ j : Nat, j ≤ n ∧ i = .int .i64 j ∧ Hid (Fr [] w wr)) (fun i _ => n - (intOf i).toNat)
  case atStart => exact ⟨0, by omega, rfl, Lib.hid (Fr.refl _ _)⟩
  case round =>
    obtain ⟨j, hj, rfl, HF⟩ := hrel
    by_cases hlt : j < n
    · obtain ⟨ad, v, hA, hv, hcl, hok, hcells⟩ := HL.out.at (i := j) hlt
      obtain ⟨bd, u, hB, hu, hclu, hoku, hcellu⟩ := HM.out.at (i := j) hlt
      subst hA
      subst hB
      have HVU := Lib.hid (map_at HLM.out hv hu)
      have HCELLS : Hid (∀ i c, (Wdn.cells v)[i]? = some c → wr.cell? ((ad.add (j * 4)).add i) = some c) := Lib.hid (fun i c hc => HF.out.cell (hcells i c hc) (by simp))
      have HCELLU : Hid (∀ i c, (Wdn.cells u)[i]? = some c → wr.cell? ((bd.add (j * 4)).add i) = some c) := Lib.hid (fun i c hc => HF.out.cell (hcellu i c hc) (by simp))
      have HCL := Lib.hid hcl
      have HCLU := Lib.hid hclu
      have HOK := Lib.hid hok
      have HOKU := Lib.hid hoku
      have HJN := Lib.hid hlt
      have hj0 : (0 : Int) ≤ j := by omega
      clear hcells hcl hok hv hcellu hclu hoku hu
      have hvu : v = u := HVU.out
      subst hvu
      have HEQ : Hid (∀ W : World, (Op.equalIn 10000 56 (.agg v.cells.toArray) (.agg v.cells.toArray)).run Tryz.prog W = .ok true W) := Lib.hid (fun W => by have h := eql_Wdn v v W; rw [(Wdn.eqB_iff v v).2 rfl] at h; exact h)
      go_upto_region 6 with (fail)
      refine wp_region_held_drew (S := Fr [] wr) (by kernel_rfl) (Fr.drew (Fr.refl _ wr)) (fun hHeld => ?_)
      generalize wr.drew = w9 at *
      refine run_at (i := 0) (v := ?_) rfl (by kernel_rfl) (by rfl) (fun _ _ _ h => h) hHeld (fun w1 hw1 => ?_) ?_
      rotate_left 1
      · skip
        go_simp
        (try (first | with_reducible rfl | (apply And.intro <;> rfl)))
      simp only [Act.put, List.setIfInBounds_toArray, List.set_cons_zero, List.set_cons_succ]
      refine run_at (i := 1) (v := ?_) rfl (by kernel_rfl) (by rfl) (fun _ _ _ h => h) hHeld (fun w1 hw1 => ?_) ?_
      rotate_left 1
      · skip
        go_simp
        (try (first | with_reducible rfl | (apply And.intro <;> rfl)))
      simp only [Act.put, List.setIfInBounds_toArray, List.set_cons_zero, List.set_cons_succ]
      refine run_at (i := 2) (v := ?_) rfl (by kernel_rfl) (by rfl) (fun _ _ _ h => h) hHeld (fun w1 hw1 => ?_) ?_
      rotate_left 1
      · skip
        go_simp
        (try (first | with_reducible rfl | (apply And.intro <;> rfl)))
      simp only [Act.put, List.setIfInBounds_toArray, List.set_cons_zero, List.set_cons_succ]
      refine crow_at (i := 3) rfl (by kernel_rfl) (by rfl) _ _ rfl _ rfl _ (fun w1 hw1 j v hv => hw1.cell ((HCELLS.out) j v hv) (by simp)) (row_dnS.of HCL.out) (fun _ _ _ h => h) hHeld ?_
      simp only [Act.put, List.setIfInBounds_toArray, List.set_cons_zero, List.set_cons_succ]
      refine run_at (i := 4) (v := ?_) rfl (by kernel_rfl) (by rfl) (fun _ _ _ h => h) hHeld (fun w1 hw1 => ?_) ?_
      rotate_left 1
      · skip
        go_simp
        (try (first | with_reducible rfl | (apply And.intro <;> rfl)))
      simp only [Act.put, List.setIfInBounds_toArray, List.set_cons_zero, List.set_cons_succ]
      refine run_at (i := 5) (v := ?_) rfl (by kernel_rfl) (by rfl) (fun _ _ _ h => h) hHeld (fun w1 hw1 => ?_) ?_
      rotate_left 1
      · skip
        go_simp
        (try (first | with_reducible rfl | (apply And.intro <;> rfl)))
      simp only [Act.put, List.setIfInBounds_toArray, List.set_cons_zero, List.set_cons_succ]
      refine run_at (i := 6) (v := ?_) rfl (by kernel_rfl) (by rfl) (fun _ _ _ h => h) hHeld (fun w1 hw1 => ?_) ?_
      rotate_left 1
      · skip
        go_simp
        (try (first | with_reducible rfl | (apply And.intro <;> rfl)))
      simp only [Act.put, List.setIfInBounds_toArray, List.set_cons_zero, List.set_cons_succ]
      refine crow_at (i := 7) rfl (by kernel_rfl) (by rfl) _ _ rfl _ rfl _ (fun w1 hw1 j v hv => hw1.cell ((HCELLU.out) j v hv) (by simp)) (row_dnS.of HCLU.out) (fun _ _ _ h => h) hHeld ?_
      simp only [Act.put, List.setIfInBounds_toArray, List.set_cons_zero, List.set_cons_succ]
      refine neq_at (i := 8) rfl (by kernel_rfl) (by rfl) _ _ _ _ rfl _ _ rfl rfl _ (by kernel_rfl) (HEQ.out) (fun _ _ _ h => h) hHeld ?_
      simp only [Act.put, List.setIfInBounds_toArray, List.set_cons_zero, List.set_cons_succ]
      refine wpAnyH_done (by kernel_rfl) ?_ _
      have HF9 : Hid (Fr [] w w9) := Lib.hid (HF.out.and hHeld (by simp))
      clear hHeld HCELLS HCL HCELLU HCLU HVU
      clear HOK HOKU
      go_wp2
      go_roundw
      case rel => exact ⟨j + 1, by have := HJN.out; omega, by go_num, HF9⟩
      case measure => have := HJN.out; simp [intOf]; omega
    · have hjn : n = j := by omega
      subst hjn
      clear hlt hj
      go_wp2
      go_ret
      exact ⟨rfl, HF.out⟩

set_option maxHeartbeats 4000000 in
theorem stamps_eq (A B : Option Addr) (n d d' : Nat) (l m : List Wst) (w : World) (hl : Lst 38 Wst.cells (fun _ v => v.Ok) w A n l) (hm : Lst 38 Wst.cells (fun _ v => v.Ok) w B n m) (hlm : l.map id = m.map id) (hn : n ≤ 1000) :
    Calls Tryz.prog 96 #[.slice A n d, .slice B n d'] w fun e w' => e = .returned (.bool true) ∧ Fr [] w w' := by
  have HL := Lib.hid hl
  have HM := Lib.hid hm
  have HLM := Lib.hid hlm
  have HN := Lib.hid hn
  have hn1 : (n : Int) ≤ 9223372036854775807 := by omega
  have hnn : ((n : Int) != (n : Int)) = false := by simp
  clear hl hm hn hlm
  go_enter Tryz.func96, Tryz.ntmps96
  go_wp2_with fail
  clear hnn
  go_loopw [5] (fun i wr => ∃ j : Nat, j ≤ n ∧ i = .int .i64 j ∧ Hid (Fr [] w wr)) (fun i _ => n - (intOf i).toNat)
  case atStart => exact ⟨0, by omega, rfl, Lib.hid (Fr.refl _ _)⟩
  case round =>
    obtain ⟨j, hj, rfl, HF⟩ := hrel
    by_cases hlt : j < n
    · obtain ⟨ad, v, hA, hv, hcl, hok, hcells⟩ := HL.out.at (i := j) hlt
      obtain ⟨bd, u, hB, hu, hclu, hoku, hcellu⟩ := HM.out.at (i := j) hlt
      subst hA
      subst hB
      have HVU := Lib.hid (map_at HLM.out hv hu)
      have HCELLS : Hid (∀ i c, (Wst.cells v)[i]? = some c → wr.cell? ((ad.add (j * 38)).add i) = some c) := Lib.hid (fun i c hc => HF.out.cell (hcells i c hc) (by simp))
      have HCELLU : Hid (∀ i c, (Wst.cells u)[i]? = some c → wr.cell? ((bd.add (j * 38)).add i) = some c) := Lib.hid (fun i c hc => HF.out.cell (hcellu i c hc) (by simp))
      have HCL := Lib.hid hcl
      have HCLU := Lib.hid hclu
      have HOK := Lib.hid hok
      have HOKU := Lib.hid hoku
      have HJN := Lib.hid hlt
      have hj0 : (0 : Int) ≤ j := by omega
      clear hcells hcl hok hv hcellu hclu hoku hu
      have hvu : v = u := HVU.out
      subst hvu
      have HEQ : Hid (∀ W : World, (Op.equalIn 10000 32 (.agg v.cells.toArray) (.agg v.cells.toArray)).run Tryz.prog W = .ok true W) := Lib.hid (fun W => by have h := eql_Wst v v HOK.out.h HOK.out.h W; rw [(Wst.eqB_iff v v).2 rfl] at h; exact h)
      go_upto_region 6 with (fail)
      refine wp_region_held_drew (S := Fr [] wr) (by kernel_rfl) (Fr.drew (Fr.refl _ wr)) (fun hHeld => ?_)
      generalize wr.drew = w9 at *
      refine run_at (i := 0) (v := ?_) rfl (by kernel_rfl) (by rfl) (fun _ _ _ h => h) hHeld (fun w1 hw1 => ?_) ?_
      rotate_left 1
      · skip
        go_simp
        (try (first | with_reducible rfl | (apply And.intro <;> rfl)))
      simp only [Act.put, List.setIfInBounds_toArray, List.set_cons_zero, List.set_cons_succ]
      refine run_at (i := 1) (v := ?_) rfl (by kernel_rfl) (by rfl) (fun _ _ _ h => h) hHeld (fun w1 hw1 => ?_) ?_
      rotate_left 1
      · skip
        go_simp
        (try (first | with_reducible rfl | (apply And.intro <;> rfl)))
      simp only [Act.put, List.setIfInBounds_toArray, List.set_cons_zero, List.set_cons_succ]
      refine run_at (i := 2) (v := ?_) rfl (by kernel_rfl) (by rfl) (fun _ _ _ h => h) hHeld (fun w1 hw1 => ?_) ?_
      rotate_left 1
      · skip
        go_simp
        (try (first | with_reducible rfl | (apply And.intro <;> rfl)))
      simp only [Act.put, List.setIfInBounds_toArray, List.set_cons_zero, List.set_cons_succ]
      refine crow_at (i := 3) rfl (by kernel_rfl) (by rfl) _ _ rfl _ rfl _ (fun w1 hw1 j v hv => hw1.cell ((HCELLS.out) j v hv) (by simp)) (row_stm.of HCL.out) (fun _ _ _ h => h) hHeld ?_
      simp only [Act.put, List.setIfInBounds_toArray, List.set_cons_zero, List.set_cons_succ]
      refine run_at (i := 4) (v := ?_) rfl (by kernel_rfl) (by rfl) (fun _ _ _ h => h) hHeld (fun w1 hw1 => ?_) ?_
      rotate_left 1
      · skip
        go_simp
        (try (first | with_reducible rfl | (apply And.intro <;> rfl)))
      simp only [Act.put, List.setIfInBounds_toArray, List.set_cons_zero, List.set_cons_succ]
      refine run_at (i := 5) (v := ?_) rfl (by kernel_rfl) (by rfl) (fun _ _ _ h => h) hHeld (fun w1 hw1 => ?_) ?_
      rotate_left 1
      · skip
        go_simp
        (try (first | with_reducible rfl | (apply And.intro <;> rfl)))
      simp only [Act.put, List.setIfInBounds_toArray, List.set_cons_zero, List.set_cons_succ]
      refine run_at (i := 6) (v := ?_) rfl (by kernel_rfl) (by rfl) (fun _ _ _ h => h) hHeld (fun w1 hw1 => ?_) ?_
      rotate_left 1
      · skip
        go_simp
        (try (first | with_reducible rfl | (apply And.intro <;> rfl)))
      simp only [Act.put, List.setIfInBounds_toArray, List.set_cons_zero, List.set_cons_succ]
      refine crow_at (i := 7) rfl (by kernel_rfl) (by rfl) _ _ rfl _ rfl _ (fun w1 hw1 j v hv => hw1.cell ((HCELLU.out) j v hv) (by simp)) (row_stm.of HCLU.out) (fun _ _ _ h => h) hHeld ?_
      simp only [Act.put, List.setIfInBounds_toArray, List.set_cons_zero, List.set_cons_succ]
      refine neq_at (i := 8) rfl (by kernel_rfl) (by rfl) _ _ _ _ rfl _ _ rfl rfl _ (by kernel_rfl) (HEQ.out) (fun _ _ _ h => h) hHeld ?_
      simp only [Act.put, List.setIfInBounds_toArray, List.set_cons_zero, List.set_cons_succ]
      refine wpAnyH_done (by kernel_rfl) ?_ _
      have HF9 : Hid (Fr [] w w9) := Lib.hid (HF.out.and hHeld (by simp))
      clear hHeld HCELLS HCL HCELLU HCLU HVU
      clear HOK HOKU
      go_wp2
      go_roundw
      case rel => exact ⟨j + 1, by have := HJN.out; omega, by go_num, HF9⟩
      case measure => have := HJN.out; simp [intOf]; omega
    · have hjn : n = j := by omega
      subst hjn
      clear hlt hj
      go_wp2
      go_ret
      exact ⟨rfl, HF.out⟩

set_option maxHeartbeats 4000000 in
theorem openings_eq (A B : Option Addr) (n d d' : Nat) (l m : List Wop) (w : World) (hl : Lst 34 Wop.cells (fun w v => v.Ok w []) w A n l) (hm : Lst 34 Wop.cells (fun w v => v.Ok w []) w B n m) (hlm : l.map Wop.con = m.map Wop.con) (hn : n ≤ 1000) :
    Calls Tryz.prog 98 #[.slice A n d, .slice B n d'] w fun e w' => e = .returned (.bool true) ∧ Fr [] w w' := by
  have HL := Lib.hid hl
  have HM := Lib.hid hm
  have HLM := Lib.hid hlm
  have HN := Lib.hid hn
  have hn1 : (n : Int) ≤ 9223372036854775807 := by omega
  have hnn : ((n : Int) != (n : Int)) = false := by simp
  clear hl hm hn hlm
  go_enter Tryz.func98, Tryz.ntmps98
  go_wp2_with fail
  clear hnn
  go_loopw [13] (fun i wr => ∃ j : Nat, j ≤ n ∧ i = .int .i64 j ∧ Hid (Fr [] w wr)) (fun i _ => n - (intOf i).toNat)
  case atStart => exact ⟨0, by omega, rfl, Lib.hid (Fr.refl _ _)⟩
  case round =>
    obtain ⟨j, hj, rfl, HF⟩ := hrel
    by_cases hlt : j < n
    · obtain ⟨ad, v, hA, hv, hcl, hok, hcells⟩ := HL.out.at (i := j) hlt
      obtain ⟨bd, u, hB, hu, hclu, hoku, hcellu⟩ := HM.out.at (i := j) hlt
      subst hA
      subst hB
      have HVU := Lib.hid (map_at HLM.out hv hu)
      have HCELLS : Hid (∀ i c, (Wop.cells v)[i]? = some c → wr.cell? ((ad.add (j * 34)).add i) = some c) := Lib.hid (fun i c hc => HF.out.cell (hcells i c hc) (by simp))
      have HCELLU : Hid (∀ i c, (Wop.cells u)[i]? = some c → wr.cell? ((bd.add (j * 34)).add i) = some c) := Lib.hid (fun i c hc => HF.out.cell (hcellu i c hc) (by simp))
      have HCL := Lib.hid hcl
      have HCLU := Lib.hid hclu
      have HOK := Lib.hid hok
      have HOKU := Lib.hid hoku
      have HJN := Lib.hid hlt
      have hj0 : (0 : Int) ≤ j := by omega
      clear hcells hcl hok hv hcellu hclu hoku hu
      go_upto_region 6 with (fail)
      refine wp_region_held_drew (S := Fr [] wr) (by kernel_rfl) (Fr.drew (Fr.refl _ wr)) (fun hHeld => ?_)
      generalize wr.drew = wd at *
      refine run_at (i := 0) (v := ?_) rfl (by kernel_rfl) (by rfl) (fun _ _ _ h => h) hHeld (fun w1 hw1 => ?_) ?_
      rotate_left 1
      · skip
        go_simp
        (try (first | with_reducible rfl | (apply And.intro <;> rfl)))
      simp only [Act.put, List.setIfInBounds_toArray, List.set_cons_zero, List.set_cons_succ]
      refine run_at (i := 1) (v := ?_) rfl (by kernel_rfl) (by rfl) (fun _ _ _ h => h) hHeld (fun w1 hw1 => ?_) ?_
      rotate_left 1
      · skip
        go_simp
        (try (first | with_reducible rfl | (apply And.intro <;> rfl)))
      simp only [Act.put, List.setIfInBounds_toArray, List.set_cons_zero, List.set_cons_succ]
      refine run_at (i := 2) (v := ?_) rfl (by kernel_rfl) (by rfl) (fun _ _ _ h => h) hHeld (fun w1 hw1 => ?_) ?_
      rotate_left 1
      · skip
        go_simp
        (try (first | with_reducible rfl | (apply And.intro <;> rfl)))
      simp only [Act.put, List.setIfInBounds_toArray, List.set_cons_zero, List.set_cons_succ]
      refine crow_at (i := 3) rfl (by kernel_rfl) (by rfl) _ _ rfl _ rfl _ (fun w1 hw1 j v hv => hw1.cell ((HCELLS.out) j v hv) (by simp)) (row_opS.of HCL.out) (fun _ _ _ h => h) hHeld ?_
      simp only [Act.put, List.setIfInBounds_toArray, List.set_cons_zero, List.set_cons_succ]
      refine run_at (i := 4) (v := ?_) rfl (by kernel_rfl) (by rfl) (fun _ _ _ h => h) hHeld (fun w1 hw1 => ?_) ?_
      rotate_left 1
      · skip
        go_simp
        (try (first | with_reducible rfl | (apply And.intro <;> rfl)))
      simp only [Act.put, List.setIfInBounds_toArray, List.set_cons_zero, List.set_cons_succ]
      refine run_at (i := 5) (v := ?_) rfl (by kernel_rfl) (by rfl) (fun _ _ _ h => h) hHeld (fun w1 hw1 => ?_) ?_
      rotate_left 1
      · skip
        go_simp
        (try (first | with_reducible rfl | (apply And.intro <;> rfl)))
      simp only [Act.put, List.setIfInBounds_toArray, List.set_cons_zero, List.set_cons_succ]
      refine run_at (i := 6) (v := ?_) rfl (by kernel_rfl) (by rfl) (fun _ _ _ h => h) hHeld (fun w1 hw1 => ?_) ?_
      rotate_left 1
      · skip
        go_simp
        (try (first | with_reducible rfl | (apply And.intro <;> rfl)))
      simp only [Act.put, List.setIfInBounds_toArray, List.set_cons_zero, List.set_cons_succ]
      refine crow_at (i := 7) rfl (by kernel_rfl) (by rfl) _ _ rfl _ rfl _ (fun w1 hw1 j v hv => hw1.cell ((HCELLU.out) j v hv) (by simp)) (row_opS.of HCLU.out) (fun _ _ _ h => h) hHeld ?_
      simp only [Act.put, List.setIfInBounds_toArray, List.set_cons_zero, List.set_cons_succ]
      refine call_at (i := 8) (f := ?_) (args := ?_) rfl (by kernel_rfl) (by rfl) ?_ ?_
      rotate_left 2
      · go_simp
        (try (first | with_reducible rfl | (apply And.intro <;> rfl)))
      refine (opening_eq v u wd (Wop.Ok.keep HOK.out (HF.out.and hHeld (by simp)) (by simp)) (Wop.Ok.keep HOKU.out (HF.out.and hHeld (by simp)) (by simp)) HVU.out _ _ rfl rfl).mono ?_
      rintro e_ w9 ⟨rfl, hf⟩
      refine ⟨_, rfl, hHeld.and hf (by simp), fun hHeld => ?_⟩
      clear hf
      simp only [Act.put, List.setIfInBounds_toArray, List.set_cons_zero, List.set_cons_succ]
      refine run_at (i := 9) (v := ?_) rfl (by kernel_rfl) (by rfl) (fun _ _ _ h => h) hHeld (fun w1 hw1 => ?_) ?_
      rotate_left 1
      · skip
        go_simp
        (try (first | with_reducible rfl | (apply And.intro <;> rfl)))
      simp only [Act.put, List.setIfInBounds_toArray, List.set_cons_zero, List.set_cons_succ]
      refine wpAnyH_done (by kernel_rfl) ?_ _
      have HF9 : Hid (Fr [] w w9) := Lib.hid (HF.out.and hHeld (by simp))
      clear hHeld HCELLS HCL HCELLU HCLU HVU
      clear HOK HOKU
      go_wp2
      go_roundw
      case rel => exact ⟨j + 1, by have := HJN.out; omega, by go_num, HF9⟩
      case measure => have := HJN.out; simp [intOf]; omega
    · have hjn : n = j := by omega
      subst hjn
      clear hlt hj
      go_wp2
      go_ret
      exact ⟨rfl, HF.out⟩

set_option maxHeartbeats 4000000 in
theorem tombs_eq (A B : Option Addr) (n d d' : Nat) (l m : List Wtb) (w : World) (hl : Lst 2 Wtb.cells (fun w v => v.Li w []) w A n l) (hm : Lst 2 Wtb.cells (fun w v => v.Li w []) w B n m) (hlm : l.map Wtb.con = m.map Wtb.con) (hn : n ≤ 1000) :
    Calls Tryz.prog 99 #[.slice A n d, .slice B n d'] w fun e w' => e = .returned (.bool true) ∧ Fr [] w w' := by
  have HL := Lib.hid hl
  have HM := Lib.hid hm
  have HLM := Lib.hid hlm
  have HN := Lib.hid hn
  have hn1 : (n : Int) ≤ 9223372036854775807 := by omega
  have hnn : ((n : Int) != (n : Int)) = false := by simp
  clear hl hm hn hlm
  go_enter Tryz.func99, Tryz.ntmps99
  go_wp2_with fail
  clear hnn
  go_loopw [13] (fun i wr => ∃ j : Nat, j ≤ n ∧ i = .int .i64 j ∧ Hid (Fr [] w wr)) (fun i _ => n - (intOf i).toNat)
  case atStart => exact ⟨0, by omega, rfl, Lib.hid (Fr.refl _ _)⟩
  case round =>
    obtain ⟨j, hj, rfl, HF⟩ := hrel
    by_cases hlt : j < n
    · obtain ⟨ad, v, hA, hv, hcl, hok, hcells⟩ := HL.out.at (i := j) hlt
      obtain ⟨bd, u, hB, hu, hclu, hoku, hcellu⟩ := HM.out.at (i := j) hlt
      subst hA
      subst hB
      have HVU := Lib.hid (map_at HLM.out hv hu)
      have HCELLS : Hid (∀ i c, (Wtb.cells v)[i]? = some c → wr.cell? ((ad.add (j * 2)).add i) = some c) := Lib.hid (fun i c hc => HF.out.cell (hcells i c hc) (by simp))
      have HCELLU : Hid (∀ i c, (Wtb.cells u)[i]? = some c → wr.cell? ((bd.add (j * 2)).add i) = some c) := Lib.hid (fun i c hc => HF.out.cell (hcellu i c hc) (by simp))
      have HCL := Lib.hid hcl
      have HCLU := Lib.hid hclu
      have HOK := Lib.hid hok
      have HOKU := Lib.hid hoku
      have HJN := Lib.hid hlt
      have hj0 : (0 : Int) ≤ j := by omega
      clear hcells hcl hok hv hcellu hclu hoku hu
      have HC0 : Hid (wr.cell? (ad.add (j * 2)) = some (.int .i64 v.i)) := Lib.hid (by have h := HCELLS.out 0 _ rfl; simpa [Addr.add] using h)
      have HC1 : Hid (wr.cell? ⟨(ad.add (j * 2)).block, (ad.add (j * 2)).off + 1, none⟩ = some (.slice v.A v.n v.d)) := Lib.hid (by have h := HCELLS.out 1 _ rfl; rw [fld_add] at h; exact h)
      have HVI : Hid (v.i = u.i ∧ v.l = u.l) := Lib.hid (by have h := HVU.out; unfold Wtb.con at h; simpa using h)
      have HD0 : Hid (wr.cell? (bd.add (j * 2)) = some (.int .i64 v.i)) := Lib.hid (by rw [HVI.out.1]; have h := HCELLU.out 0 _ rfl; simpa [Addr.add] using h)
      have HNN : Hid (u.n = v.n) := Lib.hid (by rw [← HOKU.out.l.1, ← HOK.out.l.1, HVI.out.2])
      have HD1 : Hid (wr.cell? ⟨(bd.add (j * 2)).block, (bd.add (j * 2)).off + 1, none⟩ = some (.slice u.A v.n u.d)) := Lib.hid (by rw [← HNN.out]; have h := HCELLU.out 1 _ rfl; rw [fld_add] at h; exact h)
      have HII : Hid ((v.i != v.i) = false) := Lib.hid (by simp)
      go_upto_region 6 with (fail)
      refine wp_region_held_drew (S := Fr [] wr) (by kernel_rfl) (Fr.drew (Fr.refl _ wr)) (fun hHeld => ?_)
      generalize wr.drew = wd at *
      refine run_at (i := 0) (v := ?_) rfl (by kernel_rfl) (by rfl) (fun _ _ _ h => h) hHeld (fun w1 hw1 => ?_) ?_
      rotate_left 1
      · skip
        go_simp
        (try (first | with_reducible rfl | (apply And.intro <;> rfl)))
      simp only [Act.put, List.setIfInBounds_toArray, List.set_cons_zero, List.set_cons_succ]
      refine run_at (i := 1) (v := ?_) rfl (by kernel_rfl) (by rfl) (fun _ _ _ h => h) hHeld (fun w1 hw1 => ?_) ?_
      rotate_left 1
      · skip
        go_simp
        (try (first | with_reducible rfl | (apply And.intro <;> rfl)))
      simp only [Act.put, List.setIfInBounds_toArray, List.set_cons_zero, List.set_cons_succ]
      refine run_at (i := 2) (v := ?_) rfl (by kernel_rfl) (by rfl) (fun _ _ _ h => h) hHeld (fun w1 hw1 => ?_) ?_
      rotate_left 1
      · skip
        go_simp
        (try (first | with_reducible rfl | (apply And.intro <;> rfl)))
      simp only [Act.put, List.setIfInBounds_toArray, List.set_cons_zero, List.set_cons_succ]
      refine run_at (i := 3) (v := ?_) rfl (by kernel_rfl) (by rfl) (fun _ _ _ h => h) hHeld (fun w1 hw1 => ?_) ?_
      rotate_left 1
      · skip
        go_simp
        (try (first | with_reducible rfl | (apply And.intro <;> rfl)))
      simp only [Act.put, List.setIfInBounds_toArray, List.set_cons_zero, List.set_cons_succ]
      refine run_at (i := 4) (v := ?_) rfl (by kernel_rfl) (by rfl) (fun _ _ _ h => h) hHeld (fun w1 hw1 => ?_) ?_
      rotate_left 1
      · skip
        have hcw0 := hw1.cell (HC0.out) (by first | (simp; done) | exact HNS.out | exact HNW.out | (intro hm; have hlt := HSB.out _ hm; (try dsimp only at hlt); omega))
        go_simp
        (try (first | with_reducible rfl | (apply And.intro <;> rfl)))
      simp only [Act.put, List.setIfInBounds_toArray, List.set_cons_zero, List.set_cons_succ]
      refine run_at (i := 5) (v := ?_) rfl (by kernel_rfl) (by rfl) (fun _ _ _ h => h) hHeld (fun w1 hw1 => ?_) ?_
      rotate_left 1
      · skip
        go_simp
        (try (first | with_reducible rfl | (apply And.intro <;> rfl)))
      simp only [Act.put, List.setIfInBounds_toArray, List.set_cons_zero, List.set_cons_succ]
      refine run_at (i := 6) (v := ?_) rfl (by kernel_rfl) (by rfl) (fun _ _ _ h => h) hHeld (fun w1 hw1 => ?_) ?_
      rotate_left 1
      · skip
        go_simp
        (try (first | with_reducible rfl | (apply And.intro <;> rfl)))
      simp only [Act.put, List.setIfInBounds_toArray, List.set_cons_zero, List.set_cons_succ]
      refine run_at (i := 7) (v := ?_) rfl (by kernel_rfl) (by rfl) (fun _ _ _ h => h) hHeld (fun w1 hw1 => ?_) ?_
      rotate_left 1
      · skip
        go_simp
        (try (first | with_reducible rfl | (apply And.intro <;> rfl)))
      simp only [Act.put, List.setIfInBounds_toArray, List.set_cons_zero, List.set_cons_succ]
      refine run_at (i := 8) (v := ?_) rfl (by kernel_rfl) (by rfl) (fun _ _ _ h => h) hHeld (fun w1 hw1 => ?_) ?_
      rotate_left 1
      · skip
        go_simp
        (try (first | with_reducible rfl | (apply And.intro <;> rfl)))
      simp only [Act.put, List.setIfInBounds_toArray, List.set_cons_zero, List.set_cons_succ]
      refine run_at (i := 9) (v := ?_) rfl (by kernel_rfl) (by rfl) (fun _ _ _ h => h) hHeld (fun w1 hw1 => ?_) ?_
      rotate_left 1
      · skip
        have hcw0 := hw1.cell (HD0.out) (by first | (simp; done) | exact HNS.out | exact HNW.out | (intro hm; have hlt := HSB.out _ hm; (try dsimp only at hlt); omega))
        go_simp
        (try (first | with_reducible rfl | (apply And.intro <;> rfl)))
      simp only [Act.put, List.setIfInBounds_toArray, List.set_cons_zero, List.set_cons_succ]
      refine run_at (i := 10) (v := ?_) rfl (by kernel_rfl) (by rfl) (fun _ _ _ h => h) hHeld (fun w1 hw1 => ?_) ?_
      rotate_left 1
      · skip
        go_simp
        (try (first | with_reducible rfl | (apply And.intro <;> rfl)))
      simp only [Act.put, List.setIfInBounds_toArray, List.set_cons_zero, List.set_cons_succ]
      try rw [HII.out]
      refine run_at (i := 11) (v := ?_) rfl (by kernel_rfl) (by rfl) (fun _ _ _ h => h) hHeld (fun w1 hw1 => ?_) ?_
      rotate_left 1
      · skip
        go_simp
        (try (first | with_reducible rfl | (apply And.intro <;> rfl)))
      simp only [Act.put, List.setIfInBounds_toArray, List.set_cons_zero, List.set_cons_succ]
      refine run_at (i := 12) (v := ?_) rfl (by kernel_rfl) (by rfl) (fun _ _ _ h => h) hHeld (fun w1 hw1 => ?_) ?_
      rotate_left 1
      · skip
        go_simp
        (try (first | with_reducible rfl | (apply And.intro <;> rfl)))
      simp only [Act.put, List.setIfInBounds_toArray, List.set_cons_zero, List.set_cons_succ]
      refine run_at (i := 13) (v := ?_) rfl (by kernel_rfl) (by rfl) (fun _ _ _ h => h) hHeld (fun w1 hw1 => ?_) ?_
      rotate_left 1
      · skip
        go_simp
        (try (first | with_reducible rfl | (apply And.intro <;> rfl)))
      simp only [Act.put, List.setIfInBounds_toArray, List.set_cons_zero, List.set_cons_succ]
      refine run_at (i := 14) (v := ?_) rfl (by kernel_rfl) (by rfl) (fun _ _ _ h => h) hHeld (fun w1 hw1 => ?_) ?_
      rotate_left 1
      · skip
        go_simp
        (try (first | with_reducible rfl | (apply And.intro <;> rfl)))
      simp only [Act.put, List.setIfInBounds_toArray, List.set_cons_zero, List.set_cons_succ]
      refine run_at (i := 15) (v := ?_) rfl (by kernel_rfl) (by rfl) (fun _ _ _ h => h) hHeld (fun w1 hw1 => ?_) ?_
      rotate_left 1
      · skip
        go_simp
        (try (first | with_reducible rfl | (apply And.intro <;> rfl)))
      simp only [Act.put, List.setIfInBounds_toArray, List.set_cons_zero, List.set_cons_succ]
      refine run_at (i := 16) (v := ?_) rfl (by kernel_rfl) (by rfl) (fun _ _ _ h => h) hHeld (fun w1 hw1 => ?_) ?_
      rotate_left 1
      · skip
        have hcw0 := hw1.cell (HC1.out) (by first | (simp; done) | exact HNS.out | exact HNW.out | (intro hm; have hlt := HSB.out _ hm; (try dsimp only at hlt); omega))
        go_simp
        (try (first | with_reducible rfl | (apply And.intro <;> rfl)))
      simp only [Act.put, List.setIfInBounds_toArray, List.set_cons_zero, List.set_cons_succ]
      refine run_at (i := 17) (v := ?_) rfl (by kernel_rfl) (by rfl) (fun _ _ _ h => h) hHeld (fun w1 hw1 => ?_) ?_
      rotate_left 1
      · skip
        go_simp
        (try (first | with_reducible rfl | (apply And.intro <;> rfl)))
      simp only [Act.put, List.setIfInBounds_toArray, List.set_cons_zero, List.set_cons_succ]
      refine run_at (i := 18) (v := ?_) rfl (by kernel_rfl) (by rfl) (fun _ _ _ h => h) hHeld (fun w1 hw1 => ?_) ?_
      rotate_left 1
      · skip
        go_simp
        (try (first | with_reducible rfl | (apply And.intro <;> rfl)))
      simp only [Act.put, List.setIfInBounds_toArray, List.set_cons_zero, List.set_cons_succ]
      refine run_at (i := 19) (v := ?_) rfl (by kernel_rfl) (by rfl) (fun _ _ _ h => h) hHeld (fun w1 hw1 => ?_) ?_
      rotate_left 1
      · skip
        go_simp
        (try (first | with_reducible rfl | (apply And.intro <;> rfl)))
      simp only [Act.put, List.setIfInBounds_toArray, List.set_cons_zero, List.set_cons_succ]
      refine run_at (i := 20) (v := ?_) rfl (by kernel_rfl) (by rfl) (fun _ _ _ h => h) hHeld (fun w1 hw1 => ?_) ?_
      rotate_left 1
      · skip
        go_simp
        (try (first | with_reducible rfl | (apply And.intro <;> rfl)))
      simp only [Act.put, List.setIfInBounds_toArray, List.set_cons_zero, List.set_cons_succ]
      refine run_at (i := 21) (v := ?_) rfl (by kernel_rfl) (by rfl) (fun _ _ _ h => h) hHeld (fun w1 hw1 => ?_) ?_
      rotate_left 1
      · skip
        have hcw0 := hw1.cell (HD1.out) (by first | (simp; done) | exact HNS.out | exact HNW.out | (intro hm; have hlt := HSB.out _ hm; (try dsimp only at hlt); omega))
        go_simp
        (try (first | with_reducible rfl | (apply And.intro <;> rfl)))
      simp only [Act.put, List.setIfInBounds_toArray, List.set_cons_zero, List.set_cons_succ]
      refine call_at (i := 22) (f := ?_) (args := ?_) rfl (by kernel_rfl) (by rfl) ?_ ?_
      rotate_left 2
      · go_simp
        (try (first | with_reducible rfl | (apply And.intro <;> rfl)))
      refine (denies_eq v.A u.A v.n v.d u.d v.l u.l wd (HOK.out.l.keep' (HF.out.and hHeld (by simp)) (by simp) (fun _ _ h => h)) (by rw [← HNN.out]; exact HOKU.out.l.keep' (HF.out.and hHeld (by simp)) (by simp) (fun _ _ h => h)) (by rw [HVI.out.2]) (by have := HOK.out.n; omega)).mono ?_
      rintro e_ w9 ⟨rfl, hf⟩
      refine ⟨_, rfl, hHeld.and hf (by simp), fun hHeld => ?_⟩
      clear hf
      simp only [Act.put, List.setIfInBounds_toArray, List.set_cons_zero, List.set_cons_succ]
      refine run_at (i := 23) (v := ?_) rfl (by kernel_rfl) (by rfl) (fun _ _ _ h => h) hHeld (fun w1 hw1 => ?_) ?_
      rotate_left 1
      · skip
        go_simp
        (try (first | with_reducible rfl | (apply And.intro <;> rfl)))
      simp only [Act.put, List.setIfInBounds_toArray, List.set_cons_zero, List.set_cons_succ]
      refine run_at (i := 24) (v := ?_) rfl (by kernel_rfl) (by rfl) (fun _ _ _ h => h) hHeld (fun w1 hw1 => ?_) ?_
      rotate_left 1
      · skip
        go_simp
        (try (first | with_reducible rfl | (apply And.intro <;> rfl)))
      simp only [Act.put, List.setIfInBounds_toArray, List.set_cons_zero, List.set_cons_succ]
      refine wpAnyH_done (by kernel_rfl) ?_ _
      have HF9 : Hid (Fr [] w w9) := Lib.hid (HF.out.and hHeld (by simp))
      clear hHeld HCELLS HCL HC0 HC1 HCELLU HCLU HD0 HD1 HVU HVI HNN
      clear HOK HOKU
      go_wp2
      go_roundw
      case rel => exact ⟨j + 1, by have := HJN.out; omega, by go_num, HF9⟩
      case measure => have := HJN.out; simp [intOf]; omega
    · have hjn : n = j := by omega
      subst hjn
      clear hlt hj
      go_wp2
      go_ret
      exact ⟨rfl, HF.out⟩

set_option maxHeartbeats 2000000 in
theorem cert_eq (x y : Wce) (w : World) (hx : x.Li w []) (hy : y.Li w []) (he : x.con = y.con) (C D : List Value) (hC : x.cells = C) (hD : y.cells = D) :
    Calls Tryz.prog 35 #[.agg C.toArray, .agg D.toArray] w fun e w' => e = .returned (.bool true) ∧ Fr [] w w' := by
  obtain ⟨wa, hwa⟩ : ∃ wa, wa = (w.alloc (Obj.cells C.toArray 35)).alloc (Obj.cells D.toArray 35) := ⟨_, rfl⟩
  have hf0 : Fr [] w wa := by rw [hwa]; exact ((Fr.refl [] w).alloc _).alloc _
  have hb0 : Blk wa w.heap.size 35 x.cells.toArray := by rw [hwa, hC]; exact blk_alloc (Blk.new _ _ _)
  have hb1 : Blk wa (w.heap.size + 1) 35 y.cells.toArray := by
    have := Blk.new (w.alloc (Obj.cells C.toArray 35)) 35 D.toArray
    rw [hwa, hD]
    simpa using this
  obtain ⟨k, A, n, d, l⟩ := x
  obtain ⟨k', B, m, d', l'⟩ := y
  unfold Wce.con at he
  simp only [Prod.mk.injEq] at he
  obtain ⟨rfl, rfl⟩ := he
  have hnm : m = n := hy.l.1.symm.trans hx.l.1
  subst hnm
  have hr0 := hb0.range
  have hr1 := hb1.range
  have HKL : Hid (k.cells.length = 37) := Lib.hid (Wcm.len hx.k.h)
  have h01 : wa.cell? ⟨w.heap.size, 37, none⟩ = some (.slice A m d) := by have h := hr0 37 (.slice A m d) (by simp [Wce.cells, HKL.out]); simpa using h
  have h11 : wa.cell? ⟨w.heap.size + 1, 37, none⟩ = some (.slice B m d') := by have h := hr1 37 (.slice B m d') (by simp [Wce.cells, HKL.out]); simpa using h
  have HH0 : Hid (wa.rangeAt w.heap.size 0 k.cells) := Lib.hid (rangeAt_sub (o := 0) (xs := []) (ys := k.cells) (zs := [.slice A m d]) hr0)
  have HH1 : Hid (wa.rangeAt (w.heap.size + 1) 0 k.cells) := Lib.hid (rangeAt_sub (o := 0) (xs := []) (ys := k.cells) (zs := [.slice B m d']) hr1)
  have HEQ : Hid ((Op.equalIn 10000 29 (.agg k.cells.toArray) (.agg k.cells.toArray)).run Tryz.prog wa = .ok true wa) := Lib.hid (eq_Wcm k hx.k.h wa)
  have HF0 := Lib.hid hf0
  have HWA := Lib.hid hwa
  have HX := Lib.hid hx
  have HY := Lib.hid hy
  clear hwa hf0 hb0 hb1 hr0 hr1 hx hy hC hD
  generalize hKC : k.cells = KC at *
  clear hKC
  go_enter Tryz.func35, Tryz.ntmps35
  go_upto_region 1 with (fail)
  change Code.wp _ _ _ _ ((w.alloc (Obj.cells C.toArray 35)).alloc (Obj.cells D.toArray 35))
  rw [← HWA.out]
  go_wp2_with (first
    | (refine wpList_midg rfl 29 _ rfl w.heap.size 0 rfl KC HH0.out (row_cmt.of HKL.out) ?_)
    | (refine wpList_midg rfl 29 _ rfl (w.heap.size + 1) 0 rfl KC HH1.out (row_cmt.of HKL.out) ?_)
    | (refine wpList_eqlg rfl 29 _ _ _ rfl KC.toArray KC.toArray rfl rfl true (by kernel_rfl) HEQ.out ?_))
  refine (stamps_eq A B m d d' l l wa (HX.out.l.keep' HF0.out (by simp) (fun _ _ h => h)) (HY.out.l.keep' HF0.out (by simp) (fun _ _ h => h)) rfl (by have h1 : m ≤ 100 := HX.out.n; omega)).mono ?_
  rintro e w1 ⟨rfl, hf1⟩
  have HF1 : Hid (Fr [] w w1) := Lib.hid (HF0.out.and hf1 (by simp))
  clear hf1 h01 h11
  go_wp2
  go_ret
  exact ⟨rfl, HF1.out⟩

set_option maxHeartbeats 4000000 in
theorem certs_eq (A B : Option Addr) (n d d' : Nat) (l m : List Wce) (w : World) (hl : Lst 38 Wce.cells (fun w v => v.Li w []) w A n l) (hm : Lst 38 Wce.cells (fun w v => v.Li w []) w B n m) (hlm : l.map Wce.con = m.map Wce.con) (hn : n ≤ 1000) :
    Calls Tryz.prog 97 #[.slice A n d, .slice B n d'] w fun e w' => e = .returned (.bool true) ∧ Fr [] w w' := by
  have HL := Lib.hid hl
  have HM := Lib.hid hm
  have HLM := Lib.hid hlm
  have HN := Lib.hid hn
  have hn1 : (n : Int) ≤ 9223372036854775807 := by omega
  have hnn : ((n : Int) != (n : Int)) = false := by simp
  clear hl hm hn hlm
  go_enter Tryz.func97, Tryz.ntmps97
  go_wp2_with fail
  clear hnn
  go_loopw [13] (fun i wr => ∃ j : Nat, j ≤ n ∧ i = .int .i64 j ∧ Hid (Fr [] w wr)) (fun i _ => n - (intOf i).toNat)
  case atStart => exact ⟨0, by omega, rfl, Lib.hid (Fr.refl _ _)⟩
  case round =>
    obtain ⟨j, hj, rfl, HF⟩ := hrel
    by_cases hlt : j < n
    · obtain ⟨ad, v, hA, hv, hcl, hok, hcells⟩ := HL.out.at (i := j) hlt
      obtain ⟨bd, u, hB, hu, hclu, hoku, hcellu⟩ := HM.out.at (i := j) hlt
      subst hA
      subst hB
      have HVU := Lib.hid (map_at HLM.out hv hu)
      have HCELLS : Hid (∀ i c, (Wce.cells v)[i]? = some c → wr.cell? ((ad.add (j * 38)).add i) = some c) := Lib.hid (fun i c hc => HF.out.cell (hcells i c hc) (by simp))
      have HCELLU : Hid (∀ i c, (Wce.cells u)[i]? = some c → wr.cell? ((bd.add (j * 38)).add i) = some c) := Lib.hid (fun i c hc => HF.out.cell (hcellu i c hc) (by simp))
      have HCL := Lib.hid hcl
      have HCLU := Lib.hid hclu
      have HOK := Lib.hid hok
      have HOKU := Lib.hid hoku
      have HJN := Lib.hid hlt
      have hj0 : (0 : Int) ≤ j := by omega
      clear hcells hcl hok hv hcellu hclu hoku hu
      go_upto_region 6 with (fail)
      refine wp_region_held_drew (S := Fr [] wr) (by kernel_rfl) (Fr.drew (Fr.refl _ wr)) (fun hHeld => ?_)
      generalize wr.drew = wd at *
      refine run_at (i := 0) (v := ?_) rfl (by kernel_rfl) (by rfl) (fun _ _ _ h => h) hHeld (fun w1 hw1 => ?_) ?_
      rotate_left 1
      · skip
        go_simp
        (try (first | with_reducible rfl | (apply And.intro <;> rfl)))
      simp only [Act.put, List.setIfInBounds_toArray, List.set_cons_zero, List.set_cons_succ]
      refine run_at (i := 1) (v := ?_) rfl (by kernel_rfl) (by rfl) (fun _ _ _ h => h) hHeld (fun w1 hw1 => ?_) ?_
      rotate_left 1
      · skip
        go_simp
        (try (first | with_reducible rfl | (apply And.intro <;> rfl)))
      simp only [Act.put, List.setIfInBounds_toArray, List.set_cons_zero, List.set_cons_succ]
      refine run_at (i := 2) (v := ?_) rfl (by kernel_rfl) (by rfl) (fun _ _ _ h => h) hHeld (fun w1 hw1 => ?_) ?_
      rotate_left 1
      · skip
        go_simp
        (try (first | with_reducible rfl | (apply And.intro <;> rfl)))
      simp only [Act.put, List.setIfInBounds_toArray, List.set_cons_zero, List.set_cons_succ]
      refine crow_at (i := 3) rfl (by kernel_rfl) (by rfl) _ _ rfl _ rfl _ (fun w1 hw1 j v hv => hw1.cell ((HCELLS.out) j v hv) (by simp)) (row_crt.of HCL.out) (fun _ _ _ h => h) hHeld ?_
      simp only [Act.put, List.setIfInBounds_toArray, List.set_cons_zero, List.set_cons_succ]
      refine run_at (i := 4) (v := ?_) rfl (by kernel_rfl) (by rfl) (fun _ _ _ h => h) hHeld (fun w1 hw1 => ?_) ?_
      rotate_left 1
      · skip
        go_simp
        (try (first | with_reducible rfl | (apply And.intro <;> rfl)))
      simp only [Act.put, List.setIfInBounds_toArray, List.set_cons_zero, List.set_cons_succ]
      refine run_at (i := 5) (v := ?_) rfl (by kernel_rfl) (by rfl) (fun _ _ _ h => h) hHeld (fun w1 hw1 => ?_) ?_
      rotate_left 1
      · skip
        go_simp
        (try (first | with_reducible rfl | (apply And.intro <;> rfl)))
      simp only [Act.put, List.setIfInBounds_toArray, List.set_cons_zero, List.set_cons_succ]
      refine run_at (i := 6) (v := ?_) rfl (by kernel_rfl) (by rfl) (fun _ _ _ h => h) hHeld (fun w1 hw1 => ?_) ?_
      rotate_left 1
      · skip
        go_simp
        (try (first | with_reducible rfl | (apply And.intro <;> rfl)))
      simp only [Act.put, List.setIfInBounds_toArray, List.set_cons_zero, List.set_cons_succ]
      refine crow_at (i := 7) rfl (by kernel_rfl) (by rfl) _ _ rfl _ rfl _ (fun w1 hw1 j v hv => hw1.cell ((HCELLU.out) j v hv) (by simp)) (row_crt.of HCLU.out) (fun _ _ _ h => h) hHeld ?_
      simp only [Act.put, List.setIfInBounds_toArray, List.set_cons_zero, List.set_cons_succ]
      refine call_at (i := 8) (f := ?_) (args := ?_) rfl (by kernel_rfl) (by rfl) ?_ ?_
      rotate_left 2
      · go_simp
        (try (first | with_reducible rfl | (apply And.intro <;> rfl)))
      refine (cert_eq v u wd (Wce.Li.keep HOK.out (HF.out.and hHeld (by simp)) (by simp)) (Wce.Li.keep HOKU.out (HF.out.and hHeld (by simp)) (by simp)) HVU.out _ _ rfl rfl).mono ?_
      rintro e_ w9 ⟨rfl, hf⟩
      refine ⟨_, rfl, hHeld.and hf (by simp), fun hHeld => ?_⟩
      clear hf
      simp only [Act.put, List.setIfInBounds_toArray, List.set_cons_zero, List.set_cons_succ]
      refine run_at (i := 9) (v := ?_) rfl (by kernel_rfl) (by rfl) (fun _ _ _ h => h) hHeld (fun w1 hw1 => ?_) ?_
      rotate_left 1
      · skip
        go_simp
        (try (first | with_reducible rfl | (apply And.intro <;> rfl)))
      simp only [Act.put, List.setIfInBounds_toArray, List.set_cons_zero, List.set_cons_succ]
      refine wpAnyH_done (by kernel_rfl) ?_ _
      have HF9 : Hid (Fr [] w w9) := Lib.hid (HF.out.and hHeld (by simp))
      clear hHeld HCELLS HCL HCELLU HCLU HVU
      clear HOK HOKU
      go_wp2
      go_roundw
      case rel => exact ⟨j + 1, by have := HJN.out; omega, by go_num, HF9⟩
      case measure => have := HJN.out; simp [intOf]; omega
    · have hjn : n = j := by omega
      subst hjn
      clear hlt hj
      go_wp2
      go_ret
      exact ⟨rfl, HF.out⟩

set_option maxHeartbeats 2000000 in
theorem promise_eq (x y : Wpr) (w : World) (hx : x.Li w []) (hy : y.Li w []) (he : x.con = y.con) (C D : List Value) (hC : x.cells = C) (hD : y.cells = D) :
    Calls Tryz.prog 36 #[.agg C.toArray, .agg D.toArray] w fun e w' => e = .returned (.bool true) ∧ Fr [] w w' := by
  obtain ⟨wa, hwa⟩ : ∃ wa, wa = (w.alloc (Obj.cells C.toArray 40)).alloc (Obj.cells D.toArray 40) := ⟨_, rfl⟩
  have hf0 : Fr [] w wa := by rw [hwa]; exact ((Fr.refl [] w).alloc _).alloc _
  have hb0 : Blk wa w.heap.size 40 x.cells.toArray := by rw [hwa, hC]; exact blk_alloc (Blk.new _ _ _)
  have hb1 : Blk wa (w.heap.size + 1) 40 y.cells.toArray := by
    have := Blk.new (w.alloc (Obj.cells C.toArray 40)) 40 D.toArray
    rw [hwa, hD]
    simpa using this
  obtain ⟨r, e, t, A, n, d, l, b, mm⟩ := x
  obtain ⟨r', e', t', B, m, d', l', b', mm'⟩ := y
  unfold Wpr.con at he
  simp only [Cpr.mk.injEq] at he
  obtain ⟨rfl, rfl, rfl, hll, rfl, rfl⟩ := he
  have hnm : m = n := hy.l.1.symm.trans ((by have := congrArg List.length hll; simpa using this.symm : l'.length = l.length).trans hx.l.1)
  subst hnm
  have hr0 := hb0.range
  have hr1 := hb1.range
  have h00 : wa.cell? ⟨w.heap.size, 0, none⟩ = some (.int .i64 r) := by have h := hr0 0 _ rfl; simpa using h
  have h10 : wa.cell? ⟨w.heap.size + 1, 0, none⟩ = some (.int .i64 r) := by have h := hr1 0 _ rfl; simpa using h
  have h01 : wa.cell? ⟨w.heap.size, 1, none⟩ = some (.int .i64 e) := by have h := hr0 1 _ rfl; simpa using h
  have h11 : wa.cell? ⟨w.heap.size + 1, 1, none⟩ = some (.int .i64 e) := by have h := hr1 1 _ rfl; simpa using h
  have h02 : wa.cell? ⟨w.heap.size, 2, none⟩ = some (.int .u64 (t : Int)) := by have h := hr0 2 _ rfl; simpa using h
  have h12 : wa.cell? ⟨w.heap.size + 1, 2, none⟩ = some (.int .u64 (t : Int)) := by have h := hr1 2 _ rfl; simpa using h
  have h03 : wa.cell? ⟨w.heap.size, 3, none⟩ = some (.slice A m d) := by have h := hr0 3 _ rfl; simpa using h
  have h13 : wa.cell? ⟨w.heap.size + 1, 3, none⟩ = some (.slice B m d') := by have h := hr1 3 _ rfl; simpa using h
  have HH0 : Hid (wa.rangeAt w.heap.size 4 [.int .i64 b, .int .i64 mm]) := Lib.hid (rangeAt_sub (o := 0) (xs := [.int .i64 r, .int .i64 e, .int .u64 (t : Int), .slice A m d]) (ys := [.int .i64 b, .int .i64 mm]) (zs := []) hr0)
  have HH1 : Hid (wa.rangeAt (w.heap.size + 1) 4 [.int .i64 b, .int .i64 mm]) := Lib.hid (rangeAt_sub (o := 0) (xs := [.int .i64 r, .int .i64 e, .int .u64 (t : Int), .slice B m d']) (ys := [.int .i64 b, .int .i64 mm]) (zs := []) hr1)
  have HEQ : Hid ((Op.equalIn 10000 27 (.agg #[.int .i64 b, .int .i64 mm]) (.agg #[.int .i64 b, .int .i64 mm])).run Tryz.prog wa = .ok true wa) := Lib.hid (sig_selfd b mm 9998 wa)
  have HF0 := Lib.hid hf0
  have HWA := Lib.hid hwa
  have HX := Lib.hid hx
  have HY := Lib.hid hy
  have HLL := Lib.hid hll
  have hrr : (r == r) = true := by simp
  have hee : (e == e) = true := by simp
  have htt : (((t : Nat) : Int) == (t : Int)) = true := by simp
  clear hwa hf0 hb0 hb1 hr0 hr1 hx hy hC hD hll
  go_enter Tryz.func36, Tryz.ntmps36
  go_upto_region 1 with (fail)
  change Code.wp _ _ _ _ ((w.alloc (Obj.cells C.toArray 40)).alloc (Obj.cells D.toArray 40))
  rw [← HWA.out]
  go_wp2_with (first
    | (refine wpList_midg rfl 27 _ rfl w.heap.size 4 rfl [.int .i64 b, .int .i64 mm] HH0.out row_sg2 ?_)
    | (refine wpList_midg rfl 27 _ rfl (w.heap.size + 1) 4 rfl [.int .i64 b, .int .i64 mm] HH1.out row_sg2 ?_)
    | (refine wpList_eqlg rfl 27 _ _ _ rfl #[.int .i64 b, .int .i64 mm] #[.int .i64 b, .int .i64 mm] rfl rfl true (by kernel_rfl) HEQ.out ?_))
  refine (certs_eq A B m d d' l l' wa (HX.out.l.keep' HF0.out (by simp) (fun _ _ h => Wce.Li.keep (S' := []) h HF0.out (by simp))) (HY.out.l.keep' HF0.out (by simp) (fun _ _ h => Wce.Li.keep (S' := []) h HF0.out (by simp))) HLL.out (by have h1 : m ≤ 100 := HX.out.n; omega)).mono ?_
  rintro e_ w1 ⟨rfl, hf1⟩
  have HF1 : Hid (Fr [] w w1) := Lib.hid (HF0.out.and hf1 (by simp))
  clear hf1 h00 h10 h01 h11 h02 h12 h03 h13 hrr hee htt
  go_wp2
  go_ret
  exact ⟨rfl, HF1.out⟩

set_option maxHeartbeats 2000000 in
theorem batch_eq (x y : Wba) (w : World) (hx : x.Li w []) (hy : y.Li w []) (he : x.con = y.con) (C D : List Value) (hC : x.cells = C) (hD : y.cells = D) :
    Calls Tryz.prog 39 #[.agg C.toArray, .agg D.toArray] w fun e w' => e = .returned (.bool true) ∧ Fr [] w w' := by
  obtain ⟨wa, hwa⟩ : ∃ wa, wa = (w.alloc (Obj.cells C.toArray 45)).alloc (Obj.cells D.toArray 45) := ⟨_, rfl⟩
  have hf0 : Fr [] w wa := by rw [hwa]; exact ((Fr.refl [] w).alloc _).alloc _
  have hb0 : Blk wa w.heap.size 45 x.cells.toArray := by rw [hwa, hC]; exact blk_alloc (Blk.new _ _ _)
  have hb1 : Blk wa (w.heap.size + 1) 45 y.cells.toArray := by
    have := Blk.new (w.alloc (Obj.cells C.toArray 45)) 45 D.toArray
    rw [hwa, hD]
    simpa using this
  obtain ⟨e, t, A, n, d, l, A2, n2, d2, l2, A3, n3, d3, l3⟩ := x
  obtain ⟨e', t', B, m, d', l', B2, m2, d2', l2', B3, m3, d3', l3'⟩ := y
  unfold Wba.con at he
  simp only [Cba.mk.injEq] at he
  obtain ⟨rfl, rfl, hl1, hl2, hl3⟩ := he
  have hnm : m = n := hy.l.1.symm.trans ((by have := congrArg List.length hl1; simpa using this.symm : l'.length = l.length).trans hx.l.1)
  have hnm2 : m2 = n2 := hy.l2.1.symm.trans ((by have := congrArg List.length hl2; simpa using this.symm : l2'.length = l2.length).trans hx.l2.1)
  have hnm3 : m3 = n3 := hy.l3.1.symm.trans ((by have := congrArg List.length hl3; simpa using this.symm : l3'.length = l3.length).trans hx.l3.1)
  subst hnm
  subst hnm2
  subst hnm3
  have hr0 := hb0.range
  have hr1 := hb1.range
  have h00 : wa.cell? ⟨w.heap.size, 0, none⟩ = some (.int .i64 e) := by have h := hr0 0 _ rfl; simpa using h
  have h10 : wa.cell? ⟨w.heap.size + 1, 0, none⟩ = some (.int .i64 e) := by have h := hr1 0 _ rfl; simpa using h
  have h01 : wa.cell? ⟨w.heap.size, 1, none⟩ = some (.int .u64 (t : Int)) := by have h := hr0 1 _ rfl; simpa using h
  have h11 : wa.cell? ⟨w.heap.size + 1, 1, none⟩ = some (.int .u64 (t : Int)) := by have h := hr1 1 _ rfl; simpa using h
  have h02 : wa.cell? ⟨w.heap.size, 2, none⟩ = some (.slice A m d) := by have h := hr0 2 _ rfl; simpa using h
  have h12 : wa.cell? ⟨w.heap.size + 1, 2, none⟩ = some (.slice B m d') := by have h := hr1 2 _ rfl; simpa using h
  have h03 : wa.cell? ⟨w.heap.size, 3, none⟩ = some (.slice A2 m2 d2) := by have h := hr0 3 _ rfl; simpa using h
  have h13 : wa.cell? ⟨w.heap.size + 1, 3, none⟩ = some (.slice B2 m2 d2') := by have h := hr1 3 _ rfl; simpa using h
  have h04 : wa.cell? ⟨w.heap.size, 4, none⟩ = some (.slice A3 m3 d3) := by have h := hr0 4 _ rfl; simpa using h
  have h14 : wa.cell? ⟨w.heap.size + 1, 4, none⟩ = some (.slice B3 m3 d3') := by have h := hr1 4 _ rfl; simpa using h
  have HF0 := Lib.hid hf0
  have HWA := Lib.hid hwa
  have HX := Lib.hid hx
  have HY := Lib.hid hy
  have HL1 := Lib.hid hl1
  have HL2 := Lib.hid hl2
  have HL3 := Lib.hid hl3
  have HN : Hid (m ≤ 100) := Lib.hid hx.n
  have hee : (e != e) = false := by simp
  have htt : (((t : Nat) : Int) != (t : Int)) = false := by simp
  have hnn : (((m : Nat) : Int) != (m : Int)) = false := by simp
  clear hwa hf0 hb0 hb1 hr0 hr1 hx hy hC hD hl1 hl2 hl3
  go_enter Tryz.func39, Tryz.ntmps39
  go_upto_region 1 with (fail)
  change Code.wp _ _ _ _ ((w.alloc (Obj.cells C.toArray 45)).alloc (Obj.cells D.toArray 45))
  rw [← HWA.out]
  go_wp2_with fail
  refine (openings_eq A2 B2 m2 d2 d2' l2 l2' wa (HX.out.l2.keep' HF0.out (by simp) (fun _ _ h => Wop.Ok.keep (S' := []) h HF0.out (by simp))) (HY.out.l2.keep' HF0.out (by simp) (fun _ _ h => Wop.Ok.keep (S' := []) h HF0.out (by simp))) HL2.out (by have h1 : m2 ≤ 100 := HX.out.n2; omega)).mono ?_
  rintro e_ w1 ⟨rfl, hf1⟩
  have k04 := hf1.cell h04 (by simp)
  have k14 := hf1.cell h14 (by simp)
  have k02 := hf1.cell h02 (by simp)
  have k12 := hf1.cell h12 (by simp)
  have HF1 : Hid (Fr [] w w1) := Lib.hid (HF0.out.and hf1 (by simp))
  clear hf1 h00 h10 h01 h11 h02 h12 h03 h13 h04 h14 hee htt hnn
  go_wp2_with fail
  refine (tombs_eq A3 B3 m3 d3 d3' l3 l3' w1 (HX.out.l3.keep' HF1.out (by simp) (fun _ _ h => Wtb.Li.keep (S' := []) h HF1.out (by simp))) (HY.out.l3.keep' HF1.out (by simp) (fun _ _ h => Wtb.Li.keep (S' := []) h HF1.out (by simp))) HL3.out (by have h1 : m3 ≤ 100 := HX.out.n3; omega)).mono ?_
  rintro e_ w2 ⟨rfl, hf2⟩
  have m02 := hf2.cell k02 (by simp)
  have HC02 := Lib.hid m02
  have HC12 := Lib.hid (hf2.cell k12 (by simp))
  have HF2 : Hid (Fr [] w w2) := Lib.hid (HF1.out.and hf2 (by simp))
  clear hf2 k04 k14 k02 k12
  have hn1 : (m : Int) ≤ 9223372036854775807 := by have := HN.out; omega
  go_wp2_with fail
  clear m02
  go_loopw [46] (fun i wr => ∃ j : Nat, j ≤ m ∧ i = .int .i64 j ∧ Hid (Fr [] w2 wr)) (fun i _ => m - (intOf i).toNat)
  case atStart => exact ⟨0, by omega, rfl, Lib.hid (Fr.refl _ _)⟩
  case round =>
    obtain ⟨j, hj, rfl, HF⟩ := hrel
    by_cases hlt : j < m
    · obtain ⟨ad, v, hA, hv, hcl, hok, hcells⟩ := HX.out.l.at (i := j) hlt
      obtain ⟨bd, u, hB, hu, hclu, hoku, hcellu⟩ := HY.out.l.at (i := j) hlt
      have hA : A = some ad := hA
      have hB : B = some bd := hB
      subst hA
      subst hB
      have HVU := Lib.hid (map_at HL1.out hv hu)
      have HFW : Hid (Fr [] w wr) := Lib.hid (HF2.out.and HF.out (by simp))
      have HCELLS : Hid (∀ i c, (Wpr.cells v)[i]? = some c → wr.cell? ((ad.add (j * 6)).add i) = some c) := Lib.hid (fun i c hc => HFW.out.cell (hcells i c hc) (by simp))
      have HCELLU : Hid (∀ i c, (Wpr.cells u)[i]? = some c → wr.cell? ((bd.add (j * 6)).add i) = some c) := Lib.hid (fun i c hc => HFW.out.cell (hcellu i c hc) (by simp))
      have HCR0 := Lib.hid (HF.out.cell HC02.out (by simp))
      have HCR1 := Lib.hid (HF.out.cell HC12.out (by simp))
      have HOK := Lib.hid hok
      have HOKU := Lib.hid hoku
      have HJN := Lib.hid hlt
      have hj0 : (0 : Int) ≤ j := by omega
      clear hcells hcl hok hv hcellu hclu hoku hu
      go_upto_region 6 with (fail)
      refine wp_region_held_drew (S := Fr [] wr) (by kernel_rfl) (Fr.drew (Fr.refl _ wr)) (fun hHeld => ?_)
      generalize wr.drew = wd at *
      refine run_at (i := 0) (v := ?_) rfl (by kernel_rfl) (by rfl) (fun _ _ _ h => h) hHeld (fun w1 hw1 => ?_) ?_
      rotate_left 1
      · skip
        go_simp
        (try (first | with_reducible rfl | (apply And.intro <;> rfl)))
      simp only [Act.put, List.setIfInBounds_toArray, List.set_cons_zero, List.set_cons_succ]
      refine run_at (i := 1) (v := ?_) rfl (by kernel_rfl) (by rfl) (fun _ _ _ h => h) hHeld (fun w1 hw1 => ?_) ?_
      rotate_left 1
      · skip
        have hcw0 := hw1.cell (HCR0.out) (by first | (simp; done) | exact HNS.out | exact HNW.out | (intro hm; have hlt := HSB.out _ hm; (try dsimp only at hlt); omega))
        go_simp
        (try (first | with_reducible rfl | (apply And.intro <;> rfl)))
      simp only [Act.put, List.setIfInBounds_toArray, List.set_cons_zero, List.set_cons_succ]
      refine run_at (i := 2) (v := ?_) rfl (by kernel_rfl) (by rfl) (fun _ _ _ h => h) hHeld (fun w1 hw1 => ?_) ?_
      rotate_left 1
      · skip
        go_simp
        (try (first | with_reducible rfl | (apply And.intro <;> rfl)))
      simp only [Act.put, List.setIfInBounds_toArray, List.set_cons_zero, List.set_cons_succ]
      refine run_at (i := 3) (v := ?_) rfl (by kernel_rfl) (by rfl) (fun _ _ _ h => h) hHeld (fun w1 hw1 => ?_) ?_
      rotate_left 1
      · skip
        go_simp
        (try (first | with_reducible rfl | (apply And.intro <;> rfl)))
      simp only [Act.put, List.setIfInBounds_toArray, List.set_cons_zero, List.set_cons_succ]
      refine crow_at (i := 4) rfl (by kernel_rfl) (by rfl) _ _ rfl _ rfl _ (fun w1 hw1 j v hv => hw1.cell ((HCELLS.out) j v hv) (by simp)) (row_prm) (fun _ _ _ h => h) hHeld ?_
      simp only [Act.put, List.setIfInBounds_toArray, List.set_cons_zero, List.set_cons_succ]
      refine run_at (i := 5) (v := ?_) rfl (by kernel_rfl) (by rfl) (fun _ _ _ h => h) hHeld (fun w1 hw1 => ?_) ?_
      rotate_left 1
      · skip
        go_simp
        (try (first | with_reducible rfl | (apply And.intro <;> rfl)))
      simp only [Act.put, List.setIfInBounds_toArray, List.set_cons_zero, List.set_cons_succ]
      refine run_at (i := 6) (v := ?_) rfl (by kernel_rfl) (by rfl) (fun _ _ _ h => h) hHeld (fun w1 hw1 => ?_) ?_
      rotate_left 1
      · skip
        have hcw0 := hw1.cell (HCR1.out) (by first | (simp; done) | exact HNS.out | exact HNW.out | (intro hm; have hlt := HSB.out _ hm; (try dsimp only at hlt); omega))
        go_simp
        (try (first | with_reducible rfl | (apply And.intro <;> rfl)))
      simp only [Act.put, List.setIfInBounds_toArray, List.set_cons_zero, List.set_cons_succ]
      refine run_at (i := 7) (v := ?_) rfl (by kernel_rfl) (by rfl) (fun _ _ _ h => h) hHeld (fun w1 hw1 => ?_) ?_
      rotate_left 1
      · skip
        go_simp
        (try (first | with_reducible rfl | (apply And.intro <;> rfl)))
      simp only [Act.put, List.setIfInBounds_toArray, List.set_cons_zero, List.set_cons_succ]
      refine run_at (i := 8) (v := ?_) rfl (by kernel_rfl) (by rfl) (fun _ _ _ h => h) hHeld (fun w1 hw1 => ?_) ?_
      rotate_left 1
      · skip
        go_simp
        (try (first | with_reducible rfl | (apply And.intro <;> rfl)))
      simp only [Act.put, List.setIfInBounds_toArray, List.set_cons_zero, List.set_cons_succ]
      refine crow_at (i := 9) rfl (by kernel_rfl) (by rfl) _ _ rfl _ rfl _ (fun w1 hw1 j v hv => hw1.cell ((HCELLU.out) j v hv) (by simp)) (row_prm) (fun _ _ _ h => h) hHeld ?_
      simp only [Act.put, List.setIfInBounds_toArray, List.set_cons_zero, List.set_cons_succ]
      refine call_at (i := 10) (f := ?_) (args := ?_) rfl (by kernel_rfl) (by rfl) ?_ ?_
      rotate_left 2
      · go_simp
        (try (first | with_reducible rfl | (apply And.intro <;> rfl)))
      refine (promise_eq v u wd (Wpr.Li.keep HOK.out (HFW.out.and hHeld (by simp)) (by simp)) (Wpr.Li.keep HOKU.out (HFW.out.and hHeld (by simp)) (by simp)) HVU.out _ _ rfl rfl).mono ?_
      rintro e_ w9 ⟨rfl, hf⟩
      refine ⟨_, rfl, hHeld.and hf (by simp), fun hHeld => ?_⟩
      clear hf
      simp only [Act.put, List.setIfInBounds_toArray, List.set_cons_zero, List.set_cons_succ]
      refine run_at (i := 11) (v := ?_) rfl (by kernel_rfl) (by rfl) (fun _ _ _ h => h) hHeld (fun w1 hw1 => ?_) ?_
      rotate_left 1
      · skip
        go_simp
        (try (first | with_reducible rfl | (apply And.intro <;> rfl)))
      simp only [Act.put, List.setIfInBounds_toArray, List.set_cons_zero, List.set_cons_succ]
      refine wpAnyH_done (by kernel_rfl) ?_ _
      have HF9 : Hid (Fr [] w2 w9) := Lib.hid (HF.out.and hHeld (by simp))
      clear hHeld HCELLS HCELLU HVU HOK HOKU HCR0 HCR1 HFW
      go_wp2
      go_roundw
      case rel => exact ⟨j + 1, by have := HJN.out; omega, by go_num, HF9⟩
      case measure => have := HJN.out; simp [intOf]; omega
    · have hjn : m = j := by omega
      subst hjn
      clear hlt hj
      go_wp2
      go_ret
      exact ⟨rfl, HF2.out.and HF.out (by simp)⟩
end Go.Proofs.YtnpjihdhpoddgaaGreat

namespace Go.Proofs.YtnpjihdhpoddgaaGreat
open Go.RowKit
set_option maxRecDepth 100000
set_option maxHeartbeats 1000000 in
theorem eql_Wak (x y : Wst) (hx : x.h.length = 32) (hy : y.h.length = 32) (w : World) : (Op.equalIn 10000 37 (.agg x.cells.toArray) (.agg y.cells.toArray)).run Tryz.prog w = .ok (x.eqB y) w :=
  eql_of (d := 9999) (C := x.cells.toArray) (D := y.cells.toArray) (l := [(3, 0), (23, 1), (25, 3), (30, 35), (27, 36)]) (run_equalIn_struct w 9999 37 x.cells.toArray y.cells.toArray (by kernel_rfl) (by kernel_rfl)) (by kernel_rfl)
    (bs := [decide (x.r = y.r), (decide (x.c = y.c) && decide (x.s = y.s)), decide (x.h = y.h), decide ((x.t : Int) = (y.t : Int)), (decide (x.b = y.b) && decide (x.m = y.m))])
    ⟨⟨_, _, part_int 0 _ _ (show x.cells.toArray[0]? = some (.int .i64 x.r) from rfl) w, part_int 0 _ _ (show y.cells.toArray[0]? = some (.int .i64 y.r) from rfl) w, eql_int _ _ 9998 w⟩,
      ⟨_, _, (part_rowx 23 2 1 [.int .i64 x.r] [.int .i64 x.c, .int .i64 x.s] ([] ++ (x.h.map by8 ++ [.int .u64 (x.t : Int), .int .i64 x.b, .int .i64 x.m])) row_name rfl rfl w), (part_rowx 23 2 1 [.int .i64 y.r] [.int .i64 y.c, .int .i64 y.s] ([] ++ (y.h.map by8 ++ [.int .u64 (y.t : Int), .int .i64 y.b, .int .i64 y.m])) row_name rfl rfl w), eql_name _ _ _ _ 9997 w⟩,
      ⟨_, _, (part_rowx 25 32 3 [.int .i64 x.r, .int .i64 x.c, .int .i64 x.s] (x.h.map by8) [.int .u64 (x.t : Int), .int .i64 x.b, .int .i64 x.m] row_hash rfl (by rw [List.length_map]; exact hx) w), (part_rowx 25 32 3 [.int .i64 y.r, .int .i64 y.c, .int .i64 y.s] (y.h.map by8) [.int .u64 (y.t : Int), .int .i64 y.b, .int .i64 y.m] row_hash rfl (by rw [List.length_map]; exact hy) w), eql_hash x.h y.h hx hy 9997 w⟩,
      ⟨_, _, part_u64 35 _ _ (show x.cells.toArray[35]? = some (.int .u64 (x.t : Int)) by rw [List.getElem?_toArray]; exact post_cell [.int .i64 x.r, .int .i64 x.c, .int .i64 x.s] (x.h.map by8) [.int .u64 (x.t : Int), .int .i64 x.b, .int .i64 x.m] (by rw [List.length_map]; exact hx) 0 rfl) w, part_u64 35 _ _ (show y.cells.toArray[35]? = some (.int .u64 (y.t : Int)) by rw [List.getElem?_toArray]; exact post_cell [.int .i64 y.r, .int .i64 y.c, .int .i64 y.s] (y.h.map by8) [.int .u64 (y.t : Int), .int .i64 y.b, .int .i64 y.m] (by rw [List.length_map]; exact hy) 0 rfl) w, eql_u64 _ _ 9998 w⟩,
      ⟨_, _, (show (part 27 x.cells.toArray 36).run Tryz.prog w = .ok (.agg [.int .i64 x.b, .int .i64 x.m].toArray) w by rw [show x.cells = ([.int .i64 x.r, .int .i64 x.c, .int .i64 x.s] ++ (x.h.map by8 ++ [.int .u64 (x.t : Int)])) ++ ([.int .i64 x.b, .int .i64 x.m] ++ []) by simp [Wst.cells]]; exact part_rowx 27 2 36 _ _ _ row_sig (by simp [hx]) rfl w), (show (part 27 y.cells.toArray 36).run Tryz.prog w = .ok (.agg [.int .i64 y.b, .int .i64 y.m].toArray) w by rw [show y.cells = ([.int .i64 y.r, .int .i64 y.c, .int .i64 y.s] ++ (y.h.map by8 ++ [.int .u64 (y.t : Int)])) ++ ([.int .i64 y.b, .int .i64 y.m] ++ []) by simp [Wst.cells]]; exact part_rowx 27 2 36 _ _ _ row_sig (by simp [hy]) rfl w), eql_sig _ _ _ _ 9997 w⟩, trivial⟩
def Wen.eqB (x y : Wen) : Bool := [(decide (x.c = y.c) && decide (x.s = y.s)), decide (x.h = y.h), decide ((x.t : Int) = (y.t : Int))].all id
theorem Wen.eqB_iff (x y : Wen) : x.eqB y = true ↔ x = y := by
  obtain ⟨_, _, _, _⟩ := x
  obtain ⟨_, _, _, _⟩ := y
  simp [Wen.eqB, Wen.mk.injEq, and_assoc]
  (try omega)
set_option maxHeartbeats 1000000 in
theorem eql_Wen (x y : Wen) (hx : x.h.length = 32) (hy : y.h.length = 32) (w : World) : (Op.equalIn 10000 51 (.agg x.cells.toArray) (.agg y.cells.toArray)).run Tryz.prog w = .ok (x.eqB y) w :=
  eql_of (d := 9999) (C := x.cells.toArray) (D := y.cells.toArray) (l := [(23, 0), (25, 2), (30, 34)]) (run_equalIn_struct w 9999 51 x.cells.toArray y.cells.toArray (by kernel_rfl) (by kernel_rfl)) (by kernel_rfl)
    (bs := [(decide (x.c = y.c) && decide (x.s = y.s)), decide (x.h = y.h), decide ((x.t : Int) = (y.t : Int))])
    ⟨⟨_, _, (part_rowx 23 2 0 [] [.int .i64 x.c, .int .i64 x.s] ([] ++ (x.h.map by8 ++ [.int .u64 (x.t : Int)])) row_name rfl rfl w), (part_rowx 23 2 0 [] [.int .i64 y.c, .int .i64 y.s] ([] ++ (y.h.map by8 ++ [.int .u64 (y.t : Int)])) row_name rfl rfl w), eql_name _ _ _ _ 9997 w⟩,
      ⟨_, _, (part_rowx 25 32 2 [.int .i64 x.c, .int .i64 x.s] (x.h.map by8) [.int .u64 (x.t : Int)] row_hash rfl (by rw [List.length_map]; exact hx) w), (part_rowx 25 32 2 [.int .i64 y.c, .int .i64 y.s] (y.h.map by8) [.int .u64 (y.t : Int)] row_hash rfl (by rw [List.length_map]; exact hy) w), eql_hash x.h y.h hx hy 9997 w⟩,
      ⟨_, _, part_u64 34 _ _ (show x.cells.toArray[34]? = some (.int .u64 (x.t : Int)) by rw [List.getElem?_toArray]; exact post_cell [.int .i64 x.c, .int .i64 x.s] (x.h.map by8) [.int .u64 (x.t : Int)] (by rw [List.length_map]; exact hx) 0 rfl) w, part_u64 34 _ _ (show y.cells.toArray[34]? = some (.int .u64 (y.t : Int)) by rw [List.getElem?_toArray]; exact post_cell [.int .i64 y.c, .int .i64 y.s] (y.h.map by8) [.int .u64 (y.t : Int)] (by rw [List.length_map]; exact hy) 0 rfl) w, eql_u64 _ _ 9998 w⟩, trivial⟩
end Go.Proofs.YtnpjihdhpoddgaaGreat

namespace Go.Proofs.YtnpjihdhpoddgaaGreat
open Go.RowKit
set_option maxRecDepth 100000
/-- the slots that hold false behind these operations, if they ask nothing but what is false -/
def fallsF (n : Nat) (ops : List Oper) : List Oper → List Nat → Option (List Nat)
  | [], F => some F
  | o :: r, F =>
    match o.guard with
    | some (k, true) => match (nthOp ops k).bind (·.dst) with
      | some s => match F.contains s, o.dst with
        | true, some d => match F.contains d with
          | true => none
          | false => fallsF n ops r F
        | true, none => fallsF n ops r F
        | false, _ => none
      | none => none
    | some (_, false) => none
    | none => match o.dst with
      | none => none
      | some d => match Nat.blt d n with
        | false => none
        | true => match o.op with
          | .move (.tmp c) => match F.contains c with
            | true => fallsF n ops r (d :: F)
            | false => none
          | .assign (.tmp c) => match F.contains c with
            | true => fallsF n ops r (d :: F)
            | false => none
          | .pick (.tmp c) _ (.const (.bool false)) => match F.contains c with
            | true => fallsF n ops r (d :: F)
            | false => none
          | _ => none
def AllF (T : Array Value) (F : List Nat) : Prop := ∀ s ∈ F, T[s]? = some (.bool false)
theorem AllF.mem {T : Array Value} {F : List Nat} {c : Nat} (h : AllF T F) (hc : F.contains c = true) : T[c]? = some (.bool false) := h c (by simpa using hc)
theorem AllF.out {T : Array Value} {F : List Nat} {d : Nat} {v : Value} (h : AllF T F) (hd : F.contains d = false) : AllF (T.setIfInBounds d v) F := by
  intro s hs
  have hne : d ≠ s := by
    rintro rfl
    have : F.contains d = true := by simpa using hs
    rw [this] at hd
    cases hd
  rw [Array.getElem?_setIfInBounds_ne hne]
  exact h s hs
theorem AllF.add {T : Array Value} {F : List Nat} {d : Nat} (h : AllF T F) (hd : d < T.size) : AllF (T.setIfInBounds d (.bool false)) (d :: F) := by
  intro s hs
  by_cases e : d = s
  · subst e
    rw [Array.getElem?_setIfInBounds_self_of_lt hd]
  · rw [Array.getElem?_setIfInBounds_ne e]
    rcases List.mem_cons.1 hs with rfl | hs
    · exact absurd rfl e
    · exact h s hs
theorem getD_some {T : Array Value} {c : Nat} {v : Value} (h : T[c]? = some v) : T.getD c undef = v := by
  rw [Array.getD_eq_getD_getElem?, h]; rfl
theorem wp_run' {P : Program} {o : Oper} {a : Act} {w w' : World} {K : Act → World → Prop} {Q : Exit → Act → World → Prop} {v : Value} (he : (execOp a.eval o).run P w = .ok (.value v) w') (h : K (a.put o.dst v) w') : Oper.wp P o a w K Q := by
  unfold Oper.wp
  rw [he]
  exact h
theorem wpList_fallsF {P : Program} {ops : List Oper} {Q : Exit → Act → World → Prop} {w : World} {n : Nat} {F' : List Nat} : ∀ (l : List Oper) (T : Array Value) (D : List Deferred) (F : List Nat), AllF T F → T.size = n → fallsF n ops l F = some F' →
    (∀ T', AllF T' F' → Q .normal ⟨T', D⟩ w) → wpList P ops.toArray Q l ⟨T, D⟩ w
  | [], T, D, F, hF, hn, h, hQ => by
    unfold fallsF at h
    injection h with h
    subst h
    exact hQ T hF
  | o :: r, T, D, F, hF, hn, h, hQ => by
    unfold fallsF at h
    split at h
    · rename_i k hg
      split at h
      · rename_i s hs
        have hy : ∀ b, F.contains s = b → b = true → Region.wanted o (yielded ops.toArray T) = false := by
          intro b hb hbt
          subst hbt
          have h1 := hF.mem hb
          unfold Region.wanted
          rw [hg]
          simp only
          unfold yielded
          rw [show (ops.toArray[k]?) = nthOp ops k from by rw [List.getElem?_toArray, nthOp_eq], hs]
          simp [h1]
        split at h
        · rename_i d hc hd
          split at h
          · cases h
          · rename_i hdf
            refine wpList_skip (hy _ hc rfl) ?_
            rw [hd]
            exact wpList_fallsF r _ D F (hF.out hdf) (by simpa using hn) h hQ
        · rename_i hc hd
          refine wpList_skip (hy _ hc rfl) ?_
          rw [hd]
          exact wpList_fallsF r _ D F hF hn h hQ
        · cases h
      · cases h
    · cases h
    · rename_i hg
      split at h
      · cases h
      · rename_i d hd
        split at h
        · cases h
        · rename_i hlt
          have hlt : d < T.size := by rw [hn]; simpa using hlt
          have fin : (execOp (⟨T, D⟩ : Act).eval o).run P w = .ok (.value (.bool false)) w → fallsF n ops r (d :: F) = some F' → wpList P ops.toArray Q (o :: r) ⟨T, D⟩ w := fun he h =>
            wpList_plain hg fun K hK => wp_run' he (by
              rw [hd]
              exact hK _ _ (wpList_fallsF r _ D (d :: F) (hF.add hlt) (by simpa using hn) h hQ))
          split at h
          · rename_i c ho
            split at h
            · rename_i hc
              exact fin (by simp [execOp, ho, Act.eval, hF.mem hc]) h
            · cases h
          · rename_i c ho
            split at h
            · rename_i hc
              exact fin (by simp [execOp, ho, Act.eval, hF.mem hc]) h
            · cases h
          · rename_i c x ho
            split at h
            · rename_i hc
              exact fin (by simp [execOp, ho, Act.eval, hF.mem hc, asBool]) h
            · cases h
          · cases h
/-- all that is left of a region behind a false '&&': slot s holds false at its end; c is the slot that is false now -/
theorem wpList_false {P : Program} {ops : List Oper} {Q : Exit → Act → World → Prop} {w : World} {o : Oper} {r : List Oper} {T : Array Value} {D : List Deferred} (c s n : Nat) (hw : Region.wanted o (yielded ops.toArray T) = false) (hc : T[c]? = some (.bool false)) (hn : T.size = n)
    (h : ((fallsF n ops (o :: r) [c]).map (·.contains s)) = some true)
    (hQ : ∀ T : Array Value, T.getD s undef = .bool false → Q .normal ⟨T, D⟩ w) : wpList P ops.toArray Q (o :: r) ⟨T, D⟩ w := by
  cases hr : fallsF n ops (o :: r) [c] with
  | none => rw [hr] at h; cases h
  | some F =>
    rw [hr] at h
    injection h with h
    exact wpList_fallsF _ T D [c] (fun x hx => by simp at hx; subst hx; exact hc) hn hr (fun T' hT => hQ T' (getD_some (hT.mem h)))
end Go.Proofs.YtnpjihdhpoddgaaGreat

namespace Go.Proofs.YtnpjihdhpoddgaaGreat
open Go.RowKit
set_option maxRecDepth 100000
theorem row_vtk : RowTy Tryz.prog 49 38 := ⟨by kernel_rfl, by kernel_rfl⟩
theorem row_akk : RowTy Tryz.prog 37 38 := ⟨by kernel_rfl, by kernel_rfl⟩
theorem row_pok : RowTy Tryz.prog 47 11 := ⟨by kernel_rfl, by kernel_rfl⟩
theorem row_bak : RowTy Tryz.prog 45 5 := ⟨by kernel_rfl, by kernel_rfl⟩
theorem row_stk2 : RowTy Tryz.prog 32 38 := ⟨by kernel_rfl, by kernel_rfl⟩

set_option maxHeartbeats 4000000 in
theorem votes_eq (A B : Option Addr) (n d d' : Nat) (l m : List Wvt) (w : World) (hl : Lst 38 Wvt.cells (fun _ v => v.Ok) w A n l) (hm : Lst 38 Wvt.cells (fun _ v => v.Ok) w B n m) (hlm : l.map id = m.map id) (hn : n ≤ 1000) :
    Calls Tryz.prog 40 #[.slice A n d, .slice B n d'] w fun e w' => e = .returned (.bool true) ∧ Fr [] w w' := by
  have HL := Lib.hid hl
  have HM := Lib.hid hm
  have HLM := Lib.hid hlm
  have HN := Lib.hid hn
  have hn1 : (n : Int) ≤ 9223372036854775807 := by omega
  have hnn : ((n : Int) != (n : Int)) = false := by simp
  clear hl hm hn hlm
  go_enter Tryz.func40, Tryz.ntmps40
  go_wp2_with fail
  clear hnn
  go_loopw [5] (fun i wr => ∃ j : Nat, j ≤ n ∧ i = .int .i64 j ∧ Hid (Fr [] w wr)) (fun i _ => n - (intOf i).toNat)
  case atStart => exact ⟨0, by omega, rfl, Lib.hid (Fr.refl _ _)⟩
  case round =>
    obtain ⟨j, hj, rfl, HF⟩ := hrel
    by_cases hlt : j < n
    · obtain ⟨ad, v, hA, hv, hcl, hok, hcells⟩ := HL.out.at (i := j) hlt
      obtain ⟨bd, u, hB, hu, hclu, hoku, hcellu⟩ := HM.out.at (i := j) hlt
      subst hA
      subst hB
      have HVU := Lib.hid (map_at HLM.out hv hu)
      have HCELLS : Hid (∀ i c, (Wvt.cells v)[i]? = some c → wr.cell? ((ad.add (j * 38)).add i) = some c) := Lib.hid (fun i c hc => HF.out.cell (hcells i c hc) (by simp))
      have HCELLU : Hid (∀ i c, (Wvt.cells u)[i]? = some c → wr.cell? ((bd.add (j * 38)).add i) = some c) := Lib.hid (fun i c hc => HF.out.cell (hcellu i c hc) (by simp))
      have HCL := Lib.hid hcl
      have HCLU := Lib.hid hclu
      have HOK := Lib.hid hok
      have HOKU := Lib.hid hoku
      have HJN := Lib.hid hlt
      have hj0 : (0 : Int) ≤ j := by omega
      clear hcells hcl hok hv hcellu hclu hoku hu
      have hvu : v = u := HVU.out
      subst hvu
      have HEQ : Hid (∀ W : World, (Op.equalIn 10000 49 (.agg v.cells.toArray) (.agg v.cells.toArray)).run Tryz.prog W = .ok true W) := Lib.hid (fun W => by have h := eql_Wvt v v HOK.out.h HOK.out.h W; rw [(Wvt.eqB_iff v v).2 rfl] at h; exact h)
      go_upto_region 6 with (fail)
      refine wp_region_held_drew (S := Fr [] wr) (by kernel_rfl) (Fr.drew (Fr.refl _ wr)) (fun hHeld => ?_)
      generalize wr.drew = w9 at *
      refine run_at (i := 0) (v := ?_) rfl (by kernel_rfl) (by rfl) (fun _ _ _ h => h) hHeld (fun w1 hw1 => ?_) ?_
      rotate_left 1
      · skip
        go_simp
        (try (first | with_reducible rfl | (apply And.intro <;> rfl)))
      simp only [Act.put, List.setIfInBounds_toArray, List.set_cons_zero, List.set_cons_succ]
      refine run_at (i := 1) (v := ?_) rfl (by kernel_rfl) (by rfl) (fun _ _ _ h => h) hHeld (fun w1 hw1 => ?_) ?_
      rotate_left 1
      · skip
        go_simp
        (try (first | with_reducible rfl | (apply And.intro <;> rfl)))
      simp only [Act.put, List.setIfInBounds_toArray, List.set_cons_zero, List.set_cons_succ]
      refine run_at (i := 2) (v := ?_) rfl (by kernel_rfl) (by rfl) (fun _ _ _ h => h) hHeld (fun w1 hw1 => ?_) ?_
      rotate_left 1
      · skip
        go_simp
        (try (first | with_reducible rfl | (apply And.intro <;> rfl)))
      simp only [Act.put, List.setIfInBounds_toArray, List.set_cons_zero, List.set_cons_succ]
      refine crow_at (i := 3) rfl (by kernel_rfl) (by rfl) _ _ rfl _ rfl _ (fun w1 hw1 j v hv => hw1.cell ((HCELLS.out) j v hv) (by simp)) (row_vtk.of HCL.out) (fun _ _ _ h => h) hHeld ?_
      simp only [Act.put, List.setIfInBounds_toArray, List.set_cons_zero, List.set_cons_succ]
      refine run_at (i := 4) (v := ?_) rfl (by kernel_rfl) (by rfl) (fun _ _ _ h => h) hHeld (fun w1 hw1 => ?_) ?_
      rotate_left 1
      · skip
        go_simp
        (try (first | with_reducible rfl | (apply And.intro <;> rfl)))
      simp only [Act.put, List.setIfInBounds_toArray, List.set_cons_zero, List.set_cons_succ]
      refine run_at (i := 5) (v := ?_) rfl (by kernel_rfl) (by rfl) (fun _ _ _ h => h) hHeld (fun w1 hw1 => ?_) ?_
      rotate_left 1
      · skip
        go_simp
        (try (first | with_reducible rfl | (apply And.intro <;> rfl)))
      simp only [Act.put, List.setIfInBounds_toArray, List.set_cons_zero, List.set_cons_succ]
      refine run_at (i := 6) (v := ?_) rfl (by kernel_rfl) (by rfl) (fun _ _ _ h => h) hHeld (fun w1 hw1 => ?_) ?_
      rotate_left 1
      · skip
        go_simp
        (try (first | with_reducible rfl | (apply And.intro <;> rfl)))
      simp only [Act.put, List.setIfInBounds_toArray, List.set_cons_zero, List.set_cons_succ]
      refine crow_at (i := 7) rfl (by kernel_rfl) (by rfl) _ _ rfl _ rfl _ (fun w1 hw1 j v hv => hw1.cell ((HCELLU.out) j v hv) (by simp)) (row_vtk.of HCLU.out) (fun _ _ _ h => h) hHeld ?_
      simp only [Act.put, List.setIfInBounds_toArray, List.set_cons_zero, List.set_cons_succ]
      refine neq_at (i := 8) rfl (by kernel_rfl) (by rfl) _ _ _ _ rfl _ _ rfl rfl _ (by kernel_rfl) (HEQ.out) (fun _ _ _ h => h) hHeld ?_
      simp only [Act.put, List.setIfInBounds_toArray, List.set_cons_zero, List.set_cons_succ]
      refine wpAnyH_done (by kernel_rfl) ?_ _
      have HF9 : Hid (Fr [] w w9) := Lib.hid (HF.out.and hHeld (by simp))
      clear hHeld HCELLS HCL HCELLU HCLU HVU
      clear HOK HOKU
      go_wp2
      go_roundw
      case rel => exact ⟨j + 1, by have := HJN.out; omega, by go_num, HF9⟩
      case measure => have := HJN.out; simp [intOf]; omega
    · have hjn : n = j := by omega
      subst hjn
      clear hlt hj
      go_wp2
      go_ret
      exact ⟨rfl, HF.out⟩

set_option maxHeartbeats 2000000 in
theorem proposal_eq (x y : Wpo) (w : World) (hx : x.Li w []) (hy : y.Li w []) (he : x.con = y.con) (C D : List Value) (hC : x.cells = C) (hD : y.cells = D) :
    Calls Tryz.prog 37 #[.agg C.toArray, .agg D.toArray] w fun e w' => e = .returned (.bool true) ∧ Fr [] w w' := by
  obtain ⟨wa, hwa⟩ : ∃ wa, wa = (w.alloc (Obj.cells C.toArray 47)).alloc (Obj.cells D.toArray 47) := ⟨_, rfl⟩
  have hf0 : Fr [] w wa := by rw [hwa]; exact ((Fr.refl [] w).alloc _).alloc _
  have hb0 : Blk wa w.heap.size 47 x.cells.toArray := by rw [hwa, hC]; exact blk_alloc (Blk.new _ _ _)
  have hb1 : Blk wa (w.heap.size + 1) 47 y.cells.toArray := by
    have := Blk.new (w.alloc (Obj.cells C.toArray 47)) 47 D.toArray
    rw [hwa, hD]
    simpa using this
  obtain ⟨e, r, v, p, k, b, mm⟩ := x
  obtain ⟨e', r', v', p', k', b', mm'⟩ := y
  unfold Wpo.con at he
  simp only [Cpo.mk.injEq] at he
  obtain ⟨rfl, rfl, rfl, rfl, hk, rfl, rfl⟩ := he
  have hr0 := hb0.range
  have hr1 := hb1.range
  have h00 : wa.cell? ⟨w.heap.size, 0, none⟩ = some (.int .i64 e) := by have h := hr0 0 _ rfl; simpa using h
  have h10 : wa.cell? ⟨w.heap.size + 1, 0, none⟩ = some (.int .i64 e) := by have h := hr1 0 _ rfl; simpa using h
  have h01 : wa.cell? ⟨w.heap.size, 1, none⟩ = some (.int .i64 r) := by have h := hr0 1 _ rfl; simpa using h
  have h11 : wa.cell? ⟨w.heap.size + 1, 1, none⟩ = some (.int .i64 r) := by have h := hr1 1 _ rfl; simpa using h
  have h02 : wa.cell? ⟨w.heap.size, 2, none⟩ = some (.int .i64 v) := by have h := hr0 2 _ rfl; simpa using h
  have h12 : wa.cell? ⟨w.heap.size + 1, 2, none⟩ = some (.int .i64 v) := by have h := hr1 2 _ rfl; simpa using h
  have h03 : wa.cell? ⟨w.heap.size, 3, none⟩ = some (.int .i64 p) := by have h := hr0 3 _ rfl; simpa using h
  have h13 : wa.cell? ⟨w.heap.size + 1, 3, none⟩ = some (.int .i64 p) := by have h := hr1 3 _ rfl; simpa using h
  have HK0 : Hid (wa.rangeAt w.heap.size 4 k.cells) := Lib.hid (rangeAt_sub (o := 0) (xs := [.int .i64 e, .int .i64 r, .int .i64 v, .int .i64 p]) (ys := k.cells) (zs := [.int .i64 b, .int .i64 mm]) hr0)
  have HK1 : Hid (wa.rangeAt (w.heap.size + 1) 4 k'.cells) := Lib.hid (rangeAt_sub (o := 0) (xs := [.int .i64 e, .int .i64 r, .int .i64 v, .int .i64 p]) (ys := k'.cells) (zs := [.int .i64 b, .int .i64 mm]) hr1)
  have HH0 : Hid (wa.rangeAt w.heap.size 9 [.int .i64 b, .int .i64 mm]) := Lib.hid (ra_tail (o := 4) (k := 5) (ra_tail (o := 0) (k := 4) (a := [.int .i64 e, .int .i64 r, .int .i64 v, .int .i64 p]) hr0 rfl) rfl)
  have HH1 : Hid (wa.rangeAt (w.heap.size + 1) 9 [.int .i64 b, .int .i64 mm]) := Lib.hid (ra_tail (o := 4) (k := 5) (ra_tail (o := 0) (k := 4) (a := [.int .i64 e, .int .i64 r, .int .i64 v, .int .i64 p]) hr1 rfl) rfl)
  have HEQ : Hid ((Op.equalIn 10000 27 (.agg #[.int .i64 b, .int .i64 mm]) (.agg #[.int .i64 b, .int .i64 mm])).run Tryz.prog wa = .ok true wa) := Lib.hid (sig_selfd b mm 9998 wa)
  have HF0 := Lib.hid hf0
  have HWA := Lib.hid hwa
  have HX : Hid (k.Li wa []) := Lib.hid (hx.k.keep hf0 (by simp))
  have HY : Hid (k'.Li wa []) := Lib.hid (hy.k.keep hf0 (by simp))
  have HKK := Lib.hid hk
  have hee : (e == e) = true := by simp
  have hrr : (r == r) = true := by simp
  have hvv : (v == v) = true := by simp
  have hpp : (p == p) = true := by simp
  clear hwa hf0 hb0 hb1 hr0 hr1 hx hy hC hD hk
  obtain ⟨KC, hKC⟩ : ∃ KC, k.cells = KC := ⟨_, rfl⟩
  obtain ⟨KD, hKD⟩ : ∃ KD, k'.cells = KD := ⟨_, rfl⟩
  rw [hKC] at HK0
  rw [hKD] at HK1
  have HLC : Hid (KC.length = 5) := Lib.hid (by rw [← hKC]; rfl)
  have HLD : Hid (KD.length = 5) := Lib.hid (by rw [← hKD]; rfl)
  have HKC := Lib.hid hKC
  have HKD := Lib.hid hKD
  clear hKC hKD
  go_enter Tryz.func37, Tryz.ntmps37
  go_upto_region 1 with (fail)
  change Code.wp _ _ _ _ ((w.alloc (Obj.cells C.toArray 47)).alloc (Obj.cells D.toArray 47))
  rw [← HWA.out]
  go_wp2_with (first
    | (refine wpList_midg rfl 27 _ rfl w.heap.size 9 rfl [.int .i64 b, .int .i64 mm] HH0.out row_sg2 ?_)
    | (refine wpList_midg rfl 27 _ rfl (w.heap.size + 1) 9 rfl [.int .i64 b, .int .i64 mm] HH1.out row_sg2 ?_)
    | (refine wpList_midg rfl 45 _ rfl w.heap.size 4 rfl KC HK0.out (row_bak.of HLC.out) ?_)
    | (refine wpList_midg rfl 45 _ rfl (w.heap.size + 1) 4 rfl KD HK1.out (row_bak.of HLD.out) ?_)
    | (refine wpList_eqlg rfl 27 _ _ _ rfl #[.int .i64 b, .int .i64 mm] #[.int .i64 b, .int .i64 mm] rfl rfl true (by kernel_rfl) HEQ.out ?_))
  refine (batch_eq k k' wa HX.out HY.out HKK.out _ _ HKC.out HKD.out).mono ?_
  rintro e_ w1 ⟨rfl, hf1⟩
  have HF1 : Hid (Fr [] w w1) := Lib.hid (HF0.out.and hf1 (by simp))
  clear hf1 h00 h10 h01 h11 h02 h12 h03 h13 hee hrr hvv hpp
  go_wp2
  go_ret
  exact ⟨rfl, HF1.out⟩

theorem Wmg.Li.len {w : World} {S : List Nat} {x : Wmg} (h : x.Li w S) : x.Len := ⟨h.cm.h, h.st.h, h.ce.k.h, h.ak.h, h.vt.h, h.en.h, h.op.h⟩
theorem Wdc.at_k {w : World} {g o : Nat} {x : Wdc} (h : w.rangeAt g o x.cells) : w.cell? ⟨g, o, none⟩ = some (.int .i64 x.e) ∧ w.cell? ⟨g, o + 1, none⟩ = some (.int .i64 x.r) ∧ w.rangeAt g (o + 2) x.k.cells ∧ w.cell? ⟨g, o + 7, none⟩ = some (.slice x.A x.n x.d) := by
  have h2 := ra_tail (k := 2) h rfl
  exact ⟨by have h := h 0 _ rfl; simpa using h, by have h := h 1 _ rfl; simpa using h, ra_head h2, by have h := ra_tail (k := 5) h2 rfl 0 _ rfl; simpa using h⟩
def KmPost (c : Prop) (w : World) (e : Ending) (w' : World) : Prop := ∃ b : Bool, e = .returned (.bool b) ∧ (b = true ↔ c) ∧ Fr [] w w'
theorem KmPost.f {c : Prop} {w w' : World} (h : ¬ c) (hf : Fr [] w w') : KmPost c w (.returned (.bool false)) w' := ⟨false, rfl, by simp [h], hf⟩
theorem KmPost.t {c : Prop} {w w' : World} (h : c) (hf : Fr [] w w') : KmPost c w (.returned (.bool true)) w' := ⟨true, rfl, by simp [h], hf⟩
set_option maxHeartbeats 8000000 in
theorem kmsg_any (x y : Wmg) (w : World) (hx : x.Li w []) (hy : y.Li w []) (hq : x.q = y.q) (hcm : x.cm = y.cm) (hst : x.st = y.st) (hce : x.ce.con = y.ce.con) (hak : x.ak = y.ak) (hpr : x.pr.con = y.pr.con) (hpo : x.po.con = y.po.con) (hop : x.op.con = y.op.con) (hdn : x.dn = y.dn) (hrp : x.rp = y.rp) (hde : x.de.con = y.de.con)
    (C D : List Value) (hC : x.cells = C) (hD : y.cells = D) :
    Calls Tryz.prog 12 #[.agg C.toArray, .agg D.toArray] w fun e w' => KmPost (x.f = y.f ∧ x.t = y.t ∧ x.e = y.e ∧ x.r = y.r ∧ x.tm = y.tm ∧ x.vt = y.vt ∧ x.i = y.i ∧ x.en = y.en) w e w' := by
  obtain ⟨wa, hwa⟩ : ∃ wa, wa = (w.alloc (Obj.cells C.toArray 61)).alloc (Obj.cells D.toArray 61) := ⟨_, rfl⟩
  have hf0 : Fr [] w wa := by rw [hwa]; exact ((Fr.refl [] w).alloc _).alloc _
  have hb0 : Blk wa w.heap.size 61 x.cells.toArray := by rw [hwa, hC]; exact blk_alloc (Blk.new _ _ _)
  have hb1 : Blk wa (w.heap.size + 1) 61 y.cells.toArray := by
    have := Blk.new (w.alloc (Obj.cells C.toArray 61)) 61 D.toArray
    rw [hwa, hD]
    simpa using this
  obtain ⟨q, f, t, cm, st, ce, ak, e, r, tm, pr, po, vt, i, en, op, dn, rp, de⟩ := x
  obtain ⟨q', f', t', cm', st', ce', ak', e', r', tm', pr', po', vt', i', en', op', dn', rp', de'⟩ := y
  simp only at hq hcm hst hce hak hpr hpo hop hdn hrp hde
  subst hq hcm hst hak hdn hrp
  have HB0 := Lib.hid hb0
  have HB1 := Lib.hid hb1
  have HLX := Lib.hid hx.len
  have HLY := Lib.hid hy.len
  have HF0 := Lib.hid hf0
  have HWA := Lib.hid hwa
  have HX := Lib.hid hx
  have HY := Lib.hid hy
  have HCE := Lib.hid hce
  have HPR := Lib.hid hpr
  have HPO := Lib.hid hpo
  have HOP := Lib.hid hop
  have HDE := Lib.hid hde
  clear hwa hf0 hb0 hb1 hx hy hC hD hce hpr hpo hop hde
  obtain ⟨Ccm, hCcm⟩ : ∃ L, L = cm.cells := ⟨_, rfl⟩
  have HLcm : Hid (Ccm.length = 37) := Lib.hid (by rw [hCcm]; exact Wcm.len HLX.out.cm)
  have HCcm := Lib.hid hCcm
  clear hCcm
  obtain ⟨Cst, hCst⟩ : ∃ L, L = st.cells := ⟨_, rfl⟩
  have HLst : Hid (Cst.length = 38) := Lib.hid (by rw [hCst]; exact Wst.len HLX.out.st)
  have HCst := Lib.hid hCst
  clear hCst
  obtain ⟨Cce, hCce⟩ : ∃ L, L = ce.cells := ⟨_, rfl⟩
  have HLce : Hid (Cce.length = 38) := Lib.hid (by rw [hCce]; exact Wce.len HLX.out.ce)
  have HCce := Lib.hid hCce
  clear hCce
  obtain ⟨Dce, hDce⟩ : ∃ L, L = ce'.cells := ⟨_, rfl⟩
  have HMce : Hid (Dce.length = 38) := Lib.hid (by rw [hDce]; exact Wce.len HLY.out.ce)
  have HDce := Lib.hid hDce
  clear hDce
  obtain ⟨Cak, hCak⟩ : ∃ L, L = ak.cells := ⟨_, rfl⟩
  have HLak : Hid (Cak.length = 38) := Lib.hid (by rw [hCak]; exact Wst.len HLX.out.ak)
  have HCak := Lib.hid hCak
  clear hCak
  obtain ⟨Cpr, hCpr⟩ : ∃ L, L = pr.cells := ⟨_, rfl⟩
  have HLpr : Hid (Cpr.length = 6) := Lib.hid (by rw [hCpr]; exact Wpr.len _)
  have HCpr := Lib.hid hCpr
  clear hCpr
  obtain ⟨Dpr, hDpr⟩ : ∃ L, L = pr'.cells := ⟨_, rfl⟩
  have HMpr : Hid (Dpr.length = 6) := Lib.hid (by rw [hDpr]; exact Wpr.len _)
  have HDpr := Lib.hid hDpr
  clear hDpr
  obtain ⟨Cpo, hCpo⟩ : ∃ L, L = po.cells := ⟨_, rfl⟩
  have HLpo : Hid (Cpo.length = 11) := Lib.hid (by rw [hCpo]; exact Wpo.len _)
  have HCpo := Lib.hid hCpo
  clear hCpo
  obtain ⟨Dpo, hDpo⟩ : ∃ L, L = po'.cells := ⟨_, rfl⟩
  have HMpo : Hid (Dpo.length = 11) := Lib.hid (by rw [hDpo]; exact Wpo.len _)
  have HDpo := Lib.hid hDpo
  clear hDpo
  obtain ⟨Cvt, hCvt⟩ : ∃ L, L = vt.cells := ⟨_, rfl⟩
  have HLvt : Hid (Cvt.length = 38) := Lib.hid (by rw [hCvt]; exact Wvt.len HLX.out.vt)
  have HCvt := Lib.hid hCvt
  clear hCvt
  obtain ⟨Dvt, hDvt⟩ : ∃ L, L = vt'.cells := ⟨_, rfl⟩
  have HMvt : Hid (Dvt.length = 38) := Lib.hid (by rw [hDvt]; exact Wvt.len HLY.out.vt)
  have HDvt := Lib.hid hDvt
  clear hDvt
  obtain ⟨Cen, hCen⟩ : ∃ L, L = en.cells := ⟨_, rfl⟩
  have HLen : Hid (Cen.length = 35) := Lib.hid (by rw [hCen]; exact Wen.len HLX.out.en)
  have HCen := Lib.hid hCen
  clear hCen
  obtain ⟨Den, hDen⟩ : ∃ L, L = en'.cells := ⟨_, rfl⟩
  have HMen : Hid (Den.length = 35) := Lib.hid (by rw [hDen]; exact Wen.len HLY.out.en)
  have HDen := Lib.hid hDen
  clear hDen
  obtain ⟨Cop, hCop⟩ : ∃ L, L = op.cells := ⟨_, rfl⟩
  have HLop : Hid (Cop.length = 34) := Lib.hid (by rw [hCop]; exact Wop.len HLX.out.op)
  have HCop := Lib.hid hCop
  clear hCop
  obtain ⟨Dop, hDop⟩ : ∃ L, L = op'.cells := ⟨_, rfl⟩
  have HMop : Hid (Dop.length = 34) := Lib.hid (by rw [hDop]; exact Wop.len HLY.out.op)
  have HDop := Lib.hid hDop
  clear hDop
  obtain ⟨Cdn, hCdn⟩ : ∃ L, L = dn.cells := ⟨_, rfl⟩
  have HLdn : Hid (Cdn.length = 4) := Lib.hid (by rw [hCdn]; exact Wdn.len _)
  have HCdn := Lib.hid hCdn
  clear hCdn
  go_enter Tryz.func12, Tryz.ntmps12
  go_upto_region 1 with (fail)
  change Code.wp _ _ _ _ ((w.alloc (Obj.cells C.toArray 61)).alloc (Obj.cells D.toArray 61))
  rw [← HWA.out]
  have hat0 := Wmg.at_len HB0.out.range HLX.out
  have hau0 := Wmg.at_len HB1.out.range HLY.out
  have cq0 : wa.cell? ⟨w.heap.size, 0, none⟩ = some (.int .i64 (q)) := by have h := hat0.q 0 _ rfl; simpa using h
  have dq0 : wa.cell? ⟨w.heap.size + 1, 0, none⟩ = some (.int .i64 (q)) := by have h := hau0.q 0 _ rfl; simpa using h
  have cf0 : wa.cell? ⟨w.heap.size, 1, none⟩ = some (.int .i64 (f)) := by have h := hat0.f 0 _ rfl; simpa using h
  have df0 : wa.cell? ⟨w.heap.size + 1, 1, none⟩ = some (.int .i64 (f')) := by have h := hau0.f 0 _ rfl; simpa using h
  have ct0 : wa.cell? ⟨w.heap.size, 2, none⟩ = some (.int .i64 (t)) := by have h := hat0.t 0 _ rfl; simpa using h
  have dt0 : wa.cell? ⟨w.heap.size + 1, 2, none⟩ = some (.int .i64 (t')) := by have h := hau0.t 0 _ rfl; simpa using h
  have HRcm0 : Hid (wa.rangeAt w.heap.size 3 Ccm) := Lib.hid (by rw [HCcm.out]; exact hat0.cm)
  have HScm0 : Hid (wa.rangeAt (w.heap.size + 1) 3 Ccm) := Lib.hid (by rw [HCcm.out]; exact hau0.cm)
  have HRst0 : Hid (wa.rangeAt w.heap.size 40 Cst) := Lib.hid (by rw [HCst.out]; exact hat0.st)
  have HSst0 : Hid (wa.rangeAt (w.heap.size + 1) 40 Cst) := Lib.hid (by rw [HCst.out]; exact hau0.st)
  have HRce0 : Hid (wa.rangeAt w.heap.size 78 Cce) := Lib.hid (by rw [HCce.out]; exact hat0.ce)
  have HSce0 : Hid (wa.rangeAt (w.heap.size + 1) 78 Dce) := Lib.hid (by rw [HDce.out]; exact hau0.ce)
  have HQcm : Hid ((Op.equalIn 10000 29 (.agg Ccm.toArray) (.agg Ccm.toArray)).run Tryz.prog wa = .ok true wa) := Lib.hid (by rw [HCcm.out]; exact eq_Wcm cm HLX.out.cm wa)
  have HQst : Hid ((Op.equalIn 10000 32 (.agg Cst.toArray) (.agg Cst.toArray)).run Tryz.prog wa = .ok true wa) := Lib.hid (by rw [HCst.out]; have h := eql_Wst st st HLX.out.st HLX.out.st wa; rw [(Wst.eqB_iff st st).2 rfl] at h; exact h)
  clear hat0 hau0
  have gq : ((q : Int) == q) = true := by simp
  by_cases hf : f = f'
  case neg =>
    have gf : ((f : Int) == (f' : Int)) = false := by simp; omega
    iterate 27 (first
        | (show wpList _ _ _ _ _ _; refine wpList_midg (by kernel_rfl) 29 _ rfl w.heap.size 3 rfl Ccm HRcm0.out (row_cmt.of HLcm.out) ?_)
        | (show wpList _ _ _ _ _ _; refine wpList_midg (by kernel_rfl) 29 _ rfl (w.heap.size + 1) 3 rfl Ccm HScm0.out (row_cmt.of HLcm.out) ?_)
        | (show wpList _ _ _ _ _ _; refine wpList_midg (by kernel_rfl) 32 _ rfl w.heap.size 40 rfl Cst HRst0.out (row_stk2.of HLst.out) ?_)
        | (show wpList _ _ _ _ _ _; refine wpList_midg (by kernel_rfl) 32 _ rfl (w.heap.size + 1) 40 rfl Cst HSst0.out (row_stk2.of HLst.out) ?_)
        | (show wpList _ _ _ _ _ _; refine wpList_midg (by kernel_rfl) 35 _ rfl w.heap.size 78 rfl Cce HRce0.out (row_crt.of HLce.out) ?_)
        | (show wpList _ _ _ _ _ _; refine wpList_midg (by kernel_rfl) 35 _ rfl (w.heap.size + 1) 78 rfl Dce HSce0.out (row_crt.of HMce.out) ?_)
        | (show wpList _ _ _ _ _ _; refine wpList_eqlg (by kernel_rfl) 29 _ _ _ rfl Ccm.toArray Ccm.toArray rfl rfl true (by kernel_rfl) HQcm.out ?_)
        | (show wpList _ _ _ _ _ _; refine wpList_eqlg (by kernel_rfl) 32 _ _ _ rfl Cst.toArray Cst.toArray rfl rfl true (by kernel_rfl) HQst.out ?_)
        | go_values
        | go_skip
        | go_guarded
        | go_step
        | go_upon
        | go_back)
    refine wpList_false 17 4 _ (by kernel_rfl) rfl rfl (by kernel_rfl) ?_
    intro T hT
    go_wp2
    go_ret
    rw [hT]
    exact KmPost.f (by simp [hf]) HF0.out
  have gf : ((f : Int) == (f' : Int)) = true := by simp; omega
  by_cases ht : t = t'
  case neg =>
    have gt : ((t : Int) == (t' : Int)) = false := by simp; omega
    iterate 41 (first
        | (show wpList _ _ _ _ _ _; refine wpList_midg (by kernel_rfl) 29 _ rfl w.heap.size 3 rfl Ccm HRcm0.out (row_cmt.of HLcm.out) ?_)
        | (show wpList _ _ _ _ _ _; refine wpList_midg (by kernel_rfl) 29 _ rfl (w.heap.size + 1) 3 rfl Ccm HScm0.out (row_cmt.of HLcm.out) ?_)
        | (show wpList _ _ _ _ _ _; refine wpList_midg (by kernel_rfl) 32 _ rfl w.heap.size 40 rfl Cst HRst0.out (row_stk2.of HLst.out) ?_)
        | (show wpList _ _ _ _ _ _; refine wpList_midg (by kernel_rfl) 32 _ rfl (w.heap.size + 1) 40 rfl Cst HSst0.out (row_stk2.of HLst.out) ?_)
        | (show wpList _ _ _ _ _ _; refine wpList_midg (by kernel_rfl) 35 _ rfl w.heap.size 78 rfl Cce HRce0.out (row_crt.of HLce.out) ?_)
        | (show wpList _ _ _ _ _ _; refine wpList_midg (by kernel_rfl) 35 _ rfl (w.heap.size + 1) 78 rfl Dce HSce0.out (row_crt.of HMce.out) ?_)
        | (show wpList _ _ _ _ _ _; refine wpList_eqlg (by kernel_rfl) 29 _ _ _ rfl Ccm.toArray Ccm.toArray rfl rfl true (by kernel_rfl) HQcm.out ?_)
        | (show wpList _ _ _ _ _ _; refine wpList_eqlg (by kernel_rfl) 32 _ _ _ rfl Cst.toArray Cst.toArray rfl rfl true (by kernel_rfl) HQst.out ?_)
        | go_values
        | go_skip
        | go_guarded
        | go_step
        | go_upon
        | go_back)
    refine wpList_false 24 4 _ (by kernel_rfl) rfl rfl (by kernel_rfl) ?_
    intro T hT
    go_wp2
    go_ret
    rw [hT]
    exact KmPost.f (by simp [ht]) HF0.out
  have gt : ((t : Int) == (t' : Int)) = true := by simp; omega
  repeat (first
      | (show wpList _ _ _ _ _ _; refine wpList_midg (by kernel_rfl) 29 _ rfl w.heap.size 3 rfl Ccm HRcm0.out (row_cmt.of HLcm.out) ?_)
      | (show wpList _ _ _ _ _ _; refine wpList_midg (by kernel_rfl) 29 _ rfl (w.heap.size + 1) 3 rfl Ccm HScm0.out (row_cmt.of HLcm.out) ?_)
      | (show wpList _ _ _ _ _ _; refine wpList_midg (by kernel_rfl) 32 _ rfl w.heap.size 40 rfl Cst HRst0.out (row_stk2.of HLst.out) ?_)
      | (show wpList _ _ _ _ _ _; refine wpList_midg (by kernel_rfl) 32 _ rfl (w.heap.size + 1) 40 rfl Cst HSst0.out (row_stk2.of HLst.out) ?_)
      | (show wpList _ _ _ _ _ _; refine wpList_midg (by kernel_rfl) 35 _ rfl w.heap.size 78 rfl Cce HRce0.out (row_crt.of HLce.out) ?_)
      | (show wpList _ _ _ _ _ _; refine wpList_midg (by kernel_rfl) 35 _ rfl (w.heap.size + 1) 78 rfl Dce HSce0.out (row_crt.of HMce.out) ?_)
      | (show wpList _ _ _ _ _ _; refine wpList_eqlg (by kernel_rfl) 29 _ _ _ rfl Ccm.toArray Ccm.toArray rfl rfl true (by kernel_rfl) HQcm.out ?_)
      | (show wpList _ _ _ _ _ _; refine wpList_eqlg (by kernel_rfl) 32 _ _ _ rfl Cst.toArray Cst.toArray rfl rfl true (by kernel_rfl) HQst.out ?_)
      | go_values
      | go_skip
      | go_guarded
      | go_step
      | go_upon
      | go_back)
  refine (cert_eq ce ce' wa (HX.out.ce.keep HF0.out (by simp)) (HY.out.ce.keep HF0.out (by simp)) HCE.out _ _ HCce.out.symm HDce.out.symm).mono ?_
  rintro e_ w1 ⟨rfl, hf1⟩
  have HF1 : Hid (Fr [] w w1) := Lib.hid (HF0.out.and hf1 (by simp))
  have HB01 := Lib.hid (HB0.out.keep hf1 (by simp))
  have HB11 := Lib.hid (HB1.out.keep hf1 (by simp))
  clear hf1 cq0 dq0 cf0 df0 ct0 dt0 gq gf gt HRcm0 HScm0 HRst0 HSst0 HRce0 HSce0 HQcm HQst
  go_simp
  have hat1 := Wmg.at_len HB01.out.range HLX.out
  have hau1 := Wmg.at_len HB11.out.range HLY.out
  have ce1 : w1.cell? ⟨w.heap.size, 154, none⟩ = some (.int .i64 (e)) := by have h := hat1.e 0 _ rfl; simpa using h
  have de1 : w1.cell? ⟨w.heap.size + 1, 154, none⟩ = some (.int .i64 (e')) := by have h := hau1.e 0 _ rfl; simpa using h
  have cr1 : w1.cell? ⟨w.heap.size, 155, none⟩ = some (.int .i64 (r)) := by have h := hat1.r 0 _ rfl; simpa using h
  have dr1 : w1.cell? ⟨w.heap.size + 1, 155, none⟩ = some (.int .i64 (r')) := by have h := hau1.r 0 _ rfl; simpa using h
  have ctm1 : w1.cell? ⟨w.heap.size, 156, none⟩ = some (.int .u64 (tm : Int)) := by have h := hat1.tm 0 _ rfl; simpa using h
  have dtm1 : w1.cell? ⟨w.heap.size + 1, 156, none⟩ = some (.int .u64 (tm' : Int)) := by have h := hau1.tm 0 _ rfl; simpa using h
  have HRak1 : Hid (w1.rangeAt w.heap.size 116 Cak) := Lib.hid (by rw [HCak.out]; exact hat1.ak)
  have HSak1 : Hid (w1.rangeAt (w.heap.size + 1) 116 Cak) := Lib.hid (by rw [HCak.out]; exact hau1.ak)
  have HRpr1 : Hid (w1.rangeAt w.heap.size 157 Cpr) := Lib.hid (by rw [HCpr.out]; exact hat1.pr)
  have HSpr1 : Hid (w1.rangeAt (w.heap.size + 1) 157 Dpr) := Lib.hid (by rw [HDpr.out]; exact hau1.pr)
  have HQak : Hid ((Op.equalIn 10000 37 (.agg Cak.toArray) (.agg Cak.toArray)).run Tryz.prog w1 = .ok true w1) := Lib.hid (by rw [HCak.out]; have h := eql_Wak ak ak HLX.out.ak HLX.out.ak w1; rw [(Wst.eqB_iff ak ak).2 rfl] at h; exact h)
  clear hat1 hau1
  by_cases he : e = e'
  case neg =>
    have ge : ((e : Int) == (e' : Int)) = false := by simp; omega
    iterate 30 (first
        | (show wpList _ _ _ _ _ _; refine wpList_midg (by kernel_rfl) 37 _ rfl w.heap.size 116 rfl Cak HRak1.out (row_akk.of HLak.out) ?_)
        | (show wpList _ _ _ _ _ _; refine wpList_midg (by kernel_rfl) 37 _ rfl (w.heap.size + 1) 116 rfl Cak HSak1.out (row_akk.of HLak.out) ?_)
        | (show wpList _ _ _ _ _ _; refine wpList_midg (by kernel_rfl) 40 _ rfl w.heap.size 157 rfl Cpr HRpr1.out (row_prm.of HLpr.out) ?_)
        | (show wpList _ _ _ _ _ _; refine wpList_midg (by kernel_rfl) 40 _ rfl (w.heap.size + 1) 157 rfl Dpr HSpr1.out (row_prm.of HMpr.out) ?_)
        | (show wpList _ _ _ _ _ _; refine wpList_eqlg (by kernel_rfl) 37 _ _ _ rfl Cak.toArray Cak.toArray rfl rfl true (by kernel_rfl) HQak.out ?_)
        | go_values
        | go_skip
        | go_guarded
        | go_step
        | go_upon
        | go_back)
    refine wpList_false 59 4 _ (by kernel_rfl) rfl rfl (by kernel_rfl) ?_
    intro T hT
    go_wp2
    go_ret
    rw [hT]
    exact KmPost.f (by simp [he]) HF1.out
  have ge : ((e : Int) == (e' : Int)) = true := by simp; omega
  by_cases hr : r = r'
  case neg =>
    have gr : ((r : Int) == (r' : Int)) = false := by simp; omega
    iterate 44 (first
        | (show wpList _ _ _ _ _ _; refine wpList_midg (by kernel_rfl) 37 _ rfl w.heap.size 116 rfl Cak HRak1.out (row_akk.of HLak.out) ?_)
        | (show wpList _ _ _ _ _ _; refine wpList_midg (by kernel_rfl) 37 _ rfl (w.heap.size + 1) 116 rfl Cak HSak1.out (row_akk.of HLak.out) ?_)
        | (show wpList _ _ _ _ _ _; refine wpList_midg (by kernel_rfl) 40 _ rfl w.heap.size 157 rfl Cpr HRpr1.out (row_prm.of HLpr.out) ?_)
        | (show wpList _ _ _ _ _ _; refine wpList_midg (by kernel_rfl) 40 _ rfl (w.heap.size + 1) 157 rfl Dpr HSpr1.out (row_prm.of HMpr.out) ?_)
        | (show wpList _ _ _ _ _ _; refine wpList_eqlg (by kernel_rfl) 37 _ _ _ rfl Cak.toArray Cak.toArray rfl rfl true (by kernel_rfl) HQak.out ?_)
        | go_values
        | go_skip
        | go_guarded
        | go_step
        | go_upon
        | go_back)
    refine wpList_false 66 4 _ (by kernel_rfl) rfl rfl (by kernel_rfl) ?_
    intro T hT
    go_wp2
    go_ret
    rw [hT]
    exact KmPost.f (by simp [hr]) HF1.out
  have gr : ((r : Int) == (r' : Int)) = true := by simp; omega
  by_cases htm : tm = tm'
  case neg =>
    have gtm : ((tm : Int) == (tm' : Int)) = false := by simp; omega
    iterate 58 (first
        | (show wpList _ _ _ _ _ _; refine wpList_midg (by kernel_rfl) 37 _ rfl w.heap.size 116 rfl Cak HRak1.out (row_akk.of HLak.out) ?_)
        | (show wpList _ _ _ _ _ _; refine wpList_midg (by kernel_rfl) 37 _ rfl (w.heap.size + 1) 116 rfl Cak HSak1.out (row_akk.of HLak.out) ?_)
        | (show wpList _ _ _ _ _ _; refine wpList_midg (by kernel_rfl) 40 _ rfl w.heap.size 157 rfl Cpr HRpr1.out (row_prm.of HLpr.out) ?_)
        | (show wpList _ _ _ _ _ _; refine wpList_midg (by kernel_rfl) 40 _ rfl (w.heap.size + 1) 157 rfl Dpr HSpr1.out (row_prm.of HMpr.out) ?_)
        | (show wpList _ _ _ _ _ _; refine wpList_eqlg (by kernel_rfl) 37 _ _ _ rfl Cak.toArray Cak.toArray rfl rfl true (by kernel_rfl) HQak.out ?_)
        | go_values
        | go_skip
        | go_guarded
        | go_step
        | go_upon
        | go_back)
    refine wpList_false 73 4 _ (by kernel_rfl) rfl rfl (by kernel_rfl) ?_
    intro T hT
    go_wp2
    go_ret
    rw [hT]
    exact KmPost.f (by simp [htm]) HF1.out
  have gtm : ((tm : Int) == (tm' : Int)) = true := by simp; omega
  repeat (first
      | (show wpList _ _ _ _ _ _; refine wpList_midg (by kernel_rfl) 37 _ rfl w.heap.size 116 rfl Cak HRak1.out (row_akk.of HLak.out) ?_)
      | (show wpList _ _ _ _ _ _; refine wpList_midg (by kernel_rfl) 37 _ rfl (w.heap.size + 1) 116 rfl Cak HSak1.out (row_akk.of HLak.out) ?_)
      | (show wpList _ _ _ _ _ _; refine wpList_midg (by kernel_rfl) 40 _ rfl w.heap.size 157 rfl Cpr HRpr1.out (row_prm.of HLpr.out) ?_)
      | (show wpList _ _ _ _ _ _; refine wpList_midg (by kernel_rfl) 40 _ rfl (w.heap.size + 1) 157 rfl Dpr HSpr1.out (row_prm.of HMpr.out) ?_)
      | (show wpList _ _ _ _ _ _; refine wpList_eqlg (by kernel_rfl) 37 _ _ _ rfl Cak.toArray Cak.toArray rfl rfl true (by kernel_rfl) HQak.out ?_)
      | go_values
      | go_skip
      | go_guarded
      | go_step
      | go_upon
      | go_back)
  refine (promise_eq pr pr' w1 (HX.out.pr.keep HF1.out (by simp)) (HY.out.pr.keep HF1.out (by simp)) HPR.out _ _ HCpr.out.symm HDpr.out.symm).mono ?_
  rintro e_ w2 ⟨rfl, hf2⟩
  have HF2 : Hid (Fr [] w w2) := Lib.hid (HF1.out.and hf2 (by simp))
  have HB02 := Lib.hid (HB01.out.keep hf2 (by simp))
  have HB12 := Lib.hid (HB11.out.keep hf2 (by simp))
  clear hf2 ce1 de1 cr1 dr1 ctm1 dtm1 ge gr gtm HRak1 HSak1 HRpr1 HSpr1 HQak
  go_simp
  have hat2 := Wmg.at_len HB02.out.range HLX.out
  have hau2 := Wmg.at_len HB12.out.range HLY.out
  have HRpo2 : Hid (w2.rangeAt w.heap.size 163 Cpo) := Lib.hid (by rw [HCpo.out]; exact hat2.po)
  have HSpo2 : Hid (w2.rangeAt (w.heap.size + 1) 163 Dpo) := Lib.hid (by rw [HDpo.out]; exact hau2.po)
  clear hat2 hau2
  repeat (first
      | (show wpList _ _ _ _ _ _; refine wpList_midg (by kernel_rfl) 47 _ rfl w.heap.size 163 rfl Cpo HRpo2.out (row_pok.of HLpo.out) ?_)
      | (show wpList _ _ _ _ _ _; refine wpList_midg (by kernel_rfl) 47 _ rfl (w.heap.size + 1) 163 rfl Dpo HSpo2.out (row_pok.of HMpo.out) ?_)
      | go_values
      | go_skip
      | go_guarded
      | go_step
      | go_upon
      | go_back)
  refine (proposal_eq po po' w2 (HX.out.po.keep HF2.out (by simp)) (HY.out.po.keep HF2.out (by simp)) HPO.out _ _ HCpo.out.symm HDpo.out.symm).mono ?_
  rintro e_ w3 ⟨rfl, hf3⟩
  have HF3 : Hid (Fr [] w w3) := Lib.hid (HF2.out.and hf3 (by simp))
  have HB03 := Lib.hid (HB02.out.keep hf3 (by simp))
  have HB13 := Lib.hid (HB12.out.keep hf3 (by simp))
  clear hf3 HRpo2 HSpo2
  go_simp
  have hat3 := Wmg.at_len HB03.out.range HLX.out
  have hau3 := Wmg.at_len HB13.out.range HLY.out
  have ci3 : w3.cell? ⟨w.heap.size, 212, none⟩ = some (.int .i64 (i)) := by have h := hat3.i 0 _ rfl; simpa using h
  have di3 : w3.cell? ⟨w.heap.size + 1, 212, none⟩ = some (.int .i64 (i')) := by have h := hau3.i 0 _ rfl; simpa using h
  have HRvt3 : Hid (w3.rangeAt w.heap.size 174 Cvt) := Lib.hid (by rw [HCvt.out]; exact hat3.vt)
  have HSvt3 : Hid (w3.rangeAt (w.heap.size + 1) 174 Dvt) := Lib.hid (by rw [HDvt.out]; exact hau3.vt)
  have HRen3 : Hid (w3.rangeAt w.heap.size 213 Cen) := Lib.hid (by rw [HCen.out]; exact hat3.en)
  have HSen3 : Hid (w3.rangeAt (w.heap.size + 1) 213 Den) := Lib.hid (by rw [HDen.out]; exact hau3.en)
  have HRop3 : Hid (w3.rangeAt w.heap.size 248 Cop) := Lib.hid (by rw [HCop.out]; exact hat3.op)
  have HSop3 : Hid (w3.rangeAt (w.heap.size + 1) 248 Dop) := Lib.hid (by rw [HDop.out]; exact hau3.op)
  clear hat3 hau3
  have HQvt : Hid ((Op.equalIn 10000 49 (.agg Cvt.toArray) (.agg Dvt.toArray)).run Tryz.prog w3 = .ok (vt.eqB vt') w3) := Lib.hid (by rw [HCvt.out, HDvt.out]; exact eql_Wvt vt vt' HLX.out.vt HLY.out.vt w3)
  have HQen : Hid ((Op.equalIn 10000 51 (.agg Cen.toArray) (.agg Den.toArray)).run Tryz.prog w3 = .ok (en.eqB en') w3) := Lib.hid (by rw [HCen.out, HDen.out]; exact eql_Wen en en' HLX.out.en HLY.out.en w3)
  obtain ⟨bv, hbv⟩ : ∃ bv, bv = vt.eqB vt' := ⟨_, rfl⟩
  rw [← hbv] at HQvt
  have HBV : Hid (bv = true ↔ vt = vt') := Lib.hid (by rw [hbv]; exact Wvt.eqB_iff _ _)
  clear hbv
  obtain ⟨bn, hbn⟩ : ∃ bn, bn = en.eqB en' := ⟨_, rfl⟩
  rw [← hbn] at HQen
  have HBN : Hid (bn = true ↔ en = en') := Lib.hid (by rw [hbn]; exact Wen.eqB_iff _ _)
  clear hbn
  cases bv
  case false =>
    iterate 16 (first
        | (show wpList _ _ _ _ _ _; refine wpList_midg (by kernel_rfl) 49 _ rfl w.heap.size 174 rfl Cvt HRvt3.out (row_vtk.of HLvt.out) ?_)
        | (show wpList _ _ _ _ _ _; refine wpList_midg (by kernel_rfl) 49 _ rfl (w.heap.size + 1) 174 rfl Dvt HSvt3.out (row_vtk.of HMvt.out) ?_)
        | (show wpList _ _ _ _ _ _; refine wpList_midg (by kernel_rfl) 51 _ rfl w.heap.size 213 rfl Cen HRen3.out (row_ent.of HLen.out) ?_)
        | (show wpList _ _ _ _ _ _; refine wpList_midg (by kernel_rfl) 51 _ rfl (w.heap.size + 1) 213 rfl Den HSen3.out (row_ent.of HMen.out) ?_)
        | (show wpList _ _ _ _ _ _; refine wpList_midg (by kernel_rfl) 54 _ rfl w.heap.size 248 rfl Cop HRop3.out (row_opS.of HLop.out) ?_)
        | (show wpList _ _ _ _ _ _; refine wpList_midg (by kernel_rfl) 54 _ rfl (w.heap.size + 1) 248 rfl Dop HSop3.out (row_opS.of HMop.out) ?_)
        | (show wpList _ _ _ _ _ _; refine wpList_eqlg (by kernel_rfl) 49 _ _ _ rfl Cvt.toArray Dvt.toArray rfl rfl false (by kernel_rfl) HQvt.out ?_)
        | (show wpList _ _ _ _ _ _; refine wpList_eqlg (by kernel_rfl) 51 _ _ _ rfl Cen.toArray Den.toArray rfl rfl bn (by kernel_rfl) HQen.out ?_)
        | go_values
        | go_skip
        | go_guarded
        | go_step
        | go_upon
        | go_back)
    refine wpList_false 94 4 _ (by kernel_rfl) rfl rfl (by kernel_rfl) ?_
    intro T hT
    go_wp2
    go_ret
    rw [hT]
    exact KmPost.f (by have h := HBV.out; simp at h; simp [h]) HF3.out
  by_cases hi : i = i'
  case neg =>
    have gi : ((i : Int) == (i' : Int)) = false := by simp; omega
    iterate 30 (first
        | (show wpList _ _ _ _ _ _; refine wpList_midg (by kernel_rfl) 49 _ rfl w.heap.size 174 rfl Cvt HRvt3.out (row_vtk.of HLvt.out) ?_)
        | (show wpList _ _ _ _ _ _; refine wpList_midg (by kernel_rfl) 49 _ rfl (w.heap.size + 1) 174 rfl Dvt HSvt3.out (row_vtk.of HMvt.out) ?_)
        | (show wpList _ _ _ _ _ _; refine wpList_midg (by kernel_rfl) 51 _ rfl w.heap.size 213 rfl Cen HRen3.out (row_ent.of HLen.out) ?_)
        | (show wpList _ _ _ _ _ _; refine wpList_midg (by kernel_rfl) 51 _ rfl (w.heap.size + 1) 213 rfl Den HSen3.out (row_ent.of HMen.out) ?_)
        | (show wpList _ _ _ _ _ _; refine wpList_midg (by kernel_rfl) 54 _ rfl w.heap.size 248 rfl Cop HRop3.out (row_opS.of HLop.out) ?_)
        | (show wpList _ _ _ _ _ _; refine wpList_midg (by kernel_rfl) 54 _ rfl (w.heap.size + 1) 248 rfl Dop HSop3.out (row_opS.of HMop.out) ?_)
        | (show wpList _ _ _ _ _ _; refine wpList_eqlg (by kernel_rfl) 49 _ _ _ rfl Cvt.toArray Dvt.toArray rfl rfl true (by kernel_rfl) HQvt.out ?_)
        | (show wpList _ _ _ _ _ _; refine wpList_eqlg (by kernel_rfl) 51 _ _ _ rfl Cen.toArray Den.toArray rfl rfl bn (by kernel_rfl) HQen.out ?_)
        | go_values
        | go_skip
        | go_guarded
        | go_step
        | go_upon
        | go_back)
    refine wpList_false 101 4 _ (by kernel_rfl) rfl rfl (by kernel_rfl) ?_
    intro T hT
    go_wp2
    go_ret
    rw [hT]
    exact KmPost.f (by simp [hi]) HF3.out
  have gi : ((i : Int) == (i' : Int)) = true := by simp; omega
  cases bn
  case false =>
    iterate 41 (first
        | (show wpList _ _ _ _ _ _; refine wpList_midg (by kernel_rfl) 49 _ rfl w.heap.size 174 rfl Cvt HRvt3.out (row_vtk.of HLvt.out) ?_)
        | (show wpList _ _ _ _ _ _; refine wpList_midg (by kernel_rfl) 49 _ rfl (w.heap.size + 1) 174 rfl Dvt HSvt3.out (row_vtk.of HMvt.out) ?_)
        | (show wpList _ _ _ _ _ _; refine wpList_midg (by kernel_rfl) 51 _ rfl w.heap.size 213 rfl Cen HRen3.out (row_ent.of HLen.out) ?_)
        | (show wpList _ _ _ _ _ _; refine wpList_midg (by kernel_rfl) 51 _ rfl (w.heap.size + 1) 213 rfl Den HSen3.out (row_ent.of HMen.out) ?_)
        | (show wpList _ _ _ _ _ _; refine wpList_midg (by kernel_rfl) 54 _ rfl w.heap.size 248 rfl Cop HRop3.out (row_opS.of HLop.out) ?_)
        | (show wpList _ _ _ _ _ _; refine wpList_midg (by kernel_rfl) 54 _ rfl (w.heap.size + 1) 248 rfl Dop HSop3.out (row_opS.of HMop.out) ?_)
        | (show wpList _ _ _ _ _ _; refine wpList_eqlg (by kernel_rfl) 49 _ _ _ rfl Cvt.toArray Dvt.toArray rfl rfl true (by kernel_rfl) HQvt.out ?_)
        | (show wpList _ _ _ _ _ _; refine wpList_eqlg (by kernel_rfl) 51 _ _ _ rfl Cen.toArray Den.toArray rfl rfl false (by kernel_rfl) HQen.out ?_)
        | go_values
        | go_skip
        | go_guarded
        | go_step
        | go_upon
        | go_back)
    refine wpList_false 108 4 _ (by kernel_rfl) rfl rfl (by kernel_rfl) ?_
    intro T hT
    go_wp2
    go_ret
    rw [hT]
    exact KmPost.f (by have h := HBN.out; simp at h; simp [h]) HF3.out
  repeat (first
      | (show wpList _ _ _ _ _ _; refine wpList_midg (by kernel_rfl) 49 _ rfl w.heap.size 174 rfl Cvt HRvt3.out (row_vtk.of HLvt.out) ?_)
      | (show wpList _ _ _ _ _ _; refine wpList_midg (by kernel_rfl) 49 _ rfl (w.heap.size + 1) 174 rfl Dvt HSvt3.out (row_vtk.of HMvt.out) ?_)
      | (show wpList _ _ _ _ _ _; refine wpList_midg (by kernel_rfl) 51 _ rfl w.heap.size 213 rfl Cen HRen3.out (row_ent.of HLen.out) ?_)
      | (show wpList _ _ _ _ _ _; refine wpList_midg (by kernel_rfl) 51 _ rfl (w.heap.size + 1) 213 rfl Den HSen3.out (row_ent.of HMen.out) ?_)
      | (show wpList _ _ _ _ _ _; refine wpList_midg (by kernel_rfl) 54 _ rfl w.heap.size 248 rfl Cop HRop3.out (row_opS.of HLop.out) ?_)
      | (show wpList _ _ _ _ _ _; refine wpList_midg (by kernel_rfl) 54 _ rfl (w.heap.size + 1) 248 rfl Dop HSop3.out (row_opS.of HMop.out) ?_)
      | (show wpList _ _ _ _ _ _; refine wpList_eqlg (by kernel_rfl) 49 _ _ _ rfl Cvt.toArray Dvt.toArray rfl rfl true (by kernel_rfl) HQvt.out ?_)
      | (show wpList _ _ _ _ _ _; refine wpList_eqlg (by kernel_rfl) 51 _ _ _ rfl Cen.toArray Den.toArray rfl rfl true (by kernel_rfl) HQen.out ?_)
      | go_values
      | go_skip
      | go_guarded
      | go_step
      | go_upon
      | go_back)
  refine (opening_eq op op' w3 (HX.out.op.keep HF3.out (by simp)) (HY.out.op.keep HF3.out (by simp)) HOP.out _ _ HCop.out.symm HDop.out.symm).mono ?_
  rintro e_ w4 ⟨rfl, hf4⟩
  have HF4 : Hid (Fr [] w w4) := Lib.hid (HF3.out.and hf4 (by simp))
  have HB04 := Lib.hid (HB03.out.keep hf4 (by simp))
  have HB14 := Lib.hid (HB13.out.keep hf4 (by simp))
  clear hf4 ci3 di3 gi HRvt3 HSvt3 HRen3 HSen3 HRop3 HSop3 HQvt HQen
  go_simp
  have hvt := HBV.out.1 rfl
  have hen := HBN.out.1 rfl
  obtain ⟨ze, zr, zk, zA, zn, zd, zl⟩ := de
  obtain ⟨ze', zr', zk', zA', zn', zd', zl'⟩ := de'
  have hde := HDE.out
  unfold Wdc.con at hde
  simp only [Cdc.mk.injEq] at hde
  obtain ⟨rfl, rfl, hzk, rfl⟩ := hde
  have hzn : zn' = zn := HY.out.de.l.1.symm.trans HX.out.de.l.1
  subst hzn
  have HZK := Lib.hid hzk
  have HALL : Hid (f = f' ∧ t = t' ∧ e = e' ∧ r = r' ∧ tm = tm' ∧ vt = vt' ∧ i = i' ∧ en = en') := Lib.hid ⟨hf, ht, he, hr, htm, hvt, hi, hen⟩
  clear hzk hf ht he hr htm hvt hi hen
  have hat4 := Wmg.at_len HB04.out.range HLX.out
  have hau4 := Wmg.at_len HB14.out.range HLY.out
  have HRdn4 : Hid (w4.rangeAt w.heap.size 282 Cdn) := Lib.hid (by rw [HCdn.out]; exact hat4.dn)
  have HSdn4 : Hid (w4.rangeAt (w.heap.size + 1) 282 Cdn) := Lib.hid (by rw [HCdn.out]; exact hau4.dn)
  have crp4 : w4.cell? ⟨w.heap.size, 286, none⟩ = some (.string ⟨rp.toArray⟩) := by have h := hat4.rp 0 _ rfl; simpa using h
  have drp4 : w4.cell? ⟨w.heap.size + 1, 286, none⟩ = some (.string ⟨rp.toArray⟩) := by have h := hau4.rp 0 _ rfl; simpa using h
  obtain ⟨z0, z1, z2, z3⟩ := Wdc.at_k hat4.de
  obtain ⟨y0, y1, y2, y3⟩ := Wdc.at_k hau4.de
  simp only [Nat.reduceAdd] at z1 z2 z3 y1 y2 y3
  have HZ2 := Lib.hid z2
  have HY2 := Lib.hid y2
  have HZ3 := Lib.hid z3
  have HY3 := Lib.hid y3
  clear z2 z3 y2 y3
  have HQdn : Hid ((Op.equalIn 10000 56 (.agg Cdn.toArray) (.agg Cdn.toArray)).run Tryz.prog w4 = .ok true w4) := Lib.hid (by rw [HCdn.out]; have h := eql_Wdn dn dn w4; rw [(Wdn.eqB_iff dn dn).2 rfl] at h; exact h)
  have gze : (ze == ze) = true := by simp
  have gzr : (zr == zr) = true := by simp
  obtain ⟨RP, hRP⟩ : ∃ RP : ByteArray, RP = ⟨rp.toArray⟩ := ⟨_, rfl⟩
  rw [← hRP] at crp4 drp4
  clear hat4 hau4 hRP
  repeat (first
      | (show wpList _ _ _ _ _ _; refine wpList_midg (by kernel_rfl) 56 _ rfl w.heap.size 282 rfl Cdn HRdn4.out (row_dnS.of HLdn.out) ?_)
      | (show wpList _ _ _ _ _ _; refine wpList_midg (by kernel_rfl) 56 _ rfl (w.heap.size + 1) 282 rfl Cdn HSdn4.out (row_dnS.of HLdn.out) ?_)
      | (show wpList _ _ _ _ _ _; refine wpList_eqlg (by kernel_rfl) 56 _ _ _ rfl Cdn.toArray Cdn.toArray rfl rfl true (by kernel_rfl) HQdn.out ?_)
      | (show wpList _ _ _ _ _ _; refine wpList_midg (by kernel_rfl) 45 _ rfl w.heap.size 289 rfl zk.cells HZ2.out row_bak ?_)
      | (show wpList _ _ _ _ _ _; refine wpList_midg (by kernel_rfl) 45 _ rfl (w.heap.size + 1) 289 rfl zk'.cells HY2.out row_bak ?_)
      | go_values
      | go_skip
      | go_guarded
      | go_step
      | go_upon
      | go_back)
  refine (batch_eq zk zk' w4 (HX.out.de.k.keep HF4.out (by simp)) (HY.out.de.k.keep HF4.out (by simp)) HZK.out _ _ rfl rfl).mono ?_
  rintro e_ w5 ⟨rfl, hf5⟩
  have HF5 : Hid (Fr [] w w5) := Lib.hid (HF4.out.and hf5 (by simp))
  have HB05 := Lib.hid (HB04.out.keep hf5 (by simp))
  have HB15 := Lib.hid (HB14.out.keep hf5 (by simp))
  have z3 := hf5.cell HZ3.out (by simp)
  have y3 := hf5.cell HY3.out (by simp)
  clear hf5 HRdn4 HSdn4 crp4 drp4 z0 z1 y0 y1 HQdn gze gzr
  go_simp
  go_wp2_with fail
  refine (votes_eq zA zA' zn' zd zd' zl zl w5 (HX.out.de.l.keep' HF5.out (by simp) (fun _ _ h => h)) (HY.out.de.l.keep' HF5.out (by simp) (fun _ _ h => h)) rfl (by have h1 : zn' ≤ 100 := HX.out.de.n; omega)).mono ?_
  rintro e_ w6 ⟨rfl, hf6⟩
  have HF6 : Hid (Fr [] w w6) := Lib.hid (HF5.out.and hf6 (by simp))
  clear hf6 z3 y3
  go_wp2_with fail
  go_ret
  exact KmPost.t HALL.out HF6.out
end Go.Proofs.YtnpjihdhpoddgaaGreat

namespace Go.Proofs.YtnpjihdhpoddgaaGreat
open Go.RowKit
set_option maxRecDepth 100000
section
variable {P : Program} (w : World)
/-- a list behind a list of the call's own -/
theorem run_append_ownm {α : Type} {cells : α → List Value} {ok : World → α → Prop} (hone : ∀ v, ∀ u ∈ cells v, u.oneCell' = true) (t ty e : TypeId) (k bytes : Nat) (ht : P.underlying t = some (.slice e)) (he : ElTy P e k bytes) (hk : 0 < k) (hby : bytes ≤ 1000)
    (V : Option Addr) (n c0 : Nat) (xs : List α) (hown : w.ownsRow 0 e k (.slice V n c0) n (xs.flatMap cells)) (A : Option Addr) (m c : Nat) (l : List α) (hr : Lst k cells ok w A m l) (hm : n + m ≤ 1000000) :
    ∃ A' c' w', (Builtin.append_ #[t, t] ty #[.slice V n c0, .slice A m c]).run P w = .ok (.slice A' (n + m) c') w' ∧ w'.ownsRow 0 e k (.slice A' (n + m) c') (n + m) ((xs ++ l).flatMap cells) ∧ Fr (bk V) w w' ∧ ∀ x ∈ bk A', x ∈ bk V ∨ w.heap.size ≤ x := by
  obtain ⟨i, z, hi, hz, hzs, hsz, hbs⟩ := he
  rw [List.flatMap_append]
  suffices h : ∃ v' w', (Builtin.append_ #[t, t] ty #[.slice V n c0, .slice A m c]).run P w = .ok v' w' ∧ w'.ownsRow 0 e k v' (n + m) (xs.flatMap cells ++ l.flatMap cells) ∧ w.grownBy w' (Value.slice V n c0).ownBlock ∧ (v'.ownBlock = (Value.slice V n c0).ownBlock ∨ v'.ownBlock = some w.heap.size) by
    obtain ⟨v', w', h1, h2, h3, h4⟩ := h
    obtain ⟨A', c', rfl⟩ := own_form h2
    refine ⟨A', c', w', h1, h2, (Fr.refl _ w).grown h3 (fun y hy _ => by rw [← bk_own V n c0, hy]; simp), fun x hx => ?_⟩
    rw [← bk_own A' (n + m) c'] at hx
    rcases h4 with h4 | h4
    · rw [h4, bk_own V n c0] at hx; exact .inl hx
    · rw [h4] at hx; simp at hx; exact .inr (by omega)
  rcases A with _ | ad
  · have hm0 : m = 0 := by
      rcases Nat.eq_zero_or_pos m with h0 | h0
      · exact h0
      · obtain ⟨ad, h, _⟩ := hr.2.2 h0
        cases h
    subst hm0
    have hn : l = [] := List.eq_nil_of_length_eq_zero hr.1
    subst hn
    exact ⟨_, w, run_append_nothing w 0 t ty e i k ht hi _ n _ hown c, by simpa using hown, World.grownBy.refl w _, .inl rfl⟩
  · obtain ⟨v', w', hrun, h2, h3, _, h5⟩ := run_append_own_at (P := P) w 0 t ty e i z k bytes ht hi hz hsz hbs hzs hk _ n _ hown ad m c (l.flatMap cells)
      (by rw [cells_flat_len (fun v hv => (hr.2.1 v hv).1), hr.1]) (hr.flat hk) (cells_one hone l) (by simp only [maxLen]; omega)
      (Nat.le_trans (Nat.mul_le_mul hm hby) (by decide)) (Nat.zero_le _)
    exact ⟨v', w', hrun, h2, h3, h5⟩
theorem wp_append_ownm {α : Type} {cells : α → List Value} {ok : World → α → Prop} {o : Oper} {a : Act} {K : Act → World → Prop} {Q : Exit → Act → World → Prop} (s x : Operand) (t : TypeId)
    (ho : o.op = .call { callee := .builtin .append, args := #[s, x], argTypes := #[t, t] }) (e : TypeId) (k bytes : Nat) (ht : P.underlying t = some (.slice e)) (he : ElTy P e k bytes) (hk : 0 < k) (hby : bytes ≤ 1000)
    (hone : ∀ v, ∀ u ∈ cells v, u.oneCell' = true) (V : Option Addr) (n c0 : Nat) (xs : List α) (hs : a.eval s = .slice V n c0) (hown : w.ownsRow 0 e k (.slice V n c0) n (xs.flatMap cells)) (A : Option Addr) (m c : Nat) (l : List α) (hx : a.eval x = .slice A m c) (hr : Lst k cells ok w A m l) (hm : n + m ≤ 1000000)
    (h : ∀ A' c' w', w'.ownsRow 0 e k (.slice A' (n + m) c') (n + m) ((xs ++ l).flatMap cells) → Fr (bk V) w w' → (∀ x ∈ bk A', x ∈ bk V ∨ w.heap.size ≤ x) → K (a.put o.dst (.slice A' (n + m) c')) w') : Oper.wp P o a w K Q := by
  obtain ⟨A', c', w', hrun, h2, h3, h4⟩ := run_append_ownm (P := P) w hone t o.type e k bytes ht he hk hby V n c0 xs hown A m c l hr hm
  unfold Oper.wp execOp
  simp only [ho, resolve, invoke, builtin, Sem.run_bind, Sem.run_pure, Result.andThen_ok, List.map_toArray, List.map_cons, List.map_nil, hs, hx, hrun]
  exact h A' c' w' h2 h3 h4
theorem wpList_append_ownm {α : Type} {cells : α → List Value} {ok : World → α → Prop} {ops : Array Oper} {rest : List Oper} {o : Oper} {a : Act} {Q : Exit → Act → World → Prop} (hgd : o.guard = none) (s x : Operand) (t : TypeId)
    (ho : o.op = .call { callee := .builtin .append, args := #[s, x], argTypes := #[t, t] }) (e : TypeId) (k bytes : Nat) (ht : P.underlying t = some (.slice e)) (he : ElTy P e k bytes) (hk : 0 < k) (hby : bytes ≤ 1000)
    (hone : ∀ v, ∀ u ∈ cells v, u.oneCell' = true) (V : Option Addr) (n c0 : Nat) (xs : List α) (hs : a.eval s = .slice V n c0) (hown : w.ownsRow 0 e k (.slice V n c0) n (xs.flatMap cells)) (A : Option Addr) (m c : Nat) (l : List α) (hx : a.eval x = .slice A m c) (hr : Lst k cells ok w A m l) (hm : n + m ≤ 1000000)
    (h : ∀ A' c' w', w'.ownsRow 0 e k (.slice A' (n + m) c') (n + m) ((xs ++ l).flatMap cells) → Fr (bk V) w w' → (∀ x ∈ bk A', x ∈ bk V ∨ w.heap.size ≤ x) → wpList P ops Q rest (a.put o.dst (.slice A' (n + m) c')) w') : wpList P ops Q (o :: rest) a w := by
  refine wpList_plain hgd fun K hK => ?_
  obtain ⟨A', c', w', hrun, h2, h3, h4⟩ := run_append_ownm (P := P) w hone t o.type e k bytes ht he hk hby V n c0 xs hown A m c l hr hm
  unfold Oper.wp execOp
  simp only [ho, resolve, invoke, builtin, Sem.run_bind, Sem.run_pure, Result.andThen_ok, List.map_toArray, List.map_cons, List.map_nil, hs, hx, hrun]
  exact hK _ _ (h A' c' w' h2 h3 h4)
end
theorem el_voteC : ElTy Tryz.prog 49 38 80 := ElTy.of (by kernel_rfl)
theorem el_denyC : ElTy Tryz.prog 56 4 32 := ElTy.of (by kernel_rfl)
theorem cloneStamps_any (A : Option Addr) (n c : Nat) (l : List Wst) (w : World) (hr : Lst 38 Wst.cells (fun _ v => v.Ok) w A n l) (hn : n ≤ 1000000) :
    Calls Tryz.prog 78 #[.slice A n c] w fun e w' => ∃ A' c', e = .returned (.slice A' n c') ∧ NewL 32 38 Wst.cells w w' A' n c' l := by
  have HR := Lib.hid hr
  have HN := Lib.hid hn
  rcases A with _ | ad
  · have hn0 : n = 0 := by
      rcases Nat.eq_zero_or_pos n with h | h
      · exact h
      · obtain ⟨a, ha, _⟩ := hr.2.2 h
        cases ha
    subst hn0
    have hl0 : l = [] := List.eq_nil_of_length_eq_zero hr.1
    subst hl0
    clear hr hn
    go_enter Tryz.func78, Tryz.ntmps78
    have hq := fun w => Go.run_eql_slice_nil (P := Tryz.prog) w 33 32 none 0 c Tryz.underlying33
    simp only [Option.isNone_none] at hq
    go_wp2
    go_ret
    exact ⟨none, 0, rfl, ⟨by simp, .inl ⟨rfl, rfl⟩⟩, Fr.refl _ _, by simp [bk]⟩
  · clear hr hn
    go_enter Tryz.func78, Tryz.ntmps78
    have hq := fun w => Go.run_eql_slice_nil (P := Tryz.prog) w 33 32 (some ad) n c Tryz.underlying33
    simp only [Option.isNone_some] at hq
    go_wp2_with (at_builtin; refine Stop.mk ?_)
    refine Stop.go ?_
    have hown : (w.alloc (Obj.cells #[] 32)).ownsRow 0 32 38 (.slice (some ⟨w.heap.size, 0, none⟩) 0 0) 0 (([] : List Wst).flatMap Wst.cells) :=
      ⟨by simp, .inr ⟨w.heap.size, 0, #[], rfl, Nat.zero_le _, Blk.new w _ _, Nat.le_refl _, Nat.zero_le _, rfl, by simp⟩⟩
    refine wpList_append_ownm _ rfl (.tmp 5) (.tmp 6) _ rfl 32 38 80 Tryz.underlying33 el_stamp (by decide) (by decide) Wst.one (some ⟨w.heap.size, 0, none⟩) 0 0 [] rfl hown (some ad) n c l rfl
      (HR.out.keep ((Fr.refl [] w).alloc _) (by simp) (fun _ _ h => h)) (by have := HN.out; omega) ?_
    intro A1 c1 w1 ho hf hb
    rw [Nat.zero_add, List.nil_append] at ho
    have HO : Hid (NewL 32 38 Wst.cells w w1 A1 n c1 l) := Lib.hid ⟨ho, ((Fr.refl [] w).alloc _).and hf (by intro x hx; simp [bk] at hx; omega), fun x hx => by
      rcases hb x hx with h | h
      · simp [bk] at h; omega
      · simp at h; omega⟩
    clear ho hf hb hown
    simp only [Nat.zero_add]
    go_wp2
    go_ret
    exact ⟨A1, c1, rfl, HO.out⟩
theorem cloneVotes_any (A : Option Addr) (n c : Nat) (l : List Wvt) (w : World) (hr : Lst 38 Wvt.cells (fun _ v => v.Ok) w A n l) (hn : n ≤ 1000000) :
    Calls Tryz.prog 82 #[.slice A n c] w fun e w' => ∃ A' c', e = .returned (.slice A' n c') ∧ NewL 49 38 Wvt.cells w w' A' n c' l := by
  have HR := Lib.hid hr
  have HN := Lib.hid hn
  rcases A with _ | ad
  · have hn0 : n = 0 := by
      rcases Nat.eq_zero_or_pos n with h | h
      · exact h
      · obtain ⟨a, ha, _⟩ := hr.2.2 h
        cases ha
    subst hn0
    have hl0 : l = [] := List.eq_nil_of_length_eq_zero hr.1
    subst hl0
    clear hr hn
    go_enter Tryz.func82, Tryz.ntmps82
    have hq := fun w => Go.run_eql_slice_nil (P := Tryz.prog) w 57 49 none 0 c Tryz.underlying57
    simp only [Option.isNone_none] at hq
    go_wp2
    go_ret
    exact ⟨none, 0, rfl, ⟨by simp, .inl ⟨rfl, rfl⟩⟩, Fr.refl _ _, by simp [bk]⟩
  · clear hr hn
    go_enter Tryz.func82, Tryz.ntmps82
    have hq := fun w => Go.run_eql_slice_nil (P := Tryz.prog) w 57 49 (some ad) n c Tryz.underlying57
    simp only [Option.isNone_some] at hq
    go_wp2_with (at_builtin; refine Stop.mk ?_)
    refine Stop.go ?_
    have hown : (w.alloc (Obj.cells #[] 49)).ownsRow 0 49 38 (.slice (some ⟨w.heap.size, 0, none⟩) 0 0) 0 (([] : List Wvt).flatMap Wvt.cells) :=
      ⟨by simp, .inr ⟨w.heap.size, 0, #[], rfl, Nat.zero_le _, Blk.new w _ _, Nat.le_refl _, Nat.zero_le _, rfl, by simp⟩⟩
    refine wpList_append_ownm _ rfl (.tmp 5) (.tmp 6) _ rfl 49 38 80 Tryz.underlying57 el_voteC (by decide) (by decide) Wvt.one (some ⟨w.heap.size, 0, none⟩) 0 0 [] rfl hown (some ad) n c l rfl
      (HR.out.keep ((Fr.refl [] w).alloc _) (by simp) (fun _ _ h => h)) (by have := HN.out; omega) ?_
    intro A1 c1 w1 ho hf hb
    rw [Nat.zero_add, List.nil_append] at ho
    have HO : Hid (NewL 49 38 Wvt.cells w w1 A1 n c1 l) := Lib.hid ⟨ho, ((Fr.refl [] w).alloc _).and hf (by intro x hx; simp [bk] at hx; omega), fun x hx => by
      rcases hb x hx with h | h
      · simp [bk] at h; omega
      · simp at h; omega⟩
    clear ho hf hb hown
    simp only [Nat.zero_add]
    go_wp2
    go_ret
    exact ⟨A1, c1, rfl, HO.out⟩
theorem cloneDenies_any (A : Option Addr) (n c : Nat) (l : List Wdn) (w : World) (hr : Lst 4 Wdn.cells (fun _ v => v.Ok) w A n l) (hn : n ≤ 1000000) :
    Calls Tryz.prog 146 #[.slice A n c] w fun e w' => ∃ A' c', e = .returned (.slice A' n c') ∧ NewL 56 4 Wdn.cells w w' A' n c' l := by
  have HR := Lib.hid hr
  have HN := Lib.hid hn
  rcases A with _ | ad
  · have hn0 : n = 0 := by
      rcases Nat.eq_zero_or_pos n with h | h
      · exact h
      · obtain ⟨a, ha, _⟩ := hr.2.2 h
        cases ha
    subst hn0
    have hl0 : l = [] := List.eq_nil_of_length_eq_zero hr.1
    subst hl0
    clear hr hn
    go_enter Tryz.func146, Tryz.ntmps146
    have hq := fun w => Go.run_eql_slice_nil (P := Tryz.prog) w 131 56 none 0 c Tryz.underlying131
    simp only [Option.isNone_none] at hq
    go_wp2
    go_ret
    exact ⟨none, 0, rfl, ⟨by simp, .inl ⟨rfl, rfl⟩⟩, Fr.refl _ _, by simp [bk]⟩
  · clear hr hn
    go_enter Tryz.func146, Tryz.ntmps146
    have hq := fun w => Go.run_eql_slice_nil (P := Tryz.prog) w 131 56 (some ad) n c Tryz.underlying131
    simp only [Option.isNone_some] at hq
    go_wp2_with (at_builtin; refine Stop.mk ?_)
    refine Stop.go ?_
    have hown : (w.alloc (Obj.cells #[] 56)).ownsRow 0 56 4 (.slice (some ⟨w.heap.size, 0, none⟩) 0 0) 0 (([] : List Wdn).flatMap Wdn.cells) :=
      ⟨by simp, .inr ⟨w.heap.size, 0, #[], rfl, Nat.zero_le _, Blk.new w _ _, Nat.le_refl _, Nat.zero_le _, rfl, by simp⟩⟩
    refine wpList_append_ownm _ rfl (.tmp 5) (.tmp 6) _ rfl 56 4 32 Tryz.underlying131 el_denyC (by decide) (by decide) Wdn.one (some ⟨w.heap.size, 0, none⟩) 0 0 [] rfl hown (some ad) n c l rfl
      (HR.out.keep ((Fr.refl [] w).alloc _) (by simp) (fun _ _ h => h)) (by have := HN.out; omega) ?_
    intro A1 c1 w1 ho hf hb
    rw [Nat.zero_add, List.nil_append] at ho
    have HO : Hid (NewL 56 4 Wdn.cells w w1 A1 n c1 l) := Lib.hid ⟨ho, ((Fr.refl [] w).alloc _).and hf (by intro x hx; simp [bk] at hx; omega), fun x hx => by
      rcases hb x hx with h | h
      · simp [bk] at h; omega
      · simp at h; omega⟩
    clear ho hf hb hown
    simp only [Nat.zero_add]
    go_wp2
    go_ret
    exact ⟨A1, c1, rfl, HO.out⟩
/-- what a copy of one part does -/
def Copies {α β : Type} (f : FuncId) (cells : α → List Value) (ok : World → List Nat → α → Prop) (con : α → β) : Prop :=
  ∀ (v : α) (w : World), ok w [] v → Calls Tryz.prog f #[.agg (cells v).toArray] w fun e w' => ∃ y : α, e = .returned (.agg (cells y).toArray) ∧ con y = con v ∧ (∀ S0 : List Nat, (∀ q ∈ S0, q < w.heap.size) → ok w' S0 y) ∧ Fr [] w w'

def copyTomb_anyZ : Array Value := ((⟨0, none, 0, 0, []⟩ : Wtb)).cells.toArray
set_option maxHeartbeats 2000000 in
theorem copyTomb_any : Copies 122 Wtb.cells (fun w S v => v.Ok w S) Wtb.con := by
  intro x w hx
  obtain ⟨C, hC⟩ : ∃ C, x.cells = C := ⟨_, rfl⟩
  rw [hC]
  have hcl : C.length = 2 := by rw [← hC]; exact rfl
  obtain ⟨wa, hwa⟩ : ∃ wa, wa = (w.alloc (Obj.cells C.toArray 133)).alloc (Obj.cells copyTomb_anyZ 133) := ⟨_, rfl⟩
  have hf0 : Fr [] w wa := by rw [hwa]; exact ((Fr.refl [] w).alloc _).alloc _
  have hb0 : Blk wa w.heap.size 133 C.toArray := by rw [hwa]; exact blk_alloc (Blk.new _ _ _)
  have hb1 : Blk wa (w.heap.size + 1) 133 copyTomb_anyZ := by
    have := Blk.new (w.alloc (Obj.cells C.toArray 133)) 133 copyTomb_anyZ
    rw [hwa]
    simpa using this
  have hc1 : wa.cell? ⟨w.heap.size, 1, none⟩ = some (.slice x.A x.n x.d) := by
    have h := hb0.range (cs := C) 1 (.slice x.A x.n x.d) (by rw [← hC]; rfl)
    simpa using h
  have HX := Lib.hid hx
  have HC := Lib.hid hC
  have HCL := Lib.hid hcl
  have HB0 := Lib.hid hb0
  have HB1 := Lib.hid hb1
  have HF0 := Lib.hid hf0
  have HWA := Lib.hid hwa
  have HS2 : Hid (wa.heap.size = w.heap.size + 2) := Lib.hid (by rw [hwa]; simp)
  have HSV : Hid ((Tryz.prog.info? 131).map (·.size) = some 1) := Lib.hid (by kernel_rfl)
  clear hx hC hcl hb0 hb1 hf0 hwa
  go_enter Tryz.func122, Tryz.ntmps122
  go_upto_region 1 with (fail)
  change Code.wp _ _ _ _ ((w.alloc (Obj.cells C.toArray 133)).alloc (Obj.cells copyTomb_anyZ 133))
  rw [← HWA.out]
  go_wp2_with fail
  refine (cloneDenies_any x.A x.n x.d x.l wa (HX.out.l.keep' HF0.out (by simp) (fun _ _ h => h)) (by have := HX.out.n; omega)).mono ?_
  rintro e_ w1 ⟨A1, c1, rfl, hN⟩
  obtain ⟨n1, hn1⟩ : ∃ n1, n1 = x.n := ⟨_, rfl⟩
  rw [← hn1] at hN ⊢
  have HNE := Lib.hid hn1
  have HO1 := Lib.hid hN.1
  have HF1 : Hid (Fr [] wa w1) := Lib.hid hN.2.1
  have HN1 : Hid (∀ k ∈ bk A1, wa.heap.size ≤ k) := Lib.hid hN.2.2
  clear hN hn1
  have HB0 := Lib.hid (HB0.out.keep HF1.out (by simp))
  have HB1 := Lib.hid (HB1.out.keep HF1.out (by simp))
  clear hc1
  have HCE : Hid (C.set 1 (.slice A1 n1 c1) = (⟨x.i, A1, n1, c1, x.l⟩ : Wtb).cells) := Lib.hid (by rw [← HC.out]; rfl)
  have hb2 : Blk (w1.setCells w.heap.size 1 [.slice A1 n1 c1]) w.heap.size 133 (⟨x.i, A1, n1, c1, x.l⟩ : Wtb).cells.toArray := by
    have h := HB0.out.set 1 (.slice A1 n1 c1)
    rw [← HCE.out]
    simpa [World.setCells] using h
  have hfs : Fr [w.heap.size] w1 (w1.setCells w.heap.size 1 [.slice A1 n1 c1]) := Fr.setCells (fun _ => by simp) _ 1 _ (Fr.refl _ _)
  have HFS := Lib.hid hfs
  have HB2 := Lib.hid hb2
  clear hfs hb2
  go_upto_region 2 with (refine wpList_store_at rfl 131 _ _ rfl w.heap.size 1 (.slice A1 n1 c1) rfl rfl rfl 133 _ HB0.out (by rw [List.size_toArray, HCL.out]; decide) HSV.out ?_)
  change Code.wp _ _ _ _ (w1.setCells w.heap.size 1 [.slice A1 n1 c1])
  generalize w1.setCells w.heap.size 1 [.slice A1 n1 c1] = w2 at *
  have HB1 := Lib.hid (HB1.out.keep HFS.out (by simp))
  obtain ⟨E, hE⟩ : ∃ E, E = (⟨x.i, A1, n1, c1, x.l⟩ : Wtb).cells := ⟨_, rfl⟩
  have HEL : Hid (E.length = 2) := Lib.hid (by rw [hE]; exact rfl)
  have HEO : Hid (E.toArray.all (·.oneCell') = true) := Lib.hid (by rw [hE]; exact all_oneCell_toArray (Wtb.one _))
  have HES : Hid ((Tryz.prog.info? 133).map (·.size) = some E.toArray.size) := Lib.hid (by rw [List.size_toArray, HEL.out]; kernel_rfl)
  have HEM : Hid (copyTomb_anyZ.size = E.toArray.size) := Lib.hid (by rw [show E.toArray.size = E.length from List.size_toArray, HEL.out]; rfl)
  have HER : Hid (w2.rangeAt w.heap.size 0 E) := Lib.hid (by rw [hE]; exact HB2.out.range)
  go_wp2_with (first | (refine wpList_load_mid rfl 133 _ rfl w.heap.size 0 rfl E _ HER.out Tryz.underlying133 rfl (row_tmb.of HEL.out).2 ?_) | (refine wpList_store_blk rfl 133 _ _ rfl (w.heap.size + 1) E.toArray rfl rfl 133 copyTomb_anyZ HB1.out HES.out HEM.out HEO.out ?_; intro w9 hb9 hf9))
  refine bodyPost_ret (v := .agg E.toArray) (results_cell_row Tryz.results122 _ _ (w.heap.size + 1) 133 E.toArray _ _ rfl hb9 Tryz.underlying133 rfl HES.out) rfl ?_
  have HS9 : Fr [w.heap.size, w.heap.size + 1] w1 w9 := (HFS.out.mono (by intro k hk _; simp at hk; simp [hk])).trans hf9 (fun k hk _ => by simp at hk; simp [hk])
  refine ⟨⟨x.i, A1, n1, c1, x.l⟩, by rw [hE], rfl, fun S0 h0 => ?_, (HF0.out.and HF1.out (by simp)).go HS9 (by simp)⟩
  have hm : Fr (w.heap.size :: (w.heap.size + 1) :: S0) w1 w9 := HS9.mono (by intro k hk _; simp at hk; rcases hk with rfl | rfl <;> simp)
  have hnk : ∀ k ∈ bk A1, w.heap.size + 2 ≤ k := fun k hk => by have h1 := HN1.out k hk; have h2 := HS2.out; omega
  have hll : x.l.length = n1 := by rw [HNE.out]; exact HX.out.l.1
  exact ⟨HX.out.i, (Lst.of_own (ok := fun (_ : World) (v : Wdn) => v.Ok) HO1.out hll (fun u hu => HX.out.l.2.1 u hu)).keep' HS9 (fun hp a ha hm => by have h1 := hnk a.block (by rw [ha]; simp [bk]); simp at hm; omega) (fun _ _ h => h), by rw [HNE.out]; exact HX.out.n, fun hp a ha hm => by have ha : A1 = some a := ha; have h1 := hnk a.block (by rw [ha]; simp [bk]); have h2 := h0 _ hm; omega⟩
def copyCert_anyZ : Array Value := ((⟨⟨0, 0, mh0, 0, 0, 0⟩, none, 0, 0, []⟩ : Wce)).cells.toArray
set_option maxHeartbeats 2000000 in
theorem copyCert_any : Copies 26 Wce.cells (fun w S v => v.Ok w S) Wce.con := by
  intro x w hx
  obtain ⟨C, hC⟩ : ∃ C, x.cells = C := ⟨_, rfl⟩
  rw [hC]
  have hcl : C.length = 38 := by rw [← hC]; exact (Wce.len hx.k.h)
  obtain ⟨wa, hwa⟩ : ∃ wa, wa = (w.alloc (Obj.cells C.toArray 35)).alloc (Obj.cells copyCert_anyZ 35) := ⟨_, rfl⟩
  have hf0 : Fr [] w wa := by rw [hwa]; exact ((Fr.refl [] w).alloc _).alloc _
  have hb0 : Blk wa w.heap.size 35 C.toArray := by rw [hwa]; exact blk_alloc (Blk.new _ _ _)
  have hb1 : Blk wa (w.heap.size + 1) 35 copyCert_anyZ := by
    have := Blk.new (w.alloc (Obj.cells C.toArray 35)) 35 copyCert_anyZ
    rw [hwa]
    simpa using this
  have hc1 : wa.cell? ⟨w.heap.size, 37, none⟩ = some (.slice x.A x.n x.d) := by
    have h := hb0.range (cs := C) 37 (.slice x.A x.n x.d) (by rw [← hC]; simp [Wce.cells, Wcm.len hx.k.h])
    simpa using h
  have HX := Lib.hid hx
  have HC := Lib.hid hC
  have HCL := Lib.hid hcl
  have HB0 := Lib.hid hb0
  have HB1 := Lib.hid hb1
  have HF0 := Lib.hid hf0
  have HWA := Lib.hid hwa
  have HS2 : Hid (wa.heap.size = w.heap.size + 2) := Lib.hid (by rw [hwa]; simp)
  have HSV : Hid ((Tryz.prog.info? 33).map (·.size) = some 1) := Lib.hid (by kernel_rfl)
  clear hx hC hcl hb0 hb1 hf0 hwa
  go_enter Tryz.func26, Tryz.ntmps26
  go_upto_region 1 with (fail)
  change Code.wp _ _ _ _ ((w.alloc (Obj.cells C.toArray 35)).alloc (Obj.cells copyCert_anyZ 35))
  rw [← HWA.out]
  go_wp2_with fail
  refine (cloneStamps_any x.A x.n x.d x.l wa (HX.out.l.keep' HF0.out (by simp) (fun _ _ h => h)) (by have := HX.out.n; omega)).mono ?_
  rintro e_ w1 ⟨A1, c1, rfl, hN⟩
  obtain ⟨n1, hn1⟩ : ∃ n1, n1 = x.n := ⟨_, rfl⟩
  rw [← hn1] at hN ⊢
  have HNE := Lib.hid hn1
  have HO1 := Lib.hid hN.1
  have HF1 : Hid (Fr [] wa w1) := Lib.hid hN.2.1
  have HN1 : Hid (∀ k ∈ bk A1, wa.heap.size ≤ k) := Lib.hid hN.2.2
  clear hN hn1
  have HB0 := Lib.hid (HB0.out.keep HF1.out (by simp))
  have HB1 := Lib.hid (HB1.out.keep HF1.out (by simp))
  clear hc1
  have HCE : Hid (C.set 37 (.slice A1 n1 c1) = (⟨x.k, A1, n1, c1, x.l⟩ : Wce).cells) := Lib.hid (by rw [← HC.out]; unfold Wce.cells; rw [List.set_append_right _ _ (by rw [Wcm.len HX.out.k.h]; decide), Wcm.len HX.out.k.h]; rfl)
  have hb2 : Blk (w1.setCells w.heap.size 37 [.slice A1 n1 c1]) w.heap.size 35 (⟨x.k, A1, n1, c1, x.l⟩ : Wce).cells.toArray := by
    have h := HB0.out.set 37 (.slice A1 n1 c1)
    rw [← HCE.out]
    simpa [World.setCells] using h
  have hfs : Fr [w.heap.size] w1 (w1.setCells w.heap.size 37 [.slice A1 n1 c1]) := Fr.setCells (fun _ => by simp) _ 37 _ (Fr.refl _ _)
  have HFS := Lib.hid hfs
  have HB2 := Lib.hid hb2
  clear hfs hb2
  go_upto_region 2 with (refine wpList_store_at rfl 33 _ _ rfl w.heap.size 37 (.slice A1 n1 c1) rfl rfl rfl 35 _ HB0.out (by rw [List.size_toArray, HCL.out]; decide) HSV.out ?_)
  change Code.wp _ _ _ _ (w1.setCells w.heap.size 37 [.slice A1 n1 c1])
  generalize w1.setCells w.heap.size 37 [.slice A1 n1 c1] = w2 at *
  have HB1 := Lib.hid (HB1.out.keep HFS.out (by simp))
  obtain ⟨E, hE⟩ : ∃ E, E = (⟨x.k, A1, n1, c1, x.l⟩ : Wce).cells := ⟨_, rfl⟩
  have HEL : Hid (E.length = 38) := Lib.hid (by rw [hE]; exact (Wce.len HX.out.k.h))
  have HEO : Hid (E.toArray.all (·.oneCell') = true) := Lib.hid (by rw [hE]; exact all_oneCell_toArray (Wce.one _))
  have HES : Hid ((Tryz.prog.info? 35).map (·.size) = some E.toArray.size) := Lib.hid (by rw [List.size_toArray, HEL.out]; kernel_rfl)
  have HEM : Hid (copyCert_anyZ.size = E.toArray.size) := Lib.hid (by rw [show E.toArray.size = E.length from List.size_toArray, HEL.out]; rfl)
  have HER : Hid (w2.rangeAt w.heap.size 0 E) := Lib.hid (by rw [hE]; exact HB2.out.range)
  go_wp2_with (first | (refine wpList_load_mid rfl 35 _ rfl w.heap.size 0 rfl E _ HER.out Tryz.underlying35 rfl (row_crt.of HEL.out).2 ?_) | (refine wpList_store_blk rfl 35 _ _ rfl (w.heap.size + 1) E.toArray rfl rfl 35 copyCert_anyZ HB1.out HES.out HEM.out HEO.out ?_; intro w9 hb9 hf9))
  refine bodyPost_ret (v := .agg E.toArray) (results_cell_row Tryz.results26 _ _ (w.heap.size + 1) 35 E.toArray _ _ rfl hb9 Tryz.underlying35 rfl HES.out) rfl ?_
  have HS9 : Fr [w.heap.size, w.heap.size + 1] w1 w9 := (HFS.out.mono (by intro k hk _; simp at hk; simp [hk])).trans hf9 (fun k hk _ => by simp at hk; simp [hk])
  refine ⟨⟨x.k, A1, n1, c1, x.l⟩, by rw [hE], rfl, fun S0 h0 => ?_, (HF0.out.and HF1.out (by simp)).go HS9 (by simp)⟩
  have hm : Fr (w.heap.size :: (w.heap.size + 1) :: S0) w1 w9 := HS9.mono (by intro k hk _; simp at hk; rcases hk with rfl | rfl <;> simp)
  have hnk : ∀ k ∈ bk A1, w.heap.size + 2 ≤ k := fun k hk => by have h1 := HN1.out k hk; have h2 := HS2.out; omega
  have hll : x.l.length = n1 := by rw [HNE.out]; exact HX.out.l.1
  exact ⟨HX.out.k, (Lst.of_own (ok := fun (_ : World) (v : Wst) => v.Ok) HO1.out hll (fun u hu => HX.out.l.2.1 u hu)).keep' HS9 (fun hp a ha hm => by have h1 := hnk a.block (by rw [ha]; simp [bk]); simp at hm; omega) (fun _ _ h => h), by rw [HNE.out]; exact HX.out.n, fun hp a ha hm => by have ha : A1 = some a := ha; have h1 := hnk a.block (by rw [ha]; simp [bk]); have h2 := h0 _ hm; omega⟩
def copyOpening_anyZ : Array Value := ((⟨0, none, 0, 0, [], mh0⟩ : Wop)).cells.toArray
set_option maxHeartbeats 2000000 in
theorem copyOpening_any : Copies 29 Wop.cells (fun w S v => v.Ok w S) Wop.con := by
  intro x w hx
  obtain ⟨C, hC⟩ : ∃ C, x.cells = C := ⟨_, rfl⟩
  rw [hC]
  have hcl : C.length = 34 := by rw [← hC]; exact (Wop.len hx.h)
  obtain ⟨wa, hwa⟩ : ∃ wa, wa = (w.alloc (Obj.cells C.toArray 54)).alloc (Obj.cells copyOpening_anyZ 54) := ⟨_, rfl⟩
  have hf0 : Fr [] w wa := by rw [hwa]; exact ((Fr.refl [] w).alloc _).alloc _
  have hb0 : Blk wa w.heap.size 54 C.toArray := by rw [hwa]; exact blk_alloc (Blk.new _ _ _)
  have hb1 : Blk wa (w.heap.size + 1) 54 copyOpening_anyZ := by
    have := Blk.new (w.alloc (Obj.cells C.toArray 54)) 54 copyOpening_anyZ
    rw [hwa]
    simpa using this
  have hc1 : wa.cell? ⟨w.heap.size, 1, none⟩ = some (.slice x.A x.n x.d) := by
    have h := hb0.range (cs := C) 1 (.slice x.A x.n x.d) (by rw [← hC]; rfl)
    simpa using h
  have HX := Lib.hid hx
  have HC := Lib.hid hC
  have HCL := Lib.hid hcl
  have HB0 := Lib.hid hb0
  have HB1 := Lib.hid hb1
  have HF0 := Lib.hid hf0
  have HWA := Lib.hid hwa
  have HS2 : Hid (wa.heap.size = w.heap.size + 2) := Lib.hid (by rw [hwa]; simp)
  have HSV : Hid ((Tryz.prog.info? 52).map (·.size) = some 1) := Lib.hid (by kernel_rfl)
  clear hx hC hcl hb0 hb1 hf0 hwa
  go_enter Tryz.func29, Tryz.ntmps29
  go_upto_region 1 with (fail)
  change Code.wp _ _ _ _ ((w.alloc (Obj.cells C.toArray 54)).alloc (Obj.cells copyOpening_anyZ 54))
  rw [← HWA.out]
  go_wp2_with fail
  refine (clone_any x.A x.n x.d x.p wa (HX.out.p.keep HF0.out (by simp)) (by have := HX.out.n; omega)).mono ?_
  rintro e_ w1 ⟨A1, c1, rfl, hN⟩
  obtain ⟨n1, hn1⟩ : ∃ n1, n1 = x.n := ⟨_, rfl⟩
  rw [← hn1] at hN ⊢
  have HNE := Lib.hid hn1
  have HO1 := Lib.hid hN
  have HF1 : Hid (Fr [] wa w1) := Lib.hid hN.2.1
  have HN1 : Hid (∀ k ∈ bk A1, wa.heap.size ≤ k) := Lib.hid hN.2.2
  clear hN hn1
  have HB0 := Lib.hid (HB0.out.keep HF1.out (by simp))
  have HB1 := Lib.hid (HB1.out.keep HF1.out (by simp))
  clear hc1
  have HCE : Hid (C.set 1 (.slice A1 n1 c1) = (⟨x.i, A1, n1, c1, x.p, x.h⟩ : Wop).cells) := Lib.hid (by rw [← HC.out]; rfl)
  have hb2 : Blk (w1.setCells w.heap.size 1 [.slice A1 n1 c1]) w.heap.size 54 (⟨x.i, A1, n1, c1, x.p, x.h⟩ : Wop).cells.toArray := by
    have h := HB0.out.set 1 (.slice A1 n1 c1)
    rw [← HCE.out]
    simpa [World.setCells] using h
  have hfs : Fr [w.heap.size] w1 (w1.setCells w.heap.size 1 [.slice A1 n1 c1]) := Fr.setCells (fun _ => by simp) _ 1 _ (Fr.refl _ _)
  have HFS := Lib.hid hfs
  have HB2 := Lib.hid hb2
  clear hfs hb2
  go_upto_region 2 with (refine wpList_store_at rfl 52 _ _ rfl w.heap.size 1 (.slice A1 n1 c1) rfl rfl rfl 54 _ HB0.out (by rw [List.size_toArray, HCL.out]; decide) HSV.out ?_)
  change Code.wp _ _ _ _ (w1.setCells w.heap.size 1 [.slice A1 n1 c1])
  generalize w1.setCells w.heap.size 1 [.slice A1 n1 c1] = w2 at *
  have HB1 := Lib.hid (HB1.out.keep HFS.out (by simp))
  obtain ⟨E, hE⟩ : ∃ E, E = (⟨x.i, A1, n1, c1, x.p, x.h⟩ : Wop).cells := ⟨_, rfl⟩
  have HEL : Hid (E.length = 34) := Lib.hid (by rw [hE]; exact (Wop.len HX.out.h))
  have HEO : Hid (E.toArray.all (·.oneCell') = true) := Lib.hid (by rw [hE]; exact all_oneCell_toArray (Wop.one _))
  have HES : Hid ((Tryz.prog.info? 54).map (·.size) = some E.toArray.size) := Lib.hid (by rw [List.size_toArray, HEL.out]; kernel_rfl)
  have HEM : Hid (copyOpening_anyZ.size = E.toArray.size) := Lib.hid (by rw [show E.toArray.size = E.length from List.size_toArray, HEL.out]; rfl)
  have HER : Hid (w2.rangeAt w.heap.size 0 E) := Lib.hid (by rw [hE]; exact HB2.out.range)
  go_wp2_with (first | (refine wpList_load_mid rfl 54 _ rfl w.heap.size 0 rfl E _ HER.out Tryz.underlying54 rfl (row_opn.of HEL.out).2 ?_) | (refine wpList_store_blk rfl 54 _ _ rfl (w.heap.size + 1) E.toArray rfl rfl 54 copyOpening_anyZ HB1.out HES.out HEM.out HEO.out ?_; intro w9 hb9 hf9))
  refine bodyPost_ret (v := .agg E.toArray) (results_cell_row Tryz.results29 _ _ (w.heap.size + 1) 54 E.toArray _ _ rfl hb9 Tryz.underlying54 rfl HES.out) rfl ?_
  have HS9 : Fr [w.heap.size, w.heap.size + 1] w1 w9 := (HFS.out.mono (by intro k hk _; simp at hk; simp [hk])).trans hf9 (fun k hk _ => by simp at hk; simp [hk])
  refine ⟨⟨x.i, A1, n1, c1, x.p, x.h⟩, by rw [hE], rfl, fun S0 h0 => ?_, (HF0.out.and HF1.out (by simp)).go HS9 (by simp)⟩
  have hm : Fr (w.heap.size :: (w.heap.size + 1) :: S0) w1 w9 := HS9.mono (by intro k hk _; simp at hk; rcases hk with rfl | rfl <;> simp)
  have hnk : ∀ k ∈ bk A1, w.heap.size + 2 ≤ k := fun k hk => by have h1 := HN1.out k hk; have h2 := HS2.out; omega
  exact ⟨HX.out.i, HO1.out.by.keep HS9 (fun a ha hm => by have h1 := hnk a.block (by rw [ha]; simp [bk]); simp at hm; omega), by rw [HNE.out]; exact HX.out.n, fun k hk hm => by have h1 := hnk k hk; have h2 := h0 k hm; omega, fun k hk => Nat.lt_of_lt_of_le (HO1.out.lt k hk) HS9.size, HX.out.h, HO1.out.cap⟩
end Go.Proofs.YtnpjihdhpoddgaaGreat
