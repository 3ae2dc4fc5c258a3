/- A list of calls that comes in ([]Act): what its reading says of cells; and how a struct or an array is loaded from anywhere. -/
import Derived.Test.YtfmkegblhpnfcaaOpen
import Derived.Test.YtfmkegblhpnfcaaBy
import Derived.Deep.Slices
import Derived.Laws.Tables
import Derived.Lib.SmallJoins
set_option linter.unusedSimpArgs false
set_option linter.unusedVariables false
namespace Go.Proofs.Ytfmkegblhpnfcaa
open Go.RowKit
open Go.ChangeShapes Go.WideShapes
open Go.Deep (open_slice)

/-! ### a struct or an array, loaded from anywhere -/
section
variable {P : Program}
theorem run_loadVar_cells (w : World) (a : Addr) (ty : TypeId) (cs : List Value) (d : TypeDesc) (hc : ∀ j v, cs[j]? = some v → w.cell? (a.add j) = some v)
    (hu : P.underlying ty = some d) (hd : (match d with | .struct _ | .array _ _ => true | _ => false) = true) (hi : (P.info? ty).map (·.size) = some cs.length) :
    (loadVar ty a).run P w = .ok (.agg cs.toArray) w := by
  have hl := run_loadCells_list (P := P) w a cs hc
  cases hq : P.info? ty with
  | none => simp [hq] at hi
  | some i =>
    have hs : i.size = cs.length := by simpa [hq] using hi
    have hagg : (isAgg ty).run P w = .ok true w := by
      unfold isAgg
      rw [Sem.run_bind, run_underlying hu w]
      cases d <;> simp_all
    simp [loadVar, Sem.run_bind, hagg, sizeOf, typeInfo, hq, hs, hl]
theorem wp_load_cells {o : Oper} {a : Act} {w : World} {K : Act → World → Prop} {Q : Exit → Act → World → Prop} (ty : TypeId) (x : Operand) (ho : o.op = .load ty x)
    (ad : Addr) (hx : a.eval x = .pointer (some ad)) (cs : List Value) (d : TypeDesc) (hc : ∀ j v, cs[j]? = some v → w.cell? (ad.add j) = some v)
    (hu : P.underlying ty = some d) (hd : (match d with | .struct _ | .array _ _ => true | _ => false) = true) (hi : (P.info? ty).map (·.size) = some cs.length)
    (h : K (a.put o.dst (.agg cs.toArray)) w) : o.wp P a w K Q := by
  unfold Oper.wp execOp
  simp only [ho, hx, Instr.loadAt, Instr.sureAddr, Sem.run_bind, Sem.run_pure, Result.andThen_ok, run_loadVar_cells w ad ty cs d hc hu hd hi]
  exact h
theorem wpList_load_cells {ops : Array Oper} {rest : List Oper} {o : Oper} {a : Act} {w : World} {Q : Exit → Act → World → Prop} (hgd : o.guard = none) (ty : TypeId) (x : Operand) (ho : o.op = .load ty x)
    (ad : Addr) (hx : a.eval x = .pointer (some ad)) (cs : List Value) (d : TypeDesc) (hc : ∀ j v, cs[j]? = some v → w.cell? (ad.add j) = some v)
    (hu : P.underlying ty = some d) (hd : (match d with | .struct _ | .array _ _ => true | _ => false) = true) (hi : (P.info? ty).map (·.size) = some cs.length)
    (h : wpList P ops Q rest (a.put o.dst (.agg cs.toArray)) w) : wpList P ops Q (o :: rest) a w :=
  wpList_plain hgd fun _ hK => wp_load_cells ty x ho ad hx cs d hc hu hd hi (hK _ _ h)
end

/-- a struct or an array, stored into the block that was made for it just now -/
theorem wpList_store_box {P : Program} {ops : Array Oper} {rest : List Oper} {o : Oper} {a : Act} {w : World} {Q : Exit → Act → World → Prop} (hgd : o.guard = none) (ty : TypeId) (x y : Operand) (ho : o.op = .store ty x y)
    (old : Array Value) (t : TypeId) (cells : List Value) (hx : a.eval x = .pointer (some ⟨w.heap.size, 0, none⟩)) (hy : a.eval y = .agg cells.toArray)
    (hi : (P.info? ty).map (·.size) = some cells.length) (hold : old.size = cells.length) (h1 : ∀ v ∈ cells, v.oneCell' = true)
    (h : ∀ w', Blk w' w.heap.size t cells.toArray → Fr [] w w' → wpList P ops Q rest (a.put o.dst undef) w') : wpList P ops Q (o :: rest) a (w.alloc (.cells old t)) := by
  refine wpList_store_row hgd ty x y ho w.heap.size cells.toArray hx hy t old (Blk.new w t old) (by simpa using hi) (by simpa using hold) ?_ ?_
  · rw [Array.all_eq_true_iff_forall_mem]
    intro v hv
    exact h1 v (by simpa using hv)
  · refine h _ (setRow_blk (Blk.new w t old) _) ?_
    exact ((Fr.refl [] w).alloc _).trans (setRow_fr _ _ _) (fun x hx hl => by simp at hx; omega)

/-! ### a call of the list -/
structure ActV where
  d : Int
  n : Int
  u : Nat
  A : Option Addr
  m : Nat
  c : Nat
  b : List UInt8
  h : List UInt8
def ActV.cells (v : ActV) : List Value := .int .i64 v.d :: .int .i64 v.n :: .int .u64 v.u :: .slice v.A v.m v.c :: v.h.map by8
theorem ActV.one (v : ActV) : ∀ x ∈ v.cells, x.oneCell' = true := by
  intro x hx
  simp only [ActV.cells, List.mem_cons] at hx
  rcases hx with rfl | rfl | rfl | rfl | hx
  · rfl
  · rfl
  · rfl
  · rfl
  · exact by8_one v.h x hx
/-- the cells of a call that lies in a block -/
theorem ActV.in_blk {w : World} {g : Nat} {t : TypeId} {v : ActV} (hb : Blk w g t v.cells.toArray) :
    w.cell? ⟨g, 0, none⟩ = some (.int .i64 v.d) ∧ w.cell? ⟨g, 1, none⟩ = some (.int .i64 v.n) ∧ w.cell? ⟨g, 2, none⟩ = some (.int .u64 v.u) ∧ w.cell? ⟨g, 3, none⟩ = some (.slice v.A v.m v.c) ∧
      ∀ j x, (v.h.map by8)[j]? = some x → w.cell? ((⟨g, 4, none⟩ : Addr).add j) = some x := by
  refine ⟨by rw [hb.cell 0]; rfl, by rw [hb.cell 1]; rfl, by rw [hb.cell 2]; rfl, by rw [hb.cell 3]; rfl, fun j x hx => ?_⟩
  have hadd : (⟨g, 4, none⟩ : Addr).add j = ⟨g, 4 + j, none⟩ := by unfold Addr.add; split <;> simp_all
  rw [hadd, hb.cell (4 + j)]
  rw [show 4 + j = j + 4 by omega]
  simpa [ActV.cells] using hx
/-- the cells of a call that lies in a list -/
theorem ActV.in_mem {w : World} {p : Addr} {v : ActV} (hb : ∀ j x, v.cells[j]? = some x → w.cell? (p.add j) = some x) :
    w.cell? p = some (.int .i64 v.d) ∧ w.cell? ⟨p.block, p.off + 1, none⟩ = some (.int .i64 v.n) ∧ w.cell? ⟨p.block, p.off + 2, none⟩ = some (.int .u64 v.u) ∧ w.cell? ⟨p.block, p.off + 3, none⟩ = some (.slice v.A v.m v.c) ∧
      ∀ j x, (v.h.map by8)[j]? = some x → w.cell? ((⟨p.block, p.off + 4, none⟩ : Addr).add j) = some x := by
  refine ⟨hb 0 _ rfl, hb 1 _ rfl, hb 2 _ rfl, hb 3 _ rfl, fun j x hx => ?_⟩
  have h := hb (j + 4) x (by simpa [ActV.cells] using hx)
  have e : (⟨p.block, p.off + 4, none⟩ : Addr).add j = p.add (j + 4) := by
    unfold Addr.add
    by_cases hj : j = 0
    · subst hj; simp
    · simp [hj]; omega
  rw [e]; exact h
structure ActOk (w : World) (v : ActV) : Prop where
  d1 : -9223372036854775808 ≤ v.d
  d2 : v.d < 9223372036854775808
  n1 : -9223372036854775808 ≤ v.n
  n2 : v.n < 9223372036854775808
  u : v.u < 18446744073709551616
  b : By w v.A v.m v.b
  m : v.m ≤ v.c
  c : v.c ≤ maxLen
  h : v.h.length = 32
theorem ActOk.len {w : World} {v : ActV} (h : ActOk w v) : v.cells.length = 36 := by
  simp [ActV.cells, h.h]
theorem ActOk.keep {w w' : World} {S : List Nat} {v : ActV} (h : ActOk w v) (hf : Fr S w w') (hS : ∀ a, v.A = some a → ¬ a.block ∈ S) : ActOk w' v := ⟨h.d1, h.d2, h.n1, h.n2, h.u, h.b.keep hf hS, h.m, h.c, h.h⟩
def Acts (w : World) (A : Option Addr) (n : Nat) (l : List ActV) : Prop :=
  l.length = n ∧ (0 < n → ∃ ad, A = some ad ∧ ∀ i v, l[i]? = some v → ActOk w v ∧ ∀ j x, v.cells[j]? = some x → w.cell? (ad.add (i * 36 + j)) = some x)

/-- what was there when the call began is there still -/
theorem cell_old {w w' : World} (hb : Below w.heap.size w w') {p : Addr} {v : Value} (h : w.cell? p = some v) : w'.cell? p = some v := by
  rw [hb.cell (World.block_lt_of_cell? w p h)]; exact h
theorem By.old {w w' : World} {A : Option Addr} {n : Nat} {l : List UInt8} (h : By w A n l) (hb : Below w.heap.size w w') : By w' A n l :=
  ⟨h.1, fun hn => by
    obtain ⟨ad, e, hc⟩ := h.2 hn
    exact ⟨ad, e, fun j u hu => cell_old hb (hc j u hu)⟩⟩
theorem ActOk.old {w w' : World} {v : ActV} (h : ActOk w v) (hb : Below w.heap.size w w') : ActOk w' v := ⟨h.d1, h.d2, h.n1, h.n2, h.u, h.b.old hb, h.m, h.c, h.h⟩
theorem Acts.at {w w' : World} {A : Option Addr} {n i : Nat} {l : List ActV} (h : Acts w A n l) (hb : Below w.heap.size w w') (hi : i < n) :
    ∃ ad v, A = some ad ∧ l[i]? = some v ∧ ActOk w' v ∧ ∀ j x, v.cells[j]? = some x → w'.cell? (ad.add (i * 36 + j)) = some x := by
  obtain ⟨ad, e, hc⟩ := h.2 (by omega)
  have hl : i < l.length := by rw [h.1]; exact hi
  obtain ⟨h1, h2⟩ := hc i l[i] (List.getElem?_eq_getElem hl)
  exact ⟨ad, l[i], e, List.getElem?_eq_getElem hl, h1.old hb, fun j x hx => cell_old hb (h2 j x hx)⟩
theorem Acts.at0 {w : World} {A : Option Addr} {n i : Nat} {l : List ActV} {v : ActV} (h : Acts w A n l) (hi : i < n) (hv : l[i]? = some v) : ActOk w v := by
  obtain ⟨ad, e, hc⟩ := h.2 (by omega)
  exact (hc i v hv).1

/-! ### a hash, loaded inside a region that draws its order -/
/-- thirty-two cells stand there -/
def Has32 (w : World) (a : Addr) : Prop := ∀ j, j < 32 → (w.cell? (a.add j)).isSome = true
/-- what they hold, as an array -/
def aggAt (w : World) (a : Addr) : Value := .agg ((List.range 32).map fun j => (w.cell? (a.add j)).getD undef).toArray
set_option maxRecDepth 100000 in
theorem hash_size0 : (Try.prog.info? 30).map (·.size) = some 32 := by kernel_rfl
theorem run_load_hash {w : World} {a : Addr} (h : Has32 w a) : (loadVar 30 a).run Try.prog w = .ok (aggAt w a) w := by
  refine run_loadVar_cells w a 30 _ _ (fun j v hv => ?_) Try.underlying30 rfl (by rw [hash_size0]; simp)
  simp only [List.getElem?_map, Option.map_eq_some_iff] at hv
  obtain ⟨k, hk, rfl⟩ := hv
  obtain ⟨hk1, hk2⟩ := List.getElem?_eq_some_iff.1 hk
  simp at hk1 hk2
  subst hk2
  have := h j hk1
  cases hc : w.cell? (a.add j) with
  | none => rw [hc] at this; cases this
  | some x => rfl
def addrOf : Value → Addr
  | .pointer (some a) => a
  | _ => ⟨0, 0, none⟩
theorem addrOf_ptr (a : Addr) : addrOf (.pointer (some a)) = a := rfl
theorem exec_load_hash {ev : Operand → Value} {o : Oper} {x : Operand} {w : World} (ho : o.op = .load 30 x) (hx : ev x = .pointer (some (addrOf (ev x)))) (h : Has32 w (addrOf (ev x))) :
    (execOp ev o).run Try.prog w = .ok (.value (aggAt w (addrOf (ev x)))) w := by
  unfold execOp
  rw [ho]
  generalize addrOf (ev x) = ad at *
  simp only [hx, Instr.loadAt, Instr.sureAddr, Sem.run_bind, Sem.run_pure, Result.andThen_ok, run_load_hash h]
def IsLoadHash (op : Op) : Prop := ∃ x, op = .load 30 x
def loadOf : Op → Operand
  | .load _ x => x
  | _ => .tmp 0
theorem isLoadHash_load (x : Operand) : IsLoadHash (.load 30 x) = True := eq_true ⟨x, rfl⟩
theorem loadOf_load (t : TypeId) (x : Operand) : loadOf (.load t x) = x := rfl
theorem exec_load_hash_any {ev : Operand → Value} {o : Oper} {w : World} (ho : IsLoadHash o.op) (hx : ev (loadOf o.op) = .pointer (some (addrOf (ev (loadOf o.op))))) (h : Has32 w (addrOf (ev (loadOf o.op)))) :
    (execOp ev o).run Try.prog w = .ok (.value (aggAt w (addrOf (ev (loadOf o.op))))) w := by
  obtain ⟨x, hop⟩ := ho
  rw [hop] at hx h ⊢
  rw [loadOf] at hx h ⊢
  exact exec_load_hash hop hx h
theorem has32_of {w : World} {a : Addr} {h : List UInt8} (hh : h.length = 32) (hc : ∀ j x, (h.map by8)[j]? = some x → w.cell? (a.add j) = some x) : Has32 w a ∧ aggAt w a = .agg (h.map by8).toArray := by
  have hj : ∀ j, j < 32 → w.cell? (a.add j) = some ((h.map by8).getD j undef) := fun j hj => hc j _ (by
    rw [List.getD, List.getElem?_eq_getElem (show j < (h.map by8).length by simp; omega)]; rfl)
  refine ⟨fun j hjl => by rw [hj j hjl]; rfl, ?_⟩
  unfold aggAt
  congr 2
  apply List.ext_getElem
  · simp [hh]
  · intro i h1 h2
    simp only [List.length_map, List.length_range] at h1
    simp only [List.getElem_map, List.getElem_range]
    rw [hj i h1, List.getD, List.getElem?_eq_getElem (show i < (h.map by8).length by simp; omega)]
    simp

/-! ### opened -/
section
variable {H : Type} {enc : TypeId × Value → H} {w : World} {spare : Nat → Bool} {held : Bool}
set_option maxRecDepth 100000 in
theorem by_of_trod {fuel : Nat} {A : Option Addr} {len cap : Nat} {x : DataW H × List MemPlace} (h : DataW.trod enc Try.prog w 0 spare held fuel 77 [.slice A len cap] = some x) :
    ∃ l, By w A len l ∧ len ≤ cap ∧ cap ≤ maxLen := by
  rcases open_ints Try.underlying77 Try.underlying5 (by kernel_rfl) h with ⟨hcs, _⟩ | ⟨x, l, c, zs, hcs, _, hl, hm, hz, _, hcell, hwz⟩
  · simp at hcs
    obtain ⟨rfl, rfl, rfl⟩ := hcs
    exact ⟨[], By.nil _ _, Nat.le_refl _, Nat.zero_le _⟩
  · simp at hcs
    obtain ⟨rfl, rfl, rfl⟩ := hcs
    obtain ⟨l', hy⟩ := By.of_ints hcell hwz (by rw [hz]; split <;> omega)
    exact ⟨l', hy, hl, hm⟩
set_option maxRecDepth 100000 in
theorem hash_of_trod {fuel : Nat} {cs : List Value} {x : DataW H × List MemPlace} (h : DataW.trod enc Try.prog w 0 spare held fuel 30 cs = some x) :
    ∃ l : List UInt8, l.length = 32 ∧ cs = l.map by8 := by
  obtain ⟨xs, m, _, _, hlen, hxl, hat⟩ := DataW.trod_array Try.underlying30 h
  rw [show Try.prog.cellsOf 30 = 32 by kernel_rfl] at hlen
  have hu : Try.prog.cellsOf 5 = 1 := by kernel_rfl
  have hel : ∀ i (hi : i < cs.length), ∃ b : UInt8, cs[i] = by8 b := by
    intro i hi
    have h1 := hat i (by omega)
    have hx : xs[i]? = some (xs[i]'(by omega)) := List.getElem?_eq_getElem (by omega)
    rw [hx, hu, Nat.mul_one] at h1
    have h2 : (cs.drop i).take 1 = [cs[i]] := by rw [List.drop_eq_getElem_cons hi]; rfl
    rw [h2] at h1
    obtain ⟨n, hn, _, hwf⟩ := DataW.trod_int Try.underlying5 h1
    have hb := bounds_u8 hwf
    injection hn with hn
    refine ⟨UInt8.ofNat n.toNat, ?_⟩
    rw [hn, by8, UInt8.toNat_ofNat']
    congr 1
    omega
  refine ⟨(List.range 32).map (fun i => if hi : i < cs.length then Classical.choose (hel i hi) else 0), by simp, ?_⟩
  apply List.ext_getElem
  · simp [hlen]
  · intro i h1 h2
    simp only [List.getElem_map, List.getElem_range]
    rw [dif_pos h1]
    exact Classical.choose_spec (hel i h1)
end
end Go.Proofs.Ytfmkegblhpnfcaa
