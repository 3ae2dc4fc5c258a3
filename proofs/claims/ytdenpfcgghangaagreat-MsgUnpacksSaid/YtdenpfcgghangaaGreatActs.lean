/- A list of calls that comes in ([]Act): what its reading says of cells; and how a struct or an array is loaded from anywhere. -/
import Derived.Test.YtdenpfcgghangaaGreatOpen
import Derived.Test.YtdenpfcgghangaaGreatBy
import Derived.Deep.Slices
import Derived.Laws.Tables
import Derived.Lib.SmallJoins
set_option linter.unusedSimpArgs false
set_option linter.unusedVariables false
namespace Go.Proofs.YtdenpfcgghangaaGreat
open Go.RowKit
open Go.ChangeShapes Go.WideShapes
open Go.Deep (open_slice)
/-! ### a struct or an array, loaded from anywhere -/
section
variable {P : Program}
theorem run_loadVar_cells (w : World) (a : Addr) (ty : TypeId) (cs : List Value) (d : TypeDesc) (hc : ∀ j v, cs[j]? = some v → w.cell? (a.add j) = some v)
  (hu : P.underlying ty = some d) (hd : (match d with | .struct _ | .array _ _ => true | _ => false) = true) (hi : (P.info? ty).map (·.size) = some cs.length) :
  (loadVar ty a).run P w = .ok (.agg cs.toArray) w := by
 have hl := run_loadCells_list (P := P) w a cs hc
 cases hq : P.info? ty with
 | none => simp [hq] at hi
 | some i =>
   have hs : i.size = cs.length := by simpa [hq] using hi
   have hagg : (isAgg ty).run P w = .ok true w := by
    unfold isAgg
    rw [Sem.run_bind, run_underlying hu w]
    cases d <;> simp_all
   simp [loadVar, Sem.run_bind, hagg, sizeOf, typeInfo, hq, hs, hl]
end
theorem wpList_store_box {P : Program} {ops : Array Oper} {rest : List Oper} {o : Oper} {a : Act} {w : World} {Q : Exit → Act → World → Prop} (hgd : o.guard = none) (ty : TypeId) (x y : Operand) (ho : o.op = .store ty x y)
  (old : Array Value) (t : TypeId) (cells : List Value) (hx : a.eval x = .pointer (some ⟨w.heap.size, 0, none⟩)) (hy : a.eval y = .agg cells.toArray)
  (hi : (P.info? ty).map (·.size) = some cells.length) (hold : old.size = cells.length) (h1 : ∀ v ∈ cells, v.oneCell' = true)
  (h : ∀ w', Blk w' w.heap.size t cells.toArray → Fr [] w w' → wpList P ops Q rest (a.put o.dst undef) w') : wpList P ops Q (o :: rest) a (w.alloc (.cells old t)) := by
 refine wpList_store_row hgd ty x y ho w.heap.size cells.toArray hx hy t old (Blk.new w t old) (by simpa using hi) (by simpa using hold) ?_ ?_
 · rw [Array.all_eq_true_iff_forall_mem]
   intro v hv
   exact h1 v (by simpa using hv)
 · refine h _ (setRow_blk (Blk.new w t old) _) ?_
   exact ((Fr.refl [] w).alloc _).trans (setRow_fr _ _ _) (fun x hx hl => by simp at hx; omega)
/-! ### a call of the list -/
structure ActV where
 d : Int
 n : Int
 u : Nat
 A : Option Addr
 m : Nat
 c : Nat
 b : List UInt8
 h : List UInt8
def ActV.cells (v : ActV) : List Value := .int .i64 v.d :: .int .i64 v.n :: .int .u64 v.u :: .slice v.A v.m v.c :: v.h.map by8
theorem ActV.one (v : ActV) : ∀ x ∈ v.cells, x.oneCell' = true := by
 intro x hx
 simp only [ActV.cells, List.mem_cons] at hx
 rcases hx with rfl | rfl | rfl | rfl | hx
 · rfl
 · rfl
 · rfl
 · rfl
 · exact by8_one v.h x hx
structure ActOk (w : World) (v : ActV) : Prop where
 d1 : -9223372036854775808 ≤ v.d
 d2 : v.d < 9223372036854775808
 n1 : -9223372036854775808 ≤ v.n
 n2 : v.n < 9223372036854775808
 u : v.u < 18446744073709551616
 b : By w v.A v.m v.b
 m : v.m ≤ v.c
 c : v.c ≤ maxLen
 h : v.h.length = 32
theorem ActOk.len {w : World} {v : ActV} (h : ActOk w v) : v.cells.length = 36 := by
 simp [ActV.cells, h.h]
theorem ActOk.keep {w w' : World} {S : List Nat} {v : ActV} (h : ActOk w v) (hf : Fr S w w') (hS : ∀ a, v.A = some a → ¬ a.block ∈ S) : ActOk w' v := ⟨h.d1, h.d2, h.n1, h.n2, h.u, h.b.keep hf hS, h.m, h.c, h.h⟩
def Acts (w : World) (A : Option Addr) (n : Nat) (l : List ActV) : Prop :=
 l.length = n ∧ (0 < n → ∃ ad, A = some ad ∧ ∀ i v, l[i]? = some v → ActOk w v ∧ ∀ j x, v.cells[j]? = some x → w.cell? (ad.add (i * 36 + j)) = some x)
theorem cell_old {w w' : World} (hb : Below w.heap.size w w') {p : Addr} {v : Value} (h : w.cell? p = some v) : w'.cell? p = some v := by
 rw [hb.cell (World.block_lt_of_cell? w p h)]; exact h
theorem By.old {w w' : World} {A : Option Addr} {n : Nat} {l : List UInt8} (h : By w A n l) (hb : Below w.heap.size w w') : By w' A n l :=
 ⟨h.1, fun hn => by
  obtain ⟨ad, e, hc⟩ := h.2 hn
  exact ⟨ad, e, fun j u hu => cell_old hb (hc j u hu)⟩⟩
theorem ActOk.old {w w' : World} {v : ActV} (h : ActOk w v) (hb : Below w.heap.size w w') : ActOk w' v := ⟨h.d1, h.d2, h.n1, h.n2, h.u, h.b.old hb, h.m, h.c, h.h⟩
theorem Acts.at {w w' : World} {A : Option Addr} {n i : Nat} {l : List ActV} (h : Acts w A n l) (hb : Below w.heap.size w w') (hi : i < n) :
  ∃ ad v, A = some ad ∧ l[i]? = some v ∧ ActOk w' v ∧ ∀ j x, v.cells[j]? = some x → w'.cell? (ad.add (i * 36 + j)) = some x := by
 obtain ⟨ad, e, hc⟩ := h.2 (by omega)
 have hl : i < l.length := by rw [h.1]; exact hi
 obtain ⟨h1, h2⟩ := hc i l[i] (List.getElem?_eq_getElem hl)
 exact ⟨ad, l[i], e, List.getElem?_eq_getElem hl, h1.old hb, fun j x hx => cell_old hb (h2 j x hx)⟩
/-! ### a hash, loaded inside a region that draws its order -/
def Has32 (w : World) (a : Addr) : Prop := ∀ j, j < 32 → (w.cell? (a.add j)).isSome = true
def aggAt (w : World) (a : Addr) : Value := .agg ((List.range 32).map fun j => (w.cell? (a.add j)).getD undef).toArray
def addrOf : Value → Addr
 | .pointer (some a) => a
 | _ => ⟨0, 0, none⟩
def IsLoadHash (op : Op) : Prop := ∃ x, op = .load 25 x
def loadOf : Op → Operand
 | .load _ x => x
 | _ => .tmp 0
/-! ### opened -/
section
variable {H : Type} {enc : TypeId × Value → H} {w : World} {spare : Nat → Bool} {held : Bool}
set_option maxRecDepth 100000 in
theorem by_of_trod {fuel : Nat} {A : Option Addr} {len cap : Nat} {x : DataW H × List MemPlace} (h : DataW.trod enc Tryz.prog w 0 spare held fuel 52 [.slice A len cap] = some x) :
  ∃ l, By w A len l ∧ len ≤ cap ∧ cap ≤ maxLen := by
 rcases open_ints Tryz.underlying52 Tryz.underlying5 (by kernel_rfl) h with ⟨hcs, _⟩ | ⟨x, l, c, zs, hcs, _, hl, hm, hz, _, hcell, hwz⟩
 · simp at hcs
   obtain ⟨rfl, rfl, rfl⟩ := hcs
   exact ⟨[], By.nil _ _, Nat.le_refl _, Nat.zero_le _⟩
 · simp at hcs
   obtain ⟨rfl, rfl, rfl⟩ := hcs
   obtain ⟨l', hy⟩ := By.of_ints hcell hwz (by rw [hz]; split <;> omega)
   exact ⟨l', hy, hl, hm⟩
set_option maxRecDepth 100000 in
theorem hash_of_trod {fuel : Nat} {cs : List Value} {x : DataW H × List MemPlace} (h : DataW.trod enc Tryz.prog w 0 spare held fuel 25 cs = some x) :
  ∃ l : List UInt8, l.length = 32 ∧ cs = l.map by8 := by
 obtain ⟨xs, m, _, _, hlen, hxl, hat⟩ := DataW.trod_array Tryz.underlying25 h
 rw [show Tryz.prog.cellsOf 25 = 32 by kernel_rfl] at hlen
 have hu : Tryz.prog.cellsOf 5 = 1 := by kernel_rfl
 have hel : ∀ i (hi : i < cs.length), ∃ b : UInt8, cs[i] = by8 b := by
  intro i hi
  have h1 := hat i (by omega)
  have hx : xs[i]? = some (xs[i]'(by omega)) := List.getElem?_eq_getElem (by omega)
  rw [hx, hu, Nat.mul_one] at h1
  have h2 : (cs.drop i).take 1 = [cs[i]] := by rw [List.drop_eq_getElem_cons hi]; rfl
  rw [h2] at h1
  obtain ⟨n, hn, _, hwf⟩ := DataW.trod_int Tryz.underlying5 h1
  have hb := bounds_u8 hwf
  injection hn with hn
  refine ⟨UInt8.ofNat n.toNat, ?_⟩
  rw [hn, by8, UInt8.toNat_ofNat']
  congr 1
  omega
 refine ⟨(List.range 32).map (fun i => if hi : i < cs.length then Classical.choose (hel i hi) else 0), by simp, ?_⟩
 apply List.ext_getElem
 · simp [hlen]
 · intro i h1 h2
   simp only [List.getElem_map, List.getElem_range]
   rw [dif_pos h1]
   exact Classical.choose_spec (hel i h1)
end
end Go.Proofs.YtdenpfcgghangaaGreat
