/- A slice literal of one struct or array; an append of one onto a slice that the call owns. -/
import Derived.Test.YtglphddjinmhoaaLst
import Derived.Test.YtglphddjinmhoaaCm5
import Derived.Great.BuildSlice
import Derived.Deep.AppendLies
namespace Go.Proofs.Ytglphddjinmhoaa
open Go.RowKit
set_option maxRecDepth 100000
/-- what a type's table says of an element's size -/
def ElTy (P : Program) (e : TypeId) (k bytes : Nat) : Prop := ∃ i z, P.info? e = some i ∧ i.zero = some z ∧ z.cells.size = k ∧ i.size = k ∧ i.bytes = bytes
theorem ElTy.of {P : Program} {e : TypeId} {k bytes : Nat} (h : (P.info? e).map (fun i => (i.zero.map (·.cells.size), i.size, i.bytes)) = some (some k, k, bytes)) : ElTy P e k bytes := by
  cases hi : P.info? e with
  | none => rw [hi] at h; cases h
  | some i =>
    rw [hi] at h
    simp only [Option.map_some, Option.some.injEq, Prod.mk.injEq] at h
    cases hz : i.zero with
    | none => rw [hz] at h; simp at h
    | some z =>
      rw [hz] at h
      exact ⟨i, z, hi, hz, by simpa using h.1, h.2.1, h.2.2⟩
theorem wp_build_one {P : Program} {o : Oper} {a : Act} {w : World} {K : Act → World → Prop} {Q : Exit → Act → World → Prop} (t e : TypeId) (y : Operand) (ho : o.op = .buildSlice t 1 #[(0, y)]) (hu : P.underlying t = some (.slice e))
    (cs : List Value) (bytes : Nat) (he : ElTy P e cs.length bytes) (hy : a.eval y = .agg cs.toArray) (h0 : 0 < cs.length) (h1 : cs.length ≤ 1000)
    (h : K (a.put o.dst (.slice (some ⟨w.heap.size, 0, none⟩) 1 1)) (w.alloc (.cells cs.toArray e))) : o.wp P a w K Q := by
  obtain ⟨i, z, hi, hz, hzs, hs, _⟩ := he
  refine wp_buildSlice t e 1 _ ho cs.toArray i z hu hi hz (by rw [hs]; omega) (by rw [hs]; omega) ?_ h
  have hl : ((Array.range (1 * i.size)).map (z.cells[· % z.cells.size]!)).size = cs.length := by simp [hs]
  generalize (Array.range (1 * i.size)).map (z.cells[· % z.cells.size]!) = Z at *
  have e1 : (#[(0, y)].map fun (i, x) => (i, a.eval x)).toList = [(0, .agg cs.toArray)] := by simp [hy]
  rw [e1, fill_step _ _ 0 0 cs.length _ _ (by simp [hs]) (by simp [Value.cells]) (by omega), Instr.fill]
  congr 1
  have hd : Z.toList.drop cs.length = [] := List.drop_eq_nil_of_le (by simp [hl])
  simp [splice, Value.cells, hd]
theorem wpList_build_one {P : Program} {ops : Array Oper} {rest : List Oper} {o : Oper} {a : Act} {w : World} {Q : Exit → Act → World → Prop} (hg : o.guard = none) (t e : TypeId) (y : Operand) (ho : o.op = .buildSlice t 1 #[(0, y)]) (hu : P.underlying t = some (.slice e))
    (cs : List Value) (bytes : Nat) (he : ElTy P e cs.length bytes) (hy : a.eval y = .agg cs.toArray) (h0 : 0 < cs.length) (h1 : cs.length ≤ 1000)
    (h : wpList P ops Q rest (a.put o.dst (.slice (some ⟨w.heap.size, 0, none⟩) 1 1)) (w.alloc (.cells cs.toArray e))) : wpList P ops Q (o :: rest) a w :=
  wpList_plain hg fun _ hK => wp_build_one t e y ho hu cs bytes he hy h0 h1 (hK _ _ h)
/-- one more thing behind a slice that the call owns, out of the block that was made for it just now -/
theorem wpList_append_one {P : Program} {ops : Array Oper} {rest : List Oper} {o : Oper} {a : Act} {w : World} {Q : Exit → Act → World → Prop} (hg : o.guard = none) (s x : Operand) (t e : TypeId)
    (ho : o.op = .call { callee := .builtin .append, args := #[s, x], argTypes := #[t, t] }) (ht : P.underlying t = some (.slice e)) (k bytes : Nat) (he : ElTy P e k bytes) (hk : 0 < k)
    (base : Nat) (v : Value) (n : Nat) (xs cs : List Value) (hs : a.eval s = v) (hown : w.ownsRow base e k v n xs) (hbase : base ≤ w.heap.size) (hcl : cs.length = k) (h1 : ∀ u ∈ cs, u.oneCell' = true)
    (g : Nat) (t' : TypeId) (hx : a.eval x = .slice (some ⟨g, 0, none⟩) 1 1) (hb : Blk w g t' cs.toArray) (hn : n < 1000000) (hby : bytes ≤ 1000)
    (h : ∀ A c w', w'.ownsRow base e k (.slice A (n + 1) c) (n + 1) (xs ++ cs) → Fr v.ownBlock.toList w w' → wpList P ops Q rest (a.put o.dst (.slice A (n + 1) c)) w') : wpList P ops Q (o :: rest) a w := by
  obtain ⟨i, z, hi, hz, hzs, hsz, hbs⟩ := he
  refine wpList_append_lies w hg s x t ho base e i z k bytes ht hi hz hsz hbs hzs hk v n xs hs hown ⟨g, 0, none⟩ 1 1 cs hx (by omega) (fun j u hu => ?_) h1 (by omega) (by simp only [maxLen]; omega)
    (Nat.le_trans (Nat.mul_le_mul (show n + 1 ≤ 1000000 by omega) hby) (by decide)) hbase _ rfl (fun g' cap w' h2 h3 _ _ => ?_)
  · have hadd : (⟨g, 0, none⟩ : Addr).add j = ⟨g, j, none⟩ := by unfold Addr.add; split <;> simp_all
    rw [hadd, hb.cell j]
    simpa using hu
  · exact h _ _ w' h2 ((Fr.refl _ w).grown h3 (fun y hy _ => by simp [hy]))
end Go.Proofs.Ytglphddjinmhoaa
