/- Maps in memory as lists of keys and values, whatever the keys and the values are: what such a map is; what a look-up, a store, len say of it. Plain lemmas; no program. -/
import Derived.Test.YtfmkegblhpnfcaaMem
import Derived.Maps.OwnSet
import Derived.DeepKeys4
import Derived.WideKeyEntry
import Derived.Laws.ResultCell
set_option linter.unusedSimpArgs false
set_option linter.unusedVariables false
namespace Go.Proofs.Ytfmkegblhpnfcaa
set_option maxRecDepth 100000
open Go.RowKit

/-- one cell of a block is stored -/
theorem wp_store_cell1 {P : Program} {op : Oper} {a : Act} {w : World} {K : Act → World → Prop} {Q : Exit → Act → World → Prop} (ty : TypeId) (x y : Operand) (ho : op.op = .store ty x y)
    (g i : Nat) (v : Value) (hx : a.eval x = .pointer (some ⟨g, i, none⟩)) (hy : a.eval y = v) (h1 : v.oneCell' = true) (t : TypeId) (cs : Array Value) (hb : Blk w g t cs) (hi : i < cs.size) (hsz : (P.info? ty).map (·.size) = some 1)
    (h : K (a.put op.dst undef) (w.setCell ⟨g, i, none⟩ v)) : op.wp P a w K Q := by
  subst hy
  have hc := hb.cell i
  rw [Array.getElem?_eq_getElem hi] at hc
  have := run_storeCells_cells (P := P) g i [a.eval y] 0 w (fun j hj => by simp at hj; subst hj; simpa using (by rw [hc]; rfl : (w.cell? ⟨g, i, none⟩).isSome = true)) (fun j hj => by simp at hj; subst hj; simpa using hb.frozen i) (fun u hu => by simp at hu; subst hu; exact h1)
  have hcl : (a.eval y).cells = #[a.eval y] := by cases hv : a.eval y <;> first | rfl | (rw [hv] at h1; cases h1)
  have hrun : (storeVar ty ⟨g, i, none⟩ (a.eval y)).run P w = .ok () (w.setCell ⟨g, i, none⟩ (a.eval y)) := by
    cases hq : P.info? ty with
    | none => simp [hq] at hsz
    | some j =>
      have hs : j.size = 1 := by simpa [hq] using hsz
      simp only [Nat.add_zero] at this
      simp [storeVar, sizeOf, typeInfo, hq, hcl, hs, this, World.setCells]
  unfold Oper.wp execOp
  simp only [ho, hx, Instr.storeAt, Instr.sureAddr, Sem.run_bind, Sem.run_pure, Result.andThen_ok, hrun]
  exact h
theorem wp_skip1 {P : Program} {Q : Exit → Act → World → Prop} {a : Act} {w : World} {o : Oper} {K : Act → World → Prop} {w' : World} (he : (execOp a.eval o).run P w = .ok .skip w') (h : K (a.put o.dst undef) w') : Oper.wp P o a w K Q := by
  unfold Oper.wp
  rw [he, Oper.upon_skip]
  exact h
theorem results_ct {P : Program} {fn : Func} {p u : Tmp} {ty : TypeId} (h : fn.results = #[.cell p ty, .tmp u]) (tmps : Array Value) (w : World) (g : Nat) (t : TypeId) (cs : Array Value) (fr : Nat × Nat) (d : TypeDesc) (b : Value)
    (hp : tmps.getD p undef = .pointer (some ⟨g, 0, none⟩)) (hb : tmps.getD u undef = b) (hg : w.heap[g]? = some (.cells cs t fr))
    (hu : P.underlying ty = some d) (hd : (match d with | .struct _ | .array _ _ => true | _ => false) = true) (hi : (P.info? ty).map (·.size) = some cs.size) :
    (results fn tmps).run P w = .ok (.tuple #[.agg cs, b]) w := by
  rw [results_cell_tmp h, hp, hb]
  simp [asAddr, Result.andThen, run_loadVar_row w g t ty cs fr d hg hu hd hi]
theorem results_ctt {P : Program} {fn : Func} {p u v : Tmp} {ty : TypeId} (h : fn.results = #[.cell p ty, .tmp u, .tmp v]) (tmps : Array Value) (w : World) (g : Nat) (t : TypeId) (cs : Array Value) (fr : Nat × Nat) (d : TypeDesc) (b c : Value)
    (hp : tmps.getD p undef = .pointer (some ⟨g, 0, none⟩)) (hb : tmps.getD u undef = b) (hc : tmps.getD v undef = c) (hg : w.heap[g]? = some (.cells cs t fr))
    (hu : P.underlying ty = some d) (hd : (match d with | .struct _ | .array _ _ => true | _ => false) = true) (hi : (P.info? ty).map (·.size) = some cs.size) :
    (results fn tmps).run P w = .ok (.tuple #[.agg cs, b, c]) w := by
  have hl := run_loadVar_row w g t ty cs fr d hg hu hd hi
  have e : (results fn tmps).run P w = ((asAddr (tmps.getD p undef)).run P w).andThen fun a w₁ => ((loadVar ty a).run P w₁).andThen fun v0 w₂ => .ok (.tuple #[v0, tmps.getD u undef, tmps.getD v undef]) w₂ := by
    simp only [results, h]
    simp [Sem.run_bind, Result.andThen]
  rw [e, hp, hb, hc]
  simp [asAddr, Result.andThen, hl]
/-- keys of one type: as values, as literals, which may be -/
structure KeyKind (P : Program) (k : TypeId) (κ : Type) where
  val : κ → Value
  lit : κ → Lit
  ok : κ → Prop
  keyed : Maps.Keyed P k
  key : ∀ x, ok x → keyOf P k (val x) = some (lit x)
  inj : ∀ x y, val x = val y → x = y
section
variable {P : Program} {k : TypeId} {κ : Type}
theorem KeyKind.lit_inj (K : KeyKind P k κ) {x y : κ} (hx : K.ok x) (hy : K.ok y) (h : K.lit x = K.lit y) : x = y :=
  K.inj _ _ (K.keyed.inj (K.key x hx) (h ▸ K.key y hy))
theorem KeyKind.lit_key (K : KeyKind P k κ) {x : κ} (hx : K.ok x) : WideAt.IsKeyLit (K.lit x) := K.keyed.key (K.key x hx)
/-- any value, as it is -/
def heldElem : Value → Option (DataW Value × List MemPlace) := fun v => some (.held v, [])
variable [BEq κ]
/-- the map's datum has just these keys, with these values -/
structure Tab (K : KeyKind P k κ) (D : DataW Value) (l : List (κ × Value)) : Prop where
  tidy : Maps.Tidy D
  ok : ∀ e ∈ l, K.ok e.1
  size : Maps.size D = l.length
  has : ∀ x, K.ok x → Maps.has D (K.lit x) = (l.lookup x).isSome
  val : ∀ x v, K.ok x → l.lookup x = some v → ∀ z, D.atKey (K.lit x) z = .held v
theorem Tab.nil (K : KeyKind P k κ) : Tab K (.map [] : DataW Value) [] :=
  ⟨Maps.tidy_empty, by simp, rfl, fun x _ => by simp [Maps.has_eq], by simp⟩
theorem lookup_other [LawfulBEq κ] {l : List (κ × Value)} {x y : κ} {v : Value} (h : y ≠ x) : (l ++ [(x, v)]).lookup y = l.lookup y := by
  rw [List.lookup_append]
  have : List.lookup y [(x, v)] = none := by
    have h1 : (y == x) = false := by simpa using h
    simp [List.lookup, h1]
  rw [this, Option.or_none]
theorem lookup_same [LawfulBEq κ] {l : List (κ × Value)} {x : κ} {v : Value} (h : l.lookup x = none) : (l ++ [(x, v)]).lookup x = some v := by
  rw [List.lookup_append, h]
  simp [List.lookup]
theorem Tab.snoc [LawfulBEq κ] {K : KeyKind P k κ} {D : DataW Value} {l : List (κ × Value)} {x : κ} {v : Value} (h : Tab K D l) (hx : K.ok x) (hn : l.lookup x = none) :
    Tab K (D.put (K.lit x) (.held v)) (l ++ [(x, v)]) := by
  have hne : ∀ y, K.ok y → y ≠ x → K.lit y ≠ K.lit x := fun y hy hh hk => hh (K.lit_inj hy hx hk)
  refine ⟨h.tidy.put (K.lit_key hx) _, ?_, ?_, ?_, ?_⟩
  · intro e he
    rcases List.mem_append.1 he with he | he
    · exact h.ok e he
    · rw [List.mem_singleton.1 he]; exact hx
  · rw [Maps.size_put h.tidy, h.has x hx, h.size, hn]
    simp
  · intro y hy
    by_cases hyx : y = x
    · subst hyx
      rw [Maps.has_put_same h.tidy.isMap (K.lit_key hy), lookup_same hn]
      rfl
    · rw [Maps.has_put_other (hne y hy hyx), h.has y hy, lookup_other hyx]
  · intro y u hy hl z
    by_cases hyx : y = x
    · subst hyx
      rw [lookup_same hn] at hl
      cases hl
      rw [Maps.atKey_put_same h.tidy.isMap (K.lit_key hy)]
    · rw [lookup_other hyx] at hl
      rw [Maps.atKey_put_other (hne y hy hyx)]
      exact h.val y u hy hl z
theorem tab_fr {w w' : World} {S : List Nat} {b n : Nat} {D : DataW Value} (h : w.ownsMap P k heldElem b n D) (hf : Fr S w w') (hn : ¬ b ∈ S) : w'.ownsMap P k heldElem b n D := by
  obtain ⟨es, clock, hb, r⟩ := h
  exact ⟨es, clock, hf.heap hb hn, r⟩
theorem Fr.turnedT {S : List Nat} {a w w' : World} {b : Nat} (h : Fr S a w) (hm : w.mapTurned w' b) (hb : b < a.heap.size → b ∈ S) : Fr S a w' :=
  h.grown hm.grown (fun k hk => by cases hk; exact hb)
/-- what a look-up tells: the value, or the zero value -/
theorem tab_look {K : KeyKind P k κ} {D : DataW Value} {l : List (κ × Value)} {b n : Nat} {w : World} {t e : TypeId} (h2 : w.ownsMap P k heldElem b n D) (h3 : Tab K D l) (ht : P.underlying t = some (.map k e))
    {z : Value} (hz : (zeroValue e).run P w = .ok z w) {x : κ} (hx : K.ok x) :
    (Instr.lookup t (.map (some b)) (K.val x) true).run P w = .ok (.tuple #[(l.lookup x).getD z, .bool (l.lookup x).isSome]) w := by
  obtain ⟨v, ps, hrun, hv⟩ := h2.look_ok K.keyed ht hz (show heldElem z = some (.held z, []) from rfl) (K.key x hx)
  rw [hrun, h3.has x hx]
  have hv' : DataW.held v = D.atKey (K.lit x) (.held z) := by
    have := hv
    simp only [heldElem, Option.some.injEq, Prod.mk.injEq] at this
    exact this.1
  rcases hl : l.lookup x with _ | u
  · have hh : Maps.has D (K.lit x) = false := by rw [h3.has x hx, hl]; rfl
    rw [Maps.atKey_of_not_has hh] at hv'
    cases hv'
    rfl
  · rw [h3.val x u hx hl] at hv'
    cases hv'
    rfl
theorem tab_look1 {K : KeyKind P k κ} {D : DataW Value} {l : List (κ × Value)} {b n : Nat} {w : World} {t e : TypeId} (h2 : w.ownsMap P k heldElem b n D) (h3 : Tab K D l) (ht : P.underlying t = some (.map k e))
    {z : Value} (hz : (zeroValue e).run P w = .ok z w) {x : κ} (hx : K.ok x) :
    (Instr.lookup t (.map (some b)) (K.val x) false).run P w = .ok ((l.lookup x).getD z) w := by
  obtain ⟨v, ps, hrun, hv⟩ := h2.lookup K.keyed ht hz (show heldElem z = some (.held z, []) from rfl) (K.key x hx)
  rw [hrun]
  have hv' : DataW.held v = D.atKey (K.lit x) (.held z) := by
    have := hv
    simp only [heldElem, Option.some.injEq, Prod.mk.injEq] at this
    exact this.1
  rcases hl : l.lookup x with _ | u
  · have hh : Maps.has D (K.lit x) = false := by rw [h3.has x hx, hl]; rfl
    rw [Maps.atKey_of_not_has hh] at hv'
    cases hv'
    rfl
  · rw [h3.val x u hx hl] at hv'
    cases hv'
    rfl
/-- a map at block b -/
def MapAt (K : KeyKind P k κ) (w : World) (b : Nat) (l : List (κ × Value)) : Prop := ∃ D, w.ownsMap P k heldElem b l.length D ∧ Tab K D l
theorem MapAt.keep {K : KeyKind P k κ} {w w' : World} {S : List Nat} {b : Nat} {l : List (κ × Value)} (h : MapAt K w b l) (hf : Fr S w w') (hn : ¬ b ∈ S) : MapAt K w' b l := by
  obtain ⟨D, h1, h2⟩ := h
  exact ⟨D, tab_fr h1 hf hn, h2⟩
theorem MapAt.lt {K : KeyKind P k κ} {w : World} {b : Nat} {l : List (κ × Value)} (h : MapAt K w b l) : b < w.heap.size := by
  obtain ⟨D, h1, h2⟩ := h
  exact h1.lt
theorem MapAt.ne {K : KeyKind P k κ} {w : World} {b g : Nat} {l : List (κ × Value)} {t : TypeId} {cs : Array Value} (h : MapAt K w b l) (hb : Blk w g t cs) : g ≠ b := by
  rintro rfl
  obtain ⟨D, ⟨es, clock, h1, _⟩, _⟩ := h
  unfold Blk at hb
  rw [h1] at hb
  cases hb
theorem MapAt.drewN {K : KeyKind P k κ} {w : World} {b : Nat} {l : List (κ × Value)} (h : MapAt K w b l) (n : Nat) : MapAt K (w.drewN n) b l := h
theorem MapAt.drew {K : KeyKind P k κ} {w : World} {b : Nat} {l : List (κ × Value)} (h : MapAt K w b l) : MapAt K w.drew b l := h
theorem MapAt.made (K : KeyKind P k κ) (w : World) : MapAt K (w.alloc (.map #[] 0)) w.heap.size [] := ⟨_, World.ownsMap_made _ _ _ _, Tab.nil K⟩
theorem MapAt.look {K : KeyKind P k κ} {w : World} {b : Nat} {l : List (κ × Value)} (h : MapAt K w b l) {t e : TypeId} (ht : P.underlying t = some (.map k e))
    {z : Value} (hz : ∀ w, (zeroValue e).run P w = .ok z w) {x : κ} (hx : K.ok x) :
    (Instr.lookup t (.map (some b)) (K.val x) true).run P w = .ok (.tuple #[(l.lookup x).getD z, .bool (l.lookup x).isSome]) w := by
  obtain ⟨D, h1, h2⟩ := h
  exact tab_look h1 h2 ht (hz w) hx
theorem MapAt.look1 {K : KeyKind P k κ} {w : World} {b : Nat} {l : List (κ × Value)} (h : MapAt K w b l) {t e : TypeId} (ht : P.underlying t = some (.map k e))
    {z : Value} (hz : ∀ w, (zeroValue e).run P w = .ok z w) {x : κ} (hx : K.ok x) :
    (Instr.lookup t (.map (some b)) (K.val x) false).run P w = .ok ((l.lookup x).getD z) w := by
  obtain ⟨D, h1, h2⟩ := h
  exact tab_look1 h1 h2 ht (hz w) hx
theorem MapAt.len {K : KeyKind P k κ} {w : World} {b : Nat} {l : List (κ × Value)} (h : MapAt K w b l) {t e : TypeId} (ht : P.underlying t = some (.map k e)) (ty : TypeId) :
    (Builtin.len_ #[t] ty #[.map (some b)]).run P w = .ok (.int .i64 l.length) w := by
  obtain ⟨D, h1, h2⟩ := h
  rw [h1.len ht ty, h2.size]
theorem MapAt.store [LawfulBEq κ] {K : KeyKind P k κ} {w : World} {b : Nat} {l : List (κ × Value)} (h : MapAt K w b l) {t e : TypeId} (ht : P.underlying t = some (.map k e)) (hl : l.length < maxLen) {x : κ} (hx : K.ok x) (hn : l.lookup x = none) (v : Value) :
    ∃ w', (Instr.mapUpdate t (.map (some b)) (K.val x) v).run P w = .ok () w' ∧ MapAt K w' b (l ++ [(x, v)]) ∧ Fr [b] w w' := by
  obtain ⟨D, h1, h2⟩ := h
  obtain ⟨w', hrun, hown, hturn⟩ := h1.store K.keyed ht hl (K.key x hx) (show heldElem v = some (.held v, []) from rfl)
  refine ⟨w', hrun, ⟨_, ?_, h2.snoc hx hn⟩, (Fr.refl [b] w).turnedT hturn (by simp)⟩
  simpa using hown
/-- 'm[x], ... = v, ...': the entry is made first, its value stored later -/
theorem MapAt.entry [LawfulBEq κ] {K : KeyKind P k κ} (hlaw : Go.WideMaps.KeyLaw P k) {w : World} {b : Nat} {l : List (κ × Value)} (h : MapAt K w b l) {t e : TypeId} (ht : P.underlying t = some (.map k e)) (hl : l.length < maxLen) {z : Value} (hz : ∀ u : World, (zeroValue e).run P u = .ok z u)
    {x : κ} (hx : K.ok x) (hn : l.lookup x = none) :
    ∃ v0 st w1, (Instr.mapEntry t (.map (some b)) (K.val x)).run P w = .ok (.tuple #[v0, goInt st]) w1 ∧ Fr [b] w w1 ∧ ∀ (w2 : World) (v : Value), w2.heap[b]? = w1.heap[b]? →
      ∃ w3, (Instr.entryStore t (.map (some b)) (goInt st) v).run P w2 = .ok () w3 ∧ MapAt K w3 b (l ++ [(x, v)]) ∧ Fr [b] w2 w3 := by
  have hall := fun v => h.store ht hl hx hn v
  obtain ⟨D, ⟨es, clock, hb, F, hs, hD⟩, h2⟩ := h
  obtain ⟨v0, st, es1, clock1, hrun, _, hst⟩ := Go.WideElems.entry_then_store hlaw ht hz hb F (K.key x hx)
  refine ⟨v0, st, _, hrun, ⟨rfl, rfl, rfl, by simp [ChangeMaps.setBlock], fun i _ hi => Go.ChangeMaps.heap_setBlock_other hb _ (by simpa using hi)⟩, fun w2 v hw2 => ?_⟩
  rw [Go.ChangeMaps.heap_setBlock_same hb] at hw2
  obtain ⟨es', clock', h3, h4⟩ := hst w2 v hw2
  obtain ⟨w', hrun', hmap, _⟩ := hall v
  rw [h4] at hrun'
  cases hrun'
  refine ⟨_, h3, ?_, ⟨rfl, rfl, rfl, by simp [ChangeMaps.setBlock], fun i _ hi => Go.ChangeMaps.heap_setBlock_other hw2 _ (by simpa using hi)⟩⟩
  obtain ⟨D', ⟨es2, clock2, hb2, r⟩, h5⟩ := hmap
  rw [Go.ChangeMaps.heap_setBlock_same hb] at hb2
  exact ⟨D', ⟨es2, clock2, (Go.ChangeMaps.heap_setBlock_same hw2 _).trans hb2, r⟩, h5⟩
/-- a block that is as this one is such a map too (maps.Clone) -/
theorem MapAt.raw {K : KeyKind P k κ} {w : World} {b : Nat} {l : List (κ × Value)} (h : MapAt K w b l) : ∃ es clock, w.heap[b]? = some (.map es clock) ∧ ∀ w' b', w'.heap[b']? = some (.map es clock) → MapAt K w' b' l := by
  obtain ⟨D, ⟨es, clock, hb, r⟩, h2⟩ := h
  exact ⟨es, clock, hb, fun w' b' hb' => ⟨D, ⟨es, clock, hb', r⟩, h2⟩⟩
end
end Go.Proofs.Ytfmkegblhpnfcaa
