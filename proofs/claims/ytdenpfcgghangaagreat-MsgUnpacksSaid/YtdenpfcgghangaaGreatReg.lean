/- Moves of a walk through a region that draws its order: one operation at a time, while only new memory changes. Plain lemmas; no program. -/
import Derived.Test.YtdenpfcgghangaaGreatMem
import Derived.Deep.RegionHeld
import Derived.Deep.MidRow
set_option linter.unusedSimpArgs false
set_option linter.unusedVariables false
namespace Go.Proofs.YtdenpfcgghangaaGreat
open Go.RowKit
set_option maxRecDepth 100000
def nthOp : List Oper → Nat → Option Oper
 | [], _ => none
 | o :: _, 0 => some o
 | _ :: r, n + 1 => nthOp r n
theorem nthOp_eq : ∀ (l : List Oper) (i : Nat), l[i]? = nthOp l i
 | [], _ => rfl
 | _ :: _, 0 => rfl
 | _ :: r, n + 1 => by rw [List.getElem?_cons_succ]; exact nthOp_eq r n
def takeOk (md : Region.Mode) (ops : Array Oper) (listed : Array Bool) (i : Nat) : Bool := Region.noSelect ops && Region.free md ops listed i && (Region.ready md ops listed).contains i
section
variable {P : Program} {l : List Oper} {Q : Exit → Act → World → Prop} {md : Region.Mode} {S : World → Prop} {fuel : Nat} {listed : Array Bool} {a : Act} {w : World}
theorem take_at {i : Nat} {oi : Oper} {v : Value} (hi : nthOp l i = some oi) (ht : takeOk md l.toArray listed i = true)
  (hQ : ∀ c a w, Q (.panic c) (a.put oi.dst v) w → Q (.panic c) a w) (hy : YieldsIf P l.toArray S oi v a) (hS : S w)
  (h : wpAnyH P md l.toArray Q S fuel (listed.setIfInBounds i true) (a.put oi.dst v) w) : wpAnyH P md l.toArray Q S (fuel + 1) listed a w := by
 unfold takeOk at ht
 simp only [Bool.and_eq_true] at ht
 exact wpAnyH_take (by rw [List.getElem?_toArray, nthOp_eq, hi]) ht.1.1 ht.1.2 ht.2 hQ hy hS h
theorem run_at {i : Nat} {oi : Oper} (hi : nthOp l i = some oi) (ht : takeOk md l.toArray listed i = true) (hw : Region.wanted oi (yielded l.toArray a.tmps) = true) {v : Value}
  (hQ : ∀ c a w, Q (.panic c) (a.put oi.dst v) w → Q (.panic c) a w) (hS : S w) (hy : ∀ w1, S w1 → (execOp a.eval oi).run P w1 = .ok (.value v) w1)
  (h : wpAnyH P md l.toArray Q S fuel (listed.setIfInBounds i true) (a.put oi.dst v) w) : wpAnyH P md l.toArray Q S (fuel + 1) listed a w :=
 take_at hi ht hQ (.inl ⟨hw, hy⟩) hS h
def RowTy (P : Program) (ty : TypeId) (n : Nat) : Prop := (P.underlying ty).any (·.isRow) = true ∧ (P.info? ty).map (·.size) = some n
theorem row_at {i : Nat} {oi : Oper} (hi : nthOp l i = some oi) (ht : takeOk md l.toArray listed i = true) (hw : Region.wanted oi (yielded l.toArray a.tmps) = true)
  (ty : TypeId) (x : Operand) (ho : oi.op = .load ty x) (b o : Nat) (hx : a.eval x = .pointer (some ⟨b, o, none⟩)) (cs : List Value) (hc : ∀ w1, S w1 → w1.rangeAt b o cs) (hr : RowTy P ty cs.length)
  (hQ : ∀ c a w, Q (.panic c) (a.put oi.dst (.agg cs.toArray)) w → Q (.panic c) a w) (hS : S w)
  (h : wpAnyH P md l.toArray Q S fuel (listed.setIfInBounds i true) (a.put oi.dst (.agg cs.toArray)) w) : wpAnyH P md l.toArray Q S (fuel + 1) listed a w := by
 obtain ⟨h1, h2⟩ := hr
 cases hu : P.underlying ty with
 | none => rw [hu] at h1; cases h1
 | some d =>
   rw [hu] at h1
   exact take_at hi ht hQ (yieldsIf_load_mid hw ty x ho b o hx cs d hc hu (by simpa using h1) h2) hS h
theorem call_at {i : Nat} {o : Oper} (hi : nthOp l i = some o) (hr : Region.ready md l.toArray listed = [i]) (hw : Region.wanted o (yielded l.toArray a.tmps) = true)
  {f : FuncId} {args : Array Value} (he : (execOp a.eval o).run P w = .ok (.enter f args) w)
  (h : Calls P f args w fun e w' => ∃ v, e = .returned v ∧ S w' ∧ (S w' → wpAnyH P md l.toArray Q S fuel (listed.setIfInBounds i true) (a.put o.dst v) w')) : wpAnyH P md l.toArray Q S (fuel + 1) listed a w := by
 refine wpAnyH_ready (rs := [i]) hr (by simp) (AllReadyH.cons (o := o) (by rw [List.getElem?_toArray, nthOp_eq, hi]) (fun K hK => ?_) AllReadyH.nil)
 rw [if_pos hw]
 unfold Oper.wp
 rw [he, Oper.upon_enter]
 refine h.mono ?_
 rintro e w' ⟨v, rfl, h1, h2⟩
 exact hK.out _ _ h1 h2
theorem step_at {i : Nat} {o : Oper} (hi : nthOp l i = some o) (hr : Region.ready md l.toArray listed = [i]) (hw : Region.wanted o (yielded l.toArray a.tmps) = true)
  (h : ∀ K : Act → World → Prop, Shut (∀ a w, S w → (S w → wpAnyH P md l.toArray Q S fuel (listed.setIfInBounds i true) a w) → K a w) → Oper.wp P o a w K Q) : wpAnyH P md l.toArray Q S (fuel + 1) listed a w := by
 refine wpAnyH_ready (rs := [i]) hr (by simp) (AllReadyH.cons (o := o) (by rw [List.getElem?_toArray, nthOp_eq, hi]) (fun K hK => ?_) AllReadyH.nil)
 rw [if_pos hw]
 exact h K hK
theorem two_at {i j : Nat} {o p : Oper} (hi : nthOp l i = some o) (hj : nthOp l j = some p) (hr : Region.ready md l.toArray listed = [i, j]) (hw : Region.wanted o (yielded l.toArray a.tmps) = true) (hw2 : Region.wanted p (yielded l.toArray a.tmps) = true)
  (h : ∀ K : Act → World → Prop, Shut (∀ a w, S w → (S w → wpAnyH P md l.toArray Q S fuel (listed.setIfInBounds i true) a w) → K a w) → Oper.wp P o a w K Q)
  (h2 : ∀ K : Act → World → Prop, Shut (∀ a w, S w → (S w → wpAnyH P md l.toArray Q S fuel (listed.setIfInBounds j true) a w) → K a w) → Oper.wp P p a w K Q) : wpAnyH P md l.toArray Q S (fuel + 1) listed a w := by
 refine wpAnyH_ready (rs := [i, j]) hr (by simp) (AllReadyH.cons (o := o) (by rw [List.getElem?_toArray, nthOp_eq, hi]) (fun K hK => ?_) (AllReadyH.cons (o := p) (by rw [List.getElem?_toArray, nthOp_eq, hj]) (fun K hK => ?_) AllReadyH.nil))
 · rw [if_pos hw]
   exact h K hK
 · rw [if_pos hw2]
   exact h2 K hK
theorem wp_call {o : Oper} {K : Act → World → Prop} {f : FuncId} {args : Array Value} (he : (execOp a.eval o).run P w = .ok (.enter f args) w)
  (h : Calls P f args w fun e w' => ∃ v, e = .returned v ∧ K (a.put o.dst v) w') : Oper.wp P o a w K Q := by
 unfold Oper.wp
 rw [he, Oper.upon_enter]
 refine h.mono ?_
 rintro e w' ⟨v, rfl, h1⟩
 exact h1
theorem wp_run {o : Oper} {K : Act → World → Prop} {v : Value} {w' : World} (he : (execOp a.eval o).run P w = .ok (.value v) w') (h : K (a.put o.dst v) w') : Oper.wp P o a w K Q := by
 unfold Oper.wp
 rw [he]
 exact h
end
theorem wp_store_blk {P : Program} {o : Oper} {a : Act} {w : World} {K : Act → World → Prop} {Q : Exit → Act → World → Prop} (ty : TypeId) (x y : Operand) (ho : o.op = .store ty x y)
  (g : Nat) (cells : Array Value) (hx : a.eval x = .pointer (some ⟨g, 0, none⟩)) (hy : a.eval y = .agg cells)
  (t : TypeId) (old : Array Value) (hg : Blk w g t old) (hi : (P.info? ty).map (·.size) = some cells.size)
  (hold : old.size = cells.size) (h1 : cells.all (·.oneCell') = true)
  (h : ∀ w', Blk w' g t cells → Fr [g] w w' → K (a.put o.dst undef) w') : o.wp P a w K Q :=
 wp_store_row ty x y ho g cells hx hy t old hg hi hold h1 (h _ (setRow_blk hg cells) (setRow_fr w g cells))
theorem exec_build {P : Program} {ev : Operand → Value} {o : Oper} {w : World} (t : TypeId) (parts : Array (Nat × Operand)) (ho : o.op = .build t parts) (cells : Array Value) (h : P.built t (parts.map fun (i, x) => (i, ev x)).toList = some cells) :
  (execOp ev o).run P w = .ok (.value (.agg cells)) w := by
 unfold execOp
 simp only [ho, Sem.run_bind, run_build w t _ cells h, Result.andThen_ok]
 rfl
theorem Fr.go {S T : List Nat} {a b c : World} (h : Fr S a b) (k : Fr T b c) (ht : ∀ x ∈ T, a.heap.size ≤ x) : Fr S a c := h.trans k (fun x hx hl => by have := ht x hx; omega)
theorem wp_row {P : Program} {o : Oper} {a : Act} {w : World} {K : Act → World → Prop} {Q : Exit → Act → World → Prop} (ty : TypeId) (x : Operand) (ho : o.op = .load ty x)
  (b off : Nat) (hx : a.eval x = .pointer (some ⟨b, off, none⟩)) (cs : List Value) (hc : w.rangeAt b off cs) (hr : RowTy P ty cs.length) (h : K (a.put o.dst (.agg cs.toArray)) w) : o.wp P a w K Q := by
 obtain ⟨h1, h2⟩ := hr
 cases hu : P.underlying ty with
 | none => rw [hu] at h1; cases h1
 | some d =>
   rw [hu] at h1
   exact wp_load_mid ty x ho b off hx cs d hc hu (by simpa using h1) h2 h
theorem wpList_store_blk {P : Program} {ops : Array Oper} {rest : List Oper} {o : Oper} {a : Act} {w : World} {Q : Exit → Act → World → Prop} (hgd : o.guard = none) (ty : TypeId) (x y : Operand) (ho : o.op = .store ty x y)
  (g : Nat) (cells : Array Value) (hx : a.eval x = .pointer (some ⟨g, 0, none⟩)) (hy : a.eval y = .agg cells)
  (t : TypeId) (old : Array Value) (hg : Blk w g t old) (hi : (P.info? ty).map (·.size) = some cells.size)
  (hold : old.size = cells.size) (h1 : cells.all (·.oneCell') = true)
  (h : ∀ w', Blk w' g t cells → Fr [g] w w' → wpList P ops Q rest (a.put o.dst undef) w') : wpList P ops Q (o :: rest) a w :=
 wpList_plain hgd fun _ hK => wp_store_blk ty x y ho g cells hx hy t old hg hi hold h1 fun w' hb hf => hK _ _ (h w' hb hf)
/-! ### ranges of cells -/
theorem Fr.range {S : List Nat} {w w' : World} (h : Fr S w w') {b o : Nat} {cs : List Value} (hr : w.rangeAt b o cs) (hb : ¬ b ∈ S) : w'.rangeAt b o cs :=
 fun j v hv => h.cell (hr j v hv) hb
theorem Blk.range {w : World} {g : Nat} {t : TypeId} {cs : List Value} (h : Blk w g t cs.toArray) : w.rangeAt g 0 cs := fun j v hv => by
 rw [Nat.zero_add, h.cell j]; simpa using hv
theorem rangeAt_sub {w : World} {b o : Nat} {xs ys zs : List Value} (h : w.rangeAt b o (xs ++ (ys ++ zs))) : w.rangeAt b (o + xs.length) ys := fun j v hv => by
 have := h (xs.length + j) v (by
  rw [List.getElem?_append_right (by omega), Nat.add_sub_cancel_left, List.getElem?_append_left (List.getElem?_eq_some_iff.1 hv).1]
  exact hv)
 rwa [← Nat.add_assoc] at this
theorem rangeAt_cell {w : World} {b o : Nat} {cs : List Value} (h : w.rangeAt b o cs) (j : Nat) {v : Value} (hv : cs[j]? = some v) {k : Nat} (hk : o + j = k) : w.cell? ⟨b, k, none⟩ = some v := by
 subst hk; exact h j v hv
end Go.Proofs.YtdenpfcgghangaaGreat
