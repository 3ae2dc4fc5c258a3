/- A region that draws its order and stores at its end into blocks that it has read: two conditions on the world, one that holds all along, one that holds till a given operation has come up. Plain lemmas; no program. -/
import Derived.Test.YtnpjihdhpoddgaaReg
namespace Go.Proofs.Ytnpjihdhpoddgaa
open Go.RowKit
set_option maxRecDepth 100000

/-- whatever has come up, so has all that it waits for -/
def Cl (md : Region.Mode) (ops : Array Oper) (L : Array Bool) : Prop :=
  ∀ j oj, ops[j]? = some oj → L.getD j false = true → ∀ e ∈ oj.after, Region.binds md e = true → L.getD e.on false = true
/-- does k wait for i, straight or through others? -/
def awaits (md : Region.Mode) (ops : Array Oper) : Nat → Nat → Nat → Bool
  | 0, _, _ => false
  | f + 1, k, i => match ops[k]? with
    | none => false
    | some o => o.after.any fun e => Region.binds md e && (e.on == i || awaits md ops f e.on i)
theorem awaits_listed {md : Region.Mode} {ops : Array Oper} {L : Array Bool} (hc : Cl md ops L) : ∀ (f k i : Nat), awaits md ops f k i = true → L.getD k false = true → L.getD i false = true
  | 0, _, _, h, _ => by simp [awaits] at h
  | f + 1, k, i, h, hk => by
    unfold awaits at h
    cases ho : ops[k]? with
    | none => rw [ho] at h; simp at h
    | some o =>
      rw [ho] at h
      simp only [Array.any_eq_true] at h
      obtain ⟨n, hn, hb⟩ := h
      simp only [Bool.and_eq_true, Bool.or_eq_true, beq_iff_eq] at hb
      have hl := hc k o ho hk _ (Array.getElem_mem hn) hb.1
      rcases hb.2 with h2 | h2
      · rw [← h2]; exact hl
      · exact awaits_listed hc f _ _ h2 hl
theorem getD_two {L : Array Bool} {i : Nat} (h : L.getD i true = false) : L.getD i false = false := by
  rcases Nat.lt_or_ge i L.size with h' | h'
  · simpa [h'] using h
  · simp [Array.getElem?_eq_none h']
theorem pending {md : Region.Mode} {ops : Array Oper} {T i : Nat} (h : awaits md ops ops.size T i = true) (L : Array Bool) (hc : Cl md ops L) (hp : L.getD i true = false) : L.getD T false = false := by
  cases ht : L.getD T false with
  | false => rfl
  | true =>
    have h1 := awaits_listed hc _ _ _ h ht
    rw [getD_two hp] at h1
    cases h1
def wpTill (P : Program) (md : Region.Mode) (ops : Array Oper) (Q : Exit → Act → World → Prop) (T : Nat) (A B : World → Prop) : Nat → Array Bool → Act → World → Prop
  | 0, L, a, w => Region.ready md ops L = [] ∧ Q .normal a w
  | f + 1, L, a, w => (Region.ready md ops L = [] → Q .normal a w) ∧
    ∀ i ∈ Region.ready md ops L, wpOp P ops Q i (fun a' w' => (A w' ∧ ((L.setIfInBounds i true).getD T false = false → B w')) ∧ wpTill P md ops Q T A B f (L.setIfInBounds i true) a' w') a w
section
variable {P : Program} {ops : Array Oper} {Q : Exit → Act → World → Prop} {md : Region.Mode} {T : Nat} {A B : World → Prop}
theorem wpAny_of_till : ∀ (f : Nat) (L : Array Bool) (a : Act) (w : World), wpTill P md ops Q T A B f L a w → wpAny P md ops Q f L a w
  | 0, _, _, _, h => h
  | f + 1, _, _, _, h => ⟨h.1, fun i hi => wpOp_mono (fun a' w' h' => wpAny_of_till f _ a' w' h'.2) (h.2 i hi)⟩
theorem Cl.set {L : Array Bool} (hc : Cl md ops L) {i : Nat} (hi : i ∈ Region.ready md ops L) : Cl md ops (L.setIfInBounds i true) := by
  obtain ⟨_, oi, hoi, hall⟩ := mem_ready.1 hi
  intro j oj hj hl e he hb
  have up : ∀ k, L.getD k false = true → (L.setIfInBounds i true).getD k false = true := fun k hk => by
    by_cases hik : i = k
    · subst hik
      rcases Nat.lt_or_ge i L.size with h' | h'
      · simp [h']
      · simp [Array.getElem?_eq_none h'] at hk
    · rw [getD_set_ne false hik]; exact hk
  by_cases hij : i = j
  · subst hij
    have : oi = oj := Option.some.inj (hoi.symm.trans hj)
    subst this
    exact up _ (hall e he hb)
  · rw [getD_set_ne false hij] at hl
    exact up _ (hc j oj hj hl e he hb)
/-- an operation that yields the same wherever both conditions hold, and for which T waits, may be taken first -/
theorem till_take {i : Nat} {oi : Oper} {v : Value} (hi : ops[i]? = some oi) (hs : Region.noSelect ops = true) (hiT : i ≠ T) (hp : awaits md ops ops.size T i = true) (hQ : ∀ c a w, Q (.panic c) (a.put oi.dst v) w → Q (.panic c) a w) :
    ∀ (f : Nat) (L : Array Bool) (a : Act) (w : World), (∀ j oj, ops[j]? = some oj → j ≠ i → L.getD j true = false → (∀ e ∈ oj.after, Region.binds md e = true → e.on ≠ i) → oi.apart ops oj = true) →
      Cl md ops L → i ∈ Region.ready md ops L → YieldsIf P ops (fun w => A w ∧ B w) oi v a → A w → B w →
      wpTill P md ops Q T A B f (L.setIfInBounds i true) (a.put oi.dst v) w → wpTill P md ops Q T A B (f + 1) L a w := by
  have hsel := Region.noSelect_spec hs
  intro f
  induction f with
  | zero =>
    intro L a w _ _ hr hy hA hB H
    refine ⟨fun h => (by rw [h] at hr; cases hr), fun j hj => ?_⟩
    by_cases hji : j = i
    · subst hji; exact hy.wpOp hi ⟨hA, hB⟩ ⟨⟨hA, fun _ => hB⟩, H⟩
    · have h0 := ready_mono hj hji
      rw [H.1] at h0
      cases h0
  | succ f ih =>
    intro L a w hap hc hr hy hA hB H
    refine ⟨fun h => (by rw [h] at hr; cases hr), fun j hj => ?_⟩
    by_cases hji : j = i
    · subst hji; exact hy.wpOp hi ⟨hA, hB⟩ ⟨⟨hA, fun _ => hB⟩, H⟩
    · obtain ⟨hjun, oj, hoj, hall⟩ := mem_ready.1 hj
      have hiun := (mem_ready.1 hr).1
      have hno : ∀ e ∈ oj.after, Region.binds md e = true → e.on ≠ i := fun e he hb heq => by
        have h1 := hall e he hb
        rw [heq, getD_two hiun] at h1
        cases h1
      have h2 := wpOp_putIf hoj (hap j oj hoj hji hjun hno) (hsel i oi · · hi) (hsel j oj · · hoj) hQ hy (H.2 j (ready_mono hj hji))
      have hap' : ∀ k ok, ops[k]? = some ok → k ≠ i → (L.setIfInBounds j true).getD k true = false → (∀ e ∈ ok.after, Region.binds md e = true → e.on ≠ i) → oi.apart ops ok = true := fun k ok hk hki hun => by
        refine hap k ok hk hki ?_
        by_cases hjk : j = k
        · subst hjk; exact hjun
        · rwa [getD_set_ne true hjk] at hun
      have hr' := ready_mono hr (Ne.symm hji)
      have hc' := hc.set hj
      refine wpOp_mono (fun a' w' h3 => ?_) h2
      obtain ⟨hy', ⟨hA', hB'⟩, h4⟩ := h3
      rw [Array.setIfInBounds_comm _ _ (Ne.symm hji)] at h4 hB'
      have hT := pending hp _ hc' (mem_ready.1 hr').1
      have hB'' := hB' (by rw [getD_set_ne false hiT]; exact hT)
      exact ⟨⟨hA', fun _ => hB''⟩, ih (L.setIfInBounds j true) a' w' hap' hc' hr' hy' hA' hB'' h4⟩
/-- an operation that yields the same wherever the first condition holds may be taken first, whether T waits for it or not -/
theorem till_free {i : Nat} {oi : Oper} {v : Value} (hi : ops[i]? = some oi) (hs : Region.noSelect ops = true) (hiT : i ≠ T) (hQ : ∀ c a w, Q (.panic c) (a.put oi.dst v) w → Q (.panic c) a w) :
    ∀ (f : Nat) (L : Array Bool) (a : Act) (w : World), (∀ j oj, ops[j]? = some oj → j ≠ i → L.getD j true = false → (∀ e ∈ oj.after, Region.binds md e = true → e.on ≠ i) → oi.apart ops oj = true) →
      i ∈ Region.ready md ops L → YieldsIf P ops A oi v a → A w → (L.getD T false = false → B w) →
      wpTill P md ops Q T A B f (L.setIfInBounds i true) (a.put oi.dst v) w → wpTill P md ops Q T A B (f + 1) L a w := by
  have hsel := Region.noSelect_spec hs
  intro f
  induction f with
  | zero =>
    intro L a w _ hr hy hA hB H
    refine ⟨fun h => (by rw [h] at hr; cases hr), fun j hj => ?_⟩
    by_cases hji : j = i
    · subst hji; exact hy.wpOp hi hA ⟨⟨hA, fun h => hB (by rwa [getD_set_ne false hiT] at h)⟩, H⟩
    · have h0 := ready_mono hj hji
      rw [H.1] at h0
      cases h0
  | succ f ih =>
    intro L a w hap hr hy hA hB H
    refine ⟨fun h => (by rw [h] at hr; cases hr), fun j hj => ?_⟩
    by_cases hji : j = i
    · subst hji; exact hy.wpOp hi hA ⟨⟨hA, fun h => hB (by rwa [getD_set_ne false hiT] at h)⟩, H⟩
    · obtain ⟨hjun, oj, hoj, hall⟩ := mem_ready.1 hj
      have hiun := (mem_ready.1 hr).1
      have hno : ∀ e ∈ oj.after, Region.binds md e = true → e.on ≠ i := fun e he hb heq => by
        have h1 := hall e he hb
        rw [heq, getD_two hiun] at h1
        cases h1
      have h2 := wpOp_putIf hoj (hap j oj hoj hji hjun hno) (hsel i oi · · hi) (hsel j oj · · hoj) hQ hy (H.2 j (ready_mono hj hji))
      have hap' : ∀ k ok, ops[k]? = some ok → k ≠ i → (L.setIfInBounds j true).getD k true = false → (∀ e ∈ ok.after, Region.binds md e = true → e.on ≠ i) → oi.apart ops ok = true := fun k ok hk hki hun => by
        refine hap k ok hk hki ?_
        by_cases hjk : j = k
        · subst hjk; exact hjun
        · rwa [getD_set_ne true hjk] at hun
      refine wpOp_mono (fun a' w' h3 => ?_) h2
      obtain ⟨hy', ⟨hA', hB'⟩, h4⟩ := h3
      rw [Array.setIfInBounds_comm _ _ (Ne.symm hji)] at h4 hB'
      have hB'' : (L.setIfInBounds j true).getD T false = false → B w' := fun h => hB' (by rw [getD_set_ne false hiT]; exact h)
      exact ⟨⟨hA', hB''⟩, ih (L.setIfInBounds j true) a' w' hap' (ready_mono hr (Ne.symm hji)) hy' hA' hB'' h4⟩
end
/-- is what has come up closed? -/
def clB (md : Region.Mode) (ops : Array Oper) (L : Array Bool) : Bool :=
  (List.range ops.size).all fun j => !L.getD j false || match ops[j]? with
    | none => true
    | some o => o.after.all fun e => !Region.binds md e || L.getD e.on false
theorem Cl.of {md : Region.Mode} {ops : Array Oper} {L : Array Bool} (h : clB md ops L = true) : Cl md ops L := by
  intro j oj hj hl e he hb
  have h1 := List.all_eq_true.1 h j (List.mem_range.2 (Array.getElem?_eq_some_iff.1 hj).1)
  rw [hj, hl] at h1
  simp only [Bool.not_true, Bool.false_or] at h1
  have h2 := Array.all_eq_true_iff_forall_mem.1 h1 e he
  rw [hb] at h2
  simpa using h2
def tillOk (md : Region.Mode) (ops : Array Oper) (T : Nat) (L : Array Bool) (i : Nat) : Bool :=
  takeOk md ops L i && clB md ops L && awaits md ops ops.size T i && !(i == T)
section
variable {P : Program} {l : List Oper} {Q : Exit → Act → World → Prop} {md : Region.Mode} {T : Nat} {A B : World → Prop} {fuel : Nat} {L : Array Bool} {a : Act} {w : World}
theorem till_at {i : Nat} {oi : Oper} {v : Value} (hi : nthOp l i = some oi) (ht : tillOk md l.toArray T L i = true)
    (hQ : ∀ c a w, Q (.panic c) (a.put oi.dst v) w → Q (.panic c) a w) (hy : YieldsIf P l.toArray (fun w => A w ∧ B w) oi v a) (hA : A w) (hB : B w)
    (h : wpTill P md l.toArray Q T A B fuel (L.setIfInBounds i true) (a.put oi.dst v) w) : wpTill P md l.toArray Q T A B (fuel + 1) L a w := by
  unfold tillOk takeOk at ht
  simp only [Bool.and_eq_true, Bool.not_eq_true', beq_eq_false_iff_ne] at ht
  obtain ⟨⟨⟨⟨⟨h1, h2⟩, h3⟩, h4⟩, h5⟩, h6⟩ := ht
  have hi' : l.toArray[i]? = some oi := by rw [List.getElem?_toArray, nthOp_eq, hi]
  exact till_take hi' h1 h6 h5 hQ fuel L a w (Region.free_spec hi' h2) (Cl.of h4) (by simpa using h3) hy hA hB h
theorem till_skip {i : Nat} {oi : Oper} (hi : nthOp l i = some oi) (ht : tillOk md l.toArray T L i = true)
    (hQ : ∀ c a w, Q (.panic c) (a.put oi.dst undef) w → Q (.panic c) a w) (hw : Region.wanted oi (yielded l.toArray a.tmps) = false) (hA : A w) (hB : B w)
    (h : wpTill P md l.toArray Q T A B fuel (L.setIfInBounds i true) (a.put oi.dst undef) w) : wpTill P md l.toArray Q T A B (fuel + 1) L a w :=
  till_at hi ht hQ (.inr ⟨hw, rfl⟩) hA hB h
theorem till_run {i : Nat} {oi : Oper} (hi : nthOp l i = some oi) (ht : tillOk md l.toArray T L i = true) (hw : Region.wanted oi (yielded l.toArray a.tmps) = true) {v : Value}
    (hQ : ∀ c a w, Q (.panic c) (a.put oi.dst v) w → Q (.panic c) a w) (hA : A w) (hB : B w) (hy : ∀ w1, B w1 → (execOp a.eval oi).run P w1 = .ok (.value v) w1)
    (h : wpTill P md l.toArray Q T A B fuel (L.setIfInBounds i true) (a.put oi.dst v) w) : wpTill P md l.toArray Q T A B (fuel + 1) L a w :=
  till_at hi ht hQ (.inl ⟨hw, fun w1 h1 => hy w1 h1.2⟩) hA hB h
theorem till_row {i : Nat} {oi : Oper} (hi : nthOp l i = some oi) (ht : tillOk md l.toArray T L i = true) (hw : Region.wanted oi (yielded l.toArray a.tmps) = true)
    (ty : TypeId) (x : Operand) (ho : oi.op = .load ty x) (b o : Nat) (hx : a.eval x = .pointer (some ⟨b, o, none⟩)) (cs : List Value) (hc : ∀ w1, B w1 → w1.rangeAt b o cs) (hr : RowTy P ty cs.length)
    (hQ : ∀ c a w, Q (.panic c) (a.put oi.dst (.agg cs.toArray)) w → Q (.panic c) a w) (hA : A w) (hB : B w)
    (h : wpTill P md l.toArray Q T A B fuel (L.setIfInBounds i true) (a.put oi.dst (.agg cs.toArray)) w) : wpTill P md l.toArray Q T A B (fuel + 1) L a w := by
  obtain ⟨h1, h2⟩ := hr
  cases hu : P.underlying ty with
  | none => rw [hu] at h1; cases h1
  | some d =>
    rw [hu] at h1
    exact till_at hi ht hQ (yieldsIf_load_mid hw ty x ho b o hx cs d (fun w1 h1 => hc w1 h1.2) hu (by simpa using h1) h2) hA hB h
theorem till_build {i : Nat} {oi : Oper} (hi : nthOp l i = some oi) (ht : tillOk md l.toArray T L i = true) (hw : Region.wanted oi (yielded l.toArray a.tmps) = true)
    (t : TypeId) (parts : List (Nat × Operand)) (ho : oi.op = .build t parts.toArray) (vals : List (Nat × Value)) (cells : Array Value) (hb : P.built t vals = some cells) (hv : parts.map (fun p => (p.1, a.eval p.2)) = vals)
    (hQ : ∀ c a w, Q (.panic c) (a.put oi.dst (.agg cells)) w → Q (.panic c) a w) (hA : A w) (hB : B w)
    (h : wpTill P md l.toArray Q T A B fuel (L.setIfInBounds i true) (a.put oi.dst (.agg cells)) w) : wpTill P md l.toArray Q T A B (fuel + 1) L a w :=
  till_run hi ht hw hQ hA hB (fun _ _ => exec_build t parts.toArray ho cells (by
    have e : (parts.toArray.map fun (i, x) => (i, a.eval x)).toList = vals := by rw [← hv]; simp
    rw [e]; exact hb)) h
theorem till_freeAt {i : Nat} {oi : Oper} {v : Value} (hi : nthOp l i = some oi) (ht : takeOk md l.toArray L i = true) (hiT : i ≠ T) (hw : Region.wanted oi (yielded l.toArray a.tmps) = true)
    (hQ : ∀ c a w, Q (.panic c) (a.put oi.dst v) w → Q (.panic c) a w) (hA : A w) (hB : L.getD T false = false → B w) (hy : ∀ w1, A w1 → (execOp a.eval oi).run P w1 = .ok (.value v) w1)
    (h : wpTill P md l.toArray Q T A B fuel (L.setIfInBounds i true) (a.put oi.dst v) w) : wpTill P md l.toArray Q T A B (fuel + 1) L a w := by
  unfold takeOk at ht
  simp only [Bool.and_eq_true] at ht
  have hi' : l.toArray[i]? = some oi := by rw [List.getElem?_toArray, nthOp_eq, hi]
  exact till_free hi' ht.1.1 hiT hQ fuel L a w (Region.free_spec hi' ht.1.2) (by simpa using ht.2) (.inl ⟨hw, hy⟩) hA hB h
theorem till_fbuild {i : Nat} {oi : Oper} (hi : nthOp l i = some oi) (ht : takeOk md l.toArray L i = true) (hiT : i ≠ T) (hw : Region.wanted oi (yielded l.toArray a.tmps) = true)
    (t : TypeId) (parts : List (Nat × Operand)) (ho : oi.op = .build t parts.toArray) (vals : List (Nat × Value)) (cells : Array Value) (hb : P.built t vals = some cells) (hv : parts.map (fun p => (p.1, a.eval p.2)) = vals)
    (hQ : ∀ c a w, Q (.panic c) (a.put oi.dst (.agg cells)) w → Q (.panic c) a w) (hA : A w) (hB : L.getD T false = false → B w)
    (h : wpTill P md l.toArray Q T A B fuel (L.setIfInBounds i true) (a.put oi.dst (.agg cells)) w) : wpTill P md l.toArray Q T A B (fuel + 1) L a w :=
  till_freeAt hi ht hiT hw hQ hA hB (fun _ _ => exec_build t parts.toArray ho cells (by
    have e : (parts.toArray.map fun (i, x) => (i, a.eval x)).toList = vals := by rw [← hv]; simp
    rw [e]; exact hb)) h
theorem till_one {i : Nat} {o : Oper} (hi : nthOp l i = some o) (hr : Region.ready md l.toArray L = [i]) (hw : Region.wanted o (yielded l.toArray a.tmps) = true)
    (h : Oper.wp P o a w (fun a' w' => (A w' ∧ ((L.setIfInBounds i true).getD T false = false → B w')) ∧ wpTill P md l.toArray Q T A B fuel (L.setIfInBounds i true) a' w') Q) : wpTill P md l.toArray Q T A B (fuel + 1) L a w := by
  refine ⟨fun h0 => (by rw [hr] at h0; cases h0), fun j hj => ?_⟩
  rw [hr] at hj
  obtain rfl : j = i := by simpa using hj
  unfold wpOp
  rw [List.getElem?_toArray, nthOp_eq, hi]
  simp only [hw, if_true]
  exact .inl h
/-- a call, while T is to come -/
theorem till_call {i : Nat} {o : Oper} (hi : nthOp l i = some o) (hr : Region.ready md l.toArray L = [i]) (hw : Region.wanted o (yielded l.toArray a.tmps) = true)
    {f : FuncId} {args : Array Value} (he : (execOp a.eval o).run P w = .ok (.enter f args) w)
    (h : Calls P f args w fun e w' => ∃ v, e = .returned v ∧ (A w' ∧ B w') ∧ (B w' → wpTill P md l.toArray Q T A B fuel (L.setIfInBounds i true) (a.put o.dst v) w')) : wpTill P md l.toArray Q T A B (fuel + 1) L a w := by
  refine till_one hi hr hw (wp_call he (h.mono ?_))
  rintro e w' ⟨v, rfl, h1, h2⟩
  exact ⟨v, rfl, ⟨h1.1, fun _ => h1.2⟩, h2 h1.2⟩
/-- any operation once T has come up, or T itself -/
theorem till_step {i : Nat} {o : Oper} (hi : nthOp l i = some o) (hr : Region.ready md l.toArray L = [i]) (hT : (L.setIfInBounds i true).getD T false = true) (hw : Region.wanted o (yielded l.toArray a.tmps) = true)
    (h : ∀ K : Act → World → Prop, Shut (∀ a w, A w → (A w → wpTill P md l.toArray Q T A B fuel (L.setIfInBounds i true) a w) → K a w) → Oper.wp P o a w K Q) : wpTill P md l.toArray Q T A B (fuel + 1) L a w :=
  till_one hi hr hw (h _ (fun a w hA hW => ⟨⟨hA, fun h0 => (by rw [hT] at h0; cases h0)⟩, hW hA⟩))
theorem till_done (hr : Region.ready md l.toArray L = []) (h : Q .normal a w) : ∀ fuel, wpTill P md l.toArray Q T A B fuel L a w
  | 0 => ⟨hr, h⟩
  | _ + 1 => ⟨fun _ => h, by rw [hr]; simp⟩
theorem wp_region_till {id : Nat} (T : Nat) (A B : World → Prop) (hm : P.follows .mixedOrders = true) (hA : A w.drew) (hB : B w.drew)
    (h : A w.drew → B w.drew → wpTill P .any l.toArray Q T A B l.toArray.size (Array.replicate l.toArray.size false) a w.drew) : (Code.region id l.toArray true).wp P Q a w :=
  wp_region_any hm (wpAny_of_till _ _ _ _ (h hA hB))
end
end Go.Proofs.Ytnpjihdhpoddgaa
