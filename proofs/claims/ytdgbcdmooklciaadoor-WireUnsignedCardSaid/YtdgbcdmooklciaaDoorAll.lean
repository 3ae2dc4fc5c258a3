/- Allocs that float in a region that draws its order: whichever comes up first, behind them all there are as many new blocks, all unlike. Plain lemmas; no program. -/
import Derived.Test.YtdgbcdmooklciaaDoorReg
namespace Go.Proofs.YtdgbcdmooklciaaDoor
open Go.RowKit
set_option maxRecDepth 100000

structure AItem where
  i : Nat
  d : Tmp
  ty : TypeId
  cells : Array Value

/-- operation it.i is an alloc of that block into that slot -/
def AItem.Is (P : Program) (l : List Oper) (it : AItem) : Prop :=
  ∃ o, nthOp l it.i = some o ∧ o.guard = none ∧ o.dst = some it.d ∧
    ∀ (ev : Operand → Value) (w : World), (execOp ev o).run P w = .ok (.value (.pointer (some ⟨w.heap.size, 0, none⟩))) (w.alloc (.cells it.cells it.ty))

/-- while any of them is left, just those that are left may come up -/
def allocsOk (md : Region.Mode) (ops : Array Oper) : Nat → Array Bool → List Nat → Bool
  | 0, _, todo => todo.isEmpty
  | n + 1, listed, todo => (Region.ready md ops listed == todo) && todo.all fun i => allocsOk md ops n (listed.setIfInBounds i true) (todo.filter fun j => !(j == i))

def listAll (listed : Array Bool) (is : List Nat) : Array Bool := is.foldl (fun L i => L.setIfInBounds i true) listed
def putAll (a : Act) (ps : List (Tmp × Nat)) : Act := ps.foldl (fun a p => a.put (some p.1) (.pointer (some ⟨p.2, 0, none⟩))) a

theorem set_comm (A : Array Bool) (i j : Nat) : (A.setIfInBounds i true).setIfInBounds j true = (A.setIfInBounds j true).setIfInBounds i true := by
  by_cases h : i = j
  · subst h; rfl
  · exact Array.setIfInBounds_comm _ _ h
theorem listAll_set (is : List Nat) : ∀ (A : Array Bool) (i : Nat), listAll (A.setIfInBounds i true) is = (listAll A is).setIfInBounds i true := by
  induction is with
  | nil => intro A i; rfl
  | cons j js ih =>
    intro A i
    show listAll ((A.setIfInBounds i true).setIfInBounds j true) js = (listAll (A.setIfInBounds j true) js).setIfInBounds i true
    rw [set_comm, ih]
theorem listAll_mid (A : Array Bool) (xs ys : List Nat) (i : Nat) : listAll (A.setIfInBounds i true) (xs ++ ys) = listAll A (xs ++ i :: ys) := by
  unfold listAll
  rw [List.foldl_append, List.foldl_append, List.foldl_cons]
  rw [show xs.foldl (fun L i => L.setIfInBounds i true) (A.setIfInBounds i true) = (xs.foldl (fun L i => L.setIfInBounds i true) A).setIfInBounds i true from listAll_set xs A i]
theorem putAll_put (ps : List (Tmp × Nat)) : ∀ (a : Act) (d : Tmp) (v : Value), (∀ p ∈ ps, p.1 ≠ d) → putAll (a.put (some d) v) ps = (putAll a ps).put (some d) v := by
  induction ps with
  | nil => intro a d v _; rfl
  | cons p ps ih =>
    intro a d v h
    show putAll ((a.put (some d) v).put (some p.1) _) ps = (putAll (a.put (some p.1) _) ps).put (some d) v
    rw [Act.put_comm a v _ (by intro e he; injection he with he; subst he; intro hh; injection hh with hh; exact h p (by simp) hh), ih _ d v (fun q hq => h q (by simp [hq]))]
theorem putAll_mid (a : Act) (xs ys : List (Tmp × Nat)) (d g : Nat) (h : ∀ p ∈ xs, p.1 ≠ d) : putAll (a.put (some d) (.pointer (some ⟨g, 0, none⟩))) (xs ++ ys) = putAll a (xs ++ (d, g) :: ys) := by
  unfold putAll
  rw [List.foldl_append, List.foldl_append, List.foldl_cons]
  rw [show xs.foldl (fun a p => a.put (some p.1) (.pointer (some ⟨p.2, 0, none⟩))) (a.put (some d) (.pointer (some ⟨g, 0, none⟩))) = (xs.foldl (fun a p => a.put (some p.1) (.pointer (some ⟨p.2, 0, none⟩))) a).put (some d) (.pointer (some ⟨g, 0, none⟩)) from putAll_put xs a d _ h]

/-- the blocks that the allocs laid -/
inductive Laid2 (w : World) : List AItem → List Nat → Prop
  | nil : Laid2 w [] []
  | cons {it : AItem} {g : Nat} {its : List AItem} {gs : List Nat} : Blk w g it.ty it.cells → Laid2 w its gs → Laid2 w (it :: its) (g :: gs)
theorem Laid2.split {w : World} : ∀ {xs ys : List AItem} {gs : List Nat}, Laid2 w (xs ++ ys) gs → ∃ as bs, gs = as ++ bs ∧ Laid2 w xs as ∧ Laid2 w ys bs
  | [], _, gs, h => ⟨[], gs, rfl, .nil, h⟩
  | x :: xs, ys, _, .cons hb h => by
    obtain ⟨as, bs, rfl, h1, h2⟩ := Laid2.split (xs := xs) (ys := ys) h
    exact ⟨_ :: as, bs, rfl, .cons hb h1, h2⟩
theorem Laid2.join {w : World} : ∀ {xs ys : List AItem} {as bs : List Nat}, Laid2 w xs as → Laid2 w ys bs → Laid2 w (xs ++ ys) (as ++ bs)
  | _, _, _, _, .nil, h => h
  | _, _, _, _, .cons hb h1, h2 => .cons hb (Laid2.join h1 h2)
theorem Laid2.len {w : World} : ∀ {xs : List AItem} {as : List Nat}, Laid2 w xs as → xs.length = as.length
  | _, _, .nil => rfl
  | _, _, .cons _ h => by simp [Laid2.len h]
theorem Laid2.inv {w : World} {it : AItem} {its : List AItem} {gs : List Nat} (h : Laid2 w (it :: its) gs) : ∃ g gs', gs = g :: gs' ∧ Blk w g it.ty it.cells ∧ Laid2 w its gs' := by
  cases h with
  | cons hb h => exact ⟨_, _, rfl, hb, h⟩
theorem Laid2.inv0 {w : World} {gs : List Nat} (h : Laid2 w [] gs) : gs = [] := by cases h; rfl
theorem zip_mid : ∀ (xs : List AItem) (as : List Nat) (ys : List AItem) (bs : List Nat), xs.length = as.length →
    ((xs ++ ys).map (·.d)).zip (as ++ bs) = (xs.map (·.d)).zip as ++ (ys.map (·.d)).zip bs
  | [], [], _, _, _ => rfl
  | x :: xs, a :: as, ys, bs, h => by
    simp only [List.cons_append, List.map_cons, List.zip_cons_cons, List.cons.injEq, true_and]
    exact zip_mid xs as ys bs (by simpa using h)
  | [], _ :: _, _, _, h => by simp at h
  | _ :: _, [], _, _, h => by simp at h

section
variable {P : Program} {l : List Oper} {Q : Exit → Act → World → Prop} {md : Region.Mode} {S : World → Prop}
theorem allocs_at (hSA : ∀ w o, S w → S (w.alloc o)) : ∀ (n : Nat) (todo : List AItem) (fuel : Nat) (listed : Array Bool) (a : Act) (w : World), todo.length = n →
    allocsOk md l.toArray n listed (todo.map (·.i)) = true → (∀ it ∈ todo, it.Is P l) → (todo.map (·.i)).Nodup → (todo.map (·.d)).Nodup → S w →
    (∀ gs w', Laid2 w' todo gs → gs.Nodup → (∀ g ∈ gs, w.heap.size ≤ g) → Fr [] w w' → S w' → wpAnyH P md l.toArray Q S fuel (listAll listed (todo.map (·.i))) (putAll a ((todo.map (·.d)).zip gs)) w') →
    wpAnyH P md l.toArray Q S (fuel + n) listed a w := by
  intro n
  induction n with
  | zero =>
    intro todo fuel listed a w hn _ _ _ _ hS h
    have : todo = [] := List.eq_nil_of_length_eq_zero hn
    subst this
    exact h [] w .nil (by simp) (by simp) (Fr.refl _ _) hS
  | succ n ih =>
    intro todo fuel listed a w hn hok his hni hnd hS h
    unfold allocsOk at hok
    simp only [Bool.and_eq_true, beq_iff_eq, List.all_eq_true] at hok
    obtain ⟨hr, hall⟩ := hok
    have hne : todo.map (·.i) ≠ [] := by intro he; rw [List.map_eq_nil_iff] at he; subst he; simp at hn
    rw [← Nat.add_assoc]
    refine wpAnyH_all hr hne (fun i hi => ?_)
    obtain ⟨it, hit, rfl⟩ := List.mem_map.1 hi
    obtain ⟨xs, ys, rfl⟩ := List.append_of_mem hit
    obtain ⟨o, ho, hg, hd, hrun⟩ := his it hit
    refine wpOp_step (o := o) (by rw [List.getElem?_toArray, nthOp_eq, ho]) (fun K hK => ?_)
    have hw : Region.wanted o (yielded l.toArray a.tmps) = true := by unfold Region.wanted; rw [hg]
    rw [if_pos hw]
    refine wp_run (hrun a.eval w) (hK _ _ ⟨hSA _ _ hS, ?_⟩)
    have hni' := hni
    have hnd' := hnd
    simp only [List.map_append, List.map_cons, List.nodup_append, List.nodup_cons, List.mem_map, List.mem_cons, not_exists, not_and] at hni' hnd'
    have hfx : (((xs ++ it :: ys).map (·.i)).filter fun j => !(j == it.i)) = (xs ++ ys).map (·.i) := by
      rw [List.map_append, List.map_cons, List.filter_append, List.filter_cons, List.map_append]
      simp only [BEq.rfl, Bool.not_true, Bool.false_eq_true, if_false]
      congr 1
      · refine List.filter_eq_self.2 (fun j hj => ?_)
        obtain ⟨x, hx, rfl⟩ := List.mem_map.1 hj
        have := hni'.2.2 x.i ⟨x, hx, rfl⟩ it.i (.inl rfl)
        simpa using this
      · refine List.filter_eq_self.2 (fun j hj => ?_)
        obtain ⟨x, hx, rfl⟩ := List.mem_map.1 hj
        have := hni'.2.1.1 x hx
        simpa using this
    rw [hd]
    refine ih (xs ++ ys) fuel _ _ (w.alloc (.cells it.cells it.ty)) (by simp at hn ⊢; omega) (by have := hall it.i hi; rw [hfx] at this; exact this)
      (fun x hx => his x (by
        rcases List.mem_append.1 hx with hx | hx
        · exact List.mem_append.2 (.inl hx)
        · exact List.mem_append.2 (.inr (List.mem_cons_of_mem _ hx)))) (by
        have : ((xs ++ ys).map (·.i)) = (((xs ++ it :: ys).map (·.i)).filter fun j => !(j == it.i)) := hfx.symm
        rw [this]; exact hni.filter _) (by
        rw [List.map_append, List.map_cons] at hnd
        rw [List.map_append]
        exact hnd.sublist (List.Sublist.append (List.Sublist.refl _) (List.sublist_cons_self _ _))) (hSA _ _ hS) ?_
    intro gs w' hlaid hgn hgw hf hS'
    obtain ⟨as, bs, rfl, h1, h2⟩ := hlaid.split
    have hb : Blk w' w.heap.size it.ty it.cells := (Blk.new w it.ty it.cells).keep hf (by simp)
    have hnew : ∀ g ∈ as ++ bs, w.heap.size < g := fun g hg => by have := hgw g hg; simp at this; omega
    have hx := h (as ++ w.heap.size :: bs) w' (h1.join (.cons hb h2)) (by
        rw [List.nodup_append] at hgn ⊢
        refine ⟨hgn.1, List.nodup_cons.2 ⟨fun hm => Nat.lt_irrefl _ (hnew _ (List.mem_append.2 (.inr hm))), hgn.2.1⟩, fun x hx y hy => ?_⟩
        rcases List.mem_cons.1 hy with rfl | hy
        · have := hnew x (by simp [hx]); omega
        · exact hgn.2.2 x hx y hy)
      (fun g hg => by
        rcases List.mem_append.1 hg with hg | hg
        · have := hnew g (by simp [hg]); omega
        · rcases List.mem_cons.1 hg with rfl | hg
          · exact Nat.le_refl _
          · have := hnew g (by simp [hg]); omega)
      (((Fr.refl [] w).alloc _).and hf (by simp)) hS'
    have e1 : listAll (listed.setIfInBounds it.i true) ((xs ++ ys).map (·.i)) = listAll listed ((xs ++ it :: ys).map (·.i)) := by
      rw [List.map_append, List.map_append, List.map_cons]; exact listAll_mid _ _ _ _
    have e2 : putAll (a.put (some it.d) (.pointer (some ⟨w.heap.size, 0, none⟩))) (((xs ++ ys).map (·.d)).zip (as ++ bs)) = putAll a (((xs ++ it :: ys).map (·.d)).zip (as ++ w.heap.size :: bs)) := by
      rw [zip_mid _ _ _ _ h1.len, zip_mid _ _ _ _ h1.len, List.map_cons, List.zip_cons_cons]
      refine putAll_mid a _ _ _ _ (fun p hp => ?_)
      have hp1 := List.of_mem_zip hp
      obtain ⟨x, hx, he⟩ := List.mem_map.1 hp1.1
      have := hnd'.2.2 x.d ⟨x, hx, rfl⟩ it.d (.inl rfl)
      rw [← he]
      exact this
    rw [e1, e2]
    exact hx
end
end Go.Proofs.YtdgbcdmooklciaaDoor
