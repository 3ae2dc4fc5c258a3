/- Memory words of this seat's proofs: bytes as values; a slice of bytes that reads as a list; a block known whole; what a call may have written. Plain lemmas; no program. -/
import Derived.WalkKit
import Derived.Maps.AppendAt
import Derived.Deep.AppendLies
import Derived.Deep.Draws
import Derived.RegionTactic
import Derived.OwnWalk
import Derived.Lib.Hide
import Derived.Laws.CopyRow
import Derived.Laws.IdiomCopy
import Derived.Laws.Tables
set_option linter.unusedSimpArgs false
set_option linter.unusedVariables false
namespace Go.Proofs.YtdenpfcgghangaaGreat
open Go.RowKit
theorem xPa (a : Act) (d : Tmp) (v : Value) : a.put (some d) v = { a with tmps := a.tmps.setIfInBounds d v } := rfl
theorem xPb (a : Act) (v : Value) : a.put none v = a := rfl
theorem xPc {α : Type} (l : List α) (i : Nat) (a : α) : l.toArray.setIfInBounds i a = (l.set i a).toArray := List.setIfInBounds_toArray ..
theorem xPd {α : Type} (x : α) (l : List α) (y : α) : (x :: l).set 0 y = y :: l := rfl
theorem xPe {α : Type} (x : α) (l : List α) (n : Nat) (y : α) : (x :: l).set (n + 1) y = x :: l.set n y := rfl
def Stop (p : Prop) : Prop := p
theorem Stop.mk {p : Prop} (h : Stop p) : p := h
theorem Stop.go {p : Prop} (h : p) : Stop p := h
def by8 (b : UInt8) : Value := .int .u8 (b.toNat : Int)
theorem by8_one (l : List UInt8) : ∀ u ∈ l.map by8, u.oneCell' = true := by
 intro u hu
 obtain ⟨b, _, rfl⟩ := List.mem_map.1 hu
 rfl
theorem add_block (a : Addr) (n : Nat) : (a.add n).block = a.block := by unfold Addr.add; split <;> rfl
theorem add_add (a : Addr) (i j : Nat) : (a.add i).add j = a.add (i + j) := by
 unfold Addr.add
 by_cases hi : i = 0 <;> by_cases hj : j = 0 <;> simp [hi, hj, Nat.add_assoc]
/-! ### what a call may have written: only blocks in S, and new ones -/
structure Fr (S : List Nat) (w w' : World) : Prop where
 os : w'.os = w.os
 tape : w'.tape = w.tape
 output : w'.output = w.output
 size : w.heap.size ≤ w'.heap.size
 block : ∀ k, k < w.heap.size → ¬ k ∈ S → w'.heap[k]? = w.heap[k]?
section
variable {S T : List Nat} {a b c w w' : World}
theorem Fr.refl (S : List Nat) (w : World) : Fr S w w := ⟨rfl, rfl, rfl, Nat.le_refl _, fun _ _ _ => rfl⟩
theorem Fr.drew (h : Fr S a w) : Fr S a w.drew := ⟨h.os, h.tape, h.output, h.size, h.block⟩
theorem Fr.drewN (h : Fr S a w) (n : Nat) : Fr S a (w.drewN n) := ⟨h.os, h.tape, h.output, h.size, h.block⟩
theorem Fr.mono (h : Fr S a b) (hs : ∀ k, k ∈ S → k < a.heap.size → k ∈ T) : Fr T a b :=
 ⟨h.os, h.tape, h.output, h.size, fun k hk hn => h.block k hk (fun hm => hn (hs k hm hk))⟩
theorem Fr.trans (h : Fr S a b) (k : Fr T b c) (ht : ∀ x, x ∈ T → x < a.heap.size → x ∈ S) : Fr S a c :=
 ⟨k.os.trans h.os, k.tape.trans h.tape, k.output.trans h.output, Nat.le_trans h.size k.size,
  fun i hi hn => (k.block i (Nat.lt_of_lt_of_le hi h.size) (fun hm => hn (ht i hm hi))).trans (h.block i hi hn)⟩
theorem Fr.alloc (h : Fr S a w) (o : Obj) : Fr S a (w.alloc o) :=
 h.trans (T := []) ⟨rfl, rfl, rfl, by simp, fun k hk _ => Below.heap_alloc _ _ _ hk⟩ (by simp)
theorem Fr.setCell (h : Fr S a w) (p : Addr) (hp : p.block < a.heap.size → p.block ∈ S) (u : Value) : Fr S a (w.setCell p u) :=
 h.trans (T := [p.block]) ⟨rfl, rfl, rfl, by simp [World.setCell], fun k hk hn => Below.heap_setCell _ _ _ _ (by simpa using hn)⟩
  (by intro x hx hl; simp at hx; subst hx; exact hp hl)
theorem Fr.grown {row : Option Nat} (h : Fr S a w) (hg : w.grownBy w' row) (hr : ∀ k, row = some k → k < a.heap.size → k ∈ S) : Fr S a w' :=
 h.trans (T := row.toList) ⟨hg.os, hg.tape, hg.output, hg.size, fun k hk hn => hg.block k hk (fun e => hn (by simp [← e]))⟩
  (by intro x hx hl; simp at hx; exact hr x hx hl)
theorem Fr.below {B : Nat} (h : Fr S a b) (hB : B ≤ a.heap.size) (hs : ∀ k, k ∈ S → B ≤ k) : Below B a b :=
 ⟨h.os, h.tape, h.output, h.size, fun k hk => h.block k (by omega) (fun hm => by have := hs k hm; omega)⟩
theorem Fr.below_all (h : Fr [] a b) : Below a.heap.size a b := h.below (Nat.le_refl _) (by simp)
theorem Fr.and (h : Fr [] a b) (k : Fr T b c) (ht : ∀ x ∈ T, a.heap.size ≤ x) : Fr [] a c := h.trans k (fun x hx hl => by have := ht x hx; omega)
theorem Fr.cell (h : Fr S a b) {p : Addr} {v : Value} (hc : a.cell? p = some v) (hn : ¬ p.block ∈ S) : b.cell? p = some v :=
 (World.cell?_of_block (h.block p.block (World.block_lt_of_cell? a p hc) hn)).trans hc
theorem Fr.heap (h : Fr S a b) {g : Nat} {o : Obj} (hc : a.heap[g]? = some o) (hn : ¬ g ∈ S) : b.heap[g]? = some o :=
 (h.block g (Array.getElem?_eq_some_iff.1 hc).1 hn).trans hc
end
/-! ### a block known whole -/
def Blk (w : World) (g : Nat) (t : TypeId) (cs : Array Value) : Prop := w.heap[g]? = some (.cells cs t (0, 0))
section
variable {w w' : World} {g : Nat} {t : TypeId} {cs : Array Value} {S : List Nat}
theorem Blk.lt (h : Blk w g t cs) : g < w.heap.size := (Array.getElem?_eq_some_iff.1 h).1
theorem Blk.cell (h : Blk w g t cs) (i : Nat) : w.cell? ⟨g, i, none⟩ = cs[i]? := cell_of_row w g i cs t (0, 0) h
theorem Blk.frozen (h : Blk w g t cs) (i : Nat) : w.frozen? ⟨g, i, none⟩ = false := by
 unfold Blk at h
 simp [World.frozen?, h]
theorem Blk.new (w : World) (t : TypeId) (cs : Array Value) : Blk (w.alloc (.cells cs t)) w.heap.size t cs := heap_alloc_new w _
theorem Blk.keep (h : Blk w g t cs) (hf : Fr S w w') (hn : ¬ g ∈ S) : Blk w' g t cs := hf.heap h hn
theorem Blk.set (h : Blk w g t cs) (i : Nat) (u : Value) : Blk (w.setCell ⟨g, i, none⟩ u) g t (cs.setIfInBounds i u) := by
 unfold Blk at h ⊢
 simp [World.setCell, Array.getElem?_modify, h]
theorem Blk.drew (h : Blk w g t cs) : Blk w.drew g t cs := h
theorem Blk.drewN (h : Blk w g t cs) (n : Nat) : Blk (w.drewN n) g t cs := h
theorem Blk.ne (h : Blk w g t cs) {g' : Nat} {t' : TypeId} {cs' : Array Value} (h' : Blk w g' t' cs') (hne : t ≠ t') : g ≠ g' := by
 rintro rfl
 unfold Blk at h h'
 rw [h] at h'
 injection h' with h'
 injection h' with _ ht
 exact hne ht
theorem own_ne {base : Nat} {e : TypeId} {size n : Nat} {v : Value} {xs : List Value} (h : w.ownsRow base e size v n xs) (hg : Blk w g t cs) (hne : e ≠ t) : v.ownBlock ≠ some g := by
 rcases h.2 with ⟨rfl, _⟩ | ⟨g', cap, cur, rfl, _, hh, _⟩
 · simp [Value.ownBlock]
 · intro he
   have : g' = g := by simpa [Value.ownBlock] using he
   subst this
   exact Blk.ne (t := e) hh hg hne rfl
end
/-! ### a slice of bytes that reads as a list (nil let in) -/
def By (w : World) (A : Option Addr) (n : Nat) (l : List UInt8) : Prop :=
 l.length = n ∧ (0 < n → ∃ ad, A = some ad ∧ ∀ j u, (l.map by8)[j]? = some u → w.cell? (ad.add j) = some u)
section
variable {w w' : World} {A : Option Addr} {n : Nat} {l : List UInt8} {S : List Nat}
theorem By.nil (w : World) (A : Option Addr) : By w A 0 [] := ⟨rfl, fun h => absurd h (by omega)⟩
theorem By.none_ (h : By w none n l) : n = 0 ∧ l = [] := by
 rcases Nat.eq_zero_or_pos n with h0 | h0
 · exact ⟨h0, List.eq_nil_of_length_eq_zero (by rw [h.1, h0])⟩
 · obtain ⟨ad, h, _⟩ := h.2 h0
   cases h
theorem By.at (h : By w A n l) {k : Nat} (hk : k < n) : ∃ ad b, A = some ad ∧ l[k]? = some b ∧ w.cell? (ad.add k) = some (.int .u8 (b.toNat : Int)) := by
 obtain ⟨ad, e, hc⟩ := h.2 (by omega)
 have hl : k < l.length := by have := h.1; omega
 exact ⟨ad, l[k], e, List.getElem?_eq_getElem hl, hc k _ (by simp [List.getElem?_eq_getElem hl, by8])⟩
theorem By.keep (h : By w A n l) (hf : Fr S w w') (hA : ∀ a, A = some a → ¬ a.block ∈ S) : By w' A n l :=
 ⟨h.1, fun hn => by
  obtain ⟨ad, e, hc⟩ := h.2 hn
  exact ⟨ad, e, fun j u hu => hf.cell (hc j u hu) (by rw [add_block]; exact hA ad e)⟩⟩
theorem By.drew (h : By w A n l) : By w.drew A n l := h
theorem By.drewN (h : By w A n l) (k : Nat) : By (w.drewN k) A n l := h
theorem By.cut (h : By w A n l) {k cap : Nat} (hk : k ≤ n) (hc : n ≤ cap) : By w (if cap = k then A else A.map (·.add k)) (n - k) (l.drop k) := by
 refine ⟨by rw [List.length_drop, h.1], fun hn => ?_⟩
 obtain ⟨ad, rfl, hcell⟩ := h.2 (by omega)
 rw [if_neg (by omega)]
 refine ⟨ad.add k, rfl, fun j u hu => ?_⟩
 rw [add_add]
 exact hcell _ u (by rw [← hu, List.map_drop, List.getElem?_drop])
theorem By.take (h : By w A n l) {k : Nat} (hk : k ≤ n) : By w A k (l.take k) := by
 refine ⟨by rw [List.length_take, h.1]; omega, fun hn => ?_⟩
 obtain ⟨ad, rfl, hcell⟩ := h.2 (by omega)
 refine ⟨ad, rfl, fun j u hu => hcell _ u ?_⟩
 rw [← hu, List.map_take, List.getElem?_take]
 have : j < k := by
  have hl := (List.getElem?_eq_some_iff.1 hu).1
  simp at hl
  omega
 simp [this]
theorem By.of_own {base : Nat} {e : TypeId} {c : Nat} (h : w.ownsRow base e 1 (.slice A n c) n (l.map by8)) : By w A n l := by
 refine ⟨by have := h.1; simpa using this, fun hn => ?_⟩
 obtain ⟨g, cap, hv, _, hlt⟩ := h.form hn
 have hA : A = some ⟨g, 0, none⟩ := by injection hv
 subst hA
 exact ⟨_, rfl, h.cells (g := g) rfl⟩
end
def bk (A : Option Addr) : List Nat := (A.map (·.block)).toList
theorem bk_own (A : Option Addr) (n c : Nat) : (Value.slice A n c).ownBlock.toList = bk A := by cases A <;> rfl
theorem bk_mem (A : Option Addr) (n c k : Nat) : (Value.slice A n c).ownBlock = some k ↔ k ∈ bk A := by
 rw [← bk_own A n c]; simp
/-! ### rows and blocks under a store; one byte -/
section
theorem own_form {w : World} {base : Nat} {e : TypeId} {size n : Nat} {v : Value} {xs : List Value} (h : w.ownsRow base e size v n xs) : ∃ A c, v = .slice A n c := by
 rcases h.2 with ⟨rfl, rfl⟩ | ⟨g, cap, cur, rfl, _⟩
 · exact ⟨none, 0, rfl⟩
 · exact ⟨_, _, rfl⟩
variable {w w' : World} {S : List Nat}
theorem own_setCell {base : Nat} {e : TypeId} {size n : Nat} {v : Value} {xs : List Value} (h : w.ownsRow base e size v n xs) (p : Addr) (hp : v.ownBlock ≠ some p.block) (u : Value) :
  (w.setCell p u).ownsRow base e size v n xs := by
 obtain ⟨h1, h2⟩ := h
 refine ⟨h1, ?_⟩
 rcases h2 with h2 | ⟨g, cap, cur, rfl, hg, hh, r⟩
 · exact Or.inl h2
 · exact Or.inr ⟨g, cap, cur, rfl, hg, by rw [Below.heap_setCell _ _ _ _ (fun e => hp (by simp [Value.ownBlock, e]))]; exact hh, r⟩
theorem own_keep {base : Nat} {e : TypeId} {size n : Nat} {v : Value} {xs : List Value} (h : w.ownsRow base e size v n xs) (hf : Fr S w w') (hn : ∀ k, v.ownBlock = some k → ¬ k ∈ S) :
  w'.ownsRow base e size v n xs := by
 obtain ⟨h1, h2⟩ := h
 refine ⟨h1, ?_⟩
 rcases h2 with h2 | ⟨g, cap, cur, rfl, hg, hh, r⟩
 · exact Or.inl h2
 · exact Or.inr ⟨g, cap, cur, rfl, hg, hf.heap hh (hn g rfl), r⟩
theorem own_lt {base : Nat} {e : TypeId} {size n : Nat} {v : Value} {xs : List Value} (h : w.ownsRow base e size v n xs) : ∀ k, v.ownBlock = some k → k < w.heap.size := fun k hk => (h.lt k hk).2
theorem Blk.grown {g : Nat} {t : TypeId} {cs : Array Value} {row : Option Nat} (h : Blk w g t cs) (hg : w.grownBy w' row) (hn : row ≠ some g) : Blk w' g t cs :=
 (hg.block g h.lt (fun e => hn e.symm)).trans h
theorem By.one {g : Nat} {t : TypeId} {x : Int} {b : UInt8} (h : Blk w g t #[.int .u8 x]) (hx : x = (b.toNat : Int)) : By w (some ⟨g, 0, none⟩) 1 [b] :=
 ⟨rfl, fun _ => ⟨_, rfl, fun j u hu => by
  rcases j with _ | j
  · have := h.cell 0
    simp [by8] at hu
    subst hu
    rw [hx] at this
    simpa [Addr.add] using this
  · simp at hu⟩⟩
end
theorem By.blk {w : World} {g : Nat} {t : TypeId} {cs : Array Value} (l : List UInt8) (h : Blk w g t cs) (hc : cs = (l.map by8).toArray) : By w (some ⟨g, 0, none⟩) l.length l :=
 ⟨rfl, fun _ => ⟨_, rfl, fun j u hu => by
  have hadd : (⟨g, 0, none⟩ : Addr).add j = ⟨g, j, none⟩ := by unfold Addr.add; split <;> simp_all
  rw [hadd, h.cell j, hc]
  simpa using hu⟩⟩
theorem or128 : ∀ a : Fin 256, (a.val ||| 128) = a.val % 128 + 128 := by decide +kernel
theorem u8_or128_byte (m : Nat) : bits .or .u8 ((m : Int) % 256) 128 = ((UInt8.ofNat (m % 128 + 128)).toNat : Int) := by
 have h := u8_or_nat (m % 256) 128 (by omega) (by omega)
 have h2 := or128 ⟨m % 256, by omega⟩
 simp only at h2
 rw [h2] at h
 have e : ((m % 256 : Nat) : Int) = (m : Int) % 256 := by omega
 rw [e] at h
 rw [show ((128 : Nat) : Int) = 128 from rfl] at h
 rw [h, UInt8.toNat_ofNat']
 congr 1
 omega
/-! ### append onto an own row of bytes, from any slice of bytes -/
section
variable {P : Program} (w : World)
theorem run_append_nothing (base : Nat) (t ty e : TypeId) (i : TypeInfo) (size : Nat) (ht : P.underlying t = some (.slice e)) (hi : P.info? e = some i)
  (v : Value) (n : Nat) (xs : List Value) (hown : w.ownsRow base e size v n xs) (c : Nat) : (Builtin.append_ #[t, t] ty #[v, .slice none 0 c]).run P w = .ok v w := by
 rcases hown.2 with ⟨rfl, rfl⟩ | ⟨g, cap, cur, rfl, _, _, hnc, _⟩
 · simp [Builtin.append_, run_underlying ht, sizeOf, typeInfo, hi, Builtin.lenOf, Builtin.firstCells]
 · simp [Builtin.append_, run_underlying ht, sizeOf, typeInfo, hi, Builtin.lenOf, Builtin.firstCells, hnc, storeCells]
theorem run_append_bytes (t ty e : TypeId) (ht : P.underlying t = some (.slice e)) (hi : (P.info? e).map (fun i => (i.zero, i.size, i.bytes)) = some (some (.int .u8 0), 1, 1))
  (v : Value) (n : Nat) (xs : List UInt8) (hown : w.ownsRow 0 e 1 v n (xs.map by8))
  (A : Option Addr) (m c : Nat) (news : List UInt8) (hr : By w A m news) (h63 : n + m ≤ 140737488355328) :
  ∃ A' c' w', (Builtin.append_ #[t, t] ty #[v, .slice A m c]).run P w = .ok (.slice A' (n + m) c') w' ∧ w'.ownsRow 0 e 1 (.slice A' (n + m) c') (n + m) ((xs ++ news).map by8) ∧ w.grownBy w' v.ownBlock ∧
   (bk A' = v.ownBlock.toList ∨ bk A' = [w.heap.size]) := by
 obtain ⟨i, hi0, hz0, hz1, hz2⟩ := info_parts hi
 suffices h : ∃ v' w', (Builtin.append_ #[t, t] ty #[v, .slice A m c]).run P w = .ok v' w' ∧ w'.ownsRow 0 e 1 v' (n + m) ((xs ++ news).map by8) ∧ w.grownBy w' v.ownBlock ∧
   (v'.ownBlock = v.ownBlock ∨ v'.ownBlock = some w.heap.size) by
  obtain ⟨v', w', h1, h2, h3, h4⟩ := h
  obtain ⟨A', c', rfl⟩ := own_form h2
  refine ⟨A', c', w', h1, h2, h3, ?_⟩
  rcases h4 with h4 | h4
  · exact .inl (by rw [← h4, bk_own])
  · exact .inr (by rw [← bk_own A' (n + m) c', h4]; rfl)
 rcases A with _ | ad
 · have hm : m = 0 := by
    rcases Nat.eq_zero_or_pos m with h0 | h0
    · exact h0
    · obtain ⟨ad, h, _⟩ := hr.2 h0
      cases h
   subst hm
   have hn : news = [] := List.eq_nil_of_length_eq_zero hr.1
   subst hn
   exact ⟨v, w, run_append_nothing w 0 t ty e i 1 ht hi0 v n _ hown c, by simpa using hown, World.grownBy.refl w _, .inl rfl⟩
 · have hcells : ∀ j u, (news.map by8)[j]? = some u → w.cell? (ad.add j) = some u := by
    intro j u hu
    rcases Nat.eq_zero_or_pos m with h0 | h0
    · subst h0
      have hn : news = [] := List.eq_nil_of_length_eq_zero hr.1
      subst hn
      simp at hu
    · obtain ⟨ad', h, hc⟩ := hr.2 h0
      injection h with h
      subst h
      exact hc j u hu
   obtain ⟨v', w', hrun, h2, h3, _, h5⟩ := run_append_own_at (P := P) w 0 t ty e i (.int .u8 0) 1 1 ht hi0 hz0 hz1 hz2 rfl (by omega) v n _ hown ad m c (news.map by8)
    (by simp [hr.1]) hcells (by8_one news) (by simp only [maxLen]; omega) (by omega) (Nat.zero_le _)
   exact ⟨v', w', hrun, by rw [List.map_append]; exact h2, h3, h5⟩
theorem wp_append_bytes {o : Oper} {a : Act} {K : Act → World → Prop} {Q : Exit → Act → World → Prop} (s x : Operand) (t : TypeId)
  (ho : o.op = .call { callee := .builtin .append, args := #[s, x], argTypes := #[t, t] })
  (e : TypeId) (ht : P.underlying t = some (.slice e)) (hi : (P.info? e).map (fun i => (i.zero, i.size, i.bytes)) = some (some (.int .u8 0), 1, 1))
  (v : Value) (n : Nat) (xs : List UInt8) (hs : a.eval s = v) (hown : w.ownsRow 0 e 1 v n (xs.map by8))
  (A : Option Addr) (m c : Nat) (news : List UInt8) (hx : a.eval x = .slice A m c) (hr : By w A m news) (h63 : n + m ≤ 140737488355328)
  (h : ∀ A' c' w', w'.ownsRow 0 e 1 (.slice A' (n + m) c') (n + m) ((xs ++ news).map by8) → w.grownBy w' v.ownBlock → (bk A' = v.ownBlock.toList ∨ bk A' = [w.heap.size]) → K (a.put o.dst (.slice A' (n + m) c')) w') : o.wp P a w K Q := by
 obtain ⟨A', c', w', hrun, h2, h3, h4⟩ := run_append_bytes (P := P) w t o.type e ht hi v n xs hown A m c news hr h63
 unfold Oper.wp execOp
 simp only [ho, resolve, invoke, builtin, Sem.run_bind, Sem.run_pure, Result.andThen_ok, List.map_toArray, List.map_cons, List.map_nil, hs, hx, hrun]
 exact h A' c' w' h2 h3 h4
theorem wpList_append_bytes {ops : Array Oper} {rest : List Oper} {o : Oper} {a : Act} {Q : Exit → Act → World → Prop} (hgd : o.guard = none) (s x : Operand) (t : TypeId)
  (ho : o.op = .call { callee := .builtin .append, args := #[s, x], argTypes := #[t, t] })
  (e : TypeId) (ht : P.underlying t = some (.slice e)) (hi : (P.info? e).map (fun i => (i.zero, i.size, i.bytes)) = some (some (.int .u8 0), 1, 1))
  (v : Value) (n : Nat) (xs : List UInt8) (hs : a.eval s = v) (hown : w.ownsRow 0 e 1 v n (xs.map by8))
  (A : Option Addr) (m c : Nat) (news : List UInt8) (hx : a.eval x = .slice A m c) (hr : By w A m news) (h63 : n + m ≤ 140737488355328)
  (h : ∀ A' c' w', w'.ownsRow 0 e 1 (.slice A' (n + m) c') (n + m) ((xs ++ news).map by8) → w.grownBy w' v.ownBlock → (bk A' = v.ownBlock.toList ∨ bk A' = [w.heap.size]) → wpList P ops Q rest (a.put o.dst (.slice A' (n + m) c')) w') : wpList P ops Q (o :: rest) a w :=
 wpList_plain hgd fun _ hK => wp_append_bytes w s x t ho e ht hi v n xs hs hown A m c news hx hr h63 fun A' c' w' h2 h3 h4 => hK _ _ (h A' c' w' h2 h3 h4)
end
/-! ### copy into a block that is known whole, from its beginning on -/
section
variable {P : Program}
theorem setRow_fr (w : World) (g : Nat) (cs : Array Value) : Fr [g] w (w.setRow g cs) :=
 ⟨rfl, rfl, rfl, by simp [World.setRow], fun k _ hk => setRow_other w g k cs (by simpa using hk)⟩
theorem setRow_blk {w : World} {g : Nat} {t : TypeId} {cs : Array Value} (h : Blk w g t cs) (cs' : Array Value) : Blk (w.setRow g cs') g t cs' := setRow_heap w g cs cs' t _ h
theorem wp_copy_bytes {o : Oper} {a : Act} {w : World} {K : Act → World → Prop} {Q : Exit → Act → World → Prop} (d s : Operand) (dT sT : TypeId)
  (ho : o.op = .call { callee := .builtin .copy, args := #[d, s], argTypes := #[dT, sT] }) (elem : TypeId) (hu : P.underlying dT = some (.slice elem)) (hsz : (P.info? elem).map (·.size) = some 1)
  (g dLen dCap : Nat) (A : Option Addr) (n c : Nat) (hd : a.eval d = .slice (some ⟨g, 0, none⟩) dLen dCap) (hs : a.eval s = .slice A n c)
  (cur l : List UInt8) (t : TypeId) (hg : Blk w g t (cur.map by8).toArray) (hy : By w A n l) (hn : n ≤ dLen) (hfit : n ≤ cur.length)
  (h : ∀ w', Blk w' g t ((l ++ cur.drop n).map by8).toArray → Fr [g] w w' → K (a.put o.dst (goInt n)) w') : o.wp P a w K Q := by
 rcases Nat.eq_zero_or_pos n with h0 | h0
 · subst h0
   have hl : l = [] := List.eq_nil_of_length_eq_zero hy.1
   subst hl
   have hrun := run_copy_none (P := P) w dT sT o.type elem (some ⟨g, 0, none⟩) A dLen dCap 0 c hu hsz (by simp)
   unfold Oper.wp
   simp [execOp, ho, resolve, invoke, builtin, hd, hs, hrun, Result.andThen]
   exact h w (by simpa using hg) (Fr.refl _ _)
 · obtain ⟨ad, rfl, hc⟩ := hy.2 h0
   have hln := hy.1
   have hrun := run_copy_row (P := P) w dT sT o.type elem g 0 dLen dCap ad n c (cur.map by8).toArray t (l.map by8) hu hsz hg (by rw [List.length_map, hln]; exact (Nat.min_eq_left hn).symm) hc (by simp; omega) (by8_one l)
   unfold Oper.wp
   simp [execOp, ho, resolve, invoke, builtin, hd, hs, hrun, Result.andThen, hln]
   refine h _ ?_ (setRow_fr w g _)
   have := setRow_blk hg (List.map by8 l ++ List.drop n (List.map by8 cur)).toArray
   simpa [hln] using this
theorem step_copy_bytes {ops : Array Oper} {o : Oper} {a : Act} {w : World} {K : Act → World → Prop} {Q : Exit → Act → World → Prop} {E : Prop} (hgd : o.guard = none) (d s : Operand) (dT sT : TypeId)
  (ho : o.op = .call { callee := .builtin .copy, args := #[d, s], argTypes := #[dT, sT] }) (elem : TypeId) (hu : P.underlying dT = some (.slice elem)) (hsz : (P.info? elem).map (·.size) = some 1)
  (g dLen dCap : Nat) (A : Option Addr) (n c : Nat) (hd : a.eval d = .slice (some ⟨g, 0, none⟩) dLen dCap) (hs : a.eval s = .slice A n c)
  (cur l : List UInt8) (t : TypeId) (hg : Blk w g t (cur.map by8).toArray) (hy : By w A n l) (hn : n ≤ dLen) (hfit : n ≤ cur.length)
  (h : ∀ w', Blk w' g t ((l ++ cur.drop n).map by8).toArray → Fr [g] w w' → K (a.put o.dst (goInt n)) w') :
  if Region.wanted o (yielded ops a.tmps) = true then Oper.wp P o a w K Q else E := by
 have hw : Region.wanted o (yielded ops a.tmps) = true := by simp [Region.wanted, hgd]
 rw [if_pos hw]
 exact wp_copy_bytes d s dT sT ho elem hu hsz g dLen dCap A n c hd hs cur l t hg hy hn hfit h
end
end Go.Proofs.YtdenpfcgghangaaGreat
