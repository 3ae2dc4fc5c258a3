/- gavelref01's Book: Copy. -/
import Derived.Test.YtjlmackfmmaknaaRefBs
namespace Go.Proofs.Ytjlmackfmmaknaa
set_option maxRecDepth 100000
open Go.RowKit
/-! ### Copy -/
section
variable {P : Program} (w : World)
/-- a copy of a slice onto the nil slice, empty ones too -/
theorem run_append_copy (t ty e : TypeId) (z : Value) (size nb : Nat) (ht : P.underlying t = some (.slice e)) (hi : (P.info? e).map (fun i => (i.zero, i.size, i.bytes)) = some (some z, size, nb)) (hz : z.cells.size = size) (hsz : 0 < size)
    (A : Option Addr) (m c : Nat) (news : List Value) (hown : w.ownsRow 0 e size (.slice A m c) m news) (h1 : ∀ u ∈ news, u.oneCell' = true) (hm : m ≤ maxLen) (hnb : m * nb ≤ 140737488355328) :
    ∃ A' c' w', (Builtin.append_ #[t, t] ty #[.slice none 0 0, .slice A m c]).run P w = .ok (.slice A' m c') w' ∧ w'.ownsRow 0 e size (.slice A' m c') m news ∧ w.grownBy w' none ∧
      (bk A' = [] ∨ bk A' = [w.heap.size]) := by
  obtain ⟨i, hi0, hz0, hz1, hz2⟩ := info_parts hi
  have hnil : w.ownsRow 0 e size (.slice none 0 0) 0 [] := ⟨by simp, .inl ⟨rfl, rfl⟩⟩
  suffices h : ∃ v' w', (Builtin.append_ #[t, t] ty #[.slice none 0 0, .slice A m c]).run P w = .ok v' w' ∧ w'.ownsRow 0 e size v' m news ∧ w.grownBy w' none ∧ (v'.ownBlock = none ∨ v'.ownBlock = some w.heap.size) by
    obtain ⟨v', w', h1, h2, h3, h4⟩ := h
    obtain ⟨A', c', rfl⟩ := own_form h2
    refine ⟨A', c', w', h1, h2, h3, ?_⟩
    rcases h4 with h4 | h4
    · exact .inl (by rw [← bk_own A' m c', h4]; rfl)
    · exact .inr (by rw [← bk_own A' m c', h4]; rfl)
  rcases A with _ | ad
  · have hm0 : m = 0 := by
      rcases Nat.eq_zero_or_pos m with h0 | h0
      · exact h0
      · obtain ⟨g, cap, hv, _, _⟩ := hown.form h0
        injection hv with hA
        cases hA
    subst hm0
    have hn : news = [] := List.eq_nil_of_length_eq_zero (by simpa using hown.1)
    subst hn
    exact ⟨_, w, run_append_nothing w 0 t ty e i size ht hi0 _ 0 _ hnil c, hnil, World.grownBy.refl w _, .inl rfl⟩
  · have hcells : ∀ j u, news[j]? = some u → w.cell? (ad.add j) = some u := by
      intro j u hj
      rcases Nat.eq_zero_or_pos m with h0 | h0
      · have hn : news = [] := List.eq_nil_of_length_eq_zero (by rw [hown.1, h0]; simp)
        rw [hn] at hj
        simp at hj
      · obtain ⟨g, cap, hv, _, _⟩ := hown.form h0
        injection hv with hA
        injection hA with hA
        subst hA
        exact hown.cells (g := g) rfl j u hj
    obtain ⟨v', w', hrun, h2, h3, _, h5⟩ := run_append_own_at (P := P) w 0 t ty e i z size nb ht hi0 hz0 hz1 hz2 hz hsz (.slice none 0 0) 0 [] hnil ad m c news hown.1 hcells h1 (by omega) (by rw [Nat.zero_add]; exact hnb) (Nat.zero_le _)
    simp only [Nat.zero_add, List.nil_append] at h2
    exact ⟨v', w', hrun, h2, h3, h5⟩
theorem wpList_append_copy {ops : Array Oper} {rest : List Oper} {o : Oper} {a : Act} {Q : Exit → Act → World → Prop} (hgd : o.guard = none) (s x : Operand) (t : TypeId)
    (ho : o.op = .call { callee := .builtin .append, args := #[s, x], argTypes := #[t, t] })
    (e : TypeId) (z : Value) (size nb : Nat) (ht : P.underlying t = some (.slice e)) (hi : (P.info? e).map (fun i => (i.zero, i.size, i.bytes)) = some (some z, size, nb)) (hz : z.cells.size = size) (hsz : 0 < size)
    (A : Option Addr) (m c : Nat) (news : List Value) (hs : a.eval s = .slice none 0 0) (hx : a.eval x = .slice A m c) (hown : w.ownsRow 0 e size (.slice A m c) m news) (h1 : ∀ u ∈ news, u.oneCell' = true) (hm : m ≤ maxLen) (hnb : m * nb ≤ 140737488355328)
    (h : ∀ A' c' w', w'.ownsRow 0 e size (.slice A' m c') m news → w.grownBy w' none → (bk A' = [] ∨ bk A' = [w.heap.size]) → wpList P ops Q rest (a.put o.dst (.slice A' m c')) w') : wpList P ops Q (o :: rest) a w := by
  refine wpList_plain hgd fun K hK => ?_
  obtain ⟨A', c', w', hrun, h2, h3, h4⟩ := run_append_copy (P := P) w t o.type e z size nb ht hi hz hsz A m c news hown h1 hm hnb
  unfold Oper.wp execOp
  simp only [ho, resolve, invoke, builtin, Sem.run_bind, Sem.run_pure, Result.andThen_ok, List.map_toArray, List.map_cons, List.map_nil, hs, hx, hrun]
  exact hK _ _ (h A' c' w' h2 h3 h4)
end

theorem ecells_one (l : List Ent) : ∀ u ∈ l.flatMap ecells, u.oneCell' = true := by
  intro u hu
  simp only [List.mem_flatMap, ecells] at hu
  obtain ⟨e, _, hu⟩ := hu
  simp at hu
  rcases hu with rfl | rfl <;> rfl

set_option maxRecDepth 100000 in
set_option maxHeartbeats 1000000 in
theorem refcopy_any (w : World) (S : List Nat) (g : Nat) (l : List Ent) (h : RBk w S g l) (hll : l.length < 1048576) :
    Calls Try.prog 11 #[.pointer (some ⟨g, 0, none⟩)] w fun e w' => ∃ g' S', e = .returned (.pointer (some ⟨g', 0, none⟩)) ∧ RBk w' S' g' l ∧ Fr [] w w' ∧ ∀ y ∈ S', w.heap.size ≤ y := by
  have HB := Lib.hid h
  have HL := Lib.hid hll
  obtain ⟨A0, c0, hS, hb, ho⟩ := h
  have hcb := hb.cell 0
  simp at hcb
  have HO := Lib.hid ho
  have HBK := Lib.hid hb
  clear hS hb ho hll
  go_enter Try.func11, Try.ntmps11
  go_wp2_with (at_builtin; refine wpList_append_copy _ rfl (.const (.slice none 0 0)) (.tmp 6) _ rfl 121 (.agg #[.int .i64 0, .string ByteArray.empty]) 2 24 Try.underlying26 signed_info rfl (by omega) A0 l.length c0 (l.flatMap ecells) rfl rfl HO.out (ecells_one l) (by have := HL.out; simp only [maxLen]; omega) (by have := HL.out; omega) ?_)
  intro A1 c1 w1 ho1 hgr1 hat1
  have hf1 : Fr [] w w1 := (Fr.refl [] w).grown hgr1 (by simp)
  have HO1 := Lib.hid ho1
  have HF1 := Lib.hid hf1
  have HAT := Lib.hid hat1
  clear ho1 hgr1 hat1 hf1 hcb
  go_wp2
  go_ret
  refine ⟨w1.heap.size, w1.heap.size :: bk A1, rfl, ⟨A1, c1, rfl, Blk.new _ _ _, own_keep HO1.out ((Fr.refl [] _).alloc _) (by simp)⟩, HF1.out.alloc _, ?_⟩
  intro y hy
  have := HF1.out.size
  simp at hy
  rcases hy with rfl | hy
  · exact this
  · rcases HAT.out with h | h <;> rw [h] at hy <;> simp at hy
    omega
end Go.Proofs.Ytjlmackfmmaknaa
