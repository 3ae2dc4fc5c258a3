/- append onto an own row of one-cell values (ints, slices). -/
import Derived.Test.YtlkhfhhaallhgaaRows
import Derived.Test.YtlkhfhhaallhgaaMem
namespace Go.Proofs.Ytlkhfhhaallhgaa
open Go.RowKit
section
variable {P : Program} (w : World)
theorem run_append_vals (t ty e : TypeId) (z : Value) (nb : Nat) (ht : P.underlying t = some (.slice e)) (hi : (P.info? e).map (fun i => (i.zero, i.size, i.bytes)) = some (some z, 1, nb)) (hz : z.cells.size = 1)
    (v : Value) (n : Nat) (xs : List Value) (hown : w.ownsRow 0 e 1 v n xs)
    (ad : Addr) (c : Nat) (x : Value) (hc : w.cell? ad = some x) (h1 : x.oneCell' = true) (hn : n ≤ 1048576) (hnb : nb ≤ 1024) :
    ∃ A' c' w', (Builtin.append_ #[t, t] ty #[v, .slice (some ad) 1 c]).run P w = .ok (.slice A' (n + 1) c') w' ∧ w'.ownsRow 0 e 1 (.slice A' (n + 1) c') (n + 1) (xs ++ [x]) ∧ w.grownBy w' v.ownBlock ∧
      (bk A' = v.ownBlock.toList ∨ bk A' = [w.heap.size]) := by
  obtain ⟨i, hi0, hz0, hz1, hz2⟩ := info_parts hi
  have hcells : ∀ j u, [x][j]? = some u → w.cell? (ad.add j) = some u := by
    intro j u hu
    rcases j with _ | j
    · simp at hu; subst hu; simpa [Addr.add] using hc
    · simp at hu
  have hb : (n + 1) * nb ≤ 140737488355328 := by
    have := Nat.mul_le_mul (show n + 1 ≤ 1048577 by omega) hnb
    omega
  obtain ⟨v', w', hrun, h2, h3, _, h5⟩ := run_append_own_at (P := P) w 0 t ty e i z 1 nb ht hi0 hz0 hz1 hz2 hz (by omega) v n xs hown ad 1 c [x]
      rfl hcells (by intro u hu; simp at hu; subst hu; exact h1) (by simp only [maxLen]; omega) hb (Nat.zero_le _)
  obtain ⟨A', c', rfl⟩ := own_form h2
  refine ⟨A', c', w', hrun, h2, h3, ?_⟩
  rcases h5 with h5 | h5
  · exact .inl (by rw [← h5, bk_own])
  · exact .inr (by rw [← bk_own A' (n + 1) c', h5]; rfl)
theorem wp_append_vals {o : Oper} {a : Act} {K : Act → World → Prop} {Q : Exit → Act → World → Prop} (s x : Operand) (t : TypeId)
    (ho : o.op = .call { callee := .builtin .append, args := #[s, x], argTypes := #[t, t] })
    (e : TypeId) (z : Value) (nb : Nat) (ht : P.underlying t = some (.slice e)) (hi : (P.info? e).map (fun i => (i.zero, i.size, i.bytes)) = some (some z, 1, nb)) (hz : z.cells.size = 1)
    (v : Value) (n : Nat) (xs : List Value) (hs : a.eval s = v) (hown : w.ownsRow 0 e 1 v n xs)
    (ad : Addr) (c : Nat) (u : Value) (hx : a.eval x = .slice (some ad) 1 c) (hc : w.cell? ad = some u) (h1 : u.oneCell' = true) (hn : n ≤ 1048576) (hnb : nb ≤ 1024)
    (h : ∀ A' c' w', w'.ownsRow 0 e 1 (.slice A' (n + 1) c') (n + 1) (xs ++ [u]) → w.grownBy w' v.ownBlock → (bk A' = v.ownBlock.toList ∨ bk A' = [w.heap.size]) → K (a.put o.dst (.slice A' (n + 1) c')) w') : o.wp P a w K Q := by
  obtain ⟨A', c', w', hrun, h2, h3, h4⟩ := run_append_vals (P := P) w t o.type e z nb ht hi hz v n xs hown ad c u hc h1 hn hnb
  unfold Oper.wp execOp
  simp only [ho, resolve, invoke, builtin, Sem.run_bind, Sem.run_pure, Result.andThen_ok, List.map_toArray, List.map_cons, List.map_nil, hs, hx, hrun]
  exact h A' c' w' h2 h3 h4
theorem wpList_append_vals {ops : Array Oper} {rest : List Oper} {o : Oper} {a : Act} {Q : Exit → Act → World → Prop} (hgd : o.guard = none) (s x : Operand) (t : TypeId)
    (ho : o.op = .call { callee := .builtin .append, args := #[s, x], argTypes := #[t, t] })
    (e : TypeId) (z : Value) (nb : Nat) (ht : P.underlying t = some (.slice e)) (hi : (P.info? e).map (fun i => (i.zero, i.size, i.bytes)) = some (some z, 1, nb)) (hz : z.cells.size = 1)
    (v : Value) (n : Nat) (xs : List Value) (hs : a.eval s = v) (hown : w.ownsRow 0 e 1 v n xs)
    (ad : Addr) (c : Nat) (u : Value) (hx : a.eval x = .slice (some ad) 1 c) (hc : w.cell? ad = some u) (h1 : u.oneCell' = true) (hn : n ≤ 1048576) (hnb : nb ≤ 1024)
    (h : ∀ A' c' w', w'.ownsRow 0 e 1 (.slice A' (n + 1) c') (n + 1) (xs ++ [u]) → w.grownBy w' v.ownBlock → (bk A' = v.ownBlock.toList ∨ bk A' = [w.heap.size]) → wpList P ops Q rest (a.put o.dst (.slice A' (n + 1) c')) w') : wpList P ops Q (o :: rest) a w :=
  wpList_plain hgd fun _ hK => wp_append_vals w s x t ho e z nb ht hi hz v n xs hs hown ad c u hx hc h1 hn hnb fun A' c' w' h2 h3 h4 => hK _ _ (h A' c' w' h2 h3 h4)
end
end Go.Proofs.Ytlkhfhhaallhgaa
