/- append onto a slice with no room behind it (s[:len(s):len(s)]): what comes is in a new block. -/
import Derived.Test.YtdakilioikhhbaaVals
namespace Go.Proofs.Ytdakilioikhhbaa
open Go.RowKit
section
variable {P : Program} (w : World)
theorem run_append_full (t ty e : TypeId) (z : Value) (nb : Nat) (ht : P.underlying t = some (.slice e)) (hi : (P.info? e).map (fun i => (i.zero, i.size, i.bytes)) = some (some z, 1, nb)) (hz : z.cells.size = 1)
    (A : Option Addr) (n : Nat) (xs : List Value) (hx : xs.length = n) (hold : 0 < n → ∃ a, A = some a ∧ ∀ j u, xs[j]? = some u → w.cell? (a.add j) = some u)
    (ad : Addr) (m c : Nat) (news : List Value) (hl : news.length = m) (hnews : ∀ j u, news[j]? = some u → w.cell? (ad.add j) = some u) (h0 : 0 < m) (hn : n + m ≤ 137438953472) (hnb : nb ≤ 1024) :
    ∃ c' w', (Builtin.append_ #[t, t] ty #[.slice A n n, .slice (some ad) m c]).run P w = .ok (.slice (some ⟨w.heap.size, 0, none⟩) (n + m) c') w' ∧ w'.ownsRow 0 e 1 (.slice (some ⟨w.heap.size, 0, none⟩) (n + m) c') (n + m) (xs ++ news) ∧ Fr [] w w' := by
  obtain ⟨i, hi0, hz0, hz1, hz2⟩ := info_parts hi
  have hb : (n + m) * nb ≤ 140737488355328 := Nat.le_trans (Nat.mul_le_mul hn hnb) (by decide)
  have hge := fun old => grownCap_ge w (n + m) old e
  have hcm := fun old => grownCap_le_maxLen w (n + m) old e (by simp only [maxLen]; omega)
  have grown : ∀ old, (w.drew.alloc (.cells (xs.toArray ++ news.toArray ++ Builtin.zeroCells z.cells (grownCap w (n + m) old e - (n + m))) e)).ownsRow 0 e 1
        (.slice (some ⟨w.heap.size, 0, none⟩) (n + m) (grownCap w (n + m) old e)) (n + m) (xs ++ news) ∧
      Fr [] w (w.drew.alloc (.cells (xs.toArray ++ news.toArray ++ Builtin.zeroCells z.cells (grownCap w (n + m) old e - (n + m))) e)) := by
    intro old
    have h1 := hge old
    refine ⟨⟨by rw [List.length_append, hx, hl]; omega, .inr ⟨w.heap.size, _, _, rfl, Nat.zero_le _, heap_alloc_new w.drew _, h1, hcm old, ?_, ?_⟩⟩, ((Fr.refl [] w).drew).alloc _⟩
    · simp only [Array.size_append, List.size_toArray, size_zeroCells, hz, hx, hl]
      omega
    · simp only [Array.toList_append, List.append_assoc]
      rw [← List.append_assoc, List.take_left' (by rw [List.length_append, hx, hl]; omega)]
  rcases Nat.eq_zero_or_pos n with hn0 | hn0
  · subst hn0
    have hxs : xs = [] := List.eq_nil_of_length_eq_zero hx
    subst hxs
    have hgr := grown 0
    simp only [Nat.zero_add, List.nil_append, Array.empty_append] at hgr hb ⊢
    cases A with
    | none =>
      have hr := run_append_nil (P := P) w t ty e i z ht hi0 hz0 ad m c news (by rw [hl, hz1]; omega) hnews h0 (by omega) (by rw [hz2]; omega)
      exact ⟨_, _, hr, hgr.1, hgr.2⟩
    | some b =>
      have hr := run_append_grow (P := P) w t ty e i z ht hi0 hz0 b 0 0 [] (by simp) (by simp) ad m c news (by rw [hl, hz1]; omega) hnews (by omega) (by omega) (growslice_fits (by omega) (by rw [hz2, Nat.zero_add]; exact hb))
      simp only [Nat.zero_add, Array.empty_append] at hr
      exact ⟨_, _, hr, hgr.1, hgr.2⟩
  · obtain ⟨b, rfl, hc⟩ := hold hn0
    have hr := run_append_grow (P := P) w t ty e i z ht hi0 hz0 b n n xs (by rw [hx, hz1]; omega) hc ad m c news (by rw [hl, hz1]; omega) hnews (by omega) (by omega) (growslice_fits (by omega) (by rw [hz2]; omega))
    have hgr := grown n
    exact ⟨_, _, hr, hgr.1, hgr.2⟩
theorem wp_append_full {o : Oper} {a : Act} {K : Act → World → Prop} {Q : Exit → Act → World → Prop} (s x : Operand) (t : TypeId)
    (ho : o.op = .call { callee := .builtin .append, args := #[s, x], argTypes := #[t, t] })
    (e : TypeId) (z : Value) (nb : Nat) (ht : P.underlying t = some (.slice e)) (hi : (P.info? e).map (fun i => (i.zero, i.size, i.bytes)) = some (some z, 1, nb)) (hz : z.cells.size = 1)
    (A : Option Addr) (n : Nat) (xs : List Value) (hs : a.eval s = .slice A n n) (hx : xs.length = n) (hold : 0 < n → ∃ b, A = some b ∧ ∀ j u, xs[j]? = some u → w.cell? (b.add j) = some u)
    (ad : Addr) (m c : Nat) (news : List Value) (hy : a.eval x = .slice (some ad) m c) (hl : news.length = m) (hnews : ∀ j u, news[j]? = some u → w.cell? (ad.add j) = some u) (h0 : 0 < m) (hn : n + m ≤ 137438953472) (hnb : nb ≤ 1024)
    (h : ∀ c' w', w'.ownsRow 0 e 1 (.slice (some ⟨w.heap.size, 0, none⟩) (n + m) c') (n + m) (xs ++ news) → Fr [] w w' → K (a.put o.dst (.slice (some ⟨w.heap.size, 0, none⟩) (n + m) c')) w') : o.wp P a w K Q := by
  obtain ⟨c', w', hrun, h2, h3⟩ := run_append_full (P := P) w t o.type e z nb ht hi hz A n xs hx hold ad m c news hl hnews h0 hn hnb
  unfold Oper.wp execOp
  simp only [ho, resolve, invoke, builtin, Sem.run_bind, Sem.run_pure, Result.andThen_ok, List.map_toArray, List.map_cons, List.map_nil, hs, hy, hrun]
  exact h c' w' h2 h3
theorem wpList_append_full {ops : Array Oper} {rest : List Oper} {o : Oper} {a : Act} {Q : Exit → Act → World → Prop} (hgd : o.guard = none) (s x : Operand) (t : TypeId)
    (ho : o.op = .call { callee := .builtin .append, args := #[s, x], argTypes := #[t, t] })
    (e : TypeId) (z : Value) (nb : Nat) (ht : P.underlying t = some (.slice e)) (hi : (P.info? e).map (fun i => (i.zero, i.size, i.bytes)) = some (some z, 1, nb)) (hz : z.cells.size = 1)
    (A : Option Addr) (n : Nat) (xs : List Value) (hs : a.eval s = .slice A n n) (hx : xs.length = n) (hold : 0 < n → ∃ b, A = some b ∧ ∀ j u, xs[j]? = some u → w.cell? (b.add j) = some u)
    (ad : Addr) (m c : Nat) (news : List Value) (hy : a.eval x = .slice (some ad) m c) (hl : news.length = m) (hnews : ∀ j u, news[j]? = some u → w.cell? (ad.add j) = some u) (h0 : 0 < m) (hn : n + m ≤ 137438953472) (hnb : nb ≤ 1024)
    (h : ∀ c' w', w'.ownsRow 0 e 1 (.slice (some ⟨w.heap.size, 0, none⟩) (n + m) c') (n + m) (xs ++ news) → Fr [] w w' → wpList P ops Q rest (a.put o.dst (.slice (some ⟨w.heap.size, 0, none⟩) (n + m) c')) w') : wpList P ops Q (o :: rest) a w :=
  wpList_plain hgd fun _ hK => wp_append_full w s x t ho e z nb ht hi hz A n xs hs hx hold ad m c news hy hl hnews h0 hn hnb fun c' w' h2 h3 => hK _ _ (h c' w' h2 h3)
/-- nothing is appended -/
theorem run_append_zero (t ty e : TypeId) (i : TypeInfo) (ht : P.underlying t = some (.slice e)) (hi : P.info? e = some i) (A : Option Addr) (n m : Nat) (hnm : n ≤ m) (B : Option Addr) (c : Nat) :
    (Builtin.append_ #[t, t] ty #[.slice A n m, .slice B 0 c]).run P w = .ok (.slice A n m) w := by
  cases B with
  | none => cases A <;> simp [Builtin.append_, run_underlying ht, sizeOf, typeInfo, hi, Builtin.lenOf, Builtin.firstCells, hnm, storeCells]
  | some b =>
    have hf := run_firstCells_some (P := P) w i.size 0 b 0 c [] (by simp) (by simp)
    cases A <;> simp [Builtin.append_, run_underlying ht, sizeOf, typeInfo, hi, Builtin.lenOf, hf, hnm, storeCells]
/-- onto nil: a copy -/
theorem run_append_copyv (t ty e : TypeId) (z : Value) (nb : Nat) (ht : P.underlying t = some (.slice e)) (hi : (P.info? e).map (fun i => (i.zero, i.size, i.bytes)) = some (some z, 1, nb)) (hz : z.cells.size = 1)
    (B : Option Addr) (m c : Nat) (news : List Value) (hl : news.length = m) (hnews : 0 < m → ∃ ad, B = some ad ∧ ∀ j u, news[j]? = some u → w.cell? (ad.add j) = some u) (hn : m ≤ 137438953472) (hnb : nb ≤ 1024) :
    ∃ A' c' w', (Builtin.append_ #[t, t] ty #[.slice none 0 0, .slice B m c]).run P w = .ok (.slice A' m c') w' ∧ w'.ownsRow 0 e 1 (.slice A' m c') m news ∧ Fr [] w w' ∧ ∀ x ∈ bk A', w.heap.size ≤ x := by
  rcases Nat.eq_zero_or_pos m with h0 | h0
  · subst h0
    obtain ⟨i, hi0, hz0, hz1, hz2⟩ := info_parts hi
    have hnil : news = [] := List.eq_nil_of_length_eq_zero hl
    subst hnil
    exact ⟨none, 0, w, run_append_zero w t ty e i ht hi0 none 0 0 (Nat.le_refl _) B c, ⟨rfl, .inl ⟨rfl, rfl⟩⟩, Fr.refl _ _, by simp [bk]⟩
  · obtain ⟨ad, rfl, hc⟩ := hnews h0
    obtain ⟨c', w', hrun, h2, h3⟩ := run_append_full (P := P) w t ty e z nb ht hi hz none 0 [] rfl (fun h => absurd h (by omega)) ad m c news hl hc h0 (by omega) hnb
    simp only [Nat.zero_add, List.nil_append] at hrun h2
    exact ⟨_, c', w', hrun, h2, h3, by intro x hx; simp [bk] at hx; omega⟩
theorem wpList_append_copyv {ops : Array Oper} {rest : List Oper} {o : Oper} {a : Act} {Q : Exit → Act → World → Prop} (hgd : o.guard = none) (s x : Operand) (t : TypeId)
    (ho : o.op = .call { callee := .builtin .append, args := #[s, x], argTypes := #[t, t] })
    (e : TypeId) (z : Value) (nb : Nat) (ht : P.underlying t = some (.slice e)) (hi : (P.info? e).map (fun i => (i.zero, i.size, i.bytes)) = some (some z, 1, nb)) (hz : z.cells.size = 1)
    (hs : a.eval s = .slice none 0 0) (B : Option Addr) (m c : Nat) (news : List Value) (hy : a.eval x = .slice B m c) (hl : news.length = m) (hnews : 0 < m → ∃ ad, B = some ad ∧ ∀ j u, news[j]? = some u → w.cell? (ad.add j) = some u) (hn : m ≤ 137438953472) (hnb : nb ≤ 1024)
    (h : ∀ A' c' w', w'.ownsRow 0 e 1 (.slice A' m c') m news → Fr [] w w' → (∀ x ∈ bk A', w.heap.size ≤ x) → wpList P ops Q rest (a.put o.dst (.slice A' m c')) w') : wpList P ops Q (o :: rest) a w := by
  refine wpList_plain hgd fun _ hK => ?_
  obtain ⟨A', c', w', hrun, h2, h3, h4⟩ := run_append_copyv (P := P) w t o.type e z nb ht hi hz B m c news hl hnews hn hnb
  unfold Oper.wp execOp
  simp only [ho, resolve, invoke, builtin, Sem.run_bind, Sem.run_pure, Result.andThen_ok, List.map_toArray, List.map_cons, List.map_nil, hs, hy, hrun]
  exact hK _ _ (h A' c' w' h2 h3 h4)
/-- bytes onto a slice with no room behind it -/
theorem wp_append_bfull {o : Oper} {a : Act} {K : Act → World → Prop} {Q : Exit → Act → World → Prop} (s x : Operand) (t : TypeId)
    (ho : o.op = .call { callee := .builtin .append, args := #[s, x], argTypes := #[t, t] })
    (e : TypeId) (ht : P.underlying t = some (.slice e)) (hi : (P.info? e).map (fun i => (i.zero, i.size, i.bytes)) = some (some (.int .u8 0), 1, 1))
    (A : Option Addr) (n : Nat) (r : List UInt8) (hs : a.eval s = .slice A n n) (hA : By w A n r) (hAl : ∀ x ∈ bk A, x < w.heap.size) (B : Option Addr) (m c : Nat) (b : List UInt8) (hy : a.eval x = .slice B m c) (hB : By w B m b) (hn : n + m ≤ 1099511627776)
    (hn2 : n + m ≤ 137438953472)
    (h : ∀ A' c' w', By w' A' (n + m) (r ++ b) → n + m ≤ c' → (∀ x ∈ bk A', (x ∈ bk A ∨ w.heap.size ≤ x) ∧ x < w'.heap.size) → Fr [] w w' → K (a.put o.dst (.slice A' (n + m) c')) w') : o.wp P a w K Q := by
  have hgo : ∃ A' c' w', (Builtin.append_ #[t, t] o.type #[.slice A n n, .slice B m c]).run P w = .ok (.slice A' (n + m) c') w' ∧ By w' A' (n + m) (r ++ b) ∧ n + m ≤ c' ∧ (∀ x ∈ bk A', (x ∈ bk A ∨ w.heap.size ≤ x) ∧ x < w'.heap.size) ∧ Fr [] w w' := by
    rcases Nat.eq_zero_or_pos m with h0 | h0
    · subst h0
      obtain ⟨i, hi0, hz0, hz1, hz2⟩ := info_parts hi
      have hnil : b = [] := List.eq_nil_of_length_eq_zero hB.1
      subst hnil
      exact ⟨A, n, w, run_append_zero w t o.type e i ht hi0 A n n (Nat.le_refl _) B c, by simpa using hA, Nat.le_refl _, fun x hx => ⟨.inl hx, hAl x hx⟩, Fr.refl _ _⟩
    · obtain ⟨ad, rfl, hc⟩ := hB.2 h0
      obtain ⟨c', w', hrun, h2, h3⟩ := run_append_full (P := P) w t o.type e (.int .u8 0) 1 ht hi rfl A n (r.map by8) (by rw [List.length_map]; exact hA.1) hA.2 ad m c (b.map by8) (by rw [List.length_map]; exact hB.1) hc h0 hn2 (by omega)
      rw [← List.map_append] at h2
      have hcap : n + m ≤ c' := by
        rcases h2.2 with ⟨h1, _⟩ | ⟨g, cap, cur, hv, _, _, hc, _⟩
        · injection h1 with h1; cases h1
        · injection hv; omega
      exact ⟨_, c', w', hrun, By.of_own h2, hcap, fun x hx => ⟨.inr (by simp [bk] at hx; omega), own_lt h2 x (by rw [bk_mem]; exact hx)⟩, h3⟩
  obtain ⟨A', c', w', hrun, h2, h3, h4, h5⟩ := hgo
  unfold Oper.wp execOp
  simp only [ho, resolve, invoke, builtin, Sem.run_bind, Sem.run_pure, Result.andThen_ok, List.map_toArray, List.map_cons, List.map_nil, hs, hy, hrun]
  exact h A' c' w' h2 h3 h4 h5
end
end Go.Proofs.Ytdakilioikhhbaa
