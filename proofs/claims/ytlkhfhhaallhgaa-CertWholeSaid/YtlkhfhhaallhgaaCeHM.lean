/- Stamps of all replicas but one: what is made of them; a slice of two things, made. -/
import Derived.Test.YtlkhfhhaallhgaaCeGM
namespace Go.Proofs.Ytlkhfhhaallhgaa
open Go.RowKit Go.Sort
set_option maxRecDepth 100000
theorem wp_build_two {P : Program} {o : Oper} {a : Act} {w : World} {K : Act → World → Prop} {Q : Exit → Act → World → Prop} (t e : TypeId) (y z : Operand) (ho : o.op = .buildSlice t 2 #[(0, y), (1, z)]) (hu : P.underlying t = some (.slice e))
    (cs ds : List Value) (bytes : Nat) (he : ElTy P e cs.length bytes) (hds : ds.length = cs.length) (hy : a.eval y = .agg cs.toArray) (hz : a.eval z = .agg ds.toArray) (h0 : 0 < cs.length) (h1 : cs.length ≤ 1000)
    (h : K (a.put o.dst (.slice (some ⟨w.heap.size, 0, none⟩) 2 2)) (w.alloc (.cells (cs ++ ds).toArray e))) : o.wp P a w K Q := by
  obtain ⟨i, zv, hi, hzv, hzs, hs, _⟩ := he
  refine wp_buildSlice t e 2 _ ho (cs ++ ds).toArray i zv hu hi hzv (by rw [hs]; omega) (by rw [hs]; omega) ?_ h
  have hl : ((Array.range (2 * i.size)).map (zv.cells[· % zv.cells.size]!)).size = cs.length + cs.length := by simp [hs]; omega
  generalize (Array.range (2 * i.size)).map (zv.cells[· % zv.cells.size]!) = Z at *
  have e1 : (#[(0, y), (1, z)].map fun (i, x) => (i, a.eval x)).toList = [(0, .agg cs.toArray), (1, .agg ds.toArray)] := by simp [hy, hz]
  rw [e1, fill_step _ _ 0 0 cs.length _ _ (by simp [hs]) (by simp [Value.cells]) (by omega), fill_step _ _ 1 cs.length cs.length _ _ (by simp [hs]) (by simp [Value.cells, hds]) (by simp [splice, Value.cells]; omega), Instr.fill]
  congr 2
  have hZ : Z.toList.length = cs.length + cs.length := by simpa using hl
  have hd : Z.toList.drop (cs.length + cs.length) = [] := List.drop_eq_nil_of_le (by omega)
  simp [splice, Value.cells, hds, hd, List.drop_append, List.take_append]
/-- what is there when i replicas have stamped -/
structure Wi (F : Int) (sk : Nat) (b : List Ent) (k : Wcm) (L : List Wst) (i : Nat) : Prop where
  ok : ∀ v ∈ L, v.Ok
  gd : ∀ v ∈ L, ofB v k = true → Gd F b k 0 18446744073709551616 v ∧ v.r ≠ (sk : Int)
  all : ∀ r : Nat, r < i → r ≠ sk → ∃ v ∈ L, v.r = (r : Int) ∧ ofB v k = true
theorem Wi.nil (F : Int) (sk : Nat) (b : List Ent) (k : Wcm) : Wi F sk b k [] 0 := ⟨by simp, by simp, fun r h => absurd h (by omega)⟩
theorem Wi.snoc {F : Int} {sk : Nat} {b b' : List Ent} {k : Wcm} {L : List Wst} {i : Nat} {v : Wst} (h : Wi F sk b k L i) (hb : Pre b b') (hv : Gd F b' k 0 18446744073709551616 v) (hr : v.r = (i : Int)) (hn : i ≠ sk) : Wi F sk b' k (L ++ [v]) (i + 1) := by
  refine ⟨fun u hu => ?_, fun u hu ho => ?_, fun r hr1 hr2 => ?_⟩
  · rcases List.mem_append.1 hu with h1 | h1
    · exact h.ok u h1
    · rw [List.mem_singleton.1 h1]; exact hv.ok
  · rcases List.mem_append.1 hu with h1 | h1
    · have := h.gd u h1 ho
      exact ⟨this.1.pre hb (Nat.le_refl _) (Nat.le_refl _), this.2⟩
    · rw [List.mem_singleton.1 h1]
      exact ⟨hv, by omega⟩
  · rcases Nat.lt_or_ge r i with h1 | h1
    · obtain ⟨u, hu, h2⟩ := h.all r h1 hr2
      exact ⟨u, List.mem_append.2 (.inl hu), h2⟩
    · exact ⟨v, by simp, by omega, hv.of⟩
theorem Wi.two {F : Int} {sk : Nat} {b b1 b2 : List Ent} {k : Wcm} {L : List Wst} {u v : Wst} (h : Wi F sk b k L sk) (hb1 : Pre b b1) (hb2 : Pre b1 b2) (hu : u.Ok) (hun : ofB u k = false) (hv : Gd F b2 k 0 18446744073709551616 v) (hr : v.r ≠ (sk : Int)) : Wi F sk b2 k (L ++ [u, v]) (sk + 1) := by
  refine ⟨fun x hx => ?_, fun x hx ho => ?_, fun r hr1 hr2 => ?_⟩
  · rcases List.mem_append.1 hx with h1 | h1
    · exact h.ok x h1
    · rcases List.mem_cons.1 h1 with h2 | h2
      · rw [h2]; exact hu
      · rw [List.mem_singleton.1 h2]; exact hv.ok
  · rcases List.mem_append.1 hx with h1 | h1
    · have := h.gd x h1 ho
      exact ⟨this.1.pre (hb1.trans hb2) (Nat.le_refl _) (Nat.le_refl _), this.2⟩
    · rcases List.mem_cons.1 h1 with h2 | h2
      · rw [h2, hun] at ho; cases ho
      · rw [List.mem_singleton.1 h2]; exact ⟨hv, hr⟩
  · obtain ⟨x, hx, h2⟩ := h.all r (by omega) hr2
    exact ⟨x, List.mem_append.2 (.inl hx), h2⟩
theorem refL_count {F : Int} {sk N : Nat} {b : List Ent} {k : Wcm} {L : List Wst} (h : Wi F sk b k L N) : ∀ m, m ≤ N → m ≤ (refL k L m).length + (if sk < m then 1 else 0) := by
  intro m
  induction m with
  | zero => intro _; omega
  | succ m ih =>
    intro hm
    have h1 := ih (by omega)
    rw [refL_succ, List.length_append]
    by_cases hs : m = sk
    · rw [if_neg (by omega)] at h1
      rw [if_pos (by omega)]
      omega
    · obtain ⟨v, hv, h2, h3⟩ := h.all m (by omega) hs
      have h4 : (fst1 k L (m : Int)).isSome = true := by
        unfold fst1
        rw [List.find?_isSome]
        exact ⟨v, hv, by simp [h2, h3]⟩
      have h5 : (fst1 k L (m : Int)).toList.length = 1 := by
        obtain ⟨y, hy⟩ := Option.isSome_iff_exists.1 h4
        rw [hy]; rfl
      rw [h5]
      split <;> split at h1 <;> omega
theorem refL_wi {F : Int} {sk N : Nat} {b : List Ent} {k : Wcm} {L : List Wst} (h : Wi F sk b k L N) (m : Nat) : ∀ v ∈ refL k L m, Gd F b k 0 18446744073709551616 v ∧ v.r ≠ (sk : Int) := fun v hv => by
  have := fst1_r ((refL_mem k L m v).1 hv).2.2
  exact h.gd v this.2.2 this.2.1
/-- fewer of them than a quorum are none -/
theorem refL_few {k : Wcm} {M : List Wst} {N : Nat} (hr : M.Pairwise (fun a b => a.r < b.r)) (hof : ∀ v ∈ M, ofB v k = true ∧ 0 ≤ v.r ∧ v.r < N) : (refL k M N).length = M.length :=
  (refL_perm (hr.imp (fun h => by omega)) hof).length_eq
end Go.Proofs.Ytlkhfhhaallhgaa
