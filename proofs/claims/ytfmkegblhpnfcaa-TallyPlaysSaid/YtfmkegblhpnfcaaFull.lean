/- Memory that is known whole, spare room and all: what Clone leaves; gavelkeep.Spoil. -/
import Derived.Test.YtfmkegblhpnfcaaBase
import Derived.Laws.MakeOwn
import Derived.Laws.OwnMore
set_option linter.unusedSimpArgs false
set_option linter.unusedVariables false
namespace Go.Proofs.Ytfmkegblhpnfcaa
open Go.RowKit

/-- a slice of bytes whose array is known whole: l its elements, s its spare room -/
def FullB (w : World) (A : Option Addr) (n c : Nat) (l s : List UInt8) : Prop :=
  l.length = n ∧ (l ++ s).length = c ∧ (A = none ∧ c = 0 ∨ ∃ g, A = some ⟨g, 0, none⟩ ∧ Blk w g 5 ((l ++ s).map by8).toArray)
theorem FullB.by {w : World} {A : Option Addr} {n c : Nat} {l s : List UInt8} (h : FullB w A n c l s) : By w A n l := by
  obtain ⟨h1, h2, h3⟩ := h
  rcases h3 with ⟨rfl, rfl⟩ | ⟨g, rfl, hb⟩
  · have : n = 0 := by rw [List.length_append] at h2; omega
    subst this
    have : l = [] := List.eq_nil_of_length_eq_zero h1
    subst this
    exact By.nil _ _
  · have := (By.blk (l ++ s) hb rfl).take (k := n) (by rw [List.length_append, h1]; omega)
    rw [← h1, List.take_left] at this
    rw [← h1]
    exact this
theorem FullB.keep {w w' : World} {S : List Nat} {A : Option Addr} {n c : Nat} {l s : List UInt8} (h : FullB w A n c l s) (hf : Fr S w w') (hA : ∀ x ∈ bk A, ¬ x ∈ S) : FullB w' A n c l s := by
  obtain ⟨h1, h2, h3⟩ := h
  refine ⟨h1, h2, ?_⟩
  rcases h3 with h3 | ⟨g, rfl, hb⟩
  · exact .inl h3
  · exact .inr ⟨g, rfl, hb.keep hf (hA g (by simp [bk]))⟩
theorem FullB.lt {w : World} {A : Option Addr} {n c : Nat} {l s : List UInt8} (h : FullB w A n c l s) : ∀ x ∈ bk A, x < w.heap.size := by
  obtain ⟨_, _, h3⟩ := h
  rcases h3 with ⟨rfl, _⟩ | ⟨g, rfl, hb⟩
  · simp [bk]
  · intro x hx; simp [bk] at hx; subst hx; exact hb.lt

theorem zeroCells_u8 (k : Nat) : Builtin.zeroCells (Value.int .u8 0).cells k = ((List.replicate k (0 : UInt8)).map by8).toArray := by
  have h : Builtin.zeroCells (Value.int .u8 0).cells k = madeCells #[.int .u8 0] k := by
    show Builtin.zeroCells #[.int .u8 0] k = _
    unfold Builtin.zeroCells madeCells
    simp
  rw [h]
  apply Array.ext'
  rw [toList_madeCells_one]
  simp [by8]

section
variable {P : Program}
theorem wpList_append_none {w : World} {ops : Array Oper} {rest : List Oper} {o : Oper} {a : Act} {Q : Exit → Act → World → Prop} (hgd : o.guard = none) (s x : Operand) (t : TypeId)
    (ho : o.op = .call { callee := .builtin .append, args := #[s, x], argTypes := #[t, t] })
    (e : TypeId) (ht : P.underlying t = some (.slice e)) (hi : (P.info? e).map (fun i => (i.zero, i.size, i.bytes)) = some (some (.int .u8 0), 1, 1))
    (b : Nat) (hs : a.eval s = .slice (some ⟨b, 0, none⟩) 0 0) (ad : Addr) (c : Nat) (hx : a.eval x = .slice (some ad) 0 c)
    (h : wpList P ops Q rest (a.put o.dst (.slice (some ⟨b, 0, none⟩) 0 0)) w) : wpList P ops Q (o :: rest) a w := by
  obtain ⟨i, hi0, hz0, hz1, hz2⟩ := info_parts hi
  refine wpList_plain hgd fun K hK => ?_
  have hf := run_firstCells_some (P := P) w i.size 0 ad 0 c [] (by simp) (by simp)
  have hrun : (Builtin.append_ #[t, t] o.type #[.slice (some ⟨b, 0, none⟩) 0 0, .slice (some ad) 0 c]).run P w = .ok (.slice (some ⟨b, 0, none⟩) 0 0) w := by
    simp [Builtin.append_, run_underlying ht, sizeOf, typeInfo, hi0, Builtin.lenOf, hf, storeCells]
  unfold Oper.wp execOp
  simp only [ho, resolve, invoke, builtin, Sem.run_bind, Sem.run_pure, Result.andThen_ok, List.map_toArray, List.map_cons, List.map_nil, hs, hx, hrun]
  exact hK _ _ h
/-- append of some bytes onto a slice without room: a new array, known whole -/
theorem wpList_append_fresh {w : World} {ops : Array Oper} {rest : List Oper} {o : Oper} {a : Act} {Q : Exit → Act → World → Prop} (hgd : o.guard = none) (s x : Operand) (t : TypeId)
    (ho : o.op = .call { callee := .builtin .append, args := #[s, x], argTypes := #[t, t] })
    (e : TypeId) (ht : P.underlying t = some (.slice e)) (hi : (P.info? e).map (fun i => (i.zero, i.size, i.bytes)) = some (some (.int .u8 0), 1, 1))
    (v : Value) (hv : v = .slice none 0 0 ∨ ∃ b, v = .slice (some b) 0 0) (hs : a.eval s = v)
    (A : Option Addr) (m c : Nat) (news : List UInt8) (hx : a.eval x = .slice A m c) (hr : By w A m news) (h0 : 0 < m) (h63 : m ≤ 1073741824)
    (h : ∀ g c' sp w', Blk w' g e ((news ++ sp).map by8).toArray → (news ++ sp).length = c' → Fr [] w w' → w.heap.size ≤ g → c' ≤ maxLen → wpList P ops Q rest (a.put o.dst (.slice (some ⟨g, 0, none⟩) m c')) w') : wpList P ops Q (o :: rest) a w := by
  obtain ⟨i, hi0, hz0, hz1, hz2⟩ := info_parts hi
  obtain ⟨ad, rfl, hc⟩ := hr.2 h0
  have hl := hr.1
  refine wpList_plain hgd fun K hK => ?_
  have key : ∃ C sp, (Builtin.append_ #[t, t] o.type #[v, .slice (some ad) m c]).run P w = .ok (.slice (some ⟨w.heap.size, 0, none⟩) m C) (w.drew.alloc (.cells ((news ++ sp).map by8).toArray e)) ∧ (news ++ sp).length = C ∧ C ≤ maxLen := by
    rcases hv with rfl | ⟨b, rfl⟩
    · have hrun := run_append_nil (P := P) w t o.type e i (.int .u8 0) ht hi0 hz0 ad m c (news.map by8) (by simp [hz1, hl]) hc h0 (by omega) (by rw [hz2]; omega)
      refine ⟨grownCap w m 0 e, List.replicate (grownCap w m 0 e - m) 0, ?_, ?_, grownCap_le_maxLen w m 0 e (by simp only [maxLen]; omega)⟩
      · rw [hrun, zeroCells_u8]; simp; congr 2; apply Array.ext'; simp
      · have := grownCap_ge w m 0 e
        rw [List.length_append, List.length_replicate, hl]; omega
    · have hrun := run_append_grow (P := P) w t o.type e i (.int .u8 0) ht hi0 hz0 b 0 0 [] (by simp) (by simp) ad m c (news.map by8) (by simp [hz1, hl]) hc (by omega) (by simp; omega) (growslice_fits (by omega) (by rw [hz2]; omega))
      refine ⟨grownCap w (0 + m) 0 e, List.replicate (grownCap w (0 + m) 0 e - (0 + m)) 0, ?_, ?_, grownCap_le_maxLen w (0 + m) 0 e (by simp only [maxLen]; omega)⟩
      · rw [hrun, zeroCells_u8]; simp; congr 2; apply Array.ext'; simp
      · have := grownCap_ge w (0 + m) 0 e
        rw [List.length_append, List.length_replicate, hl]; omega
  obtain ⟨C, sp, hrun, hC, hM⟩ := key
  unfold Oper.wp execOp
  simp only [ho, resolve, invoke, builtin, Sem.run_bind, Sem.run_pure, Result.andThen_ok, List.map_toArray, List.map_cons, List.map_nil, hs, hx, hrun]
  exact hK _ _ (h w.heap.size C sp _ (Blk.new w.drew e _) hC ((Fr.refl [] w).drew.alloc _) (Nat.le_refl _) hM)
end

theorem xor119 : ∀ a : Fin 256, (a.val ^^^ 119) < 256 := by decide +kernel
theorem xor_byte (b : UInt8) : ∃ d : UInt8, bits .xor .u8 (b.toNat : Int) 119 = (d.toNat : Int) := by
  refine ⟨b ^^^ 119, ?_⟩
  have key : ∀ a : Fin 256, bits .xor .u8 (((UInt8.ofNat a.val).toNat : Nat) : Int) 119 = (((UInt8.ofNat a.val) ^^^ 119).toNat : Int) := by decide +kernel
  have := key ⟨b.toNat, b.toNat_lt⟩
  simpa using this

end Go.Proofs.Ytfmkegblhpnfcaa
