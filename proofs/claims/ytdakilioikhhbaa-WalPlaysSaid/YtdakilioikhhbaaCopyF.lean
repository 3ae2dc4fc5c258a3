/- gavelkeep.Copy of bytes, its memory known whole. -/
import Derived.Test.YtdakilioikhhbaaFull
namespace Go.Proofs.Ytdakilioikhhbaa
open Go.RowKit
theorem wpList_append_nil0 {P : Program} {w : World} {ops : Array Oper} {rest : List Oper} {o : Oper} {a : Act} {Q : Exit → Act → World → Prop} (hgd : o.guard = none) (s x : Operand) (t : TypeId)
    (ho : o.op = .call { callee := .builtin .append, args := #[s, x], argTypes := #[t, t] })
    (e : TypeId) (ht : P.underlying t = some (.slice e)) (hi : (P.info? e).map (fun i => (i.zero, i.size, i.bytes)) = some (some (.int .u8 0), 1, 1))
    (hs : a.eval s = .slice none 0 0) (A : Option Addr) (c : Nat) (hx : a.eval x = .slice A 0 c)
    (h : wpList P ops Q rest (a.put o.dst (.slice none 0 0)) w) : wpList P ops Q (o :: rest) a w := by
  obtain ⟨i, hi0, hz0, hz1, hz2⟩ := info_parts hi
  refine wpList_plain hgd fun K hK => ?_
  have hrun : (Builtin.append_ #[t, t] o.type #[.slice none 0 0, .slice A 0 c]).run P w = .ok (.slice none 0 0) w := by
    cases A with
    | none => simp [Builtin.append_, run_underlying ht, sizeOf, typeInfo, hi0, Builtin.lenOf, Builtin.firstCells]
    | some ad =>
      have hf := run_firstCells_some (P := P) w i.size 0 ad 0 c [] (by simp) (by simp)
      simp [Builtin.append_, run_underlying ht, sizeOf, typeInfo, hi0, Builtin.lenOf, hf, storeCells]
  unfold Oper.wp execOp
  simp only [ho, resolve, invoke, builtin, Sem.run_bind, Sem.run_pure, Result.andThen_ok, List.map_toArray, List.map_cons, List.map_nil, hs, hx, hrun]
  exact hK _ _ h
theorem copy_full (A : Option Addr) (n c : Nat) (l : List UInt8) (w : World) (hr : By w A n l) (hn : n ≤ 1073741824) :
    Calls Try.prog 24 #[.slice A n c] w fun e w' => ∃ A' c' s, e = .returned (.slice A' n c') ∧ FullB w' A' n c' l s ∧ Fr [] w w' ∧ (∀ x ∈ bk A', w.heap.size ≤ x) ∧ c' ≤ maxLen := by
  have HR := Lib.hid hr
  have HN := Lib.hid hn
  clear hr hn
  by_cases h0 : 0 < n
  · go_enter Try.func24, Try.ntmps24
    go_wp2_with (at_builtin; refine Stop.mk ?_)
    refine Stop.go ?_
    refine wpList_append_fresh rfl (.const (.slice none 0 0)) (.tmp 3) _ rfl 5 Try.underlying22 info_u8 (.slice none 0 0) (.inl rfl) rfl A n c l rfl HR.out h0 HN.out ?_
    intro g c1 sp w1 hb hc hf hg hm
    have HB := Lib.hid hb
    have HCL := Lib.hid hc
    have HF := Lib.hid hf
    have HM := Lib.hid hm
    have HG := Lib.hid hg
    clear hb hc hf hm hg
    go_wp2
    go_ret
    exact ⟨_, c1, sp, rfl, ⟨HR.out.1, HCL.out, .inr ⟨g, rfl, HB.out⟩⟩, HF.out, by intro x hx; simp [bk] at hx; subst hx; exact HG.out, HM.out⟩
  · have hn0 : n = 0 := by omega
    subst hn0
    have hl0 : l = [] := List.eq_nil_of_length_eq_zero HR.out.1
    subst hl0
    clear h0
    go_enter Try.func24, Try.ntmps24
    go_wp2_with (at_builtin; refine Stop.mk ?_)
    refine Stop.go ?_
    refine wpList_append_nil0 rfl (.const (.slice none 0 0)) (.tmp 3) _ rfl 5 Try.underlying22 info_u8 rfl A c rfl ?_
    go_wp2
    go_ret
    exact ⟨none, 0, [], rfl, ⟨rfl, rfl, .inl ⟨rfl, rfl⟩⟩, Fr.refl _ _, by simp [bk], Nat.zero_le _⟩
end Go.Proofs.Ytdakilioikhhbaa
