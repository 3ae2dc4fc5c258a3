/- Lists of numbers of 64 digits: copies, cuts, slices.Clone. -/
import Derived.Test.YtglphddjinmhoaaLst3
import Derived.Test.YtglphddjinmhoaaCeM
import Derived.Lib.LazyBuf
namespace Go.Proofs.Ytglphddjinmhoaa
open Go.RowKit Go.Sort
set_option maxRecDepth 100000

def uc (z : Int) : List Value := [.int .u64 z]
theorem uc_one (z : Int) : ∀ u ∈ uc z, u.oneCell' = true := by intro u hu; simp [uc] at hu; subst hu; rfl
def uok (_ : World) (z : Int) : Prop := (Lit.int .u64 z).wf = true
/-- numbers that lie from A on -/
def UL (w : World) (A : Option Addr) (n : Nat) (l : List Int) : Prop := Lst 1 uc uok w A n l
theorem uok_iff {w : World} {z : Int} (h : uok w z) : 0 ≤ z ∧ z < 18446744073709551616 := by
  obtain ⟨n, rfl, hn⟩ := u64_of h
  omega
theorem el_u64 : ElTy Try.prog 23 1 8 := ElTy.of (by kernel_rfl)
section
variable {w w' : World} {A : Option Addr} {n c : Nat} {l : List Int} {S : List Nat}
theorem UL.keep (h : UL w A n l) (hf : Fr S w w') (hA : ∀ a, A = some a → ¬ a.block ∈ S) : UL w' A n l := Lst.keep h hf hA (fun _ _ x => x)
theorem UL.range (h : UL w A n l) : ∀ z ∈ l, 0 ≤ z ∧ z < 18446744073709551616 := fun z hz => uok_iff (w := w) (h.2.1 z hz).2
theorem UL.take (h : UL w A n l) {m : Nat} (hm : m ≤ n) : UL w A m (l.take m) := Lst.take h hm
theorem UL.lt (h : UL w A n l) (hn : 0 < n) : ∀ a, A = some a → a.block < w.heap.size := by
  intro a ha
  obtain ⟨ad, v, e, hv, hl, _, hc⟩ := h.at (i := 0) hn
  rw [ha] at e
  injection e with e
  subst e
  have := World.block_lt_of_cell? w _ (hc 0 (.int .u64 v) rfl)
  rwa [add_block, add_block] at this
/-- one of them, where it lies -/
theorem UL.cell {b off : Nat} (h : UL w (some ⟨b, off, none⟩) n l) {j : Nat} {v : Int} (hv : l[j]? = some v) : w.cell? ⟨b, off + j, none⟩ = some (.int .u64 v) := by
  have hj : j < n := by have := (List.getElem?_eq_some_iff.1 hv).1; rw [h.1] at this; exact this
  obtain ⟨ad, e, hc⟩ := h.2.2 (by omega)
  injection e with e
  subst e
  have := hc j v hv 0 (.int .u64 v) rfl
  rw [Nat.mul_one, Nat.add_zero] at this
  unfold Addr.add at this
  split at this
  · subst j; simpa using this
  · simpa using this
theorem UL.own (h : w.ownsRow 0 23 1 (.slice A n c) n (l.flatMap uc)) (hl : l.length = n) (hk : ∀ z ∈ l, 0 ≤ z ∧ z < 18446744073709551616) : UL w A n l :=
  Lst.of_own h hl (fun v hv => ⟨rfl, by have := hk v hv; simp only [uok, Lit.wf, Bool.and_eq_true, decide_eq_true_eq]; exact ⟨by show (0 : Int) ≤ v; omega, by show v ≤ 18446744073709551615; omega⟩⟩)
/-- a row of its own may be sorted -/
theorem Hu.of_own (h : w.ownsRow 0 23 1 (.slice A n c) n (l.flatMap uc)) (hl : l.length = n) (hn : 0 < n) : ∃ g, A = some ⟨g, 0, none⟩ ∧ g < w.heap.size ∧ Hu w g 0 l.toArray := by
  obtain ⟨g, cap, hv, _, hlt⟩ := h.form hn
  have hA : A = some ⟨g, 0, none⟩ := by injection hv
  subst hA
  refine ⟨g, rfl, hlt, fun j hj => ?_⟩
  have hj' : j < l.length := by simpa using hj
  have hc := h.cells (g := g) rfl j (.int .u64 l[j]) (by
    have := flat_at (cells := uc) (k := 1) (fun _ _ => rfl) (List.getElem?_eq_getElem hj') (j := 0) (x := .int .u64 l[j]) rfl
    simpa using this)
  have hg : l.toArray[j]! = l[j] := by simp [hj']
  rw [hg, Nat.zero_add]
  refine ⟨by
    have e : (⟨g, 0, none⟩ : Addr).add j = ⟨g, j, none⟩ := by unfold Addr.add; split <;> simp_all
    rw [← e]; exact hc, ?_⟩
  rcases h.2 with ⟨_, h0⟩ | ⟨g', cap', cur, hv', _, hh, _⟩
  · omega
  · injection hv' with e1
    injection e1 with e1
    injection e1 with e1
    subst e1
    simp [World.frozen?, hh]
end
theorem wpList_append_one3 {P : Program} {ops : Array Oper} {rest : List Oper} {o : Oper} {a : Act} {w : World} {Q : Exit → Act → World → Prop} (hg : o.guard = none) (s x : Operand) (t e : TypeId)
    (ho : o.op = .call { callee := .builtin .append, args := #[s, x], argTypes := #[t, t] }) (ht : P.underlying t = some (.slice e)) (k bytes : Nat) (he : ElTy P e k bytes) (hk : 0 < k)
    (base : Nat) (v : Value) (n : Nat) (xs cs : List Value) (hs : a.eval s = v) (hown : w.ownsRow base e k v n xs) (hbase : base ≤ w.heap.size) (hcl : cs.length = k) (h1 : ∀ u ∈ cs, u.oneCell' = true)
    (g : Nat) (t' : TypeId) (hx : a.eval x = .slice (some ⟨g, 0, none⟩) 1 1) (hb : Blk w g t' cs.toArray) (hn : n < 1000000) (hby : bytes ≤ 1000)
    (h : ∀ A c w', w'.ownsRow base e k (.slice A (n + 1) c) (n + 1) (xs ++ cs) → Fr v.ownBlock.toList w w' → ((Value.slice A (n + 1) c).ownBlock = v.ownBlock ∨ (Value.slice A (n + 1) c).ownBlock = some w.heap.size) → wpList P ops Q rest (a.put o.dst (.slice A (n + 1) c)) w') : wpList P ops Q (o :: rest) a w := by
  obtain ⟨i, z, hi, hz, hzs, hsz, hbs⟩ := he
  refine wpList_append_lies w hg s x t ho base e i z k bytes ht hi hz hsz hbs hzs hk v n xs hs hown ⟨g, 0, none⟩ 1 1 cs hx (by omega) (fun j u hu => ?_) h1 (by omega) (by simp only [maxLen]; omega)
    (Nat.le_trans (Nat.mul_le_mul (show n + 1 ≤ 1000000 by omega) hby) (by decide)) hbase _ rfl (fun g' cap w' h2 h3 h4 _ => ?_)
  · have hadd : (⟨g, 0, none⟩ : Addr).add j = ⟨g, j, none⟩ := by unfold Addr.add; split <;> simp_all
    rw [hadd, hb.cell j]
    simpa using hu
  · exact h _ _ w' h2 ((Fr.refl _ w).grown h3 (fun y hy _ => by simp [hy])) (h4.imp (fun e => e.symm) (fun e => by rw [e]; rfl))
section
variable {P : Program} (w : World)
/-- a list behind a list of the call's own -/
theorem run_append_ownl {α : Type} {cells : α → List Value} {ok : World → α → Prop} (hone : ∀ v, ∀ u ∈ cells v, u.oneCell' = true) (t ty e : TypeId) (k bytes : Nat) (ht : P.underlying t = some (.slice e)) (he : ElTy P e k bytes) (hk : 0 < k) (hby : bytes ≤ 1000)
    (V : Option Addr) (n c0 : Nat) (xs : List α) (hown : w.ownsRow 0 e k (.slice V n c0) n (xs.flatMap cells)) (A : Option Addr) (m c : Nat) (l : List α) (hr : Lst k cells ok w A m l) (hm : n + m ≤ 1000000) :
    ∃ A' c' w', (Builtin.append_ #[t, t] ty #[.slice V n c0, .slice A m c]).run P w = .ok (.slice A' (n + m) c') w' ∧ w'.ownsRow 0 e k (.slice A' (n + m) c') (n + m) ((xs ++ l).flatMap cells) ∧ Fr (bk V) w w' ∧ ∀ x ∈ bk A', x ∈ bk V ∨ w.heap.size ≤ x := by
  obtain ⟨i, z, hi, hz, hzs, hsz, hbs⟩ := he
  rw [List.flatMap_append]
  suffices h : ∃ v' w', (Builtin.append_ #[t, t] ty #[.slice V n c0, .slice A m c]).run P w = .ok v' w' ∧ w'.ownsRow 0 e k v' (n + m) (xs.flatMap cells ++ l.flatMap cells) ∧ w.grownBy w' (Value.slice V n c0).ownBlock ∧ (v'.ownBlock = (Value.slice V n c0).ownBlock ∨ v'.ownBlock = some w.heap.size) by
    obtain ⟨v', w', h1, h2, h3, h4⟩ := h
    obtain ⟨A', c', rfl⟩ := own_form h2
    refine ⟨A', c', w', h1, h2, (Fr.refl _ w).grown h3 (fun y hy _ => by rw [← bk_own V n c0, hy]; simp), fun x hx => ?_⟩
    rw [← bk_own A' (n + m) c'] at hx
    rcases h4 with h4 | h4
    · rw [h4, bk_own V n c0] at hx; exact .inl hx
    · rw [h4] at hx; simp at hx; exact .inr (by omega)
  rcases A with _ | ad
  · have hm0 : m = 0 := by
      rcases Nat.eq_zero_or_pos m with h0 | h0
      · exact h0
      · obtain ⟨ad, h, _⟩ := hr.2.2 h0
        cases h
    subst hm0
    have hn : l = [] := List.eq_nil_of_length_eq_zero hr.1
    subst hn
    exact ⟨_, w, run_append_nothing w 0 t ty e i k ht hi _ n _ hown c, by simpa using hown, World.grownBy.refl w _, .inl rfl⟩
  · obtain ⟨v', w', hrun, h2, h3, _, h5⟩ := run_append_own_at (P := P) w 0 t ty e i z k bytes ht hi hz hsz hbs hzs hk _ n _ hown ad m c (l.flatMap cells)
      (by rw [cells_flat_len (fun v hv => (hr.2.1 v hv).1), hr.1]) (hr.flat hk) (cells_one hone l) (by simp only [maxLen]; omega)
      (Nat.le_trans (Nat.mul_le_mul hm hby) (by decide)) (Nat.zero_le _)
    exact ⟨v', w', hrun, h2, h3, h5⟩
theorem wp_append_ownl {α : Type} {cells : α → List Value} {ok : World → α → Prop} {o : Oper} {a : Act} {K : Act → World → Prop} {Q : Exit → Act → World → Prop} (s x : Operand) (t : TypeId)
    (ho : o.op = .call { callee := .builtin .append, args := #[s, x], argTypes := #[t, t] }) (e : TypeId) (k bytes : Nat) (ht : P.underlying t = some (.slice e)) (he : ElTy P e k bytes) (hk : 0 < k) (hby : bytes ≤ 1000)
    (hone : ∀ v, ∀ u ∈ cells v, u.oneCell' = true) (V : Option Addr) (n c0 : Nat) (xs : List α) (hs : a.eval s = .slice V n c0) (hown : w.ownsRow 0 e k (.slice V n c0) n (xs.flatMap cells)) (A : Option Addr) (m c : Nat) (l : List α) (hx : a.eval x = .slice A m c) (hr : Lst k cells ok w A m l) (hm : n + m ≤ 1000000)
    (h : ∀ A' c' w', w'.ownsRow 0 e k (.slice A' (n + m) c') (n + m) ((xs ++ l).flatMap cells) → Fr (bk V) w w' → (∀ x ∈ bk A', x ∈ bk V ∨ w.heap.size ≤ x) → K (a.put o.dst (.slice A' (n + m) c')) w') : Oper.wp P o a w K Q := by
  obtain ⟨A', c', w', hrun, h2, h3, h4⟩ := run_append_ownl (P := P) w hone t o.type e k bytes ht he hk hby V n c0 xs hown A m c l hr hm
  unfold Oper.wp execOp
  simp only [ho, resolve, invoke, builtin, Sem.run_bind, Sem.run_pure, Result.andThen_ok, List.map_toArray, List.map_cons, List.map_nil, hs, hx, hrun]
  exact h A' c' w' h2 h3 h4
theorem wpList_append_ownl {α : Type} {cells : α → List Value} {ok : World → α → Prop} {ops : Array Oper} {rest : List Oper} {o : Oper} {a : Act} {Q : Exit → Act → World → Prop} (hgd : o.guard = none) (s x : Operand) (t : TypeId)
    (ho : o.op = .call { callee := .builtin .append, args := #[s, x], argTypes := #[t, t] }) (e : TypeId) (k bytes : Nat) (ht : P.underlying t = some (.slice e)) (he : ElTy P e k bytes) (hk : 0 < k) (hby : bytes ≤ 1000)
    (hone : ∀ v, ∀ u ∈ cells v, u.oneCell' = true) (V : Option Addr) (n c0 : Nat) (xs : List α) (hs : a.eval s = .slice V n c0) (hown : w.ownsRow 0 e k (.slice V n c0) n (xs.flatMap cells)) (A : Option Addr) (m c : Nat) (l : List α) (hx : a.eval x = .slice A m c) (hr : Lst k cells ok w A m l) (hm : n + m ≤ 1000000)
    (h : ∀ A' c' w', w'.ownsRow 0 e k (.slice A' (n + m) c') (n + m) ((xs ++ l).flatMap cells) → Fr (bk V) w w' → (∀ x ∈ bk A', x ∈ bk V ∨ w.heap.size ≤ x) → wpList P ops Q rest (a.put o.dst (.slice A' (n + m) c')) w') : wpList P ops Q (o :: rest) a w := by
  refine wpList_plain hgd fun K hK => ?_
  obtain ⟨A', c', w', hrun, h2, h3, h4⟩ := run_append_ownl (P := P) w hone t o.type e k bytes ht he hk hby V n c0 xs hown A m c l hr hm
  unfold Oper.wp execOp
  simp only [ho, resolve, invoke, builtin, Sem.run_bind, Sem.run_pure, Result.andThen_ok, List.map_toArray, List.map_cons, List.map_nil, hs, hx, hrun]
  exact hK _ _ (h A' c' w' h2 h3 h4)
end
theorem UL.cut {w : World} {A : Option Addr} {n : Nat} {l : List Int} (h : UL w A n l) {k cap : Nat} (hk : k ≤ n) (hc : n ≤ cap) : UL w (if cap = k then A else A.map (·.add k)) (n - k) (l.drop k) := by
  refine ⟨by rw [List.length_drop, h.1], fun v hv => h.2.1 v (List.mem_of_mem_drop hv), fun hn => ?_⟩
  obtain ⟨ad, rfl, hcell⟩ := h.2.2 (by omega)
  rw [if_neg (by omega)]
  refine ⟨ad.add k, rfl, fun i v hv j x hx => ?_⟩
  rw [add_add]
  rw [List.getElem?_drop] at hv
  have := hcell (k + i) v hv j x hx
  rw [Nat.mul_one] at this
  rw [Nat.mul_one, show k + (i + j) = k + i + j by omega]
  exact this
theorem UL.get {w : World} {A : Option Addr} {n k : Nat} {l : List Int} (h : UL w A n l) (hk : k < n) : ∃ ad v, A = some ad ∧ l[k]? = some v ∧ 0 ≤ v ∧ v < 18446744073709551616 ∧ w.cell? (ad.add k) = some (.int .u64 v) := by
  obtain ⟨ad, v, e, hv, _, hok, hc⟩ := h.at hk
  have hr := uok_iff hok
  have := hc 0 (.int .u64 v) rfl
  rw [add_add, Nat.mul_one, Nat.add_zero] at this
  exact ⟨ad, v, e, hv, hr.1, hr.2, this⟩
theorem own_any {w : World} {b b' : Nat} {e : TypeId} {k n : Nat} {v : Value} {xs : List Value} (h : w.ownsRow b e k v n xs) (hb : b' ≤ b) : w.ownsRow b' e k v n xs := by
  refine ⟨h.1, ?_⟩
  rcases h.2 with h | ⟨g, cap, cur, h1, h2, h3⟩
  · exact .inl h
  · exact .inr ⟨g, cap, cur, h1, by omega, h3⟩
theorem own_ge {w : World} {b : Nat} {e : TypeId} {k n c : Nat} {A : Option Addr} {xs : List Value} (h : w.ownsRow b e k (.slice A n c) n xs) : ∀ x ∈ bk A, b ≤ x := by
  intro x hx
  rcases h.2 with ⟨h, _⟩ | ⟨g, cap, cur, h1, h2, h3⟩
  · injection h with h; subst h; simp [bk] at hx
  · injection h1 with h; subst h; simp [bk] at hx; omega
theorem own_capn {w : World} {b : Nat} {e : TypeId} {k n c : Nat} {A : Option Addr} {xs : List Value} (h : w.ownsRow b e k (.slice A n c) n xs) : n ≤ c := by
  rcases h.2 with ⟨h, h0⟩ | ⟨g, cap, cur, h1, h2, h3, h4, _⟩
  · omega
  · injection h1 with _ _ e; omega

theorem copyU_any (A : Option Addr) (n c : Nat) (l : List Int) (w : World) (hr : UL w A n l) (hn : n ≤ 1000000) :
    Calls Try.prog 15 #[.slice A n c] w fun e w' => ∃ A' c', e = .returned (.slice A' n c') ∧ NewL 23 1 uc w w' A' n c' l := by
  have HR := Lib.hid hr
  have HN := Lib.hid hn
  clear hr hn
  go_enter Try.func15, Try.ntmps15
  go_wp2_with (at_builtin; refine Stop.mk ?_)
  refine Stop.go ?_
  refine wpList_append_lst _ rfl (.const (.slice none 0 0)) (.tmp 3) _ rfl 23 1 8 Try.underlying22 el_u64 (by decide) (by decide) uc_one rfl A n c l rfl HR.out HN.out ?_
  intro A1 c1 w1 ho1
  have HO := Lib.hid ho1
  clear ho1
  go_wp2
  go_ret
  exact ⟨A1, c1, rfl, HO.out⟩
theorem cutU_any (A : Option Addr) (n c m : Nat) (l : List Int) (w : World) (hr : UL w A n l) (hn : n ≤ maxLen) (hc : n ≤ c) (hm : m ≤ 1000000) :
    Calls Try.prog 11 #[.slice A n c, .int .i64 m] w fun e w' => ∃ A' c', e = .returned (.slice A' (l.take m).length c') ∧ NewL 23 1 uc w w' A' (l.take m).length c' (l.take m) := by
  unfold maxLen at hn
  have HR := Lib.hid hr
  have HL : Hid ((l.take m).length = min m n) := by rw [List.length_take, hr.1]; rfl
  clear hr
  by_cases hnm : n ≤ m
  · have hmin : Hid (min m n = n) := Nat.min_eq_right hnm
    go_enter Try.func11, Try.ntmps11
    go_wp2_with fail
    rw [show (min (n : Int) (m : Int)).toNat = n by omega]
    refine (copyU_any A n c (l.take m) w (by have h := HR.out.1; rw [List.take_of_length_le (by omega)]; exact HR.out) (by omega)).mono ?_
    rintro e w1 ⟨A1, c1, rfl, hN⟩
    have HN := Lib.hid hN
    clear hN
    go_wp2
    go_ret
    rw [HL.out, hmin.out]
    exact ⟨A1, c1, rfl, HN.out⟩
  · have hmin : Hid (min m n = m) := Nat.min_eq_left (by omega)
    have hmc : m ≤ c := by omega
    go_enter Try.func11, Try.ntmps11
    go_wp2_with fail
    rw [show (min (n : Int) (m : Int)).toNat = m by omega]
    refine (copyU_any A m c (l.take m) w (HR.out.take (by omega)) (by omega)).mono ?_
    rintro e w1 ⟨A1, c1, rfl, hN⟩
    have HN := Lib.hid hN
    clear hN
    go_wp2
    go_ret
    rw [HL.out, hmin.out]
    exact ⟨A1, c1, rfl, HN.out⟩

set_option maxHeartbeats 1000000 in
theorem clone_u (A : Option Addr) (n c : Nat) (l : List Int) (w : World) (hr : UL w A n l) (h0 : 0 < n) (hn : n ≤ 1000000) :
    Calls Try.prog 35 #[.slice A n c] w fun e w' => ∃ A' c', e = .returned (.slice A' n c') ∧ NewL 23 1 uc w w' A' n c' l := by
  obtain ⟨ad, hA, _⟩ := hr.2.2 h0
  subst hA
  have HR := Lib.hid hr
  have HN := Lib.hid hn
  clear hr hn
  go_enter Try.func35, Try.ntmps35
  have hq := fun w => Go.run_eql_slice_nil (P := Try.prog) w 22 23 (some ad) n c Try.underlying22
  simp only [Option.isNone_some] at hq
  go_wp2_with (at_builtin; refine Stop.mk ?_)
  refine Stop.go ?_
  have hown : (w.alloc (Obj.cells #[] 23)).ownsRow 0 23 1 (.slice (some ⟨w.heap.size, 0, none⟩) 0 0) 0 (([] : List Int).flatMap uc) :=
    ⟨by simp, .inr ⟨w.heap.size, 0, #[], rfl, Nat.zero_le _, Blk.new w _ _, Nat.le_refl _, Nat.zero_le _, rfl, by simp⟩⟩
  refine wpList_append_ownl _ rfl (.tmp 5) (.tmp 6) _ rfl 23 1 8 Try.underlying22 el_u64 (by decide) (by decide) uc_one (some ⟨w.heap.size, 0, none⟩) 0 0 [] rfl hown (some ad) n c l rfl
    (HR.out.keep ((Fr.refl [] w).alloc _) (by simp)) (by have := HN.out; omega) ?_
  intro A1 c1 w1 ho hf hb
  rw [Nat.zero_add, List.nil_append] at ho
  have HO : Hid (NewL 23 1 uc w w1 A1 n c1 l) := Lib.hid ⟨ho, ((Fr.refl [] w).alloc _).and hf (by intro x hx; simp [bk] at hx; omega), fun x hx => by
    rcases hb x hx with h | h
    · simp [bk] at h; omega
    · simp at h; omega⟩
  clear ho hf hb hown
  simp only [Nat.zero_add]
  go_wp2
  go_ret
  exact ⟨A1, c1, rfl, HO.out⟩
end Go.Proofs.Ytglphddjinmhoaa
