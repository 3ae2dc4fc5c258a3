/- Entries by number; ints that came in. -/
import Derived.Test.YtdgbcdmooklciaaBook3
import Derived.Test.YtdgbcdmooklciaaOpen
import Derived.Deep.RegionWith
import Derived.Deep.DrawnRows
import Derived.Deep.DeepCutAuto
import Derived.Deep.CutBlock
import Derived.Deep.CutRange
import Derived.Deep.RegionHeld3
namespace Go.Proofs.Ytdgbcdmooklciaa
open Go.RowKit

/-- the i-th entry: signer and text -/
def en (S i : Nat) : Ent := ((i : Int) % (S : Int), [UInt8.ofNat (i / S)])
def ens (S k : Nat) : List Ent := (List.range k).map (en S)
theorem en_inj {S i j : Nat} (hi : i < 256) (hj : j < 256) (h : en S i = en S j) : i = j := by
  unfold en at h
  simp only [Prod.mk.injEq, List.cons.injEq, and_true] at h
  obtain ⟨h1, h2⟩ := h
  have h3 : i / S = j / S := by
    have := congrArg UInt8.toNat h2
    simp only [UInt8.toNat_ofNat'] at this
    have a1 := Nat.div_le_self i S
    have a2 := Nat.div_le_self j S
    generalize i / S = x at *
    generalize j / S = y at *
    omega
  have h4 : i % S = j % S := by
    rw [← Int.natCast_emod, ← Int.natCast_emod] at h1
    exact Int.ofNat_inj.1 h1
  have e1 := Nat.div_add_mod i S
  have e2 := Nat.div_add_mod j S
  rw [h3, h4] at e1
  omega
theorem ens_succ (S k : Nat) : ens S (k + 1) = ens S k ++ [en S k] := by
  unfold ens
  rw [List.range_succ, List.map_append]
  rfl
theorem ens_mem {S i k : Nat} (h : i < k) : en S i ∈ ens S k := List.mem_map.2 ⟨i, List.mem_range.2 h, rfl⟩
theorem ens_new {S k : Nat} (hk : k < 256) : ¬ en S k ∈ ens S k := by
  intro h
  obtain ⟨i, hi, he⟩ := List.mem_map.1 h
  have hik := List.mem_range.1 hi
  have := en_inj (by omega) hk he
  omega
theorem ens_len (S k : Nat) : (ens S k).length = k := by simp [ens]
theorem sgn_new {S k : Nat} (hk : k < 256) : sgn (ens S k) (en S k) = ens S (k + 1) := by
  unfold sgn
  rw [if_neg (ens_new hk), ens_succ]
theorem mrk_at {S : Nat} : ∀ {k i : Nat}, k ≤ 256 → i < k → mrk (ens S k) (en S i) = (i : Int) + 1 := by
  intro k
  induction k with
  | zero => intro i _ h; omega
  | succ k ih =>
    intro i hk hi
    rw [ens_succ]
    by_cases he : i = k
    · subst he
      rw [mrk_new (ens_new (by omega)), ens_len]
      omega
    · have hm : en S i ∈ ens S k := ens_mem (by omega)
      have := ih (i := i) (by omega) (by omega)
      unfold mrk at this ⊢
      simp only [List.idxOf_append, hm, if_true]
      exact this

theorem u8_wrap_nat (x : Nat) (hx : x < 256) : IntKind.u8.wrap (x : Int) = (x : Int) := by
  have h : (x : Int) % 256 = x := by omega
  show (if (IntKind.u8.signed = true ∧ (2:Int) ^ (IntKind.u8.bits - 1) ≤ (x : Int) % 2 ^ IntKind.u8.bits) then (x : Int) % 2 ^ IntKind.u8.bits - 2 ^ IntKind.u8.bits else (x : Int) % 2 ^ IntKind.u8.bits) = _
  rw [if_neg (by simp [IntKind.signed])]
  exact h
theorem byte_of (q : Nat) (h : q < 256) : (q : Int) = ((UInt8.ofNat q).toNat : Int) := by
  rw [UInt8.toNat_ofNat']
  omega
/-- the parts of an entry's number -/
structure Parts (S k r q : Nat) : Prop where
  en : en S k = ((r : Int), [UInt8.ofNat q])
  rlt : r < S
  qle : q ≤ k
  div : (k : Int) / (S : Int) = q
  tdiv : (k : Int).tdiv (S : Int) = q
  mod : (k : Int) % (S : Int) = r
  tmod : (k : Int).tmod (S : Int) = r
theorem parts_of (S k : Nat) (hS : 0 < S) : ∃ r q, Parts S k r q := by
  have e1 : (k : Int) / (S : Int) = (k / S : Nat) := (Int.natCast_ediv k S).symm
  have e2 : (k : Int) % (S : Int) = (k % S : Nat) := (Int.natCast_emod k S).symm
  exact ⟨k % S, k / S, by show ((k : Int) % (S : Int), [UInt8.ofNat (k / S)]) = _; rw [e2], Nat.mod_lt _ hS, Nat.div_le_self _ _, e1, by rw [Int.tdiv_eq_ediv_of_nonneg (by omega), e1], e2, by rw [Int.tmod_eq_emod_of_nonneg (by omega), e2]⟩
theorem sign_en (w : World) (Ss : List Nat) (g S k r q : Nat) (hp : Parts S k r q) (hb : Bok w Ss g (ens S k)) (hk : k < 256) (hS4 : S ≤ 256) (A : Option Addr) (n c : Nat) (hy : By w A n [UInt8.ofNat q]) :
    Calls Try.prog 10 #[.pointer (some ⟨g, 0, none⟩), .int .i64 (r : Int), .slice A n c] w fun e w' => e = .returned (.agg #[.int .i64 (r : Int), .int .i64 ((k : Int) + 1)]) ∧ Bok w' Ss g (ens S (k + 1)) ∧ Fr Ss w w' := by
  have h1 : sgn (ens S k) (en S k) = ens S (k + 1) := sgn_new hk
  have h2 : mrk (ens S (k + 1)) (en S k) = (k : Int) + 1 := mrk_at (by omega) (by omega)
  have h := sign_any w Ss g (ens S k) hb (r : Int) (WalkArith.wf_i64 (by have := hp.rlt; omega)) A n c [UInt8.ofNat q] hy (by have := hy.1; simp at this; subst this; decide) (by rw [ens_len]; omega)
  rw [← hp.en, h1, h2] at h
  exact h
theorem sign_en_old (w : World) (Ss : List Nat) (g S k i r q : Nat) (hp : Parts S i r q) (hb : Bok w Ss g (ens S k)) (hk : k ≤ 256) (hi : i < k) (hS4 : S ≤ 256) (A : Option Addr) (n c : Nat) (hy : By w A n [UInt8.ofNat q]) :
    Calls Try.prog 10 #[.pointer (some ⟨g, 0, none⟩), .int .i64 (r : Int), .slice A n c] w fun e w' => e = .returned (.agg #[.int .i64 (r : Int), .int .i64 ((i : Int) + 1)]) ∧ Bok w' Ss g (ens S k) ∧ Fr Ss w w' := by
  have h1 : sgn (ens S k) (en S i) = ens S k := mrk_old (ens_mem hi)
  have h2 : mrk (ens S k) (en S i) = (i : Int) + 1 := mrk_at (by omega) (by omega)
  have h := sign_any w Ss g (ens S k) hb (r : Int) (WalkArith.wf_i64 (by have := hp.rlt; omega)) A n c [UInt8.ofNat q] hy (by have := hy.1; simp at this; subst this; decide) (by rw [ens_len]; omega)
  rw [← hp.en, h1, h2] at h
  exact h

/-- ints that came in -/
def Nums (w : World) (A : Option Addr) (n : Nat) (l : List Int) : Prop :=
  l.length = n ∧ (∀ v ∈ l, -9223372036854775808 ≤ v ∧ v < 9223372036854775808) ∧ (0 < n → ∃ ad, A = some ad ∧ ∀ j v, l[j]? = some v → w.cell? (ad.add j) = some (.int .i64 v))
theorem Nums.keep {w w' : World} {A : Option Addr} {n : Nat} {l : List Int} {S : List Nat} (h : Nums w A n l) (hf : Fr S w w') (hA : ∀ a, A = some a → ¬ a.block ∈ S) : Nums w' A n l :=
  ⟨h.1, h.2.1, fun hn => by
    obtain ⟨ad, e, hc⟩ := h.2.2 hn
    exact ⟨ad, e, fun j u hu => hf.cell (hc j u hu) (by rw [add_block]; exact hA ad e)⟩⟩
theorem Nums.lt {w : World} {A : Option Addr} {n : Nat} {l : List Int} (h : Nums w A n l) (hn : 0 < n) : ∀ a, A = some a → a.block < w.heap.size := by
  intro a ha
  obtain ⟨ad, e, hc⟩ := h.2.2 hn
  rw [ha] at e
  injection e with e
  subst e
  have hl : 0 < l.length := by rw [h.1]; exact hn
  have := World.block_lt_of_cell? w _ (hc 0 _ (List.getElem?_eq_getElem hl))
  rwa [add_block] at this
theorem Nums.at {w : World} {A : Option Addr} {n k : Nat} {l : List Int} (h : Nums w A n l) (hk : k < n) : ∃ ad v, A = some ad ∧ -9223372036854775808 ≤ v ∧ v < 9223372036854775808 ∧ w.cell? (ad.add k) = some (.int .i64 v) := by
  obtain ⟨ad, e, hc⟩ := h.2.2 (by omega)
  have hl : k < l.length := by rw [h.1]; exact hk
  have hb := h.2.1 l[k] (List.getElem_mem hl)
  exact ⟨ad, l[k], e, hb.1, hb.2, hc k _ (List.getElem?_eq_getElem hl)⟩

section
variable {H : Type} {enc : TypeId × Value → H} {w : World} {spare : Nat → Bool} {held : Bool}
theorem nums_of_trod {fuel : Nat} {A : Option Addr} {len cap : Nat} {x : DataW H × List MemPlace} (h : DataW.trod enc Try.prog w 0 spare held fuel 23 [.slice A len cap] = some x) :
    ∃ l, Nums w A len l ∧ len ≤ cap ∧ cap ≤ maxLen := by
  rcases Go.ChangeShapes.open_ints Try.underlying23 Try.underlying3 (by kernel_rfl) h with ⟨hcs, _⟩ | ⟨x, l, c, zs, hcs, _, hl, hm, hz, _, hcell, hwz⟩
  · simp at hcs
    obtain ⟨rfl, rfl, rfl⟩ := hcs
    exact ⟨[], ⟨rfl, by simp, fun h => absurd h (by omega)⟩, Nat.le_refl _, Nat.zero_le _⟩
  · simp at hcs
    obtain ⟨rfl, rfl, rfl⟩ := hcs
    have hlen : len ≤ zs.length := by rw [hz]; split <;> omega
    refine ⟨zs.take len, ⟨by simp; omega, fun v hv => i64_of (hwz v (List.mem_of_mem_take hv)), fun _ => ⟨x, rfl, fun j v hj => ?_⟩⟩, hl, hm⟩
    rw [List.getElem?_take] at hj
    split at hj
    · have hjl : j < zs.length := (List.getElem?_eq_some_iff.1 hj).1
      rw [hcell j hjl, List.getD, hj]
      rfl
    · cases hj
end
theorem By.mark1 (w : World) (g : Nat) (hg : g = w.heap.size) (t : TypeId) (fr : Nat × Nat) (x : Int) (b : UInt8) (h : x = (b.toNat : Int)) : By (w.alloc (.cells #[.int .u8 x] t fr)) (some ⟨g, 0, none⟩) 1 [b] :=
  By.mark w g hg t fr _ [b] (by rw [h]; rfl)
theorem By.mark1a (w : World) (g : Nat) (hg : g = w.heap.size) (t : TypeId) (fr : Nat × Nat) (x : Int) (b : UInt8) (h : x = (b.toNat : Int)) (o : Obj) : By ((w.alloc (.cells #[.int .u8 x] t fr)).alloc o) (some ⟨g, 0, none⟩) 1 [b] :=
  (By.mark1 w g hg t fr x b h).keep ((Fr.refl [] _).alloc _) (by simp)
/-- a signature's cells, made ahead of a call, are there behind it -/
structure Two2 (w : World) (g : Nat) (x y : Value) : Prop where
  c0 : w.cell? ⟨g, 0, none⟩ = some x
  c1 : w.cell? ⟨g, 1, none⟩ = some y
  z0 : w.frozen? ⟨g, 0, none⟩ = false
  z1 : w.frozen? ⟨g, 1, none⟩ = false
theorem Blk.two {w : World} {g : Nat} {T : TypeId} {x y : Value} (h : Blk w g T #[x, y]) : Two2 w g x y :=
  ⟨by simpa using h.cell 0, by simpa using h.cell 1, h.frozen 0, h.frozen 1⟩
theorem sig_behind {wr w3 : World} {o : Obj} {x y : Value} {Ss : List Nat} (h : Fr Ss ((wr.alloc o).alloc (.cells #[x, y] 30)).drew w3) (hn : ¬ wr.heap.size + 1 ∈ Ss) : Two2 w3 (wr.heap.size + 1) x y := by
  have hb := (Blk.new (wr.alloc o) 30 #[x, y]).drew
  rw [show (wr.alloc o).heap.size = wr.heap.size + 1 by simp] at hb
  exact (hb.keep h hn).two
theorem sig_ahead {wr w3 : World} {o : Obj} {x y : Value} {Ss : List Nat} (h : Fr Ss ((wr.alloc (.cells #[x, y] 30)).alloc o).drew w3) (hn : ¬ wr.heap.size ∈ Ss) : Two2 w3 wr.heap.size x y :=
  (((Blk.new wr 30 #[x, y]).keep ((Fr.refl [] _).alloc o) (by simp)).drew.keep h hn).two
end Go.Proofs.Ytdgbcdmooklciaa
