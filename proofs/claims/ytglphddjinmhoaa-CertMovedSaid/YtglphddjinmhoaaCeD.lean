/- Package cert: Median; the document's median; the example. -/
import Derived.Test.YtglphddjinmhoaaCeU
import Derived.Test.YtglphddjinmhoaaSu11
namespace Go.Proofs.Ytglphddjinmhoaa
open Go.RowKit Go.Sort
set_option maxRecDepth 100000

set_option maxHeartbeats 1000000 in
theorem median_any (A : Option Addr) (n c : Nat) (l : List Int) (w : World) (hr : UL w A n l) (hn : n ≤ 50) :
    Calls Try.prog 12 #[.slice A n c] w fun e w' => ∃ m : Int, e = .returned (.tuple #[.int .u64 m, .bool (n % 2 == 1)]) ∧ (n % 2 = 1 → IsMed l m) ∧ (n % 2 = 0 → m = 0) ∧ Fr [] w w' := by
  obtain ⟨h, hh⟩ : ∃ h, h = n / 2 := ⟨_, rfl⟩
  have e1 : (n : Int).tdiv 2 = (h : Int) := by rw [hh]; exact Int.ofNat_tdiv n 2
  have e1' : (n : Int) / 2 = (h : Int) := by rw [hh]; omega
  rcases Nat.mod_two_eq_zero_or_one n with h0 | h0
  · have e2 : (n : Int).tmod 2 = 0 := by rw [show (2 : Int) = ((2 : Nat) : Int) from rfl, ← Int.ofNat_tmod, h0]; rfl
    have e3 : (n : Int) % 2 = 0 := by omega
    have e4 : (n % 2 == 1) = false := by rw [h0]; rfl
    rw [e4]
    clear hr hh e4
    go_enter Try.func12, Try.ntmps12
    go_wp2_with fail
    go_ret2
    exact ⟨0, rfl, fun h => by omega, fun _ => rfl, Fr.refl _ _⟩
  · have e2 : (n : Int).tmod 2 = 1 := by rw [show (2 : Int) = ((2 : Nat) : Int) from rfl, ← Int.ofNat_tmod, h0]; rfl
    have e3 : (n : Int) % 2 = 1 := by omega
    have e4 : (n % 2 == 1) = true := by rw [h0]; rfl
    rw [e4]
    have hn0 : 0 < n := by omega
    have hhn : h < n := by omega
    have HH := Lib.hid hh
    have hc := clone_u A n c l w hr hn0 (by omega)
    have HR := Lib.hid hr
    clear hr hh e4
    go_enter Try.func12, Try.ntmps12
    go_wp2_with fail
    refine hc.mono ?_
    rintro e w1 ⟨A1, c1, rfl, hN⟩
    have hl : l.length = n := HR.out.1
    obtain ⟨g, rfl, hg, hu⟩ := Hu.of_own hN.1 hl hn0
    have hs := sort_u g c1 n l.toArray (by simpa using hl) (by omega) w1 hu hg
    have HF1 : Hid (Fr [] w w1) := Lib.hid hN.2.1
    have HG : Hid (w.heap.size ≤ g) := Lib.hid (hN.2.2 g (by simp [bk]))
    have HL := Lib.hid hl
    clear hc hN hu hg hl
    go_wp2_with fail
    refine hs.mono ?_
    rintro e w2 ⟨rfl, d2, hp2, hs2⟩
    have hcell : w2.cell? ⟨g, h, none⟩ = some (.int .u64 d2[h]!) := by
      have := hp2.row.cell (j := h) (by rw [hp2.size]; exact hhn)
      rwa [Nat.zero_add] at this
    have HM : Hid (IsMed l d2[h]!) := Lib.hid (by
      have hsz : l.toArray.size = n := by simpa using HL.out
      have := isMed_of (d := l.toArray) (d' := d2) (by rw [hsz]; exact hp2.perm) (by rw [hsz]; exact hs2) (by rw [hsz]; exact hn0)
      rw [hsz, ← HH.out] at this
      simpa using this)
    have HF2 : Hid (Fr [] w w2) := Lib.hid (HF1.out.and hp2.fr (by have := HG.out; simp; omega))
    generalize d2[h]! = m at hcell HM
    clear hs hp2 hs2
    go_wp2_with fail
    go_ret2
    exact ⟨m, rfl, fun _ => HM.out, fun h => by omega, HF2.out⟩
theorem ul_of_blk {w : World} {g : Nat} {l : List Int} {t : TypeId} (h : Blk w g t (l.map (fun z => Value.int .u64 z)).toArray) (hk : ∀ z ∈ l, 0 ≤ z ∧ z < 18446744073709551616) : UL w (some ⟨g, 0, none⟩) l.length l := by
  refine ⟨rfl, fun v hv => ⟨rfl, ?_⟩, fun _ => ⟨_, rfl, fun i v hi j x hx => ?_⟩⟩
  · have := hk v hv
    simp only [uok, Lit.wf, Bool.and_eq_true, decide_eq_true_eq]
    exact ⟨by show (0 : Int) ≤ v; omega, by show v ≤ 18446744073709551615; omega⟩
  · have hj : j = 0 := by
      have := (List.getElem?_eq_some_iff.1 hx).1
      simp [uc] at this
      omega
    subst hj
    simp [uc] at hx
    subst hx
    have e : (⟨g, 0, none⟩ : Addr).add (i * 1 + 0) = ⟨g, i, none⟩ := by unfold Addr.add; split <;> simp_all
    rw [e, h.cell i]
    simp [hi]
set_option maxHeartbeats 1000000 in
theorem cewakes_any (w : World) : Calls Try.prog 13 #[] w fun e w' => e = .returned (.bool true) ∧ Fr [] w w' := by
  have hb : Blk (w.alloc (Obj.cells #[.int .u64 5, .int .u64 1, .int .u64 3] 23)) w.heap.size 23 #[.int .u64 5, .int .u64 1, .int .u64 3] := Blk.new w _ _
  have hu : UL (w.alloc (Obj.cells #[.int .u64 5, .int .u64 1, .int .u64 3] 23)) (some ⟨w.heap.size, 0, none⟩) 3 [5, 1, 3] := ul_of_blk (l := [5, 1, 3]) hb (by decide)
  have hc := median_any (some ⟨w.heap.size, 0, none⟩) 3 3 [5, 1, 3] _ hu (by decide)
  have HF : Hid (Fr [] w (w.alloc (Obj.cells #[.int .u64 5, .int .u64 1, .int .u64 3] 23))) := Lib.hid ((Fr.refl [] w).alloc _)
  clear hb hu
  go_enter Try.func13, Try.ntmps13
  go_wp2_with fail
  refine hc.mono ?_
  rintro e w2 ⟨m, rfl, hm, -, hf⟩
  have hm3 : m = 3 := by
    have h : IsMed [5, 1, 3] m := by simpa using hm
    exact h.one ⟨by decide, by decide, by decide⟩
  subst hm3
  have HF2 := Lib.hid (HF.out.and hf (by simp))
  clear hc hm hf
  go_wp2_with fail
  go_ret
  exact ⟨rfl, HF2.out⟩
section
variable {H : Type} {enc : TypeId × Value → H} {w : World} {spare : Nat → Bool} {held : Bool}
theorem ul_of_trod {fuel : Nat} {A : Option Addr} {len cap : Nat} {x : DataW H × List MemPlace} (h : DataW.trod enc Try.prog w 0 spare held fuel 22 [.slice A len cap] = some x) :
    ∃ l, UL w A len l ∧ len ≤ cap ∧ cap ≤ maxLen := by
  rcases Go.ChangeShapes.open_ints Try.underlying22 Try.underlying23 (by kernel_rfl) h with ⟨hcs, _⟩ | ⟨x, l, c, zs, hcs, _, hl, hm, hz, _, hcell, hwz⟩
  · simp at hcs
    obtain ⟨rfl, rfl, rfl⟩ := hcs
    exact ⟨[], ⟨rfl, by simp, fun h => absurd h (by omega)⟩, Nat.le_refl _, Nat.zero_le _⟩
  · simp at hcs
    obtain ⟨rfl, rfl, rfl⟩ := hcs
    have hlen : len ≤ zs.length := by rw [hz]; split <;> omega
    refine ⟨zs.take len, ⟨by simp; omega, fun v hv => ⟨rfl, hwz v (List.mem_of_mem_take hv)⟩, fun _ => ⟨x, rfl, fun i v hi j y hy => ?_⟩⟩, hl, hm⟩
    have hj : j = 0 := by
      have := (List.getElem?_eq_some_iff.1 hy).1
      simp [uc] at this
      omega
    subst hj
    simp [uc] at hy
    subst hy
    rw [List.getElem?_take] at hi
    split at hi
    · have hjl : i < zs.length := (List.getElem?_eq_some_iff.1 hi).1
      rw [Nat.mul_one, Nat.add_zero, hcell i hjl, List.getD, hi]
      rfl
    · cases hi
end
end Go.Proofs.Ytglphddjinmhoaa
