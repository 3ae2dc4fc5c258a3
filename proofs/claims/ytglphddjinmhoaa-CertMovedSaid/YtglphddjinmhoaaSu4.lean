/- Sorting numbers of 64 digits: the heap sort; the order of two, the middle one of three, a pivot. -/
import Derived.Test.YtglphddjinmhoaaSu3
namespace Go.Proofs.Ytglphddjinmhoaa
set_option maxRecDepth 100000
open Go.RowKit Go.Sort

/-- behind one store into the row another place may be stored into, too -/
theorem Su.stored {w w' : World} {blk off : Nat} {d dk : Array Int} (h : Su w blk off d w' dk) {i j : Nat} {v : Int} (hi : i < d.size) (hj : j < d.size) :
    (w'.setCell ⟨blk, off + i, none⟩ (.int .u64 v)).cell? ⟨blk, off + j, none⟩ = some (.int .u64 (dk.setIfInBounds i v)[j]!) ∧ (w'.setCell ⟨blk, off + i, none⟩ (.int .u64 v)).frozen? ⟨blk, off + j, none⟩ = false := by
  have hi' : i < dk.size := by rw [h.2.1]; exact hi
  have hj' : j < dk.size := by rw [h.2.1]; exact hj
  have e := putRow_set (Value.int .u64) w' blk off dk i v hi'
  rw [putRow_self _ _ _ _ _ h.1] at e
  rw [e]
  exact holds_putRow _ _ _ _ dk _ h.1 (by simp) j (by simpa using hj')
set_option maxHeartbeats 4000000 in
theorem heap_u (blk off cap a b : Nat) (d : Array Int) (n : Nat) (hn : d.size = n) (w : World) (hH : Hu w blk off d) (hab : a ≤ b) (hb : b ≤ n) (hsz : n < 4611686018427387904) :
    Calls Try.prog 74 #[.slice (some ⟨blk, off, none⟩) n cap, .int .i64 a, .int .i64 b] w fun e w' => e = .returned (.tuple #[]) ∧ Su w blk off d w' (heapSort ltInt d a b) := by
  have HH := Lib.hid hH
  have HN := Lib.hid hn
  clear hH hn
  obtain ⟨h, hh⟩ : ∃ h, h = b - a := ⟨_, rfl⟩
  have e1 : (b : Int) - (a : Int) = (h : Int) := by omega
  obtain ⟨z, hz⟩ : ∃ z, z = (h - 1) / 2 + 1 := ⟨_, rfl⟩
  have e2 : ((h : Int) - 1).tdiv 2 = (z : Int) - 1 := by rw [← e1, half_start hab, hz, hh]
  have HE : Hid (heapSort ltInt d a b = heapPop ltInt a h (heapBuild ltInt h a z d)) := Lib.hid (by unfold heapSort; rw [hz, hh])
  have hah : a + h ≤ n := by omega
  have hzh : z ≤ h + 1 := by omega
  have hzz : Hid (z ≤ h ∨ h = 0) := Lib.hid (by omega)
  clear hz hh
  go_enter Try.func74, Try.ntmps74
  go_wp2
  go_loopw [9] (fun i wr => ∃ (k : Nat) (q : Int) (dk : Array Int), i = .int .i64 q ∧ Hid (q = (k : Int) - 1) ∧ k ≤ z ∧ Hid (Su w blk off d wr dk) ∧ Hid (heapBuild ltInt h a k dk = heapBuild ltInt h a z d)) (fun i _ => (intOf i + 1).toNat)
  case atStart => exact ⟨z, _, d, rfl, Lib.hid rfl, Nat.le_refl _, Lib.hid (Su.start HH.out), Lib.hid rfl⟩
  case round =>
    obtain ⟨k, q, dk, rfl, HK, hkz, HS, HB⟩ := hrel
    rename World => wa
    rcases k with _ | m
    · -- the heap is built
      have hq0 : q < 0 := by have := HK.out; omega
      clear HK
      go_wp2_with fail
      go_loopw [10] (fun i wr => ∃ (k : Nat) (dq : Array Int), i = .int .i64 ((k : Int) - 1) ∧ k ≤ h ∧ Hid (Su w blk off d wr dq) ∧ Hid (heapPop ltInt a k dq = heapSort ltInt d a b)) (fun i _ => (intOf i + 1).toNat)
      case atStart => exact ⟨h, dk, rfl, Nat.le_refl _, HS, Lib.hid (by rw [HE.out, ← HB.out]; rfl)⟩
      case round =>
        obtain ⟨k, dq, rfl, hkh, HQ, HP⟩ := hrel
        rename World => wb
        rcases k with _ | m
        · go_wp2_with fail
          go_end0
          exact ⟨rfl, by rw [← HP.out]; exact HQ.out⟩
        · have e3 : ((m + 1 : Nat) : Int) - 1 = (m : Int) := by omega
          rw [e3]
          obtain ⟨G, hG, hcw, hfw⟩ := HQ.out.fam
          rw [HN.out] at hcw hfw
          have HG := Lib.hid hG
          clear hG
          have hx := fun v => Su.stored HQ.out (i := a) (v := v) (by rw [HN.out]; omega) (show a + m < d.size by rw [HN.out]; omega)
          have hxc := fun v => (hx v).1
          have hxf := fun v => (hx v).2
          clear hx
          go_wp2_with fail
          go_region
          have hsw : Su w blk off d (((wb.setCell ⟨blk, off + a, none⟩ (.int .u64 (G (a + m)))).setCell ⟨blk, off + (a + m), none⟩ (.int .u64 (G a))).drew) (swp dq a (a + m)) := (HQ.out.swapG (n := 0) HG.out (by rw [HN.out]; omega) (by rw [HN.out]; omega)).drewN 1
          generalize (((wb.setCell ⟨blk, off + a, none⟩ (.int .u64 (G (a + m)))).setCell ⟨blk, off + (a + m), none⟩ (.int .u64 (G a))).drew) = wc at hsw ⊢
          have HSW := Lib.hid hsw
          have hc := sift_u blk off cap 0 m a (swp dq a (a + m)) n (by rw [hsw.2.1, HN.out]) wc hsw.1 (Nat.zero_le _) (by omega) hsz
          clear hsw hcw hfw hxc hxf
          go_wp2_with (go_at_call 97; refine hc.mono ?_; rintro e w2 ⟨rfl, hs2⟩)
          go_roundw
          case rel => exact ⟨m, _, rfl, by omega, Lib.hid (HSW.out.trans hs2), Lib.hid (by rw [← HP.out]; rfl)⟩
          case measure => simp [intOf]
    · have e3 : ((m + 1 : Nat) : Int) - 1 = (m : Int) := by omega
      have hqm : q = (m : Int) := by rw [HK.out, e3]
      subst hqm
      clear HK
      have hc := sift_u blk off cap m h a dk n (by rw [HS.out.2.1, HN.out]) wa HS.out.1 (by have := hzz.out; omega) hah hsz
      go_wp2_with (go_at_call 97; refine hc.mono ?_; rintro e w2 ⟨rfl, hs2⟩)
      go_roundw
      case rel => exact ⟨m, _, _, rfl, Lib.hid rfl, by omega, Lib.hid (HS.out.trans hs2), Lib.hid (by rw [← HB.out]; rfl)⟩
      case measure => simp [intOf]
end Go.Proofs.Ytglphddjinmhoaa
