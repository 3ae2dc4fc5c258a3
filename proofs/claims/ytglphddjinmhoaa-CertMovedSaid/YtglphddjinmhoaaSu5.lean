/- Sorting numbers of 64 digits: the order of two, the middle one of three, a pivot. -/
import Derived.Test.YtglphddjinmhoaaSu4
namespace Go.Proofs.Ytglphddjinmhoaa
set_option maxRecDepth 100000
open Go.RowKit Go.Sort

set_option maxHeartbeats 2000000 in
theorem ord2_u (blk off cap a b sb s : Nat) (d : Array Int) (n : Nat) (hn : d.size = n) (w : World) (hH : Hu w blk off d) (hS : Blk w sb 3 #[.int .i64 s]) (hs : s < 1000) (ha : a < n) (hb : b < n) (hsz : n < 4611686018427387904) :
    Calls Try.prog 113 #[.slice (some ⟨blk, off, none⟩) n cap, .int .i64 a, .int .i64 b, .pointer (some ⟨sb, 0, none⟩)] w fun e w' =>
      ∃ x y s' : Nat, e = .returned (.tuple #[.int .i64 x, .int .i64 y]) ∧ (x = a ∧ y = b ∨ x = b ∧ y = a) ∧ s' ≤ s + 1 ∧ Blk w' sb 3 #[.int .i64 s'] ∧ Fr [sb] w w' := by
  obtain ⟨G, hG, hcw, hfw⟩ := (Su.start hH).fam
  rw [hn] at hcw hfw
  have HS := Lib.hid hS
  have h0 := hS.cell 0
  have z0 := hS.frozen 0
  clear hH hn hG hS
  simp only [List.getElem?_toArray, List.getElem?_cons_zero] at h0
  go_enter Try.func113, Try.ntmps113
  go_wp2
  go_quiet (first | (go_at_call 79; exact Calls.quiet_of_same (less_u _ _ _)))
  go_wp2
  · go_ret2
    exact ⟨b, a, s + 1, rfl, Or.inr ⟨rfl, rfl⟩, Nat.le_refl _, (HS.out.drewN nq).set 0 _, ((Fr.refl _ w).drewN nq).setCell _ (fun _ => by simp) _⟩
  · go_ret2
    exact ⟨a, b, s, rfl, Or.inl ⟨rfl, rfl⟩, Nat.le_succ _, HS.out.drewN nq, (Fr.refl _ w).drewN nq⟩
set_option maxHeartbeats 2000000 in
theorem med_u (blk off cap a b c sb s : Nat) (d : Array Int) (n : Nat) (hn : d.size = n) (w : World) (hH : Hu w blk off d) (hS : Blk w sb 3 #[.int .i64 s]) (hne : sb ≠ blk) (hs : s < 900) (ha : a < n) (hb : b < n) (hc : c < n) (hsz : n < 4611686018427387904) :
    Calls Try.prog 101 #[.slice (some ⟨blk, off, none⟩) n cap, .int .i64 a, .int .i64 b, .int .i64 c, .pointer (some ⟨sb, 0, none⟩)] w fun e w' =>
      ∃ x s' : Nat, e = .returned (.int .i64 x) ∧ (x = a ∨ x = b ∨ x = c) ∧ s' ≤ s + 3 ∧ Blk w' sb 3 #[.int .i64 s'] ∧ Fr [sb] w w' := by
  have HH := Lib.hid hH
  have c1 := ord2_u blk off cap a b sb s d n hn w hH hS (by omega) ha hb hsz
  have HN := Lib.hid hn
  clear hH hS hn
  have hnb : ¬ blk ∈ [sb] := by simpa using Ne.symm hne
  go_enter Try.func101, Try.ntmps101
  go_wp2_with fail
  refine c1.mono ?_
  rintro e w1 ⟨x1, y1, s1, rfl, hxy1, hs1, hb1, hf1⟩
  have hx1 : x1 < n := by omega
  have hy1 : y1 < n := by omega
  have c2 := ord2_u blk off cap y1 c sb s1 d n HN.out w1 (HH.out.keep hf1 hnb) hb1 (by omega) hy1 hc hsz
  have HB1 := Lib.hid hb1
  have HF1 := Lib.hid hf1
  clear c1 hb1 hf1
  go_wp2_with fail
  refine c2.mono ?_
  rintro e w2 ⟨x2, y2, s2, rfl, hxy2, hs2, hb2, hf2⟩
  have HF2 := Lib.hid (HF1.out.trans hf2 (fun _ h _ => h))
  have hx2 : x2 < n := by omega
  have c3 := ord2_u blk off cap x1 x2 sb s2 d n HN.out w2 (HH.out.keep HF2.out hnb) hb2 (by omega) hx1 hx2 hsz
  clear c2 hb2 hf2
  go_wp2_with fail
  refine c3.mono ?_
  rintro e w3 ⟨x3, y3, s3, rfl, hxy3, hs3, hb3, hf3⟩
  have HB3 := Lib.hid hb3
  have HF3 := Lib.hid (HF2.out.trans hf3 (fun _ h _ => h))
  clear c3 hb3 hf3
  go_wp2_with fail
  go_ret
  exact ⟨y3, s3, rfl, by omega, by omega, HB3.out, HF3.out⟩
set_option maxHeartbeats 2000000 in
theorem piv_u (blk off cap a b : Nat) (d : Array Int) (n : Nat) (hn : d.size = n) (w : World) (hH : Hu w blk off d) (hlt : blk < w.heap.size) (hab : a < b) (hb : b ≤ n) (h50 : b - a < 50) (hsz : n < 4611686018427387904) :
    Calls Try.prog 76 #[.slice (some ⟨blk, off, none⟩) n cap, .int .i64 a, .int .i64 b] w fun e w' =>
      ∃ p h : Nat, e = .returned (.tuple #[.int .i64 p, .int .i64 h]) ∧ a ≤ p ∧ p < b ∧ h ≤ 2 ∧ Fr [] w w' := by
  have HH := Lib.hid hH
  have HN := Lib.hid hn
  have HL := Lib.hid hlt
  clear hH hn hlt
  obtain ⟨l, hl⟩ : ∃ l, l = b - a := ⟨_, rfl⟩
  have e1 : (b : Int) - (a : Int) = (l : Int) := by omega
  obtain ⟨q, hq⟩ : ∃ q, q = l / 4 := ⟨_, rfl⟩
  have e2 : (l : Int).tdiv 4 = (q : Int) := by rw [hq]; exact Int.ofNat_tdiv l 4
  have e2' : (l : Int) / 4 = (q : Int) := by rw [hq]; omega
  have hq4 : 4 * q ≤ l := by omega
  have hlb : a + l = b := by omega
  have hl50 : l < 50 := by omega
  have hl0 : 0 < l := by omega
  clear hl hq
  go_enter Try.func76, Try.ntmps76
  go_upto_region 6 with (fail)
  have hf0 : Fr [] w (w.alloc (Obj.cells #[Value.int IntKind.i64 0] 3)) := (Fr.refl [] w).alloc _
  have hb0 : Blk (w.alloc (Obj.cells #[Value.int IntKind.i64 0] 3)) w.heap.size 3 #[.int .i64 (0 : Nat)] := Blk.new w _ _
  generalize w.alloc (Obj.cells #[Value.int IntKind.i64 0] 3) = wa at *
  obtain ⟨sb, hsb⟩ : ∃ sb, sb = w.heap.size := ⟨_, rfl⟩
  rw [← hsb] at hb0 ⊢
  have HSB := Lib.hid hsb
  have HF0 := Lib.hid hf0
  have HB0 := Lib.hid hb0
  have z0 := hb0.frozen 0
  have h0 := hb0.cell 0
  simp only [List.getElem?_toArray, List.getElem?_cons_zero] at h0
  clear hsb hf0 hb0
  by_cases h8 : 8 ≤ l
  · have hc := med_u blk off cap (a + q) (a + q * 2) (a + q * 3) sb 0 d n HN.out wa (HH.out.keep HF0.out (by simp)) HB0.out (by have := HL.out; have := HSB.out; omega) (by decide) (by omega) (by omega) (by omega) hsz
    push_cast at hc
    clear h0 z0
    go_wp2_with fail
    refine hc.mono ?_
    rintro e w1 ⟨x, s1, rfl, hx, hs1, hb1, hf1⟩
    have HF1 : Hid (Fr [] w w1) := Lib.hid (HF0.out.and hf1 (by have := HSB.out; simp; omega))
    have h0 := hb1.cell 0
    simp only [List.getElem?_toArray, List.getElem?_cons_zero] at h0
    clear hb1 hf1 hc
    have hxa : a ≤ x ∧ x < b := by omega
    go_wp2_with fail
    all_goals go_ret2
    all_goals first
      | exact ⟨x, 1, rfl, hxa.1, hxa.2, by decide, HF1.out⟩
      | exact ⟨x, 2, rfl, hxa.1, hxa.2, by decide, HF1.out⟩
      | exact ⟨x, 0, rfl, hxa.1, hxa.2, by decide, HF1.out⟩
  · go_wp2_with fail
    go_ret2
    exact ⟨a + q * 2, 1, by go_num, by omega, by omega, by decide, HF0.out⟩
end Go.Proofs.Ytglphddjinmhoaa
