/- CertMoved's walk. -/
import Derived.Test.YtglphddjinmhoaaCeD
namespace Go.Proofs.Ytglphddjinmhoaa
open Go.RowKit Go.Sort
set_option maxRecDepth 100000

theorem ul_of_hu {w : World} {g : Nat} {l : List Int} {d : Array Int} (h : Hu w g 0 d) (hd : d.toList = l) (hk : ∀ z ∈ l, 0 ≤ z ∧ z < 18446744073709551616) : UL w (some ⟨g, 0, none⟩) l.length l := by
  subst hd
  refine ⟨rfl, fun v hv => ⟨rfl, ?_⟩, fun _ => ⟨_, rfl, fun i v hi j x hx => ?_⟩⟩
  · have := hk v hv
    simp only [uok, Lit.wf, Bool.and_eq_true, decide_eq_true_eq]
    exact ⟨by show (0 : Int) ≤ v; omega, by show v ≤ 18446744073709551615; omega⟩
  · have hj : j = 0 := by
      have := (List.getElem?_eq_some_iff.1 hx).1
      simp [uc] at this
      omega
    subst hj
    simp [uc] at hx
    subst hx
    have hi' : i < d.size := by have := (List.getElem?_eq_some_iff.1 hi).1; simpa using this
    have hv : d[i]! = v := by
      rw [getElem!_pos d i hi']
      have := List.getElem?_eq_some_iff.1 hi
      simpa using this.2
    have e : (⟨g, 0, none⟩ : Addr).add (i * 1 + 0) = ⟨g, i, none⟩ := by unfold Addr.add; split <;> simp_all
    rw [e, ← hv]
    have := h.cell (j := i) hi'
    rwa [Nat.zero_add] at this
theorem Hu.set {w : World} {blk off : Nat} {d : Array Int} (h : Hu w blk off d) {i : Nat} (hi : i < d.size) (v : Int) : Hu (w.setCell ⟨blk, off + i, none⟩ (.int .u64 v)) blk off (d.setIfInBounds i v) := by
  have e := putRow_set (Value.int .u64) w blk off d i v hi
  rw [putRow_self _ _ _ _ _ h] at e
  unfold Hu
  rw [e]
  exact holds_putRow _ _ _ _ d _ h (by simp)

set_option maxHeartbeats 4000000 in
theorem certMoved_walk (w : World) (A : Option Addr) (n c : Nat) (l0 : List Int) (hA : UL w A n l0) (hn : n ≤ c) (hc : c ≤ maxLen)
    (turn : Int) (ht1 : -9223372036854775808 ≤ turn) (ht2 : turn < 9223372036854775808) (at_ : Int) (ha1 : -9223372036854775808 ≤ at_) (ha2 : at_ < 9223372036854775808) (by_ : Nat) (hby : by_ < 18446744073709551616) :
    Calls Try.prog 3 #[.slice A n c, .int .i64 turn, .int .i64 at_, .int .u64 by_] w fun e w' => e = .returned (.bool true) ∧ Fr [] w w' := by
  have hcut := cutU_any A n c 31 l0 w hA (Nat.le_trans hn hc) hn (by decide)
  have hR := hA.range
  have HRG := Lib.hid (fun z (hz : z ∈ l0.take 31) => hR z (List.mem_of_mem_take hz))
  have hlen : (l0.take 31).length ≤ 31 := List.length_take_le _ _
  obtain ⟨N, hN⟩ : ∃ N, N = (l0.take 31).length := ⟨_, rfl⟩
  rw [← hN] at hcut hlen
  generalize l0.take 31 = l at *
  have HN := Lib.hid hN
  have HTN := Lib.hid (And.intro ht1 ht2)
  have HAT := Lib.hid (And.intro ha1 ha2)
  clear hA hn hc hR hN ht1 ht2 ha1 ha2
  have hm50 : N ≤ 50 := by omega
  go_enter Try.func3, Try.ntmps3
  go_wp2_with fail
  rw [show (31 : Int) = ((31 : Nat) : Int) from rfl]
  refine hcut.mono ?_
  rintro e w1 ⟨A1, c1, rfl, hN1⟩
  have HF1 := Lib.hid hN1.2.1
  have HU1 := Lib.hid (UL.own hN1.1 HN.out.symm HRG.out)
  have HOWN := Lib.hid hN1.1
  have HGE := Lib.hid hN1.2.2
  have hcap := own_capn hN1.1
  clear hcut hN1
  have hm1 := median_any A1 N c1 l w1 HU1.out hm50
  rcases Nat.mod_two_eq_zero_or_one N with h0 | h0
  · have e2 : (N : Int).tmod 2 = 0 := by rw [show (2 : Int) = ((2 : Nat) : Int) from rfl, ← Int.ofNat_tmod, h0]; rfl
    have e4 : (N % 2 == 1) = false := by rw [h0]; rfl
    rw [e4] at hm1
    go_wp2_with (first
      | (go_at_call 12; refine hm1.mono ?_; rintro e w5 ⟨m5, rfl, -, -, hf5⟩; have HF5 := Lib.hid (HF1.out.trans hf5 (by simp)); clear hf5)
      | (go_at_call 13; refine (cewakes_any _).mono ?_; rintro e w6 ⟨rfl, hf6⟩))
    go_ret
    exact ⟨rfl, HF5.out.trans hf6 (by simp)⟩
  · have e2 : (N : Int).tmod 2 = 1 := by rw [show (2 : Int) = ((2 : Nat) : Int) from rfl, ← Int.ofNat_tmod, h0]; rfl
    have e4 : (N % 2 == 1) = true := by rw [h0]; rfl
    have hN0 : 0 < N := by omega
    have hw2 := within_pos turn N HTN.out.1 HTN.out.2 (by omega) (by omega) w1
    obtain ⟨q, hq, hqN⟩ : ∃ q : Nat, turn % (N : Int) = (q : Int) ∧ q < N := ⟨(turn % (N : Int)).toNat, by have := Int.emod_nonneg turn (show (N : Int) ≠ 0 by omega); omega, by have := Int.emod_lt_of_pos turn (show (0 : Int) < N by omega); omega⟩
    rw [hq] at hw2
    clear hm1 hq
    go_wp2_with (first | (go_at_call 14; refine hw2.mono ?_; rintro e w' ⟨rfl, rfl⟩))
    refine wp_region_held_drew (S := Fr [] w1) (by kernel_rfl) (Fr.drew (Fr.refl _ w1)) (fun hHeld => ?_)
    have hqN' : q ≤ N := by omega
    have hqc : q ≤ c1 := by omega
    refine run_at (i := 0) (v := ?_) rfl (by kernel_rfl) (by rfl) (fun _ _ _ h => h) hHeld (fun w1 hw1 => ?_) ?_
    rotate_left 1
    · skip
      go_simp
      (try (first | with_reducible rfl | (apply And.intro <;> rfl)))
    simp only [Act.put, List.setIfInBounds_toArray, List.set_cons_zero, List.set_cons_succ]
    refine run_at (i := 1) (v := ?_) rfl (by kernel_rfl) (by rfl) (fun _ _ _ h => h) hHeld (fun w1 hw1 => ?_) ?_
    rotate_left 1
    · skip
      go_simp
      (try (first | with_reducible rfl | (apply And.intro <;> rfl)))
    simp only [Act.put, List.setIfInBounds_toArray, List.set_cons_zero, List.set_cons_succ]
    refine run_at (i := 2) (v := ?_) rfl (by kernel_rfl) (by rfl) (fun _ _ _ h => h) hHeld (fun w1 hw1 => ?_) ?_
    rotate_left 1
    · skip
      go_simp
      (try (first | with_reducible rfl | (apply And.intro <;> rfl)))
    simp only [Act.put, List.setIfInBounds_toArray, List.set_cons_zero, List.set_cons_succ]
    refine run_at (i := 4) (v := ?_) rfl (by kernel_rfl) (by rfl) (fun _ _ _ h => h) hHeld (fun w1 hw1 => ?_) ?_
    rotate_left 1
    · skip
      go_simp
      (try (first | with_reducible rfl | (apply And.intro <;> rfl)))
    simp only [Act.put, List.setIfInBounds_toArray, List.set_cons_zero, List.set_cons_succ]
    refine run_at (i := 5) (v := ?_) rfl (by kernel_rfl) (by rfl) (fun _ _ _ h => h) hHeld (fun w1 hw1 => ?_) ?_
    rotate_left 1
    · skip
      go_simp
      (try (first | with_reducible rfl | (apply And.intro <;> rfl)))
    simp only [Act.put, List.setIfInBounds_toArray, List.set_cons_zero, List.set_cons_succ]
    refine run_at (i := 6) (v := ?_) rfl (by kernel_rfl) (by rfl) (fun _ _ _ h => h) hHeld (fun w1 hw1 => ?_) ?_
    rotate_left 1
    · skip
      go_simp
      (try (first | with_reducible rfl | (apply And.intro <;> rfl)))
    simp only [Act.put, List.setIfInBounds_toArray, List.set_cons_zero, List.set_cons_succ]
    refine call_at (i := 3) (f := ?_) (args := ?_) rfl (by kernel_rfl) (by rfl) ?_ ?_
    rotate_left 2
    · go_simp
      (try (first | with_reducible rfl | (apply And.intro <;> rfl)))
    refine (copyU_any (if c1 = q then A1 else A1.map (·.add q)) (N - q) (c1 - q) (l.drop q) _ ((HU1.out.keep hHeld (by simp)).cut hqN' hcap) (by omega)).mono ?_
    rintro e w2 ⟨A2, c2, rfl, hN1⟩
    refine ⟨_, rfl, hHeld.trans hN1.2.1 (by simp), fun hHeld => ?_⟩
    simp only [Act.put, List.setIfInBounds_toArray, List.set_cons_zero, List.set_cons_succ]
    have HN1 := Lib.hid hN1
    clear hN1
    refine step_at (i := 7) rfl (by kernel_rfl) (by rfl) (fun K hK => ?_)
    refine wp_append_ownl _ _ _ _ rfl 23 1 8 Try.underlying22 el_u64 (by decide) (by decide) uc_one A2 (N - q) c2 (l.drop q) rfl HN1.out.1 A1 q c1 (l.take q) rfl ((HU1.out.keep hHeld (by simp)).take hqN') (by omega) ?_
    intro A3 c3 w3 ho2 hf2 hb2
    refine hK.out _ _ (hHeld.and hf2 (fun z hz => by have := HN1.out.2.2 z hz; simpa using this)) (fun hHeld => ?_)
    clear hK K
    simp only [Act.put, List.setIfInBounds_toArray, List.set_cons_zero, List.set_cons_succ]
    have e5 : N - q + q = N := by omega
    rw [e5] at ho2 ⊢
    have HRL : Hid ((l.drop q ++ l.take q).Perm l) := Lib.hid (List.perm_append_comm.trans (by rw [List.take_append_drop]))
    have HU2 : Hid (UL w3 A3 N (l.drop q ++ l.take q)) := Lib.hid (UL.own ho2 (by rw [HRL.out.length_eq]; exact HN.out.symm) (fun z hz => HRG.out z (HRL.out.mem_iff.1 hz)))
    have HGE3 : Hid (∀ x ∈ bk A3, w1.heap.size ≤ x) := Lib.hid (fun x hx => by
      rcases hb2 x hx with h | h
      · have := HN1.out.2.2 x h; simpa using this
      · have := HN1.out.2.1.size; simp at this h; omega)
    clear ho2 hf2 hb2
    refine run_at (i := 8) (v := ?_) rfl (by kernel_rfl) (by rfl) (fun _ _ _ h => h) hHeld (fun w1 hw1 => ?_) ?_
    rotate_left 1
    · skip
      go_simp
      (try (first | with_reducible rfl | (apply And.intro <;> rfl)))
    simp only [Act.put, List.setIfInBounds_toArray, List.set_cons_zero, List.set_cons_succ]
    refine wpAnyH_done (by kernel_rfl) ?_ _
    generalize l.drop q ++ l.take q = r at *
    have HF3 := Lib.hid hHeld
    clear hHeld
    have hm1 := median_any A1 N c1 l w3 (HU1.out.keep HF3.out (by simp)) hm50
    rw [e4] at hm1
    go_wp2_with fail
    refine hm1.mono ?_
    rintro e w4 ⟨a, rfl, hma, -, hf4⟩
    have HMA := Lib.hid (hma h0)
    have HF4 := Lib.hid (HF3.out.trans hf4 (by simp))
    have HU24 := Lib.hid (HU2.out.keep hf4 (by simp))
    clear hm1 hma hf4
    have hm2 := median_any A3 N c3 r w4 HU24.out hm50
    rw [e4] at hm2
    go_wp2_with fail
    refine hm2.mono ?_
    rintro e w5 ⟨a', rfl, hmb, -, hf5⟩
    have haa : a = a' := HMA.out.one ((hmb h0).perm HRL.out.symm)
    subst haa
    have HF5 := Lib.hid (HF4.out.trans hf5 (by simp))
    have HU25 := Lib.hid (HU24.out.keep hf5 (by simp))
    clear hm2 hmb hf5
    have hw3 := within_pos at_ N HAT.out.1 HAT.out.2 (by omega) (by omega) w5
    obtain ⟨i, hi, hiN⟩ : ∃ i : Nat, at_ % (N : Int) = (i : Int) ∧ i < N := ⟨(at_ % (N : Int)).toNat, by have := Int.emod_nonneg at_ (show (N : Int) ≠ 0 by omega); omega, by have := Int.emod_lt_of_pos at_ (show (0 : Int) < N by omega); omega⟩
    rw [hi] at hw3
    clear hi
    obtain ⟨g, rfl, hg, hu⟩ := Hu.of_own HOWN.out HN.out.symm hN0
    have HG : Hid (w.heap.size ≤ g) := Lib.hid (HGE.out g (by simp [bk]))
    have HGL := Lib.hid hg
    have HU5 := Lib.hid (hu.keep HF5.out (by simp))
    clear hg hu
    obtain ⟨v, hv⟩ : ∃ v, l[i]? = some v := ⟨_, List.getElem?_eq_getElem (by rw [← HN.out]; exact hiN)⟩
    have hvr := HRG.out v (List.mem_of_getElem? hv)
    have hvd : l.toArray[i]! = v := by
      have h := List.getElem?_eq_some_iff.1 hv
      obtain ⟨h1, h2⟩ := h
      simp [h1, h2]
    have hid : i < l.toArray.size := by simpa using (by rw [← HN.out]; exact hiN : i < l.length)
    have hcell : w5.cell? ⟨g, i, none⟩ = some (.int .u64 v) := by
      have := HU5.out.cell hid
      rwa [Nat.zero_add, hvd] at this
    have hfrz : w5.frozen? ⟨g, i, none⟩ = false := by
      have := HU5.out.frozen hid
      rwa [Nat.zero_add] at this
    have HVI := Lib.hid hv
    clear hv hvd
    have hwb : IntKind.u64.wrap (18446744073709551615 - (by_ : Int)) = 18446744073709551615 - (by_ : Int) := by simp [IntKind.wrap, IntKind.bits, IntKind.signed]; omega
    go_upto_if 70 with (first | (go_at_call 14; refine hw3.mono ?_; rintro e w' ⟨rfl, rfl⟩))
    go_cut [17] (fun s wx => s = .int .i64 i ∧ ∃ l' : List Int, Hid (l'.length = N) ∧ Hid (UL wx (some ⟨g, 0, none⟩) N l') ∧ Hid (Fr [g] w5 wx) ∧ Hid (∀ (j : Nat) (x y : Int), l[j]? = some x → l'[j]? = some y → x ≤ y))
    case first =>
      by_cases hlt : v < 18446744073709551615 - (by_ : Int)
      · have hwa : IntKind.u64.wrap (v + (by_ : Int)) = v + (by_ : Int) := by simp [IntKind.wrap, IntKind.bits, IntKind.signed]; omega
        go_wp2_with fail
        go_meet
        have hl' : (l.set i (v + (by_ : Int))).length = N := by rw [List.length_set]; exact HN.out.symm
        refine ⟨rfl, l.set i (v + (by_ : Int)), Lib.hid hl', Lib.hid ?_, Lib.hid ((Fr.refl _ w5).setCell _ (fun _ => by simp) _), Lib.hid (fun j x y hx hy => ?_)⟩
        · have hs := HU5.out.set hid (v + (by_ : Int))
          rw [Nat.zero_add] at hs
          have := ul_of_hu hs (l := l.set i (v + (by_ : Int))) (by simp) (fun z hz => by
            rcases List.mem_or_eq_of_mem_set hz with h | h
            · exact HRG.out z h
            · omega)
          rwa [hl'] at this
        · rw [List.getElem?_set] at hy
          split at hy
          · rename_i he
            subst he
            rw [HVI.out] at hx
            split at hy
            · injection hx with hx
              injection hy with hy
              omega
            · cases hy
          · rw [hx] at hy
            injection hy with hy
            omega
      · go_wp2_with fail
        go_meet
        exact ⟨rfl, l, Lib.hid HN.out.symm, Lib.hid (HU1.out.keep HF5.out (by simp)), Lib.hid (Fr.refl _ _), Lib.hid (fun j x y hx hy => by rw [hx] at hy; injection hy with hy; omega)⟩
    case rest =>
      obtain ⟨rfl, l', HL', HUL, HFR, HRISE⟩ := hcut
      rename World => w6
      clear hcell hfrz hw3 hwb
      have hm3 := median_any (some ⟨g, 0, none⟩) N c1 l' w6 HUL.out hm50
      rw [e4] at hm3
      go_wp2_with fail
      refine hm3.mono ?_
      rintro e w7 ⟨c0, rfl, hmc, -, hf7⟩
      have hac : a ≤ c0 := HMA.out.rise (hmc h0) (by rw [HL'.out]; exact HN.out.symm) HRISE.out
      have HF7 : Hid (Fr [g] w5 w7) := Lib.hid (HFR.out.trans hf7 (by simp))
      have HR7 : Hid (UL w7 A3 N r) := Lib.hid (HU25.out.keep HF7.out (fun x hx => by
        have h1 := HGE3.out x.block (by rw [hx]; simp [bk])
        have h2 := HGL.out
        simp
        omega))
      have HEND : Hid (Fr [] w w7) := Lib.hid (((HF1.out.trans HF5.out (by simp)).and HF7.out (by have := HG.out; simpa using this)))
      have HAR : Hid (a ∈ r) := Lib.hid (HRL.out.mem_iff.2 HMA.out.mem)
      have HLR : Hid (r.length = N) := Lib.hid (by rw [HRL.out.length_eq]; exact HN.out.symm)
      clear hm3 hmc hf7
      go_wp2_with fail
      go_loopw [20, 85] (fun s i wr => ∃ (k : Nat) (B : Bool), i = .int .i64 k ∧ s = .bool B ∧ k ≤ N ∧ Hid (B = true ↔ ∃ j, j < k ∧ r[j]? = some a) ∧ Hid (Fr [] w7 wr)) (fun _ i _ => N + 1 - (intOf i).toNat)
      case atStart => exact ⟨0, false, rfl, rfl, Nat.zero_le _, Lib.hid ⟨fun h => (by cases h), fun ⟨j, h, _⟩ => (by omega)⟩, Lib.hid (Fr.refl _ _)⟩
      case round =>
        obtain ⟨k, B, rfl, rfl, hk, HBB, HF8⟩ := hrel
        rename World => w8
        by_cases hkN : k < N
        · obtain ⟨ad, u, rfl, hu, -, -, hcu⟩ := (HR7.out.keep HF8.out (by simp)).get hkN
          have HUK := Lib.hid hu
          clear hu
          cases B
          · obtain ⟨C, hC⟩ : ∃ C, (u == a) = C := ⟨_, rfl⟩
            have HNB : Hid (C = true ↔ ∃ j, j < k + 1 ∧ r[j]? = some a) := Lib.hid (by
              rw [← hC]
              constructor
              · intro h
                have : u = a := by simpa using h
                exact ⟨k, by omega, by rw [HUK.out, this]⟩
              · rintro ⟨j, hj, he⟩
                rcases Nat.lt_or_ge j k with h | h
                · have := HBB.out.2 ⟨j, h, he⟩
                  cases this
                · have : j = k := by omega
                  subst this
                  rw [HUK.out] at he
                  injection he with he
                  subst he
                  simp)
            go_wp2_with fail
            go_roundw
            case rel => exact ⟨k + 1, C, by go_num, rfl, by omega, HNB, HF8⟩
            case measure => simp [intOf]; omega
          · go_wp2_with fail
            go_roundw
            case rel => exact ⟨k + 1, true, by go_num, rfl, by omega, Lib.hid ⟨fun _ => by
              obtain ⟨j, h1, h2⟩ := HBB.out.1 rfl
              exact ⟨j, by omega, h2⟩, fun _ => rfl⟩, HF8⟩
            case measure => simp [intOf]; omega
        · have hB : B = true := HBB.out.2 (by
            obtain ⟨j, hj⟩ := List.getElem?_of_mem HAR.out
            exact ⟨j, by have := (List.getElem?_eq_some_iff.1 hj).1; rw [HLR.out] at this; omega, hj⟩)
          subst hB
          have haa : (a == a) = true := by simp
          have hge : decide (a ≤ c0) = true := by simpa using hac
          have hwk := cewakes_any w8
          go_wp2_with (first | (go_at_call 13; refine hwk.mono ?_; rintro e w9 ⟨rfl, hf9⟩))
          go_ret
          exact ⟨rfl, (HEND.out.trans HF8.out (by simp)).trans hf9 (by simp)⟩
end Go.Proofs.Ytglphddjinmhoaa
