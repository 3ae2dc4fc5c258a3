/- gavellaw09.StampOrder, walked. (written by gen_std.py) -/
import Derived.Test.YtacandocjjpfcaaDoorKF3
namespace Go.Proofs.YtacandocjjpfcaaDoor
set_option maxRecDepth 100000
open Go.RowKit

theorem refN_any (f k : Int) (hf : -1000 ≤ f ∧ f ≤ 1000) (w : World) : Calls Tryd.prog 12 #[.agg #[.int .i64 f, .int .i64 k]] w fun e w' => e = .returned (.int .i64 (3 * f + 1)) ∧ Fr [] w w' := by
  go_enter Tryd.func12, Tryd.ntmps12
  go_wp2
  go_ret
  exact ⟨rfl, (Fr.refl [] w).alloc _⟩
theorem rightB_grow {l : List Ent} {e : Ent} {x m : Int} {t : List UInt8} (h : rightB l x m t = true) : rightB (sgn l e) x m t = true := by
  unfold rightB at h ⊢
  simp only [Bool.and_eq_true, decide_eq_true_eq] at h
  obtain ⟨h1, h2⟩ := h
  unfold sgn
  split
  · simp only [Bool.and_eq_true, decide_eq_true_eq]
    exact ⟨h1, h2⟩
  · simp only [Bool.and_eq_true, decide_eq_true_eq]
    refine ⟨List.mem_append.2 (.inl h1), ?_⟩
    rw [List.idxOf_append, if_pos h1]
    exact h2
theorem rightC_grow {l : List Ent} {e : Ent} {k : Int} {z : Cm} (h : rightC k l z = true) : rightC k (sgn l e) z = true := by
  unfold rightC at h ⊢
  simp only [Bool.and_eq_true] at h ⊢
  exact ⟨h.1, h.2.1, rightB_grow h.2.2⟩
theorem tick0 (f k r : Int) : (Sst.new f k r).tick 0 = Sst.new f k r := rfl
theorem raise0 (x : Sst) : x.raise 0 = x := by unfold Sst.raise; rw [if_neg (by omega)]; simp
theorem one_byte (w : World) (u : Int) (b : UInt8) (hu : u = (b.toNat : Int)) (t : TypeId) : By (w.alloc (Obj.cells #[.int .u8 u] t)) (some ⟨w.heap.size, 0, none⟩) 1 [b] := By.one (Blk.new _ _ _) hu
set_option maxHeartbeats 4000000 in
theorem stampOrder_walk (w0 : World) (f : Int) (hf1 : -9223372036854775808 ≤ f) (hf2 : f < 9223372036854775808) (A : Option Addr) (n c : Nat) (tl : List Nat) (ht : U64s w0 A n tl) (hn : n ≤ c) (hc : c ≤ maxLen)
    (B : Option Addr) (m d : Nat) (fl : List Nat) (hfl : U64s w0 B m fl) (hm : m ≤ d) (hd : d ≤ maxLen) (C : Option Addr) (q e : Nat) (il : List Int) (hil : Ints w0 C q il) (hq : q ≤ e) (he : e ≤ maxLen) (hK : KW w0) :
    Calls Tryd.prog 3 #[.int .i64 f, .slice A n c, .slice B m d, .slice C q e] w0 fun e w' => e = .returned (.bool true) ∧ Fr [] w0 w' := by
  have HK := Lib.hid hK
  have HFF := Lib.hid (And.intro hf1 hf2)
  have HTL := Lib.hid ht
  have HFL := Lib.hid hfl
  have HIL := Lib.hid hil
  have hn1 : (n : Int) ≤ 9223372036854775807 := by unfold maxLen at hc; omega
  have hm1 : (m : Int) ≤ 9223372036854775807 := by unfold maxLen at hd; omega
  have hq1 : (q : Int) ≤ 9223372036854775807 := by unfold maxLen at he; omega
  clear hK hf1 hf2 ht hfl hil hn hc hm hd hq he
  go_enter Tryd.func3, Tryd.ntmps3
  go_wp2_with fail
  refine (within_pos f 3 HFF.out.1 HFF.out.2 (by omega) (by omega) _).mono ?_
  rintro e_ _ ⟨rfl, rfl⟩
  have hf0 : 0 ≤ f % 3 := Int.emod_nonneg _ (by omega)
  have hf3 : f % 3 < 3 := Int.emod_lt_of_pos _ (by omega)
  generalize f % 3 = f3 at *
  have hF1 : 1 ≤ 1 + f3 ∧ 1 + f3 ≤ 3 := by omega
  go_upto_region 2 with (fail)
  generalize 1 + f3 = F at *
  have hba : Blk (w0.alloc (Obj.cells #[.int .i64 F, .int .i64 2] 26)) w0.heap.size 26 #[.int .i64 F, .int .i64 2] := Blk.new _ _ _
  have hfa : Fr [] w0 (w0.alloc (Obj.cells #[.int .i64 F, .int .i64 2] 26)) := (Fr.refl [] w0).alloc _
  generalize w0.alloc (Obj.cells #[.int .i64 F, .int .i64 2] 26) = wa at *
  have HFA : Hid (Fr [] w0 wa) := Lib.hid hfa
  have HBA := Lib.hid hba
  clear hba hfa
  go_wp2_with fail
  refine (book_ex wa).mono ?_
  rintro e_ w1 ⟨Sb, gb, rfl, hb1, hf1, hn1'⟩
  have HB1 := Lib.hid hb1
  have HF1 := Lib.hid (HFA.out.and hf1 (by simp))
  have HBC1 := Lib.hid (HBA.out.keep hf1 (by simp))
  have HN1 : Hid (∀ k ∈ Sb, w0.heap.size ≤ k) := Lib.hid (fun k hk => Nat.le_trans HFA.out.size (hn1' k hk))
  have HNC : Hid (¬ w0.heap.size ∈ Sb) := Lib.hid (fun hk => by have := hn1' _ hk; have := HBA.out.lt; omega)
  clear hb1 hf1 hn1' HBA HFA
  go_wp2_with (first | (refine wpList_builtg rfl 32 _ rfl _ _ built_h0 rfl ?_))
  obtain ⟨l0, hl0⟩ : ∃ l0 : List Ent, l0 = [] := ⟨_, rfl⟩
  have HB1 : Hid (Bok w1 Sb gb l0) := Lib.hid (by rw [hl0]; exact HB1.out)
  have hl0n : l0.length = 0 := by rw [hl0]; rfl
  clear hl0
  have hba2 : Fr [] w1 (w1.alloc (Obj.cells #[.int .u8 1] 5)) := (Fr.refl [] w1).alloc _
  have hby2 := one_byte w1 1 1 rfl 5
  refine (make_any 0 1 (by omega) ⟨by omega, by omega⟩ hz32 rfl _ 1 1 [1] _ hby2 (by simp [bk]) (by omega) (HK.out.keep (HF1.out.go hba2 (by simp)) (by simp)) Sb gb l0 (HB1.out.keep hba2 (by simp)) (by omega)).mono ?_
  obtain ⟨Zx, hZx⟩ : ∃ Z, Z = made 0 1 hz32 [1] l0 := ⟨_, rfl⟩
  obtain ⟨l1, hl1⟩ : ∃ l, l = sgn l0 (1000 + 0, (made0 0 1 hz32 [1]).text) := ⟨_, rfl⟩
  have HZxO : Hid Zx.Ok := Lib.hid (by rw [hZx]; exact made_ok 0 1 (by omega) ⟨by omega, by omega⟩ hz32 [1] (by decide) l0 (by omega))
  have HZxR : Hid (rightC 2 l1 Zx = true ∧ Zx.c = 0 ∧ Zx.s = 1) := Lib.hid (by rw [hl1, hZx]; exact ⟨made_right 0 1 (by omega) hz32 [1] l0 2 (by omega) ⟨by omega, by omega⟩ (by decide), rfl, rfl⟩)
  have hll1 : l1.length ≤ l0.length + 1 := by rw [hl1]; exact sgn_len1 _ _
  rw [← hZx, ← hl1]
  rintro e_ w2 ⟨rfl, hb2, hf2⟩
  have HFM : Hid (Fr Sb w1 w2) := Lib.hid ((hba2.mono (T := Sb) (by simp)).trans hf2 (fun x hx _ => hx))
  have HBM := Lib.hid hb2
  have HSZ : Hid (w1.heap.size ≤ w2.heap.size) := Lib.hid HFM.out.size
  have HZxL := Lib.hid (Cm.len HZxO.out.h)
  clear hb2 hf2 hba2 hby2 hZx hl1
  unfold Cm.val
  have hbz : Blk (w2.alloc (Obj.cells zeroCm 36)) w2.heap.size 36 zeroCm := Blk.new _ _ _
  have HBZ := Lib.hid hbz
  have HFZ : Hid (Fr [] w2 (w2.alloc (Obj.cells zeroCm 36))) := Lib.hid ((Fr.refl [] _).alloc _)
  clear hbz
  go_upto_region 6 with (refine wpList_store_blk rfl 36 _ _ rfl w2.heap.size Zx.cells.toArray rfl rfl 36 zeroCm HBZ.out (by rw [List.size_toArray, HZxL.out]; kernel_rfl) ((show zeroCm.size = 37 from rfl).trans (by rw [List.size_toArray, HZxL.out])) Zx.all ?_; intro w3 hb3 hf3)
  have HBZx := Lib.hid hb3
  have HFS : Hid (Fr [] w2 w3) := Lib.hid (HFZ.out.and hf3 (by simp))
  have HB2 := Lib.hid (HBM.out.keep HFS.out (by simp))
  have HF2 : Hid (Fr [] w0 w3) := Lib.hid ((HF1.out.go HFM.out HN1.out).and HFS.out (by simp))
  have HFM : Hid (Fr Sb w1 w3) := Lib.hid (HFM.out.trans HFS.out (by simp))
  have HZxG : Hid (w1.heap.size ≤ w2.heap.size ∧ ¬ w2.heap.size ∈ Sb) := Lib.hid ⟨HSZ.out, fun hm => by have := HBM.out.lt _ hm; omega⟩
  generalize w2.heap.size = gx at *
  clear hb3 hf3 HBZ HFZ HFS HBM HSZ
  go_wp2_with (first | (refine wpList_builtg rfl 32 _ rfl _ _ built_h0 rfl ?_))
  have hba4 : Fr [] w3 (w3.alloc (Obj.cells #[.int .u8 2] 5)) := (Fr.refl [] w3).alloc _
  have hby4 := one_byte w3 2 2 rfl 5
  refine (make_any 1 1 (by omega) ⟨by omega, by omega⟩ hz32 rfl _ 1 1 [2] _ hby4 (by simp [bk]) (by omega) (HK.out.keep (HF2.out.go hba4 (by simp)) (by simp)) Sb gb l1 (HB2.out.keep hba4 (by simp)) (by omega)).mono ?_
  obtain ⟨Zy, hZy⟩ : ∃ Z, Z = made 1 1 hz32 [2] l1 := ⟨_, rfl⟩
  obtain ⟨l2, hl2⟩ : ∃ l, l = sgn l1 (1000 + 1, (made0 1 1 hz32 [2]).text) := ⟨_, rfl⟩
  have HZyO : Hid Zy.Ok := Lib.hid (by rw [hZy]; exact made_ok 1 1 (by omega) ⟨by omega, by omega⟩ hz32 [2] (by decide) l1 (by omega))
  have HZyR : Hid (rightC 2 l2 Zy = true ∧ Zy.c = 1 ∧ Zy.s = 1) := Lib.hid (by rw [hl2, hZy]; exact ⟨made_right 1 1 (by omega) hz32 [2] l1 2 (by omega) ⟨by omega, by omega⟩ (by decide), rfl, rfl⟩)
  have hll2 : l2.length ≤ l1.length + 1 := by rw [hl2]; exact sgn_len1 _ _
  have HZxR2 : Hid (rightC 2 l2 Zx = true) := Lib.hid (by rw [hl2]; exact rightC_grow HZxR.out.1)
  rw [← hZy, ← hl2]
  rintro e_ w4 ⟨rfl, hb2, hf2⟩
  have HFY : Hid (Fr Sb w3 w4) := Lib.hid ((hba4.mono (T := Sb) (by simp)).trans hf2 (fun x hx _ => hx))
  have HFM : Hid (Fr Sb w1 w4) := Lib.hid ((HFM.out.trans (hba4.mono (T := Sb) (by simp)) (fun x hx _ => hx)).trans hf2 (fun x hx _ => hx))
  have HBM := Lib.hid hb2
  have HSZ : Hid (w1.heap.size ≤ w4.heap.size) := Lib.hid HFM.out.size
  have HZyL := Lib.hid (Cm.len HZyO.out.h)
  clear hb2 hf2 hba4 hby4 hZy hl2
  unfold Cm.val
  have hbz : Blk (w4.alloc (Obj.cells zeroCm 36)) w4.heap.size 36 zeroCm := Blk.new _ _ _
  have HBZ := Lib.hid hbz
  have HFZ : Hid (Fr [] w4 (w4.alloc (Obj.cells zeroCm 36))) := Lib.hid ((Fr.refl [] _).alloc _)
  clear hbz
  go_upto_region 8 with (refine wpList_store_blk rfl 36 _ _ rfl w4.heap.size Zy.cells.toArray rfl rfl 36 zeroCm HBZ.out (by rw [List.size_toArray, HZyL.out]; kernel_rfl) ((show zeroCm.size = 37 from rfl).trans (by rw [List.size_toArray, HZyL.out])) Zy.all ?_; intro w5 hb3 hf3)
  have HBZy := Lib.hid hb3
  have HFS : Hid (Fr [] w4 w5) := Lib.hid (HFZ.out.and hf3 (by simp))
  have HB4 := Lib.hid (HBM.out.keep HFS.out (by simp))
  have HF4 : Hid (Fr [] w0 w5) := Lib.hid ((HF1.out.go HFM.out HN1.out).and HFS.out (by simp))
  have HFXY : Hid (Fr Sb w3 w5) := Lib.hid (HFY.out.trans HFS.out (by simp))
  have HFM : Hid (Fr Sb w1 w5) := Lib.hid (HFM.out.trans HFS.out (by simp))
  have HZyG : Hid (w1.heap.size ≤ w4.heap.size ∧ ¬ w4.heap.size ∈ Sb) := Lib.hid ⟨HSZ.out, fun hm => by have := HBM.out.lt _ hm; omega⟩
  generalize w4.heap.size = gy at *
  clear hb3 hf3 HBZ HFZ HFS HBM HSZ
  have HZZ : Hid (rightC 2 l2 Zx = true ∧ rightC 2 l2 Zy = true) := Lib.hid ⟨HZxR2.out, HZyR.out.1⟩
  have HBX5 := Lib.hid (HBZx.out.keep HFXY.out HZxG.out.2)
  have HBC5 := Lib.hid (HBC1.out.keep HFM.out HNC.out)
  have hl2 : l2.length ≤ 2 := by omega
  go_loopw [13] (fun s13 wr => ∃ (k : Nat) (l : List Ent), k ≤ q ∧ k ≤ 6 ∧ s13 = .int .i64 (k : Int) ∧ Hid (l.length ≤ 2 + 2 * k) ∧ Hid (Bok wr Sb gb l) ∧ Hid (rightC 2 l Zx = true ∧ rightC 2 l Zy = true) ∧ Hid (Blk wr gx 36 Zx.cells.toArray) ∧ Hid (Blk wr gy 36 Zy.cells.toArray) ∧ Hid (Blk wr w0.heap.size 26 #[.int .i64 F, .int .i64 2]) ∧ Hid (Fr [] w0 wr)) (fun s13 _ => 7 - (intOf s13).toNat)
  case atStart => exact ⟨0, l2, by omega, by omega, rfl, Lib.hid (by omega), HB4, HZZ, HBX5, HBZy, HBC5, HF4⟩
  case round =>
    obtain ⟨k, l, hk, hk6, rfl, HL, HB, HZZ, HBX, HBY, HBC, HF⟩ := hrel
    have HYG := HZyG
    by_cases hlt : k < q ∧ k < 6
    · obtain ⟨hkq, hk6'⟩ := hlt
      obtain ⟨ad, v, rfl, hg, -, hvo, hcell⟩ := HIL.out.at hkq
      have hcv := HF.out.cell (hcell 0 _ rfl) (by simp)
      rw [add_add, Nat.mul_one, Nat.add_zero] at hcv
      have HVO := Lib.hid hvo
      clear hg hcell hvo
      have hkq' : (k : Int) < q := by omega
      have hk60 : (k : Int) < 6 := by omega
      have hk0 : (0 : Int) ≤ k := by omega
      go_upto_region 10 with (fail)
      refine wp_region_held_drew (S := Fr [] wr) (by kernel_rfl) (Fr.drew (Fr.refl _ wr)) (fun hHeld => ?_)
      refine row_at (i := 0) rfl (by kernel_rfl) (by rfl) _ _ rfl _ _ rfl _ (fun w1 hw1 => hw1.range (Blk.range HBC.out) (by first | (simp; done) | exact HNS.out | exact HNW.out | (intro hm; have hlt := HSB.out _ hm; (try dsimp only at hlt); omega))) (row_conf) (fun _ _ _ h => h) hHeld ?_
      simp only [Act.put, List.setIfInBounds_toArray, List.set_cons_zero, List.set_cons_succ]
      refine run_at (i := 1) (v := ?_) rfl (by kernel_rfl) (by rfl) (fun _ _ _ h => h) hHeld (fun w1 hw1 => ?_) ?_
      rotate_left 1
      · skip
        go_simp
        (try (first | with_reducible rfl | (apply And.intro <;> rfl)))
      simp only [Act.put, List.setIfInBounds_toArray, List.set_cons_zero, List.set_cons_succ]
      refine run_at (i := 2) (v := ?_) rfl (by kernel_rfl) (by rfl) (fun _ _ _ h => h) hHeld (fun w1 hw1 => ?_) ?_
      rotate_left 1
      · skip
        go_simp
        (try (first | with_reducible rfl | (apply And.intro <;> rfl)))
      simp only [Act.put, List.setIfInBounds_toArray, List.set_cons_zero, List.set_cons_succ]
      refine run_at (i := 3) (v := ?_) rfl (by kernel_rfl) (by rfl) (fun _ _ _ h => h) hHeld (fun w1 hw1 => ?_) ?_
      rotate_left 1
      · skip
        go_simp
        (try (first | with_reducible rfl | (apply And.intro <;> rfl)))
      simp only [Act.put, List.setIfInBounds_toArray, List.set_cons_zero, List.set_cons_succ]
      refine run_at (i := 4) (v := ?_) rfl (by kernel_rfl) (by rfl) (fun _ _ _ h => h) hHeld (fun w1 hw1 => ?_) ?_
      rotate_left 1
      · skip
        have hcw0 := hw1.cell (hcv) (by first | (simp; done) | exact HNS.out | exact HNW.out | (intro hm; have hlt := HSB.out _ hm; (try dsimp only at hlt); omega))
        go_simp
        (try (first | with_reducible rfl | (apply And.intro <;> rfl)))
      simp only [Act.put, List.setIfInBounds_toArray, List.set_cons_zero, List.set_cons_succ]
      refine row_at (i := 5) rfl (by kernel_rfl) (by rfl) _ _ rfl _ _ rfl _ (fun w1 hw1 => hw1.range (Blk.range HBC.out) (by first | (simp; done) | exact HNS.out | exact HNW.out | (intro hm; have hlt := HSB.out _ hm; (try dsimp only at hlt); omega))) (row_conf) (fun _ _ _ h => h) hHeld ?_
      simp only [Act.put, List.setIfInBounds_toArray, List.set_cons_zero, List.set_cons_succ]
      refine call_at (i := 6) (f := ?_) (args := ?_) rfl (by kernel_rfl) (by rfl) ?_ ?_
      rotate_left 2
      · go_simp
        (try (first | with_reducible rfl | (apply And.intro <;> rfl)))
      refine (refN_any F 2 (by omega) _).mono ?_
      rintro e_ x1 ⟨rfl, hf⟩
      refine ⟨_, rfl, hHeld.and hf (by simp), fun hHeld => ?_⟩
      clear hf
      simp only [Act.put, List.setIfInBounds_toArray, List.set_cons_zero, List.set_cons_succ]
      refine call_at (i := 7) (f := ?_) (args := ?_) rfl (by kernel_rfl) (by rfl) ?_ ?_
      rotate_left 2
      · go_simp
        (try (first | with_reducible rfl | (apply And.intro <;> rfl)))
      refine (within_pos v (3 * F + 1) HVO.out.1 HVO.out.2 (by omega) (by omega) _).mono ?_
      rintro e_ _ ⟨rfl, rfl⟩
      refine ⟨_, rfl, hHeld, fun hHeld => ?_⟩
      simp only [Act.put, List.setIfInBounds_toArray, List.set_cons_zero, List.set_cons_succ]
      have hr0 : 0 ≤ v % (3 * F + 1) := Int.emod_nonneg _ (by omega)
      have hr1 : v % (3 * F + 1) < 3 * F + 1 := Int.emod_lt_of_pos _ (by omega)
      generalize v % (3 * F + 1) = r at *
      have hmay : mayB F 2 r = true := by unfold mayB confB; simp; omega
      refine call_at (i := 8) (f := ?_) (args := ?_) rfl (by kernel_rfl) (by rfl) ?_ ?_
      rotate_left 2
      · go_simp
        (try (first | with_reducible rfl | (apply And.intro <;> rfl)))
      refine (snew_ok F 2 r hmay _).mono ?_
      rintro e_ wN ⟨S, g, rfl, hs, hf, hns⟩
      have HLO : Hid (wr.heap.size ≤ x1.heap.size) := Lib.hid hHeld.size
      have HSK := Lib.hid hs
      have HNS := Lib.hid hns
      refine ⟨_, rfl, hHeld.and hf (by simp), fun hHeld => ?_⟩
      clear hf hs hns
      simp only [Act.put, List.setIfInBounds_toArray, List.set_cons_zero, List.set_cons_succ]
      refine run_at (i := 9) (v := ?_) rfl (by kernel_rfl) (by rfl) (fun _ _ _ h => h) hHeld (fun w1 hw1 => ?_) ?_
      rotate_left 1
      · skip
        go_simp
        (try (first | with_reducible rfl | (apply And.intro <;> rfl)))
      simp only [Act.put, List.setIfInBounds_toArray, List.set_cons_zero, List.set_cons_succ]
      refine run_at (i := 10) (v := ?_) rfl (by kernel_rfl) (by rfl) (fun _ _ _ h => h) hHeld (fun w1 hw1 => ?_) ?_
      rotate_left 1
      · skip
        go_simp
        (try (first | with_reducible rfl | (apply And.intro <;> rfl)))
      simp only [Act.put, List.setIfInBounds_toArray, List.set_cons_zero, List.set_cons_succ]
      refine run_at (i := 11) (v := ?_) rfl (by kernel_rfl) (by rfl) (fun _ _ _ h => h) hHeld (fun w1 hw1 => ?_) ?_
      rotate_left 1
      · skip
        go_simp
        (try (first | with_reducible rfl | (apply And.intro <;> rfl)))
      simp only [Act.put, List.setIfInBounds_toArray, List.set_cons_zero, List.set_cons_succ]
      refine run_at (i := 12) (v := ?_) rfl (by kernel_rfl) (by rfl) (fun _ _ _ h => h) hHeld (fun w1 hw1 => ?_) ?_
      rotate_left 1
      · skip
        go_simp
        (try (first | with_reducible rfl | (apply And.intro <;> rfl)))
      simp only [Act.put, List.setIfInBounds_toArray, List.set_cons_zero, List.set_cons_succ]
      refine run_at (i := 13) (v := ?_) rfl (by kernel_rfl) (by rfl) (fun _ _ _ h => h) hHeld (fun w1 hw1 => ?_) ?_
      rotate_left 1
      · skip
        go_simp
        (try (first | with_reducible rfl | (apply And.intro <;> rfl)))
      simp only [Act.put, List.setIfInBounds_toArray, List.set_cons_zero, List.set_cons_succ]
      refine wpAnyH_done (by kernel_rfl) ?_ _
      have HFN := Lib.hid hHeld
      have HSN : Hid (∀ y ∈ S, wr.heap.size ≤ y) := Lib.hid (fun y hy => Nat.le_trans HLO.out (HNS.out y hy))
      have HSB : Hid (SB w0 wN S Sb g gb ((Sst.new F 2 r).tick 0) l) := Lib.hid ⟨HSK.out, HB.out.keep HFN.out (by simp), fun y hy => Nat.le_trans HF.out.size (HSN.out y hy), HN1.out, fun y hy hm => by have := HB.out.lt y hm; have := HSN.out y hy; omega, Sst.new_ok hmay⟩
      have HOS : Hid (∀ y ∈ S ++ Sb, ¬ y = gx ∧ ¬ y = gy ∧ ¬ y = w0.heap.size) := Lib.hid (fun y hy => by
        have h1 := HBX.out.lt
        have h2 := HBY.out.lt
        have h3 := HBC.out.lt
        rcases List.mem_append.1 hy with hy | hy
        · have := HSN.out y hy
          omega
        · exact ⟨fun e => HZxG.out.2 (e ▸ hy), fun e => HZyG.out.2 (e ▸ hy), fun e => HNC.out (e ▸ hy)⟩)
      have HBX1 := Lib.hid (HBX.out.keep HFN.out (by simp))
      have HBY1 := Lib.hid (HBY.out.keep HFN.out (by simp))
      have HBC1' := Lib.hid (HBC.out.keep HFN.out (by simp))
      have HF1' := Lib.hid (HF.out.and HFN.out (by simp))
      clear hHeld hcv HSK HNS HLO
      go_upto_if 68 with (fail)
      go_cut [68] (fun _ wx => ∃ T : Nat, T ≤ 999 ∧ Hid (SB w0 wx S Sb g gb ((Sst.new F 2 r).tick T) l) ∧ Hid (Fr (S ++ Sb) wN wx))
      case first =>
        by_cases hkn : k < n
        · have hkn' : (k : Int) < n := by omega
          obtain ⟨adt, t, rfl, hg, -, hto, hcell⟩ := HTL.out.at hkn
          have hct := HF1'.out.cell (hcell 0 _ rfl) (by simp)
          rw [add_add, Nat.mul_one, Nat.add_zero] at hct
          obtain ⟨T, hT⟩ : ∃ T : Nat, T = t % 1000 := ⟨_, rfl⟩
          have hTe : (t : Int) % 1000 = T := by omega
          have hT9 : T ≤ 999 := by omega
          have HTE := Lib.hid hTe
          clear hg hcell hT hTe hto
          go_wp2_with fail
          rw [HTE.out]
          refine (HSB.out.tick T (by omega)).mono ?_
          rintro e_ wx ⟨rfl, hs, hf⟩
          have HSX := Lib.hid hs
          have HFX := Lib.hid hf
          clear hs hf
          go_wp2_with fail
          go_meet
          exact ⟨T, hT9, Lib.hid (by have := HSX.out; rw [tick0] at this; exact this), HFX⟩
        · have hkn' : ¬ (k : Int) < n := by omega
          go_wp2_with fail
          go_meet
          exact ⟨0, by omega, HSB, Lib.hid (Fr.refl _ _)⟩
      case rest =>
        obtain ⟨T, hT9, HSB', HFT⟩ := hcut
        have HBX2 := Lib.hid (HBX1.out.keep HFT.out (fun hm => (HOS.out _ hm).1 rfl)).range
        have HBX2L : Hid (Zx.cells.length = 37) := HZxL
        have HBY2 := Lib.hid (HBY1.out.keep HFT.out (fun hm => (HOS.out _ hm).2.1 rfl))
        have HBC2 := Lib.hid (HBC1'.out.keep HFT.out (fun hm => (HOS.out _ hm).2.2 rfl))
        have HBX2B := Lib.hid (HBX1.out.keep HFT.out (fun hm => (HOS.out _ hm).1 rfl))
        have HF2 := Lib.hid (HF1'.out.go HFT.out HSB'.out.ge)
        have hxT : ((Sst.new F 2 r).tick T).k = 2 ∧ ((Sst.new F 2 r).tick T).now = T ∧ ((Sst.new F 2 r).tick T).fl = 0 ∧ ((Sst.new F 2 r).tick T).la = 0 ∧ ((Sst.new F 2 r).tick T).l = [] := ⟨rfl, by show min (0 + T) _ = T; omega, rfl, rfl, rfl⟩
        generalize (Sst.new F 2 r).tick T = x at *
        have HXT := Lib.hid hxT
        have hnx : x.next = max (max T 1) 1 := by unfold Sst.next; rw [hxT.2.1, hxT.2.2.1, hxT.2.2.2.1]
        have hll := HL.out
        have hst := Sst.stamp_new (x := x) (l := l) (z := Zx) (by rw [hxT.1]; exact HZZ.out.1) (by rw [hxT.2.2.2.2]; rfl) (by omega)
        obtain ⟨Y, hY⟩ : ∃ Y, Y = x.given Zx l := ⟨_, rfl⟩
        obtain ⟨x2, hx2⟩ : ∃ x2, x2 = x.more Zx l := ⟨_, rfl⟩
        obtain ⟨l2b, hl2b⟩ : ∃ l2, l2 = sgn l (x.r, (x.bare Zx).text) := ⟨_, rfl⟩
        rw [← hY, ← hx2, ← hl2b] at hst
        have HYH : Hid (Y.h.length = 32) := Lib.hid (by rw [hY]; exact HZxO.out.h)
        obtain ⟨t1, ht1⟩ : ∃ t1, t1 = max (max T 1) 1 := ⟨_, rfl⟩
        have HYT : Hid (Y.t = t1) := Lib.hid (by rw [hY, ht1]; exact hnx)
        have HX2 : Hid (x2.k = 2 ∧ x2.now = T ∧ x2.fl = 0 ∧ x2.la = t1 ∧ x2.l = [((0, 1), Y)]) := Lib.hid (by
          rw [hx2]
          refine ⟨hxT.1, hxT.2.1, hxT.2.2.1, by rw [ht1]; exact hnx, ?_⟩
          show x.l ++ [((Zx.c, Zx.s), x.given Zx l)] = _
          rw [hxT.2.2.2.2, HZxR.out.2.1, HZxR.out.2.2, ← hY]
          rfl)
        have HT1 : Hid (1 ≤ t1 ∧ t1 ≤ 1000 ∧ T ≤ t1) := Lib.hid (by omega)
        have HL2 : Hid (l2b.length ≤ 2 + 2 * k + 1) := Lib.hid (by have := sgn_len1 l (x.r, (x.bare Zx).text); rw [hl2b]; omega)
        have HZY2 : Hid (rightC 2 l2b Zx = true ∧ rightC 2 l2b Zy = true) := Lib.hid (by rw [hl2b]; exact ⟨rightC_grow HZZ.out.1, rightC_grow HZZ.out.2⟩)
        have HST : Hid (∀ W, SB w0 W S Sb g gb x l → Calls Tryd.prog 14 #[.pointer (some ⟨g, 0, none⟩), .pointer (some ⟨gb, 0, none⟩), .agg Zx.cells.toArray] W fun e w' => e = .returned (.tuple #[.agg Y.cells.toArray, .int .i64 0]) ∧ SB w0 w' S Sb g gb x2 l2b ∧ Fr (S ++ Sb) W w') := Lib.hid (fun W hW => by
          have := hW.stamp (by omega) (by rw [hxT.2.2.2.2]; decide) Zx HZxO.out
          rw [hst] at this
          exact this)
        have HSB := HSB'
        clear hxT hnx hst hY hx2 hl2b ht1
        go_wp2_with (refine wpList_row rfl 36 _ rfl _ _ rfl _ HBX2.out (row_commit.of HBX2L.out) ?_)
        refine (HST.out _ HSB.out).mono ?_
        rintro e_ x2w ⟨rfl, hs, hf⟩
        have HS2 := Lib.hid hs
        have HM2 := Lib.hid hf
        clear hs hf
        have HGL : Hid (wc.heap.size ≤ x2w.heap.size) := Lib.hid HM2.out.size
        have HGB : Hid (Blk (x2w.alloc (Obj.cells zSt.cells.toArray 47)) x2w.heap.size 47 zSt.cells.toArray) := Lib.hid (Blk.new _ _ _)
        have HSA : Hid (SB w0 (x2w.alloc (Obj.cells zSt.cells.toArray 47)) S Sb g gb x2 l2b) := Lib.hid (HS2.out.keep ((Fr.refl [] x2w).alloc _) (by simp))
        have HMA : Hid (Fr (S ++ Sb) wc (x2w.alloc (Obj.cells zSt.cells.toArray 47))) := Lib.hid (HM2.out.alloc _)
        have HGN : Hid (¬ x2w.heap.size ∈ S ++ Sb) := Lib.hid (fun hm => by have := HS2.out.lt _ hm; omega)
        go_upto_region 16 with (refine wpList_store_blk rfl 47 _ _ rfl x2w.heap.size Y.cells.toArray rfl rfl 47 _ HGB.out (st_size HYH.out) (by rw [List.size_toArray, List.size_toArray, zSt_len, Wst.len HYH.out]) Y.all ?_; intro w9 hb9 hf9)
        have HBp := Lib.hid hb9
        have HSB : Hid (SB w0 w9 S Sb g gb x2 l2b) := Lib.hid (HSA.out.keep hf9 (fun k hk hm => HGN.out (by simp at hm; subst hm; exact hk)))
        have HF9 : Hid (Fr (S ++ Sb) wc w9) := Lib.hid (HMA.out.go hf9 (by have := HGL.out; simpa using this))
        have HGNp : Hid (¬ x2w.heap.size ∈ S ++ Sb) := HGN
        clear hb9 hf9 HGB HSA HMA HS2 HM2 HGN
        generalize x2w.heap.size = gNp at *
        have HFA := Lib.hid (HF2.out.go HF9.out HSB.out.ge)
        have HBX3 := Lib.hid (HBX2B.out.keep HF9.out (fun hm => (HOS.out _ hm).1 rfl))
        have HBY3 := Lib.hid (HBY2.out.keep HF9.out (fun hm => (HOS.out _ hm).2.1 rfl))
        have HBC3 := Lib.hid (HBC2.out.keep HF9.out (fun hm => (HOS.out _ hm).2.2 rfl))
        clear HF9 HBX2B HBY2 HBC2
        go_upto_if 86 with (fail)
        go_cut [86] (fun _ wx => ∃ R : Nat, R ≤ 1999 ∧ Hid (SB w0 wx S Sb g gb (x2.raise R) l2b) ∧ Hid (Fr (S ++ Sb) w9 wx))
        case first =>
          by_cases hkm : k < m
          · have hkm' : (k : Int) < m := by omega
            obtain ⟨adf, t, rfl, hg, -, hto, hcell⟩ := HFL.out.at hkm
            have hct := HFA.out.cell (hcell 0 _ rfl) (by simp)
            rw [add_add, Nat.mul_one, Nat.add_zero] at hct
            obtain ⟨R, hR⟩ : ∃ R : Nat, R = t % 2000 := ⟨_, rfl⟩
            have hRe : (t : Int) % 2000 = R := by omega
            have hR9 : R ≤ 1999 := by omega
            have HRE := Lib.hid hRe
            clear hg hcell hR hRe hto
            go_wp2_with fail
            rw [HRE.out]
            refine (HSB.out.raise R (by omega)).mono ?_
            rintro e_ wx ⟨rfl, hs, hf⟩
            have HSX := Lib.hid hs
            have HFX := Lib.hid hf
            clear hs hf
            go_wp2_with fail
            go_meet
            exact ⟨R, hR9, HSX, HFX⟩
          · have hkm' : ¬ (k : Int) < m := by omega
            go_wp2_with fail
            go_meet
            exact ⟨0, by omega, Lib.hid (by rw [raise0]; exact HSB.out), Lib.hid (Fr.refl _ _)⟩
        case rest =>
          obtain ⟨R, hR9, HSB', HFT⟩ := hcut
          rename World => wd
          have HBY2 := Lib.hid (HBY3.out.keep HFT.out (fun hm => (HOS.out _ hm).2.1 rfl)).range
          have HBY2L : Hid (Zy.cells.length = 37) := HZyL
          have HBX4 := Lib.hid (HBX3.out.keep HFT.out (fun hm => (HOS.out _ hm).1 rfl))
          have HBY4 := Lib.hid (HBY3.out.keep HFT.out (fun hm => (HOS.out _ hm).2.1 rfl))
          have HBC4 := Lib.hid (HBC3.out.keep HFT.out (fun hm => (HOS.out _ hm).2.2 rfl))
          have HF3 := Lib.hid (HFA.out.go HFT.out HSB'.out.ge)
          have HBp2 := Lib.hid (HBp.out.keep HFT.out HGNp.out)
          have hx3 : (x2.raise R).k = 2 ∧ (x2.raise R).now = T ∧ (x2.raise R).fl = R ∧ (x2.raise R).la = t1 ∧ (x2.raise R).l = [((0, 1), Y)] := by
            have h := HX2.out
            unfold Sst.raise
            rw [if_neg (by omega)]
            exact ⟨h.1, h.2.1, by show max x2.fl R = R; rw [h.2.2.1]; omega, h.2.2.2.1, h.2.2.2.2⟩
          generalize x2.raise R = x3 at *
          have HX3 := Lib.hid hx3
          have hT1 := HT1.out
          have hnx : x3.next = max (max T (R + 1)) (t1 + 1) := by unfold Sst.next; rw [hx3.2.1, hx3.2.2.1, hx3.2.2.2.1]
          have hll := HL2.out
          have hlk : x3.l.lookup (Zy.c, Zy.s) = none := by rw [hx3.2.2.2.2, HZyR.out.2.1, HZyR.out.2.2]; rfl
          have hst := Sst.stamp_new (x := x3) (l := l2b) (z := Zy) (by rw [hx3.1]; exact HZY2.out.2) hlk (by omega)
          obtain ⟨V, hV⟩ : ∃ Y, Y = x3.given Zy l2b := ⟨_, rfl⟩
          obtain ⟨x4, hx4⟩ : ∃ x2, x2 = x3.more Zy l2b := ⟨_, rfl⟩
          obtain ⟨l3, hl3⟩ : ∃ l2, l2 = sgn l2b (x3.r, (x3.bare Zy).text) := ⟨_, rfl⟩
          rw [← hV, ← hx4, ← hl3] at hst
          have HYTp := HYT
          have HYHp := HYH
          have HYH : Hid (V.h.length = 32) := Lib.hid (by rw [hV]; exact HZyO.out.h)
          obtain ⟨t2, ht2⟩ : ∃ t2, t2 = max (max T (R + 1)) (t1 + 1) := ⟨_, rfl⟩
          have HVT : Hid (V.t = t2) := Lib.hid (by rw [hV, ht2]; exact hnx)
          have HX4 : Hid (x4.fl = R ∧ x4.l.length = 2) := Lib.hid (by
            rw [hx4]
            refine ⟨hx3.2.2.1, ?_⟩
            show (x3.l ++ _).length = 2
            rw [hx3.2.2.2.2]
            rfl)
          have HT2 : Hid (t1 < t2 ∧ R < t2 ∧ t2 ≤ 3000) := Lib.hid (by omega)
          have HL3 : Hid (l3.length ≤ 2 + 2 * (k + 1)) := Lib.hid (by have := sgn_len1 l2b (x3.r, (x3.bare Zy).text); rw [hl3]; omega)
          have HZY3 : Hid (rightC 2 l3 Zx = true ∧ rightC 2 l3 Zy = true) := Lib.hid (by rw [hl3]; exact ⟨rightC_grow HZY2.out.1, rightC_grow HZY2.out.2⟩)
          have HST : Hid (∀ W, SB w0 W S Sb g gb x3 l2b → Calls Tryd.prog 14 #[.pointer (some ⟨g, 0, none⟩), .pointer (some ⟨gb, 0, none⟩), .agg Zy.cells.toArray] W fun e w' => e = .returned (.tuple #[.agg V.cells.toArray, .int .i64 0]) ∧ SB w0 w' S Sb g gb x4 l3 ∧ Fr (S ++ Sb) W w') := Lib.hid (fun W hW => by
            have := hW.stamp (by omega) (by rw [hx3.2.2.2.2]; simp) Zy HZyO.out
            rw [hst] at this
            exact this)
          have HSB := HSB'
          clear hx3 hnx hst hV hx4 hl3 ht2 hlk hT1
          go_wp2_with (refine wpList_row rfl 36 _ rfl _ _ rfl _ HBY2.out (row_commit.of HBY2L.out) ?_)
          refine (HST.out _ HSB.out).mono ?_
          rintro e_ x2w ⟨rfl, hs, hf⟩
          have HS2 := Lib.hid hs
          have HM2 := Lib.hid hf
          clear hs hf
          have HGL : Hid (wd.heap.size ≤ x2w.heap.size) := Lib.hid HM2.out.size
          have HGB : Hid (Blk (x2w.alloc (Obj.cells zSt.cells.toArray 47)) x2w.heap.size 47 zSt.cells.toArray) := Lib.hid (Blk.new _ _ _)
          have HSA : Hid (SB w0 (x2w.alloc (Obj.cells zSt.cells.toArray 47)) S Sb g gb x4 l3) := Lib.hid (HS2.out.keep ((Fr.refl [] x2w).alloc _) (by simp))
          have HMA : Hid (Fr (S ++ Sb) wd (x2w.alloc (Obj.cells zSt.cells.toArray 47))) := Lib.hid (HM2.out.alloc _)
          have HGN : Hid (¬ x2w.heap.size ∈ S ++ Sb) := Lib.hid (fun hm => by have := HS2.out.lt _ hm; omega)
          go_upto_region 19 with (refine wpList_store_blk rfl 47 _ _ rfl x2w.heap.size V.cells.toArray rfl rfl 47 _ HGB.out (st_size HYH.out) (by rw [List.size_toArray, List.size_toArray, zSt_len, Wst.len HYH.out]) V.all ?_; intro w9' hb9 hf9)
          have HBq := Lib.hid hb9
          have HSB : Hid (SB w0 w9' S Sb g gb x4 l3) := Lib.hid (HSA.out.keep hf9 (fun k hk hm => HGN.out (by simp at hm; subst hm; exact hk)))
          have HF9 : Hid (Fr (S ++ Sb) wd w9') := Lib.hid (HMA.out.go hf9 (by have := HGL.out; simpa using this))
          have HGNq : Hid (¬ x2w.heap.size ∈ S ++ Sb) := HGN
          clear hb9 hf9 HGB HSA HMA HS2 HM2 HGN
          generalize x2w.heap.size = gNq at *
          have HF4 := Lib.hid (HF3.out.go HF9.out HSB.out.ge)
          have HBX5 := Lib.hid (HBX4.out.keep HF9.out (fun hm => (HOS.out _ hm).1 rfl))
          have HBY5 := Lib.hid (HBY4.out.keep HF9.out (fun hm => (HOS.out _ hm).2.1 rfl))
          have HBC5 := Lib.hid (HBC4.out.keep HF9.out (fun hm => (HOS.out _ hm).2.2 rfl))
          have hcp := (Wst.at_of (HBp2.out.keep HF9.out HGNp.out).range HYHp.out).t
          rw [HYTp.out] at hcp
          have hcq := (Wst.at_of HBq.out.range HYH.out).t
          rw [HVT.out] at hcq
          have c1 : decide (t2 ≤ t1) = false := decide_eq_false (by have := HT2.out; omega)
          have c2 : decide (t2 ≤ R) = false := decide_eq_false (by have := HT2.out; omega)
          have HFLO := Lib.hid (fun W (hW : Fr [] w9' W) => sfloor_any W S g x4 (HSB.out.s.keep hW (by simp)))
          have HLEN := Lib.hid (fun W (hW : Fr [] w9' W) => slen_any W S g x4 (HSB.out.s.keep hW (by simp)))
          refine wp_region_held_drew (S := Fr [] w9') (by kernel_rfl) (Fr.drew (Fr.refl _ w9')) (fun hHeld => ?_)
          refine run_at (i := 0) (v := ?_) rfl (by kernel_rfl) (by rfl) (fun _ _ _ h => h) hHeld (fun w1 hw1 => ?_) ?_
          rotate_left 1
          · skip
            go_simp
            (try (first | with_reducible rfl | (apply And.intro <;> rfl)))
          simp only [Act.put, List.setIfInBounds_toArray, List.set_cons_zero, List.set_cons_succ]
          refine run_at (i := 1) (v := ?_) rfl (by kernel_rfl) (by rfl) (fun _ _ _ h => h) hHeld (fun w1 hw1 => ?_) ?_
          rotate_left 1
          · skip
            go_simp
            (try (first | with_reducible rfl | (apply And.intro <;> rfl)))
          simp only [Act.put, List.setIfInBounds_toArray, List.set_cons_zero, List.set_cons_succ]
          refine run_at (i := 2) (v := ?_) rfl (by kernel_rfl) (by rfl) (fun _ _ _ h => h) hHeld (fun w1 hw1 => ?_) ?_
          rotate_left 1
          · skip
            go_simp
            (try (first | with_reducible rfl | (apply And.intro <;> rfl)))
          simp only [Act.put, List.setIfInBounds_toArray, List.set_cons_zero, List.set_cons_succ]
          refine run_at (i := 3) (v := ?_) rfl (by kernel_rfl) (by rfl) (fun _ _ _ h => h) hHeld (fun w1 hw1 => ?_) ?_
          rotate_left 1
          · skip
            go_simp
            (try (first | with_reducible rfl | (apply And.intro <;> rfl)))
          simp only [Act.put, List.setIfInBounds_toArray, List.set_cons_zero, List.set_cons_succ]
          refine run_at (i := 4) (v := ?_) rfl (by kernel_rfl) (by rfl) (fun _ _ _ h => h) hHeld (fun w1 hw1 => ?_) ?_
          rotate_left 1
          · skip
            go_simp
            (try (first | with_reducible rfl | (apply And.intro <;> rfl)))
          simp only [Act.put, List.setIfInBounds_toArray, List.set_cons_zero, List.set_cons_succ]
          refine run_at (i := 5) (v := ?_) rfl (by kernel_rfl) (by rfl) (fun _ _ _ h => h) hHeld (fun w1 hw1 => ?_) ?_
          rotate_left 1
          · skip
            go_simp
            (try (first | with_reducible rfl | (apply And.intro <;> rfl)))
          simp only [Act.put, List.setIfInBounds_toArray, List.set_cons_zero, List.set_cons_succ]
          refine run_at (i := 6) (v := ?_) rfl (by kernel_rfl) (by rfl) (fun _ _ _ h => h) hHeld (fun w1 hw1 => ?_) ?_
          rotate_left 1
          · skip
            go_simp
            (try (first | with_reducible rfl | (apply And.intro <;> rfl)))
          simp only [Act.put, List.setIfInBounds_toArray, List.set_cons_zero, List.set_cons_succ]
          refine run_at (i := 7) (v := ?_) rfl (by kernel_rfl) (by rfl) (fun _ _ _ h => h) hHeld (fun w1 hw1 => ?_) ?_
          rotate_left 1
          · skip
            go_simp
            (try (first | with_reducible rfl | (apply And.intro <;> rfl)))
          simp only [Act.put, List.setIfInBounds_toArray, List.set_cons_zero, List.set_cons_succ]
          refine run_at (i := 8) (v := ?_) rfl (by kernel_rfl) (by rfl) (fun _ _ _ h => h) hHeld (fun w1 hw1 => ?_) ?_
          rotate_left 1
          · skip
            have hcw0 := hw1.cell (hcp) (by first | (simp; done) | exact HNS.out | exact HNW.out | (intro hm; have hlt := HSB.out _ hm; (try dsimp only at hlt); omega))
            go_simp
            (try (first | with_reducible rfl | (apply And.intro <;> rfl)))
          simp only [Act.put, List.setIfInBounds_toArray, List.set_cons_zero, List.set_cons_succ]
          refine run_at (i := 9) (v := ?_) rfl (by kernel_rfl) (by rfl) (fun _ _ _ h => h) hHeld (fun w1 hw1 => ?_) ?_
          rotate_left 1
          · skip
            go_simp
            (try (first | with_reducible rfl | (apply And.intro <;> rfl)))
          simp only [Act.put, List.setIfInBounds_toArray, List.set_cons_zero, List.set_cons_succ]
          refine run_at (i := 10) (v := ?_) rfl (by kernel_rfl) (by rfl) (fun _ _ _ h => h) hHeld (fun w1 hw1 => ?_) ?_
          rotate_left 1
          · skip
            have hcw0 := hw1.cell (hcq) (by first | (simp; done) | exact HNS.out | exact HNW.out | (intro hm; have hlt := HSB.out _ hm; (try dsimp only at hlt); omega))
            go_simp
            (try (first | with_reducible rfl | (apply And.intro <;> rfl)))
          simp only [Act.put, List.setIfInBounds_toArray, List.set_cons_zero, List.set_cons_succ]
          refine run_at (i := 11) (v := ?_) rfl (by kernel_rfl) (by rfl) (fun _ _ _ h => h) hHeld (fun w1 hw1 => ?_) ?_
          rotate_left 1
          · skip
            go_simp
            (try (first | with_reducible rfl | (apply And.intro <;> rfl)))
          simp only [Act.put, List.setIfInBounds_toArray, List.set_cons_zero, List.set_cons_succ]
          refine run_at (i := 12) (v := ?_) rfl (by kernel_rfl) (by rfl) (fun _ _ _ h => h) hHeld (fun w1 hw1 => ?_) ?_
          rotate_left 1
          · skip
            go_simp
            (try (first | with_reducible rfl | (apply And.intro <;> rfl)))
          simp only [Act.put, List.setIfInBounds_toArray, List.set_cons_zero, List.set_cons_succ]
          refine run_at (i := 13) (v := ?_) rfl (by kernel_rfl) (by rfl) (fun _ _ _ h => h) hHeld (fun w1 hw1 => ?_) ?_
          rotate_left 1
          · skip
            go_simp
            (try (first | with_reducible rfl | (apply And.intro <;> rfl)))
          simp only [Act.put, List.setIfInBounds_toArray, List.set_cons_zero, List.set_cons_succ]
          refine run_at (i := 14) (v := ?_) rfl (by kernel_rfl) (by rfl) (fun _ _ _ h => h) hHeld (fun w1 hw1 => ?_) ?_
          rotate_left 1
          · skip
            go_simp
            (try (first | with_reducible rfl | (apply And.intro <;> rfl)))
          simp only [Act.put, List.setIfInBounds_toArray, List.set_cons_zero, List.set_cons_succ]
          refine run_at (i := 15) (v := ?_) rfl (by kernel_rfl) (by rfl) (fun _ _ _ h => h) hHeld (fun w1 hw1 => ?_) ?_
          rotate_left 1
          · skip
            have hcw0 := hw1.cell (hcq) (by first | (simp; done) | exact HNS.out | exact HNW.out | (intro hm; have hlt := HSB.out _ hm; (try dsimp only at hlt); omega))
            go_simp
            (try (first | with_reducible rfl | (apply And.intro <;> rfl)))
          simp only [Act.put, List.setIfInBounds_toArray, List.set_cons_zero, List.set_cons_succ]
          refine run_at (i := 16) (v := ?_) rfl (by kernel_rfl) (by rfl) (fun _ _ _ h => h) hHeld (fun w1 hw1 => ?_) ?_
          rotate_left 1
          · skip
            go_simp
            (try (first | with_reducible rfl | (apply And.intro <;> rfl)))
          simp only [Act.put, List.setIfInBounds_toArray, List.set_cons_zero, List.set_cons_succ]
          refine call_at (i := 17) (f := ?_) (args := ?_) rfl (by kernel_rfl) (by rfl) ?_ ?_
          rotate_left 2
          · go_simp
            (try (first | with_reducible rfl | (apply And.intro <;> rfl)))
          refine (HFLO.out _ hHeld).mono ?_
          rw [HX4.out.1]
          rintro e_ _ ⟨rfl, rfl⟩
          refine ⟨_, rfl, hHeld, fun hHeld => ?_⟩
          simp only [Act.put, List.setIfInBounds_toArray, List.set_cons_zero, List.set_cons_succ]
          refine run_at (i := 18) (v := ?_) rfl (by kernel_rfl) (by rfl) (fun _ _ _ h => h) hHeld (fun w1 hw1 => ?_) ?_
          rotate_left 1
          · skip
            go_simp
            (try (first | with_reducible rfl | (apply And.intro <;> rfl)))
          simp only [Act.put, List.setIfInBounds_toArray, List.set_cons_zero, List.set_cons_succ]
          refine run_at (i := 19) (v := ?_) rfl (by kernel_rfl) (by rfl) (fun _ _ _ h => h) hHeld (fun w1 hw1 => ?_) ?_
          rotate_left 1
          · skip
            go_simp
            (try (first | with_reducible rfl | (apply And.intro <;> rfl)))
          simp only [Act.put, List.setIfInBounds_toArray, List.set_cons_zero, List.set_cons_succ]
          refine run_at (i := 20) (v := ?_) rfl (by kernel_rfl) (by rfl) (fun _ _ _ h => h) hHeld (fun w1 hw1 => ?_) ?_
          rotate_left 1
          · skip
            go_simp
            (try (first | with_reducible rfl | (apply And.intro <;> rfl)))
          simp only [Act.put, List.setIfInBounds_toArray, List.set_cons_zero, List.set_cons_succ]
          refine run_at (i := 21) (v := ?_) rfl (by kernel_rfl) (by rfl) (fun _ _ _ h => h) hHeld (fun w1 hw1 => ?_) ?_
          rotate_left 1
          · skip
            go_simp
            (try (first | with_reducible rfl | (apply And.intro <;> rfl)))
          simp only [Act.put, List.setIfInBounds_toArray, List.set_cons_zero, List.set_cons_succ]
          refine call_at (i := 22) (f := ?_) (args := ?_) rfl (by kernel_rfl) (by rfl) ?_ ?_
          rotate_left 2
          · go_simp
            (try (first | with_reducible rfl | (apply And.intro <;> rfl)))
          refine (HLEN.out _ hHeld).mono ?_
          rw [HX4.out.2]
          rintro e_ _ ⟨rfl, rfl⟩
          refine ⟨_, rfl, hHeld, fun hHeld => ?_⟩
          simp only [Act.put, List.setIfInBounds_toArray, List.set_cons_zero, List.set_cons_succ]
          refine run_at (i := 23) (v := ?_) rfl (by kernel_rfl) (by rfl) (fun _ _ _ h => h) hHeld (fun w1 hw1 => ?_) ?_
          rotate_left 1
          · skip
            go_simp
            (try (first | with_reducible rfl | (apply And.intro <;> rfl)))
          simp only [Act.put, List.setIfInBounds_toArray, List.set_cons_zero, List.set_cons_succ]
          refine run_at (i := 24) (v := ?_) rfl (by kernel_rfl) (by rfl) (fun _ _ _ h => h) hHeld (fun w1 hw1 => ?_) ?_
          rotate_left 1
          · skip
            go_simp
            (try (first | with_reducible rfl | (apply And.intro <;> rfl)))
          simp only [Act.put, List.setIfInBounds_toArray, List.set_cons_zero, List.set_cons_succ]
          refine wpAnyH_done (by kernel_rfl) ?_ _
          have HFE := Lib.hid hHeld
          clear hHeld hcp hcq c1 c2
          go_wp2
          go_roundw
          case rel => exact ⟨k + 1, l3, by omega, by omega, by go_num, HL3, Lib.hid (HSB.out.b.keep HFE.out (by simp)), HZY3, Lib.hid (HBX5.out.keep HFE.out (by simp)), Lib.hid (HBY5.out.keep HFE.out (by simp)), Lib.hid (HBC5.out.keep HFE.out (by simp)), Lib.hid (HF4.out.and HFE.out (by simp))⟩
          case measure => simp [intOf]; omega
    · have HFF2 := Lib.hid (HF.out)
      by_cases hkq : (k : Int) < q
      · have hk6' : ¬ (k : Int) < 6 := by omega
        go_wp2_with fail
        refine (swakes_any wr (HK.out.keep HF.out (by simp))).mono ?_
        rintro e_ w11 ⟨rfl, hf11⟩
        have HF11 := Lib.hid (HF.out.and hf11 (by simp))
        clear hf11
        go_wp2
        go_ret
        exact ⟨rfl, HF11.out⟩
      · go_wp2_with fail
        refine (swakes_any wr (HK.out.keep HF.out (by simp))).mono ?_
        rintro e_ w11 ⟨rfl, hf11⟩
        have HF11 := Lib.hid (HF.out.and hf11 (by simp))
        clear hf11
        go_wp2
        go_ret
        exact ⟨rfl, HF11.out⟩
end Go.Proofs.YtacandocjjpfcaaDoor
