/- WalLong: the walk. (written by gen_wll.py) -/
import Derived.Test.YtdakilioikhhbaaWlc
import Derived.Test.YtdakilioikhhbaaLend
namespace Go.Proofs.Ytdakilioikhhbaa
set_option maxRecDepth 100000
open Go.RowKit

theorem make_u8s (n : Nat) (hn : n ≤ 1073741824) (w : World) : ∃ wa, (Instr.makeSlice 22 (.int .i64 n) (.int .i64 n)).run Try.prog w = .ok (.slice (some ⟨w.heap.size, 0, none⟩) n n) wa ∧
    (∃ z : List UInt8, z.length = n ∧ By wa (some ⟨w.heap.size, 0, none⟩) n z) ∧ Fr [] w wa ∧ w.heap.size < wa.heap.size := by
  obtain ⟨i, hi0, hz0, hz1, hz2⟩ := info_parts info_u8
  have h := run_make (P := Try.prog) w 22 5 i _ Try.underlying22 hi0 hz0 .i64 .i64 n n (by omega) (by omega) (by rw [hz2]; omega) (by omega)
  rw [hz1, Nat.mul_one, madeCells_u8, Int.toNat_natCast] at h
  refine ⟨_, h, ⟨List.replicate n 0, by simp, ?_⟩, (Fr.refl [] w).alloc _, by simp⟩
  have := By.blk (List.replicate n (0 : UInt8)) (Blk.new w 5 _) rfl
  simpa using this
/-- a record that may be too long -/
def lput (L : List (List UInt8)) (z : List UInt8) : List (List UInt8) := if z.length ≤ 65536 then L ++ [z] else L
def putE (n : Nat) : Int := if n ≤ 65536 then 0 else 7
theorem cl_putN (w : World) (T : List Nat) (g gd : Nat) (L : List (List UInt8)) (h : Log w T g gd (cl L) L) (B : Option Addr) (n c : Nat) (b : List UInt8) (hy : By w B n b) (hB : ∀ x ∈ bk B, ¬ x ∈ T ∧ x < w.heap.size) (hl : (rowsB L).length ≤ 1000000000) :
    Calls Try.prog 12 #[.pointer (some ⟨g, 0, none⟩), .slice B n c] w fun e w' => e = .returned (.int .i64 (putE n)) ∧ ∃ T', Log w' T' g gd (cl (lput L b)) (lput L b) ∧ Fr T w w' ∧ ∀ x ∈ T', x < w.heap.size → x ∈ T := by
  have hbl := hy.1
  by_cases hn : n ≤ 65536
  · have h1 : lput L b = L ++ [b] := by unfold lput; rw [if_pos (by omega)]
    have h2 : putE n = 0 := by unfold putE; rw [if_pos hn]
    rw [h1, h2]
    exact cl_put w T g gd L h B n c b hy hB hn hl
  · have h1 : lput L b = L := by unfold lput; rw [if_neg (by omega)]
    have h2 : putE n = 7 := by unfold putE; rw [if_neg hn]
    rw [h1, h2]
    refine (wput_big w g B n c (by omega)).mono ?_
    rintro e w' ⟨rfl, rfl⟩
    exact ⟨rfl, T, h, Fr.refl _ _, fun x hx _ => hx⟩
theorem lput_len (L : List (List UInt8)) (z : List UInt8) : (rowsB (lput L z)).length ≤ (rowsB L).length + 70000 := by
  unfold lput
  split
  · have := rowB_len z (by omega)
    rw [rowsB_snoc, List.length_append]
    omega
  · omega

set_option maxHeartbeats 20000000 in
theorem walLong_walk (w : World) (v : Int) (h1 : -9223372036854775808 ≤ v) (h2 : v < 9223372036854775808) (B : Option Addr) (m d : Nat) (lb : List UInt8) (hB : By w B m lb) (hm : m ≤ d) (hd : d ≤ maxLen) :
    Calls Try.prog 3 #[.int .i64 v, .slice B m d] w fun e w' => e = .returned (.bool true) ∧ Fr [] w w' := by
  have HY := Lib.hid hB
  have HMD := Lib.hid (And.intro hm hd)
  have HV := Lib.hid (And.intro h1 h2)
  clear hB hm hd h1 h2
  go_enter Try.func3, Try.ntmps3
  go_wp2_with fail
  refine (dnew_any w).mono ?_
  rintro e w1 ⟨rfl, hd1, hf1⟩
  have HD1 : Hid (Dok w1 [w.heap.size] w.heap.size (cl [])) := Lib.hid hd1
  have HF1 := Lib.hid hf1
  clear hd1 hf1
  generalize hg : w.heap.size = gd at *
  have HG := Lib.hid hg
  clear hg
  go_wp2_with fail
  refine (cl_open w1 [gd] gd [] HD1.out (by intro b hb; simp at hb) (by simp [rowsB])).mono ?_
  rintro e w2 ⟨g, S, rfl, hl2, hf2, hs2⟩
  have HL2 := Lib.hid hl2
  have HF2 : Hid (Fr [] w w2) := Lib.hid (HF1.out.trans hf2 (by intro x hx hl; simp at hx; have := HG.out; omega))
  have HT2 : Hid (∀ x ∈ [gd] ++ S, w.heap.size ≤ x) := Lib.hid (fun x hx => by
    rcases List.mem_append.1 hx with hx | hx
    · simp at hx; have := HG.out; omega
    · have := hs2 x hx; have := HF1.out.size; omega)
  clear hl2 hf2 hs2
  generalize [gd] ++ S = T at *
  go_wp2_with fail
  refine (within_pos v 3 HV.out.1 HV.out.2 (by omega) (by omega) w2).mono ?_
  rintro e w3 ⟨rfl, rfl⟩
  have hq0 : 0 ≤ v % 3 := Int.emod_nonneg _ (by omega)
  have hq1 : v % 3 < 3 := Int.emod_lt_of_pos _ (by omega)
  obtain ⟨N, hN, hN1, hN2⟩ : ∃ N : Nat, wrap64 (65535 + v % 3) = (N : Int) ∧ 65535 ≤ N ∧ N ≤ 65537 := ⟨(65535 + v % 3).toNat, by unfold wrap64; omega, by omega, by omega⟩
  generalize v % 3 = q at *
  clear hq0 hq1
  go_wp2_with fail
  rw [hN]
  clear hN
  rw [show (30 : Int) = ((30 : Nat) : Int) from rfl]
  refine (cut_any B m d 30 lb w2 (HY.out.keep HF2.out (by simp)) (Nat.le_trans HMD.out.1 HMD.out.2) HMD.out.1 (by omega)).mono ?_
  rintro e w3 ⟨A3, c3, rfl, hN3⟩
  have h30 : (lb.take 30).length ≤ 30 := List.length_take_le _ _
  generalize lb.take 30 = b at *
  have H30 := Lib.hid h30
  have HB3 : Hid (By w3 A3 b.length b ∧ ∀ x ∈ bk A3, w2.heap.size ≤ x ∧ x < w3.heap.size) := Lib.hid ⟨hN3.by, fun x hx => ⟨hN3.2.2 x hx, hN3.lt x hx⟩⟩
  have HL3 := Lib.hid (HL2.out.keep hN3.2.1 (by simp))
  have HT3 : Hid (∀ x ∈ T, x < w2.heap.size) := Lib.hid HL2.out.lt
  have HF3 := Lib.hid (HF2.out.and hN3.2.1 (by simp))
  clear hN3 h30 HL2 HF2 HD1 HF1
  generalize w2.heap.size = h2 at *
  go_upto_region 9 with (fail)
  refine wp_region_held_drew (S := Fr T w3) (by kernel_rfl) (Fr.drew (Fr.refl _ w3)) (fun hHeld => ?_)
  have HL3 : Hid (Log w3.drew T g gd (cl []) []) := Lib.hid (HL3.out.keep (Fr.drew (Fr.refl [] w3)) (by simp))
  have HB3 : Hid (By w3.drew A3 b.length b ∧ ∀ x ∈ bk A3, h2 ≤ x ∧ x < w3.drew.heap.size) := Lib.hid ⟨HB3.out.1.drew, HB3.out.2⟩
  have HF3' : Hid (Fr [] w w3.drew) := Lib.hid (Fr.drew HF3.out)
  have HSD : Hid (w3.heap.size = w3.drew.heap.size) := Lib.hid rfl
  generalize w3.drew = wd at *
  refine run_at (i := 0) (v := ?_) rfl (by kernel_rfl) (by rfl) (fun _ _ _ h => h) hHeld (fun w1 hw1 => ?_) ?_
  rotate_left 1
  · skip
    go_simp
    (try (first | with_reducible rfl | (apply And.intro <;> rfl)))
  simp only [Act.put, List.setIfInBounds_toArray, List.set_cons_zero, List.set_cons_succ]
  refine run_at (i := 1) (v := ?_) rfl (by kernel_rfl) (by rfl) (fun _ _ _ h => h) hHeld (fun w1 hw1 => ?_) ?_
  rotate_left 1
  · skip
    go_simp
    (try (first | with_reducible rfl | (apply And.intro <;> rfl)))
  simp only [Act.put, List.setIfInBounds_toArray, List.set_cons_zero, List.set_cons_succ]
  refine run_at (i := 3) (v := ?_) rfl (by kernel_rfl) (by rfl) (fun _ _ _ h => h) hHeld (fun w1 hw1 => ?_) ?_
  rotate_left 1
  · skip
    go_simp
    (try (first | with_reducible rfl | (apply And.intro <;> rfl)))
  simp only [Act.put, List.setIfInBounds_toArray, List.set_cons_zero, List.set_cons_succ]
  refine run_at (i := 4) (v := ?_) rfl (by kernel_rfl) (by rfl) (fun _ _ _ h => h) hHeld (fun w1 hw1 => ?_) ?_
  rotate_left 1
  · skip
    go_simp
    (try (first | with_reducible rfl | (apply And.intro <;> rfl)))
  simp only [Act.put, List.setIfInBounds_toArray, List.set_cons_zero, List.set_cons_succ]
  refine run_at (i := 7) (v := ?_) rfl (by kernel_rfl) (by rfl) (fun _ _ _ h => h) hHeld (fun w1 hw1 => ?_) ?_
  rotate_left 1
  · skip
    go_simp
    (try (first | with_reducible rfl | (apply And.intro <;> rfl)))
  simp only [Act.put, List.setIfInBounds_toArray, List.set_cons_zero, List.set_cons_succ]
  refine run_at (i := 8) (v := ?_) rfl (by kernel_rfl) (by rfl) (fun _ _ _ h => h) hHeld (fun w1 hw1 => ?_) ?_
  rotate_left 1
  · skip
    go_simp
    (try (first | with_reducible rfl | (apply And.intro <;> rfl)))
  simp only [Act.put, List.setIfInBounds_toArray, List.set_cons_zero, List.set_cons_succ]
  refine two_at (i := 2) (j := 5) rfl rfl (by kernel_rfl) (by rfl) (by rfl) (fun K hK => ?_) (fun K hK => ?_)
  focus
    refine wp_call (f := ?_) (args := ?_) ?_ ?_
    rotate_left 2
    · go_simp
      (try (first | with_reducible rfl | (apply And.intro <;> rfl)))
    refine (cl_put wd T g gd [] HL3.out A3 _ c3 b HB3.out.1 (fun x hx => ⟨fun hm => by have := HT3.out x hm; have := (HB3.out.2 x hx).1; omega, (HB3.out.2 x hx).2⟩) (by have := H30.out; omega) (by simp [rowsB])).mono ?_
    rintro e_ w4 ⟨rfl, T4, hl4, hf4, ht4⟩
    refine ⟨_, rfl, hK.out _ _ (hHeld.trans hf4 (fun x hx _ => hx)) (fun hHeld => ?_)⟩
    clear hK K
    simp only [Act.put, List.setIfInBounds_toArray, List.set_cons_zero, List.set_cons_succ]
    obtain ⟨w5, hmk, ⟨z, hz, hzy⟩, hf5, hg5⟩ := make_u8s N (by omega) w4
    refine step_at (i := 5) rfl (by kernel_rfl) (by rfl) (fun K hK => ?_)
    refine wp_run (v := ?_) (w' := ?_) ?_ ?_
    rotate_left 2
    · have hrun := hmk
      go_simp
      (try (first | with_reducible rfl | (apply And.intro <;> rfl)))
    refine hK.out _ _ (hHeld.trans hf5 (by simp)) (fun hHeld => ?_)
    clear hK K
    simp only [Act.put, List.setIfInBounds_toArray, List.set_cons_zero, List.set_cons_succ]
    have HL5 : Hid (Log w5 T4 g gd (cl [b]) [b]) := Lib.hid (hl4.keep hf5 (by simp))
    have HZ : Hid (By w5 (some ⟨w4.heap.size, 0, none⟩) N z ∧ ∀ x ∈ bk (some (⟨w4.heap.size, 0, none⟩ : Addr)), ¬ x ∈ T4 ∧ x < w5.heap.size) := Lib.hid ⟨hzy, fun x hx => by simp [bk] at hx; subst hx; exact ⟨fun hm => by have := hl4.lt _ hm; omega, hg5⟩⟩
    have HB5 : Hid (By w5 A3 b.length b ∧ ∀ x ∈ bk A3, ¬ x ∈ T4 ∧ x < w5.heap.size) := Lib.hid ⟨(HB3.out.1.keep hf4 (fun a ha hm => by have := HT3.out _ hm; have := (HB3.out.2 a.block (by simp [bk, ha])).1; omega)).keep hf5 (by simp), fun x hx => ⟨fun hm => by
      have h1 := ht4 x hm (HB3.out.2 x hx).2
      have := HT3.out _ h1; have := (HB3.out.2 x hx).1; omega, by have := (HB3.out.2 x hx).2; have := hf4.size; have := hf5.size; omega⟩⟩
    have HFX : Hid (Fr T wd w5) := Lib.hid (hf4.trans hf5 (by simp))
    have HTX : Hid (∀ x ∈ T4, x < wd.heap.size → x ∈ T) := Lib.hid ht4
    have HNE := Lib.hid hz
    generalize w4.heap.size = gz at *
    clear hmk hl4 hf4 ht4 hf5 hg5 hzy hz
  rotate_left
  focus
    obtain ⟨w4, hmk, ⟨z, hz, hzy⟩, hf4, hg4⟩ := make_u8s N (by omega) wd
    refine wp_run (v := ?_) (w' := ?_) ?_ ?_
    rotate_left 2
    · have hrun := hmk
      go_simp
      (try (first | with_reducible rfl | (apply And.intro <;> rfl)))
    refine hK.out _ _ (hHeld.trans hf4 (by simp)) (fun hHeld => ?_)
    clear hK K
    simp only [Act.put, List.setIfInBounds_toArray, List.set_cons_zero, List.set_cons_succ]
    refine call_at (i := 2) (f := ?_) (args := ?_) rfl (by kernel_rfl) (by rfl) ?_ ?_
    rotate_left 2
    · go_simp
      (try (first | with_reducible rfl | (apply And.intro <;> rfl)))
    refine (cl_put w4 T g gd [] (HL3.out.keep hf4 (by simp)) A3 _ c3 b (HB3.out.1.keep hf4 (by simp)) (fun x hx => ⟨fun hm => by have := HT3.out x hm; have := (HB3.out.2 x hx).1; omega, by have := (HB3.out.2 x hx).2; have := hf4.size; omega⟩) (by have := H30.out; omega) (by simp [rowsB])).mono ?_
    rintro e_ w5 ⟨rfl, T4, hl5, hf5, ht5⟩
    refine ⟨_, rfl, hHeld.trans hf5 (fun x hx _ => hx), fun hHeld => ?_⟩
    simp only [Act.put, List.setIfInBounds_toArray, List.set_cons_zero, List.set_cons_succ]
    have HDT := Lib.hid HL3.out.lt
    have HL5 : Hid (Log w5 T4 g gd (cl [b]) [b]) := Lib.hid hl5
    have HZ : Hid (By w5 (some ⟨wd.heap.size, 0, none⟩) N z ∧ ∀ x ∈ bk (some (⟨wd.heap.size, 0, none⟩ : Addr)), ¬ x ∈ T4 ∧ x < w5.heap.size) := Lib.hid ⟨hzy.keep hf5 (fun a ha hm => by injection ha with ha; subst ha; have := HDT.out _ hm; simp at this), fun x hx => by simp [bk] at hx; subst hx; exact ⟨fun hm => by have := HDT.out _ (ht5 _ hm hg4); omega, by have := hf5.size; omega⟩⟩
    have HB5 : Hid (By w5 A3 b.length b ∧ ∀ x ∈ bk A3, ¬ x ∈ T4 ∧ x < w5.heap.size) := Lib.hid ⟨(HB3.out.1.keep hf4 (by simp)).keep hf5 (fun a ha hm => by have := HT3.out _ hm; have := (HB3.out.2 a.block (by simp [bk, ha])).1; omega), fun x hx => ⟨fun hm => by
      have h0 := (HB3.out.2 x hx).2
      have h1 := ht5 x hm (by have := hf4.size; omega)
      have := HT3.out _ h1; have := (HB3.out.2 x hx).1; omega, by have := (HB3.out.2 x hx).2; have := hf4.size; have := hf5.size; omega⟩⟩
    have HFX : Hid (Fr T wd w5) := Lib.hid ((hf4.mono (T := T) (by simp)).trans hf5 (fun x hx _ => hx))
    have HTX : Hid (∀ x ∈ T4, x < wd.heap.size → x ∈ T) := Lib.hid (fun x hx hl => ht5 x hx (by have := hf4.size; omega))
    have HNE := Lib.hid hz
    generalize hgz : wd.heap.size = gz at HZ
    clear hmk hl5 hf4 ht5 hf5 hg4 hzy hz HDT hgz
  all_goals
    refine call_at (i := 6) (f := ?_) (args := ?_) rfl (by kernel_rfl) (by rfl) ?_ ?_
    rotate_left 2
    · go_simp
      (try (first | with_reducible rfl | (apply And.intro <;> rfl)))
    refine (cl_putN w5 T4 g gd [b] HL5.out _ N N z HZ.out.1 HZ.out.2 (by have := H30.out; have := rowB_len b (by omega); rw [rowsB_cons, List.length_append, rowsB_nil]; simp only [List.length_nil]; omega)).mono ?_
    rintro e_ w6 ⟨rfl, T6, hl6, hf6, ht6⟩
    refine ⟨_, rfl, hHeld.trans hf6 (fun x hx hl => HTX.out x hx (by have := HSD.out; omega)), fun hHeld => ?_⟩
    simp only [Act.put, List.setIfInBounds_toArray, List.set_cons_zero, List.set_cons_succ]
    have HL6 := Lib.hid hl6
    have HB6 : Hid (By w6 A3 b.length b ∧ ∀ x ∈ bk A3, ¬ x ∈ T6 ∧ x < w6.heap.size) := Lib.hid ⟨HB5.out.1.keep hf6 (fun a ha hm => (HB5.out.2 a.block (by simp [bk, ha])).1 hm), fun x hx => ⟨fun hm => (HB5.out.2 x hx).1 (ht6 x hm (HB5.out.2 x hx).2), by have := (HB5.out.2 x hx).2; have := hf6.size; omega⟩⟩
    have HF6 : Hid (Fr T wd w6) := Lib.hid (HFX.out.trans hf6 HTX.out)
    have HT6 : Hid (∀ x ∈ T6, x < wd.heap.size → x ∈ T) := Lib.hid (fun x hx hl => HTX.out x (ht6 x hx (by have := HFX.out.size; omega)) hl)
    have HLP : Hid ((rowsB (lput [b] z)).length ≤ 100000) := Lib.hid (by
      have h1 := lput_len [b] z
      have h2 := rowB_len b (by have := H30.out; omega)
      have h3 := H30.out
      rw [rowsB_cons, List.length_append, rowsB_nil, List.length_nil] at h1
      omega)
    clear hl6 hf6 ht6 HL5 HZ HB5 HFX HTX
    refine call_at (i := 9) (f := ?_) (args := ?_) rfl (by kernel_rfl) (by rfl) ?_ ?_
    rotate_left 2
    · go_simp
      (try (first | with_reducible rfl | (apply And.intro <;> rfl)))
    refine (cl_put w6 T6 g gd _ HL6.out A3 _ c3 b HB6.out.1 HB6.out.2 (by have := H30.out; omega) (by have := HLP.out; omega)).mono ?_
    rintro e_ w7 ⟨rfl, T7, hl7, hf7, ht7⟩
    refine ⟨_, rfl, hHeld.trans hf7 (fun x hx hl => HT6.out x hx (by have := HSD.out; omega)), fun hHeld => ?_⟩
    simp only [Act.put, List.setIfInBounds_toArray, List.set_cons_zero, List.set_cons_succ]
    have HL7 := Lib.hid hl7
    have HB7 : Hid (By w7 A3 b.length b ∧ ∀ x ∈ bk A3, ¬ x ∈ T7) := Lib.hid ⟨HB6.out.1.keep hf7 (fun a ha hm => (HB6.out.2 a.block (by simp [bk, ha])).1 hm), fun x hx hm => (HB6.out.2 x hx).1 (ht7 x hm (HB6.out.2 x hx).2)⟩
    have HF7 : Hid (Fr [] w w7) := Lib.hid (HF3'.out.trans (HF6.out.trans hf7 HT6.out) (fun x hx hl => by have := HT2.out x hx; omega))
    have HT7 : Hid (∀ x ∈ T7, w.heap.size ≤ x) := Lib.hid (fun x hx => by
      by_cases hl : x < wd.heap.size
      · exact HT2.out x (HT6.out x (ht7 x hx (by have := HF6.out.size; omega)) hl)
      · have := HF3'.out.size; omega)
    clear hl7 hf7 ht7 HL6 HB6 HF6 HT6
    refine run_at (i := 10) (v := ?_) rfl (by kernel_rfl) (by rfl) (fun _ _ _ h => h) hHeld (fun w1 hw1 => ?_) ?_
    rotate_left 1
    · skip
      go_simp
      (try (first | with_reducible rfl | (apply And.intro <;> rfl)))
    simp only [Act.put, List.setIfInBounds_toArray, List.set_cons_zero, List.set_cons_succ]
    refine run_at (i := 11) (v := ?_) rfl (by kernel_rfl) (by rfl) (fun _ _ _ h => h) hHeld (fun w1 hw1 => ?_) ?_
    rotate_left 1
    · skip
      go_simp
      (try (first | with_reducible rfl | (apply And.intro <;> rfl)))
    simp only [Act.put, List.setIfInBounds_toArray, List.set_cons_zero, List.set_cons_succ]
    refine run_at (i := 12) (v := ?_) rfl (by kernel_rfl) (by rfl) (fun _ _ _ h => h) hHeld (fun w1 hw1 => ?_) ?_
    rotate_left 1
    · skip
      go_simp
      (try (first | with_reducible rfl | (apply And.intro <;> rfl)))
    simp only [Act.put, List.setIfInBounds_toArray, List.set_cons_zero, List.set_cons_succ]
    refine wpAnyH_done (by kernel_rfl) ?_ _
    clear hHeld
    by_cases hN3 : N ≤ 65536
    · have hpe : putE N = 0 := by unfold putE; rw [if_pos hN3]
      have hlp : lput [b] z = [b, z] := by unfold lput; rw [if_pos (by rw [HNE.out]; exact hN3)]; rfl
      have hN4 : (N : Int) ≤ 65536 := by omega
      rw [hpe]
      rw [hlp] at HL7 HLP
      have HLE : Hid ([b, z] ++ [b] = [b, z, b] ∧ (rowsB [b, z, b]).length ≤ 200000) := Lib.hid ⟨rfl, by
        have h1 := HLP.out
        have h2 := rowB_len b (by have := H30.out; omega)
        have h3 := H30.out
        rw [show [b, z, b] = [b, z] ++ [b] from rfl, rowsB_snoc, List.length_append]
        omega⟩
      rw [HLE.out.1] at HL7
      clear hpe hlp hN3 hN1 hN2
      have hsh7 := HL7.out.short
      obtain ⟨SD, SW, hTE, hdk, hwk, hxx⟩ := HL7.out
      have HDK := Lib.hid hdk
      have HWK := Lib.hid hwk
      have HSDT : Hid (∀ x ∈ SD, x ∈ T7) := Lib.hid (fun x hx => by rw [hTE]; simp [hx])
      have HGD := Lib.hid hdk.mem
      have HGW : Hid (¬ gd ∈ SW) := Lib.hid (hxx gd hdk.mem)
      clear hTE hdk hwk hxx HL7
      go_wp2_with fail
      refine (cl_open w7 SD gd [b, z, b] HDK.out hsh7 (by have := HLE.out.2; omega)).mono ?_
      rintro e_ w8 ⟨g8, S8, rfl, hl8, hf8, hs8⟩
      have HL8 := Lib.hid hl8
      have HF8 : Hid (Fr [] w w8) := Lib.hid (HF7.out.trans hf8 (fun x hx hl => by simp at hx; subst hx; have := HT7.out _ (HSDT.out _ HGD.out); omega))
      have HB8 : Hid (By w8 A3 b.length b) := Lib.hid (HB7.out.1.keep hf8 (fun a ha hm => HB7.out.2 a.block (by simp [bk, ha]) (by simp at hm; rw [hm]; exact HSDT.out _ HGD.out)))
      have HW8 := Lib.hid (HWK.out.keep hf8 (fun x hx hm => by simp at hm; subst hm; exact HGW.out hx))
      clear hl8 hf8 hs8 HB7 HF7 HDK HWK hsh7
      generalize SD ++ S8 = T8 at *
      go_wp2_with fail
      refine (wlen_any w8 T8 g8 gd _ _ HL8.out).mono ?_
      rintro e_ w9 ⟨rfl, rfl⟩
      rw [show (([b, z, b] : List (List UInt8)).length : Int) = 3 from rfl]
      go_wp2_with fail
      refine (wlenW_any w8 SW g gd _ HW8.out).mono ?_
      rintro e_ w9 ⟨rfl, rfl⟩
      rw [show (([b, z, b] : List (List UInt8)).length : Int) = 3 from rfl]
      go_wp2_with fail
      refine (wrecords_any w8 T8 g8 gd _ _ HL8.out (by have := HLE.out.2; omega)).mono ?_
      rintro e_ wa ⟨gr, rr, rfl, hbr, hrr, hyr, hgr, hfr⟩
      rw [show ([b, z, b] : List (List UInt8)).length = 3 from rfl]
      obtain ⟨r0, r1, r2, rfl⟩ : ∃ r0 r1 r2 : RowV, rr = [r0, r1, r2] := by
        rcases rr with _ | ⟨r0, _ | ⟨r1, _ | ⟨r2, _ | ⟨r3, l⟩⟩⟩⟩ <;> simp at hrr
        exact ⟨r0, r1, r2, rfl⟩
      have hb0 : r0.b = b ∧ r2.b = b := by simp at hrr; exact ⟨hrr.1, hrr.2.2⟩
      have hc0 := hbr.cell 0
      have hcl := hbr.cell (3 - 1)
      simp [RowV.val] at hc0 hcl
      have HY0 : Hid (By wa r0.A r0.n b) := Lib.hid (hb0.1 ▸ (hyr r0 (by simp)).1)
      have HYL : Hid (By wa r2.A r2.n b) := Lib.hid (hb0.2 ▸ (hyr r2 (by simp)).1)
      have HBa := Lib.hid (HB8.out.keep hfr (by simp))
      have HFa := Lib.hid (HF8.out.and hfr (by simp))
      clear hbr hrr hyr hgr hfr hb0 HL8 HB8 HF8 HW8
      go_wp2_with fail
      refine (same_any r0.A A3 r0.n _ r0.c c3 b b wa HY0.out HBa.out (by rw [← HY0.out.1]; have := H30.out; omega)).mono ?_
      rw [decide_eq_true rfl]
      rintro e_ wb ⟨rfl, kb, hwb⟩
      have hfb : Fr [] wa wb := by rw [hwb]; exact (Fr.refl [] wa).drewN kb
      have HYLb := Lib.hid (HYL.out.keep hfb (by simp))
      have HBb := Lib.hid (HBa.out.keep hfb (by simp))
      have HFb := Lib.hid (HFa.out.and hfb (by simp))
      have hcb := hfb.cell hcl (by simp)
      clear hwb hfb hc0 hcl
      go_wp2_with fail
      refine (same_any r2.A A3 r2.n _ r2.c c3 b b wb HYLb.out HBb.out (by rw [← HYLb.out.1]; have := H30.out; omega)).mono ?_
      rw [decide_eq_true rfl]
      rintro e_ wc ⟨rfl, kc, hwc⟩
      have HFc : Hid (Fr [] w wc) := Lib.hid (HFb.out.and (by rw [hwc]; exact (Fr.refl [] wb).drewN kc) (by simp))
      clear hwc hcb
      go_wp2_with fail
      refine (wwakes_any wc).mono ?_
      rintro e_ wd ⟨rfl, hfd⟩
      have HFd := Lib.hid (HFc.out.and hfd (by simp))
      clear hfd
      go_wp2
      go_ret
      exact ⟨rfl, HFd.out⟩
    · have hpe : putE N = 7 := by unfold putE; rw [if_neg hN3]
      have hlp : lput [b] z = [b] := by unfold lput; rw [if_neg (by rw [HNE.out]; exact hN3)]
      have hN4 : ¬ (N : Int) ≤ 65536 := by omega
      rw [hpe]
      rw [hlp] at HL7 HLP
      have HLE : Hid ([b] ++ [b] = [b, b] ∧ (rowsB [b, b]).length ≤ 200000) := Lib.hid ⟨rfl, by
        have h1 := HLP.out
        have h2 := rowB_len b (by have := H30.out; omega)
        have h3 := H30.out
        rw [show [b, b] = [b] ++ [b] from rfl, rowsB_snoc, List.length_append]
        omega⟩
      rw [HLE.out.1] at HL7
      clear hpe hlp hN3 hN1 hN2
      have hsh7 := HL7.out.short
      obtain ⟨SD, SW, hTE, hdk, hwk, hxx⟩ := HL7.out
      have HDK := Lib.hid hdk
      have HWK := Lib.hid hwk
      have HSDT : Hid (∀ x ∈ SD, x ∈ T7) := Lib.hid (fun x hx => by rw [hTE]; simp [hx])
      have HGD := Lib.hid hdk.mem
      have HGW : Hid (¬ gd ∈ SW) := Lib.hid (hxx gd hdk.mem)
      clear hTE hdk hwk hxx HL7
      go_wp2_with fail
      refine (cl_open w7 SD gd [b, b] HDK.out hsh7 (by have := HLE.out.2; omega)).mono ?_
      rintro e_ w8 ⟨g8, S8, rfl, hl8, hf8, hs8⟩
      have HL8 := Lib.hid hl8
      have HF8 : Hid (Fr [] w w8) := Lib.hid (HF7.out.trans hf8 (fun x hx hl => by simp at hx; subst hx; have := HT7.out _ (HSDT.out _ HGD.out); omega))
      have HB8 : Hid (By w8 A3 b.length b) := Lib.hid (HB7.out.1.keep hf8 (fun a ha hm => HB7.out.2 a.block (by simp [bk, ha]) (by simp at hm; rw [hm]; exact HSDT.out _ HGD.out)))
      have HW8 := Lib.hid (HWK.out.keep hf8 (fun x hx hm => by simp at hm; subst hm; exact HGW.out hx))
      clear hl8 hf8 hs8 HB7 HF7 HDK HWK hsh7
      generalize SD ++ S8 = T8 at *
      go_wp2_with fail
      refine (wlen_any w8 T8 g8 gd _ _ HL8.out).mono ?_
      rintro e_ w9 ⟨rfl, rfl⟩
      rw [show (([b, b] : List (List UInt8)).length : Int) = 2 from rfl]
      go_wp2_with fail
      refine (wlenW_any w8 SW g gd _ HW8.out).mono ?_
      rintro e_ w9 ⟨rfl, rfl⟩
      rw [show (([b, b] : List (List UInt8)).length : Int) = 2 from rfl]
      go_wp2_with fail
      refine (wrecords_any w8 T8 g8 gd _ _ HL8.out (by have := HLE.out.2; omega)).mono ?_
      rintro e_ wa ⟨gr, rr, rfl, hbr, hrr, hyr, hgr, hfr⟩
      rw [show ([b, b] : List (List UInt8)).length = 2 from rfl]
      obtain ⟨r0, r1, rfl⟩ : ∃ r0 r1 : RowV, rr = [r0, r1] := by
        rcases rr with _ | ⟨r0, _ | ⟨r1, _ | ⟨r2, l⟩⟩⟩ <;> simp at hrr
        exact ⟨r0, r1, rfl⟩
      have hb0 : r0.b = b ∧ r1.b = b := by simp at hrr; exact ⟨hrr.1, hrr.2⟩
      have hc0 := hbr.cell 0
      have hcl := hbr.cell (2 - 1)
      simp [RowV.val] at hc0 hcl
      have HY0 : Hid (By wa r0.A r0.n b) := Lib.hid (hb0.1 ▸ (hyr r0 (by simp)).1)
      have HYL : Hid (By wa r1.A r1.n b) := Lib.hid (hb0.2 ▸ (hyr r1 (by simp)).1)
      have HBa := Lib.hid (HB8.out.keep hfr (by simp))
      have HFa := Lib.hid (HF8.out.and hfr (by simp))
      clear hbr hrr hyr hgr hfr hb0 HL8 HB8 HF8 HW8
      go_wp2_with fail
      refine (same_any r0.A A3 r0.n _ r0.c c3 b b wa HY0.out HBa.out (by rw [← HY0.out.1]; have := H30.out; omega)).mono ?_
      rw [decide_eq_true rfl]
      rintro e_ wb ⟨rfl, kb, hwb⟩
      have hfb : Fr [] wa wb := by rw [hwb]; exact (Fr.refl [] wa).drewN kb
      have HYLb := Lib.hid (HYL.out.keep hfb (by simp))
      have HBb := Lib.hid (HBa.out.keep hfb (by simp))
      have HFb := Lib.hid (HFa.out.and hfb (by simp))
      have hcb := hfb.cell hcl (by simp)
      clear hwb hfb hc0 hcl
      go_wp2_with fail
      refine (same_any r1.A A3 r1.n _ r1.c c3 b b wb HYLb.out HBb.out (by rw [← HYLb.out.1]; have := H30.out; omega)).mono ?_
      rw [decide_eq_true rfl]
      rintro e_ wc ⟨rfl, kc, hwc⟩
      have HFc : Hid (Fr [] w wc) := Lib.hid (HFb.out.and (by rw [hwc]; exact (Fr.refl [] wb).drewN kc) (by simp))
      clear hwc hcb
      go_wp2_with fail
      refine (wwakes_any wc).mono ?_
      rintro e_ wd ⟨rfl, hfd⟩
      have HFd := Lib.hid (HFc.out.and hfd (by simp))
      clear hfd
      go_wp2
      go_ret
      exact ⟨rfl, HFd.out⟩
end Go.Proofs.Ytdakilioikhhbaa
