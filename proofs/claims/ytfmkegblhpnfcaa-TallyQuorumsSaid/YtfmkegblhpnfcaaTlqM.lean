/- gavellaw13.TallyQuorums, walked. -/
import Derived.Test.YtfmkegblhpnfcaaKT1
set_option linter.unusedSimpArgs false
set_option linter.unusedVariables false
namespace Go.Proofs.Ytfmkegblhpnfcaa
set_option maxRecDepth 100000
open Go.RowKit
theorem u8_succ (x : UInt8) : IntKind.u8.wrap ((x.toNat : Int) + 1) = ((x + 1).toNat : Int) := by
  have h : ∀ n : Fin 256, IntKind.u8.wrap ((n.val : Int) + 1) = (((n.val + 1) % 256 : Nat) : Int) := by decide +kernel
  have h2 := h ⟨x.toNat, x.toNat_lt⟩
  simp only at h2
  rw [h2, UInt8.toNat_add]
  rfl
/-- what replica i votes for; x: if it is one of those that vote in both ways -/
def sQ (n F L : Nat) (vs : List Int) (a b x : List UInt8) (i : Nat) : List UInt8 := if (i + L) % n < F then x else if (vs.getD i 0).tmod 2 = 0 then a else b
theorem sQ_len {n F L : Nat} {vs : List Int} {a b x : List UInt8} (ha : a.length = 32) (hb : b.length = 32) (hx : x.length = 32) (i : Nat) : (sQ n F L vs a b x i).length = 32 := by
  unfold sQ
  split
  · exact hx
  · split
    · exact ha
    · exact hb
set_option maxHeartbeats 4000000 in
theorem tallyQuorums_walk (w : World) (f : Int) (hf1 : -9223372036854775808 ≤ f) (hf2 : f < 9223372036854775808) (A : Option Addr) (nv cv : Nat) (vs : List Int) (hv : Nums w A nv vs) (hnc : nv ≤ cv) (hcm : cv ≤ maxLen) (z : Int) (hz1 : -9223372036854775808 ≤ z) (hz2 : z < 9223372036854775808) (a : List UInt8) (ha : a.length = 32) (b : List UInt8) (hb : b.length = 32) :
    Calls Try.prog 5 #[.int .i64 f, .slice A nv cv, .int .i64 z, .agg (a.map by8).toArray, .agg (b.map by8).toArray] w fun e w' => e = .returned (.bool true) ∧ Fr [] w w' := by
  obtain ⟨wa, hwa⟩ : ∃ wa, wa = (w.alloc (Obj.cells (a.map by8).toArray 30)).alloc (Obj.cells (b.map by8).toArray 30) := ⟨_, rfl⟩
  have hf0 : Fr [] w wa := by rw [hwa]; exact ((Fr.refl [] w).alloc _).alloc _
  have hb1 : Blk wa w.heap.size 30 (a.map by8).toArray := by rw [hwa]; exact blk_alloc (Blk.new _ _ _)
  have hb2 : Blk wa (w.heap.size + 1) 30 (b.map by8).toArray := by
    have := Blk.new (w.alloc (Obj.cells (a.map by8).toArray 30)) 30 (b.map by8).toArray
    rw [hwa]
    simpa using this
  have HB1 := Lib.hid hb1
  have HB2 := Lib.hid hb2
  have HWA := Lib.hid hwa
  have HF0 := Lib.hid hf0
  have HV := Lib.hid hv
  have HNC := Lib.hid (And.intro hnc hcm)
  have HA := Lib.hid ha
  have HB := Lib.hid hb
  have hw1 := fun W => within_pos f 21 hf1 hf2 (by omega) (by omega) W
  have HZ := Lib.hid (And.intro hz1 hz2)
  clear hb1 hb2 hwa hf0 hv hnc hcm ha hb hf1 hf2 hz1 hz2
  go_enter Try.func5, Try.ntmps5
  go_upto_region 1 with (fail)
  change Code.wp _ _ _ _ ((w.alloc (Obj.cells (a.map by8).toArray 30)).alloc (Obj.cells (b.map by8).toArray 30))
  rw [← HWA.out]
  go_wp2_with fail
  refine (hw1 wa).mono ?_
  obtain ⟨u, hu⟩ : ∃ u : Nat, f % 21 = (u : Int) := ⟨(f % 21).toNat, by omega⟩
  have HU : Hid (u ≤ 20) := Lib.hid (by omega)
  rw [hu]
  rintro e w1 ⟨rfl, rfl⟩
  clear hu hw1
  obtain ⟨F, hF⟩ : ∃ F : Nat, F = u + 1 := ⟨_, rfl⟩
  have e1 : (1 : Int) + (u : Int) = (F : Int) := by omega
  have HFB : Hid (1 ≤ F ∧ F ≤ 21) := Lib.hid (by have := HU.out; omega)
  have hu64 : (u : Int) < 100 := by have := HU.out; omega
  have HCF : Hid (confB (F : Int) 1 = true) := Lib.hid (by have := HFB.out; unfold confB; simp; omega)
  obtain ⟨n, hn⟩ : ∃ n : Nat, n = 3 * F + 1 := ⟨_, rfl⟩
  have e2 : (3 : Int) * (F : Int) + 1 = (n : Int) := by omega
  have HNF : Hid (n = 3 * F + 1) := Lib.hid hn
  have HEN := Lib.hid e2
  have hcb : Try.prog.built 24 [(0, .int .i64 (1 + (u : Int))), (1, .int .i64 1)] = some #[.int .i64 (F : Int), .int .i64 1] := by rw [e1]; kernel_rfl
  have HA1 : Hid (Fr [] wa wa) := Lib.hid (Fr.refl _ _)
  clear hF hn e1 e2
  go_upto_region 2 with (first
    | (refine wpList_builtg rfl 24 _ rfl _ _ hcb rfl ?_)
    | (refine wpList_store_blk rfl 24 _ _ rfl wa.heap.size #[.int .i64 (F : Int), .int .i64 1] rfl rfl 24 #[.int .i64 0, .int .i64 0] (Blk.new wa _ _) (by kernel_rfl) rfl (by simp [Value.oneCell']) ?_; intro w2 hb3 hf2))
  have HF2 : Hid (Fr [] wa w2) := Lib.hid (((Fr.refl [] wa).alloc _).and hf2 (by simp))
  have HB3 := Lib.hid hb3
  have HG3 : Hid (w.heap.size + 1 < wa.heap.size) := Lib.hid HB2.out.lt
  obtain ⟨g3, hg3⟩ : ∃ g3, g3 = wa.heap.size := ⟨_, rfl⟩
  rw [← hg3] at HB3 HG3 ⊢
  have HG3E := Lib.hid hg3
  clear hg3 hb3 hf2 hcb hu64
  have HNW := Lib.hid (fun W => tn_any (F : Int) 1 (by have := HFB.out; omega) W)
  go_wp2_with (refine wpList_row rfl 24 _ rfl _ _ rfl _ (Blk.range HB3.out) row_conf2 ?_)
  refine (HNW.out w2).mono ?_
  rw [HEN.out]
  rintro e w3 ⟨rfl, hf3⟩
  have HF3 := Lib.hid (HF2.out.and hf3 (by simp))
  have HB33 := Lib.hid (HB3.out.keep hf3 (by simp))
  clear hf3
  go_wp2_with (refine wpList_row rfl 24 _ rfl _ _ rfl _ (Blk.range HB33.out) row_conf2 ?_)
  refine (tnew_ok (F : Int) 1 HCF.out w3).mono ?_
  rw [HEN.out]
  rintro e w4 ⟨S1, g4, rfl, ht4, hf4, hs4⟩
  have HT4 := Lib.hid ht4
  have HS4 := Lib.hid hs4
  have HF4 := Lib.hid (HF3.out.and hf4 (by simp))
  have HB34 := Lib.hid (HB33.out.keep hf4 (by simp))
  have HSZ3 : Hid (g3 < w3.heap.size) := Lib.hid HB33.out.lt
  have HSZ34 : Hid (w3.heap.size ≤ w4.heap.size) := Lib.hid hf4.size
  clear ht4 hf4 hs4
  go_wp2_with (refine wpList_row rfl 24 _ rfl _ _ rfl _ (Blk.range HB34.out) row_conf2 ?_)
  refine (tnew_ok (F : Int) 1 HCF.out w4).mono ?_
  rw [HEN.out]
  rintro e w5 ⟨S2, g5, rfl, ht5, hf5, hs5⟩
  have HT5 := Lib.hid ht5
  have HS5 := Lib.hid hs5
  have HF5 := Lib.hid (HF4.out.and hf5 (by simp))
  have HB35 := Lib.hid (HB34.out.keep hf5 (by simp))
  have HT45 := Lib.hid (HT4.out.keep hf5 (by simp))
  have HL4 : Hid (∀ y ∈ S1, y < w4.heap.size) := Lib.hid HT4.out.lt
  have HD12 : Hid (∀ y ∈ S1, ¬ y ∈ S2) := Lib.hid (fun y h1 h2 => by have := HL4.out y h1; have := HS5.out y h2; omega)
  clear ht5 hf5 hs5
  have HB15 := Lib.hid (HB1.out.keep HF5.out (by simp))
  have HB25 := Lib.hid (HB2.out.keep HF5.out (by simp))
  have hq := fun W => eql_hash a b HA.out HB.out 9998 W
  obtain ⟨q, hqq⟩ : ∃ q, q = decide (a = b) := ⟨_, rfl⟩
  rw [← hqq] at hq
  have HQ := Lib.hid hqq
  clear hqq
  go_upto_region 7 with (fail)
  obtain ⟨gb, hgb⟩ : ∃ gb, gb = w.heap.size + 1 := ⟨_, rfl⟩
  rw [← hgb] at HB25 ⊢
  have HGB := Lib.hid hgb
  clear hgb
  obtain ⟨ga, hga⟩ : ∃ ga, ga = w.heap.size := ⟨_, rfl⟩
  rw [← hga] at HB15 ⊢
  have HGA := Lib.hid hga
  clear hga
  have HR15 : Hid (w5.rangeAt ga 0 (a.map by8)) := Lib.hid HB15.out.range
  have HR25 : Hid (w5.rangeAt gb 0 (b.map by8)) := Lib.hid HB25.out.range
  have HRA : Hid (RowTy Try.prog 30 (a.map by8).length) := Lib.hid (row_hash.of (by rw [List.length_map]; exact HA.out))
  have HRB : Hid (RowTy Try.prog 30 (b.map by8).length) := Lib.hid (row_hash.of (by rw [List.length_map]; exact HB.out))
  have HGL : Hid (ga < wa.heap.size ∧ gb < wa.heap.size ∧ ga ≠ gb) := Lib.hid (by have h1 := HB1.out.lt; have h2 := HB2.out.lt; rw [← HGA.out] at h1; rw [← HGB.out] at h2; have := HGA.out; have := HGB.out; omega)
  have HSW : Hid (wa.heap.size ≤ w3.heap.size ∧ wa.heap.size ≤ w4.heap.size ∧ wa.heap.size ≤ w5.heap.size) := Lib.hid ⟨HF3.out.size, HF4.out.size, HF5.out.size⟩
  cases q with
  | false =>
    go_wp2_with (first | (refine wpList_row rfl 30 (.tmp 9) rfl gb 0 rfl (b.map by8) HR25.out HRB.out ?_) | (refine wpList_row rfl 30 (.tmp 8) rfl ga 0 rfl (a.map by8) HR15.out HRA.out ?_))
    obtain ⟨a2, ha2⟩ : ∃ a2, a2 = a := ⟨_, rfl⟩
    have HL2 : Hid (a2.length = 32) := Lib.hid (by rw [ha2]; exact HA.out)
    have HNE2 : Hid (a2 ≠ b) := Lib.hid (by rw [ha2]; exact of_decide_eq_false HQ.out.symm)
    obtain ⟨wx, hwx⟩ : ∃ wx, wx = w5 := ⟨_, rfl⟩
    have HBA : Hid (Blk wx ga 30 (a2.map by8).toArray) := Lib.hid (by rw [hwx, ha2]; exact HB15.out)
    have HFX : Hid (Fr [ga] w5 wx) := Lib.hid (by rw [hwx]; exact Fr.refl _ _)
    rw [← hwx]
    clear ha2 hq hwx
    have hwz := within_pos z (n : Int) HZ.out.1 HZ.out.2 (by have := HNF.out; omega) (by have := HNF.out; have := HFB.out; omega) wx
    obtain ⟨L, hL⟩ : ∃ L : Nat, z % (n : Int) = (L : Int) := ⟨(z % (n : Int)).toNat, by have := Int.emod_nonneg z (b := (n : Int)) (by have := HNF.out; omega); omega⟩
    have HLN : Hid (L < n) := Lib.hid (by have := Int.emod_lt_of_pos z (b := (n : Int)) (by have := HNF.out; omega); omega)
    rw [hL] at hwz
    refine hwz.mono ?_
    rintro e w6 ⟨rfl, rfl⟩
    clear hwz hL
    have HT46 : Hid (Tl wx S1 g4 n []) := Lib.hid (HT45.out.keep HFX.out (by intro y hy; have h1 := HS4.out y hy; have h2 := HGL.out; have h3 := HSW.out; simp; omega))
    have HT56 : Hid (Tl wx S2 g5 n []) := Lib.hid (HT5.out.keep HFX.out (by intro y hy; have h1 := HS5.out y hy; have h2 := HGL.out; have h3 := HSW.out; simp; omega))
    have HB36 := Lib.hid (HB35.out.keep HFX.out (by have := HGL.out; have := HG3E.out; simp; omega))
    have HBb := Lib.hid (HB25.out.keep HFX.out (by have := HGL.out; simp; omega))
    have HFW : Hid (Fr [] w wx) := Lib.hid ((HF0.out.and HF5.out (by simp)).and HFX.out (by have := HGA.out; simp; omega))
    have HN64 : Hid (n ≤ 64) := Lib.hid (by have := HNF.out; have := HFB.out; omega)
    have HS12 : Hid ((∀ y ∈ S1, w.heap.size ≤ y ∧ y ≠ ga ∧ y ≠ gb ∧ y ≠ g3) ∧ (∀ y ∈ S2, w.heap.size ≤ y ∧ y ≠ ga ∧ y ≠ gb ∧ y ≠ g3)) := Lib.hid (by
      have h2 := HGL.out
      have h3 := HSW.out
      have h4 := HG3E.out
      have h5 := HF0.out.size
      have h6 := HSZ3.out
      refine ⟨fun y hy => ?_, fun y hy => ?_⟩
      · have h1 := HS4.out y hy
        omega
      · have h1 := HS5.out y hy
        have h7 := HF4.out.size
        have h8 : w3.heap.size ≤ w4.heap.size := HSZ34.out
        omega)
    clear HT4 HT5 HT45 HB35 HB25 HB1 HB2 HFX HF2 HF3 HF4 HF5 HB15 HB3 HB33 HB34 HR15 HR25 HRA HRB
    obtain ⟨sv, hsv⟩ : ∃ sv, sv = sQ n F L vs a2 b a2 := ⟨_, rfl⟩
    obtain ⟨tv, htv⟩ : ∃ tv, tv = sQ n F L vs a2 b b := ⟨_, rfl⟩
    have HSV : Hid (∀ i, (sv i).length = 32) := Lib.hid (by rw [hsv]; exact sQ_len HL2.out HB.out HL2.out)
    have HTV : Hid (∀ i, (tv i).length = 32) := Lib.hid (by rw [htv]; exact sQ_len HL2.out HB.out HB.out)
    have HSVE := Lib.hid hsv
    have HTVE := Lib.hid htv
    clear hsv htv
    have HRA2 : Hid (RowTy Try.prog 30 (a2.map by8).length) := Lib.hid (row_hash.of (by rw [List.length_map]; exact HL2.out))
    have HRB2 : Hid (RowTy Try.prog 30 (b.map by8).length) := Lib.hid (row_hash.of (by rw [List.length_map]; exact HB.out))
    have HOKs : Hid (∀ k, k ≤ n → TOk (n : Int) (genV 1 3 sv k)) := Lib.hid (fun k hk => ⟨genV_gd (.inl rfl) (by omega) sv HSV.out k (by omega), by have := HN64.out; omega, by rw [genV_len]; have := HN64.out; omega⟩)
    have HOKt : Hid (∀ k, k ≤ n → TOk (n : Int) (genV 1 3 tv k)) := Lib.hid (fun k hk => ⟨genV_gd (.inl rfl) (by omega) tv HTV.out k (by omega), by have := HN64.out; omega, by rw [genV_len]; have := HN64.out; omega⟩)
    have hn64 : (n : Int) ≤ 64 := by have := HN64.out; omega
    have hL64 : (L : Int) < 64 := by have := HN64.out; have := HLN.out; omega
    have HADs : Hid (∀ (W : World) (k : Nat), k < n → Tl W S1 g4 n (genV 1 3 sv k) → Calls Try.prog 10 #[.pointer (some ⟨g4, 0, none⟩), .int .i64 1, .int .i64 3, .int .i64 k, .agg ((sv k).map by8).toArray] W fun e w' => e = .returned (.bool true) ∧ Tl w' S1 g4 n (genV 1 3 sv (k + 1)) ∧ Fr S1 W w') := Lib.hid (fun W k hk ht => by
      have h1 := genV_add (n := (n : Int)) (q := 1) (r := 3) (.inl rfl) (by omega) sv k (by omega)
      have h2 := tadd_any W S1 g4 n _ ht (HOKs.out k (by omega)) 1 3 k (sv k) (HSV.out k)
      rw [h1.1, h1.2] at h2
      exact h2)
    have HADt : Hid (∀ (W : World) (k : Nat), k < n → Tl W S2 g5 n (genV 1 3 tv k) → Calls Try.prog 10 #[.pointer (some ⟨g5, 0, none⟩), .int .i64 1, .int .i64 3, .int .i64 k, .agg ((tv k).map by8).toArray] W fun e w' => e = .returned (.bool true) ∧ Tl w' S2 g5 n (genV 1 3 tv (k + 1)) ∧ Fr S2 W w') := Lib.hid (fun W k hk ht => by
      have h1 := genV_add (n := (n : Int)) (q := 1) (r := 3) (.inl rfl) (by omega) tv k (by omega)
      have h2 := tadd_any W S2 g5 n _ ht (HOKt.out k (by omega)) 1 3 k (tv k) (HTV.out k)
      rw [h1.1, h1.2] at h2
      exact h2)
    go_wp2_with fail
    go_loopw [17] (fun s17 wr => ∃ k : Nat, k ≤ n ∧ s17 = .int .i64 k ∧ Tl wr S1 g4 n (genV 1 3 sv k) ∧ Tl wr S2 g5 n (genV 1 3 tv k) ∧ Blk wr ga 30 (a2.map by8).toArray ∧ Blk wr gb 30 (b.map by8).toArray ∧ Blk wr g3 24 #[.int .i64 (F : Int), .int .i64 1] ∧ Fr [] w wr) (fun s17 _ => n - (intOf s17).toNat)
    case atStart => exact ⟨0, by omega, rfl, HT46.out, HT56.out, HBA.out, HBb.out, HB36.out, HFW.out⟩
    case round =>
      obtain ⟨k, hk, rfl, h1, h2, h3, h4, h5, h6⟩ := hrel
      have HTs := Lib.hid h1
      have HTt := Lib.hid h2
      have HBa := Lib.hid h3
      have HBbr := Lib.hid h4
      have HBc := Lib.hid h5
      have HFr := Lib.hid h6
      clear h1 h2 h3 h4 h5 h6
      by_cases hlt : k < n
      · obtain ⟨vv, hvv⟩ : ∃ vv, vv = vs.getD k 0 := ⟨_, rfl⟩
        have HVV := Lib.hid hvv
        clear hvv
        have hk64 : (k : Int) < 64 := by have := HN64.out; omega
        have hk0 : (0 : Int) ≤ k := by omega
        have HVL : Hid (k < nv → ∃ ad, A = some ad ∧ wr.cell? (ad.add k) = some (.int .i64 vv)) := Lib.hid (fun h => by
          obtain ⟨ad, e, hc⟩ := HV.out.2.2 (by omega)
          have hl : k < vs.length := by rw [HV.out.1]; exact h
          have h2 := hc k _ (List.getElem?_eq_getElem hl)
          have h3 : vs.getD k 0 = vs[k] := by simp [List.getD_eq_getElem?_getD, hl]
          exact ⟨ad, e, by rw [HVV.out, h3]; exact HFr.out.cell h2 (by simp)⟩)
        have HV0 : Hid (¬ k < nv → vv = 0) := Lib.hid (fun h => by rw [HVV.out, List.getD_eq_getElem?_getD, List.getElem?_eq_none (by rw [HV.out.1]; omega)]; rfl)
        go_upto_region 14 with (fail)
        go_upto_if 68 with (fail)
        go_cut [18] (fun s18 wy => s18 = .int .i64 vv ∧ wr = wy)
        case first =>
          by_cases hkv : k < nv
          · obtain ⟨ad, rfl, hcell⟩ := HVL.out hkv
            go_wp2_with fail
            go_meet
            exact ⟨rfl, rfl⟩
          · have hd : decide (k < nv) = false := decide_eq_false hkv
            have e := HV0.out hkv
            go_wp2_with fail
            go_meet
            exact ⟨by rw [HV0.out hkv], rfl⟩
        case rest =>
          obtain ⟨rfl, rfl⟩ := hcut
          have c0 : wr.cell? ⟨g3, 0, none⟩ = some (.int .i64 (F : Int)) := (HBc.out.cell 0).trans rfl
          have hwr : IntKind.i64.wrap ((k : Int) + (L : Int)) = (k : Int) + (L : Int) := by rw [IntKind.wrap_i64]; omega
          obtain ⟨m, hm⟩ : ∃ m, m = (k + L) % n := ⟨_, rfl⟩
          have hrem : ((k : Int) + (L : Int)).tmod (n : Int) = (m : Int) := by
            rw [hm, Int.tmod_eq_emod_of_nonneg (by omega)]
            push_cast
            rfl
          have hne : (n = 0) = False := eq_false (by have := HLN.out; omega)
          have hm64 : (m : Int) < 64 := by have := Nat.mod_lt (k + L) (show 0 < n by have := HLN.out; omega); have := HN64.out; omega
          have HM := Lib.hid hm
          clear hm
          go_upto_region 16 with (fail)
          refine wp_region_held_drew (S := Fr [] wr) (by kernel_rfl) (Fr.drew (Fr.refl _ wr)) (fun hHeld => ?_)
          refine run_at (i := 0) (v := ?_) rfl (by kernel_rfl) (by rfl) (fun _ _ _ h => h) hHeld (fun w1 hw1 => ?_) ?_
          rotate_left 1
          · skip
            go_simp
            (try (first | with_reducible rfl | (apply And.intro <;> rfl)))
          simp only [Act.put, List.setIfInBounds_toArray, List.set_cons_zero, List.set_cons_succ]
          refine run_at (i := 1) (v := ?_) rfl (by kernel_rfl) (by rfl) (fun _ _ _ h => h) hHeld (fun w1 hw1 => ?_) ?_
          rotate_left 1
          · skip
            go_simp
            (try (first | with_reducible rfl | (apply And.intro <;> rfl)))
          simp only [Act.put, List.setIfInBounds_toArray, List.set_cons_zero, List.set_cons_succ]
          refine run_at (i := 2) (v := ?_) rfl (by kernel_rfl) (by rfl) (fun _ _ _ h => h) hHeld (fun w1 hw1 => ?_) ?_
          rotate_left 1
          · skip
            go_simp
            (try (first | with_reducible rfl | (apply And.intro <;> rfl)))
          simp only [Act.put, List.setIfInBounds_toArray, List.set_cons_zero, List.set_cons_succ]
          refine run_at (i := 3) (v := ?_) rfl (by kernel_rfl) (by rfl) (fun _ _ _ h => h) hHeld (fun w1 hw1 => ?_) ?_
          rotate_left 1
          · skip
            go_simp
            (try (first | with_reducible rfl | (apply And.intro <;> rfl)))
          simp only [Act.put, List.setIfInBounds_toArray, List.set_cons_zero, List.set_cons_succ]
          refine run_at (i := 4) (v := ?_) rfl (by kernel_rfl) (by rfl) (fun _ _ _ h => h) hHeld (fun w1 hw1 => ?_) ?_
          rotate_left 1
          · skip
            go_simp
            (try (first | with_reducible rfl | (apply And.intro <;> rfl)))
          simp only [Act.put, List.setIfInBounds_toArray, List.set_cons_zero, List.set_cons_succ]
          refine run_at (i := 5) (v := ?_) rfl (by kernel_rfl) (by rfl) (fun _ _ _ h => h) hHeld (fun w1 hw1 => ?_) ?_
          rotate_left 1
          · skip
            go_simp
            (try (first | with_reducible rfl | (apply And.intro <;> rfl)))
          simp only [Act.put, List.setIfInBounds_toArray, List.set_cons_zero, List.set_cons_succ]
          refine run_at (i := 6) (v := ?_) rfl (by kernel_rfl) (by rfl) (fun _ _ _ h => h) hHeld (fun w1 hw1 => ?_) ?_
          rotate_left 1
          · skip
            have hcw0 := hw1.cell (c0) (by first | (simp; done) | exact HNS.out | exact HNW.out | (intro hm; have hlt := HSB.out _ hm; (try dsimp only at hlt); omega))
            go_simp
            (try (first | with_reducible rfl | (apply And.intro <;> rfl)))
          simp only [Act.put, List.setIfInBounds_toArray, List.set_cons_zero, List.set_cons_succ]
          refine run_at (i := 7) (v := ?_) rfl (by kernel_rfl) (by rfl) (fun _ _ _ h => h) hHeld (fun w1 hw1 => ?_) ?_
          rotate_left 1
          · skip
            go_simp
            (try (first | with_reducible rfl | (apply And.intro <;> rfl)))
          simp only [Act.put, List.setIfInBounds_toArray, List.set_cons_zero, List.set_cons_succ]
          refine wpAnyH_done (by kernel_rfl) ?_ _
          have HTs := Lib.hid (HTs.out.keep hHeld (by simp))
          have HTt := Lib.hid (HTt.out.keep hHeld (by simp))
          have HBa := Lib.hid (HBa.out.keep hHeld (by simp))
          have HBbr := Lib.hid (HBbr.out.keep hHeld (by simp))
          have HBc := Lib.hid (HBc.out.keep hHeld (by simp))
          have HFr := Lib.hid (HFr.out.and hHeld (by simp))
          generalize wr.drew = wd at *
          clear hHeld hwr hrem hne c0
          by_cases hl : m < F
          · have hd : decide (m < F) = true := decide_eq_true hl
            have es : sv k = a2 := by rw [HSVE.out]; unfold sQ; rw [if_pos (by rw [← HM.out]; exact hl)]
            have et : tv k = b := by rw [HTVE.out]; unfold sQ; rw [if_pos (by rw [← HM.out]; exact hl)]
            have hADs := HADs.out wd k hlt HTs.out
            rw [es] at hADs
            have hADt := fun W h => HADt.out W k hlt h
            rw [et] at hADt
            have HADs2 := Lib.hid hADs
            have HADt2 := Lib.hid hADt
            clear hADs hADt es et
            go_wp2_with (refine wpList_row rfl 30 _ rfl ga 0 rfl (a2.map by8) HBa.out.range HRA2.out ?_)
            refine HADs2.out.mono ?_
            rintro e wy ⟨rfl, h1, h2⟩
            have HTs2 := Lib.hid h1
            have HTt2 := Lib.hid (HTt.out.keep h2 (fun y hy hm => HD12.out y hm hy))
            have HBa2 := Lib.hid (HBa.out.keep h2 (fun hm => (HS12.out.1 _ hm).2.1 rfl))
            have HBb2 := Lib.hid (HBbr.out.keep h2 (fun hm => (HS12.out.1 _ hm).2.2.1 rfl))
            have HBc2 := Lib.hid (HBc.out.keep h2 (fun hm => (HS12.out.1 _ hm).2.2.2 rfl))
            have HF2r := Lib.hid (HFr.out.and h2 (fun y hy => (HS12.out.1 y hy).1))
            clear h1 h2
            go_wp2_with (refine wpList_row rfl 30 _ rfl gb 0 rfl (b.map by8) HBb2.out.range HRB2.out ?_)
            refine (HADt2.out wy HTt2.out).mono ?_
            rintro e wz ⟨rfl, h1, h2⟩
            have HTt3 := Lib.hid h1
            have HTs3 := Lib.hid (HTs2.out.keep h2 (fun y hy hm => HD12.out y hy hm))
            have HBa3 := Lib.hid (HBa2.out.keep h2 (fun hm => (HS12.out.2 _ hm).2.1 rfl))
            have HBb3 := Lib.hid (HBb2.out.keep h2 (fun hm => (HS12.out.2 _ hm).2.2.1 rfl))
            have HBc3 := Lib.hid (HBc2.out.keep h2 (fun hm => (HS12.out.2 _ hm).2.2.2 rfl))
            have HF3r := Lib.hid (HF2r.out.and h2 (fun y hy => (HS12.out.2 y hy).1))
            clear h1 h2
            go_wp2_with fail
            go_roundw
            case rel => exact ⟨k + 1, by omega, by go_num, HTs3.out, HTt3.out, HBa3.out, HBb3.out, HBc3.out, HF3r.out⟩
            case measure => simp [intOf]; omega
          · have hd : decide (m < F) = false := decide_eq_false hl
            by_cases hev : vv.tmod 2 = 0
            · have hbe : (vv.tmod 2 == 0) = true := by simpa using hev
              have es : sv k = a2 := by rw [HSVE.out]; unfold sQ; rw [if_neg (by rw [← HM.out]; exact hl), if_pos (by rw [← HVV.out]; exact hev)]
              have et : tv k = a2 := by rw [HTVE.out]; unfold sQ; rw [if_neg (by rw [← HM.out]; exact hl), if_pos (by rw [← HVV.out]; exact hev)]
              have hADs := HADs.out wd k hlt HTs.out
              rw [es] at hADs
              have hADt := fun W h => HADt.out W k hlt h
              rw [et] at hADt
              have HADs2 := Lib.hid hADs
              have HADt2 := Lib.hid hADt
              clear hADs hADt es et
              go_wp2_with (refine wpList_row rfl 30 _ rfl ga 0 rfl (a2.map by8) HBa.out.range HRA2.out ?_)
              refine HADs2.out.mono ?_
              rintro e wy ⟨rfl, h1, h2⟩
              have HTs2 := Lib.hid h1
              have HTt2 := Lib.hid (HTt.out.keep h2 (fun y hy hm => HD12.out y hm hy))
              have HBa2 := Lib.hid (HBa.out.keep h2 (fun hm => (HS12.out.1 _ hm).2.1 rfl))
              have HBb2 := Lib.hid (HBbr.out.keep h2 (fun hm => (HS12.out.1 _ hm).2.2.1 rfl))
              have HBc2 := Lib.hid (HBc.out.keep h2 (fun hm => (HS12.out.1 _ hm).2.2.2 rfl))
              have HF2r := Lib.hid (HFr.out.and h2 (fun y hy => (HS12.out.1 y hy).1))
              clear h1 h2
              go_wp2_with (refine wpList_row rfl 30 _ rfl ga 0 rfl (a2.map by8) HBa2.out.range HRA2.out ?_)
              refine (HADt2.out wy HTt2.out).mono ?_
              rintro e wz ⟨rfl, h1, h2⟩
              have HTt3 := Lib.hid h1
              have HTs3 := Lib.hid (HTs2.out.keep h2 (fun y hy hm => HD12.out y hy hm))
              have HBa3 := Lib.hid (HBa2.out.keep h2 (fun hm => (HS12.out.2 _ hm).2.1 rfl))
              have HBb3 := Lib.hid (HBb2.out.keep h2 (fun hm => (HS12.out.2 _ hm).2.2.1 rfl))
              have HBc3 := Lib.hid (HBc2.out.keep h2 (fun hm => (HS12.out.2 _ hm).2.2.2 rfl))
              have HF3r := Lib.hid (HF2r.out.and h2 (fun y hy => (HS12.out.2 y hy).1))
              clear h1 h2
              go_wp2_with fail
              go_roundw
              case rel => exact ⟨k + 1, by omega, by go_num, HTs3.out, HTt3.out, HBa3.out, HBb3.out, HBc3.out, HF3r.out⟩
              case measure => simp [intOf]; omega
            · have hbe : (vv.tmod 2 == 0) = false := by simpa using hev
              have es : sv k = b := by rw [HSVE.out]; unfold sQ; rw [if_neg (by rw [← HM.out]; exact hl), if_neg (by rw [← HVV.out]; exact hev)]
              have et : tv k = b := by rw [HTVE.out]; unfold sQ; rw [if_neg (by rw [← HM.out]; exact hl), if_neg (by rw [← HVV.out]; exact hev)]
              have hADs := HADs.out wd k hlt HTs.out
              rw [es] at hADs
              have hADt := fun W h => HADt.out W k hlt h
              rw [et] at hADt
              have HADs2 := Lib.hid hADs
              have HADt2 := Lib.hid hADt
              clear hADs hADt es et
              go_wp2_with (refine wpList_row rfl 30 _ rfl gb 0 rfl (b.map by8) HBbr.out.range HRB2.out ?_)
              refine HADs2.out.mono ?_
              rintro e wy ⟨rfl, h1, h2⟩
              have HTs2 := Lib.hid h1
              have HTt2 := Lib.hid (HTt.out.keep h2 (fun y hy hm => HD12.out y hm hy))
              have HBa2 := Lib.hid (HBa.out.keep h2 (fun hm => (HS12.out.1 _ hm).2.1 rfl))
              have HBb2 := Lib.hid (HBbr.out.keep h2 (fun hm => (HS12.out.1 _ hm).2.2.1 rfl))
              have HBc2 := Lib.hid (HBc.out.keep h2 (fun hm => (HS12.out.1 _ hm).2.2.2 rfl))
              have HF2r := Lib.hid (HFr.out.and h2 (fun y hy => (HS12.out.1 y hy).1))
              clear h1 h2
              go_wp2_with (refine wpList_row rfl 30 _ rfl gb 0 rfl (b.map by8) HBb2.out.range HRB2.out ?_)
              refine (HADt2.out wy HTt2.out).mono ?_
              rintro e wz ⟨rfl, h1, h2⟩
              have HTt3 := Lib.hid h1
              have HTs3 := Lib.hid (HTs2.out.keep h2 (fun y hy hm => HD12.out y hy hm))
              have HBa3 := Lib.hid (HBa2.out.keep h2 (fun hm => (HS12.out.2 _ hm).2.1 rfl))
              have HBb3 := Lib.hid (HBb2.out.keep h2 (fun hm => (HS12.out.2 _ hm).2.2.1 rfl))
              have HBc3 := Lib.hid (HBc2.out.keep h2 (fun hm => (HS12.out.2 _ hm).2.2.2 rfl))
              have HF3r := Lib.hid (HF2r.out.and h2 (fun y hy => (HS12.out.2 y hy).1))
              clear h1 h2
              go_wp2_with fail
              go_roundw
              case rel => exact ⟨k + 1, by omega, by go_num, HTs3.out, HTt3.out, HBa3.out, HBb3.out, HBc3.out, HF3r.out⟩
              case measure => simp [intOf]; omega
      · have hkn : k = n := by omega
        have hdn : decide (k < n) = false := decide_eq_false hlt
        rw [hkn] at HTs HTt
        have HQU := Lib.hid (fun W => tquorum_any (F : Int) 1 (by have := HFB.out; omega) W)
        have hQ64 : (F : Int) < 64 := by have := HFB.out; omega
        have HXY : Hid (¬ (2 * (F : Int) + 1 ≤ ((cntH (genV 1 3 sv n) 1 3 a2 : Nat) : Int) ∧ 2 * (F : Int) + 1 ≤ ((cntH (genV 1 3 tv n) 1 3 b : Nat) : Int))) := Lib.hid (by
          rw [genV_for, genV_for]
          have h1 := both_le n sv tv (fun i => decide ((i + L) % n < F)) a2 b HNE2.out (fun i hi => by
            have hi' := of_decide_eq_false hi
            rw [HSVE.out, HTVE.out]
            unfold sQ
            rw [if_neg hi', if_neg hi'])
          have h2 := liars_le F n L (by have := HNF.out; omega) HLN.out n (Nat.le_refl _)
          have h3 := HNF.out
          have h4 := HLN.out
          omega)
        have HXB : Hid (cntH (genV 1 3 sv n) 1 3 a2 ≤ n ∧ cntH (genV 1 3 tv n) 1 3 b ≤ n) := Lib.hid ⟨by have h := cntH_le (genV 1 3 sv n) 1 3 a2; rw [genV_len] at h; exact h, by have h := cntH_le (genV 1 3 tv n) 1 3 b; rw [genV_len] at h; exact h⟩
        go_wp2_with (refine wpList_row rfl 24 _ rfl _ _ rfl _ (Blk.range HBc.out) row_conf2 ?_)
        refine (HQU.out wr).mono ?_
        rintro e w7 ⟨rfl, hf7⟩
        have HTs7 := Lib.hid (HTs.out.keep hf7 (by simp))
        have HTt7 := Lib.hid (HTt.out.keep hf7 (by simp))
        have HBa7 := Lib.hid (HBa.out.keep hf7 (by simp))
        have HBb7 := Lib.hid (HBbr.out.keep hf7 (by simp))
        have HFr7 := Lib.hid (HFr.out.and hf7 (by simp))
        clear hf7
        have hnn : ((n : Int) != (n : Int)) = false := by simp
        have HAs : Hid (∀ W, Tl W S1 g4 n (genV 1 3 sv n) → Calls Try.prog 9 #[.pointer (some ⟨g4, 0, none⟩), .int .i64 1, .int .i64 3] W fun e w' => e = .returned (.int .i64 (n : Int)) ∧ W = w') := Lib.hid (fun W h => by
          have h2 := all_any W S1 g4 n _ h (HOKs.out n (Nat.le_refl _)) 1 3 ⟨by omega, by omega⟩ ⟨by omega, by omega⟩
          rw [genV_all] at h2
          exact h2)
        have HAt : Hid (∀ W, Tl W S2 g5 n (genV 1 3 tv n) → Calls Try.prog 9 #[.pointer (some ⟨g5, 0, none⟩), .int .i64 1, .int .i64 3] W fun e w' => e = .returned (.int .i64 (n : Int)) ∧ W = w') := Lib.hid (fun W h => by
          have h2 := all_any W S2 g5 n _ h (HOKt.out n (Nat.le_refl _)) 1 3 ⟨by omega, by omega⟩ ⟨by omega, by omega⟩
          rw [genV_all] at h2
          exact h2)
        have HHs : Hid (∀ W, Tl W S1 g4 n (genV 1 3 sv n) → Calls Try.prog 14 #[.pointer (some ⟨g4, 0, none⟩), .int .i64 0] W fun e w' => e = .returned (.int .i64 (n : Int)) ∧ W = w') := Lib.hid (fun W h => by
          have h2 := heard_any W S1 g4 n _ h 0
          rw [genV_heard (by omega) _ _ HN64.out, if_pos (by omega)] at h2
          exact h2)
        have HFs := Lib.hid (fun W (h : Tl W S1 g4 n (genV 1 3 sv n)) => for_any W S1 g4 n _ h 1 3 ⟨by omega, by omega⟩ ⟨by omega, by omega⟩ a2 HL2.out)
        have HFt := Lib.hid (fun W (h : Tl W S2 g5 n (genV 1 3 tv n)) => for_any W S2 g5 n _ h 1 3 ⟨by omega, by omega⟩ ⟨by omega, by omega⟩ b HB.out)
        generalize cntH (genV 1 3 sv n) 1 3 a2 = X at *
        generalize cntH (genV 1 3 tv n) 1 3 b = Y at *
        have hX64 : (X : Int) ≤ 64 := by have := HXB.out; have := HN64.out; omega
        have hY64 : (Y : Int) ≤ 64 := by have := HXB.out; have := HN64.out; omega
        clear hkn hdn hlt
        go_wp2_with fail
        refine (HAs.out w7 HTs7.out).mono ?_
        rintro e w8 ⟨rfl, rfl⟩
        go_wp2_with fail
        refine (HAt.out w7 HTt7.out).mono ?_
        rintro e w8 ⟨rfl, rfl⟩
        go_wp2_with fail
        refine (HHs.out w7 HTs7.out).mono ?_
        rintro e w8 ⟨rfl, rfl⟩
        go_wp2_with (refine wpList_row rfl 30 _ rfl ga 0 rfl (a2.map by8) HBa7.out.range HRA2.out ?_)
        refine (HFs.out w7 HTs7.out).mono ?_
        rintro e w8 ⟨rfl, hf8⟩
        have HTt8 := Lib.hid (HTt7.out.keep hf8 (by simp))
        have HBb8 := Lib.hid (HBb7.out.keep hf8 (by simp))
        have HFr8 := Lib.hid (HFr7.out.and hf8 (by simp))
        clear hf8
        by_cases hX : 2 * (F : Int) + 1 ≤ (X : Int)
        · have hdX : decide (2 * (F : Int) + 1 ≤ (X : Int)) = true := decide_eq_true hX
          have hdY : decide (2 * (F : Int) + 1 ≤ (Y : Int)) = false := decide_eq_false (fun h => HXY.out ⟨hX, h⟩)
          go_wp2_with (refine wpList_row rfl 30 _ rfl gb 0 rfl (b.map by8) HBb8.out.range HRB2.out ?_)
          refine (HFt.out w8 HTt8.out).mono ?_
          rintro e w9 ⟨rfl, hf9⟩
          have HFr9 := Lib.hid (HFr8.out.and hf9 (by simp))
          clear hf9
          go_wp2_with fail
          refine (twakes_any w9).mono ?_
          rintro e w10 ⟨rfl, hf10⟩
          have HFr10 := Lib.hid (HFr9.out.and hf10 (by simp))
          clear hf10
          go_wp2_with fail
          go_ret
          exact ⟨rfl, HFr10.out⟩
        · have hdX : decide (2 * (F : Int) + 1 ≤ (X : Int)) = false := decide_eq_false hX
          go_wp2_with fail
          refine (twakes_any w8).mono ?_
          rintro e w10 ⟨rfl, hf10⟩
          have HFr10 := Lib.hid (HFr8.out.and hf10 (by simp))
          clear hf10
          go_wp2_with fail
          go_ret
          exact ⟨rfl, HFr10.out⟩
  | true =>
    obtain ⟨x, al, hxa⟩ : ∃ x al, a = x :: al := by
      cases a with
      | nil => exact absurd HA.out (by simp)
      | cons x al => exact ⟨x, al, rfl⟩
    have x0 : w5.cell? ⟨ga, 0, none⟩ = some (.int .u8 (x.toNat : Int)) := by
      have := HB15.out.cell 0
      rw [hxa] at this
      simpa [by8] using this
    have hsc := u8_succ x
    have HB26 := HB15.out.set 0 (by8 (x + 1))
    have e26 : (a.map by8).toArray.setIfInBounds 0 (by8 (x + 1)) = (((x + 1) :: al).map by8).toArray := by rw [hxa]; simp
    rw [e26] at HB26
    obtain ⟨a2, ha2⟩ : ∃ a2, a2 = (x + 1) :: al := ⟨_, rfl⟩
    rw [← ha2] at HB26
    have HL2 : Hid (a2.length = 32) := Lib.hid (by have := HA.out; rw [hxa] at this; rw [ha2]; simpa using this)
    have HNE2 : Hid (a2 ≠ b) := Lib.hid (by
      have h1 := of_decide_eq_true HQ.out.symm
      rw [← h1, ha2, hxa]
      intro h
      injection h with h _
      have h3 : (x + 1).toNat = x.toNat := by rw [h]
      rw [UInt8.toNat_add] at h3
      have := x.toNat_lt
      simp at h3
      omega)
    have HBA := Lib.hid HB26
    have HFX : Hid (Fr [ga] w5 (w5.setCell ⟨ga, 0, none⟩ (by8 (x + 1)))) := Lib.hid ((Fr.refl [ga] w5).setCell _ (by simp) _)
    have HSZ5 : Hid ((a.map by8).toArray.size = 32) := Lib.hid (by rw [List.size_toArray, List.length_map]; exact HA.out)
    clear ha2 HB26 e26 hxa
    go_wp2_with (first | (refine wpList_row rfl 30 (.tmp 9) rfl gb 0 rfl (b.map by8) HR25.out HRB.out ?_) | (refine wpList_row rfl 30 (.tmp 8) rfl ga 0 rfl (a.map by8) HR15.out HRA.out ?_) | refine wpList_plain rfl (fun K hK => wp_store_cell1 5 _ _ rfl ga 0 (by8 (x + 1)) rfl rfl rfl 30 _ HB15.out (by rw [HSZ5.out]; omega) (by kernel_rfl) (hK _ _ ?_)))
    change Calls _ _ _ (w5.setCell ⟨ga, 0, none⟩ (by8 (x + 1))) _
    clear hq hsc x0
    generalize w5.setCell ⟨ga, 0, none⟩ (by8 (x + 1)) = wx at *
    have hwz := within_pos z (n : Int) HZ.out.1 HZ.out.2 (by have := HNF.out; omega) (by have := HNF.out; have := HFB.out; omega) wx
    obtain ⟨L, hL⟩ : ∃ L : Nat, z % (n : Int) = (L : Int) := ⟨(z % (n : Int)).toNat, by have := Int.emod_nonneg z (b := (n : Int)) (by have := HNF.out; omega); omega⟩
    have HLN : Hid (L < n) := Lib.hid (by have := Int.emod_lt_of_pos z (b := (n : Int)) (by have := HNF.out; omega); omega)
    rw [hL] at hwz
    refine hwz.mono ?_
    rintro e w6 ⟨rfl, rfl⟩
    clear hwz hL
    have HT46 : Hid (Tl wx S1 g4 n []) := Lib.hid (HT45.out.keep HFX.out (by intro y hy; have h1 := HS4.out y hy; have h2 := HGL.out; have h3 := HSW.out; simp; omega))
    have HT56 : Hid (Tl wx S2 g5 n []) := Lib.hid (HT5.out.keep HFX.out (by intro y hy; have h1 := HS5.out y hy; have h2 := HGL.out; have h3 := HSW.out; simp; omega))
    have HB36 := Lib.hid (HB35.out.keep HFX.out (by have := HGL.out; have := HG3E.out; simp; omega))
    have HBb := Lib.hid (HB25.out.keep HFX.out (by have := HGL.out; simp; omega))
    have HFW : Hid (Fr [] w wx) := Lib.hid ((HF0.out.and HF5.out (by simp)).and HFX.out (by have := HGA.out; simp; omega))
    have HN64 : Hid (n ≤ 64) := Lib.hid (by have := HNF.out; have := HFB.out; omega)
    have HS12 : Hid ((∀ y ∈ S1, w.heap.size ≤ y ∧ y ≠ ga ∧ y ≠ gb ∧ y ≠ g3) ∧ (∀ y ∈ S2, w.heap.size ≤ y ∧ y ≠ ga ∧ y ≠ gb ∧ y ≠ g3)) := Lib.hid (by
      have h2 := HGL.out
      have h3 := HSW.out
      have h4 := HG3E.out
      have h5 := HF0.out.size
      have h6 := HSZ3.out
      refine ⟨fun y hy => ?_, fun y hy => ?_⟩
      · have h1 := HS4.out y hy
        omega
      · have h1 := HS5.out y hy
        have h7 := HF4.out.size
        have h8 : w3.heap.size ≤ w4.heap.size := HSZ34.out
        omega)
    clear HT4 HT5 HT45 HB35 HB25 HB1 HB2 HFX HF2 HF3 HF4 HF5 HB15 HB3 HB33 HB34 HR15 HR25 HRA HRB
    obtain ⟨sv, hsv⟩ : ∃ sv, sv = sQ n F L vs a2 b a2 := ⟨_, rfl⟩
    obtain ⟨tv, htv⟩ : ∃ tv, tv = sQ n F L vs a2 b b := ⟨_, rfl⟩
    have HSV : Hid (∀ i, (sv i).length = 32) := Lib.hid (by rw [hsv]; exact sQ_len HL2.out HB.out HL2.out)
    have HTV : Hid (∀ i, (tv i).length = 32) := Lib.hid (by rw [htv]; exact sQ_len HL2.out HB.out HB.out)
    have HSVE := Lib.hid hsv
    have HTVE := Lib.hid htv
    clear hsv htv
    have HRA2 : Hid (RowTy Try.prog 30 (a2.map by8).length) := Lib.hid (row_hash.of (by rw [List.length_map]; exact HL2.out))
    have HRB2 : Hid (RowTy Try.prog 30 (b.map by8).length) := Lib.hid (row_hash.of (by rw [List.length_map]; exact HB.out))
    have HOKs : Hid (∀ k, k ≤ n → TOk (n : Int) (genV 1 3 sv k)) := Lib.hid (fun k hk => ⟨genV_gd (.inl rfl) (by omega) sv HSV.out k (by omega), by have := HN64.out; omega, by rw [genV_len]; have := HN64.out; omega⟩)
    have HOKt : Hid (∀ k, k ≤ n → TOk (n : Int) (genV 1 3 tv k)) := Lib.hid (fun k hk => ⟨genV_gd (.inl rfl) (by omega) tv HTV.out k (by omega), by have := HN64.out; omega, by rw [genV_len]; have := HN64.out; omega⟩)
    have hn64 : (n : Int) ≤ 64 := by have := HN64.out; omega
    have hL64 : (L : Int) < 64 := by have := HN64.out; have := HLN.out; omega
    have HADs : Hid (∀ (W : World) (k : Nat), k < n → Tl W S1 g4 n (genV 1 3 sv k) → Calls Try.prog 10 #[.pointer (some ⟨g4, 0, none⟩), .int .i64 1, .int .i64 3, .int .i64 k, .agg ((sv k).map by8).toArray] W fun e w' => e = .returned (.bool true) ∧ Tl w' S1 g4 n (genV 1 3 sv (k + 1)) ∧ Fr S1 W w') := Lib.hid (fun W k hk ht => by
      have h1 := genV_add (n := (n : Int)) (q := 1) (r := 3) (.inl rfl) (by omega) sv k (by omega)
      have h2 := tadd_any W S1 g4 n _ ht (HOKs.out k (by omega)) 1 3 k (sv k) (HSV.out k)
      rw [h1.1, h1.2] at h2
      exact h2)
    have HADt : Hid (∀ (W : World) (k : Nat), k < n → Tl W S2 g5 n (genV 1 3 tv k) → Calls Try.prog 10 #[.pointer (some ⟨g5, 0, none⟩), .int .i64 1, .int .i64 3, .int .i64 k, .agg ((tv k).map by8).toArray] W fun e w' => e = .returned (.bool true) ∧ Tl w' S2 g5 n (genV 1 3 tv (k + 1)) ∧ Fr S2 W w') := Lib.hid (fun W k hk ht => by
      have h1 := genV_add (n := (n : Int)) (q := 1) (r := 3) (.inl rfl) (by omega) tv k (by omega)
      have h2 := tadd_any W S2 g5 n _ ht (HOKt.out k (by omega)) 1 3 k (tv k) (HTV.out k)
      rw [h1.1, h1.2] at h2
      exact h2)
    go_wp2_with fail
    go_loopw [17] (fun s17 wr => ∃ k : Nat, k ≤ n ∧ s17 = .int .i64 k ∧ Tl wr S1 g4 n (genV 1 3 sv k) ∧ Tl wr S2 g5 n (genV 1 3 tv k) ∧ Blk wr ga 30 (a2.map by8).toArray ∧ Blk wr gb 30 (b.map by8).toArray ∧ Blk wr g3 24 #[.int .i64 (F : Int), .int .i64 1] ∧ Fr [] w wr) (fun s17 _ => n - (intOf s17).toNat)
    case atStart => exact ⟨0, by omega, rfl, HT46.out, HT56.out, HBA.out, HBb.out, HB36.out, HFW.out⟩
    case round =>
      obtain ⟨k, hk, rfl, h1, h2, h3, h4, h5, h6⟩ := hrel
      have HTs := Lib.hid h1
      have HTt := Lib.hid h2
      have HBa := Lib.hid h3
      have HBbr := Lib.hid h4
      have HBc := Lib.hid h5
      have HFr := Lib.hid h6
      clear h1 h2 h3 h4 h5 h6
      by_cases hlt : k < n
      · obtain ⟨vv, hvv⟩ : ∃ vv, vv = vs.getD k 0 := ⟨_, rfl⟩
        have HVV := Lib.hid hvv
        clear hvv
        have hk64 : (k : Int) < 64 := by have := HN64.out; omega
        have hk0 : (0 : Int) ≤ k := by omega
        have HVL : Hid (k < nv → ∃ ad, A = some ad ∧ wr.cell? (ad.add k) = some (.int .i64 vv)) := Lib.hid (fun h => by
          obtain ⟨ad, e, hc⟩ := HV.out.2.2 (by omega)
          have hl : k < vs.length := by rw [HV.out.1]; exact h
          have h2 := hc k _ (List.getElem?_eq_getElem hl)
          have h3 : vs.getD k 0 = vs[k] := by simp [List.getD_eq_getElem?_getD, hl]
          exact ⟨ad, e, by rw [HVV.out, h3]; exact HFr.out.cell h2 (by simp)⟩)
        have HV0 : Hid (¬ k < nv → vv = 0) := Lib.hid (fun h => by rw [HVV.out, List.getD_eq_getElem?_getD, List.getElem?_eq_none (by rw [HV.out.1]; omega)]; rfl)
        go_upto_region 14 with (fail)
        go_upto_if 68 with (fail)
        go_cut [18] (fun s18 wy => s18 = .int .i64 vv ∧ wr = wy)
        case first =>
          by_cases hkv : k < nv
          · obtain ⟨ad, rfl, hcell⟩ := HVL.out hkv
            go_wp2_with fail
            go_meet
            exact ⟨rfl, rfl⟩
          · have hd : decide (k < nv) = false := decide_eq_false hkv
            have e := HV0.out hkv
            go_wp2_with fail
            go_meet
            exact ⟨by rw [HV0.out hkv], rfl⟩
        case rest =>
          obtain ⟨rfl, rfl⟩ := hcut
          have c0 : wr.cell? ⟨g3, 0, none⟩ = some (.int .i64 (F : Int)) := (HBc.out.cell 0).trans rfl
          have hwr : IntKind.i64.wrap ((k : Int) + (L : Int)) = (k : Int) + (L : Int) := by rw [IntKind.wrap_i64]; omega
          obtain ⟨m, hm⟩ : ∃ m, m = (k + L) % n := ⟨_, rfl⟩
          have hrem : ((k : Int) + (L : Int)).tmod (n : Int) = (m : Int) := by
            rw [hm, Int.tmod_eq_emod_of_nonneg (by omega)]
            push_cast
            rfl
          have hne : (n = 0) = False := eq_false (by have := HLN.out; omega)
          have hm64 : (m : Int) < 64 := by have := Nat.mod_lt (k + L) (show 0 < n by have := HLN.out; omega); have := HN64.out; omega
          have HM := Lib.hid hm
          clear hm
          go_upto_region 16 with (fail)
          refine wp_region_held_drew (S := Fr [] wr) (by kernel_rfl) (Fr.drew (Fr.refl _ wr)) (fun hHeld => ?_)
          refine run_at (i := 0) (v := ?_) rfl (by kernel_rfl) (by rfl) (fun _ _ _ h => h) hHeld (fun w1 hw1 => ?_) ?_
          rotate_left 1
          · skip
            go_simp
            (try (first | with_reducible rfl | (apply And.intro <;> rfl)))
          simp only [Act.put, List.setIfInBounds_toArray, List.set_cons_zero, List.set_cons_succ]
          refine run_at (i := 1) (v := ?_) rfl (by kernel_rfl) (by rfl) (fun _ _ _ h => h) hHeld (fun w1 hw1 => ?_) ?_
          rotate_left 1
          · skip
            go_simp
            (try (first | with_reducible rfl | (apply And.intro <;> rfl)))
          simp only [Act.put, List.setIfInBounds_toArray, List.set_cons_zero, List.set_cons_succ]
          refine run_at (i := 2) (v := ?_) rfl (by kernel_rfl) (by rfl) (fun _ _ _ h => h) hHeld (fun w1 hw1 => ?_) ?_
          rotate_left 1
          · skip
            go_simp
            (try (first | with_reducible rfl | (apply And.intro <;> rfl)))
          simp only [Act.put, List.setIfInBounds_toArray, List.set_cons_zero, List.set_cons_succ]
          refine run_at (i := 3) (v := ?_) rfl (by kernel_rfl) (by rfl) (fun _ _ _ h => h) hHeld (fun w1 hw1 => ?_) ?_
          rotate_left 1
          · skip
            go_simp
            (try (first | with_reducible rfl | (apply And.intro <;> rfl)))
          simp only [Act.put, List.setIfInBounds_toArray, List.set_cons_zero, List.set_cons_succ]
          refine run_at (i := 4) (v := ?_) rfl (by kernel_rfl) (by rfl) (fun _ _ _ h => h) hHeld (fun w1 hw1 => ?_) ?_
          rotate_left 1
          · skip
            go_simp
            (try (first | with_reducible rfl | (apply And.intro <;> rfl)))
          simp only [Act.put, List.setIfInBounds_toArray, List.set_cons_zero, List.set_cons_succ]
          refine run_at (i := 5) (v := ?_) rfl (by kernel_rfl) (by rfl) (fun _ _ _ h => h) hHeld (fun w1 hw1 => ?_) ?_
          rotate_left 1
          · skip
            go_simp
            (try (first | with_reducible rfl | (apply And.intro <;> rfl)))
          simp only [Act.put, List.setIfInBounds_toArray, List.set_cons_zero, List.set_cons_succ]
          refine run_at (i := 6) (v := ?_) rfl (by kernel_rfl) (by rfl) (fun _ _ _ h => h) hHeld (fun w1 hw1 => ?_) ?_
          rotate_left 1
          · skip
            have hcw0 := hw1.cell (c0) (by first | (simp; done) | exact HNS.out | exact HNW.out | (intro hm; have hlt := HSB.out _ hm; (try dsimp only at hlt); omega))
            go_simp
            (try (first | with_reducible rfl | (apply And.intro <;> rfl)))
          simp only [Act.put, List.setIfInBounds_toArray, List.set_cons_zero, List.set_cons_succ]
          refine run_at (i := 7) (v := ?_) rfl (by kernel_rfl) (by rfl) (fun _ _ _ h => h) hHeld (fun w1 hw1 => ?_) ?_
          rotate_left 1
          · skip
            go_simp
            (try (first | with_reducible rfl | (apply And.intro <;> rfl)))
          simp only [Act.put, List.setIfInBounds_toArray, List.set_cons_zero, List.set_cons_succ]
          refine wpAnyH_done (by kernel_rfl) ?_ _
          have HTs := Lib.hid (HTs.out.keep hHeld (by simp))
          have HTt := Lib.hid (HTt.out.keep hHeld (by simp))
          have HBa := Lib.hid (HBa.out.keep hHeld (by simp))
          have HBbr := Lib.hid (HBbr.out.keep hHeld (by simp))
          have HBc := Lib.hid (HBc.out.keep hHeld (by simp))
          have HFr := Lib.hid (HFr.out.and hHeld (by simp))
          generalize wr.drew = wd at *
          clear hHeld hwr hrem hne c0
          by_cases hl : m < F
          · have hd : decide (m < F) = true := decide_eq_true hl
            have es : sv k = a2 := by rw [HSVE.out]; unfold sQ; rw [if_pos (by rw [← HM.out]; exact hl)]
            have et : tv k = b := by rw [HTVE.out]; unfold sQ; rw [if_pos (by rw [← HM.out]; exact hl)]
            have hADs := HADs.out wd k hlt HTs.out
            rw [es] at hADs
            have hADt := fun W h => HADt.out W k hlt h
            rw [et] at hADt
            have HADs2 := Lib.hid hADs
            have HADt2 := Lib.hid hADt
            clear hADs hADt es et
            go_wp2_with (refine wpList_row rfl 30 _ rfl ga 0 rfl (a2.map by8) HBa.out.range HRA2.out ?_)
            refine HADs2.out.mono ?_
            rintro e wy ⟨rfl, h1, h2⟩
            have HTs2 := Lib.hid h1
            have HTt2 := Lib.hid (HTt.out.keep h2 (fun y hy hm => HD12.out y hm hy))
            have HBa2 := Lib.hid (HBa.out.keep h2 (fun hm => (HS12.out.1 _ hm).2.1 rfl))
            have HBb2 := Lib.hid (HBbr.out.keep h2 (fun hm => (HS12.out.1 _ hm).2.2.1 rfl))
            have HBc2 := Lib.hid (HBc.out.keep h2 (fun hm => (HS12.out.1 _ hm).2.2.2 rfl))
            have HF2r := Lib.hid (HFr.out.and h2 (fun y hy => (HS12.out.1 y hy).1))
            clear h1 h2
            go_wp2_with (refine wpList_row rfl 30 _ rfl gb 0 rfl (b.map by8) HBb2.out.range HRB2.out ?_)
            refine (HADt2.out wy HTt2.out).mono ?_
            rintro e wz ⟨rfl, h1, h2⟩
            have HTt3 := Lib.hid h1
            have HTs3 := Lib.hid (HTs2.out.keep h2 (fun y hy hm => HD12.out y hy hm))
            have HBa3 := Lib.hid (HBa2.out.keep h2 (fun hm => (HS12.out.2 _ hm).2.1 rfl))
            have HBb3 := Lib.hid (HBb2.out.keep h2 (fun hm => (HS12.out.2 _ hm).2.2.1 rfl))
            have HBc3 := Lib.hid (HBc2.out.keep h2 (fun hm => (HS12.out.2 _ hm).2.2.2 rfl))
            have HF3r := Lib.hid (HF2r.out.and h2 (fun y hy => (HS12.out.2 y hy).1))
            clear h1 h2
            go_wp2_with fail
            go_roundw
            case rel => exact ⟨k + 1, by omega, by go_num, HTs3.out, HTt3.out, HBa3.out, HBb3.out, HBc3.out, HF3r.out⟩
            case measure => simp [intOf]; omega
          · have hd : decide (m < F) = false := decide_eq_false hl
            by_cases hev : vv.tmod 2 = 0
            · have hbe : (vv.tmod 2 == 0) = true := by simpa using hev
              have es : sv k = a2 := by rw [HSVE.out]; unfold sQ; rw [if_neg (by rw [← HM.out]; exact hl), if_pos (by rw [← HVV.out]; exact hev)]
              have et : tv k = a2 := by rw [HTVE.out]; unfold sQ; rw [if_neg (by rw [← HM.out]; exact hl), if_pos (by rw [← HVV.out]; exact hev)]
              have hADs := HADs.out wd k hlt HTs.out
              rw [es] at hADs
              have hADt := fun W h => HADt.out W k hlt h
              rw [et] at hADt
              have HADs2 := Lib.hid hADs
              have HADt2 := Lib.hid hADt
              clear hADs hADt es et
              go_wp2_with (refine wpList_row rfl 30 _ rfl ga 0 rfl (a2.map by8) HBa.out.range HRA2.out ?_)
              refine HADs2.out.mono ?_
              rintro e wy ⟨rfl, h1, h2⟩
              have HTs2 := Lib.hid h1
              have HTt2 := Lib.hid (HTt.out.keep h2 (fun y hy hm => HD12.out y hm hy))
              have HBa2 := Lib.hid (HBa.out.keep h2 (fun hm => (HS12.out.1 _ hm).2.1 rfl))
              have HBb2 := Lib.hid (HBbr.out.keep h2 (fun hm => (HS12.out.1 _ hm).2.2.1 rfl))
              have HBc2 := Lib.hid (HBc.out.keep h2 (fun hm => (HS12.out.1 _ hm).2.2.2 rfl))
              have HF2r := Lib.hid (HFr.out.and h2 (fun y hy => (HS12.out.1 y hy).1))
              clear h1 h2
              go_wp2_with (refine wpList_row rfl 30 _ rfl ga 0 rfl (a2.map by8) HBa2.out.range HRA2.out ?_)
              refine (HADt2.out wy HTt2.out).mono ?_
              rintro e wz ⟨rfl, h1, h2⟩
              have HTt3 := Lib.hid h1
              have HTs3 := Lib.hid (HTs2.out.keep h2 (fun y hy hm => HD12.out y hy hm))
              have HBa3 := Lib.hid (HBa2.out.keep h2 (fun hm => (HS12.out.2 _ hm).2.1 rfl))
              have HBb3 := Lib.hid (HBb2.out.keep h2 (fun hm => (HS12.out.2 _ hm).2.2.1 rfl))
              have HBc3 := Lib.hid (HBc2.out.keep h2 (fun hm => (HS12.out.2 _ hm).2.2.2 rfl))
              have HF3r := Lib.hid (HF2r.out.and h2 (fun y hy => (HS12.out.2 y hy).1))
              clear h1 h2
              go_wp2_with fail
              go_roundw
              case rel => exact ⟨k + 1, by omega, by go_num, HTs3.out, HTt3.out, HBa3.out, HBb3.out, HBc3.out, HF3r.out⟩
              case measure => simp [intOf]; omega
            · have hbe : (vv.tmod 2 == 0) = false := by simpa using hev
              have es : sv k = b := by rw [HSVE.out]; unfold sQ; rw [if_neg (by rw [← HM.out]; exact hl), if_neg (by rw [← HVV.out]; exact hev)]
              have et : tv k = b := by rw [HTVE.out]; unfold sQ; rw [if_neg (by rw [← HM.out]; exact hl), if_neg (by rw [← HVV.out]; exact hev)]
              have hADs := HADs.out wd k hlt HTs.out
              rw [es] at hADs
              have hADt := fun W h => HADt.out W k hlt h
              rw [et] at hADt
              have HADs2 := Lib.hid hADs
              have HADt2 := Lib.hid hADt
              clear hADs hADt es et
              go_wp2_with (refine wpList_row rfl 30 _ rfl gb 0 rfl (b.map by8) HBbr.out.range HRB2.out ?_)
              refine HADs2.out.mono ?_
              rintro e wy ⟨rfl, h1, h2⟩
              have HTs2 := Lib.hid h1
              have HTt2 := Lib.hid (HTt.out.keep h2 (fun y hy hm => HD12.out y hm hy))
              have HBa2 := Lib.hid (HBa.out.keep h2 (fun hm => (HS12.out.1 _ hm).2.1 rfl))
              have HBb2 := Lib.hid (HBbr.out.keep h2 (fun hm => (HS12.out.1 _ hm).2.2.1 rfl))
              have HBc2 := Lib.hid (HBc.out.keep h2 (fun hm => (HS12.out.1 _ hm).2.2.2 rfl))
              have HF2r := Lib.hid (HFr.out.and h2 (fun y hy => (HS12.out.1 y hy).1))
              clear h1 h2
              go_wp2_with (refine wpList_row rfl 30 _ rfl gb 0 rfl (b.map by8) HBb2.out.range HRB2.out ?_)
              refine (HADt2.out wy HTt2.out).mono ?_
              rintro e wz ⟨rfl, h1, h2⟩
              have HTt3 := Lib.hid h1
              have HTs3 := Lib.hid (HTs2.out.keep h2 (fun y hy hm => HD12.out y hy hm))
              have HBa3 := Lib.hid (HBa2.out.keep h2 (fun hm => (HS12.out.2 _ hm).2.1 rfl))
              have HBb3 := Lib.hid (HBb2.out.keep h2 (fun hm => (HS12.out.2 _ hm).2.2.1 rfl))
              have HBc3 := Lib.hid (HBc2.out.keep h2 (fun hm => (HS12.out.2 _ hm).2.2.2 rfl))
              have HF3r := Lib.hid (HF2r.out.and h2 (fun y hy => (HS12.out.2 y hy).1))
              clear h1 h2
              go_wp2_with fail
              go_roundw
              case rel => exact ⟨k + 1, by omega, by go_num, HTs3.out, HTt3.out, HBa3.out, HBb3.out, HBc3.out, HF3r.out⟩
              case measure => simp [intOf]; omega
      · have hkn : k = n := by omega
        have hdn : decide (k < n) = false := decide_eq_false hlt
        rw [hkn] at HTs HTt
        have HQU := Lib.hid (fun W => tquorum_any (F : Int) 1 (by have := HFB.out; omega) W)
        have hQ64 : (F : Int) < 64 := by have := HFB.out; omega
        have HXY : Hid (¬ (2 * (F : Int) + 1 ≤ ((cntH (genV 1 3 sv n) 1 3 a2 : Nat) : Int) ∧ 2 * (F : Int) + 1 ≤ ((cntH (genV 1 3 tv n) 1 3 b : Nat) : Int))) := Lib.hid (by
          rw [genV_for, genV_for]
          have h1 := both_le n sv tv (fun i => decide ((i + L) % n < F)) a2 b HNE2.out (fun i hi => by
            have hi' := of_decide_eq_false hi
            rw [HSVE.out, HTVE.out]
            unfold sQ
            rw [if_neg hi', if_neg hi'])
          have h2 := liars_le F n L (by have := HNF.out; omega) HLN.out n (Nat.le_refl _)
          have h3 := HNF.out
          have h4 := HLN.out
          omega)
        have HXB : Hid (cntH (genV 1 3 sv n) 1 3 a2 ≤ n ∧ cntH (genV 1 3 tv n) 1 3 b ≤ n) := Lib.hid ⟨by have h := cntH_le (genV 1 3 sv n) 1 3 a2; rw [genV_len] at h; exact h, by have h := cntH_le (genV 1 3 tv n) 1 3 b; rw [genV_len] at h; exact h⟩
        go_wp2_with (refine wpList_row rfl 24 _ rfl _ _ rfl _ (Blk.range HBc.out) row_conf2 ?_)
        refine (HQU.out wr).mono ?_
        rintro e w7 ⟨rfl, hf7⟩
        have HTs7 := Lib.hid (HTs.out.keep hf7 (by simp))
        have HTt7 := Lib.hid (HTt.out.keep hf7 (by simp))
        have HBa7 := Lib.hid (HBa.out.keep hf7 (by simp))
        have HBb7 := Lib.hid (HBbr.out.keep hf7 (by simp))
        have HFr7 := Lib.hid (HFr.out.and hf7 (by simp))
        clear hf7
        have hnn : ((n : Int) != (n : Int)) = false := by simp
        have HAs : Hid (∀ W, Tl W S1 g4 n (genV 1 3 sv n) → Calls Try.prog 9 #[.pointer (some ⟨g4, 0, none⟩), .int .i64 1, .int .i64 3] W fun e w' => e = .returned (.int .i64 (n : Int)) ∧ W = w') := Lib.hid (fun W h => by
          have h2 := all_any W S1 g4 n _ h (HOKs.out n (Nat.le_refl _)) 1 3 ⟨by omega, by omega⟩ ⟨by omega, by omega⟩
          rw [genV_all] at h2
          exact h2)
        have HAt : Hid (∀ W, Tl W S2 g5 n (genV 1 3 tv n) → Calls Try.prog 9 #[.pointer (some ⟨g5, 0, none⟩), .int .i64 1, .int .i64 3] W fun e w' => e = .returned (.int .i64 (n : Int)) ∧ W = w') := Lib.hid (fun W h => by
          have h2 := all_any W S2 g5 n _ h (HOKt.out n (Nat.le_refl _)) 1 3 ⟨by omega, by omega⟩ ⟨by omega, by omega⟩
          rw [genV_all] at h2
          exact h2)
        have HHs : Hid (∀ W, Tl W S1 g4 n (genV 1 3 sv n) → Calls Try.prog 14 #[.pointer (some ⟨g4, 0, none⟩), .int .i64 0] W fun e w' => e = .returned (.int .i64 (n : Int)) ∧ W = w') := Lib.hid (fun W h => by
          have h2 := heard_any W S1 g4 n _ h 0
          rw [genV_heard (by omega) _ _ HN64.out, if_pos (by omega)] at h2
          exact h2)
        have HFs := Lib.hid (fun W (h : Tl W S1 g4 n (genV 1 3 sv n)) => for_any W S1 g4 n _ h 1 3 ⟨by omega, by omega⟩ ⟨by omega, by omega⟩ a2 HL2.out)
        have HFt := Lib.hid (fun W (h : Tl W S2 g5 n (genV 1 3 tv n)) => for_any W S2 g5 n _ h 1 3 ⟨by omega, by omega⟩ ⟨by omega, by omega⟩ b HB.out)
        generalize cntH (genV 1 3 sv n) 1 3 a2 = X at *
        generalize cntH (genV 1 3 tv n) 1 3 b = Y at *
        have hX64 : (X : Int) ≤ 64 := by have := HXB.out; have := HN64.out; omega
        have hY64 : (Y : Int) ≤ 64 := by have := HXB.out; have := HN64.out; omega
        clear hkn hdn hlt
        go_wp2_with fail
        refine (HAs.out w7 HTs7.out).mono ?_
        rintro e w8 ⟨rfl, rfl⟩
        go_wp2_with fail
        refine (HAt.out w7 HTt7.out).mono ?_
        rintro e w8 ⟨rfl, rfl⟩
        go_wp2_with fail
        refine (HHs.out w7 HTs7.out).mono ?_
        rintro e w8 ⟨rfl, rfl⟩
        go_wp2_with (refine wpList_row rfl 30 _ rfl ga 0 rfl (a2.map by8) HBa7.out.range HRA2.out ?_)
        refine (HFs.out w7 HTs7.out).mono ?_
        rintro e w8 ⟨rfl, hf8⟩
        have HTt8 := Lib.hid (HTt7.out.keep hf8 (by simp))
        have HBb8 := Lib.hid (HBb7.out.keep hf8 (by simp))
        have HFr8 := Lib.hid (HFr7.out.and hf8 (by simp))
        clear hf8
        by_cases hX : 2 * (F : Int) + 1 ≤ (X : Int)
        · have hdX : decide (2 * (F : Int) + 1 ≤ (X : Int)) = true := decide_eq_true hX
          have hdY : decide (2 * (F : Int) + 1 ≤ (Y : Int)) = false := decide_eq_false (fun h => HXY.out ⟨hX, h⟩)
          go_wp2_with (refine wpList_row rfl 30 _ rfl gb 0 rfl (b.map by8) HBb8.out.range HRB2.out ?_)
          refine (HFt.out w8 HTt8.out).mono ?_
          rintro e w9 ⟨rfl, hf9⟩
          have HFr9 := Lib.hid (HFr8.out.and hf9 (by simp))
          clear hf9
          go_wp2_with fail
          refine (twakes_any w9).mono ?_
          rintro e w10 ⟨rfl, hf10⟩
          have HFr10 := Lib.hid (HFr9.out.and hf10 (by simp))
          clear hf10
          go_wp2_with fail
          go_ret
          exact ⟨rfl, HFr10.out⟩
        · have hdX : decide (2 * (F : Int) + 1 ≤ (X : Int)) = false := decide_eq_false hX
          go_wp2_with fail
          refine (twakes_any w8).mono ?_
          rintro e w10 ⟨rfl, hf10⟩
          have HFr10 := Lib.hid (HFr8.out.and hf10 (by simp))
          clear hf10
          go_wp2_with fail
          go_ret
          exact ⟨rfl, HFr10.out⟩
end Go.Proofs.Ytfmkegblhpnfcaa
