/- Proved here: ShaLess' statement (the tied card): for every two hashes the law returns true. Conditions: the card's own (the rounds' table as the program's text lays it). -/
import Derived.Test.YtefhphpnjgojaaaDoorShaL
import Derived.Test.YtefhphpnjgojaaaDoorShaC
import Derived.Test.YtefhphpnjgojaaaDoorRead
import Derived.SevenTiedAt
namespace Go.Proofs.YtefhphpnjgojaaaDoor
open Go.RowKit

theorem compare_at {a b : List UInt8} : ∀ {k : Nat} {x y : UInt8}, a.take k = b.take k → a[k]? = some x → b[k]? = some y → x ≠ y → Lib.compareBytes a b = if x < y then -1 else 1 := by
  intro k x y ht hx hy hne
  induction k generalizing a b with
  | zero =>
    cases a with
    | nil => simp at hx
    | cons p ps =>
      cases b with
      | nil => simp at hy
      | cons r rs =>
        simp at hx hy
        subst hx hy
        unfold Lib.compareBytes
        by_cases h : p < r
        · simp [h]
        · have h2 : r < p := by
            rcases Nat.lt_trichotomy p.toNat r.toNat with h3 | h3 | h3
            · exact absurd (UInt8.lt_iff_toNat_lt.2 h3) h
            · exact absurd (UInt8.toNat_inj.1 h3) hne
            · exact UInt8.lt_iff_toNat_lt.2 h3
          simp [h, h2]
  | succ k ih =>
    cases a with
    | nil => simp at hx
    | cons p ps =>
      cases b with
      | nil => simp at hy
      | cons r rs =>
        simp only [List.take_succ_cons, List.cons.injEq] at ht
        obtain ⟨rfl, ht⟩ := ht
        have h1 : ¬ p < p := fun h => by have := UInt8.lt_iff_toNat_lt.1 h; omega
        rw [Lib.compareBytes, if_neg h1, if_neg h1]
        exact ih ht (by simpa using hx) (by simpa using hy)
theorem compare_self (a : List UInt8) : Lib.compareBytes a a = 0 := by
  induction a with
  | nil => rfl
  | cons p ps ih =>
    have h1 : ¬ p < p := fun h => by have := UInt8.lt_iff_toNat_lt.1 h; omega
    rw [Lib.compareBytes, if_neg h1, if_neg h1]
    exact ih
theorem lessB_at {a b : List UInt8} {k : Nat} {x y : UInt8} (ht : a.take k = b.take k) (hx : a[k]? = some x) (hy : b[k]? = some y) (hne : x ≠ y) : lessB a b = decide (x < y) ∧ lessB b a = !decide (x < y) ∧ decide (a = b) = false := by
  unfold lessB
  rw [compare_at ht hx hy hne, compare_at ht.symm hy hx (Ne.symm hne)]
  have h3 : ¬ a = b := by
    rintro rfl
    exact hne (Option.some.inj (hx.symm.trans hy))
  by_cases h : x < y
  · have h2 : ¬ y < x := fun h2 => by have := UInt8.lt_iff_toNat_lt.1 h; have := UInt8.lt_iff_toNat_lt.1 h2; omega
    simp [h, h2, h3]
  · have h2 : y < x := by
      rcases Nat.lt_trichotomy x.toNat y.toNat with h3 | h3 | h3
      · exact absurd (UInt8.lt_iff_toNat_lt.2 h3) h
      · exact absurd (UInt8.toNat_inj.1 h3) hne
      · exact UInt8.lt_iff_toNat_lt.2 h3
    simp [h, h2, h3]
theorem lessB_self (a : List UInt8) : lessB a a = false := by unfold lessB; rw [compare_self]; rfl

theorem has32_blk {w : World} {g : Nat} {t : TypeId} {l : List UInt8} (hb : Blk w g t (l.map by8).toArray) (hl : l.length = 32) : Has32 w ⟨g, 0, none⟩ ∧ aggAt w ⟨g, 0, none⟩ = .agg (l.map by8).toArray :=
  has32_of hl (fun j x hx => by
    have hadd : (⟨g, 0, none⟩ : Addr).add j = ⟨g, j, none⟩ := by unfold Addr.add; split <;> simp_all
    rw [hadd, hb.cell j]
    simpa using hx)
attribute [local go_sem ↓] exec_load_hash_any
attribute [local go_sem] addrOf_ptr isLoadHash_load loadOf_load

set_option maxRecDepth 100000 in
set_option maxHeartbeats 8000000 in
theorem shaLess_walk (w : World) (a : List UInt8) (ha : a.length = 32) (b : List UInt8) (hb : b.length = 32) (twin : Bool) (hK : KW w) :
    Calls Tryd.prog 6 #[.agg (a.map by8).toArray, .agg (b.map by8).toArray, .bool twin] w fun e w' => e = .returned (.bool true) ∧ Fr [] w w' := by
  obtain ⟨wb, hwb⟩ : ∃ wb, wb = (w.alloc (.cells (a.map by8).toArray 26)).alloc (.cells (b.map by8).toArray 26) := ⟨_, rfl⟩
  have hbA : Blk wb w.heap.size 26 (a.map by8).toArray := by rw [hwb]; exact (Blk.new _ _ _).keep ((Fr.refl [] _).alloc _) (by simp)
  have hbB : Blk wb (w.heap.size + 1) 26 (b.map by8).toArray := by
    have := Blk.new (w.alloc (.cells (a.map by8).toArray 26)) 26 (b.map by8).toArray
    rw [hwb]
    simpa using this
  have hf : Fr [] w wb := by rw [hwb]; exact ((Fr.refl [] w).alloc _).alloc _
  have HBA := Lib.hid hbA
  have HBB := Lib.hid hbB
  have HF := Lib.hid hf
  have HWB := Lib.hid hwb
  have HK := Lib.hid hK
  have hsz : ∀ l : List UInt8, l.length = 32 → ((l.map by8).toArray).size = 32 := fun l h => by simp [h]
  have hone : ∀ l : List UInt8, (((l.map by8).toArray).all (·.oneCell')) = true := fun l => by
    rw [Array.all_eq_true_iff_forall_mem]
    intro u hu
    exact by8_one l u (by simpa using hu)
  have HSZ := Lib.hid hsz
  have HONE := Lib.hid hone
  have HA := Lib.hid ha
  have HB := Lib.hid hb
  clear hbA hbB hf hK hwb hsz hone ha hb
  generalize hX : (a.map by8).toArray = X at *
  generalize hY : (b.map by8).toArray = Y at *
  have HX := Lib.hid hX
  have HY := Lib.hid hY
  clear hX hY
  go_enter Tryd.func6, Tryd.ntmps6
  go_upto_region 1 with (fail)
  rw [← HWB.out]
  clear HWB
  have hcase : (twin = false ∧ True) ∨ (twin = true ∧ True) := by cases twin <;> simp
  rcases hcase with ⟨rfl, -⟩ | ⟨rfl, -⟩
  · obtain ⟨b', hb', hb1, hb2, hf⟩ : ∃ b' : List UInt8, b'.length = 32 ∧ Blk wb w.heap.size 26 (a.map by8).toArray ∧ Blk wb (w.heap.size + 1) 26 (b'.map by8).toArray ∧ Fr [] w wb :=
      ⟨b, HB.out, by rw [HX.out]; exact HBA.out, by rw [HY.out]; exact HBB.out, HF.out⟩
    have HW := Lib.hid (And.intro hb' (And.intro hb1 (And.intro hb2 hf)))
    clear hb' hb1 hb2 hf HBA HBB HF
    go_wp2
    go_loopw [7, 11] (fun s7 i wr => ∃ (k q : Nat), k ≤ 32 ∧ i = .int .i64 k ∧ s7 = .bool false ∧ a.take k = b'.take k ∧ wr = wb.drewN q) (fun _ i _ => 32 - (intOf i).toNat)
    case atStart => exact ⟨0, 0, by omega, rfl, rfl, by simp, rfl⟩
    case round =>
      obtain ⟨k, q, hk, rfl, rfl, ht, hwr⟩ := hrel
      have HWR := Lib.hid hwr
      have HT := Lib.hid ht
      clear hwr ht
      have HBX : Hid (Blk wr w.heap.size 26 (a.map by8).toArray) := Lib.hid (by rw [HWR.out]; exact HW.out.2.1.drewN q)
      have HBY : Hid (Blk wr (w.heap.size + 1) 26 (b'.map by8).toArray) := Lib.hid (by rw [HWR.out]; exact HW.out.2.2.1.drewN q)
      have HFR : Hid (Fr [] w wr) := Lib.hid (by rw [HWR.out]; exact HW.out.2.2.2.drewN q)
      by_cases hlt : k < 32
      · have hka : k < a.length := by rw [HA.out]; exact hlt
        have hkb : k < b'.length := by rw [HW.out.1]; exact hlt
        have cx := HBX.out.byte hka
        have cy := HBY.out.byte hkb
        have HGA : Hid (a[k]? = some (a.getD k 0)) := Lib.hid (by rw [List.getD, List.getElem?_eq_getElem hka]; rfl)
        have HGB : Hid (b'[k]? = some (b'.getD k 0)) := Lib.hid (by rw [List.getD, List.getElem?_eq_getElem hkb]; rfl)
        generalize a.getD k 0 = x at *
        generalize b'.getD k 0 = y at *
        have hk0 : (0 : Int) ≤ k := by omega
        have hk32 : (k : Int) < 32 := by omega
        clear hka hkb
        by_cases hxy : x = y
        · have hne : ((x.toNat : Int) != (y.toNat : Int)) = false := by rw [hxy]; simp
          have HXY := Lib.hid hxy
          clear hxy
          go_wp2
          go_quiet (fail)
          go_wp2
          go_roundw
          case rel => exact ⟨k + 1, q + nq, by omega, by go_num, rfl, take_eq_succ HT.out HGA.out HGB.out HXY.out, by rw [HWR.out, World.drewN_drewN]⟩
          case measure => simp [intOf]; omega
        · obtain ⟨hl1, hl2, heq⟩ := lessB_at HT.out HGA.out HGB.out hxy
          have hne : ((x.toNat : Int) != (y.toNat : Int)) = true := by
            simp only [bne_iff_ne, ne_eq]
            intro h
            exact hxy (UInt8.toNat_inj.1 (by omega))
          have HEQ := Lib.hid heq
          clear hxy heq
          by_cases hlt2 : x < y
          · have hd : decide (x.toNat < y.toNat) = true := by
              have := UInt8.lt_iff_toNat_lt.1 hlt2
              simpa using this
            have HL1 : Hid (lessB a b' = true) := Lib.hid (by rw [hl1]; simpa using hlt2)
            have HL2 : Hid (lessB b' a = false) := Lib.hid (by rw [hl2]; simpa using hlt2)
            clear hl1 hl2 hlt2
            go_wp2
            go_quiet (fail)
            have HBXq := Lib.hid (HBX.out.drewN nq)
            have HBYq := Lib.hid (HBY.out.drewN nq)
            have HFq := Lib.hid (HFR.out.drewN nq)
            have cxq : (wr.drewN nq).cell? ⟨w.heap.size, k, none⟩ = some (.int .u8 (x.toNat : Int)) := cx
            have cyq : (wr.drewN nq).cell? ⟨w.heap.size + 1, k, none⟩ = some (.int .u8 (y.toNat : Int)) := cy
            clear HBX HBY HFR HWR cx cy HT HGA HGB
            generalize wr.drewN nq = wq at *
            go_wp2
            go_quiet (fail)
            have HBX1 := Lib.hid (HBXq.out.drewN nq)
            have HBY1 := Lib.hid (HBYq.out.drewN nq)
            have HF1 := Lib.hid (HFq.out.drewN nq)
            clear HBXq HBYq HFq cxq cyq
            generalize wq.drewN nq = w1 at *
            have heqh := hash_eql a b' HA.out HW.out.1
            rw [HEQ.out] at heqh
            have hless1 := less_any a b' HA.out HW.out.1 w1
            rw [HL1.out] at hless1
            have hless2 := less_any b' a HW.out.1 HA.out
            have HLS1 := Lib.hid hless1
            have HLS2 := Lib.hid hless2
            clear hless1 hless2
            obtain ⟨h32a1, haga1⟩ := has32_blk HBX1.out HA.out
            obtain ⟨h32b1, hagb1⟩ := has32_blk HBY1.out HW.out.1
            go_wp2_with fail
            refine HLS1.out.mono ?_
            rintro e w2 ⟨rfl, hf2⟩
            have HBX2 := Lib.hid (HBX1.out.keep hf2 (by simp))
            have HBY2 := Lib.hid (HBY1.out.keep hf2 (by simp))
            have HF2 := Lib.hid (HF1.out.trans hf2 (by simp))
            clear hf2 h32a1 h32b1 haga1 hagb1
            obtain ⟨h32a2, haga2⟩ := has32_blk HBX2.out HA.out
            obtain ⟨h32b2, hagb2⟩ := has32_blk HBY2.out HW.out.1
            go_wp2_with fail
            refine (HLS2.out w2).mono ?_
            rw [HL2.out]
            rintro e w3 ⟨rfl, hf3⟩
            have HF3 := Lib.hid (HF2.out.trans hf3 (by simp))
            clear hf3 h32a2 h32b2 haga2 hagb2
            go_wp2_with fail
            refine (shawakes_any w3 (HK.out.keep HF3.out (by simp))).mono ?_
            rintro e w4 ⟨rfl, hf4⟩
            have HF4 := Lib.hid (HF3.out.trans hf4 (by simp))
            clear hf4
            go_wp2
            go_ret
            exact ⟨rfl, HF4.out⟩
          · have hd : decide (x.toNat < y.toNat) = false := by
              have : ¬ x.toNat < y.toNat := fun h => hlt2 (UInt8.lt_iff_toNat_lt.2 h)
              simpa using this
            have HL1 : Hid (lessB a b' = false) := Lib.hid (by rw [hl1]; simpa using hlt2)
            have HL2 : Hid (lessB b' a = true) := Lib.hid (by rw [hl2]; simpa using hlt2)
            clear hl1 hl2 hlt2
            go_wp2
            go_quiet (fail)
            have HBXq := Lib.hid (HBX.out.drewN nq)
            have HBYq := Lib.hid (HBY.out.drewN nq)
            have HFq := Lib.hid (HFR.out.drewN nq)
            have cxq : (wr.drewN nq).cell? ⟨w.heap.size, k, none⟩ = some (.int .u8 (x.toNat : Int)) := cx
            have cyq : (wr.drewN nq).cell? ⟨w.heap.size + 1, k, none⟩ = some (.int .u8 (y.toNat : Int)) := cy
            clear HBX HBY HFR HWR cx cy HT HGA HGB
            generalize wr.drewN nq = wq at *
            go_wp2
            go_quiet (fail)
            have HBX1 := Lib.hid (HBXq.out.drewN nq)
            have HBY1 := Lib.hid (HBYq.out.drewN nq)
            have HF1 := Lib.hid (HFq.out.drewN nq)
            clear HBXq HBYq HFq cxq cyq
            generalize wq.drewN nq = w1 at *
            have heqh := hash_eql a b' HA.out HW.out.1
            rw [HEQ.out] at heqh
            have hless1 := less_any a b' HA.out HW.out.1 w1
            rw [HL1.out] at hless1
            have hless2 := less_any b' a HW.out.1 HA.out
            have HLS1 := Lib.hid hless1
            have HLS2 := Lib.hid hless2
            clear hless1 hless2
            obtain ⟨h32a1, haga1⟩ := has32_blk HBX1.out HA.out
            obtain ⟨h32b1, hagb1⟩ := has32_blk HBY1.out HW.out.1
            go_wp2_with fail
            refine HLS1.out.mono ?_
            rintro e w2 ⟨rfl, hf2⟩
            have HBX2 := Lib.hid (HBX1.out.keep hf2 (by simp))
            have HBY2 := Lib.hid (HBY1.out.keep hf2 (by simp))
            have HF2 := Lib.hid (HF1.out.trans hf2 (by simp))
            clear hf2 h32a1 h32b1 haga1 hagb1
            obtain ⟨h32a2, haga2⟩ := has32_blk HBX2.out HA.out
            obtain ⟨h32b2, hagb2⟩ := has32_blk HBY2.out HW.out.1
            go_wp2_with fail
            refine (HLS2.out w2).mono ?_
            rw [HL2.out]
            rintro e w3 ⟨rfl, hf3⟩
            have HF3 := Lib.hid (HF2.out.trans hf3 (by simp))
            clear hf3 h32a2 h32b2 haga2 hagb2
            go_wp2_with fail
            refine (shawakes_any w3 (HK.out.keep HF3.out (by simp))).mono ?_
            rintro e w4 ⟨rfl, hf4⟩
            have HF4 := Lib.hid (HF3.out.trans hf4 (by simp))
            clear hf4
            go_wp2
            go_ret
            exact ⟨rfl, HF4.out⟩
      · have hk3 : k = 32 := by omega
        have hab : a = b' := by
          have h := HT.out
          rw [List.take_of_length_le (by have := HA.out; omega), List.take_of_length_le (by have := HW.out.1; omega)] at h
          exact h
        have HL1 : Hid (lessB a b' = false) := Lib.hid (by rw [← hab]; exact lessB_self a)
        have HEQ : Hid (decide (a = b') = true) := Lib.hid (by rw [← hab]; simp)
        have hk32 : (32 : Int) ≤ k := by omega
        clear hab hk3 hlt
        have HBX1 := HBX
        have HBY1 := HBY
        have HF1 := HFR
        clear HBX HBY HFR HWR HT
        generalize wr = w1 at *
        have heqh := hash_eql a b' HA.out HW.out.1
        rw [HEQ.out] at heqh
        have hless1 := less_any a b' HA.out HW.out.1 w1
        rw [HL1.out] at hless1
        have hless2 := less_any b' a HW.out.1 HA.out
        have HLS1 := Lib.hid hless1
        have HLS2 := Lib.hid hless2
        clear hless1 hless2
        obtain ⟨h32a1, haga1⟩ := has32_blk HBX1.out HA.out
        obtain ⟨h32b1, hagb1⟩ := has32_blk HBY1.out HW.out.1
        go_wp2_with fail
        refine HLS1.out.mono ?_
        rintro e w2 ⟨rfl, hf2⟩
        have HBX2 := Lib.hid (HBX1.out.keep hf2 (by simp))
        have HBY2 := Lib.hid (HBY1.out.keep hf2 (by simp))
        have HF2 := Lib.hid (HF1.out.trans hf2 (by simp))
        clear hf2 h32a1 h32b1 haga1 hagb1
        obtain ⟨h32a2, haga2⟩ := has32_blk HBX2.out HA.out
        obtain ⟨h32b2, hagb2⟩ := has32_blk HBY2.out HW.out.1
        go_wp2_with fail
        refine (shawakes_any w2 (HK.out.keep HF2.out (by simp))).mono ?_
        rintro e w4 ⟨rfl, hf4⟩
        have HF4 := Lib.hid (HF2.out.trans hf4 (by simp))
        clear hf4
        go_wp2
        go_ret
        exact ⟨rfl, HF4.out⟩
  · go_wp2_with (first
        | (refine wpList_load_row rfl 26 _ rfl w.heap.size rfl 26 X _ _ HBA.out Tryd.underlying26 rfl (by rw [hash_sizeS, ← HX.out, HSZ.out a HA.out]) ?_)
        | (refine wpList_store_row rfl 26 _ _ rfl (w.heap.size + 1) X rfl rfl 26 Y HBB.out (by rw [hash_sizeS, ← HX.out, HSZ.out a HA.out]) (by rw [← HX.out, ← HY.out, HSZ.out a HA.out, HSZ.out b HB.out]) (by rw [← HX.out]; exact HONE.out a) ?_))
    obtain ⟨b', hb', hb1, hb2, hf⟩ : ∃ b' : List UInt8, b'.length = 32 ∧ Blk (wb.setRow (w.heap.size + 1) X) w.heap.size 26 (a.map by8).toArray ∧ Blk (wb.setRow (w.heap.size + 1) X) (w.heap.size + 1) 26 (b'.map by8).toArray ∧ Fr [] w (wb.setRow (w.heap.size + 1) X) :=
      ⟨a, HA.out, by rw [HX.out]; exact HBA.out.keep (setRow_fr _ _ _) (by simp), by rw [HX.out]; exact setRow_blk HBB.out X, HF.out.trans (setRow_fr _ _ _) (fun x hx hl => by simp at hx; omega)⟩
    have HW := Lib.hid (And.intro hb' (And.intro hb1 (And.intro hb2 hf)))
    clear hb' hb1 hb2 hf HBA HBB HF
    generalize wb.setRow (w.heap.size + 1) X = wb at *
    go_loopw [7, 11] (fun s7 i wr => ∃ (k q : Nat), k ≤ 32 ∧ i = .int .i64 k ∧ s7 = .bool false ∧ a.take k = b'.take k ∧ wr = wb.drewN q) (fun _ i _ => 32 - (intOf i).toNat)
    case atStart => exact ⟨0, 0, by omega, rfl, rfl, by simp, rfl⟩
    case round =>
      obtain ⟨k, q, hk, rfl, rfl, ht, hwr⟩ := hrel
      have HWR := Lib.hid hwr
      have HT := Lib.hid ht
      clear hwr ht
      have HBX : Hid (Blk wr w.heap.size 26 (a.map by8).toArray) := Lib.hid (by rw [HWR.out]; exact HW.out.2.1.drewN q)
      have HBY : Hid (Blk wr (w.heap.size + 1) 26 (b'.map by8).toArray) := Lib.hid (by rw [HWR.out]; exact HW.out.2.2.1.drewN q)
      have HFR : Hid (Fr [] w wr) := Lib.hid (by rw [HWR.out]; exact HW.out.2.2.2.drewN q)
      by_cases hlt : k < 32
      · have hka : k < a.length := by rw [HA.out]; exact hlt
        have hkb : k < b'.length := by rw [HW.out.1]; exact hlt
        have cx := HBX.out.byte hka
        have cy := HBY.out.byte hkb
        have HGA : Hid (a[k]? = some (a.getD k 0)) := Lib.hid (by rw [List.getD, List.getElem?_eq_getElem hka]; rfl)
        have HGB : Hid (b'[k]? = some (b'.getD k 0)) := Lib.hid (by rw [List.getD, List.getElem?_eq_getElem hkb]; rfl)
        generalize a.getD k 0 = x at *
        generalize b'.getD k 0 = y at *
        have hk0 : (0 : Int) ≤ k := by omega
        have hk32 : (k : Int) < 32 := by omega
        clear hka hkb
        by_cases hxy : x = y
        · have hne : ((x.toNat : Int) != (y.toNat : Int)) = false := by rw [hxy]; simp
          have HXY := Lib.hid hxy
          clear hxy
          go_wp2
          go_quiet (fail)
          go_wp2
          go_roundw
          case rel => exact ⟨k + 1, q + nq, by omega, by go_num, rfl, take_eq_succ HT.out HGA.out HGB.out HXY.out, by rw [HWR.out, World.drewN_drewN]⟩
          case measure => simp [intOf]; omega
        · obtain ⟨hl1, hl2, heq⟩ := lessB_at HT.out HGA.out HGB.out hxy
          have hne : ((x.toNat : Int) != (y.toNat : Int)) = true := by
            simp only [bne_iff_ne, ne_eq]
            intro h
            exact hxy (UInt8.toNat_inj.1 (by omega))
          have HEQ := Lib.hid heq
          clear hxy heq
          by_cases hlt2 : x < y
          · have hd : decide (x.toNat < y.toNat) = true := by
              have := UInt8.lt_iff_toNat_lt.1 hlt2
              simpa using this
            have HL1 : Hid (lessB a b' = true) := Lib.hid (by rw [hl1]; simpa using hlt2)
            have HL2 : Hid (lessB b' a = false) := Lib.hid (by rw [hl2]; simpa using hlt2)
            clear hl1 hl2 hlt2
            go_wp2
            go_quiet (fail)
            have HBXq := Lib.hid (HBX.out.drewN nq)
            have HBYq := Lib.hid (HBY.out.drewN nq)
            have HFq := Lib.hid (HFR.out.drewN nq)
            have cxq : (wr.drewN nq).cell? ⟨w.heap.size, k, none⟩ = some (.int .u8 (x.toNat : Int)) := cx
            have cyq : (wr.drewN nq).cell? ⟨w.heap.size + 1, k, none⟩ = some (.int .u8 (y.toNat : Int)) := cy
            clear HBX HBY HFR HWR cx cy HT HGA HGB
            generalize wr.drewN nq = wq at *
            go_wp2
            go_quiet (fail)
            have HBX1 := Lib.hid (HBXq.out.drewN nq)
            have HBY1 := Lib.hid (HBYq.out.drewN nq)
            have HF1 := Lib.hid (HFq.out.drewN nq)
            clear HBXq HBYq HFq cxq cyq
            generalize wq.drewN nq = w1 at *
            have heqh := hash_eql a b' HA.out HW.out.1
            rw [HEQ.out] at heqh
            have hless1 := less_any a b' HA.out HW.out.1 w1
            rw [HL1.out] at hless1
            have hless2 := less_any b' a HW.out.1 HA.out
            have HLS1 := Lib.hid hless1
            have HLS2 := Lib.hid hless2
            clear hless1 hless2
            obtain ⟨h32a1, haga1⟩ := has32_blk HBX1.out HA.out
            obtain ⟨h32b1, hagb1⟩ := has32_blk HBY1.out HW.out.1
            go_wp2_with fail
            refine HLS1.out.mono ?_
            rintro e w2 ⟨rfl, hf2⟩
            have HBX2 := Lib.hid (HBX1.out.keep hf2 (by simp))
            have HBY2 := Lib.hid (HBY1.out.keep hf2 (by simp))
            have HF2 := Lib.hid (HF1.out.trans hf2 (by simp))
            clear hf2 h32a1 h32b1 haga1 hagb1
            obtain ⟨h32a2, haga2⟩ := has32_blk HBX2.out HA.out
            obtain ⟨h32b2, hagb2⟩ := has32_blk HBY2.out HW.out.1
            go_wp2_with fail
            refine (HLS2.out w2).mono ?_
            rw [HL2.out]
            rintro e w3 ⟨rfl, hf3⟩
            have HF3 := Lib.hid (HF2.out.trans hf3 (by simp))
            clear hf3 h32a2 h32b2 haga2 hagb2
            go_wp2_with fail
            refine (shawakes_any w3 (HK.out.keep HF3.out (by simp))).mono ?_
            rintro e w4 ⟨rfl, hf4⟩
            have HF4 := Lib.hid (HF3.out.trans hf4 (by simp))
            clear hf4
            go_wp2
            go_ret
            exact ⟨rfl, HF4.out⟩
          · have hd : decide (x.toNat < y.toNat) = false := by
              have : ¬ x.toNat < y.toNat := fun h => hlt2 (UInt8.lt_iff_toNat_lt.2 h)
              simpa using this
            have HL1 : Hid (lessB a b' = false) := Lib.hid (by rw [hl1]; simpa using hlt2)
            have HL2 : Hid (lessB b' a = true) := Lib.hid (by rw [hl2]; simpa using hlt2)
            clear hl1 hl2 hlt2
            go_wp2
            go_quiet (fail)
            have HBXq := Lib.hid (HBX.out.drewN nq)
            have HBYq := Lib.hid (HBY.out.drewN nq)
            have HFq := Lib.hid (HFR.out.drewN nq)
            have cxq : (wr.drewN nq).cell? ⟨w.heap.size, k, none⟩ = some (.int .u8 (x.toNat : Int)) := cx
            have cyq : (wr.drewN nq).cell? ⟨w.heap.size + 1, k, none⟩ = some (.int .u8 (y.toNat : Int)) := cy
            clear HBX HBY HFR HWR cx cy HT HGA HGB
            generalize wr.drewN nq = wq at *
            go_wp2
            go_quiet (fail)
            have HBX1 := Lib.hid (HBXq.out.drewN nq)
            have HBY1 := Lib.hid (HBYq.out.drewN nq)
            have HF1 := Lib.hid (HFq.out.drewN nq)
            clear HBXq HBYq HFq cxq cyq
            generalize wq.drewN nq = w1 at *
            have heqh := hash_eql a b' HA.out HW.out.1
            rw [HEQ.out] at heqh
            have hless1 := less_any a b' HA.out HW.out.1 w1
            rw [HL1.out] at hless1
            have hless2 := less_any b' a HW.out.1 HA.out
            have HLS1 := Lib.hid hless1
            have HLS2 := Lib.hid hless2
            clear hless1 hless2
            obtain ⟨h32a1, haga1⟩ := has32_blk HBX1.out HA.out
            obtain ⟨h32b1, hagb1⟩ := has32_blk HBY1.out HW.out.1
            go_wp2_with fail
            refine HLS1.out.mono ?_
            rintro e w2 ⟨rfl, hf2⟩
            have HBX2 := Lib.hid (HBX1.out.keep hf2 (by simp))
            have HBY2 := Lib.hid (HBY1.out.keep hf2 (by simp))
            have HF2 := Lib.hid (HF1.out.trans hf2 (by simp))
            clear hf2 h32a1 h32b1 haga1 hagb1
            obtain ⟨h32a2, haga2⟩ := has32_blk HBX2.out HA.out
            obtain ⟨h32b2, hagb2⟩ := has32_blk HBY2.out HW.out.1
            go_wp2_with fail
            refine (HLS2.out w2).mono ?_
            rw [HL2.out]
            rintro e w3 ⟨rfl, hf3⟩
            have HF3 := Lib.hid (HF2.out.trans hf3 (by simp))
            clear hf3 h32a2 h32b2 haga2 hagb2
            go_wp2_with fail
            refine (shawakes_any w3 (HK.out.keep HF3.out (by simp))).mono ?_
            rintro e w4 ⟨rfl, hf4⟩
            have HF4 := Lib.hid (HF3.out.trans hf4 (by simp))
            clear hf4
            go_wp2
            go_ret
            exact ⟨rfl, HF4.out⟩
      · have hk3 : k = 32 := by omega
        have hab : a = b' := by
          have h := HT.out
          rw [List.take_of_length_le (by have := HA.out; omega), List.take_of_length_le (by have := HW.out.1; omega)] at h
          exact h
        have HL1 : Hid (lessB a b' = false) := Lib.hid (by rw [← hab]; exact lessB_self a)
        have HEQ : Hid (decide (a = b') = true) := Lib.hid (by rw [← hab]; simp)
        have hk32 : (32 : Int) ≤ k := by omega
        clear hab hk3 hlt
        have HBX1 := HBX
        have HBY1 := HBY
        have HF1 := HFR
        clear HBX HBY HFR HWR HT
        generalize wr = w1 at *
        have heqh := hash_eql a b' HA.out HW.out.1
        rw [HEQ.out] at heqh
        have hless1 := less_any a b' HA.out HW.out.1 w1
        rw [HL1.out] at hless1
        have hless2 := less_any b' a HW.out.1 HA.out
        have HLS1 := Lib.hid hless1
        have HLS2 := Lib.hid hless2
        clear hless1 hless2
        obtain ⟨h32a1, haga1⟩ := has32_blk HBX1.out HA.out
        obtain ⟨h32b1, hagb1⟩ := has32_blk HBY1.out HW.out.1
        go_wp2_with fail
        refine HLS1.out.mono ?_
        rintro e w2 ⟨rfl, hf2⟩
        have HBX2 := Lib.hid (HBX1.out.keep hf2 (by simp))
        have HBY2 := Lib.hid (HBY1.out.keep hf2 (by simp))
        have HF2 := Lib.hid (HF1.out.trans hf2 (by simp))
        clear hf2 h32a1 h32b1 haga1 hagb1
        obtain ⟨h32a2, haga2⟩ := has32_blk HBX2.out HA.out
        obtain ⟨h32b2, hagb2⟩ := has32_blk HBY2.out HW.out.1
        go_wp2_with fail
        refine (shawakes_any w2 (HK.out.keep HF2.out (by simp))).mono ?_
        rintro e w4 ⟨rfl, hf4⟩
        have HF4 := Lib.hid (HF2.out.trans hf4 (by simp))
        clear hf4
        go_wp2
        go_ret
        exact ⟨rfl, HF4.out⟩
namespace shaLess
open Go.ChangeShapes Go.WideShapes Go.ChangeAt
open Go.ChangeMaps (open_string shut_string)
set_option linter.unusedVariables false
set_option maxRecDepth 100000 in
set_option maxHeartbeats 2000000 in
theorem lifted (os : Os) (started : os.Started) (H : Type) (enc : TypeId × Value → H) :
    ReturnsInHanded {} Tryd.checked os 6 .any (fun w args => (Rows.shaLessSpec.pre enc Tryd.prog Tryd.f6 [] false w args ∧ laidMetH Tryd.prog [("gavel/sha.roundWords", Rows.laid_gavel_sha_roundWords)] w) ∧ sizedMet enc Tryd.prog Tryd.f6 (OpenSpec.ofChange Rows.shaLessSpec) false w args)
      (Rows.shaLessSpec.post enc Tryd.prog Tryd.f6 false true false false) := by
  refine returnsInHanded_of_change_and (C := Tryd.checked) (X := fun w _ => laidMetH Tryd.prog [("gavel/sha.roundWords", Rows.laid_gavel_sha_roundWords)] w) (fun _ _ _ hh h => h.of_heap hh) own started (by kernel_rfl) Tryd.func6
    (ChangeSpec.witness_shaped (enc := enc) (C := Tryd.checked) (os := os) (X := fun w _ => laidMetH Tryd.prog [("gavel/sha.roundWords", Rows.laid_gavel_sha_roundWords)] w) false (World.doorLaid Tryd.prog 14 os) #[.agg zeroH, .agg zeroH, .bool false] 8 rfl (World.shaped_of_RefB (by kernel_rfl) (by kernel_rfl)) (by kernel_rfl) (by kernel_rfl) (by kernel_rfl) (door_met os _)) ?_
  intro W base args ds gs before hval0 hW _ _ hL _
  have hval : ∀ (j : Nat) t v, Tryd.f6.params[j]? = some t → args[j]? = some v → Value.okWide Tryd.prog W .any base t v := hval0
  have hW' := hW
  obtain ⟨p, q, hA0, hV, rfl, hfz, hnd⟩ := hW
  have hA : DataW.TrodAll enc Tryd.prog W 0 (fun _ => true) true Tryd.f6.params.toList args.toList ds p := hA0
  rw [Tryd.params6] at hA hval
  obtain ⟨v0, vs0, d0, ds0, p0, q0, hargs, rfl, rfl, h0, r0⟩ := trodAll_cons hA
  obtain ⟨v1, vs1, d1, ds1, p1, q1, rfl, rfl, rfl, h1, r1⟩ := trodAll_cons r0
  obtain ⟨v2, vs2, d2, ds2, p2, q2, rfl, rfl, rfl, h2, r2⟩ := trodAll_cons r1
  obtain ⟨rfl, rfl, rfl⟩ := trodAll_nil r2
  obtain rfl : args = #[v0, v1, v2] := by cases args; simp_all
  obtain ⟨rfl, rfl⟩ := trodVars_none hV
  have k0 := h0
  have lt0 : ∀ x ∈ p0, x.block < W.heap.size := by obtain ⟨m, hm⟩ := k0; exact DataW.trod_lt m _ _ _ hm
  obtain ⟨l0, y0, e0⟩ := hash_open (hval 0 26 v0 rfl rfl) h0 rfl
  subst e0
  have k1 := h1
  have lt1 : ∀ x ∈ p1, x.block < W.heap.size := by obtain ⟨m, hm⟩ := k1; exact DataW.trod_lt m _ _ _ hm
  obtain ⟨l1, y1, e1⟩ := hash_open (hval 1 26 v1 rfl rfl) h1 rfl
  subst e1
  obtain ⟨n2, rfl, rfl, rfl⟩ := open_bool Tryd.underlying4 (hval 2 4 v2 rfl rfl) h2
  clear hA0 hval0
  refine (shaLess_walk W l0 y0 l1 y1 n2 (kw_of_laid hL)).mono fun e W' ⟨he, hg⟩ => ?_
  subst he
  have hb := hg.below_all
  exact ⟨_, rfl, _, _, _, [], _, [], hW', trodAll_mk1 (shut_bool Tryd.underlying4 _), (trodAll_cons_mk (Below.trod laidOut (by kernel_rfl) (of_decide_eq_true (by kernel_rfl)) k0 hb lt0) (trodAll_cons_mk (Below.trod laidOut (by kernel_rfl) (of_decide_eq_true (by kernel_rfl)) k1 hb lt1) (trodAll_cons_mk (shut_bool Tryd.underlying4 n2) trodAll_mk0))), rfl, hb.frame _, fun h => by cases h⟩
theorem over : Rows.shaLessRow.holds Tryd.pinned (OpenSpec.ofChange Rows.shaLessSpec) :=
  OpenClaim.holds_of_wide 6 Tryd.f6 rfl rfl rfl rfl rfl rfl rfl ⟨rfl, rfl, rfl, rfl, rfl⟩ rfl rfl rfl rfl rfl (by kernel_rfl) Tryd.func6 (by kernel_rfl)
    (of_decide_eq_true (by kernel_rfl)) (by unfold Func.isWrapper; first | (rw [if_pos (by decide +kernel)]; kernel_rfl) | (rw [if_neg (by decide +kernel)]; exact ⟨rfl, rfl⟩))
    (fun os started H enc _ => lifted os started H enc)
/-- the statement: the tied card -/
theorem proved : Rows.ShaLessCardSaid :=
  Claim7.holds_tied_plain_at .later [] [.data] true Rows.shaLessCard.stood.harness false
    over (fun _ h => by cases h) (by kernel_rfl) (fun _ h => by cases h) shaLess_row_tie rfl ⟨rfl, rfl⟩ (by kernel_rfl) rfl
    (fun f fn hf hfn => by
      obtain rfl : f = 6 := Option.some.inj ((show Tryd.prog.funcNamed "gavel/gavellaw02.ShaLess" = some 6 by kernel_rfl).symm.trans hf) |>.symm
      obtain rfl : fn = Tryd.f6 := (Option.some.inj (Tryd.func6.symm.trans hfn)).symm
      exact ⟨by kernel_rfl, fun j t ht => by
        rw [Tryd.params6] at ht
        have hm : t ∈ [26, 26, 4] := by simpa using Array.mem_of_getElem? ht
        have hall : ([26, 26, 4].all fun u => !Tryd.prog.wantsStandIn u) = true := by kernel_rfl
        exact (show Tryd.prog.wantsStandIn t = false by simpa using List.all_eq_true.1 hall t hm)⟩)
    (by kernel_rfl)
end shaLess
end Go.Proofs.YtefhphpnjgojaaaDoor
