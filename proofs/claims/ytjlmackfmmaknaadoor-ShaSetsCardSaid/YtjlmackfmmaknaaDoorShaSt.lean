/- The walk of ShaSets. -/
import Derived.Test.YtjlmackfmmaknaaDoorShaAp
import Derived.Test.YtjlmackfmmaknaaDoorLst2
import Derived.Test.YtjlmackfmmaknaaDoorEqX
namespace Go.Proofs.YtjlmackfmmaknaaDoor
open Go.RowKit
set_option maxRecDepth 100000

abbrev hcells (h : List UInt8) : List Value := h.map by8
def HashesIn (w : World) (A : Option Addr) (n : Nat) (l : List (List UInt8)) : Prop := Lst 32 hcells (fun _ h => h.length = 32) w A n l
theorem hashes_of_trod {H : Type} {enc : TypeId × Value → H} {w : World} {spare : Nat → Bool} {held : Bool} {fuel : Nat} {A : Option Addr} {len cap : Nat} {x : DataW H × List MemPlace} (h : DataW.trod enc Tryd.prog w 0 spare held fuel 34 [.slice A len cap] = some x) :
    ∃ l, HashesIn w A len l ∧ len ≤ cap ∧ cap ≤ maxLen :=
  lst_of_trod Tryd.underlying34 (by kernel_rfl) (fun fuel cs x h => hash_of_trod h) h
theorem el_hash : ElTy Tryd.prog 26 32 32 := ElTy.of (by kernel_rfl)

set_option maxHeartbeats 4000000 in
theorem shaSets_walk (w : World) (A : Option Addr) (n c : Nat) (l : List (List UInt8)) (hl : HashesIn w A n l) (hn : n ≤ c) (hc : c ≤ maxLen) (hK : KW w) :
    Calls Tryd.prog 4 #[.slice A n c] w fun e w' => e = .returned (.bool true) ∧ Fr [] w w' := by
  have HL := Lib.hid hl
  have HK := Lib.hid hK
  clear hl hK hn hc
  go_enter Tryd.func4, Tryd.ntmps4
  go_wp2_with fail
  refine (newSet_ex _).mono ?_
  rintro e w1 ⟨S1, g1, rfl, hs1, hf1, hn1⟩
  have HS1 := Lib.hid hs1
  have HF1 := Lib.hid hf1
  have HN1 := Lib.hid hn1
  have HSL := Lib.hid hs1.lt
  clear hs1 hf1 hn1
  go_wp2_with fail
  go_loopw [4, 5, 6, 7] (fun s4 i _ _ wr => ∃ (k : Nat) (A4 : Option Addr) (c4 : Nat) (L : List (List UInt8)), k ≤ n ∧ k ≤ 30 ∧ i = .int .i64 k ∧ s4 = .slice A4 L.length c4 ∧ L.length ≤ k ∧ (∀ h ∈ L, h.length = 32) ∧ Sok wr S1 g1 L ∧
      wr.ownsRow w1.heap.size 26 32 (.slice A4 L.length c4) L.length (L.flatMap hcells) ∧ Fr S1 w1 wr) (fun _ i _ _ _ => n - (intOf i).toNat)
  case atStart => exact ⟨0, none, 0, [], by omega, by omega, rfl, rfl, by simp, by simp, HS1.out, ⟨rfl, .inl ⟨rfl, rfl⟩⟩, Fr.refl _ _⟩
  case round =>
    obtain ⟨k, A4, c4, L, hkn, hk30, rfl, rfl, hLk, hLh, hs, ho, hf⟩ := hrel
    have HLK := Lib.hid hLk
    have HLH := Lib.hid hLh
    have HS := Lib.hid hs
    have HO := Lib.hid ho
    have HF := Lib.hid hf
    clear hLk hLh hs ho hf
    by_cases hlt : k < n ∧ k < 30
    · obtain ⟨hk1, hk2⟩ := hlt
      obtain ⟨ad, x, rfl, hx, _, hx32, hcell⟩ := HL.out.at hk1
      have HX := Lib.hid (fun W (hW : Fr [] w W) j v hv => hW.cell (hcell j v hv) (by simp))
      have HX32 := Lib.hid hx32
      have hk0 : (0 : Int) ≤ k := by omega
      clear hx hcell hx32
      go_wp2_with fail
      have HLI := Lib.hid (Lst.of_own (cells := hcells) (ok := fun _ _ => True) HO.out rfl (fun h hh => ⟨by show (h.map by8).length = 32; rw [List.length_map]; exact HLH.out h hh, trivial⟩))
      have HFW := Lib.hid (HF1.out.go HF.out (fun x hx => HN1.out x hx))
      obtain ⟨wo, hwo⟩ : ∃ wo, wo = wr := ⟨_, rfl⟩
      subst hwo
      go_loopw [6, 7, 23] (fun s6 _ s23 wz => ∃ (q : Nat), q ≤ L.length ∧ s23 = .int .i64 q ∧ s6 = .bool (decide (x ∈ L.take q)) ∧ Fr [] wo wz) (fun _ _ s _ => L.length - (intOf s).toNat)
      case atStart => exact ⟨0, by omega, rfl, by simp, Fr.refl _ _⟩
      case round =>
        obtain ⟨q, hq, rfl, rfl, hfq⟩ := hrel
        have HFQ := Lib.hid hfq
        clear hfq
        obtain ⟨wz, hwz⟩ : ∃ wz, wz = wr := ⟨_, rfl⟩
        subst hwz
        by_cases hql : q < L.length
        · obtain ⟨ad4, y, rfl, hy, hy32, _, hyc⟩ := HLI.out.at hql
          have HYM := Lib.hid hy
          have HYC := Lib.hid (fun W (hW : Fr [] wz W) j v hv => hW.cell (HFQ.out.cell (hyc j v hv) (by simp)) (by simp))
          have HXC := Lib.hid (fun W (hW : Fr [] wz W) => HX.out W (HFW.out.and (HFQ.out.and hW (by simp)) (by simp)))
          have HY32 := Lib.hid hy32
          have hq0 : (0 : Int) ≤ q := by omega
          have hq30 : q < 100 := by have := HLK.out; omega
          clear hy hyc hy32
          have hyx := fun W => hash_eql y x (by have := HY32.out; simpa using this) (by have := HX32.out; simpa using this) W
          have HYX := Lib.hid hyx
          clear hyx
          have htk : L.take (q + 1) = L.take q ++ [y] := by rw [List.take_add_one, HYM.out]; rfl
          have HTK := Lib.hid htk
          clear htk
          by_cases hin : x ∈ L.take q
          · rw [decide_eq_true hin]
            have HIN := Lib.hid hin
            clear hin
            go_upto_region 12 with (fail)
            refine wp_region_held_drew (S := Fr [] wz) (by kernel_rfl) (Fr.drew (Fr.refl _ wz)) (fun hHeld => ?_)
            refine run_at (i := 0) (v := ?_) rfl (by kernel_rfl) (by rfl) (fun _ _ _ h => h) hHeld (fun w1 hw1 => ?_) ?_
            rotate_left 1
            · skip
              go_simp
              (try (first | with_reducible rfl | (apply And.intro <;> rfl)))
            simp only [Act.put, List.setIfInBounds_toArray, List.set_cons_zero, List.set_cons_succ]
            refine run_at (i := 1) (v := ?_) rfl (by kernel_rfl) (by rfl) (fun _ _ _ h => h) hHeld (fun w1 hw1 => ?_) ?_
            rotate_left 1
            · skip
              go_simp
              (try (first | with_reducible rfl | (apply And.intro <;> rfl)))
            simp only [Act.put, List.setIfInBounds_toArray, List.set_cons_zero, List.set_cons_succ]
            refine skip_at (i := 2) rfl (by kernel_rfl) (fun _ _ _ h => h) (by rfl) hHeld ?_
            simp only [Act.put, List.setIfInBounds_toArray, List.set_cons_zero, List.set_cons_succ]
            refine skip_at (i := 3) rfl (by kernel_rfl) (fun _ _ _ h => h) (by rfl) hHeld ?_
            simp only [Act.put, List.setIfInBounds_toArray, List.set_cons_zero, List.set_cons_succ]
            refine skip_at (i := 4) rfl (by kernel_rfl) (fun _ _ _ h => h) (by rfl) hHeld ?_
            simp only [Act.put, List.setIfInBounds_toArray, List.set_cons_zero, List.set_cons_succ]
            refine skip_at (i := 5) rfl (by kernel_rfl) (fun _ _ _ h => h) (by rfl) hHeld ?_
            simp only [Act.put, List.setIfInBounds_toArray, List.set_cons_zero, List.set_cons_succ]
            refine skip_at (i := 6) rfl (by kernel_rfl) (fun _ _ _ h => h) (by rfl) hHeld ?_
            simp only [Act.put, List.setIfInBounds_toArray, List.set_cons_zero, List.set_cons_succ]
            refine skip_at (i := 7) rfl (by kernel_rfl) (fun _ _ _ h => h) (by rfl) hHeld ?_
            simp only [Act.put, List.setIfInBounds_toArray, List.set_cons_zero, List.set_cons_succ]
            refine skip_at (i := 8) rfl (by kernel_rfl) (fun _ _ _ h => h) (by rfl) hHeld ?_
            simp only [Act.put, List.setIfInBounds_toArray, List.set_cons_zero, List.set_cons_succ]
            refine skip_at (i := 9) rfl (by kernel_rfl) (fun _ _ _ h => h) (by rfl) hHeld ?_
            simp only [Act.put, List.setIfInBounds_toArray, List.set_cons_zero, List.set_cons_succ]
            refine skip_at (i := 10) rfl (by kernel_rfl) (fun _ _ _ h => h) (by rfl) hHeld ?_
            simp only [Act.put, List.setIfInBounds_toArray, List.set_cons_zero, List.set_cons_succ]
            refine run_at (i := 11) (v := ?_) rfl (by kernel_rfl) (by rfl) (fun _ _ _ h => h) hHeld (fun w1 hw1 => ?_) ?_
            rotate_left 1
            · skip
              go_simp
              (try (first | with_reducible rfl | (apply And.intro <;> rfl)))
            simp only [Act.put, List.setIfInBounds_toArray, List.set_cons_zero, List.set_cons_succ]
            refine run_at (i := 12) (v := ?_) rfl (by kernel_rfl) (by rfl) (fun _ _ _ h => h) hHeld (fun w1 hw1 => ?_) ?_
            rotate_left 1
            · skip
              go_simp
              (try (first | with_reducible rfl | (apply And.intro <;> rfl)))
            simp only [Act.put, List.setIfInBounds_toArray, List.set_cons_zero, List.set_cons_succ]
            refine wpAnyH_done (by kernel_rfl) ?_ _
            go_wp2
            go_roundw
            case rel => exact ⟨q + 1, by omega, by go_num, by rw [HTK.out]; simp [HIN.out], HFQ.out.drew⟩
            case measure => simp [intOf]; omega
          · rw [decide_eq_false hin]
            have HIN := Lib.hid hin
            clear hin
            go_upto_region 12 with (fail)
            refine wp_region_held_drew (S := Fr [] wz) (by kernel_rfl) (Fr.drew (Fr.refl _ wz)) (fun hHeld => ?_)
            refine run_at (i := 0) (v := ?_) rfl (by kernel_rfl) (by rfl) (fun _ _ _ h => h) hHeld (fun w1 hw1 => ?_) ?_
            rotate_left 1
            · skip
              go_simp
              (try (first | with_reducible rfl | (apply And.intro <;> rfl)))
            simp only [Act.put, List.setIfInBounds_toArray, List.set_cons_zero, List.set_cons_succ]
            refine run_at (i := 1) (v := ?_) rfl (by kernel_rfl) (by rfl) (fun _ _ _ h => h) hHeld (fun w1 hw1 => ?_) ?_
            rotate_left 1
            · skip
              go_simp
              (try (first | with_reducible rfl | (apply And.intro <;> rfl)))
            simp only [Act.put, List.setIfInBounds_toArray, List.set_cons_zero, List.set_cons_succ]
            refine run_at (i := 2) (v := ?_) rfl (by kernel_rfl) (by rfl) (fun _ _ _ h => h) hHeld (fun w1 hw1 => ?_) ?_
            rotate_left 1
            · skip
              go_simp
              (try (first | with_reducible rfl | (apply And.intro <;> rfl)))
            simp only [Act.put, List.setIfInBounds_toArray, List.set_cons_zero, List.set_cons_succ]
            refine run_at (i := 3) (v := ?_) rfl (by kernel_rfl) (by rfl) (fun _ _ _ h => h) hHeld (fun w1 hw1 => ?_) ?_
            rotate_left 1
            · skip
              go_simp
              (try (first | with_reducible rfl | (apply And.intro <;> rfl)))
            simp only [Act.put, List.setIfInBounds_toArray, List.set_cons_zero, List.set_cons_succ]
            refine run_at (i := 4) (v := ?_) rfl (by kernel_rfl) (by rfl) (fun _ _ _ h => h) hHeld (fun w1 hw1 => ?_) ?_
            rotate_left 1
            · skip
              go_simp
              (try (first | with_reducible rfl | (apply And.intro <;> rfl)))
            simp only [Act.put, List.setIfInBounds_toArray, List.set_cons_zero, List.set_cons_succ]
            refine cells_at (i := 5) rfl (by kernel_rfl) (by rfl) _ _ rfl _ rfl (hcells y) HYC.out (row_hash.of HY32.out) (fun _ _ _ h => h) hHeld ?_
            simp only [Act.put, List.setIfInBounds_toArray, List.set_cons_zero, List.set_cons_succ]
            refine run_at (i := 6) (v := ?_) rfl (by kernel_rfl) (by rfl) (fun _ _ _ h => h) hHeld (fun w1 hw1 => ?_) ?_
            rotate_left 1
            · skip
              go_simp
              (try (first | with_reducible rfl | (apply And.intro <;> rfl)))
            simp only [Act.put, List.setIfInBounds_toArray, List.set_cons_zero, List.set_cons_succ]
            refine run_at (i := 7) (v := ?_) rfl (by kernel_rfl) (by rfl) (fun _ _ _ h => h) hHeld (fun w1 hw1 => ?_) ?_
            rotate_left 1
            · skip
              go_simp
              (try (first | with_reducible rfl | (apply And.intro <;> rfl)))
            simp only [Act.put, List.setIfInBounds_toArray, List.set_cons_zero, List.set_cons_succ]
            refine run_at (i := 8) (v := ?_) rfl (by kernel_rfl) (by rfl) (fun _ _ _ h => h) hHeld (fun w1 hw1 => ?_) ?_
            rotate_left 1
            · skip
              go_simp
              (try (first | with_reducible rfl | (apply And.intro <;> rfl)))
            simp only [Act.put, List.setIfInBounds_toArray, List.set_cons_zero, List.set_cons_succ]
            refine cells_at (i := 9) rfl (by kernel_rfl) (by rfl) _ _ rfl _ rfl (hcells x) HXC.out (row_hash.of (by simpa using HX32.out)) (fun _ _ _ h => h) hHeld ?_
            simp only [Act.put, List.setIfInBounds_toArray, List.set_cons_zero, List.set_cons_succ]
            refine eql_at (i := 10) rfl (by kernel_rfl) (by rfl) _ _ _ _ rfl _ _ rfl rfl _ (by kernel_rfl) (HYX.out) (fun _ _ _ h => h) hHeld ?_
            simp only [Act.put, List.setIfInBounds_toArray, List.set_cons_zero, List.set_cons_succ]
            refine run_at (i := 11) (v := ?_) rfl (by kernel_rfl) (by rfl) (fun _ _ _ h => h) hHeld (fun w1 hw1 => ?_) ?_
            rotate_left 1
            · skip
              go_simp
              (try (first | with_reducible rfl | (apply And.intro <;> rfl)))
            simp only [Act.put, List.setIfInBounds_toArray, List.set_cons_zero, List.set_cons_succ]
            refine run_at (i := 12) (v := ?_) rfl (by kernel_rfl) (by rfl) (fun _ _ _ h => h) hHeld (fun w1 hw1 => ?_) ?_
            rotate_left 1
            · skip
              go_simp
              (try (first | with_reducible rfl | (apply And.intro <;> rfl)))
            simp only [Act.put, List.setIfInBounds_toArray, List.set_cons_zero, List.set_cons_succ]
            refine wpAnyH_done (by kernel_rfl) ?_ _
            go_wp2
            go_roundw
            case rel =>
              refine ⟨q + 1, by omega, by go_num, ?_, HFQ.out.and hHeld (by simp)⟩
              rw [HTK.out]
              have h := HIN.out
              congr 1
              rw [Bool.eq_iff_iff]
              simp [h]
              exact eq_comm
            case measure => simp [intOf]; omega
        · have hqe : q = L.length := by omega
          rw [hqe, List.take_length]
          have HFZ := Lib.hid (HFW.out.and HFQ.out (by simp))
          have hlt' : decide (q < L.length) = false := by simp; omega
          have HS := Lib.hid (HS.out.keep HFQ.out (by simp))
          have HO := Lib.hid (own_keep HO.out HFQ.out (by simp))
          have HF := Lib.hid (HF.out.trans HFQ.out (by simp))
          have HAX := Lib.hid (fun W S g l k => add_any W S g l k x (by have := HX32.out; simpa using this))
          have HHX := Lib.hid (fun W S g l k => has_any W S g l k x (by have := HX32.out; simpa using this))
          have HL30 : Hid (L.length < 30) := Lib.hid (by have := HLK.out; omega)
          subst hqe
          clear hql hq hlt' HFQ HLI
          by_cases hin : x ∈ L
          · rw [decide_eq_true hin]
            have HIN := Lib.hid hin
            clear hin
            have hd : decide (x ∈ L) = true := decide_eq_true HIN.out
            have HD := Lib.hid hd
            have HAD : Hid (adds L x = L) := Lib.hid (if_pos HIN.out)
            clear hd
            go_wp2_with (first | (refine wpList_cells rfl 26 _ rfl _ rfl (hcells x) (HX.out _ (HF1.out.go HF.out (fun x hx => HN1.out x hx))) (row_hash.of (by simpa using HX32.out)) ?_))
            have hcall := HHX.out _ _ _ _ HS.out
            rw [HD.out] at hcall
            refine hcall.mono ?_
            clear hcall
            rintro e_ wb ⟨rfl, hfz⟩
            have HS := Lib.hid (HS.out.keep hfz (by simp))
            have HO := Lib.hid (own_keep HO.out hfz (by simp))
            have HF := Lib.hid (HF.out.trans hfz (by simp))
            clear hfz
            go_wp2_with (first | (refine wpList_cells rfl 26 _ rfl _ rfl (hcells x) (HX.out _ (HF1.out.go HF.out (fun x hx => HN1.out x hx))) (row_hash.of (by simpa using HX32.out)) ?_))
            have hcall := HAX.out _ _ _ _ HS.out (by have := HL30.out; omega)
            rw [HD.out, HAD.out] at hcall
            refine hcall.mono ?_
            clear hcall
            rintro e_ wd ⟨rfl, hsz, hfz⟩
            have HS := Lib.hid hsz
            have HO := Lib.hid (own_keep HO.out hfz (fun k hk hm => by have := (HO.out.lt k hk).1; have := HSL.out k hm; omega))
            have HF := Lib.hid (HF.out.trans hfz (fun x hx _ => hx))
            clear hfz hsz
            go_wp2_with (first | (refine wpList_cells rfl 26 _ rfl _ rfl (hcells x) (HX.out _ (HF1.out.go HF.out (fun x hx => HN1.out x hx))) (row_hash.of (by simpa using HX32.out)) ?_))
            have hcall := HHX.out _ _ _ _ HS.out
            rw [HD.out] at hcall
            refine hcall.mono ?_
            clear hcall
            rintro e_ we ⟨rfl, hfz⟩
            have HS := Lib.hid (HS.out.keep hfz (by simp))
            have HO := Lib.hid (own_keep HO.out hfz (by simp))
            have HF := Lib.hid (HF.out.trans hfz (by simp))
            clear hfz
            go_wp2_with fail
            refine (setLen_any _ _ _ _ HS.out).mono ?_
            rintro e_ wg ⟨rfl, rfl⟩
            go_wp2
            go_roundw
            case rel => exact ⟨k + 1, A4, c4, L, by omega, by omega, by go_num, rfl, by have := HLK.out; omega, HLH.out, HS.out, HO.out, HF.out⟩
            case measure => simp [intOf]; omega
          · rw [decide_eq_false hin]
            have HIN := Lib.hid hin
            clear hin
            have hd : decide (x ∈ L) = false := decide_eq_false HIN.out
            have HD := Lib.hid hd
            have HAD : Hid (adds L x = L ++ [x]) := Lib.hid (if_neg HIN.out)
            have HD2 : Hid (decide (x ∈ L ++ [x]) = true) := Lib.hid (by simp)
            clear hd
            go_wp2_with (first | (refine wpList_cells rfl 26 _ rfl _ rfl (hcells x) (HX.out _ (HF1.out.go HF.out (fun x hx => HN1.out x hx))) (row_hash.of (by simpa using HX32.out)) ?_))
            have hcall := HHX.out _ _ _ _ HS.out
            rw [HD.out] at hcall
            refine hcall.mono ?_
            clear hcall
            rintro e_ wb ⟨rfl, hfz⟩
            have HS := Lib.hid (HS.out.keep hfz (by simp))
            have HO := Lib.hid (own_keep HO.out hfz (by simp))
            have HF := Lib.hid (HF.out.trans hfz (by simp))
            clear hfz
            go_wp2_with (first | (refine wpList_cells rfl 26 _ rfl _ rfl (hcells x) (HX.out _ (HF1.out.go HF.out (fun x hx => HN1.out x hx))) (row_hash.of (by simpa using HX32.out)) ?_))
            have hcall := HAX.out _ _ _ _ HS.out (by have := HL30.out; omega)
            rw [HD.out, HAD.out] at hcall
            refine hcall.mono ?_
            clear hcall
            rintro e_ wd ⟨rfl, hsz, hfz⟩
            have HS := Lib.hid hsz
            have HO := Lib.hid (own_keep HO.out hfz (fun k hk hm => by have := (HO.out.lt k hk).1; have := HSL.out k hm; omega))
            have HF := Lib.hid (HF.out.trans hfz (fun x hx _ => hx))
            clear hfz hsz
            go_wp2_with (first | (refine wpList_cells rfl 26 _ rfl _ rfl (hcells x) (HX.out _ (HF1.out.go HF.out (fun x hx => HN1.out x hx))) (row_hash.of (by simpa using HX32.out)) ?_))
            have hcall := HHX.out _ _ _ _ HS.out
            rw [HD2.out] at hcall
            refine hcall.mono ?_
            clear hcall
            rintro e_ we ⟨rfl, hfz⟩
            have HS := Lib.hid (HS.out.keep hfz (by simp))
            have HO := Lib.hid (own_keep HO.out hfz (by simp))
            have HF := Lib.hid (HF.out.trans hfz (by simp))
            clear hfz
            have HCX : Hid ((hcells x).length = 32) := Lib.hid (by simpa using HX32.out)
            have HONE : Hid (∀ u ∈ hcells x, u.oneCell' = true) := Lib.hid (by8_one x)
            go_wp2_with (first | (refine wpList_cells rfl 26 _ rfl _ rfl (hcells x) (HX.out _ (HF1.out.go HF.out (fun x hx => HN1.out x hx))) (row_hash.of (by simpa using HX32.out)) ?_) | (refine wpList_build_one rfl 34 26 _ rfl Tryd.underlying34 (hcells x) 32 (by rw [HCX.out]; exact el_hash) rfl (by rw [HCX.out]; decide) (by rw [HCX.out]; decide) ?_) | (at_builtin; refine Stop.mk ?_))
            refine Stop.go ?_
            refine wpList_append_one rfl _ _ 34 26 rfl Tryd.underlying34 32 32 el_hash (by decide) w1.heap.size (.slice A4 L.length c4) L.length _ (hcells x) rfl (HO.out.alloc _) (by have := HF.out.size; simp; omega) HCX.out HONE.out we.heap.size 26 rfl (Blk.new _ _ _) (by have := HL30.out; omega) (by decide) ?_
            intro A9 c9 w9 ho9 hf9
            have hbs : ∀ y ∈ (Value.slice A4 L.length c4).ownBlock.toList, w1.heap.size ≤ y := fun y hy => (HO.out.lt y (by simpa using hy)).1
            have hlL : (L ++ [x]).length = L.length + 1 := by simp
            have HO9 : Hid (w9.ownsRow w1.heap.size 26 32 (.slice A9 (L ++ [x]).length c9) (L ++ [x]).length ((L ++ [x]).flatMap hcells)) := Lib.hid (by rw [hlL]; simpa using ho9)
            have hfe := ((Fr.refl [] we).alloc (Obj.cells (hcells x).toArray 26)).mono (T := (Value.slice A4 L.length c4).ownBlock.toList) (by simp)
            have hf9' := hfe.trans hf9 (fun y hy _ => hy)
            have HS9 := Lib.hid (HS.out.keep hf9' (fun y hy hm => by have := hbs y hm; have := HSL.out y hy; omega))
            have HF9 := Lib.hid (HF.out.trans hf9' (fun y hy hl => absurd hl (by have := hbs y hy; omega)))
            rw [← hlL]
            clear ho9 hf9 hfe hf9' hbs
            generalize hLx : L ++ [x] = Lx at *
            go_wp2_with fail
            refine (setLen_any _ _ _ _ HS9.out).mono ?_
            rintro e_ wg ⟨rfl, rfl⟩
            go_wp2
            go_roundw
            case rel =>
              refine ⟨k + 1, A9, c9, Lx, by omega, by omega, by go_num, by rw [hlL], by have := HLK.out; omega, ?_, HS9.out, HO9.out, HF9.out⟩
              intro h hh
              rw [← hLx] at hh
              rcases List.mem_append.1 hh with hh | hh
              · exact HLH.out h hh
              · rw [List.mem_singleton.1 hh]; simpa using HX32.out
            case measure => simp [intOf]; omega
    · have HFE := Lib.hid (HF1.out.go HF.out (fun x hx => HN1.out x hx))
      by_cases hkn' : k < n
      · have hk30' : k = 30 := by omega
        subst hk30'
        go_wp2_with fail
        refine (shawakes_any _ (HK.out.keep HFE.out (by simp))).mono ?_
        rintro e_ wf ⟨rfl, hff⟩
        have HFF := Lib.hid (HFE.out.and hff (by simp))
        clear hff
        go_wp2
        go_ret
        exact ⟨rfl, HFF.out⟩
      · have hd : decide (k < n) = false := by simp; omega
        have hd2 : decide ((k : Int) < (n : Int)) = false := by simp; omega
        clear hkn'
        go_wp2_with fail
        refine (shawakes_any _ (HK.out.keep HFE.out (by simp))).mono ?_
        rintro e_ wf ⟨rfl, hff⟩
        have HFF := Lib.hid (HFE.out.and hff (by simp))
        clear hff
        go_wp2
        go_ret
        exact ⟨rfl, HFF.out⟩
end Go.Proofs.YtjlmackfmmaknaaDoor
