/- Proved here: CodeNums' statement: for every number and every bound the law returns true. Conditions: none. -/
import Derived.Test.YtcnngdhjeihecaaCodec
import Derived.Test.YtcnngdhjeihecaaRd2
import Derived.Test.YtcnngdhjeihecaaOpen
import Derived.ProofKit
import Derived.OpenShut
import Derived.ShutString
namespace Go.Proofs.Ytcnngdhjeihecaa
open Go.RowKit

theorem enc_len_step (m : Nat) : (enc m).length = 1 + if m / 128 = 0 then 0 else (enc (m / 128)).length := by
  by_cases h : m < 128
  · rw [enc_small h, if_pos (by omega)]; rfl
  · rw [enc_great h, if_neg (by omega)]; simp; omega

set_option maxRecDepth 100000 in
set_option maxHeartbeats 2000000 in
theorem nums_walk (u : Nat) (hu : u < 18446744073709551616) (m : Int) (hm1 : -9223372036854775808 ≤ m) (hm2 : m < 9223372036854775808) (w : World) :
    Calls Try.prog 7 #[.int .u64 u, .int .i64 m] w fun e w' => e = .returned (.bool true) ∧ Fr [] w w' := by
  have HU := Lib.hid hu
  have HM1 := Lib.hid hm1
  have HM2 := Lib.hid hm2
  have HTEN := Lib.hid (enc_ten hu)
  have HPOS := Lib.hid (enc_pos u)
  clear hu hm1 hm2
  go_enter Try.func7, Try.ntmps7
  go_wp2_with fail
  refine (newWriter_any _).mono ?_
  rintro e w1 ⟨rfl, hw1, hf1⟩
  have HW1 := Lib.hid hw1
  have HF1 := Lib.hid hf1
  clear hf1 hw1
  go_wp2_with fail
  refine (num_any u HU.out w1 [w.heap.size] w.heap.size [] HW1.out (by simp)).mono ?_
  rintro e w2 ⟨rfl, S2, hw2, hf2, hs2⟩
  rw [List.nil_append] at hw2
  have HW2 := Lib.hid hw2
  have HF2 := Lib.hid (HF1.out.and hf2 (by simp))
  clear hf2 hs2 hw2
  go_wp2_with fail
  refine (bytes_any w2 _ _ _ HW2.out (by have := HTEN.out; omega)).mono ?_
  rintro e w3 ⟨A3, c3, rfl, hN⟩
  have HN3 := Lib.hid hN
  have HF3 := Lib.hid (HF2.out.and hN.2.1 (by simp))
  clear hN
  go_wp2
  go_loop [7, 8] (fun a x => ∃ (c y : Nat), a = .int .i64 c ∧ x = .int .u64 y ∧ c + (if y = 0 then 0 else (enc y).length) = (enc u).length ∧ c ≤ 10) (fun _ x => (intOf x).toNat)
  case atStart => exact ⟨1, u / 128, by go_num, by go_num, (enc_len_step u).symm, by omega⟩
  case round =>
    obtain ⟨c, y, rfl, rfl, hcy, hc10⟩ := hrel
    have HCY := Lib.hid hcy
    clear hcy
    by_cases hy : 0 < y
    · have hb : c + 1 ≤ 10 := by
        have h1 := HCY.out
        rw [if_neg (by omega)] at h1
        have := enc_pos y
        have := HTEN.out
        omega
      have hst : c + 1 + (if y / 128 = 0 then 0 else (enc (y / 128)).length) = (enc u).length := by
        have h1 := HCY.out
        rw [if_neg (by omega), enc_len_step y] at h1
        omega
      have HST := Lib.hid hst
      clear hst
      go_wp2
      go_round
      case rel => exact ⟨c + 1, y / 128, by go_num, by go_num, HST.out, by omega⟩
      case measure => simp [intOf]; omega
    · have hcl : c = (enc u).length := by
        have h1 := HCY.out
        rw [if_pos (by omega)] at h1
        omega
      have hy0 : y = 0 := by omega
      subst hy0
      have HCL := Lib.hid hcl
      have hne : (((enc u).length : Int) != (c : Int)) = false := by rw [hcl]; simp
      have hc0 : 0 < c := by rw [hcl]; exact HPOS.out
      clear hcl hy
      obtain ⟨j, rfl⟩ : ∃ j, c = j + 1 := ⟨c - 1, by omega⟩
      go_wp2_with fail
      refine (copy_any A3 _ c3 _ w3 HN3.out.by (by have := HTEN.out; omega)).mono ?_
      rintro e w4 ⟨A4, c4, rfl, hN4⟩
      have HF4 := Lib.hid (HF3.out.and hN4.2.1 (by simp))
      have HR3 := Lib.hid (HN3.out.by.keep hN4.2.1 (by simp))
      have hs4 := hN4.2.1.size
      obtain ⟨ad, b, rfl, hgb, hcb, hzb, hst⟩ := own_store hN4.1 (j := j) (by have := HCL.out; omega)
      have hj : j < (enc u).length := by have := HCL.out; omega
      have hcap := hN4.cap
      have HN4 := Lib.hid hN4
      have HST := Lib.hid hst
      have HGB := Lib.hid hgb
      clear hgb hst hN4
      have hs3 := HF3.out.size
      have hlt3 : ∀ k ∈ bk A3, k < w3.heap.size := HN3.out.lt
      obtain ⟨b', hx, hb'⟩ := u8_or128_any b
      obtain ⟨ho5, hf5⟩ := HST.out _ b' hx
      have hnew : ∀ k ∈ bk (some ad), w3.heap.size ≤ k := HN4.out.2.2
      have HO5 := Lib.hid ho5
      have HF5 := Lib.hid hf5
      have HNEW := Lib.hid hnew
      have HLT3 := Lib.hid hlt3
      have HDL := Lib.hid (dec_longer u b' hb')
      clear ho5 hf5 hnew hlt3 hx hb'
      go_wp2_with (at_builtin; refine Stop.mk ?_)
      refine Stop.go ?_
      refine wpList_append_bytes _ rfl (.tmp 43) (.tmp 44) _ rfl 5 Try.underlying23 info_u8 (.slice (some ad) (enc u).length c4) (enc u).length _ rfl (HO5.out.alloc _) (some ⟨w4.heap.size, 0, none⟩) 1 1 [0] rfl ?_ ?_ ?_
      · have h := Blk.new (w4.setCell (ad.add j) (Value.int IntKind.u8 (bits BinOp.or IntKind.u8 (b.toNat : Int) 128))) 5 #[Value.int IntKind.u8 0]
        exact By.one (by simpa using h) rfl
      · have := HTEN.out; omega
      intro A6 c6 w6 ho6 hg6 hat6
      have hF46 : Fr (bk (some ad)) w4 w6 := (HF5.out.alloc _).grown hg6 (fun k hk _ => by rw [bk_mem] at hk; exact hk)
      have HF6 := Lib.hid (HF4.out.and hF46 (fun x hx => by have := HNEW.out x hx; omega))
      have HR6 := Lib.hid (HR3.out.keep hF46 (fun a ha hm => by have h1 := HLT3.out a.block (by simp [bk, ha]); have h2 := HNEW.out _ hm; omega))
      have HO6 := Lib.hid ho6
      clear ho6 hg6 hat6 hF46 HO5 HF5 HST hcb hzb HR3 HN4 HF4 HGB HCY
      rw [show j + 1 = (enc u).length from HCL.out] at hne
      go_wp2_with fail
      refine (newReader_any A3 _ c3 (enc u) w6 HR6.out (by have := HTEN.out; omega)).mono ?_
      rintro e w7 ⟨g7, F7, rfl, hr7, hf7, hg7, hF7⟩
      have HR7 := Lib.hid hr7
      have HF7 := Lib.hid (HF6.out.and hf7 (by simp))
      have HO7 := Lib.hid (own_keep HO6.out hf7 (by simp))
      have HFF7 := Lib.hid hF7
      have hl7 := hr7.lt
      clear hr7 hf7 HO6 HR6 hF7
      go_wp2_with fail
      refine (newReader_any A6 _ c6 _ w7 (By.of_own HO7.out) (by have := HTEN.out; omega)).mono ?_
      rintro e w8 ⟨g8, F8, rfl, hr8, hf8, hg8, hF8⟩
      have HR8 := Lib.hid hr8
      have HR7 := Lib.hid (HR7.out.keep hf8 (by simp) (by simp))
      have HF8 := Lib.hid (HF7.out.and hf8 (by simp))
      have HFF8 := Lib.hid hF8
      have hl8 := hr8.lt
      clear hr8 hf8 hF8
      rw [show (enc u).length - 1 = j by have := HCL.out; omega] at HDL
      go_wp2_with fail
      refine (newReader_any (some ⟨w8.heap.size, 0, none⟩) 10 10 [255, 255, 255, 255, 255, 255, 255, 255, 255, 2] _ (By.blk [255, 255, 255, 255, 255, 255, 255, 255, 255, 2] (Blk.new _ _ _) rfl) (by omega)).mono ?_
      rintro e w9 ⟨g9, F9, rfl, hr9, hf9, hg9, hF9⟩
      have hf89 : Fr [] w8 w9 := ((Fr.refl [] w8).alloc _).trans hf9 (by simp)
      have hg9' : w8.heap.size ≤ g9 := by simp at hg9; omega
      have hF9' : ∀ k ∈ F9, w8.heap.size ≤ k := fun k hk => by have := (hF9 k hk).1; simp at this; omega
      have HR9 := Lib.hid hr9
      have HR8 := Lib.hid (HR8.out.keep hf89 (by simp) (by simp))
      have HR7 := Lib.hid (HR7.out.keep hf89 (by simp) (by simp))
      have HF9 := Lib.hid (HF8.out.and hf89 (by simp))
      have HFF9 := Lib.hid hF9'
      clear hr9 hf9 hf89 hg9 hF9 hF9'
      have hll : ((enc u).set j b' ++ [0]).length ≤ 1073741824 := by have := HTEN.out; simp; omega
      have HLL := Lib.hid hll
      clear hll
      go_wp2_with fail
      refine (rnum_bad w9 g8 F8 _ false HR8.out HLL.out HDL.out).mono ?_
      rintro e w10 ⟨rfl, hr10, hf10⟩
      have HR8 := Lib.hid hr10
      have HR7 := Lib.hid (HR7.out.keep hf10 (by simp; omega) (fun k hk => by have := (HFF7.out k hk).2; simp; omega))
      have HR9 := Lib.hid (HR9.out.keep hf10 (by simp; omega) (fun k hk => by have := HFF9.out k hk; simp; omega))
      have HF10 := Lib.hid (HF9.out.and hf10 (by have := HF6.out.size; have := HF7.out.size; simp; omega))
      clear hr10 hf10
      go_wp2_with fail
      refine (ok_any w10 g8 F8 _ _ HR8.out).mono ?_
      rintro e w10' ⟨rfl, rfl⟩
      go_wp2_with fail
      refine (rnum_bad w10 g9 F9 _ false HR9.out (by simp) dec_over).mono ?_
      rintro e w11 ⟨rfl, hr11, hf11⟩
      have HR9 := Lib.hid hr11
      have HR7 := Lib.hid (HR7.out.keep hf11 (by simp; omega) (fun k hk => by have := (HFF7.out k hk).2; simp; omega))
      have HF11 := Lib.hid (HF10.out.and hf11 (by have := HF6.out.size; have := HF7.out.size; simp; omega))
      clear hr11 hf11
      go_wp2_with fail
      refine (ok_any w11 g9 F9 _ _ HR9.out).mono ?_
      rintro e w11' ⟨rfl, rfl⟩
      have hde := Lib.hid (dec_enc HU.out [])
      rw [List.append_nil] at hde
      have hsz := HF6.out.size
      by_cases hum : (u : Int) ≤ m
      · go_wp2_with fail
        refine (rint_ok w11 g7 F7 _ false HR7.out (by have := HTEN.out; omega) u _ hde.out m hum HM2.out).mono ?_
        rintro e w12 ⟨rfl, hr12, hf12⟩
        have HR7 := Lib.hid hr12
        have HF12 := Lib.hid (HF11.out.and hf12 (by simp; omega))
        clear hr12 hf12
        have hw : IntKind.u64.wrap m = m := IntWalk.u64_in m ⟨by omega, by have := HM2.out; omega⟩
        have hw2 : IntKind.u64.wrap (u : Int) = u := IntWalk.u64_in u ⟨by omega, by have := HM2.out; omega⟩
        have hm0 : 0 ≤ m := by omega
        go_wp2_with fail
        refine (ok_any w12 g7 F7 _ _ HR7.out).mono ?_
        rintro e w12' ⟨rfl, rfl⟩
        go_wp2_with fail
        refine (wakes_any w12).mono ?_
        rintro e w13 ⟨rfl, hf13⟩
        have HF13 := Lib.hid (HF12.out.and hf13 (by simp))
        clear hf13
        go_wp2
        go_ret
        exact ⟨rfl, HF13.out⟩
      · go_wp2_with fail
        refine (rint_bad w11 g7 F7 _ false HR7.out (by have := HTEN.out; omega) m (.inr ⟨u, _, hde.out, by omega⟩) HM2.out).mono ?_
        rintro e w12 ⟨rfl, hr12, hf12⟩
        have HR7 := Lib.hid hr12
        have HF12 := Lib.hid (HF11.out.and hf12 (by simp; omega))
        clear hr12 hf12
        have hw : m < 0 ∨ IntKind.u64.wrap m = m := by
          by_cases h : m < 0
          · exact .inl h
          · exact .inr (IntWalk.u64_in m ⟨by omega, by have := HM2.out; omega⟩)
        rcases hw with hw | hw
        all_goals
          go_wp2_with fail
          all_goals
            refine (ok_any w12 g7 F7 _ _ HR7.out).mono ?_
            rintro e w12' ⟨rfl, rfl⟩
            go_wp2_with fail
            refine (wakes_any w12).mono ?_
            rintro e w13 ⟨rfl, hf13⟩
            have HF13 := Lib.hid (HF12.out.and hf13 (by simp))
            clear hf13
            go_wp2
            go_ret
            exact ⟨rfl, HF13.out⟩

namespace codeNums
open Go.ChangeShapes Go.WideShapes Go.ChangeAt
open Go.ChangeMaps (open_string shut_string)
theorem own : ownKnob Try.prog.godebug = none := by kernel_rfl
set_option linter.unusedVariables false
set_option maxRecDepth 100000 in
theorem lifted (os : Os) (started : os.Started) (H : Type) (enc : TypeId × Value → H) :
    ReturnsInHanded {} Try.checked os 7 .any (Rows.codeNumsSpec.pre6 enc Try.prog Try.f7 Rows.codeNumsRow.domain false) (Rows.codeNumsSpec.post enc Try.prog Try.f7 false true false false) := by
  refine returnsInHanded_of_change (C := Try.checked) own started (by kernel_rfl) Try.func7
    (ChangeSpec.witness6 (enc := enc) (C := Try.checked) false ⟨#[], #[.int .u64 0, .int .i64 0], []⟩ 8 (by kernel_rfl) (by kernel_rfl) (by kernel_rfl) (by kernel_rfl)) ?_
  intro W base args ds gs before hval0 hW hcnd _
  have hval : ∀ (j : Nat) t v, Try.f7.params[j]? = some t → args[j]? = some v → Value.okWide Try.prog W .any base t v := hval0
  have hW' := hW
  obtain ⟨p, q, hA0, hV, rfl, hfz, hnd⟩ := hW
  have hA : DataW.TrodAll enc Try.prog W 0 (fun _ => true) true Try.f7.params.toList args.toList ds p := hA0
  rw [Try.params7] at hA hval
  obtain ⟨v0, vs0, d0, ds0, p0, q0, hargs, rfl, rfl, h0, r0⟩ := trodAll_cons hA
  obtain ⟨v1, vs1, d1, ds1, p1, q1, rfl, rfl, rfl, h1, r1⟩ := trodAll_cons r0
  obtain ⟨rfl, rfl, rfl⟩ := trodAll_nil r1
  obtain rfl : args = #[v0, v1] := by cases args; simp_all
  obtain ⟨rfl, rfl⟩ := trodVars_none hV
  obtain ⟨a0, rfl, rfl, rfl, w0⟩ := open_int Try.underlying22 (hval 0 22 v0 rfl rfl) h0
  obtain ⟨n0, rfl, b0⟩ := u64_of w0
  obtain ⟨a1, rfl, rfl, rfl, w1⟩ := open_int Try.underlying3 (hval 1 3 v1 rfl rfl) h1
  have b1 := i64_of w1
  clear hA0 hval0
  simp only [List.append_nil] at hW'
  refine (nums_walk n0 b0 a1 b1.1 b1.2 W).mono fun e W' ⟨he, hg⟩ => ?_
  subst he
  have hb := hg.below_all
  exact ⟨_, rfl, _, _, _, [], _, [], hW', trodAll_mk1 (shut_bool Try.underlying4 _), (trodAll_cons_mk (shut_int Try.underlying22 w0) (trodAll_cons_mk (shut_int Try.underlying3 w1) trodAll_mk0)), rfl, hb.frame _, fun h => by cases h⟩
theorem over : Rows.codeNumsRow.holds Try.pinned (OpenSpec.ofChange Rows.codeNumsSpec) :=
  OpenClaim.holds_of_wide 7 Try.f7 rfl rfl rfl rfl rfl rfl rfl ⟨rfl, rfl, rfl, rfl, rfl⟩ rfl rfl rfl rfl rfl (by kernel_rfl) Try.func7 (by kernel_rfl)
    (of_decide_eq_true (by kernel_rfl)) (by unfold Func.isWrapper; first | (rw [if_pos (by decide +kernel)]; kernel_rfl) | (rw [if_neg (by decide +kernel)]; exact ⟨rfl, rfl⟩))
    (fun os started H enc _ => lifted os started H enc)
/-- the statement -/
theorem proved : Rows.CodeNumsSaid := over
end codeNums
end Go.Proofs.Ytcnngdhjeihecaa
