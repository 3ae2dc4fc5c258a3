/- Proved here: CodeUnlike's statement: for every two numbers the law returns true. Conditions: none. -/
import Derived.Test.YtcnngdhjeihecaaWr2
import Derived.Test.YtcnngdhjeihecaaOpen
import Derived.Deep.RegionWith
import Derived.ProofKit
import Derived.OpenShut
import Derived.ShutString
namespace Go.Proofs.Ytcnngdhjeihecaa
open Go.RowKit

theorem u8_ne {a b : Nat} (ha : a < 256) (hb : b < 256) (h : UInt8.ofNat a = UInt8.ofNat b) : a = b := by
  have := congrArg UInt8.toNat h
  simp only [UInt8.toNat_ofNat'] at this
  omega
/-- no number's bytes begin another one's -/
theorem enc_prefix : ∀ (a b : Nat) (s t : List UInt8), enc a ++ s = enc b ++ t → a = b ∧ s = t := by
  intro a
  induction a using Nat.strongRecOn with
  | _ a ih =>
    intro b s t h
    by_cases ha : a < 128 <;> by_cases hb : b < 128
    · rw [enc_small ha, enc_small hb] at h
      simp only [List.cons_append, List.nil_append, List.cons.injEq] at h
      exact ⟨u8_ne (by omega) (by omega) h.1, h.2⟩
    · rw [enc_small ha, enc_great hb] at h
      simp only [List.cons_append, List.nil_append, List.cons.injEq] at h
      have := u8_ne (by omega) (by omega) h.1
      omega
    · rw [enc_great ha, enc_small hb] at h
      simp only [List.cons_append, List.nil_append, List.cons.injEq] at h
      have := u8_ne (by omega) (by omega) h.1
      omega
    · rw [enc_great ha, enc_great hb] at h
      simp only [List.cons_append, List.cons.injEq] at h
      have h1 := u8_ne (by omega) (by omega) h.1
      obtain ⟨h2, h3⟩ := ih (a / 128) (by omega) (b / 128) s t h.2
      exact ⟨by omega, h3⟩
theorem enc_take {a b n : Nat} (hn : n = min (enc a).length (enc b).length) (h : (enc a).take n = (enc b).take n) : a = b := by
  rcases Nat.le_total (enc a).length (enc b).length with hl | hl
  · rw [Nat.min_eq_left hl] at hn
    subst hn
    rw [List.take_length] at h
    have : enc a ++ (enc b).drop (enc a).length = enc b ++ [] := by rw [List.append_nil]; conv => lhs; lhs; rw [h]
                                                                    exact List.take_append_drop _ _
    exact (enc_prefix _ _ _ _ this).1
  · rw [Nat.min_eq_right hl] at hn
    subst hn
    rw [List.take_length] at h
    have : enc a ++ [] = enc b ++ (enc a).drop (enc b).length := by rw [List.append_nil]; conv => rhs; lhs; rw [← h]
                                                                    exact (List.take_append_drop _ _).symm
    exact (enc_prefix _ _ _ _ this).1

set_option maxRecDepth 100000 in
set_option maxHeartbeats 1000000 in
theorem unlike_walk (a b : Nat) (ha : a < 18446744073709551616) (hb : b < 18446744073709551616) (w : World) :
    Calls Try.prog 8 #[.int .u64 a, .int .u64 b] w fun e w' => e = .returned (.bool true) ∧ Fr [] w w' := by
  have HA := Lib.hid ha
  have HB := Lib.hid hb
  clear ha hb
  go_enter Try.func8, Try.ntmps8
  go_wp2_with fail
  refine (newWriter_any _).mono ?_
  rintro e w1 ⟨rfl, hw1, hf1⟩
  have HW1 := Lib.hid hw1
  have HF1 := Lib.hid hf1
  have hl1 : w.heap.size < w1.heap.size := hw1.lt _ (by simp)
  clear hf1 hw1
  go_wp2_with fail
  refine (newWriter_any _).mono ?_
  rintro e w2 ⟨rfl, hw2, hf2⟩
  have HW2 := Lib.hid hw2
  have HF2 := Lib.hid (HF1.out.and hf2 (by simp))
  have HW1 := Lib.hid (HW1.out.keep hf2 (by simp))
  have hl2 : w1.heap.size < w2.heap.size := hw2.lt _ (by simp)
  clear hf2 hw2 HF1
  go_wp2_with fail
  refine (num_any a HA.out w2 [w.heap.size] w.heap.size [] HW1.out (by simp)).mono ?_
  rintro e w3 ⟨rfl, S3, hw3, hf3, hs3⟩
  have HW3 := Lib.hid hw3
  have HF3 := Lib.hid (HF2.out.and hf3 (by simp))
  have HS3 := Lib.hid hs3
  have HW2 := Lib.hid (HW2.out.keep hf3 (by simp; omega))
  have hl3 := hf3.size
  clear hf3 hs3 hw3 HF2 HW1
  go_wp2_with fail
  refine (bytes_any w3 _ _ _ HW3.out (by have := enc_ten HA.out; simp; omega)).mono ?_
  rintro e w4 ⟨A4, c4, rfl, hN⟩
  have HF4 := Lib.hid (HF3.out.and hN.2.1 (by simp))
  have HW2 := Lib.hid (HW2.out.keep hN.2.1 (by simp))
  have hl4 := hN.2.1.size
  have HN := Lib.hid hN
  clear hN HF3
  go_wp2_with fail
  refine (num_any b HB.out w4 [w1.heap.size] w1.heap.size [] HW2.out (by simp)).mono ?_
  rintro e w5 ⟨rfl, S5, hw5, hf5, hs5⟩
  have HW5 := Lib.hid hw5
  have HF5 := Lib.hid (HF4.out.and hf5 (by simp; omega))
  have HB4 := Lib.hid (HN.out.by.keep hf5 (by intro x hx; have := HN.out.2.2 x.block (by simp [bk, hx]); simp; omega))
  have hl5 := hf5.size
  clear hf5 hs5 hw5 HF4 HW2
  go_wp2_with fail
  refine (bytes_any w5 _ _ _ HW5.out (by have := enc_ten HB.out; simp; omega)).mono ?_
  rintro e w6 ⟨A6, c6, rfl, hN6⟩
  have HF6 := Lib.hid (HF5.out.and hN6.2.1 (by simp))
  have HB4 := Lib.hid (HB4.out.keep hN6.2.1 (by simp))
  have HN6 := Lib.hid hN6
  clear hN6 HF5
  rw [List.nil_append] at HB4 HN6
  have hp4 : (enc a).length ≤ c4 := by simpa using HN.out.cap
  have hp6 : (enc b).length ≤ c6 := by simpa using HN6.out.cap
  have HLA := Lib.hid (enc_ten HA.out)
  have HLB := Lib.hid (enc_ten HB.out)
  by_cases hcmp : (enc b).length < (enc a).length
  · have hab : ¬ a = b := by rintro rfl; omega
    have hd : decide ((enc a).take (enc b).length = (enc b).take (enc b).length) = false := by
      simp only [decide_eq_false_iff_not]
      exact fun h => hab (enc_take (by omega) h)
    have hdd : ((a : Int) == (b : Int)) = false := by simp; omega
    have HD := Lib.hid hd
    clear hd hab
    go_wp2_with fail
    go_region_with (first
      | (go_at_call 19; refine (same_any A4 A6 (enc b).length (enc b).length c4 c6 _ _ _ (HB4.out.take (by omega)).drew (HN6.out.by.take (by omega)).drew (by have := HLB.out; omega)).mono ?_; rw [HD.out]; rintro e w7 ⟨rfl, k7, rfl⟩)
      | (go_at_call 26; refine (wakes_any _).mono ?_; rintro e w8 ⟨rfl, hf8⟩))
    go_wp2
    go_ret
    exact ⟨rfl, (HF6.out.drewN _).and hf8 (fun _ h => by cases h)⟩
  · have hd : decide ((enc a).take (enc a).length = (enc b).take (enc a).length) = decide (a = b) := by
      by_cases h : a = b
      · subst h; simp
      · rw [decide_eq_false h, decide_eq_false (fun hh => h (enc_take (by omega) hh))]
    have HD := Lib.hid hd
    clear hd
    by_cases hab : a = b
    · have hdd : ((a : Int) == (b : Int)) = true := by simp; omega
      rw [decide_eq_true hab] at HD
      clear hab
      go_wp2_with fail
      go_region_with (first
        | (go_at_call 19; refine (same_any A4 A6 (enc a).length (enc a).length c4 c6 _ _ _ (HB4.out.take (by omega)).drew (HN6.out.by.take (by omega)).drew (by have := HLA.out; omega)).mono ?_; rw [HD.out]; rintro e w7 ⟨rfl, k7, rfl⟩)
        | (go_at_call 26; refine (wakes_any _).mono ?_; rintro e w8 ⟨rfl, hf8⟩))
      go_wp2
      go_ret
      exact ⟨rfl, (HF6.out.drewN _).and hf8 (fun _ h => by cases h)⟩
    · have hdd : ((a : Int) == (b : Int)) = false := by simp; omega
      rw [decide_eq_false hab] at HD
      clear hab
      go_wp2_with fail
      go_region_with (first
        | (go_at_call 19; refine (same_any A4 A6 (enc a).length (enc a).length c4 c6 _ _ _ (HB4.out.take (by omega)).drew (HN6.out.by.take (by omega)).drew (by have := HLA.out; omega)).mono ?_; rw [HD.out]; rintro e w7 ⟨rfl, k7, rfl⟩)
        | (go_at_call 26; refine (wakes_any _).mono ?_; rintro e w8 ⟨rfl, hf8⟩))
      go_wp2
      go_ret
      exact ⟨rfl, (HF6.out.drewN _).and hf8 (fun _ h => by cases h)⟩
namespace codeUnlike
open Go.ChangeShapes Go.WideShapes Go.ChangeAt
open Go.ChangeMaps (open_string shut_string)
theorem own : ownKnob Try.prog.godebug = none := by kernel_rfl
set_option maxRecDepth 100000 in
theorem lifted (os : Os) (started : os.Started) (H : Type) (enc : TypeId × Value → H) :
    ReturnsInHanded {} Try.checked os 8 .any (Rows.codeUnlikeSpec.pre6 enc Try.prog Try.f8 Rows.codeUnlikeRow.domain false) (Rows.codeUnlikeSpec.post enc Try.prog Try.f8 false true false false) := by
  refine returnsInHanded_of_change (C := Try.checked) own started (by kernel_rfl) Try.func8
    (ChangeSpec.witness6 (enc := enc) (C := Try.checked) false ⟨#[], #[.int .u64 0, .int .u64 0], []⟩ 8 (by kernel_rfl) (by kernel_rfl) (by kernel_rfl) (by kernel_rfl)) ?_
  intro W base args ds gs before hval0 hW hcnd _
  have hval : ∀ (j : Nat) t v, Try.f8.params[j]? = some t → args[j]? = some v → Value.okWide Try.prog W .any base t v := hval0
  have hW' := hW
  obtain ⟨p, q, hA0, hV, rfl, hfz, hnd⟩ := hW
  have hA : DataW.TrodAll enc Try.prog W 0 (fun _ => true) true Try.f8.params.toList args.toList ds p := hA0
  rw [Try.params8] at hA hval
  obtain ⟨v0, vs0, d0, ds0, p0, q0, hargs, rfl, rfl, h0, r0⟩ := trodAll_cons hA
  obtain ⟨v1, vs1, d1, ds1, p1, q1, rfl, rfl, rfl, h1, r1⟩ := trodAll_cons r0
  obtain ⟨rfl, rfl, rfl⟩ := trodAll_nil r1
  obtain rfl : args = #[v0, v1] := by cases args; simp_all
  obtain ⟨rfl, rfl⟩ := trodVars_none hV
  obtain ⟨a0, rfl, rfl, rfl, w0⟩ := open_int Try.underlying22 (hval 0 22 v0 rfl rfl) h0
  obtain ⟨a1, rfl, rfl, rfl, w1⟩ := open_int Try.underlying22 (hval 1 22 v1 rfl rfl) h1
  clear hA0 hval0
  simp only [List.append_nil] at hW'
  obtain ⟨n0, rfl, b0⟩ := u64_of w0
  obtain ⟨n1, rfl, b1⟩ := u64_of w1
  refine (unlike_walk n0 n1 b0 b1 W).mono fun e W' ⟨he, hg⟩ => ?_
  subst he
  have hb := hg.below_all
  exact ⟨_, rfl, _, _, _, [], _, [], hW', trodAll_mk1 (shut_bool Try.underlying4 _), (trodAll_cons_mk (shut_int Try.underlying22 w0) (trodAll_cons_mk (shut_int Try.underlying22 w1) trodAll_mk0)), rfl, hb.frame _, fun h => by cases h⟩
theorem over : Rows.codeUnlikeRow.holds Try.pinned (OpenSpec.ofChange Rows.codeUnlikeSpec) :=
  OpenClaim.holds_of_wide 8 Try.f8 rfl rfl rfl rfl rfl rfl rfl ⟨rfl, rfl, rfl, rfl, rfl⟩ rfl rfl rfl rfl rfl (by kernel_rfl) Try.func8 (by kernel_rfl)
    (of_decide_eq_true (by kernel_rfl)) (by unfold Func.isWrapper; first | (rw [if_pos (by decide +kernel)]; kernel_rfl) | (rw [if_neg (by decide +kernel)]; exact ⟨rfl, rfl⟩))
    (fun os started H enc _ => lifted os started H enc)
/-- the statement -/
theorem proved : Rows.CodeUnlikeSaid :=
  over
end codeUnlike
end Go.Proofs.Ytcnngdhjeihecaa
