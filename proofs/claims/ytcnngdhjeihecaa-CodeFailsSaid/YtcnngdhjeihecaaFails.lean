/- Proved here: CodeFails' statement: for every number, rows and way to fail the law returns true. Conditions: none. -/
import Derived.Test.YtcnngdhjeihecaaBase
import Derived.Test.YtcnngdhjeihecaaOpen
import Derived.Stop.BytesEq
namespace Go.Proofs.Ytcnngdhjeihecaa
open Go.RowKit

theorem u8_size1 (w : World) : (sizeOf 5).run Try.prog w = .ok 1 w := by
  have h := u8_size
  cases hq : Try.prog.info? 5 with
  | none => rw [hq] at h; cases h
  | some i => rw [hq] at h; simp at h; simp [sizeOf, typeInfo, hq, h]
theorem hash_eql (xs ys : List UInt8) (hx : xs.length = 32) (hy : ys.length = 32) (w : World) :
    (Op.equalIn 10000 41 (.agg (xs.map by8).toArray) (.agg (ys.map by8).toArray)).run Try.prog w = .ok (decide (xs = ys)) w := by
  have h := run_equalIn_bytes (P := Try.prog) w 9998 41 5 32 Try.underlying41 Try.underlying5 u8_size1 xs ys hx hy
  rw [show decide (xs = ys) = (xs == ys) by rw [Bool.eq_iff_iff]; simp]
  exact h
theorem hash_eql_zero (w : World) :
    (Op.equalIn 10000 41 (.agg zero32) (.agg #[.int .u8 0, .int .u8 0, .int .u8 0, .int .u8 0, .int .u8 0, .int .u8 0, .int .u8 0, .int .u8 0, .int .u8 0, .int .u8 0, .int .u8 0, .int .u8 0, .int .u8 0, .int .u8 0, .int .u8 0, .int .u8 0, .int .u8 0, .int .u8 0, .int .u8 0, .int .u8 0, .int .u8 0, .int .u8 0, .int .u8 0, .int .u8 0, .int .u8 0, .int .u8 0, .int .u8 0, .int .u8 0, .int .u8 0, .int .u8 0, .int .u8 0, .int .u8 0])).run Try.prog w = .ok true w :=
  hash_eql (List.replicate 32 0) (List.replicate 32 0) (by simp) (by simp) w
theorem hashOf_nil : ((hashOf []).map by8).toArray = zero32 := rfl

set_option maxRecDepth 100000 in
set_option maxHeartbeats 4000000 in
theorem fails_walk (w : World) (a : Nat) (ha : a < 18446744073709551616) (A : Option Addr) (n c : Nat) (b0 : List UInt8) (hb : By w A n b0) (hc : n ≤ c) (hx : c ≤ maxLen)
    (B : Option Addr) (m d : Nat) (t0 : List UInt8) (ht : By w B m t0) (hd : m ≤ d) (hy : d ≤ maxLen) (how : Int) (hh1 : -9223372036854775808 ≤ how) (hh2 : how < 9223372036854775808) :
    Calls Try.prog 3 #[.int .u64 a, .slice A n c, .slice B m d, .int .i64 how] w fun e w' => e = .returned (.bool true) ∧ Fr [] w w' := by
  have HA := Lib.hid ha
  have HB := Lib.hid hb
  have HT := Lib.hid ht
  have HC := Lib.hid hc
  have HX := Lib.hid hx
  have HD := Lib.hid hd
  have HY := Lib.hid hy
  have HH := Lib.hid (And.intro hh1 hh2)
  clear ha hb ht hc hx hd hy hh1 hh2
  go_enter Try.func3, Try.ntmps3
  go_wp2_with fail
  rw [show (50 : Int) = ((50 : Nat) : Int) from rfl]
  refine (cut_any A n c 50 b0 w HB.out (Nat.le_trans HC.out HX.out) HC.out (by omega)).mono ?_
  rintro e w1 ⟨A1, c1, rfl, hN⟩
  have HN1 := Lib.hid hN
  have HT1 := Lib.hid (HT.out.keep hN.2.1 (by simp))
  clear hN
  have hlb : (b0.take 50).length ≤ 50 := by rw [List.length_take]; omega
  have hlt : (t0.take 50).length ≤ 50 := by rw [List.length_take]; omega
  generalize b0.take 50 = b at *
  have HLB := Lib.hid hlb
  go_wp2_with fail
  rw [show (50 : Int) = ((50 : Nat) : Int) from rfl]
  refine (cut_any B m d 50 t0 w1 HT1.out (Nat.le_trans HD.out HY.out) HD.out (by omega)).mono ?_
  rintro e w2 ⟨A2, c2, rfl, hN⟩
  generalize t0.take 50 = t at *
  have HLT := Lib.hid hlt
  have HB2 := Lib.hid (HN1.out.by.keep hN.2.1 (by simp))
  have HF2 := Lib.hid (HN1.out.2.1.and hN.2.1 (by simp))
  have HLo1 : Hid (Lo w2 w2.heap.size A1 b.length b) := ⟨HB2.out, fun k hk => Nat.lt_of_lt_of_le (HN1.out.lt k hk) hN.2.1.size⟩
  have HLo2 := Lib.hid hN.lo
  have hs2 := HF2.out.size
  have HBel := Lib.hid (HF2.out.nil_below (Nat.le_refl _))
  clear hN HB HT HT1 HN1 HC HX HD HY hlb hlt HB2 HF2
  go_wp2_with fail
  refine (newWriter_b w2).mono ?_
  rintro e w3 ⟨rfl, hw3, hf3⟩
  generalize hBB : w2.heap.size = B0 at *
  clear hBB
  have HW3 := Lib.hid hw3
  have HLo1 := Lib.hid (HLo1.out.below hf3)
  have HLo2 := Lib.hid (HLo2.out.below hf3)
  have HBel := Lib.hid (HBel.out.trans (hf3.mono hs2))
  clear hw3 hf3
  go_wp2_with fail
  refine (num_b a HA.out HW3.out (by simp)).mono ?_
  rintro e w4 ⟨rfl, hw4, hf4⟩
  rw [List.nil_append] at hw4
  have HW4 := Lib.hid hw4
  have HLo1 := Lib.hid (HLo1.out.below hf4)
  have HLo2 := Lib.hid (HLo2.out.below hf4)
  have HBel := Lib.hid (HBel.out.trans (hf4.mono hs2))
  clear hw4 hf4
  go_wp2_with fail
  refine (row_b A1 b.length c1 b HLo1.out (by have := HLB.out; omega) HW4.out (by have := enc_ten HA.out; omega)).mono ?_
  rintro e w5 ⟨rfl, hw5, hf5⟩
  have HW5 := Lib.hid hw5
  have HLo1 := Lib.hid (HLo1.out.below hf5)
  have HLo2 := Lib.hid (HLo2.out.below hf5)
  have HBel := Lib.hid (HBel.out.trans (hf5.mono hs2))
  clear hw5 hf5
  have hLL : (enc a ++ (enc b.length ++ b)).length ≤ 100 := by
    have := enc_ten HA.out
    have := enc_ten (m := b.length) (by have := HLB.out; omega)
    have := HLB.out
    simp only [List.length_append]
    omega
  have HLL := Lib.hid hLL
  clear hLL
  go_wp2_with fail
  rw [show (7 : Int) = ((7 : Nat) : Int) from rfl]
  refine (int_b 7 (by omega) HW5.out (by have := HLL.out; omega)).mono ?_
  rintro e w6 ⟨rfl, hw6, hf6⟩
  have HW6 := Lib.hid hw6
  have HLo1 := Lib.hid (HLo1.out.below hf6)
  have HLo2 := Lib.hid (HLo2.out.below hf6)
  have HBel := Lib.hid (HBel.out.trans (hf6.mono hs2))
  clear hw6 hf6
  have hL : ∃ L, L = (enc a ++ (enc b.length ++ b)) ++ enc 7 ∧ L.length ≤ 110 := ⟨_, rfl, by
    have := HLL.out
    have := enc_ten (m := 7) (by omega)
    rw [List.length_append]; omega⟩
  obtain ⟨L, hL1, hL2⟩ := hL
  rw [← hL1] at HW6
  have HL1 := Lib.hid hL1
  have HL2 := Lib.hid hL2
  clear hL1 hL2
  go_wp2_with fail
  refine (bytes_b HW6.out (by have := HL2.out; omega)).mono ?_
  rintro e w7 ⟨A7, c7, rfl, hN7, hw7, hf7⟩
  have HN7 := Lib.hid hN7
  have HLo1 := Lib.hid (HLo1.out.below hf7)
  have HLo2 := Lib.hid (HLo2.out.below hf7)
  have HBel := Lib.hid (HBel.out.trans (hf7.mono hs2))
  have hB6 : B0 ≤ w6.heap.size := by obtain ⟨_, _, _, h⟩ := HW6.out; exact h
  clear hw7 hf7 hN7
  go_wp2_with (at_builtin; refine Stop.mk ?_)
  refine Stop.go ?_
  refine wpList_append_bytes _ rfl (.tmp 25) (.tmp 26) _ rfl 5 Try.underlying23 info_u8 (.slice A7 L.length c7) L.length L rfl HN7.out.1 A2 t.length c2 t rfl HLo2.out.1 (by have := HL2.out; have := HLT.out; omega) ?_
  intro A8 c8 w8 ho8 hg8 hat8
  have hf8 : Fr (bk A7) w7 w8 := (Fr.refl _ w7).grown hg8 (fun k hk _ => by rw [bk_mem] at hk; exact hk)
  have hb8 : Below B0 w7 w8 := hf8.below (Nat.le_trans hB6 HN7.out.2.1.size) (fun k hk => by have := HN7.out.2.2 k hk; omega)
  have HO8 := Lib.hid ho8
  have HLo1 := Lib.hid (HLo1.out.below hb8)
  have HBel := Lib.hid (HBel.out.trans (hb8.mono hs2))
  have hB8 : B0 ≤ w8.heap.size := Nat.le_trans (Nat.le_trans hB6 HN7.out.2.1.size) hf8.size
  clear hg8 hat8 hf8 hb8 ho8
  go_wp2_with fail
  refine (newReader_b A8 _ c8 (L ++ t) w8 (By.of_own HO8.out) (by have := HL2.out; have := HLT.out; omega)).mono ?_
  rintro e w9 ⟨g, rfl, hr9, hf9⟩
  have HR9 := Lib.hid (hr9.low hB8)
  have hb9 := hf9.nil_below hB8
  have HLo1 := Lib.hid (HLo1.out.below hb9)
  have HBel := Lib.hid (HBel.out.trans (hb9.mono hs2))
  clear hr9 hf9 hb9
  have e1 : L ++ t = enc a ++ (enc b.length ++ (b ++ (enc 7 ++ t))) := by rw [HL1.out]; simp [List.append_assoc]
  rw [e1] at HR9
  clear e1 HL1 HL2 HW3 HW4 HW5 HW6 HN7 HO8
  have hlr : (enc a ++ (enc b.length ++ (b ++ (enc 7 ++ t)))).length ≤ 1073741824 := by
    have := enc_ten HA.out
    have := enc_ten (m := b.length) (by have := HLB.out; omega)
    have := enc_ten (m := 7) (by omega)
    have := HLB.out
    have := HLT.out
    simp only [List.length_append]
    omega
  have HLR := Lib.hid hlr
  clear hlr
  go_wp2_with fail
  refine (rnum_ok_b a _ (dec_enc HA.out _) HR9.out HLR.out).mono ?_
  rintro e w10 ⟨rfl, hr10, hb10⟩
  rw [List.drop_left] at hr10
  have HR10 := Lib.hid hr10
  have HLo1 := Lib.hid (HLo1.out.below hb10)
  have HBel := Lib.hid (HBel.out.trans (hb10.mono hs2))
  clear hr10 hb10
  have HLR2 : Hid ((enc b.length ++ (b ++ (enc 7 ++ t))).length ≤ 1073741824) := by
    have := HLR.out
    rw [List.length_append] at this
    show _ ≤ _
    omega
  have HDB := Lib.hid (dec_enc (m := b.length) (by have := HLB.out; omega) (b ++ (enc 7 ++ t)))
  go_wp2_with fail
  refine (rrow_ok_b b.length _ HDB.out 50 (by have := HLB.out; omega) (by omega) (by simp only [List.length_append]; omega) HR10.out HLR2.out).mono ?_
  rintro e w11 ⟨A11, c11, rfl, hy11, hc11, hn11, hr11, hb11⟩
  rw [List.drop_left, List.take_left] at hy11
  rw [← List.drop_drop, List.drop_left, List.drop_left] at hr11
  have HY11 := Lib.hid hy11
  have HR11 := Lib.hid hr11
  have HLo1 := Lib.hid (HLo1.out.below hb11)
  have HBel := Lib.hid (HBel.out.trans (hb11.mono hs2))
  clear hy11 hn11 hr11 hb11 hc11
  go_wp2_with fail
  refine (same_any A11 A1 b.length b.length c11 c1 b b w11 HY11.out HLo1.out.1 (by have := HLB.out; omega)).mono ?_
  rw [decide_eq_true rfl]
  rintro e w12 ⟨rfl, k12, rfl⟩
  have HR12 := Lib.hid (HR11.out.fr ((Fr.refl [] w11).drewN k12))
  have HBel := Lib.hid (HBel.out.trans (((Fr.refl [] w11).drewN k12).nil_below HBel.out.size))
  generalize w11.drewN k12 = w12 at *
  go_wp2_with fail
  refine (ok_b HR12.out).mono ?_
  rintro e w12' ⟨rfl, rfl⟩
  go_wp2_with fail
  refine (within_pos how 3 HH.out.1 HH.out.2 (by omega) (by omega) w12).mono ?_
  rintro e w12' ⟨rfl, rfl⟩
  have HLR3 : Hid ((enc 7 ++ t).length ≤ 1073741824) := by
    have := HLR2.out
    simp only [List.length_append] at this
    show _ ≤ _
    rw [List.length_append]
    omega
  have hD7 := Lib.hid (dec_enc (m := 7) (by omega) t)
  have h3 : (0 : Int) ≤ how % 3 ∧ how % 3 < 3 := by omega
  generalize how % 3 = q at *
  obtain ⟨hq0, hq3⟩ := h3
  have hq : q = 0 ∨ q = 1 ∨ q = 2 := by omega
  clear hq0 hq3
  rcases hq with rfl | rfl | rfl
  all_goals
    go_wp2_with fail
    first
      | (go_at_call 23
         ((with_reducible refine (rint_bad_b 6 (intBad_lt hD7.out (by omega)) (by omega) HR12.out HLR3.out).mono ?_); rintro e w13 ⟨rfl, hr13, hb13⟩))
      | (go_at_call 23
         ((with_reducible refine (rint_bad_b (-1) (intBad_neg _ (by omega)) (by omega) HR12.out HLR3.out).mono ?_); rintro e w13 ⟨rfl, hr13, hb13⟩))
      | (go_at_call 20
         ((with_reducible refine (rrow_bad_b 6 (rowBad_int (intBad_lt hD7.out (by omega))) (by omega) HR12.out HLR3.out).mono ?_); rintro e w13 ⟨A13, c13, rfl, hy13, hn13, hr13, hb13⟩))
    have HR13 := Lib.hid hr13
    have HBel := Lib.hid (HBel.out.trans (hb13.mono hs2))
    clear hr13 hb13 HLo1 HDB HLR2 HLR3 hD7 HY11 HR11 HR12 HR10 HR9
    go_wp2_with fail
    refine (ok_b HR13.out).mono ?_
    rintro e w13' ⟨rfl, rfl⟩
    go_wp2_with fail
    refine (left_b HR13.out).mono ?_
    rintro e w13' ⟨rfl, rfl⟩
    go_wp2_with fail
    refine (rnum_bad_b rfl HR13.out (by simp)).mono ?_
    rintro e w14 ⟨rfl, hr14, hb14⟩
    have HR14 := Lib.hid hr14
    have HBel := Lib.hid (HBel.out.trans (hb14.mono hs2))
    clear hr14 hb14
    go_wp2_with fail
    refine (rint_bad_b 100 (intBad_none rfl) (by omega) HR14.out (by simp)).mono ?_
    rintro e w15 ⟨rfl, hr15, hb15⟩
    have HR15 := Lib.hid hr15
    have HBel := Lib.hid (HBel.out.trans (hb15.mono hs2))
    clear hr15 hb15
    go_wp2_with fail
    refine (rrow_bad_b 100 (rowBad_int (intBad_none rfl)) (by omega) HR15.out (by simp)).mono ?_
    rintro e w16 ⟨A16, c16, rfl, hy16, hn16, hr16, hb16⟩
    have HR16 := Lib.hid hr16
    have HBel := Lib.hid (HBel.out.trans (hb16.mono hs2))
    clear hr16 hb16 hy16 hn16
    go_wp2_with fail
    refine (rhash_b HR16.out (by simp)).mono ?_
    rintro e w17 ⟨rfl, hr17, hb17⟩
    rw [hashOf_nil]
    have HR17 := Lib.hid (show RB w17 B0 g [] true from hr17)
    have HBel := Lib.hid (HBel.out.trans (hb17.mono hs2))
    clear hr17 hb17
    have hqz := hash_eql_zero
    go_wp2_with fail
    refine (ok_b HR17.out).mono ?_
    rintro e w17' ⟨rfl, rfl⟩
    clear hqz
    go_wp2_with fail
    refine (wakes_any w17).mono ?_
    rintro e w18 ⟨rfl, hf18⟩
    have HBel := Lib.hid (HBel.out.trans (hf18.nil_below HBel.out.size))
    clear hf18
    go_wp2
    go_ret
    exact ⟨rfl, Fr.of_below HBel.out (Nat.le_refl _)⟩

namespace codeFails
open Go.ChangeShapes Go.WideShapes Go.ChangeAt
open Go.ChangeMaps (open_string shut_string)
theorem own : ownKnob Try.prog.godebug = none := by kernel_rfl
set_option linter.unusedVariables false
set_option maxRecDepth 100000 in
set_option maxHeartbeats 2000000 in
theorem lifted (os : Os) (started : os.Started) (H : Type) (enc : TypeId × Value → H) :
    ReturnsInHanded {} Try.checked os 3 .any (Rows.codeFailsSpec.pre6 enc Try.prog Try.f3 Rows.codeFailsRow.domain false) (Rows.codeFailsSpec.post enc Try.prog Try.f3 false true false false) := by
  refine returnsInHanded_of_change (C := Try.checked) own started (by kernel_rfl) Try.func3
    (ChangeSpec.witness6 (enc := enc) (C := Try.checked) false ⟨#[], #[.int .u64 0, .slice none 0 0, .slice none 0 0, .int .i64 0], []⟩ 8 (by kernel_rfl) (by kernel_rfl) (by kernel_rfl) (by kernel_rfl)) ?_
  intro W base args ds gs before hval0 hW hcnd _
  have hval : ∀ (j : Nat) t v, Try.f3.params[j]? = some t → args[j]? = some v → Value.okWide Try.prog W .any base t v := hval0
  have hW' := hW
  obtain ⟨p, q, hA0, hV, rfl, hfz, hnd⟩ := hW
  have hA : DataW.TrodAll enc Try.prog W 0 (fun _ => true) true Try.f3.params.toList args.toList ds p := hA0
  rw [Try.params3] at hA hval
  obtain ⟨v0, vs0, d0, ds0, p0, q0, hargs, rfl, rfl, h0, r0⟩ := trodAll_cons hA
  obtain ⟨v1, vs1, d1, ds1, p1, q1, rfl, rfl, rfl, h1, r1⟩ := trodAll_cons r0
  obtain ⟨v2, vs2, d2, ds2, p2, q2, rfl, rfl, rfl, h2, r2⟩ := trodAll_cons r1
  obtain ⟨v3, vs3, d3, ds3, p3, q3, rfl, rfl, rfl, h3, r3⟩ := trodAll_cons r2
  obtain ⟨rfl, rfl, rfl⟩ := trodAll_nil r3
  obtain rfl : args = #[v0, v1, v2, v3] := by cases args; simp_all
  obtain ⟨rfl, rfl⟩ := trodVars_none hV
  obtain ⟨a0, rfl, rfl, rfl, w0⟩ := open_int Try.underlying22 (hval 0 22 v0 rfl rfl) h0
  obtain ⟨n0, rfl, b0⟩ := u64_of w0
  obtain ⟨a1, len1, cap1, rfl⟩ := okWide_slice Try.underlying23 (hval 1 23 v1 rfl rfl)
  have k1 := h1
  have lt1 : ∀ x ∈ p1, x.block < W.heap.size := by obtain ⟨m, hm⟩ := k1; exact DataW.trod_lt m _ _ _ hm
  obtain ⟨l1, y1, c1, x1⟩ : ∃ l, By W a1 len1 l ∧ len1 ≤ cap1 ∧ cap1 ≤ maxLen := by
    obtain ⟨fuel, hf⟩ := h1
    rcases open_ints Try.underlying23 Try.underlying5 (by kernel_rfl) hf with ⟨hcs, _⟩ | ⟨x, l, c, zs, hcs, _, hl, hm, hz, _, hcell, hwz⟩
    · simp [Value.cells] at hcs
      obtain ⟨rfl, rfl, rfl⟩ := hcs
      exact ⟨[], By.nil _ _, Nat.le_refl _, Nat.zero_le _⟩
    · simp [Value.cells] at hcs
      obtain ⟨rfl, rfl, rfl⟩ := hcs
      obtain ⟨l', hy⟩ := By.of_ints (by simpa using hz) hcell hwz hl
      exact ⟨l', hy, hl, hm⟩
  obtain ⟨a2, len2, cap2, rfl⟩ := okWide_slice Try.underlying23 (hval 2 23 v2 rfl rfl)
  have k2 := h2
  have lt2 : ∀ x ∈ p2, x.block < W.heap.size := by obtain ⟨m, hm⟩ := k2; exact DataW.trod_lt m _ _ _ hm
  obtain ⟨l2, y2, c2, x2⟩ : ∃ l, By W a2 len2 l ∧ len2 ≤ cap2 ∧ cap2 ≤ maxLen := by
    obtain ⟨fuel, hf⟩ := h2
    rcases open_ints Try.underlying23 Try.underlying5 (by kernel_rfl) hf with ⟨hcs, _⟩ | ⟨x, l, c, zs, hcs, _, hl, hm, hz, _, hcell, hwz⟩
    · simp [Value.cells] at hcs
      obtain ⟨rfl, rfl, rfl⟩ := hcs
      exact ⟨[], By.nil _ _, Nat.le_refl _, Nat.zero_le _⟩
    · simp [Value.cells] at hcs
      obtain ⟨rfl, rfl, rfl⟩ := hcs
      obtain ⟨l', hy⟩ := By.of_ints (by simpa using hz) hcell hwz hl
      exact ⟨l', hy, hl, hm⟩
  obtain ⟨a3, rfl, rfl, rfl, w3⟩ := open_int Try.underlying3 (hval 3 3 v3 rfl rfl) h3
  have b3 := i64_of w3
  clear hA0 hval0
  refine (fails_walk W n0 b0 a1 len1 cap1 l1 y1 c1 x1 a2 len2 cap2 l2 y2 c2 x2 a3 b3.1 b3.2).mono fun e W' ⟨he, hg⟩ => ?_
  subst he
  have hb := hg.below_all
  exact ⟨_, rfl, _, _, _, [], _, [], hW', trodAll_mk1 (shut_bool Try.underlying4 _), (trodAll_cons_mk (shut_int Try.underlying22 w0) (trodAll_cons_mk (Below.trod laidOut (by kernel_rfl) (of_decide_eq_true (by kernel_rfl)) k1 hb lt1) (trodAll_cons_mk (Below.trod laidOut (by kernel_rfl) (of_decide_eq_true (by kernel_rfl)) k2 hb lt2) (trodAll_cons_mk (shut_int Try.underlying3 w3) trodAll_mk0)))), rfl, hb.frame _, fun h => by cases h⟩
theorem over : Rows.codeFailsRow.holds Try.pinned (OpenSpec.ofChange Rows.codeFailsSpec) :=
  OpenClaim.holds_of_wide 3 Try.f3 rfl rfl rfl rfl rfl rfl rfl ⟨rfl, rfl, rfl, rfl, rfl⟩ rfl rfl rfl rfl rfl (by kernel_rfl) Try.func3 (by kernel_rfl)
    (of_decide_eq_true (by kernel_rfl)) (by unfold Func.isWrapper; first | (rw [if_pos (by decide +kernel)]; kernel_rfl) | (rw [if_neg (by decide +kernel)]; exact ⟨rfl, rfl⟩))
    (fun os started H enc _ => lifted os started H enc)
/-- the statement -/
theorem proved : Rows.CodeFailsSaid := over
end codeFails
end Go.Proofs.Ytcnngdhjeihecaa
