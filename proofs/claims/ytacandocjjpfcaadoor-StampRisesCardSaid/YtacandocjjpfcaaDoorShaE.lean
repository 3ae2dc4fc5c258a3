/- Package sha: ending, Sum. -/
import Derived.Test.YtacandocjjpfcaaDoorShaN
import Derived.Test.YtacandocjjpfcaaDoorLend
namespace Go.Proofs.YtacandocjjpfcaaDoor
set_option maxRecDepth 100000
open Go.RowKit

theorem make_e (n : Nat) (hn : n ≤ 1073741824) (w : World) : ∃ wa, (Instr.makeSlice 38 (.int .i64 n) (.int .i64 n)).run Tryd.prog w = .ok (.slice (some ⟨w.heap.size, 0, none⟩) n n) wa ∧
    Blk wa w.heap.size 5 ((List.replicate n (0 : UInt8)).map by8).toArray ∧ Fr [] w wa := by
  obtain ⟨i, hi0, hz0, hz1, hz2⟩ := info_parts info_u8
  have h := run_make (P := Tryd.prog) w 38 5 i _ Tryd.underlying38 hi0 hz0 .i64 .i64 n (n : Int) (by omega) (by omega) (by rw [hz2]; omega) (by omega)
  rw [hz1, Nat.mul_one, madeCells_u8] at h
  refine ⟨_, by rw [h]; simp, Blk.new _ _ _, (Fr.refl [] w).alloc _⟩
theorem set_back {E T : List UInt8} {m : Nat} (h : m < E.length) (d : UInt8) : (E.take (m + 1) ++ T).set m d = E.take m ++ d :: T := by
  have e : E.take (m + 1) = E.take m ++ [E[m]] := by rw [List.take_add_one, List.getElem?_eq_getElem h]; rfl
  rw [e, List.append_assoc, List.set_append_right _ _ (by rw [List.length_take]; omega), List.length_take, Nat.min_eq_left (Nat.le_of_lt h), Nat.sub_self]
  rfl
theorem len8_len (n : Nat) : (len8 n).length = 8 := by simp [len8]
theorem len8_at (n k : Nat) (hk : k < 8) : (len8 n).drop (7 - k) = UInt8.ofNat (n * 8 / 2 ^ (8 * k) % 256) :: (len8 n).drop (8 - k) := by
  rw [List.drop_eq_getElem_cons (by rw [len8_len]; omega), show 7 - k + 1 = 8 - k by omega]
  congr 1
  unfold len8
  rw [List.getElem_map, List.getElem_range, show 7 - (7 - k) = k by omega]
theorem by8_len (n k : Nat) : by8 (UInt8.ofNat (n * 8 / 2 ^ (8 * k) % 256)) = .int .u8 ((n : Int) * 8 / 2 ^ (8 * k) % 256) := by
  unfold by8
  rw [UInt8.toNat_ofNat']
  congr 1
  have e : ((n * 8 / 2 ^ (8 * k) : Nat) : Int) = (n : Int) * 8 / 2 ^ (8 * k) := by rw [Int.natCast_ediv, Int.natCast_mul, Int.natCast_pow]; rfl
  rw [← e]
  omega

set_option maxRecDepth 100000 in
set_option maxHeartbeats 2000000 in
theorem ending_any (A : Option Addr) (n c : Nat) (r : List UInt8) (N : Nat) (w : World) (hr : By w A n r) (hN : N ≤ 1073741824) (hm : N % 64 = n) :
    Calls Tryd.prog 61 #[.slice A n c, .int .u64 N] w fun e w' => ∃ g, e = .returned (.slice (some ⟨g, 0, none⟩) (ending r N).length (ending r N).length) ∧ Blk w' g 5 ((ending r N).map by8).toArray ∧ w.heap.size ≤ g ∧ Fr [] w w' := by
  have hn64 : n < 64 := by omega
  have hrl := hr.1
  have hE : (n + 9 ≤ 64 ∧ zeros N = 55 - n) ∨ (64 < n + 9 ∧ zeros N = 119 - n) := by
    unfold zeros
    omega
  have HR := Lib.hid hr
  have HRL := Lib.hid hrl
  clear hr hrl hm
  rcases hE with ⟨hs, hz⟩ | ⟨hs, hz⟩
  · obtain ⟨wa, hmk, hba, hfa⟩ := make_e 64 (by omega) w
    have hmk : (Instr.makeSlice 38 (.int .i64 64) (.int .i64 64)).run Tryd.prog w = .ok (.slice (some ⟨w.heap.size, 0, none⟩) 64 64) wa := hmk
    obtain ⟨wc, hcp, hbc, hfc⟩ := copy_b wa 3 w.heap.size 64 64 A n c (List.replicate 64 (0 : UInt8)) r 5 hba (HR.out.keep hfa (by simp)) (by omega) (by simp; omega)
    have hfr : Fr [] w wc := hfa.trans hfc (by intro x hx hl; simp at hx; omega)
    have hEE : ((r ++ (List.replicate 64 (0 : UInt8)).drop n).set n 128) = r ++ 128 :: List.replicate (63 - n) 0 := by
      rw [List.drop_replicate, List.set_append_right _ _ (by rw [HRL.out]; omega), HRL.out, Nat.sub_self, show 64 - n = (63 - n) + 1 by omega, List.replicate_succ]
      rfl
    have hb0 := hbc.byte (i := n) (by rw [List.length_append, HRL.out, List.length_drop, List.length_replicate]; omega)
    have hz0 := hbc.frozen n
    have hbE := hbc.setByte n 128
    rw [hEE] at hbE
    have hel : (r ++ 128 :: List.replicate (63 - n) 0).length = 64 := by simp [HRL.out]; omega
    have hfin : (r ++ 128 :: List.replicate (63 - n) 0).take 56 ++ len8 N = ending r N := by
      unfold ending
      rw [hz, List.append_assoc, List.append_assoc, List.take_append, HRL.out, List.take_of_length_le (by rw [HRL.out]; omega), show 56 - n = (55 - n) + 1 by omega, List.take_succ_cons, List.take_replicate, Nat.min_eq_left (by omega)]
      simp
    generalize r ++ 128 :: List.replicate (63 - n) 0 = E at *
    have HBE := Lib.hid hbE
    have HEL := Lib.hid hel
    have HFIN := Lib.hid hfin
    have HFR := Lib.hid hfr
    have hfl : (ending r N).length = 64 := by rw [← hfin, List.length_append, List.length_take, hel, len8_len]; omega
    have HFL := Lib.hid hfl
    generalize hgx : w.heap.size = gx at *
    have HGX := Lib.hid hgx
    have hNI : (N : Int) ≤ 1073741824 := by omega
    have hdec : decide ((64 : Int) < (n : Int) + 1 + 8) = false := by simp; omega
    clear hz hEE hbE hel hfin hfr hba hfa hbc hfc hfl hgx
    go_enter Tryd.func61, Tryd.ntmps61
    go_wp2
    go_loopw [22] (fun i wr => ∃ (k : Nat), k ≤ 8 ∧ i = .int .i64 k ∧ Blk wr gx 5 ((E.take (64 - k) ++ (len8 N).drop (8 - k)).map by8).toArray ∧ Fr [] w wr) (fun i _ => 8 - (intOf i).toNat)
    case atStart =>
      refine ⟨0, by omega, rfl, ?_, HFR.out.setCell _ (fun h => by have := HGX.out; simp at h; omega) _⟩
      have h8 : (len8 N).drop 8 = [] := List.drop_eq_nil_of_le (by rw [len8_len]; omega)
      rw [Nat.sub_zero, Nat.sub_zero, h8, List.append_nil, List.take_of_length_le (by rw [HEL.out]; omega)]
      exact HBE.out
    case round =>
      obtain ⟨k, hk, rfl, hbx, hfx⟩ := hrel
      have HBX := Lib.hid hbx
      have HFX := Lib.hid hfx
      clear hbx hfx hmk hcp hb0 hz0 hdec
      by_cases hlt : k < 8
      · have hset := set_back (E := E) (T := (len8 N).drop (8 - k)) (m := 63 - k) (by rw [HEL.out]; omega) (UInt8.ofNat (N * 8 / 2 ^ (8 * k) % 256))
        rw [show 63 - k + 1 = 64 - k by omega, ← len8_at N k hlt, show 7 - k = 8 - (k + 1) by omega, show E.take (63 - k) = E.take (64 - (k + 1)) from by congr 1; omega] at hset
        have hb := HBX.out.setByte (63 - k) (UInt8.ofNat (N * 8 / 2 ^ (8 * k) % 256))
        rw [hset, by8_len] at hb
        have hlen : (E.take (64 - k) ++ (len8 N).drop (8 - k)).length = 64 := by rw [List.length_append, List.length_take, List.length_drop, HEL.out, len8_len]; omega
        have hcx := HBX.out.byte (i := 63 - k) (by rw [hlen]; omega)
        have hzx := HBX.out.frozen (63 - k)
        have HB := Lib.hid hb
        have e1 : ((63 : Int) - (k : Int)).toNat = 63 - k := by omega
        have e2 : ((8 : Int) * (k : Int)).toNat = 8 * k := by omega
        have hk0 : (0 : Int) ≤ k := by omega
        have hk8 : (8 : Int) * k ≤ 64 := by omega
        have hk8a : (0 : Int) ≤ 8 * k := by omega
        clear hset hb hlen
        go_wp2
        go_roundw
        case rel => exact ⟨k + 1, by omega, by go_num, HB.out, HFX.out.setCell _ (fun h => by have := HGX.out; simp at h; omega) _⟩
        case measure => simp [intOf]; omega
      · have hk8 : k = 8 := by omega
        have HBY : Hid (Blk wr gx 5 ((ending r N).map by8).toArray) := Lib.hid (by
          have h := HBX.out
          rw [hk8] at h
          rw [← HFIN.out]
          exact h)
        clear hk8
        go_wp2
        go_ret
        exact ⟨gx, by rw [HFL.out]; rfl, HBY.out, by have := HGX.out; omega, HFX.out⟩
  · obtain ⟨wa, hmk, hba, hfa⟩ := make_e 128 (by omega) w
    have hmk : (Instr.makeSlice 38 (.int .i64 128) (.int .i64 128)).run Tryd.prog w = .ok (.slice (some ⟨w.heap.size, 0, none⟩) 128 128) wa := hmk
    obtain ⟨wc, hcp, hbc, hfc⟩ := copy_b wa 3 w.heap.size 128 128 A n c (List.replicate 128 (0 : UInt8)) r 5 hba (HR.out.keep hfa (by simp)) (by omega) (by simp; omega)
    have hfr : Fr [] w wc := hfa.trans hfc (by intro x hx hl; simp at hx; omega)
    have hEE : ((r ++ (List.replicate 128 (0 : UInt8)).drop n).set n 128) = r ++ 128 :: List.replicate (127 - n) 0 := by
      rw [List.drop_replicate, List.set_append_right _ _ (by rw [HRL.out]; omega), HRL.out, Nat.sub_self, show 128 - n = (127 - n) + 1 by omega, List.replicate_succ]
      rfl
    have hb0 := hbc.byte (i := n) (by rw [List.length_append, HRL.out, List.length_drop, List.length_replicate]; omega)
    have hz0 := hbc.frozen n
    have hbE := hbc.setByte n 128
    rw [hEE] at hbE
    have hel : (r ++ 128 :: List.replicate (127 - n) 0).length = 128 := by simp [HRL.out]; omega
    have hfin : (r ++ 128 :: List.replicate (127 - n) 0).take 120 ++ len8 N = ending r N := by
      unfold ending
      rw [hz, List.append_assoc, List.append_assoc, List.take_append, HRL.out, List.take_of_length_le (by rw [HRL.out]; omega), show 120 - n = (119 - n) + 1 by omega, List.take_succ_cons, List.take_replicate, Nat.min_eq_left (by omega)]
      simp
    generalize r ++ 128 :: List.replicate (127 - n) 0 = E at *
    have HBE := Lib.hid hbE
    have HEL := Lib.hid hel
    have HFIN := Lib.hid hfin
    have HFR := Lib.hid hfr
    have hfl : (ending r N).length = 128 := by rw [← hfin, List.length_append, List.length_take, hel, len8_len]; omega
    have HFL := Lib.hid hfl
    generalize hgx : w.heap.size = gx at *
    have HGX := Lib.hid hgx
    have hNI : (N : Int) ≤ 1073741824 := by omega
    have hdec : decide ((64 : Int) < (n : Int) + 1 + 8) = true := by simp; omega
    clear hz hEE hbE hel hfin hfr hba hfa hbc hfc hfl hgx
    go_enter Tryd.func61, Tryd.ntmps61
    go_wp2
    go_loopw [22] (fun i wr => ∃ (k : Nat), k ≤ 8 ∧ i = .int .i64 k ∧ Blk wr gx 5 ((E.take (128 - k) ++ (len8 N).drop (8 - k)).map by8).toArray ∧ Fr [] w wr) (fun i _ => 8 - (intOf i).toNat)
    case atStart =>
      refine ⟨0, by omega, rfl, ?_, HFR.out.setCell _ (fun h => by have := HGX.out; simp at h; omega) _⟩
      have h8 : (len8 N).drop 8 = [] := List.drop_eq_nil_of_le (by rw [len8_len]; omega)
      rw [Nat.sub_zero, Nat.sub_zero, h8, List.append_nil, List.take_of_length_le (by rw [HEL.out]; omega)]
      exact HBE.out
    case round =>
      obtain ⟨k, hk, rfl, hbx, hfx⟩ := hrel
      have HBX := Lib.hid hbx
      have HFX := Lib.hid hfx
      clear hbx hfx hmk hcp hb0 hz0 hdec
      by_cases hlt : k < 8
      · have hset := set_back (E := E) (T := (len8 N).drop (8 - k)) (m := 127 - k) (by rw [HEL.out]; omega) (UInt8.ofNat (N * 8 / 2 ^ (8 * k) % 256))
        rw [show 127 - k + 1 = 128 - k by omega, ← len8_at N k hlt, show 7 - k = 8 - (k + 1) by omega, show E.take (127 - k) = E.take (128 - (k + 1)) from by congr 1; omega] at hset
        have hb := HBX.out.setByte (127 - k) (UInt8.ofNat (N * 8 / 2 ^ (8 * k) % 256))
        rw [hset, by8_len] at hb
        have hlen : (E.take (128 - k) ++ (len8 N).drop (8 - k)).length = 128 := by rw [List.length_append, List.length_take, List.length_drop, HEL.out, len8_len]; omega
        have hcx := HBX.out.byte (i := 127 - k) (by rw [hlen]; omega)
        have hzx := HBX.out.frozen (127 - k)
        have HB := Lib.hid hb
        have e1 : ((127 : Int) - (k : Int)).toNat = 127 - k := by omega
        have e2 : ((8 : Int) * (k : Int)).toNat = 8 * k := by omega
        have hk0 : (0 : Int) ≤ k := by omega
        have hk8 : (8 : Int) * k ≤ 64 := by omega
        have hk8a : (0 : Int) ≤ 8 * k := by omega
        clear hset hb hlen
        go_wp2
        go_roundw
        case rel => exact ⟨k + 1, by omega, by go_num, HB.out, HFX.out.setCell _ (fun h => by have := HGX.out; simp at h; omega) _⟩
        case measure => simp [intOf]; omega
      · have hk8 : k = 8 := by omega
        have HBY : Hid (Blk wr gx 5 ((ending r N).map by8).toArray) := Lib.hid (by
          have h := HBX.out
          rw [hk8] at h
          rw [← HFIN.out]
          exact h)
        clear hk8
        go_wp2
        go_ret
        exact ⟨gx, by rw [HFL.out]; rfl, HBY.out, by have := HGX.out; omega, HFX.out⟩
end Go.Proofs.YtacandocjjpfcaaDoor
