/- gavellaw06.MsgHeads, walked. -/
import Derived.Test.YtniaacjfkaakjaaKE5
namespace Go.Proofs.Ytniaacjfkaakjaa
open Go.RowKit
set_option maxRecDepth 100000
theorem set3 (q f t : Int) : ((Try.zeroCells61.setIfInBounds 0 (.int .i64 q)).setIfInBounds 1 (.int .i64 f)).setIfInBounds 2 (.int .i64 t) = (mz q f t).cells.toArray := by kernel_rfl
set_option maxHeartbeats 4000000 in
theorem msgHeads_walk (w : World) (kind : Int) (hk1 : -9223372036854775808 ≤ kind) (hk2 : kind < 9223372036854775808) (f0 : Int) (hf1 : -9223372036854775808 ≤ f0) (hf2 : f0 < 9223372036854775808) (t0 : Int) (ht1 : -9223372036854775808 ≤ t0) (ht2 : t0 < 9223372036854775808) :
    Calls Try.prog 4 #[.int .i64 kind, .int .i64 f0, .int .i64 t0] w fun e w' => e = .returned (.bool true) ∧ Fr [] w w' := by
  obtain ⟨k, hk⟩ : ∃ k, k = 1 + kind % 14 := ⟨_, rfl⟩
  obtain ⟨f, hf⟩ : ∃ f, f = f0 % 2000 := ⟨_, rfl⟩
  obtain ⟨t, ht⟩ : ∃ t, t = t0 % 2000 := ⟨_, rfl⟩
  have HK : Hid (1 ≤ k ∧ k ≤ 14) := Lib.hid (by omega)
  have HF : Hid (0 ≤ f ∧ f < 2000) := Lib.hid (by omega)
  have HT : Hid (0 ≤ t ∧ t < 2000) := Lib.hid (by omega)
  have hwk : wrap64 (1 + kind % 14) = k := by unfold wrap64; omega
  obtain ⟨C, hC⟩ : ∃ C : List Value, (mz k f t).cells = C := ⟨_, rfl⟩
  have HBU : Hid (Try.prog.built 61 [(0, .int .i64 k), (1, .int .i64 f), (2, .int .i64 t)] = some C.toArray) := Lib.hid (by rw [← hC]; exact built_mg3 _ _ _)
  have HC := Lib.hid hC
  clear hC
  go_enter Try.func4, Try.ntmps4
  go_wp2_with fail
  refine (within_pos kind 14 hk1 hk2 (by omega) (by omega) _).mono ?_
  rintro e_ w_ ⟨rfl, rfl⟩
  go_wp2_with fail
  rw [← hk]
  clear hwk
  refine (within_pos f0 2000 hf1 hf2 (by omega) (by omega) _).mono ?_
  rintro e_ w_ ⟨rfl, rfl⟩
  rw [← hf]
  go_wp2_with fail
  refine (within_pos t0 2000 ht1 ht2 (by omega) (by omega) _).mono ?_
  rintro e_ w_ ⟨rfl, rfl⟩
  rw [← ht]
  clear hk1 hk2 hf1 hf2 ht1 ht2
  go_wp2_with fail
  rw [set3]
  (try rw [← hk])
  (try rw [← hf])
  (try rw [← ht])
  rw [HC.out]
  clear hf ht hk
  refine (mpack_any (mz k f t) w (mz_ok w [] k f t (by have := HK.out; unfold i64In; omega) (by have := HF.out; unfold i64In; omega) (by have := HT.out; unfold i64In; omega)) C HC.out).mono ?_
  intro e_ w3 hp
  unfold PackPost at hp
  rw [if_pos (show 1 ≤ (mz k f t).q ∧ (mz k f t).q ≤ 14 from HK.out)] at hp
  obtain ⟨A3, c3, rfl, hn3⟩ := hp
  have HPOS := Lib.hid (mz_bytes_pos k f t)
  have HLEN : Hid ((mz k f t).bytes.length ≤ 15030) := Lib.hid (Wmg.bytes_len (mz_ok w [] k f t (by have := HK.out; unfold i64In; omega) (by have := HF.out; unfold i64In; omega) (by have := HT.out; unfold i64In; omega)))
  have HPU := Lib.hid (pU_mz k f t HK.out (by have := HF.out; unfold Ui; omega) (by have := HT.out; unfold Ui; omega))
  have HHB := Lib.hid (head_byte k f t HK.out)
  obtain ⟨B, hB⟩ : ∃ B, B = (mz k f t).bytes := ⟨_, rfl⟩
  rw [← hB] at hn3 HPOS HLEN HPU HHB ⊢
  have HN3 := Lib.hid hn3
  clear hn3 hB
  go_wp2_with fail
  refine (munpack_any A3 B.length c3 B w3 HN3.out.by (by have := HLEN.out; omega)).mono ?_
  rintro e_ w4 ⟨y, rfl, hcy, hln, _, hf4⟩
  rw [HPU.out.1]
  have HYQ : Hid (y.q = k ∧ y.f = f ∧ y.t = t) := Lib.hid (by have h := HPU.out.2; rw [← hcy] at h; exact h)
  have HLY := Lib.hid hln
  have HF4 : Hid (Fr [] w3 w4) := Lib.hid hf4
  obtain ⟨Y, hY⟩ : ∃ Y : List Value, Y = y.cells := ⟨_, rfl⟩
  have HYT : Hid ((Try.prog.info? 61).map (·.size) = some Y.toArray.size) := Lib.hid (by rw [hY]; exact msg_size hln)
  have HYO : Hid (Y.toArray.all (·.oneCell') = true) := Lib.hid (by rw [hY]; exact all_oneCell_toArray (Wmg.one _))
  obtain ⟨Z, hZ⟩ : ∃ Z, Z = (mz 0 0 0).cells.toArray := ⟨_, rfl⟩
  have HYZ : Hid (Z.size = Y.toArray.size) := Lib.hid (by rw [hY, hZ, List.size_toArray, List.size_toArray, Wmg.lenz (mz_len _ _ _), Wmg.lenz hln])
  have HBN : Hid (Blk (w4.alloc (Obj.cells (mz 0 0 0).cells.toArray 61)) w4.heap.size 61 Z) := Lib.hid (by rw [hZ]; exact Blk.new _ _ _)
  rw [← hY]
  have HY := Lib.hid hY
  clear hf4 hln hY hZ hcy
  obtain ⟨ad, b, hA, hb0, hc0⟩ := HN3.out.by.at (k := 0) HPOS.out
  have HBK : Hid (ad.block < w3.heap.size) := Lib.hid (HN3.out.lt ad.block (by rw [hA]; simp [bk]))
  have HCB : Hid (w3.cell? (ad.add 0) = some (.int .u8 k)) := Lib.hid (by
    rw [HHB.out] at hb0
    injection hb0 with hb0
    rw [hc0, ← hb0]
    have := HK.out
    have e : ((UInt8.ofNat k.toNat).toNat : Int) = k := by rw [UInt8.toNat_ofNat', Nat.mod_eq_of_lt (by omega)]; omega
    rw [e])
  subst hA
  clear hb0 hc0
  have hn0 : ((B.length : Int) == 0) = false := by have := HPOS.out; simp; intro h; rw [h] at this; simp at this
  have hkk : (k != k) = false := by simp
  have hwk2 : wrap64 k = k := by have := HK.out; unfold wrap64; omega
  have hpos : (0 : Int) < (B.length : Int) := by have := HPOS.out; omega
  go_upto_region 4 with (first
    | (refine wpList_store_blk rfl 61 _ _ rfl w4.heap.size Y.toArray rfl rfl 61 Z HBN.out HYT.out HYZ.out HYO.out ?_
       intro w5 hb5 hf5
       have HB5 := Lib.hid hb5
       have HF5 : Hid (Fr [w4.heap.size] w4 w5) := Lib.hid ((((Fr.refl [w4.heap.size] w4).alloc _)).trans hf5 (fun x hx _ => hx))
       clear hb5 hf5))
  have hcb : w5.cell? (ad.add 0) = some (.int .u8 k) := HF5.out.cell (HF4.out.cell HCB.out (by simp)) (by have h1 := HBK.out; have h2 := HF4.out.size; rw [add_block]; simp; omega)
  have hcb1 : w5.cell? ad = some (.int .u8 k) := by have h := hcb; simpa [Addr.add] using h
  go_wp2_with fail
  rw [set3]
  refine (mpack_any (mz 0 f t) w5 (mz_ok w5 [] 0 f t zero_in (by have := HF.out; unfold i64In; omega) (by have := HT.out; unfold i64In; omega)) _ rfl).mono ?_
  intro e_ w6 hp
  unfold PackPost at hp
  rw [if_neg (show ¬ (1 ≤ (mz 0 f t).q ∧ (mz 0 f t).q ≤ 14) from (by decide : ¬ (1 ≤ (0 : Int) ∧ (0 : Int) ≤ 14)))] at hp
  obtain ⟨rfl, hf6⟩ := hp
  have HF6 := Lib.hid hf6
  have hw14 : wrap64 (14 + k) = 14 + k := by have := HK.out; unfold wrap64; omega
  clear hf6 hcb hcb1 hn0 hkk hwk2 hpos
  go_wp2_with fail
  rw [set3]
  refine (mpack_any (mz (14 + k) f t) w6 (mz_ok w6 [] (14 + k) f t (by have := HK.out; unfold i64In; omega) (by have := HF.out; unfold i64In; omega) (by have := HT.out; unfold i64In; omega)) _ rfl).mono ?_
  intro e_ w7 hp
  unfold PackPost at hp
  rw [if_neg (show ¬ (1 ≤ (mz (14 + k) f t).q ∧ (mz (14 + k) f t).q ≤ 14) from (fun h => by have := HK.out; have h2 : 14 + k ≤ 14 := h.2; omega))] at hp
  obtain ⟨rfl, hf7⟩ := hp
  have HF7 := Lib.hid (HF6.out.and hf7 (by simp))
  have HB7 := Lib.hid (HB5.out.keep HF7.out (by simp))
  have c0 : w7.cell? ⟨w4.heap.size, 0, none⟩ = some (.int .i64 k) := HB7.out.range (cs := Y) 0 (.int .i64 k) (by rw [HY.out, ← HYQ.out.1]; rfl)
  have c1 : w7.cell? ⟨w4.heap.size, 1, none⟩ = some (.int .i64 f) := HB7.out.range (cs := Y) 1 (.int .i64 f) (by rw [HY.out, ← HYQ.out.2.1]; rfl)
  have c2 : w7.cell? ⟨w4.heap.size, 2, none⟩ = some (.int .i64 t) := HB7.out.range (cs := Y) 2 (.int .i64 t) (by rw [HY.out, ← HYQ.out.2.2]; rfl)
  have e0 : (k == k) = true := by simp
  have e1 : (f == f) = true := by simp
  have e2 : (t == t) = true := by simp
  clear hf7 hw14
  go_wp2_with fail
  refine (mwakes_any _).mono ?_
  rintro e_ w8 ⟨rfl, hf8⟩
  have HF8 := Lib.hid hf8
  clear hf8 c0 c1 c2 e0 e1 e2
  go_wp2_with fail
  go_ret
  exact ⟨rfl, (((HN3.out.2.1.and HF4.out (by simp)).trans HF5.out (fun q hq hl => by have h1 := HN3.out.2.1.size; have h2 := HF4.out.size; simp at hq; omega)).and HF7.out (by simp)).and HF8.out (by simp)⟩
end Go.Proofs.Ytniaacjfkaakjaa
