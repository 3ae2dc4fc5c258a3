/- DiskGrows: the walk. (written by gen_dlw4.py) -/
import Derived.Test.YtjpmiigoglcoaaaDlw3
import Derived.Test.YtjpmiigoglcoaaaActs7
namespace Go.Proofs.Ytjpmiigoglcoaaa
set_option maxRecDepth 100000
open Go.RowKit
theorem Act7V.in_blk {w : World} {g : Nat} {t : TypeId} {v : Act7V} (hb : Blk w g t v.cells.toArray) :
    w.cell? ⟨g, 0, none⟩ = some (.int .i64 v.d) ∧ w.cell? ⟨g, 1, none⟩ = some (.int .i64 v.q) ∧ w.cell? ⟨g, 2, none⟩ = some (.slice v.A v.m v.c) :=
  ⟨by rw [hb.cell 0]; rfl, by rw [hb.cell 1]; rfl, by rw [hb.cell 2]; rfl⟩

set_option maxHeartbeats 4000000 in
theorem diskGrows_walk (w : World) (A : Option Addr) (n c : Nat) (l : List Act7V) (hA : Acts7 w A n l) (hn : n ≤ c) (hc : c ≤ maxLen) :
    Calls Try.prog 5 #[.slice A n c] w fun e w' => e = .returned (.bool true) ∧ Fr [] w w' := by
  have HA := Lib.hid hA
  have hn1 : (n : Int) ≤ 9223372036854775807 := by unfold maxLen at hc; omega
  clear hA hn hc
  go_enter Try.func5, Try.ntmps5
  go_wp2_with fail
  refine (dnew_any w).mono ?_
  rintro e w1 ⟨rfl, hd1, hf1⟩
  have HD1 : Hid (Dok w1 [w.heap.size] w.heap.size (cs [] 0)) := Lib.hid hd1
  have HF1 := Lib.hid hf1
  clear hd1 hf1
  generalize hg : w.heap.size = g at *
  have HG := Lib.hid hg
  clear hg
  go_wp2_with fail
  go_loopw [4, 5, 6] (fun s4 s5 i wr => ∃ (k z s : Nat) (r : List UInt8) (S : List Nat), k ≤ n ∧ k ≤ 25 ∧ i = .int .i64 k ∧ s4 = .int .i64 z ∧ s5 = .int .i64 s ∧ Hid (r.length = z ∧ s ≤ z ∧ z ≤ 20 * k) ∧ Hid (Dok wr S g (cs r s)) ∧ Hid (∀ x ∈ S, g ≤ x) ∧ Hid (Fr [] w wr)) (fun _ _ i _ => 25 - (intOf i).toNat)
  case atStart => exact ⟨0, 0, 0, [], [g], by omega, by omega, rfl, rfl, rfl, Lib.hid (by simp), HD1, Lib.hid (by simp), HF1⟩
  case round =>
    obtain ⟨k, z, s, r, S, hk, hk25, rfl, rfl, rfl, HZ, HD, HS, HF⟩ := hrel
    by_cases hlt : k < n ∧ k < 25
    · obtain ⟨hkn, hk2⟩ := hlt
      obtain ⟨ad, v, rfl, hgv, hok, hcells⟩ := HA.out.at HF.out.below_all hkn
      have HOK := Lib.hid hok
      have HCELLS := Lib.hid hcells
      have hk0 : (0 : Int) ≤ k := by omega
      clear hgv hok hcells
      go_wp2_with (first
        | (refine wpList_load_cells rfl 41 _ rfl (ad.add (k * 3)) rfl v.cells _ (fun j x hx => by rw [add_add]; exact HCELLS.out j x hx) Try.underlying41 rfl (by rw [act7_size]; rfl) ?_)
        | (refine wpList_store_box rfl 41 _ _ rfl _ 41 v.cells rfl rfl (by rw [act7_size]; rfl) rfl v.one ?_
           intro wb hblk hfb
           obtain ⟨hc0, hc1, hc2⟩ := Act7V.in_blk hblk
           have HBLK := Lib.hid hblk
           have HFB := Lib.hid hfb
           have HOKB := Lib.hid (HOK.out.keep hfb (by simp))
           have HDB := Lib.hid (HD.out.keep hfb (by simp))
           clear hblk hfb))
      rw [show (20 : Int) = ((20 : Nat) : Int) from rfl]
      refine (cut_any v.A v.m v.c 20 v.b wb HOKB.out.b (Nat.le_trans HOKB.out.m HOKB.out.c) HOKB.out.m (by omega)).mono ?_
      rintro e w4 ⟨A4, c4, rfl, hN4⟩
      have hb20 : (v.b.take 20).length ≤ 20 := List.length_take_le _ _
      generalize v.b.take 20 = b at *
      have H20 := Lib.hid hb20
      have HN4 := Lib.hid hN4
      have hc04 := hN4.2.1.cell hc0 (by simp)
      have hc14 := hN4.2.1.cell hc1 (by simp)
      have HC14 := Lib.hid hc14
      have HD4 := Lib.hid (HDB.out.keep hN4.2.1 (by simp))
      have HF4 : Hid (Fr [] w w4) := Lib.hid ((HF.out.and HFB.out (by simp)).and hN4.2.1 (by simp))
      have HA4 : Hid (∀ x ∈ bk A4, ¬ x = g) := Lib.hid (fun x hx he => by have h1 := hN4.2.2 x hx; have h2 := HDB.out.lt g HDB.out.mem; omega)
      clear hN4 hb20 hc0 hc1 hc2
      go_wp2_with fail
      refine (within_pos v.d 8 HOKB.out.d.1 HOKB.out.d.2 (by omega) (by omega) _).mono ?_
      rintro e w5 ⟨rfl, rfl⟩
      clear hc04 hc14
      generalize wr.heap.size = gb at *
      go_upto_block 2 with (fail)
      go_cut [4, 5] (fun s4 s5 wx => ∃ (z' s' : Nat) (r' : List UInt8) (S' : List Nat), s4 = .int .i64 z' ∧ s5 = .int .i64 s' ∧ Hid (r'.length = z' ∧ s' ≤ z' ∧ z' ≤ 20 * (k + 1)) ∧ Hid (Dok wx S' g (cs r' s')) ∧ Hid (∀ x ∈ S', g ≤ x) ∧ Hid (Fr [] w wx))
      case first =>
        obtain hq | hq | hq | hq : v.d % 8 = 3 ∨ v.d % 8 = 4 ∨ v.d % 8 = 5 ∨ ¬ (v.d % 8 = 3 ∨ v.d % 8 = 4 ∨ v.d % 8 = 5) := by omega
        · have hq3 : (v.d % 8 == 3) = true := by simp; omega
          clear hq
          go_wp2_with fail
          refine (csync_any w4 S g r s HD4.out (by have := HZ.out; omega) (by have := HZ.out; omega)).mono ?_
          rintro e w6 ⟨rfl, hd6, hf6⟩
          have HD6 := Lib.hid hd6
          have HF6 : Hid (Fr [] w w6) := Lib.hid (HF4.out.trans hf6 (fun x hx hl => by simp at hx; have := HG.out; omega))
          clear hd6 hf6
          go_wp2_with fail
          go_meet
          exact ⟨z, z, r, S, rfl, rfl, Lib.hid (by have := HZ.out; omega), Lib.hid (HZ.out.1 ▸ HD6.out), HS, HF6⟩
        · have hq3 : (v.d % 8 == 3) = false := by simp; omega
          have hq4 : (v.d % 8 == 4) = true := by simp; omega
          clear hq
          go_wp2_with fail
          refine (csync_any w4 S g r s HD4.out (by have := HZ.out; omega) (by have := HZ.out; omega)).mono ?_
          rintro e w6 ⟨rfl, hd6, hf6⟩
          have HD6 := Lib.hid hd6
          have HF6 : Hid (Fr [] w w6) := Lib.hid (HF4.out.trans hf6 (fun x hx hl => by simp at hx; have := HG.out; omega))
          clear hd6 hf6
          go_wp2_with fail
          go_meet
          exact ⟨z, z, r, S, rfl, rfl, Lib.hid (by have := HZ.out; omega), Lib.hid (HZ.out.1 ▸ HD6.out), HS, HF6⟩
        · have hq3 : (v.d % 8 == 3) = false := by simp; omega
          have hq4 : (v.d % 8 == 4) = false := by simp; omega
          have hq5 : (v.d % 8 == 5) = true := by simp; omega
          clear hq
          have hc14 := HC14.out
          have hwz : IntKind.i64.wrap ((z : Int) + 1) = (z : Int) + 1 := by have := HZ.out; rw [IntKind.wrap_i64]; omega
          have hwz2 : wrap64 ((z : Int) + 1) = (z : Int) + 1 := by have := HZ.out; unfold wrap64; omega
          have HWZ := Lib.hid hwz
          have HWZ2 := Lib.hid hwz2
          clear hwz hwz2
          go_wp2_with fail
          first | rw [HWZ2.out] | rw [HWZ.out]
          refine (within_pos v.q ((z : Int) + 1) HOKB.out.q.1 HOKB.out.q.2 (by omega) (by have := HZ.out; omega) _).mono ?_
          rintro e w6 ⟨rfl, rfl⟩
          clear hc14
          obtain ⟨q, hq, hqz⟩ : ∃ q : Nat, v.q % ((z : Int) + 1) = (q : Int) ∧ q ≤ z := by
            have h1 : 0 ≤ v.q % ((z : Int) + 1) := Int.emod_nonneg _ (by omega)
            have h2 : v.q % ((z : Int) + 1) < (z : Int) + 1 := Int.emod_lt_of_pos _ (by omega)
            exact ⟨(v.q % ((z : Int) + 1)).toNat, by omega, by omega⟩
          rw [hq]
          clear hq
          have HQZ := Lib.hid hqz
          clear hqz
          go_wp2_with fail
          refine (ccut_any w4 S g r s HD4.out (by have := HZ.out; omega) (by have := HZ.out; omega) q (by rw [HZ.out.1]; exact HQZ.out)).mono ?_
          rintro e w6 ⟨rfl, hd6, hf6⟩
          have HD6 := Lib.hid hd6
          have HF6 : Hid (Fr [] w w6) := Lib.hid (HF4.out.trans hf6 (fun x hx hl => by simp at hx; have := HG.out; omega))
          clear hd6 hf6
          have HL6 : Hid ((r.take q).length = q) := Lib.hid (by rw [List.length_take, HZ.out.1]; have := HQZ.out; omega)
          by_cases hsq : q < s
          · have hm : Hid (min s q = q) := Lib.hid (by omega)
            go_wp2_with fail
            go_meet
            exact ⟨q, q, r.take q, S, rfl, rfl, Lib.hid ⟨HL6.out, Nat.le_refl _, by have := HQZ.out; have := HZ.out; omega⟩, Lib.hid (by have h := HD6.out; rw [hm.out] at h; exact h), HS, HF6⟩
          · have hm : Hid (min s q = s) := Lib.hid (by omega)
            go_wp2_with fail
            go_meet
            exact ⟨q, s, r.take q, S, rfl, rfl, Lib.hid ⟨HL6.out, by omega, by have := HQZ.out; have := HZ.out; omega⟩, Lib.hid (by have h := HD6.out; rw [hm.out] at h; exact h), HS, HF6⟩
        · have hq3 : (v.d % 8 == 3) = false := by simp; omega
          have hq4 : (v.d % 8 == 4) = false := by simp; omega
          have hq5 : (v.d % 8 == 5) = false := by simp; omega
          clear hq
          have hwz : IntKind.i64.wrap ((z : Int) + (b.length : Int)) = ((z + b.length : Nat) : Int) := by have := HZ.out; have := H20.out; rw [IntKind.wrap_i64]; omega
          have hwz2 : wrap64 ((z : Int) + (b.length : Int)) = ((z + b.length : Nat) : Int) := by have := HZ.out; have := H20.out; unfold wrap64; omega
          have HWZ := Lib.hid hwz
          have HWZ2 := Lib.hid hwz2
          clear hwz hwz2
          go_wp2_with fail
          refine (cput_any w4 w S g r s HD4.out (by have := HZ.out; omega) A4 b.length c4 b HN4.out.by HA4.out (by have := HZ.out; have := H20.out; omega) (fun x hx => by have := HS.out x hx; have := HG.out; omega) HF4.out.size).mono ?_
          rintro e w6 ⟨rfl, S6, hd6, hf6, hs6⟩
          have HD6 := Lib.hid hd6
          have HS6 : Hid (∀ x ∈ S6, g ≤ x) := Lib.hid (fun x hx => by have := hs6 x hx; have := HG.out; omega)
          have HF6 : Hid (Fr [] w w6) := Lib.hid (HF4.out.trans hf6 (fun x hx hl => by have := HS.out x hx; have := HG.out; omega))
          clear hd6 hf6 hs6
          have hwz := HWZ.out
          go_wp2_with fail
          clear hwz
          go_meet
          exact ⟨z + b.length, s, r ++ b, S6, by first | rfl | rw [HWZ2.out] | rw [HWZ.out], rfl, Lib.hid ⟨by rw [List.length_append, HZ.out.1], by have := HZ.out; omega, by have := HZ.out; have := H20.out; omega⟩, HD6, HS6, HF6⟩
      case rest =>
        obtain ⟨z', s', r', S', rfl, rfl, HZ', HD', HS', HF'⟩ := hcut
        have hne1 : ((z' : Int) != (z' : Int)) = false := by simp
        have hne2 : ((s' : Int) != (s' : Int)) = false := by simp
        go_wp2_with fail
        refine (clen_eq wc S' g r' s' z' HD'.out HZ'.out.1).mono ?_
        rintro e wy ⟨rfl, rfl⟩
        go_wp2_with fail
        refine (csynced_any wc S' g r' s' HD'.out).mono ?_
        rintro e wy ⟨rfl, rfl⟩
        go_wp2_with fail
        refine (cread_eq wc S' g r' s' z' HD'.out (by have := HZ'.out; omega) HZ'.out.1 (by have := HZ'.out; omega)).mono ?_
        rintro e w7 ⟨A7, c7, rfl, hN7⟩
        have HD7 := Lib.hid (HD'.out.keep hN7.2.1 (by simp))
        have HF7 : Hid (Fr [] w w7) := Lib.hid (HF'.out.and hN7.2.1 (by simp))
        clear hN7
        go_wp2_with fail
        refine (cdead_any w7 S' g r' s' HD7.out).mono ?_
        rintro e wy ⟨rfl, rfl⟩
        clear hne1 hne2
        go_wp2
        go_roundw
        case rel => exact ⟨k + 1, z', s', r', S', by omega, by omega, by go_num, rfl, rfl, HZ', HD7, HS', HF7⟩
        case measure => simp [intOf]; omega
    · have hex : ∀ (_ : k < n), k = 25 := fun h => by omega
      by_cases hkn' : k < n
      · have hk30' : k = 25 := by omega
        subst hk30'
        clear hlt hex
        go_wp2_with fail
        refine (dwakes_any wr).mono ?_
        rintro e w8 ⟨rfl, hf8⟩
        have HFIN := Lib.hid (HF.out.and hf8 (by simp))
        clear hf8
        go_wp2
        go_ret
        exact ⟨rfl, HFIN.out⟩
      · have hd : decide (k < n) = false := by simp; omega
        have hd2 : decide ((k : Int) < (n : Int)) = false := by simp; omega
        clear hkn' hlt hex
        go_wp2_with fail
        refine (dwakes_any wr).mono ?_
        rintro e w8 ⟨rfl, hf8⟩
        have HFIN := Lib.hid (HF.out.and hf8 (by simp))
        clear hf8
        go_wp2
        go_ret
        exact ⟨rfl, HFIN.out⟩
end Go.Proofs.Ytjpmiigoglcoaaa
