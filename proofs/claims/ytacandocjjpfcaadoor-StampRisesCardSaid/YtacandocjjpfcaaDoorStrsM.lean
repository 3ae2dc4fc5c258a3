/- gavellaw09.StampRises, walked. (written by gen_strs.py) -/
import Derived.Test.YtacandocjjpfcaaDoorStrAM
import Derived.Test.YtacandocjjpfcaaDoorStrBM
import Derived.Test.YtacandocjjpfcaaDoorStrCM
import Derived.Test.YtacandocjjpfcaaDoorKF3
namespace Go.Proofs.YtacandocjjpfcaaDoor
set_option maxRecDepth 100000
open Go.RowKit

set_option maxHeartbeats 40000000 in
theorem stampRises_walk (w0 : World) (A : Option Addr) (n c : Nat) (al : List Act9) (ha : Acts9 w0 A n al) (hn : n ≤ c) (hc : c ≤ maxLen) (hK : KW w0) :
    Calls Tryd.prog 6 #[.slice A n c] w0 fun e w' => e = .returned (.bool true) ∧ Fr [] w0 w' := by
  have HK := Lib.hid hK
  have HAL := Lib.hid ha
  have hn1 : (n : Int) ≤ 9223372036854775807 := by unfold maxLen at hc; omega
  clear hK ha hn hc
  go_enter Tryd.func6, Tryd.ntmps6
  have hbc : Blk (w0.alloc (Obj.cells #[.int .i64 0, .int .i64 0] 26)) w0.heap.size 26 #[.int .i64 0, .int .i64 0] := Blk.new _ _ _
  have HBC0 := Lib.hid hbc
  clear hbc
  go_upto_region 2 with (first
    | (refine wpList_builtg rfl 26 _ rfl _ _ (built_cf 1 3) rfl ?_)
    | (refine wpList_store_blk rfl 26 _ _ rfl w0.heap.size #[.int .i64 1, .int .i64 3] rfl rfl 26 _ HBC0.out (by kernel_rfl) rfl (by kernel_rfl) ?_; intro wa hba hfa))
  have HFA : Hid (Fr [] w0 wa) := Lib.hid (((Fr.refl [] w0).alloc _).and hfa (by simp))
  have HBA := Lib.hid hba
  clear hba hfa HBC0
  go_wp2_with fail
  refine (book_ex wa).mono ?_
  rintro e w1 ⟨Sb, gb, rfl, hb1, hf1, hn1'⟩
  have HB1 := Lib.hid hb1
  have HF1 := Lib.hid hf1
  have HN1 := Lib.hid hn1'
  have HBC1 := Lib.hid (HBA.out.keep hf1 (by simp))
  clear hb1 hf1 hn1'
  go_wp2_with (refine wpList_row rfl 26 _ rfl _ _ rfl _ (Blk.range HBC1.out) row_conf ?_)
  refine (snew_ok 1 3 2 (by decide) w1).mono ?_
  rintro e w2 ⟨S, g, rfl, hs2, hf2, hn2⟩
  have hsz : w0.heap.size ≤ wa.heap.size := HFA.out.size
  have hsz1 : wa.heap.size ≤ w1.heap.size := HF1.out.size
  have hsb2 : SB w0 w2 S Sb g gb (Sst.new 1 3 2) [] := ⟨hs2, HB1.out.keep hf2 (by simp), fun k hk => by have := hn2 k hk; omega, fun k hk => by have := HN1.out k hk; omega, fun k hk hm => by have := HB1.out.lt k hm; have := hn2 k hk; omega, Sst.new_ok (by decide)⟩
  have HF2 : Hid (Fr [] w0 w2) := Lib.hid ((HFA.out.and HF1.out (by simp)).and hf2 (by simp))
  have HSB : Hid (SB w0 (w2.alloc (.map #[] 0)) S Sb g gb (Sst.new 1 3 2) []) := Lib.hid (hsb2.keep ((Fr.refl [] w2).alloc _) (by simp))
  have HMP : Hid (MapAt nameKey (w2.alloc (.map #[] 0)) w2.heap.size (encS (Sst.new 1 3 2).l)) := Lib.hid (MapAt.made nameKey w2)
  have HF3 : Hid (Fr [] w0 (w2.alloc (.map #[] 0))) := Lib.hid (HF2.out.alloc _)
  have HBM : Hid (w0.heap.size ≤ w2.heap.size ∧ ∀ k ∈ S ++ Sb, ¬ k = w2.heap.size) := Lib.hid ⟨HF2.out.size, fun k hk => by have := hsb2.lt k hk; omega⟩
  have HX0 : Hid ((Sst.new 1 3 2).k = 3 ∧ (Sst.new 1 3 2).r = 2 ∧ (Sst.new 1 3 2).la = 0 ∧ (Sst.new 1 3 2).l.length = 0) := Lib.hid ⟨rfl, rfl, rfl, rfl⟩
  have hmm := @run_makeMap Tryd.prog
  clear hs2 hf2 hn2 hsz hsz1 hsb2
  go_upto_region 9 with (fail)
  clear hmm
  generalize Sst.new 1 3 2 = xs at *
  generalize w2.alloc (.map #[] 0) = w3 at *
  generalize w2.heap.size = bm at *
  clear HF2 HF1 HB1 HN1 HBC1 HBA HFA
  go_loopw [7, 9] (fun s7 s9 wr => ∃ (k : Nat) (x : Sst) (l : List Ent) (la : Nat), k ≤ n ∧ k ≤ 25 ∧ s7 = .int .u64 (la : Int) ∧ s9 = .int .i64 (k : Int) ∧ Hid (la = x.la) ∧ Hid (x.k = 3 ∧ x.r = 2 ∧ x.l.length ≤ k) ∧ Hid (l.length ≤ 2 * k) ∧ Hid (SB w0 wr S Sb g gb x l) ∧ Hid (MapAt nameKey wr bm (encS x.l)) ∧ Hid (Fr [] w0 wr)) (fun _ s9 _ => 26 - (intOf s9).toNat)
  case atStart => exact ⟨0, xs, [], 0, by omega, by omega, rfl, rfl, Lib.hid HX0.out.2.2.1.symm, Lib.hid ⟨HX0.out.1, HX0.out.2.1, by have := HX0.out.2.2.2; omega⟩, Lib.hid (by simp), HSB, HMP, HF3⟩
  case round =>
    clear HSB HMP HF3
    obtain ⟨k, x, l, la, hk, hk25, rfl, rfl, HLA, HXI, HL, HSB, HMP, HF⟩ := hrel
    by_cases hlt : k < n ∧ k < 25
    · obtain ⟨hkn, hk6'⟩ := hlt
      obtain ⟨ad, v, rfl, hg, -, hok, hcell⟩ := HAL.out.at hkn
      have HV := Lib.hid (hok.keep HF.out (by simp))
      have HV0 := Lib.hid hok
      have HCE : Hid (∀ j u, v.cells[j]? = some u → wr.cell? ((ad.add (k * 6)).add j) = some u) := Lib.hid (fun j u hu => HF.out.cell (hcell j u hu) (by simp))
      have hkn' : (k : Int) < n := by omega
      have hk60 : (k : Int) < 25 := by omega
      have hk0 : (0 : Int) ≤ k := by omega
      clear hg hcell hok
      have HWAY := Lib.hid (Classical.em (v.d % 6 = 3 ∨ v.d % 6 = 4 ∨ v.d % 6 = 5))
      have HLOO := Lib.hid (Classical.em (x.l.lookup (v.c % 3, 1 + v.s % 4) = none ∧ ¬ x.next = 18446744073709551615))
      go_upto_block 1 with (fail)
      go_cut [7] (fun s7 wx => RRise w0 S Sb g gb bm k s7 wx)
      case first =>
        rcases HWAY.out with hway | hway
        · exact rounds_A _ _ _ w0 n c HK S Sb g gb bm HBM wr _ _ _ _ _ _ _ _ _ _ (.bool false) (.bool false) (.bool false) (.bool false) (.bool false) (.bool false) (.bool false) (.bool false) _ _ _ _ _ _ _ _ _ _ _ _ _ _ _ _ _ _ _ _ _ _ _ _ _ _ _ _ _ _ _ _ _ _ _ _ _ _ _ _ _ _ _ _ _ _ _ _ _ _ _ _ _ _ _ _ _ _ _ _ _ _ _ _ _ _ _ _ _ _ _ _ _ _ _ _ _ _ _ _ _ _ _ _ _ _ _ _ _ _ _ _ _ _ _ _ _ _ _ _ _ _ _ _ _ _ _ _ _ _ _ _ _ _ _ _ _ _ _ _ _ _ _ _ _ _ _ _ _ _ _ _ _ _ _ _ _ _ _ _ _ _ _ _ _ _ k x l la hk25 HLA HXI HL HSB HMP HF hkn hk6' ad v HV HV0 HCE hkn' hk60 hk0 (by assumption) (by assumption) (by intro c a o u w; cases o.dst <;> exact fun h => h) hway
        · have HWY : Hid (¬ (v.d % 6 = 3 ∨ v.d % 6 = 4) ∧ ¬ v.d % 6 = 5) := Lib.hid (by omega)
          rcases HLOO.out with hlo | hlo
          · exact rounds_C _ _ _ w0 n c HK S Sb g gb bm HBM wr _ _ _ _ _ _ _ _ _ _ (.bool false) (.bool false) (.bool false) (.bool false) (.bool false) (.bool false) (.bool false) (.bool false) _ _ _ _ _ _ _ _ _ _ _ _ _ _ _ _ _ _ _ _ _ _ _ _ _ _ _ _ _ _ _ _ _ _ _ _ _ _ _ _ _ _ _ _ _ _ _ _ _ _ _ _ _ _ _ _ _ _ _ _ _ _ _ _ _ _ _ _ _ _ _ _ _ _ _ _ _ _ _ _ _ _ _ _ _ _ _ _ _ _ _ _ _ _ _ _ _ _ _ _ _ _ _ _ _ _ _ _ _ _ _ _ _ _ _ _ _ _ _ _ _ _ _ _ _ _ _ _ _ _ _ _ _ _ _ _ _ _ _ _ _ _ _ _ _ _ k x l la hk25 HLA HXI HL HSB HMP HF hkn hk6' ad v HV HV0 HCE hkn' hk60 hk0 (by assumption) (by assumption) (by intro c a o u w; cases o.dst <;> exact fun h => h) HWY (Lib.hid hlo)
          · exact rounds_B _ _ _ w0 n c HK S Sb g gb bm HBM wr _ _ _ _ _ _ _ _ _ _ (.bool false) (.bool false) (.bool false) (.bool false) (.bool false) (.bool false) (.bool false) (.bool false) _ _ _ _ _ _ _ _ _ _ _ _ _ _ _ _ _ _ _ _ _ _ _ _ _ _ _ _ _ _ _ _ _ _ _ _ _ _ _ _ _ _ _ _ _ _ _ _ _ _ _ _ _ _ _ _ _ _ _ _ _ _ _ _ _ _ _ _ _ _ _ _ _ _ _ _ _ _ _ _ _ _ _ _ _ _ _ _ _ _ _ _ _ _ _ _ _ _ _ _ _ _ _ _ _ _ _ _ _ _ _ _ _ _ _ _ _ _ _ _ _ _ _ _ _ _ _ _ _ _ _ _ _ _ _ _ _ _ _ _ _ _ _ _ _ _ k x l la hk25 HLA HXI HL HSB HMP HF hkn hk6' ad v HV HV0 HCE hkn' hk60 hk0 (by assumption) (by assumption) (by intro c a o u w; cases o.dst <;> exact fun h => h) HWY (Lib.hid hlo)
      case rest =>
        obtain ⟨x2, l2, la2, rfl, HLA2, HXI2, HL2, HSB, HMP, HFX⟩ := RRise.open hcut
        rename World => wz
        go_wp2_with fail
        go_roundw
        case rel => exact ⟨k + 1, x2, l2, la2, by omega, by omega, rfl, by go_num, HLA2, HXI2, HL2, HSB, HMP, HFX⟩
        case measure => simp [intOf]; omega
    · have HSBL := Lib.hid (slen_any wr S g x HSB.out.s)
      have hml : ∀ ty, (Builtin.len_ #[70] ty #[.map (some bm)]).run Tryd.prog wr = .ok (.int .i64 x.l.length) wr := fun ty => by
        have := HMP.out.len Tryd.underlying70 ty
        rw [encS_len] at this
        exact this
      by_cases hkq : (k : Int) < n
      all_goals
        have hk6' : ¬ ((k : Int) < n ∧ (k : Int) < 25) := by omega
        first
          | (have hk6 : ¬ (k : Int) < 25 := by omega
             clear hk6')
          | clear hk6'
        go_wp2_with fail
        refine HSBL.out.mono ?_
        rintro e_ _ ⟨rfl, rfl⟩
        go_wp2_with fail
        refine (swakes_any wr (HK.out.keep HF.out (by simp))).mono ?_
        rintro e_ w11 ⟨rfl, hf11⟩
        have HF11 := Lib.hid (HF.out.and hf11 (by simp))
        clear hf11
        go_wp2
        go_ret
        exact ⟨rfl, HF11.out⟩
end Go.Proofs.YtacandocjjpfcaaDoor
