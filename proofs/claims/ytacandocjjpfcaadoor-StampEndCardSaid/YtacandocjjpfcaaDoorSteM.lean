/- gavellaw09.StampEnd, walked. -/
import Derived.Test.YtacandocjjpfcaaDoorKF3
namespace Go.Proofs.YtacandocjjpfcaaDoor
set_option maxRecDepth 100000
open Go.RowKit

theorem lookup_snoc_none {l : List (Nam × Wst)} {n m : Nam} {v : Wst} (h : l.lookup m = none) (hn : ¬ m = n) : (l ++ [(n, v)]).lookup m = none := by
  rw [List.lookup_append, h]
  have : (m == n) = false := by simpa using hn
  simp [List.lookup, this]
/-- the stamper behind k commitments, g of which were stamped, from NL on -/
structure SEnd (NL k g : Nat) (x : Sst) : Prop where
  kk : x.k = 1
  now : x.now = NL
  fl : x.fl = 0
  la : x.la = if g = 0 then 0 else NL + g - 1
  len : x.l.length = g
  look : ∀ s : Int, (k : Int) < s → x.l.lookup (0, s) = none
theorem SEnd.next {NL k g : Nat} {x : Sst} (h : SEnd NL k g x) (hN : 2 ≤ NL) : x.next = NL + g := by
  have h1 := h.now
  have h2 := h.fl
  have h3 := h.la
  unfold Sst.next
  split at h3 <;> omega
theorem SEnd.more {NL k : Nat} {x : Sst} (h : SEnd NL k k x) (hN : 2 ≤ NL) (Z : Cm) (hZ : (Z.c, Z.s) = (0, (k : Int) + 1)) (l : List Ent) : SEnd NL (k + 1) (k + 1) (x.more Z l) :=
  ⟨h.kk, h.now, h.fl, by have := h.next hN; show x.next = _; rw [if_neg (by omega)]; omega, by show (x.l ++ _).length = _; rw [List.length_append, h.len]; rfl,
    fun s hs => by
      show (x.l ++ [((Z.c, Z.s), x.given Z l)]).lookup (0, s) = none
      refine lookup_snoc_none (h.look s (by omega)) ?_
      rw [hZ]
      intro e
      injection e with _ e
      omega⟩
theorem SEnd.stay {NL k g : Nat} {x : Sst} (h : SEnd NL k g x) : SEnd NL (k + 1) g x := ⟨h.kk, h.now, h.fl, h.la, h.len, fun s hs => h.look s (by omega)⟩
set_option maxHeartbeats 4000000 in
theorem stampEnd_walk (w0 : World) (less : Nat) (hless : less < 18446744073709551616) (n : Int) (hn1 : -9223372036854775808 ≤ n) (hn2 : n < 9223372036854775808) (hK : KW w0) :
    Calls Tryd.prog 4 #[.int .u64 (less : Int), .int .i64 n] w0 fun e w' => e = .returned (.bool true) ∧ Fr [] w0 w' := by
  have HK := Lib.hid hK
  have HNN := Lib.hid (And.intro hn1 hn2)
  clear hK hn1 hn2
  go_enter Tryd.func4, Tryd.ntmps4
  have hbc : Blk (w0.alloc (Obj.cells #[.int .i64 0, .int .i64 0] 26)) w0.heap.size 26 #[.int .i64 0, .int .i64 0] := Blk.new _ _ _
  have HBC0 := Lib.hid hbc
  clear hbc
  go_upto_region 2 with (first
    | (refine wpList_builtg rfl 26 _ rfl _ _ (built_cf 1 1) rfl ?_)
    | (refine wpList_store_blk rfl 26 _ _ rfl w0.heap.size #[.int .i64 1, .int .i64 1] rfl rfl 26 _ HBC0.out (by kernel_rfl) rfl (by kernel_rfl) ?_; intro wa hba hfa))
  have HFA : Hid (Fr [] w0 wa) := Lib.hid (((Fr.refl [] w0).alloc _).and hfa (by simp))
  have HBA := Lib.hid hba
  clear hba hfa HBC0
  go_wp2_with fail
  refine (book_ex wa).mono ?_
  rintro e w1 ⟨Sb, gb, rfl, hb1, hf1, hn1⟩
  have HB1 := Lib.hid hb1
  have HF1 := Lib.hid hf1
  have HN1 := Lib.hid hn1
  have HBC1 := Lib.hid (HBA.out.keep hf1 (by simp))
  clear hb1 hf1 hn1
  go_wp2_with (refine wpList_row rfl 26 _ rfl _ _ rfl _ (Blk.range HBC1.out) row_conf ?_)
  refine (snew_ok 1 1 0 (by decide) w1).mono ?_
  rintro e w2 ⟨S, g, rfl, hs2, hf2, hn2⟩
  have hsz : w0.heap.size ≤ wa.heap.size := HFA.out.size
  have hsz1 : wa.heap.size ≤ w1.heap.size := HF1.out.size
  have HSB : Hid (SB w0 w2 S Sb g gb (Sst.new 1 1 0) []) := Lib.hid ⟨hs2, HB1.out.keep hf2 (by simp), fun k hk => by have := hn2 k hk; omega, fun k hk => by have := HN1.out k hk; omega, fun k hk hm => by have := HB1.out.lt k hm; have := hn2 k hk; omega, Sst.new_ok (by decide)⟩
  have HF2 : Hid (Fr [] w0 w2) := Lib.hid ((HFA.out.and HF1.out (by simp)).and hf2 (by simp))
  clear hs2 hf2 hn2 hsz hsz1
  obtain ⟨LS, hLS⟩ : ∃ LS : Nat, LS = 1 + less % 4 := ⟨_, rfl⟩
  have HLS := Lib.hid hLS
  have hLb : 1 ≤ LS ∧ LS ≤ 4 := by omega
  have HLb := Lib.hid hLb
  have e1 : (1 : Int) + (less : Int) % 4 = LS := by omega
  clear hLS hLb
  obtain ⟨NL, hNL⟩ : ∃ NL : Nat, (NL : Int) = 18446744073709551615 - LS := ⟨18446744073709551615 - LS, by have := HLb.out; omega⟩
  have hNL2 : 2 ≤ NL ∧ NL + LS = 18446744073709551615 := by have := HLb.out; omega
  have HNL := Lib.hid hNL2
  go_wp2_with fail
  rw [← hNL]
  refine (HSB.out.tick NL (by omega)).mono ?_
  rintro e w3 ⟨rfl, hs3, hf3⟩
  have HS3 := Lib.hid hs3
  have HF3 : Hid (Fr [] w0 w3) := Lib.hid (HF2.out.go hf3 HSB.out.ge)
  have HQ3 : Hid (SEnd NL 0 0 ((Sst.new 1 1 0).tick NL)) := Lib.hid ⟨rfl, by show min (0 + NL) _ = NL; omega, rfl, rfl, rfl, fun s _ => rfl⟩
  generalize (Sst.new 1 1 0).tick NL = xs at *
  clear hs3 hf3 HSB HF2 hNL hNL2
  go_upto_region 11 with (fail)
  go_loopw [9, 10, 11] (fun s9 s10 s11 wr => ∃ (k q : Nat) (x : Sst) (l : List Ent) (la : Nat), k ≤ 6 ∧ q ≤ 6 ∧ s9 = .int .i64 (q : Int) ∧ s10 = .int .u64 (la : Int) ∧ s11 = .int .i64 ((k : Int) + 1) ∧ Hid (q = min k LS) ∧ Hid (SEnd NL k q x) ∧ Hid (la = x.la) ∧ Hid (l.length ≤ 2 * k) ∧ Hid (SB w0 wr S Sb g gb x l) ∧ Hid (Fr [] w0 wr)) (fun _ _ s11 _ => 7 - (intOf s11).toNat)
  case atStart => exact ⟨0, 0, xs, [], 0, by omega, by omega, rfl, rfl, rfl, Lib.hid (by omega), HQ3, Lib.hid HQ3.out.la.symm, Lib.hid (by simp), HS3, HF3⟩
  case round =>
    obtain ⟨k, q, x, l, la, hk, hq6, rfl, rfl, rfl, HQK, HQ, HLA, HL, HSB, HF⟩ := hrel
    have hLb := HLb.out
    have hN := HNL.out
    by_cases hlt : k < 6
    · by_cases hc : k < LS
      · have hqk : q = k := by have := HQK.out; omega
        subst hqk
        have hlac : la = if q = 0 then 0 else NL + q - 1 := HLA.out.trans HQ.out.la
        obtain ⟨l1, hl1⟩ : ∃ l1, l1 = sgn l (1000 + 0, (made0 0 ((q : Int) + 1) hz32 []).text) := ⟨_, rfl⟩
        obtain ⟨Z, hZ⟩ : ∃ Z, Z = made 0 ((q : Int) + 1) hz32 [] l := ⟨_, rfl⟩
        have hs64 : i64In ((q : Int) + 1) := ⟨by omega, by omega⟩
        have hll := HL.out
        have hll1 : l1.length ≤ l.length + 1 := by rw [hl1]; exact sgn_len1 l _
        have hz : Z.Ok := by rw [hZ]; exact made_ok 0 ((q : Int) + 1) (by omega) hs64 hz32 [] (by decide) l (by omega)
        have hr : rightC x.k l1 Z = true := by rw [hl1, hZ, HQ.out.kk]; exact made_right 0 ((q : Int) + 1) (by omega) hz32 [] l 1 (by omega) ⟨by omega, by omega⟩ (by decide)
        have hZn : (Z.c, Z.s) = (0, (q : Int) + 1) := by rw [hZ]; rfl
        have hlk : x.l.lookup (Z.c, Z.s) = none := by rw [hZn]; exact HQ.out.look _ (by omega)
        have hnx := HQ.out.next (by omega)
        have hst := Sst.stamp_new hr hlk (by omega)
        have hq2 := HQ.out.more (by omega) Z hZn l1
        obtain ⟨Y, hY⟩ : ∃ Y, Y = x.given Z l1 := ⟨_, rfl⟩
        obtain ⟨x2, hx2⟩ : ∃ x2, x2 = x.more Z l1 := ⟨_, rfl⟩
        obtain ⟨l2, hl2⟩ : ∃ l2, l2 = sgn l1 (x.r, (x.bare Z).text) := ⟨_, rfl⟩
        obtain ⟨E, hE⟩ : ∃ E : Int, E = 0 := ⟨_, rfl⟩
        rw [← hY, ← hx2, ← hl2, ← hE] at hst
        have hYh : Y.h.length = 32 := by rw [hY]; exact hz.h
        have hYt : Y.t = NL + q := by rw [hY]; exact hnx
        have HL2 : Hid (l2.length ≤ 2 * (q + 1)) := Lib.hid (by have := sgn_len1 l1 (x.r, (x.bare Z).text); rw [hl2]; omega)
        have HZ := Lib.hid hz
        have HYL : Hid (Y.cells.length = 38) := Lib.hid (Wst.len hYh)
        have HYS := Lib.hid (st_size (x := Y) hYh)
        have HYH := Lib.hid hYh
        have HMK : Hid (∀ W, SB w0 W S Sb g gb x l → Fr (S ++ Sb) wr W → Calls Tryd.prog 10 #[.pointer (some ⟨gb, 0, none⟩), .agg #[.int .i64 0, .int .i64 ((q : Int) + 1)], .agg (hz32.map by8).toArray, .slice none 0 0] W fun e w' => e = .returned (.agg Z.cells.toArray) ∧ SB w0 w' S Sb g gb x l1 ∧ Fr (S ++ Sb) W w') := Lib.hid (fun W hW hF => by
          rw [hZ, hl1]
          exact hW.make 0 ((q : Int) + 1) (by omega) hs64 hz32 rfl none 0 0 [] (By.nil _ _) (by simp [bk]) (by omega) (kw_fr HK.out HF.out hF hW.ge) (by omega))
        have HST : Hid (∀ W, SB w0 W S Sb g gb x l1 → Calls Tryd.prog 14 #[.pointer (some ⟨g, 0, none⟩), .pointer (some ⟨gb, 0, none⟩), .agg Z.cells.toArray] W fun e w' => e = .returned (.tuple #[.agg Y.cells.toArray, .int .i64 E]) ∧ SB w0 w' S Sb g gb x2 l2 ∧ Fr (S ++ Sb) W w') := Lib.hid (fun W hW => by
          have := hW.stamp (by omega) (by rw [HQ.out.len]; omega) Z HZ.out
          rw [hst] at this
          exact this)
        rw [← hx2] at hq2
        have HQ2 := Lib.hid hq2
        have HYT := Lib.hid hYt
        have c1 : decide ((NL : Int) + q ≤ la) = false := decide_eq_false (by split at hlac <;> omega)
        have c2 : ((NL : Int) + q == 18446744073709551615) = false := by simp; omega
        have HC1 := Lib.hid c1
        have HC2 := Lib.hid c2
        have HEE := Lib.hid hE
        clear hl1 hZ hs64 hll hll1 hz hr hZn hlk hnx hst hq2 hY hx2 hl2 hE hYh hYt hlac c1 c2 hLb hN
        go_wp2_with (first | (refine wpList_builtg rfl 30 _ rfl _ _ (built_nm1 _) rfl ?_) | (refine wpList_builtg rfl 32 _ rfl _ _ built_h0 rfl ?_))
        refine (HMK.out _ HSB.out (Fr.refl _ _)).mono ?_
        rintro e_ x1 ⟨rfl, hs, hf⟩
        have HS1 := Lib.hid hs
        have HM1 := Lib.hid hf
        clear hs hf
        go_wp2_with fail
        refine (HST.out _ HS1.out).mono ?_
        rintro e_ x2w ⟨rfl, hs, hf⟩
        have HS2 := Lib.hid hs
        have HM2 := Lib.hid (HM1.out.trans hf (fun k hk _ => hk))
        clear hs hf
        have HGL : Hid (wr.heap.size ≤ x2w.heap.size) := Lib.hid HM2.out.size
        have HGB : Hid (Blk (x2w.alloc (Obj.cells zSt.cells.toArray 47)) x2w.heap.size 47 zSt.cells.toArray) := Lib.hid (Blk.new _ _ _)
        have HSA : Hid (SB w0 (x2w.alloc (Obj.cells zSt.cells.toArray 47)) S Sb g gb x2 l2) := Lib.hid (HS2.out.keep ((Fr.refl [] x2w).alloc _) (by simp))
        have HMA : Hid (Fr (S ++ Sb) wr (x2w.alloc (Obj.cells zSt.cells.toArray 47))) := Lib.hid (HM2.out.alloc _)
        have HGN : Hid (¬ x2w.heap.size ∈ S ++ Sb) := Lib.hid (fun hm => by have := HS2.out.lt _ hm; omega)
        go_upto_region 14 with (refine wpList_store_blk rfl 47 _ _ rfl x2w.heap.size Y.cells.toArray rfl rfl 47 _ HGB.out HYS.out (by rw [List.size_toArray, List.size_toArray, zSt_len, HYL.out]) Y.all ?_; intro w9 hb9 hf9)
        have HB9 := Lib.hid hb9
        have HS9 : Hid (SB w0 w9 S Sb g gb x2 l2) := Lib.hid (HSA.out.keep hf9 (fun k hk hm => HGN.out (by simp at hm; subst hm; exact hk)))
        have HF9 : Hid (Fr (S ++ Sb) wr w9) := Lib.hid (HMA.out.go hf9 (by have := HGL.out; simpa using this))
        clear hb9 hf9 HGB HSA HMA HS1 HM1 HS2 HM2
        generalize x2w.heap.size = gN at *
        have ht := (Wst.at_of HB9.out.range HYH.out).t
        rw [HYT.out] at ht
        have ht' : w9.cell? ⟨gN, 0 + 35, none⟩ = some (.int .u64 ((NL : Int) + q)) := by rw [ht]; congr 2
        clear ht
        obtain rfl := HEE.out
        have c1 := HC1.out
        have c2 := HC2.out
        go_wp2
        go_roundw
        case rel => exact ⟨q + 1, q + 1, x2, l2, NL + q, by omega, by omega, by go_num, by go_num, by go_num, Lib.hid (by omega), HQ2, Lib.hid (by rw [HQ2.out.la, if_neg (by omega)]; omega), HL2, HS9, Lib.hid (HF.out.go HF9.out HS9.out.ge)⟩
        case measure => simp [intOf]; omega
      · have hqk : q = LS := by have := HQK.out; omega
        subst hqk
        obtain ⟨l1, hl1⟩ : ∃ l1, l1 = sgn l (1000 + 0, (made0 0 ((k : Int) + 1) hz32 []).text) := ⟨_, rfl⟩
        obtain ⟨Z, hZ⟩ : ∃ Z, Z = made 0 ((k : Int) + 1) hz32 [] l := ⟨_, rfl⟩
        have hs64 : i64In ((k : Int) + 1) := ⟨by omega, by omega⟩
        have hll := HL.out
        have hll1 : l1.length ≤ l.length + 1 := by rw [hl1]; exact sgn_len1 l _
        have hz : Z.Ok := by rw [hZ]; exact made_ok 0 ((k : Int) + 1) (by omega) hs64 hz32 [] (by decide) l (by omega)
        have hr : rightC x.k l1 Z = true := by rw [hl1, hZ, HQ.out.kk]; exact made_right 0 ((k : Int) + 1) (by omega) hz32 [] l 1 (by omega) ⟨by omega, by omega⟩ (by decide)
        have hZn : (Z.c, Z.s) = (0, (k : Int) + 1) := by rw [hZ]; rfl
        have hlk : x.l.lookup (Z.c, Z.s) = none := by rw [hZn]; exact HQ.out.look _ (by omega)
        have hnx := HQ.out.next (by omega)
        have hst := Sst.stamp_end hr hlk (by omega)
        have hq2 := HQ.out.stay
        obtain ⟨Y, hY⟩ : ∃ Y, Y = zSt := ⟨_, rfl⟩
        obtain ⟨x2, hx2⟩ : ∃ x2, x2 = x := ⟨_, rfl⟩
        obtain ⟨l2, hl2⟩ : ∃ l2, l2 = l1 := ⟨_, rfl⟩
        obtain ⟨E, hE⟩ : ∃ E : Int, E = 4 := ⟨_, rfl⟩
        have hst : x.stamp l1 Z = (Y, E, x2, l2) := by rw [hst, hY, hE, hx2, hl2]
        have hYh : Y.h.length = 32 := by rw [hY]; rfl
        have HL2 : Hid (l2.length ≤ 2 * (k + 1)) := Lib.hid (by rw [hl2]; omega)
        have HZ := Lib.hid hz
        have HYL : Hid (Y.cells.length = 38) := Lib.hid (Wst.len hYh)
        have HYS := Lib.hid (st_size (x := Y) hYh)
        have HYH := Lib.hid hYh
        have HMK : Hid (∀ W, SB w0 W S Sb g gb x l → Fr (S ++ Sb) wr W → Calls Tryd.prog 10 #[.pointer (some ⟨gb, 0, none⟩), .agg #[.int .i64 0, .int .i64 ((k : Int) + 1)], .agg (hz32.map by8).toArray, .slice none 0 0] W fun e w' => e = .returned (.agg Z.cells.toArray) ∧ SB w0 w' S Sb g gb x l1 ∧ Fr (S ++ Sb) W w') := Lib.hid (fun W hW hF => by
          rw [hZ, hl1]
          exact hW.make 0 ((k : Int) + 1) (by omega) hs64 hz32 rfl none 0 0 [] (By.nil _ _) (by simp [bk]) (by omega) (kw_fr HK.out HF.out hF hW.ge) (by omega))
        have HST : Hid (∀ W, SB w0 W S Sb g gb x l1 → Calls Tryd.prog 14 #[.pointer (some ⟨g, 0, none⟩), .pointer (some ⟨gb, 0, none⟩), .agg Z.cells.toArray] W fun e w' => e = .returned (.tuple #[.agg Y.cells.toArray, .int .i64 E]) ∧ SB w0 w' S Sb g gb x2 l2 ∧ Fr (S ++ Sb) W w') := Lib.hid (fun W hW => by
          have := hW.stamp (by omega) (by rw [HQ.out.len]; omega) Z HZ.out
          rw [hst] at this
          exact this)
        rw [← hx2] at hq2
        have HQ2 := Lib.hid hq2
        have HEE := Lib.hid hE
        have HYZ := Lib.hid hY
        have HX2 := Lib.hid hx2
        clear hl1 hZ hs64 hll hll1 hz hr hZn hlk hnx hst hq2 hY hx2 hl2 hE hYh hLb hN
        go_wp2_with (first | (refine wpList_builtg rfl 30 _ rfl _ _ (built_nm1 _) rfl ?_) | (refine wpList_builtg rfl 32 _ rfl _ _ built_h0 rfl ?_))
        refine (HMK.out _ HSB.out (Fr.refl _ _)).mono ?_
        rintro e_ x1 ⟨rfl, hs, hf⟩
        have HS1 := Lib.hid hs
        have HM1 := Lib.hid hf
        clear hs hf
        go_wp2_with fail
        refine (HST.out _ HS1.out).mono ?_
        rintro e_ x2w ⟨rfl, hs, hf⟩
        have HS2 := Lib.hid hs
        have HM2 := Lib.hid (HM1.out.trans hf (fun k hk _ => hk))
        clear hs hf
        have HGL : Hid (wr.heap.size ≤ x2w.heap.size) := Lib.hid HM2.out.size
        have HGB : Hid (Blk (x2w.alloc (Obj.cells zSt.cells.toArray 47)) x2w.heap.size 47 zSt.cells.toArray) := Lib.hid (Blk.new _ _ _)
        have HSA : Hid (SB w0 (x2w.alloc (Obj.cells zSt.cells.toArray 47)) S Sb g gb x2 l2) := Lib.hid (HS2.out.keep ((Fr.refl [] x2w).alloc _) (by simp))
        have HMA : Hid (Fr (S ++ Sb) wr (x2w.alloc (Obj.cells zSt.cells.toArray 47))) := Lib.hid (HM2.out.alloc _)
        have HGN : Hid (¬ x2w.heap.size ∈ S ++ Sb) := Lib.hid (fun hm => by have := HS2.out.lt _ hm; omega)
        go_upto_region 14 with (refine wpList_store_blk rfl 47 _ _ rfl x2w.heap.size Y.cells.toArray rfl rfl 47 _ HGB.out HYS.out (by rw [List.size_toArray, List.size_toArray, zSt_len, HYL.out]) Y.all ?_; intro w9 hb9 hf9)
        have HB9 := Lib.hid hb9
        have HS9 : Hid (SB w0 w9 S Sb g gb x2 l2) := Lib.hid (HSA.out.keep hf9 (fun k hk hm => HGN.out (by simp at hm; subst hm; exact hk)))
        have HF9 : Hid (Fr (S ++ Sb) wr w9) := Lib.hid (HMA.out.go hf9 (by have := HGL.out; simpa using this))
        clear hb9 hf9 HGB HSA HMA HS1 HM1 HS2 HM2
        generalize x2w.heap.size = gN at *
        obtain rfl := HEE.out
        have hqq := fun w => eql_Wst Y zSt HYH.out rfl w
        have hzz : Y.eqB zSt = true := by rw [HYZ.out]; decide
        rw [hzz] at hqq
        clear hzz
        go_wp2_with (first
          | (refine wpList_row rfl 47 _ rfl _ _ rfl _ HB9.out.range (row_stamp0.of HYL.out) ?_)
          | (refine wpList_builtg rfl 47 _ rfl _ _ built_st0 rfl ?_))
        go_roundw
        case rel => exact ⟨k + 1, q, x2, l2, la, by omega, by omega, rfl, rfl, by go_num, Lib.hid (by omega), HQ2, Lib.hid (by rw [HLA.out, HX2.out]), HL2, HS9, Lib.hid (HF.out.go HF9.out HS9.out.ge)⟩
        case measure => simp [intOf]; omega
    · have hk6 : k = 6 := by omega
      subst hk6
      have hqk : q = LS := by have := HQK.out; omega
      subst hqk
      have HQL := Lib.hid hLb
      clear hLb hN
      go_wp2_with fail
      refine (within_pos n 99 HNN.out.1 HNN.out.2 (by omega) (by omega) _).mono ?_
      rintro e _ ⟨rfl, rfl⟩
      obtain ⟨m, hm⟩ : ∃ m : Nat, (m : Int) = n % 99 := ⟨(n % 99).toNat, by have := Int.emod_nonneg n (show (99 : Int) ≠ 0 by omega); omega⟩
      have hm9 : m < 99 := by have := Int.emod_lt_of_pos n (show (0 : Int) < 99 by omega); omega
      rw [← hm]
      clear hm
      go_wp2_with fail
      rw [show (m : Int) + 9 = ((m + 9 : Nat) : Int) by omega]
      refine (HSB.out.tick (m + 9) (by omega)).mono ?_
      rintro e w4 ⟨rfl, hs4, hf4⟩
      have HSB := Lib.hid hs4
      have HF := Lib.hid (HF.out.go hf4 hs4.ge)
      have HT3 : Hid ((x.tick (m + 9)).k = 1 ∧ (x.tick (m + 9)).now = 18446744073709551615 ∧ (x.tick (m + 9)).next = 18446744073709551615 ∧ (x.tick (m + 9)).l.length = q ∧ (x.tick (m + 9)).l.lookup (0, 9) = none) := Lib.hid (by
        have h1 : (x.tick (m + 9)).now = 18446744073709551615 := by
          show min (x.now + (m + 9)) 18446744073709551615 = _
          rw [HQ.out.now]
          have := HNL.out
          have := HQL.out
          omega
        refine ⟨HQ.out.kk, h1, ?_, HQ.out.len, HQ.out.look 9 (by omega)⟩
        unfold Sst.next
        rw [h1]
        have h2 : (x.tick (m + 9)).fl = 0 := HQ.out.fl
        have h3 : (x.tick (m + 9)).la = _ := HQ.out.la
        rw [h2, h3]
        have := HNL.out
        have := HQL.out
        split <;> omega)
      generalize x.tick (m + 9) = x3 at *
      clear hs4 hf4 HQ HLA
      obtain ⟨l1, hl1⟩ : ∃ l1, l1 = sgn l (1000 + 0, (made0 0 9 hz32 []).text) := ⟨_, rfl⟩
      obtain ⟨Z, hZ⟩ : ∃ Z, Z = made 0 9 hz32 [] l := ⟨_, rfl⟩
      have hs64 : i64In 9 := ⟨by omega, by omega⟩
      have hll := HL.out
      have hll1 : l1.length ≤ l.length + 1 := by rw [hl1]; exact sgn_len1 l _
      have hz : Z.Ok := by rw [hZ]; exact made_ok 0 9 (by omega) hs64 hz32 [] (by decide) l (by omega)
      have hr : rightC x3.k l1 Z = true := by rw [hl1, hZ, HT3.out.1]; exact made_right 0 9 (by omega) hz32 [] l 1 (by omega) ⟨by omega, by omega⟩ (by decide)
      have hZn : (Z.c, Z.s) = (0, 9) := by rw [hZ]; rfl
      have hst := Sst.stamp_end hr (by rw [hZn]; exact HT3.out.2.2.2.2) HT3.out.2.2.1
      obtain ⟨Y, hY⟩ : ∃ Y, Y = zSt := ⟨_, rfl⟩
      obtain ⟨x2, hx2⟩ : ∃ x2, x2 = x3 := ⟨_, rfl⟩
      obtain ⟨l2, hl2⟩ : ∃ l2, l2 = l1 := ⟨_, rfl⟩
      obtain ⟨E, hE⟩ : ∃ E : Int, E = 4 := ⟨_, rfl⟩
      have hst : x3.stamp l1 Z = (Y, E, x2, l2) := by rw [hst, hY, hE, hx2, hl2]
      have hYh : Y.h.length = 32 := by rw [hY]; rfl
      have HZ := Lib.hid hz
      have HYL : Hid (Y.cells.length = 38) := Lib.hid (Wst.len hYh)
      have HYS := Lib.hid (st_size (x := Y) hYh)
      have HMK : Hid (∀ W, SB w0 W S Sb g gb x3 l → Fr (S ++ Sb) w4 W → Calls Tryd.prog 10 #[.pointer (some ⟨gb, 0, none⟩), .agg #[.int .i64 0, .int .i64 9], .agg (hz32.map by8).toArray, .slice none 0 0] W fun e w' => e = .returned (.agg Z.cells.toArray) ∧ SB w0 w' S Sb g gb x3 l1 ∧ Fr (S ++ Sb) W w') := Lib.hid (fun W hW hF => by
        rw [hZ, hl1]
        exact hW.make 0 9 (by omega) hs64 hz32 rfl none 0 0 [] (By.nil _ _) (by simp [bk]) (by omega) (kw_fr HK.out HF.out hF hW.ge) (by omega))
      have HST : Hid (∀ W, SB w0 W S Sb g gb x3 l1 → Calls Tryd.prog 14 #[.pointer (some ⟨g, 0, none⟩), .pointer (some ⟨gb, 0, none⟩), .agg Z.cells.toArray] W fun e w' => e = .returned (.tuple #[.agg Y.cells.toArray, .int .i64 E]) ∧ SB w0 w' S Sb g gb x2 l2 ∧ Fr (S ++ Sb) W w') := Lib.hid (fun W hW => by
        have := hW.stamp (by omega) (by rw [HT3.out.2.2.2.1]; omega) Z HZ.out
        rw [hst] at this
        exact this)
      have HEE := Lib.hid hE
      have HX2 : Hid (x2.l.length = q ∧ (x2.now : Int) = 18446744073709551615) := Lib.hid (by rw [hx2]; exact ⟨HT3.out.2.2.2.1, by rw [HT3.out.2.1]; rfl⟩)
      clear hl1 hZ hs64 hll hll1 hz hr hZn hst hY hx2 hl2 hE hYh
      go_wp2_with (first | (refine wpList_builtg rfl 30 _ rfl _ _ (built_nm1 9) rfl ?_) | (refine wpList_builtg rfl 32 _ rfl _ _ built_h0 rfl ?_))
      refine (HMK.out _ HSB.out (Fr.refl _ _)).mono ?_
      rintro e_ x1 ⟨rfl, hs, hf⟩
      have HS1 := Lib.hid hs
      have HM1 := Lib.hid hf
      clear hs hf
      go_wp2_with fail
      refine (HST.out _ HS1.out).mono ?_
      rintro e_ x2w ⟨rfl, hs, hf⟩
      have HS2 := Lib.hid hs
      have HM2 := Lib.hid (HM1.out.trans hf (fun k hk _ => hk))
      clear hs hf
      have HGL : Hid (w4.heap.size ≤ x2w.heap.size) := Lib.hid HM2.out.size
      have HGB : Hid (Blk (x2w.alloc (Obj.cells zSt.cells.toArray 47)) x2w.heap.size 47 zSt.cells.toArray) := Lib.hid (Blk.new _ _ _)
      have HSA : Hid (SB w0 (x2w.alloc (Obj.cells zSt.cells.toArray 47)) S Sb g gb x2 l2) := Lib.hid (HS2.out.keep ((Fr.refl [] x2w).alloc _) (by simp))
      have HMA : Hid (Fr (S ++ Sb) w4 (x2w.alloc (Obj.cells zSt.cells.toArray 47))) := Lib.hid (HM2.out.alloc _)
      have HGN : Hid (¬ x2w.heap.size ∈ S ++ Sb) := Lib.hid (fun hm => by have := HS2.out.lt _ hm; omega)
      go_upto_region 23 with (refine wpList_store_blk rfl 47 _ _ rfl x2w.heap.size Y.cells.toArray rfl rfl 47 _ HGB.out HYS.out (by rw [List.size_toArray, List.size_toArray, zSt_len, HYL.out]) Y.all ?_; intro w9 hb9 hf9)
      have HB9 := Lib.hid hb9
      have HS9 : Hid (SB w0 w9 S Sb g gb x2 l2) := Lib.hid (HSA.out.keep hf9 (fun k hk hm => HGN.out (by simp at hm; subst hm; exact hk)))
      have HF9 : Hid (Fr (S ++ Sb) w4 w9) := Lib.hid (HMA.out.go hf9 (by have := HGL.out; simpa using this))
      clear hb9 hf9 HGB HSA HMA HS1 HM1 HS2 HM2
      generalize x2w.heap.size = gN at *
      obtain rfl := HEE.out
      have HF9W := Lib.hid (HF.out.go HF9.out HS9.out.ge)
      have HRS : Hid (Calls Tryd.prog 15 #[.pointer (some ⟨g, 0, none⟩), .int .u64 18446744073709551615] w9 fun e w' => e = .returned (.int .i64 4) ∧ Fr (S ++ Sb) w9 w') := Lib.hid ((HS9.out.raise 18446744073709551615 (by decide)).mono fun e w' h => ⟨h.1, h.2.2⟩)
      go_wp2_with fail
      refine (slen_any w9 S g x2 HS9.out.s).mono ?_
      rw [HX2.out.1]
      rintro e _ ⟨rfl, rfl⟩
      go_wp2_with fail
      refine (snow_any w9 S g x2 HS9.out.s).mono ?_
      rw [HX2.out.2]
      rintro e _ ⟨rfl, rfl⟩
      go_wp2_with fail
      refine HRS.out.mono ?_
      rintro e w10 ⟨rfl, hf10⟩
      have HF10 := Lib.hid (HF9W.out.go hf10 HS9.out.ge)
      clear hf10
      go_wp2_with fail
      refine (swakes_any w10 (HK.out.keep HF10.out (by simp))).mono ?_
      rintro e w11 ⟨rfl, hf11⟩
      have HF11 := Lib.hid (HF10.out.and hf11 (by simp))
      clear hf11
      go_wp2
      go_ret
      exact ⟨rfl, HF11.out⟩
end Go.Proofs.YtacandocjjpfcaaDoor
