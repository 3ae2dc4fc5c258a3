/- The walk of CertMakes. -/
import Derived.Test.YtlkhfhhaallhgaaKI5
namespace Go.Proofs.Ytlkhfhhaallhgaa
open Go.RowKit Go.Sort
set_option maxRecDepth 100000
/-- stamps that lie from A on -/
def StL (w : World) (A : Option Addr) (n : Nat) (l : List Wst) : Prop := Lst 38 Wst.cells (fun _ v => v.Ok) w A n l
theorem stl_of_trod {H : Type} {enc : TypeId × Value → H} {w : World} {spare : Nat → Bool} {held : Bool} {fuel : Nat} {A : Option Addr} {len cap : Nat} {x : DataW H × List MemPlace} (h : DataW.trod enc Try.prog w 0 spare held fuel 42 [.slice A len cap] = some x) :
    ∃ l, StL w A len l ∧ len ≤ cap ∧ cap ≤ maxLen := by
  haveI : Inhabited Wst := ⟨zStc⟩
  obtain ⟨A', n', d', l, e, h1, h2, h3⟩ := lst_of_cells (w := w) (ok := fun _ v => Wst.Ok v) (cells := Wst.cells) (k := 38) Try.underlying42 (by kernel_rfl) (fun _ _ _ h => stamp_of_trod h) h
  injection e with e _
  injection e with e1 e2 e3
  subst e1 e2 e3
  exact ⟨l, h1, h2, h3⟩
theorem range_cells {w : World} {g o : Nat} {cs : List Value} (h : w.rangeAt g o cs) : ∀ j v, cs[j]? = some v → w.cell? ((⟨g, o, none⟩ : Addr).add j) = some v := fun j v hv => by
  have e : (⟨g, o, none⟩ : Addr).add j = ⟨g, o + j, none⟩ := by unfold Addr.add; split <;> simp_all
  rw [e]
  exact h j v hv
def zKce : Wce := ⟨⟨0, 0, List.replicate 32 0, 0, 0, 0⟩, none, 0, 0, []⟩
theorem zKce_li (w : World) : zKce.Li w [] := by
  have h0 : i64In 0 := ⟨by decide, by decide⟩
  exact ⟨⟨h0, h0, by simp [zKce], h0, h0, h0⟩, Lst.nil none, by decide, fun h => absurd h (by decide)⟩
theorem zKce_cells : ceZ = zKce.cells.toArray := rfl
def stR (v : Wst) (z : Int) : Wst := { v with r := z }
def stN (v : Wst) (x : Wcm) : Wst := { v with c := x.c, s := x.s, h := x.h }
theorem stR_ok {v : Wst} (h : v.Ok) {z : Int} (hz : i64In z) : (stR v z).Ok := ⟨hz, h.c, h.s, h.h, h.t, h.b, h.m⟩
theorem stN_ok {v : Wst} (h : v.Ok) {x : Wcm} (hx : x.Ok) : (stN v x).Ok := ⟨h.r, hx.c, hx.s, hx.h, h.t, h.b, h.m⟩
theorem stR_blk {w : World} {g : Nat} {t : TypeId} {v : Wst} (h : Blk w g t v.cells.toArray) (z : Int) : Blk (w.setCell ⟨g, 0, none⟩ (.int .i64 z)) g t (stR v z).cells.toArray := by
  have := h.set 0 (.int .i64 z)
  rw [List.setIfInBounds_toArray] at this
  exact this
theorem stN_blk {w : World} {g : Nat} {t : TypeId} {v : Wst} {x : Wcm} (hv : v.h.length = 32) (hx : x.h.length = 32) (h : Blk w g t v.cells.toArray) : Blk ((w.setCells g 1 [.int .i64 x.c, .int .i64 x.s]).setCells g 3 (x.h.map by8)) g t (stN v x).cells.toArray := by
  have h1 : Blk (w.setCells g 1 [.int .i64 x.c, .int .i64 x.s]) g t (Wst.cells { v with c := x.c, s := x.s }).toArray :=
    Blk.mid_at [.int .i64 x.c, .int .i64 x.s] [.int .i64 v.c, .int .i64 v.s] [.int .i64 v.r] (v.h.map by8 ++ [.int .u64 (v.t : Int), .int .i64 v.b, .int .i64 v.m]) 1 rfl rfl _ _ rfl rfl h
  exact Blk.mid_at (x.h.map by8) (v.h.map by8) [.int .i64 v.r, .int .i64 x.c, .int .i64 x.s] [.int .u64 (v.t : Int), .int .i64 v.b, .int .i64 v.m] 3 rfl (by rw [List.length_map, List.length_map, hv, hx]) _ _ rfl rfl h1
def wcmOf (x : Cm) : Wcm := ⟨x.c, x.s, x.h, x.n, x.b, x.m⟩
theorem wcmOf_ok {x : Cm} (h : x.Ok) : (wcmOf x).Ok := ⟨h.c, h.s, h.h, h.n, h.b, h.m⟩
theorem made_li {w : World} {x : Wcm} {A : Option Addr} {n d : Nat} {l : List Wst} (hx : x.Ok) (hl : Lst 38 Wst.cells (fun _ v => v.Ok) w A n l) (hn : n ≤ 100) : Wce.Li w [] ⟨x, A, n, d, l⟩ := ⟨hx, hl, hn, fun _ _ _ => by simp⟩
set_option maxHeartbeats 8000000 in
theorem certMakes_walk (w : World) (f0 : Int) (hf1 : -9223372036854775808 ≤ f0) (hf2 : f0 < 9223372036854775808) (x : Cm) (hx : x.Ok)
    (A : Option Addr) (n c : Nat) (l : List Wst) (hl : StL w A n l) (hnc : n ≤ c) (hcm : c ≤ maxLen)
    (B : Option Addr) (nb cb : Nat) (lb : List Int) (hb : Nums w B nb lb) (hnb : nb ≤ cb) (hcb : cb ≤ maxLen)
    (sm : Int) (hs1 : -9223372036854775808 ≤ sm) (hs2 : sm < 9223372036854775808) :
    Calls Try.prog 4 #[.int .i64 f0, x.val, .slice A n c, .slice B nb cb, .int .i64 sm] w fun e w' => e = .returned (.bool true) ∧ Fr [] w w' := by
  obtain ⟨C, hC⟩ : ∃ C, (wcmOf x).cells = C := ⟨_, rfl⟩
  have hxv : x.val = .agg C.toArray := by rw [← hC]; rfl
  rw [hxv]
  obtain ⟨wa, hwa⟩ : ∃ wa, wa = w.alloc (Obj.cells C.toArray 39) := ⟨_, rfl⟩
  have hf0 : Fr [] w wa := by rw [hwa]; exact (Fr.refl [] w).alloc _
  have hba : Blk wa w.heap.size 39 C.toArray := by rw [hwa]; exact Blk.new _ _ _
  have HF0 := Lib.hid hf0
  have HWA := Lib.hid hwa
  have HX := Lib.hid (wcmOf_ok hx)
  have HCL : Hid (C.length = 37) := Lib.hid (by rw [← hC]; exact Wcm.len HX.out.h)
  have HCC := Lib.hid hC
  have HCMa := Lib.hid hba.range
  have HKAa := Lib.hid (Wcm.at_of (by rw [hC]; exact hba.range) HX.out.h)
  have HL : Hid (Lst 38 Wst.cells (fun _ v => v.Ok) wa A n l) := Lib.hid (hl.keep hf0 (by simp) (fun _ _ h => h))
  have HNB := Lib.hid (hb.keep hf0 (by simp))
  have HWS : Hid (w.heap.size < wa.heap.size) := Lib.hid hba.lt
  have hn64 : (n : Int) ≤ 9223372036854775807 := by unfold maxLen at hcm; omega
  have hnb64 : (nb : Int) ≤ 9223372036854775807 := by unfold maxLen at hcb; omega
  have hmod := within_pos f0 3 hf1 hf2 (by decide) (by decide) wa
  obtain ⟨Fn, hF, hF1, hF2⟩ : ∃ Fn : Nat, 1 + f0 % 3 = (Fn : Int) ∧ 1 ≤ Fn ∧ Fn ≤ 3 := ⟨(1 + f0 % 3).toNat, by omega, by omega, by omega⟩
  have hm0 : 0 ≤ f0 % 3 := Int.emod_nonneg _ (by omega)
  have hm1 : f0 % 3 < 3 := Int.emod_lt_of_pos _ (by omega)
  generalize f0 % 3 = f3 at *
  have HFN := Lib.hid hF
  have HMOD := Lib.hid hmod
  clear hf0 hwa hba hx hl hb hnc hcm hnb hcb hs1 hs2 hf1 hf2 hF hmod hC hxv
  go_enter Try.func4, Try.ntmps4
  go_upto_region 1 with (fail)
  change Code.wp _ _ _ _ (w.alloc (Obj.cells C.toArray 39))
  rw [← HWA.out]
  go_upto_region 2 with (first
    | (go_at_call 6; refine HMOD.out.mono ?_; rintro e_ w' ⟨rfl, rfl⟩)
    | (refine wpList_builtg rfl 27 _ rfl _ _ (built_cfC (1 + f3) 3) rfl ?_)
    | (refine wpList_store_box rfl 27 _ _ rfl #[.int .i64 0, .int .i64 0] 27 [.int .i64 (1 + f3), .int .i64 3] rfl rfl (by kernel_rfl) rfl (by intro v hv; simp at hv; rcases hv with rfl | rfl <;> rfl) ?_; intro w1 hb1 hf1))
  simp only [Act.put]
  rw [HFN.out] at hb1 ⊢
  obtain ⟨gc, hgc⟩ : ∃ gc, gc = wa.heap.size := ⟨_, rfl⟩
  have hb1' : Blk w1 gc 27 #[.int .i64 (Fn : Int), .int .i64 3] := by rw [hgc]; simpa using hb1
  rw [← hgc]
  have HGC : Hid (w.heap.size < gc ∧ gc < w1.heap.size) := Lib.hid ⟨by rw [hgc]; exact HWS.out, hb1'.lt⟩
  have HCF := Lib.hid hb1'.range
  have HF1 := Lib.hid hf1
  have HCM := Lib.hid (HF1.out.range HCMa.out (by simp))
  have HKA := Lib.hid (HKAa.out.keep HF1.out (by simp))
  have HL1 := Lib.hid (HL.out.keep HF1.out (by simp) (fun _ _ h => h))
  have HNB1 := Lib.hid (HNB.out.keep HF1.out (by simp))
  have HFW := Lib.hid (HF0.out.trans HF1.out (by simp))
  clear hb1 hb1' hf1 HMOD hm0 hm1 HCMa HKAa HL HNB HWA hgc
  go_upto_block 0 with (fail)
  go_cut [12, 13] (fun s _ wx => ∃ (m c9 : Nat) (A9 : Option Addr) (L : List Wst), m ≤ 12 ∧ s = .slice A9 m c9 ∧ Hid (L.length = m) ∧ Hid (∀ v ∈ L, v.Ok) ∧ Hid (wx.ownsRow w1.heap.size 45 38 (.slice A9 m c9) m (L.flatMap Wst.cells)) ∧ Hid (Fr [] w1 wx))
  case first =>
    go_wp2_with fail
    go_loopw [12, 13] (fun s i wr => ∃ (k c9 : Nat) (A9 : Option Addr) (L : List Wst), k ≤ n ∧ k ≤ 12 ∧ i = .int .i64 k ∧ s = .slice A9 k c9 ∧ Hid (L.length = k) ∧ Hid (∀ v ∈ L, v.Ok) ∧ Hid (wr.ownsRow w1.heap.size 45 38 (.slice A9 k c9) k (L.flatMap Wst.cells)) ∧ Hid (Fr [] w1 wr)) (fun _ i _ => n + 1 - (intOf i).toNat)
    case atStart => exact ⟨0, 0, none, [], Nat.zero_le _, Nat.zero_le _, rfl, rfl, Lib.hid rfl, Lib.hid (by simp), Lib.hid ⟨rfl, .inl ⟨rfl, rfl⟩⟩, Lib.hid (Fr.refl _ _)⟩
    case round =>
      obtain ⟨k, c9, A9, L, hkn, hk12, rfl, rfl, HLL, HLO, HO, HF⟩ := hrel
      rename World => wr
      by_cases hlt : k < n ∧ k < 12
      case neg =>
        by_cases hk2 : k < n
        · have hk3 : ¬ k < 12 := fun h => hlt ⟨hk2, h⟩
          have hk4 : ¬ (k : Int) < 12 := by omega
          go_wp2_with fail
          go_meet
          exact ⟨k, c9, A9, L, hk12, rfl, HLL, HLO, HO, HF⟩
        · go_wp2_with fail
          go_meet
          exact ⟨k, c9, A9, L, hk12, rfl, HLL, HLO, HO, HF⟩
      obtain ⟨hk1, hk2⟩ := hlt
      have hk12' : (k : Int) < 12 := by omega
      obtain ⟨ad, v, rfl, hv, hcl, hok, hcells⟩ := HL1.out.at (i := k) hk1
      have HCELLS := Lib.hid (fun j u (hj : v.cells[j]? = some u) => HF.out.cell (hcells j u hj) (by simp))
      have HVL := Lib.hid hcl
      have HOK := Lib.hid hok
      clear hv hcl hok hcells
      go_upto_region 7 with (first
        | (refine wpList_cells rfl 45 _ rfl _ rfl v.cells HCELLS.out (row_stamp.of HVL.out) ?_)
        | (refine wpList_store_blk rfl 45 _ _ rfl wr.heap.size v.cells.toArray rfl rfl 45 zStc.cells.toArray (Blk.new wr _ _) (st_size HOK.out.h) (by rw [List.size_toArray, List.size_toArray, zStc_len, HVL.out]) v.all ?_; intro w2 hb2 hf2))
      simp only [Act.put]
      have hFA : Fr [wr.heap.size] wr w2 := ((Fr.refl [] wr).alloc (Obj.cells zStc.cells.toArray 45)).mono (T := [wr.heap.size]) (by simp) |>.trans hf2 (fun _ h _ => h)
      have HFA : Hid (Fr [] w1 w2) := Lib.hid (HF.out.and hFA (by have := HF.out.size; simpa using this))
      have HO2 := Lib.hid (own_keep HO.out hFA (fun z hz => by have := own_lt HO.out z hz; simp; omega))
      obtain ⟨gs, hgs⟩ : ∃ gs, gs = wr.heap.size := ⟨_, rfl⟩
      have HAGE : Hid (∀ q ∈ bk A9, w1.heap.size ≤ q ∧ q < gs) := Lib.hid (fun q hq => ⟨own_ge HO.out q hq, by rw [hgs]; exact own_lt HO.out q ((bk_mem A9 k c9 q).2 hq)⟩)
      have HGS : Hid (w1.heap.size ≤ gs) := Lib.hid (by rw [hgs]; exact HF.out.size)
      rw [← hgs] at hb2 ⊢
      have HB2 := Lib.hid hb2
      clear hgs hb2 hf2 hFA
      have HCF2 := Lib.hid (HFA.out.range HCF.out (by simp))
      have HNC : Hid (¬ gc ∈ [gs]) := Lib.hid (by have := HGC.out; have := HGS.out; simp; omega)
      have HNK : Hid (¬ w.heap.size ∈ [gs]) := Lib.hid (by have := HGC.out; have := HGS.out; simp; omega)
      go_upto_if 40 with (fail)
      go_cut [40] (fun _ wx => ∃ v2 : Wst, Hid v2.Ok ∧ Hid (Blk wx gs 45 v2.cells.toArray) ∧ Hid (Fr [gs] w2 wx))
      case first =>
        by_cases hkb : k < nb
        case neg =>
          go_wp2_with fail
          go_meet
          exact ⟨v, HOK, HB2, Lib.hid (Fr.refl _ _)⟩
        obtain ⟨adb, z, rfl, hz1, hz2, hzc⟩ := HNB1.out.at hkb
        have HZC := Lib.hid (HFA.out.cell hzc (by simp))
        have HZ := Lib.hid (And.intro hz1 hz2)
        obtain ⟨N, hN⟩ : ∃ N : Nat, 3 * (Fn : Int) + 1 = (N : Int) ∧ N ≤ 10 ∧ 1 ≤ N := ⟨3 * Fn + 1, by omega, by omega, by omega⟩
        have HNI := Lib.hid hN
        have HCN : Hid (∀ W, Calls Try.prog 13 #[.agg #[.int .i64 (Fn : Int), .int .i64 3]] W fun e w' => e = .returned (.int .i64 (N : Int)) ∧ Fr [] W w') := Lib.hid (fun W => by rw [← HNI.out.1]; exact refn_any (Fn : Int) 3 ⟨by omega, by omega⟩ W)
        have hN10 : (N : Int) ≤ 10 := by omega
        have hN1 : (1 : Int) ≤ N := by omega
        obtain ⟨e0, he0⟩ : ∃ e0, e0 = z % ((N : Int) + 2) := ⟨_, rfl⟩
        have he1 : 0 ≤ e0 := by rw [he0]; exact Int.emod_nonneg _ (by omega)
        have he2 : e0 < (N : Int) + 2 := by rw [he0]; exact Int.emod_lt_of_pos _ (by omega)
        have HWI : Hid (∀ W, Calls Try.prog 6 #[.int .i64 z, .int .i64 ((N : Int) + 2)] W fun e w' => e = .returned (.int .i64 e0) ∧ W = w') := Lib.hid (fun W => by rw [he0]; exact within_pos z ((N : Int) + 2) HZ.out.1 HZ.out.2 (by omega) (by omega) W)
        have hw1 : IntKind.i64.wrap ((N : Int) + 2) = (N : Int) + 2 := IntWalk.i64_in _ (by omega)
        have hw2 : IntKind.i64.wrap (e0 - 1) = e0 - 1 := IntWalk.i64_in _ (by omega)
        clear he0 hN hz1 hz2 hzc
        go_upto_region 8 with (fail)
        refine wp_region_till 10 (Fr [gs] w2) (Fr [] w2) (by kernel_rfl) (Fr.drew (Fr.refl _ w2)) (Fr.drew (Fr.refl _ w2)) (fun hA hB => ?_)
        refine till_run (i := 0) (v := ?_) rfl (by kernel_rfl) (by rfl) (fun _ _ _ h => h) hA hB (fun w1 hw1 => ?_) ?_
        rotate_left 1
        · skip
          go_simp
          (try (first | with_reducible rfl | (apply And.intro <;> rfl)))
        simp only [Act.put, List.setIfInBounds_toArray, List.set_cons_zero, List.set_cons_succ]
        refine till_run (i := 1) (v := ?_) rfl (by kernel_rfl) (by rfl) (fun _ _ _ h => h) hA hB (fun w1 hw1 => ?_) ?_
        rotate_left 1
        · skip
          go_simp
          (try (first | with_reducible rfl | (apply And.intro <;> rfl)))
        simp only [Act.put, List.setIfInBounds_toArray, List.set_cons_zero, List.set_cons_succ]
        refine till_run (i := 2) (v := ?_) rfl (by kernel_rfl) (by rfl) (fun _ _ _ h => h) hA hB (fun w1 hw1 => ?_) ?_
        rotate_left 1
        · skip
          go_simp
          (try (first | with_reducible rfl | (apply And.intro <;> rfl)))
        simp only [Act.put, List.setIfInBounds_toArray, List.set_cons_zero, List.set_cons_succ]
        refine till_run (i := 3) (v := ?_) rfl (by kernel_rfl) (by rfl) (fun _ _ _ h => h) hA hB (fun w1 hw1 => ?_) ?_
        rotate_left 1
        · skip
          have hcw0 := hw1.cell (HZC.out) (by first | (simp; done) | exact HNS.out | exact HNW.out | (intro hm; have hlt := HSB.out _ hm; (try dsimp only at hlt); omega))
          go_simp
          (try (first | with_reducible rfl | (apply And.intro <;> rfl)))
        simp only [Act.put, List.setIfInBounds_toArray, List.set_cons_zero, List.set_cons_succ]
        refine till_row (i := 4) rfl (by kernel_rfl) (by rfl) _ _ rfl _ _ rfl _ (fun w1 hw1 => hw1.range (HCF2.out) (by first | (simp; done) | exact HNS.out | exact HNW.out | (intro hm; have hlt := HSB.out _ hm; (try dsimp only at hlt); omega))) (row_conf) (fun _ _ _ h => h) hA hB ?_
        simp only [Act.put, List.setIfInBounds_toArray, List.set_cons_zero, List.set_cons_succ]
        refine till_call (i := 5) (f := ?_) (args := ?_) rfl (by kernel_rfl) (by rfl) ?_ ?_
        rotate_left 2
        · go_simp
          (try (first | with_reducible rfl | (apply And.intro <;> rfl)))
        refine (HCN.out _).mono ?_
        rintro e w3 ⟨rfl, hf3⟩
        refine ⟨_, rfl, ⟨hA.go hf3 (by simp), hB.and hf3 (by simp)⟩, fun hB => ?_⟩
        replace hA := hA.go hf3 (by simp)
        clear hf3
        simp only [Act.put, List.setIfInBounds_toArray, List.set_cons_zero, List.set_cons_succ]
        refine till_run (i := 6) (v := ?_) rfl (by kernel_rfl) (by rfl) (fun _ _ _ h => h) hA hB (fun w1 hw1 => ?_) ?_
        rotate_left 1
        · skip
          go_simp
          (try (first | with_reducible rfl | (apply And.intro <;> rfl)))
        simp only [Act.put, List.setIfInBounds_toArray, List.set_cons_zero, List.set_cons_succ]
        refine till_call (i := 7) (f := ?_) (args := ?_) rfl (by kernel_rfl) (by rfl) ?_ ?_
        rotate_left 2
        · go_simp
          (try (first | with_reducible rfl | (apply And.intro <;> rfl)))
        refine (HWI.out _).mono ?_
        rintro e w4 ⟨rfl, rfl⟩
        refine ⟨_, rfl, ⟨hA, hB⟩, fun hB => ?_⟩
        simp only [Act.put, List.setIfInBounds_toArray, List.set_cons_zero, List.set_cons_succ]
        refine till_run (i := 8) (v := ?_) rfl (by kernel_rfl) (by rfl) (fun _ _ _ h => h) hA hB (fun w1 hw1 => ?_) ?_
        rotate_left 1
        · skip
          go_simp
          (try (first | with_reducible rfl | (apply And.intro <;> rfl)))
        simp only [Act.put, List.setIfInBounds_toArray, List.set_cons_zero, List.set_cons_succ]
        refine till_run (i := 9) (v := ?_) rfl (by kernel_rfl) (by rfl) (fun _ _ _ h => h) hA hB (fun w1 hw1 => ?_) ?_
        rotate_left 1
        · skip
          go_simp
          (try (first | with_reducible rfl | (apply And.intro <;> rfl)))
        simp only [Act.put, List.setIfInBounds_toArray, List.set_cons_zero, List.set_cons_succ]
        refine till_step (i := 10) rfl (by kernel_rfl) (by kernel_rfl) (by rfl) (fun K hK => ?_)
        have HB4 := Lib.hid (HB2.out.keep hB (by simp))
        refine wp_store_cell1 3 _ _ rfl gs 0 (.int .i64 (e0 - 1)) rfl rfl rfl 45 _ HB4.out (by rw [List.size_toArray, HVL.out]; decide) (by kernel_rfl) ?_
        have hb7 := stR_blk HB4.out (e0 - 1)
        have HB7 := Lib.hid hb7
        have hf7 : Fr [gs] w3 (w3.setCell ⟨gs, 0, none⟩ (.int .i64 (e0 - 1))) := (Fr.refl [gs] w3).setCell _ (fun _ => by simp) _
        have HF7 := Lib.hid hf7
        refine hK.out _ _ (hA.trans HF7.out (fun q hq _ => hq)) (fun hA => ?_)
        clear hK K hb7 hf7
        simp only [Act.put, List.setIfInBounds_toArray, List.set_cons_zero, List.set_cons_succ]
        refine till_done (by kernel_rfl) ?_ _
        have HFG := Lib.hid hA
        clear hA
        go_wp2_with fail
        go_meet
        exact ⟨stR v (e0 - 1), Lib.hid (stR_ok HOK.out ⟨by omega, by omega⟩), HB7, HFG⟩
      case rest =>
      obtain ⟨v2, HOK2, HB3, HF3⟩ := hcut
      rename World => w3
      have HF3w : Hid (Fr [] w1 w3) := Lib.hid (HFA.out.and HF3.out (by have := HGS.out; simpa using this))
      have HO3 := Lib.hid (own_keep HO2.out HF3.out (fun z hz => by rw [bk_mem] at hz; have := HAGE.out z hz; simp; omega))
      have HCM3 := Lib.hid (HF3w.out.range HCM.out (by simp))
      have HKA3 := Lib.hid (HKA.out.keep HF3w.out (by simp))
      go_upto_region 9 with (fail)
      go_cut [55] (fun s wx => ∃ Bb : Bool, s = .bool Bb ∧ Hid (Fr [] w3 wx))
      case first =>
        go_wp2_with fail
        go_meet
        exact ⟨_, rfl, Lib.hid (Fr.refl _ _)⟩
      case rest =>
      obtain ⟨Bb, rfl, HF4⟩ := hcut
      rename World => w4
      have HB4 := Lib.hid (HB3.out.keep HF4.out (by simp))
      go_upto_if 55 with (fail)
      go_cut [55] (fun _ wx => ∃ v2 : Wst, Hid v2.Ok ∧ Hid (Blk wx gs 45 v2.cells.toArray) ∧ Hid (Fr [gs] w4 wx))
      case first =>
        cases Bb
        case false =>
          go_wp2_with fail
          go_meet
          exact ⟨v2, HOK2, HB4, Lib.hid (Fr.refl _ _)⟩
        case true =>
          have HKN : Hid (w4.rangeAt w.heap.size 0 [.int .i64 (wcmOf x).c, .int .i64 (wcmOf x).s]) := Lib.hid (HF4.out.range (by simpa using HKA3.out.name) (by simp))
          have HKH : Hid (w4.rangeAt w.heap.size 2 ((wcmOf x).h.map by8)) := Lib.hid (HF4.out.range (by simpa using HKA3.out.hash) (by simp))
          have HLK : Hid (((wcmOf x).h.map by8).length = 32) := Lib.hid (by rw [List.length_map]; exact HX.out.h)
          have HXC : Hid ((wcmOf x).h.length = 32) := Lib.hid HX.out.h
          have HNSK : Hid (¬ ((⟨w.heap.size, 2, none⟩ : Addr).add 0).block ∈ [gs]) := Lib.hid (by rw [add_block]; exact HNK.out)
          obtain ⟨y, hy⟩ : ∃ y, y = wcmOf x := ⟨_, rfl⟩
          rw [← hy] at HKN HKH HLK HXC HX
          clear hy
          have HTH : Hid (w4.there gs 1 2) := Lib.hid (HB4.out.there 1 2 (by rw [List.size_toArray, Wst.len HOK2.out.h]; decide))
          have HY1 : Hid (∀ W, Blk W gs 45 v2.cells.toArray → Blk (W.setCells gs 1 [.int .i64 y.c, .int .i64 y.s]) gs 45 (Wst.cells { v2 with c := y.c, s := y.s }).toArray) := Lib.hid (fun W hW => Blk.mid_at [.int .i64 y.c, .int .i64 y.s] [.int .i64 v2.c, .int .i64 v2.s] [.int .i64 v2.r] (v2.h.map by8 ++ [.int .u64 (v2.t : Int), .int .i64 v2.b, .int .i64 v2.m]) 1 rfl rfl _ _ rfl rfl hW)
          have HY2 : Hid (∀ W, Blk W gs 45 v2.cells.toArray → Blk ((W.setCells gs 1 [.int .i64 y.c, .int .i64 y.s]).setCells gs 3 (y.h.map by8)) gs 45 (stN v2 y).cells.toArray) := Lib.hid (fun W hW => stN_blk HOK2.out.h HXC.out hW)
          have HK1 : Hid ((((y.h.map by8).toArray).all (·.oneCell')) = true) := Lib.hid (all_oneCell_toArray (by8_one y.h))
          have HK2 : Hid ((Try.prog.info? 35).map (·.size) = some ((y.h.map by8).toArray).size) := Lib.hid (by rw [List.size_toArray, HLK.out]; kernel_rfl)
          have HKS : Hid (((y.h.map by8).toArray).size = 32) := Lib.hid (by rw [List.size_toArray]; exact HLK.out)
          generalize y.h.map by8 = YH at *
          go_upto_region 10 with (fail)
          refine wp_region_till 5 (Fr [gs] w4) (Fr [] w4) (by kernel_rfl) (Fr.drew (Fr.refl _ w4)) (Fr.drew (Fr.refl _ w4)) (fun hA hB => ?_)
          refine till_run (i := 0) (v := ?_) rfl (by kernel_rfl) (by rfl) (fun _ _ _ h => h) hA hB (fun w1 hw1 => ?_) ?_
          rotate_left 1
          · skip
            go_simp
            (try (first | with_reducible rfl | (apply And.intro <;> rfl)))
          simp only [Act.put, List.setIfInBounds_toArray, List.set_cons_zero, List.set_cons_succ]
          refine till_row (i := 1) rfl (by kernel_rfl) (by rfl) _ _ rfl _ _ rfl _ (fun w1 hw1 => hw1.range (HKN.out) (by first | (simp; done) | exact HNS.out | exact HNW.out | (intro hm; have hlt := HSB.out _ hm; (try dsimp only at hlt); omega))) (row_name) (fun _ _ _ h => h) hA hB ?_
          simp only [Act.put, List.setIfInBounds_toArray, List.set_cons_zero, List.set_cons_succ]
          refine till_freeAt (i := 2) (v := ?_) rfl (by kernel_rfl) (by decide) (by rfl) (fun _ _ _ h => h) hA (fun _ => hB) (fun w1 hw1 => ?_) ?_
          rotate_left 1
          · skip
            go_simp
            (try (first | with_reducible rfl | (apply And.intro <;> rfl)))
          simp only [Act.put, List.setIfInBounds_toArray, List.set_cons_zero, List.set_cons_succ]
          refine till_freeAt (i := 3) rfl (by kernel_rfl) (by decide) (by rfl) (fun _ _ _ h => h) hA (fun _ => hB) (fun w1 hw1 => exec_cells 35 _ rfl ⟨w.heap.size, 2, none⟩ rfl YH (row_hash.of HLK.out) (fun j u hu => hw1.cell (range_cells HKH.out j u hu) (by rw [add_block]; exact HNK.out))) ?_
          simp only [Act.put, List.setIfInBounds_toArray, List.set_cons_zero, List.set_cons_succ]
          refine till_run (i := 4) (v := ?_) rfl (by kernel_rfl) (by rfl) (fun _ _ _ h => h) hA hB (fun w1 hw1 => ?_) ?_
          rotate_left 1
          · skip
            go_simp
            (try (first | with_reducible rfl | (apply And.intro <;> rfl)))
          simp only [Act.put, List.setIfInBounds_toArray, List.set_cons_zero, List.set_cons_succ]
          have HB5 := Lib.hid (HB4.out.keep hB (by simp))
          refine till_step (i := 5) rfl (by kernel_rfl) (by kernel_rfl) (by rfl) (fun K hK => ?_)
          refine wp_store_mid 23 _ _ rfl gs 1 #[.int .i64 y.c, .int .i64 y.s] rfl rfl (HB5.out.there 1 2 (by rw [List.size_toArray, Wst.len HOK2.out.h]; decide)) (by kernel_rfl) (by simp [Value.oneCell']) ?_
          have HB6 := Lib.hid (HY1.out _ HB5.out)
          have HB7 := Lib.hid (HY2.out _ HB5.out)
          have hf5 := Fr.setCells (S := [gs]) (g := gs) (fun _ => by simp) [.int .i64 y.c, .int .i64 y.s] 1 _ hA
          refine hK.out _ _ hf5 (fun hA => ?_)
          clear hK K hf5
          simp only [Act.put, List.setIfInBounds_toArray, List.set_cons_zero, List.set_cons_succ]
          refine till_step (i := 6) rfl (by kernel_rfl) (by kernel_rfl) (by rfl) (fun K hK => ?_)
          refine wp_run (v := ?_) (w' := ?_) ?_ ?_
          rotate_left 2
          · go_simp
            (try (first | with_reducible rfl | (apply And.intro <;> rfl)))
          refine hK.out _ _ hA (fun hA => ?_)
          clear hK K
          simp only [Act.put, List.setIfInBounds_toArray, List.set_cons_zero, List.set_cons_succ]
          refine till_step (i := 7) rfl (by kernel_rfl) (by kernel_rfl) (by rfl) (fun K hK => ?_)
          refine wp_store_mid 35 _ _ rfl gs 3 YH.toArray rfl rfl (HB6.out.there 3 YH.toArray.size (by rw [HKS.out, List.size_toArray, Wst.len (x := { v2 with c := y.c, s := y.s }) HOK2.out.h]; decide)) HK2.out HK1.out ?_
          have hf6 := Fr.setCells (S := [gs]) (g := gs) (fun _ => by simp) YH 3 _ hA
          refine hK.out _ _ hf6 (fun hA => ?_)
          clear hK K hf6
          simp only [Act.put, List.setIfInBounds_toArray, List.set_cons_zero, List.set_cons_succ]
          refine till_done (by kernel_rfl) ?_ _
          have HFG := Lib.hid hA
          clear hA
          go_wp2_with fail
          go_meet
          exact ⟨stN v2 y, Lib.hid (stN_ok HOK2.out HX.out), HB7, HFG⟩
      case rest =>
      obtain ⟨v3, HOK3, HB5, HF5⟩ := hcut
      rename World => w5
      have HF5w : Hid (Fr [] w1 w5) := Lib.hid ((HF3w.out.trans HF4.out (by simp)).and HF5.out (by have := HGS.out; simpa using this))
      have HO5 := Lib.hid (own_keep (own_keep HO3.out HF4.out (by simp)) HF5.out (fun z hz => by rw [bk_mem] at hz; have := HAGE.out z hz; simp; omega))
      obtain ⟨D, hD⟩ : ∃ D, v3.cells = D := ⟨_, rfl⟩
      have HDL : Hid (38 = D.length) := Lib.hid (by rw [← hD]; exact (Wst.len HOK3.out.h).symm)
      have HD1 : Hid (∀ u ∈ D, u.oneCell' = true) := Lib.hid (by rw [← hD]; exact v3.one)
      have HDA : Hid (w5.rangeAt gs 0 D) := Lib.hid (by rw [← hD]; exact HB5.out.range)
      have HDD : Hid ((L ++ [v3]).flatMap Wst.cells = L.flatMap Wst.cells ++ D) := Lib.hid (by rw [List.flatMap_append, List.flatMap_singleton, hD])
      clear hD
      go_wp2_with (first
        | (refine wpList_midg rfl 45 _ rfl gs 0 rfl D HDA.out (row_stamp.of HDL.out.symm) ?_)
        | (refine wpList_build_one rfl 42 45 _ rfl Try.underlying42 D 80 (by rw [← HDL.out]; exact el_stamp) rfl (by rw [← HDL.out]; decide) (by rw [← HDL.out]; decide) ?_)
        | (at_builtin; refine Stop.mk ?_))
      refine Stop.go ?_
      refine wpList_append_one3 rfl _ _ 42 45 rfl Try.underlying42 38 80 el_stamp (by decide) w1.heap.size (.slice A9 k c9) k _ D rfl (HO5.out.alloc _) (by have := HF5w.out.size; simp; omega) HDL.out.symm HD1.out w5.heap.size 45 rfl (Blk.new w5 _ _) (by omega) (by decide) ?_
      intro A1 c1 w6 ho6 hf6 hb6
      have HO6 : Hid (w6.ownsRow w1.heap.size 45 38 (.slice A1 (k + 1) c1) (k + 1) ((L ++ [v3]).flatMap Wst.cells)) := Lib.hid (by rw [HDD.out]; exact ho6)
      have hfz : Fr ((Value.slice A9 k c9).ownBlock.toList) w5 w6 := (((Fr.refl [] w5).alloc (Obj.cells D.toArray 45)).mono (T := (Value.slice A9 k c9).ownBlock.toList) (by simp)).trans hf6 (fun _ h _ => h)
      have HF6 := Lib.hid (HF5w.out.and hfz (fun z hz => by
        rw [bk_own] at hz
        exact own_ge HO5.out z hz))
      have HLL2 : Hid ((L ++ [v3]).length = k + 1) := Lib.hid (by rw [List.length_append, HLL.out]; rfl)
      have HLO2 : Hid (∀ v ∈ L ++ [v3], v.Ok) := Lib.hid (fun v hv => by
        rcases List.mem_append.1 hv with h | h
        · exact HLO.out v h
        · rw [List.mem_singleton.1 h]; exact HOK3.out)
      clear ho6 hf6 hb6 hfz
      go_wp2_with fail
      go_roundw
      case rel => exact ⟨k + 1, c1, A1, L ++ [v3], by omega, by omega, by go_num, rfl, HLL2, HLO2, HO6, HF6⟩
      case measure => simp [intOf]; omega
  case rest =>
  obtain ⟨m, c9, A9, L, hm, rfl, HLL, HLO, HO, HF⟩ := hcut
  rename World => wb
  have HLS : Hid (Lst 38 Wst.cells (fun _ v => v.Ok) wb A9 m L) := Lib.hid (Lst.of_own HO.out HLL.out (fun v hv => ⟨Wst.len (HLO.out v hv).h, HLO.out v hv⟩))
  have HCMb := Lib.hid (HF.out.range HCM.out (by simp))
  have HCFb := Lib.hid (HF.out.range HCF.out (by simp))
  have HFb := Lib.hid (HFW.out.trans HF.out (by simp))
  have HGB : Hid (w.heap.size < gc ∧ gc < wb.heap.size) := Lib.hid ⟨HGC.out.1, Nat.lt_of_lt_of_le HGC.out.2 HF.out.size⟩
  go_wp2_with (first
    | (refine wpList_midg rfl 39 _ rfl w.heap.size 0 rfl C HCMb.out (row_cmt.of HCL.out) ?_)
    | (refine wpList_midg rfl 27 _ rfl gc 0 rfl _ HCFb.out row_conf ?_))
  refine (mkcert_any Fn hF1 (by omega) 3 (wcmOf x) HX.out A9 m c9 L wb HLS.out (by omega) C HCC.out).mono ?_
  rintro e w2 ⟨hf2, hres⟩
  have HF2 := Lib.hid hf2
  have HCM2 := Lib.hid (hf2.range HCMb.out (by simp))
  have HCF2 := Lib.hid (hf2.range HCFb.out (by simp))
  have HLS2 := Lib.hid (HLS.out.keep hf2 (by simp) (fun _ _ h => h))
  clear hf2
  rcases hres with ⟨hlt, rfl⟩ | ⟨hge, ad, rfl, hls, had⟩
  · have HLT := Lib.hid hlt
    clear hlt
    go_upto_region 13 with (refine wpList_store_blk rfl 48 _ _ rfl w2.heap.size ceZ rfl rfl 48 ceZ (Blk.new w2 _ _) zCe_sz rfl zCe_row ?_; intro w3 hb3 hf3)
    have HF3 : Hid (Fr [] w2 w3) := Lib.hid (((Fr.refl [] w2).alloc (Obj.cells ceZ 48)).and hf3 (by simp))
    have HB3 := Lib.hid hb3
    have HCM3 := Lib.hid (HF3.out.range HCM2.out (by simp))
    have HCF3 := Lib.hid (HF3.out.range HCF2.out (by simp))
    have HLS3 := Lib.hid (HLS2.out.keep HF3.out (by simp) (fun _ _ h => h))
    obtain ⟨g15, hg15⟩ : ∃ g15, g15 = w2.heap.size := ⟨_, rfl⟩
    rw [← hg15] at HB3 ⊢
    clear hb3 hf3 hg15
    go_wp2_with (first
      | (refine wpList_midg rfl 39 _ rfl w.heap.size 0 rfl C HCM3.out (row_cmt.of HCL.out) ?_)
      | (refine wpList_midg rfl 27 _ rfl gc 0 rfl _ HCF3.out row_conf ?_))
    refine (refmk_any Fn hF1 (by omega) 3 (wcmOf x) HX.out A9 m c9 L w3 HLS3.out (by omega) C HCC.out).mono ?_
    rintro e w4 ⟨hf4, hres⟩
    have HF4 := Lib.hid hf4
    have HB4 := Lib.hid (HB3.out.keep hf4 (by simp))
    clear hf4
    rcases hres with ⟨-, rfl⟩ | ⟨hge, -⟩
    case inr => exact absurd hge (by have := HLT.out; omega)
    go_upto_region 14 with (refine wpList_store_blk rfl 48 _ _ rfl w4.heap.size ceZ rfl rfl 48 ceZ (Blk.new w4 _ _) zCe_sz rfl zCe_row ?_; intro w5 hb5 hf5)
    have HF5 : Hid (Fr [] w4 w5) := Lib.hid (((Fr.refl [] w4).alloc (Obj.cells ceZ 48)).and hf5 (by simp))
    have HB5 := Lib.hid (HB4.out.keep HF5.out (by simp))
    have HFX := Lib.hid ((((HFb.out.trans HF2.out (by simp)).trans HF3.out (by simp)).trans HF4.out (by simp)).trans HF5.out (by simp))
    clear hb5 hf5
    have HZR := Lib.hid (zKce_cells ▸ HB5.out : Blk w5 g15 48 zKce.cells.toArray)
    have HZR2 := Lib.hid HZR.out.range
    have HZL : Hid (zKce.cells.length = 38) := Lib.hid rfl
    have HBZ : Hid (Try.prog.built 48 [] = some zKce.cells.toArray) := Lib.hid (zCe_built.trans (by rw [zKce_cells]))
    have heq := cert_eq zKce zKce w5 (zKce_li w5) (zKce_li w5) rfl zKce.cells zKce.cells rfl rfl
    generalize zKce.cells = ZC at *
    go_wp2_with (first
      | (refine wpList_midg rfl 48 _ rfl g15 0 rfl ZC HZR2.out (row_cer3.of HZL.out) ?_)
      | (refine wpList_builtg rfl 48 _ rfl _ _ HBZ.out rfl ?_))
    refine heq.mono ?_
    rintro e w6 ⟨rfl, hf6⟩
    have HF6 := Lib.hid (HFX.out.trans hf6 (by simp))
    clear hf6 heq
    have hwk := cewakes_any w6
    go_wp2_with fail
    refine hwk.mono ?_
    rintro e w7 ⟨rfl, hf7⟩
    go_wp2_with fail
    go_ret
    exact ⟨rfl, HF6.out.trans hf7 (by simp)⟩
  · have HGE := Lib.hid hge
    have HAD : Hid (∀ a, some ad = some a → ¬ a.block ∈ [w2.heap.size]) := Lib.hid (fun a ha hm => by
      injection ha with ha
      subst ha
      have := hls.lt (by omega) (by decide) (fun v hv => Wst.len (hls.2.1 v hv).2.h) ad rfl
      simp at hm
      omega)
    have HLA := Lib.hid hls
    obtain ⟨Q, hQ⟩ : ∃ Q, Q = 2 * Fn + 1 := ⟨_, rfl⟩
    have hQ9 : Q ≤ 7 := by omega
    rw [← hQ] at HLA HGE ⊢
    have HQ := Lib.hid hQ
    clear hge hls had hQ
    obtain ⟨E1, hE1⟩ : ∃ E1, C ++ [Value.slice (some ad) Q Q] = E1 := ⟨_, rfl⟩
    have HEL : Hid (E1.length = 38) := Lib.hid (by rw [← hE1, List.length_append, HCL.out]; rfl)
    have HEO : Hid ((E1.toArray.all (·.oneCell')) = true) := Lib.hid (all_oneCell_toArray (fun u hu => by
      rw [← hE1] at hu
      rcases List.mem_append.1 hu with h | h
      · rw [← HCC.out] at h; exact Wcm.one _ u h
      · rw [List.mem_singleton.1 h]; rfl))
    have HES : Hid ((Try.prog.info? 48).map (·.size) = some E1.toArray.size) := Lib.hid (by rw [List.size_toArray, HEL.out]; kernel_rfl)
    have HEZ : Hid (ceZ.size = E1.toArray.size) := Lib.hid (by rw [show ceZ.size = 38 from rfl, List.size_toArray, HEL.out])
    have HE1 := Lib.hid hE1
    rw [hE1]
    clear hE1
    go_upto_region 13 with (refine wpList_store_blk rfl 48 _ _ rfl w2.heap.size E1.toArray rfl rfl 48 ceZ (Blk.new w2 _ _) HES.out HEZ.out HEO.out ?_; intro w3 hb3 hf3)
    have HF3 : Hid (Fr [] w2 w3) := Lib.hid (((Fr.refl [] w2).alloc (Obj.cells ceZ 48)).and hf3 (by simp))
    have HB3 := Lib.hid hb3
    have HCM3 := Lib.hid (HF3.out.range HCM2.out (by simp))
    have HCF3 := Lib.hid (HF3.out.range HCF2.out (by simp))
    have HLS3 := Lib.hid (HLS2.out.keep HF3.out (by simp) (fun _ _ h => h))
    have HLA3 := Lib.hid (HLA.out.keep HF3.out (by simp) (fun _ _ h => h))
    obtain ⟨g15, hg15⟩ : ∃ g15, g15 = w2.heap.size := ⟨_, rfl⟩
    rw [← hg15] at HB3 ⊢
    clear hb3 hf3 hg15
    go_wp2_with (first
      | (refine wpList_midg rfl 39 _ rfl w.heap.size 0 rfl C HCM3.out (row_cmt.of HCL.out) ?_)
      | (refine wpList_midg rfl 27 _ rfl gc 0 rfl _ HCF3.out row_conf ?_))
    refine (refmk_any Fn hF1 (by omega) 3 (wcmOf x) HX.out A9 m c9 L w3 HLS3.out (by omega) C HCC.out).mono ?_
    rintro e w4 ⟨hf4, hres⟩
    have HF4 := Lib.hid hf4
    have HB4 := Lib.hid (HB3.out.keep hf4 (by simp))
    have HLA4 := Lib.hid (HLA3.out.keep hf4 (by simp) (fun _ _ h => h))
    clear hf4
    rcases hres with ⟨hlt, -⟩ | ⟨-, A', c', rfl, hlb⟩
    case inl => exact absurd hlt (by have := HGE.out; have := HQ.out; omega)
    rw [← HQ.out] at hlb
    have HLB := Lib.hid hlb
    clear hlb
    obtain ⟨E2, hE2⟩ : ∃ E2, C ++ [Value.slice A' Q c'] = E2 := ⟨_, rfl⟩
    have HGL : Hid (E2.length = 38) := Lib.hid (by rw [← hE2, List.length_append, HCL.out]; rfl)
    have HGO : Hid ((E2.toArray.all (·.oneCell')) = true) := Lib.hid (all_oneCell_toArray (fun u hu => by
      rw [← hE2] at hu
      rcases List.mem_append.1 hu with h | h
      · rw [← HCC.out] at h; exact Wcm.one _ u h
      · rw [List.mem_singleton.1 h]; rfl))
    have HGS : Hid ((Try.prog.info? 48).map (·.size) = some E2.toArray.size) := Lib.hid (by rw [List.size_toArray, HGL.out]; kernel_rfl)
    have HGZ : Hid (ceZ.size = E2.toArray.size) := Lib.hid (by rw [show ceZ.size = 38 from rfl, List.size_toArray, HGL.out])
    have HE2 := Lib.hid hE2
    rw [show (2 * Fn + 1) = Q from HQ.out.symm, hE2]
    clear hE2
    go_upto_region 14 with (refine wpList_store_blk rfl 48 _ _ rfl w4.heap.size E2.toArray rfl rfl 48 ceZ (Blk.new w4 _ _) HGS.out HGZ.out HGO.out ?_; intro w5 hb5 hf5)
    have HF5 : Hid (Fr [] w4 w5) := Lib.hid (((Fr.refl [] w4).alloc (Obj.cells ceZ 48)).and hf5 (by simp))
    have HB5 := Lib.hid (HB4.out.keep HF5.out (by simp))
    have HC5 := Lib.hid hb5
    have HFX := Lib.hid ((((HFb.out.trans HF2.out (by simp)).trans HF3.out (by simp)).trans HF4.out (by simp)).trans HF5.out (by simp))
    have HLA5 := Lib.hid (HLA4.out.keep HF5.out (by simp) (fun _ _ h => h))
    have HLB5 := Lib.hid (HLB.out.keep HF5.out (by simp) (fun _ _ h => h))
    obtain ⟨g17, hg17⟩ : ∃ g17, g17 = w4.heap.size := ⟨_, rfl⟩
    rw [← hg17] at HC5 ⊢
    clear hb5 hf5 hg17
    have HR1 := Lib.hid HB5.out.range
    have HR2 := Lib.hid HC5.out.range
    have heq := cert_eq ⟨wcmOf x, some ad, Q, Q, (refL (wcmOf x) L (3 * Fn + 1)).take Q⟩ ⟨wcmOf x, A', Q, c', (refL (wcmOf x) L (3 * Fn + 1)).take Q⟩ w5 (made_li HX.out HLA5.out (by omega)) (made_li HX.out HLB5.out (by omega)) rfl E1 E2 (by unfold Wce.cells; rw [HCC.out]; exact HE1.out) (by unfold Wce.cells; rw [HCC.out]; exact HE2.out)
    go_wp2_with (first
      | (refine wpList_midg rfl 48 _ rfl g15 0 rfl E1 HR1.out (row_cer3.of HEL.out) ?_)
      | (refine wpList_midg rfl 48 _ rfl g17 0 rfl E2 HR2.out (row_cer3.of HGL.out) ?_))
    refine heq.mono ?_
    rintro e w6 ⟨rfl, hf6⟩
    have HF6 := Lib.hid (HFX.out.trans hf6 (by simp))
    clear hf6 heq
    have hwk := cewakes_any w6
    go_wp2_with fail
    refine hwk.mono ?_
    rintro e w7 ⟨rfl, hf7⟩
    go_wp2_with fail
    go_ret
    exact ⟨rfl, HF6.out.trans hf7 (by simp)⟩
end Go.Proofs.Ytlkhfhhaallhgaa
