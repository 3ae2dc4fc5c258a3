/- Texts that the proof stands on: gavellaw05's niceBatch. (written by gen_nic4.py) | '==' of two structs in a region that draws its order. | Equality of structs, field by field: names, signatures, stamps, votes, denials. | gavelkeep's Openings and Tombs of one list on both sides. (written by gen_slf.py) | gavelkeep's Batch: two batches that differ in their time, in how many parts there are, or not at all. (written by gen_kb.py) | No number's bytes are the beginning of another one's. | WireHashes: what its cases say of bytes alone; an append onto a list of one's own. (written by gen_whs.py) -/
import Derived.Test.YtjpmiigoglcoaaaDoorKB3
import Derived.Test.YtjpmiigoglcoaaaDoorReg
import Derived.Test.YtjpmiigoglcoaaaDoorRead
import Derived.Laws.StructEq
import Derived.Test.YtjpmiigoglcoaaaDoorWr
set_option maxRecDepth 100000

namespace Go.Proofs.YtjpmiigoglcoaaaDoor
open Go.RowKit
set_option maxRecDepth 100000
def ndn (x : Wdn) : Wdn := ⟨upI x.r, upI x.i, upI x.b, upI x.m⟩
theorem ndn_ok (x : Wdn) : (ndn x).Ok := ⟨upI_in _, upI_in _, upI_in _, upI_in _⟩
theorem ndn_idem (x : Wdn) : ndn (ndn x) = ndn x := by simp [ndn, upI_idem]
def nopR (x y : Wop) : Prop := y.i = upI x.i ∧ y.p = x.p.take 256 ∧ y.h = x.h
def ntbR (x y : Wtb) : Prop := y.i = upI x.i ∧ y.l = x.l.map ndn
def nbaR (x y : Wba) : Prop := y.e = upI x.e ∧ y.t = x.t ∧ All2 nprR x.l y.l ∧ All2 nopR x.l2 y.l2 ∧ All2 ntbR x.l3 y.l3
theorem own_cap {w : World} {base : Nat} {e : TypeId} {k n c : Nat} {A : Option Addr} {xs : List Value} (h : w.ownsRow base e k (.slice A n c) n xs) : n ≤ c := by
  rcases h.2 with ⟨h1, h2⟩ | ⟨g, cap, cur, hv, _, _, hc, _⟩
  · omega
  · injection hv; omega
theorem row_dny : RowTy Tryd.prog 54 4 := ⟨by kernel_rfl, by kernel_rfl⟩
theorem row_opg : RowTy Tryd.prog 34 34 := ⟨by kernel_rfl, by kernel_rfl⟩
theorem row_tmg : RowTy Tryd.prog 37 2 := ⟨by kernel_rfl, by kernel_rfl⟩
theorem built_dn (r i b m : Int) : Tryd.prog.built 54 [(0, .int .i64 r), (1, .int .i64 i), (2, .agg #[.int .i64 b, .int .i64 m])] = some (Wdn.cells ⟨r, i, b, m⟩).toArray := by kernel_rfl
theorem blk_op1 {w : World} {g : Nat} {t : TypeId} {x : Wop} {i : Int} (hb : Blk w g t x.cells.toArray) : Blk (w.setCells g 0 [.int .i64 i]) g t (Wop.cells ⟨i, x.A, x.n, x.d, x.p, x.h⟩).toArray :=
  Blk.mid_at [.int .i64 i] [.int .i64 x.i] [] ([.slice x.A x.n x.d] ++ (x.h.map by8 ++ [])) 0 rfl rfl _ _ rfl rfl hb
theorem blk_op2 {w : World} {g : Nat} {t : TypeId} {x : Wop} {A : Option Addr} {n d : Nat} (p : List UInt8) (hb : Blk w g t x.cells.toArray) : Blk (w.setCells g 1 [.slice A n d]) g t (Wop.cells ⟨x.i, A, n, d, p, x.h⟩).toArray :=
  Blk.mid_at [.slice A n d] [.slice x.A x.n x.d] [.int .i64 x.i] (x.h.map by8 ++ []) 1 rfl rfl _ _ rfl rfl hb

set_option maxHeartbeats 16000000 in
theorem niceBatch_any (x : Wba) (w : World) (hx : x.Ok w []) (C : List Value) (hC : x.cells = C) :
    Calls Tryd.prog 4 #[.agg C.toArray] w fun e w' => ∃ y : Wba, e = .returned y.val ∧ (∀ S0 : List Nat, (∀ q ∈ S0, q < w.heap.size) → y.Ok w' S0) ∧ nbaR x y ∧ (y.n = x.n ∧ y.n2 = x.n2 ∧ y.n3 = x.n3 ∧ y.n ≤ y.d) ∧ Fr [] w w' := by
  subst hC
  obtain ⟨wa, hwa⟩ : ∃ wa, wa = (w.alloc (Obj.cells x.cells.toArray 27)).alloc (Obj.cells zeroBa 27) := ⟨_, rfl⟩
  have hf0 : Fr [] w wa := by rw [hwa]; exact ((Fr.refl [] w).alloc _).alloc _
  have hb0 : Blk wa w.heap.size 27 x.cells.toArray := by rw [hwa]; exact blk_alloc (Blk.new _ _ _)
  have hb1 : Blk wa (w.heap.size + 1) 27 zeroBa := by
    have := Blk.new (w.alloc (Obj.cells x.cells.toArray 27)) 27 zeroBa
    rw [hwa]
    simpa using this
  obtain ⟨e, t, A, n, d, l, A2, n2, d2, l2, A3, n3, d3, l3⟩ := x
  have HXE : Hid (i64In e) := Lib.hid hx.e
  have HXT : Hid (t < 18446744073709551616) := Lib.hid hx.t
  have HLP : Hid (Lst 6 Wpr.cells (fun w v => v.Ok w []) w A n l) := Lib.hid hx.l
  have HLO : Hid (Lst 34 Wop.cells (fun w v => v.Ok w []) w A2 n2 l2) := Lib.hid hx.l2
  have HLT : Hid (Lst 2 Wtb.cells (fun w v => v.Ok w []) w A3 n3 l3) := Lib.hid hx.l3
  have HNN : Hid (n ≤ 4 ∧ n2 ≤ 5 ∧ n3 ≤ 5) := Lib.hid ⟨hx.n, hx.n2, hx.n3⟩
  have hc0 := hb0.cell 0
  have hz0 := hb0.frozen 0
  simp [Wba.cells] at hc0
  have HB1 := Lib.hid hb1
  have HF0 := Lib.hid hf0
  have HWA := Lib.hid hwa
  have HSZ : Hid (w.heap.size + 2 ≤ wa.heap.size) := Lib.hid (by have := hb1.lt; omega)
  have HBU : Hid (Blk (wa.setCell ⟨w.heap.size, 0, none⟩ (.int .i64 (upI e))) w.heap.size 27 (Wba.cells ⟨upI e, t, A, n, d, l, A2, n2, d2, l2, A3, n3, d3, l3⟩).toArray) := Lib.hid (hb0.set 0 (.int .i64 (upI e)))
  clear hwa hf0 hb0 hb1 hx
  obtain ⟨CV, hCV⟩ : ∃ CV, CV = Wba.cells ⟨e, t, A, n, d, l, A2, n2, d2, l2, A3, n3, d3, l3⟩ := ⟨_, rfl⟩
  rw [← hCV] at HWA ⊢
  clear hCV
  go_enter Tryd.func4, Tryd.ntmps4
  go_upto_region 1 with (fail)
  change Code.wp _ _ _ _ ((w.alloc (Obj.cells CV.toArray 27)).alloc (Obj.cells zeroBa 27))
  rw [← HWA.out]
  go_wp2_with fail
  refine (up_any e HXE.out wa).mono ?_
  rintro e_ w1 ⟨rfl, rfl⟩
  go_upto_region 2 with (fail)
  clear hc0 hz0
  have HFU : Hid (Fr [w.heap.size] wa (wa.setCell ⟨w.heap.size, 0, none⟩ (.int .i64 (upI e)))) := Lib.hid ((Fr.refl _ wa).setCell _ (fun _ => by simp) _)
  generalize wa.setCell ⟨w.heap.size, 0, none⟩ (.int .i64 (upI e)) = wp0 at *
  have HBZ := Lib.hid (HB1.out.keep HFU.out (by simp))
  have HF : Hid (Fr [] w wp0) := Lib.hid (HF0.out.trans HFU.out (fun x hx hl => by simp at hx; omega))
  have HSW : Hid (w.heap.size + 2 ≤ wp0.heap.size) := Lib.hid (by have := HSZ.out; have := HFU.out.size; omega)
  have HBX := Lib.hid HBU.out
  have HSW0 : Hid (w.heap.size + 2 ≤ wp0.heap.size) := Lib.hid HSW.out
  clear HFU HF0 HB1 HBU HWA
  have hc : wp0.cell? ⟨w.heap.size, 2, none⟩ = some (.slice A n d) := by
    have h := HBX.out.range 2 _ rfl
    simpa using h
  go_wp2_with (at_builtin; refine Stop.mk ?_)
  refine Stop.go ?_
  refine wpList_append_lst (ok := fun w v => Wpr.Ok w [] v) _ rfl (.const (.slice none 0 0)) (.tmp 15) _ rfl 49 6 64 (Tryd.underlying23) el_prm (by decide) (by decide) Wpr.one rfl A n d l rfl (HLP.out.keep' HF.out (by simp) (fun _ _ h => Wpr.Ok.keep (S' := []) h HF.out (by simp))) (by have := HNN.out; omega) ?_
  intro A1 c1 w6 hN
  have hb6 := HBX.out.keep hN.2.1 (by simp)
  have hc6 := hN.2.1.cell hc (by simp)
  have hz6 := hb6.frozen 2
  have hb7 : Blk (w6.setCell ⟨w.heap.size, 2, none⟩ (Value.slice A1 n c1)) w.heap.size 27 (Wba.cells ⟨upI e, t, A1, n, c1, l, A2, n2, d2, l2, A3, n3, d3, l3⟩).toArray := hb6.set 2 (Value.slice A1 n c1)
  have hne := own_ne hN.1 hb6 (by decide)
  have HO7 := Lib.hid (own_setCell hN.1 ⟨w.heap.size, 2, none⟩ hne (Value.slice A1 n c1))
  have hfs : Fr [w.heap.size] w6 (w6.setCell ⟨w.heap.size, 2, none⟩ (Value.slice A1 n c1)) := (Fr.refl _ w6).setCell ⟨w.heap.size, 2, none⟩ (fun _ => by simp) (Value.slice A1 n c1)
  have HB7 := Lib.hid hb7
  have HZ7 := Lib.hid ((HBZ.out.keep hN.2.1 (by simp)).keep hfs (by simp))
  have HFP7 : Hid (Fr [w.heap.size] wp0 (w6.setCell ⟨w.heap.size, 2, none⟩ (Value.slice A1 n c1))) := Lib.hid ((hN.2.1.mono (by simp)).trans hfs (fun x hx _ => hx))
  have HNA1 : Hid (∀ q ∈ bk A1, wp0.heap.size ≤ q) := Lib.hid (fun q hq => hN.2.2 q hq)
  clear hN hb6 hb7 hne hfs hc
  go_upto_region 3 with (fail)
  clear hc6 hz6
  generalize w6.setCell ⟨w.heap.size, 2, none⟩ (Value.slice A1 n c1) = w7 at *
  have hc7 : w7.cell? ⟨w.heap.size, 2, none⟩ = some (.slice A1 n c1) := by
    have h := HB7.out.range 2 _ rfl
    simpa using h
  have hn1 : (n : Int) ≤ 9223372036854775807 := by have := HNN.out; omega
  go_wp2_with fail
  clear hc7
  go_loopw [21] (fun i wr => ∃ (j : Nat) (ys : List Wpr), j ≤ n ∧ i = .int .i64 j ∧ ys.length = j ∧ Hid (wr.ownsRow 0 49 6 (.slice A1 n c1) n ((ys ++ l.drop j).flatMap Wpr.cells)) ∧ Hid (All2 nprR (l.take j) ys) ∧ Hid (∀ y ∈ ys, ∀ S0 : List Nat, (∀ q ∈ S0, q < w.heap.size + 2 ∨ q ∈ bk A1) → y.Ok wr S0) ∧ Hid (Blk wr w.heap.size 27 (Wba.cells ⟨upI e, t, A1, n, c1, l, A2, n2, d2, l2, A3, n3, d3, l3⟩).toArray ∧ Blk wr (w.heap.size + 1) 27 zeroBa) ∧ Hid (Fr [w.heap.size] wp0 wr)) (fun i _ => n - (intOf i).toNat)
  case atStart => exact ⟨0, [], by omega, rfl, rfl, Lib.hid (by simpa using HO7.out), Lib.hid trivial, Lib.hid (by simp), Lib.hid ⟨HB7.out, HZ7.out⟩, HFP7⟩
  case round =>
    obtain ⟨j, ys, hj, rfl, hyl, HO, HREL, HYS, HBB, HFP⟩ := hrel
    have HFW0 : Hid (Fr [] w wp0) := HF
    have HF : Hid (Fr [] w wr) := Lib.hid (HFW0.out.trans HFP.out (fun x hx hl => by simp at hx; omega))
    have HNA : Hid (∀ q ∈ bk A1, w.heap.size + 2 ≤ q ∧ wp0.heap.size ≤ q) := Lib.hid (fun q hq => by have h1 := HNA1.out q hq; have h2 := HSW.out; omega)
    have hc : wr.cell? ⟨w.heap.size, 2, none⟩ = some (.slice A1 n c1) := by
      have h := HBB.out.1.range 2 _ rfl
      simpa using h
    by_cases hlt : j < n
    · skip
      obtain ⟨gA, rfl⟩ : ∃ gA, A1 = some ⟨gA, 0, none⟩ := by
        obtain ⟨g', cap, hv, _⟩ := HO.out.form (by omega)
        injection hv with h1
        exact ⟨g', h1⟩
      have hlj : j < l.length := by rw [HLP.out.1]; exact hlt
      obtain ⟨v, hv⟩ : ∃ v, v = l[j] := ⟨_, rfl⟩
      have hvm : v ∈ l := by rw [hv]; exact List.getElem_mem hlj
      have HVOK : Hid (v.Ok wr []) := Lib.hid ((HLP.out.2.1 v hvm).2.keep HF.out (by simp))
      have HLEN : Hid (∀ u ∈ ys ++ l.drop j, (Wpr.cells u).length = 6) := Lib.hid (fun u hu => by
        rcases List.mem_append.1 hu with h | h
        · exact rfl
        · exact (HLP.out.2.1 u (List.mem_of_mem_drop h)).1)
      have HGET : Hid ((ys ++ l.drop j)[j]? = some v) := Lib.hid (by rw [List.getElem?_append_right (by omega), hyl, Nat.sub_self, List.drop_eq_getElem_cons hlj, hv]; rfl)
      have HRNG : Hid (wr.rangeAt gA (j * 6) (Wpr.cells v)) := Lib.hid (fun i u hu => by
        have h := HO.out.cells (g := gA) rfl _ _ (flat_at HLEN.out HGET.out hu)
        rw [add_at] at h
        exact h)
      have HCL : Hid ((Wpr.cells v).length = 6) := Lib.hid ((HLP.out.2.1 v hvm).1)
      have HJN : Hid (j < n) := Lib.hid hlt
      have HHC := Lib.hid hc
      have hj0 : (0 : Int) ≤ j := by omega
      have HGB : Hid (wp0.heap.size ≤ gA) := Lib.hid (HNA.out gA (by simp [bk])).2
      have HGA : Hid (gA < wr.heap.size ∧ w.heap.size + 2 ≤ gA) := Lib.hid ⟨own_lt HO.out gA rfl, (HNA.out gA (by simp [bk])).1⟩
      have HSET : Hid (∀ y, (ys ++ l.drop j).set j y = (ys ++ [y]) ++ l.drop (j + 1)) := Lib.hid (fun y => by
        rw [List.set_append_right _ _ (by omega), hyl, Nat.sub_self, List.drop_eq_getElem_cons hlj, List.set_cons_zero, List.append_assoc]
        rfl)
      have HTK : Hid (l.take (j + 1) = l.take j ++ [v]) := Lib.hid (by rw [List.take_succ_eq_append_getElem hlj, hv])
      clear hvm hv
      go_upto_region 6 with (fail)
      clear hc
      refine wp_region_till 10 (Fr [gA] wr) (Fr [] wr) (by kernel_rfl) (Fr.drew (Fr.refl _ wr)) (Fr.drew (Fr.refl _ wr)) (fun hA hB => ?_)
      have hwd : Hid (wr.heap.size ≤ wr.drew.heap.size) := Lib.hid (Nat.le_refl _)
      generalize wr.drew = wd at *
      refine till_run (i := 0) (v := ?_) rfl (by kernel_rfl) (by rfl) (fun _ _ _ h => h) hA hB (fun w1 hw1 => ?_) ?_
      rotate_left 1
      · skip
        go_simp
        (try (first | with_reducible rfl | (apply And.intro <;> rfl)))
      simp only [Act.put, List.setIfInBounds_toArray, List.set_cons_zero, List.set_cons_succ]
      refine till_run (i := 1) (v := ?_) rfl (by kernel_rfl) (by rfl) (fun _ _ _ h => h) hA hB (fun w1 hw1 => ?_) ?_
      rotate_left 1
      · skip
        have hcw0 := hw1.cell (HHC.out) (by first | (simp; done) | exact HNS.out | exact HNW.out | (intro hm; have hlt := HSB.out _ hm; (try dsimp only at hlt); omega))
        go_simp
        (try (first | with_reducible rfl | (apply And.intro <;> rfl)))
      simp only [Act.put, List.setIfInBounds_toArray, List.set_cons_zero, List.set_cons_succ]
      refine till_run (i := 2) (v := ?_) rfl (by kernel_rfl) (by rfl) (fun _ _ _ h => h) hA hB (fun w1 hw1 => ?_) ?_
      rotate_left 1
      · skip
        go_simp
        (try (first | with_reducible rfl | (apply And.intro <;> rfl)))
      simp only [Act.put, List.setIfInBounds_toArray, List.set_cons_zero, List.set_cons_succ]
      refine till_run (i := 3) (v := ?_) rfl (by kernel_rfl) (by rfl) (fun _ _ _ h => h) hA hB (fun w1 hw1 => ?_) ?_
      rotate_left 1
      · skip
        go_simp
        (try (first | with_reducible rfl | (apply And.intro <;> rfl)))
      simp only [Act.put, List.setIfInBounds_toArray, List.set_cons_zero, List.set_cons_succ]
      refine till_run (i := 4) (v := ?_) rfl (by kernel_rfl) (by rfl) (fun _ _ _ h => h) hA hB (fun w1 hw1 => ?_) ?_
      rotate_left 1
      · skip
        have hcw0 := hw1.cell (HHC.out) (by first | (simp; done) | exact HNS.out | exact HNW.out | (intro hm; have hlt := HSB.out _ hm; (try dsimp only at hlt); omega))
        go_simp
        (try (first | with_reducible rfl | (apply And.intro <;> rfl)))
      simp only [Act.put, List.setIfInBounds_toArray, List.set_cons_zero, List.set_cons_succ]
      refine till_run (i := 5) (v := ?_) rfl (by kernel_rfl) (by rfl) (fun _ _ _ h => h) hA hB (fun w1 hw1 => ?_) ?_
      rotate_left 1
      · skip
        go_simp
        (try (first | with_reducible rfl | (apply And.intro <;> rfl)))
      simp only [Act.put, List.setIfInBounds_toArray, List.set_cons_zero, List.set_cons_succ]
      refine till_run (i := 6) (v := ?_) rfl (by kernel_rfl) (by rfl) (fun _ _ _ h => h) hA hB (fun w1 hw1 => ?_) ?_
      rotate_left 1
      · skip
        go_simp
        (try (first | with_reducible rfl | (apply And.intro <;> rfl)))
      simp only [Act.put, List.setIfInBounds_toArray, List.set_cons_zero, List.set_cons_succ]
      refine till_row (i := 7) rfl (by kernel_rfl) (by rfl) _ _ rfl _ _ rfl _ (fun w1 hw1 => hw1.range (HRNG.out) (by first | (simp; done) | exact HNS.out | exact HNW.out | (intro hm; have hlt := HSB.out _ hm; (try dsimp only at hlt); omega))) (row_prm.of HCL.out) (fun _ _ _ h => h) hA hB ?_
      simp only [Act.put, List.setIfInBounds_toArray, List.set_cons_zero, List.set_cons_succ]
      refine till_call (i := 8) (f := ?_) (args := ?_) rfl (by kernel_rfl) (by rfl) ?_ ?_
      rotate_left 2
      · go_simp
        (try (first | with_reducible rfl | (apply And.intro <;> rfl)))
      refine (nicePromise_any v wd (HVOK.out.keep hB (by simp)) _ rfl).mono ?_
      rintro e_ w9 ⟨y, rfl, hyok, hyr, hf⟩
      refine ⟨_, rfl, ⟨hA.go hf (by simp), hB.and hf (by simp)⟩, fun hB => ?_⟩
      replace hA := hA.go hf (by simp)
      have HYN : Hid (∀ S0 : List Nat, (∀ q ∈ S0, q < w.heap.size + 2 ∨ q ∈ [gA]) → y.Ok w9 S0) := Lib.hid (fun S0 h0 => hyok S0 (fun q hq => by
        have h1 := hB.size
        have h2 := hf.size
        have h3 := HGA.out
        rcases h0 q hq with h | h
        · have := hwd.out; omega
        · simp at h; have := hwd.out; omega))
      have HYR := Lib.hid hyr
      have hyl38 : (Wpr.cells y).length = 6 := rfl
      have HO9 := Lib.hid (own_keep HO.out hB (by simp))
      have HFX : Hid (Fr [] wr w9) := Lib.hid hB
      have HPUT := Lib.hid (own_put (cells := Wpr.cells) HO9.out HLEN.out (i := j) (by simp; omega) y hyl38)
      have HN1 := Lib.hid (all_oneCell_toArray (Wpr.one y))
      have HTH : Hid (w9.there gA (j * 6) (Wpr.cells y).toArray.size) := Lib.hid (by rw [List.size_toArray, hyl38]; exact HPUT.out.2)
      have HNS2 : Hid ((Tryd.prog.info? 49).map (·.size) = some (Wpr.cells y).toArray.size) := Lib.hid (by rw [List.size_toArray, hyl38]; kernel_rfl)
      clear hf hyok hyr hyl38
      unfold Wpr.val
      generalize hCN : (Wpr.cells y) = CN at *
      clear hCN
      simp only [Act.put, List.setIfInBounds_toArray, List.set_cons_zero, List.set_cons_succ]
      refine till_run (i := 9) (v := ?_) rfl (by kernel_rfl) (by rfl) (fun _ _ _ h => h) hA hB (fun w1 hw1 => ?_) ?_
      rotate_left 1
      · skip
        go_simp
        (try (first | with_reducible rfl | (apply And.intro <;> rfl)))
      simp only [Act.put, List.setIfInBounds_toArray, List.set_cons_zero, List.set_cons_succ]
      refine till_step (i := 10) rfl (by kernel_rfl) (by kernel_rfl) (by rfl) (fun K hK => ?_)
      refine wp_store_mid 49 _ _ rfl gA (j * 6) CN.toArray rfl rfl HTH.out HNS2.out HN1.out ?_
      rw [show CN.toArray.toList = CN from rfl]
      have HFS : Hid (Fr [gA] w9 (w9.setCells gA (j * 6) CN)) := Lib.hid (Fr.setCells (fun _ => by simp) _ _ _ (Fr.refl _ _))
      have HO10 : Hid ((w9.setCells gA (j * 6) CN).ownsRow 0 49 6 (.slice (some ⟨gA, 0, none⟩) n c1) n (((ys ++ [y]) ++ l.drop (j + 1)).flatMap Wpr.cells)) := Lib.hid (by have h := HPUT.out.1; rw [HSET.out] at h; exact h)
      generalize w9.setCells gA (j * 6) CN = w10 at *
      refine hK.out _ _ (hA.trans HFS.out (fun x hx _ => hx)) (fun hA => ?_)
      clear hK K
      simp only [Act.put, List.setIfInBounds_toArray, List.set_cons_zero, List.set_cons_succ]
      refine till_done (by kernel_rfl) ?_ _
      have HFW : Hid (Fr [gA] wr w10) := Lib.hid hA
      clear hA hB
      go_wp2
      go_roundw
      case rel =>
        refine ⟨j + 1, ys ++ [y], by have := HJN.out; omega, by go_num, by simp [hyl], HO10, ?_, ?_, Lib.hid ⟨HBB.out.1.keep HFW.out (by simp; have := HGA.out; omega), HBB.out.2.keep HFW.out (by simp; have := HGA.out; omega)⟩, Lib.hid (HFP.out.trans HFW.out (fun x hx hl => by simp at hx; have := HGB.out; omega))⟩
        · refine Lib.hid ?_
          rw [HTK.out]
          exact forall2_snoc HREL.out HYR.out
        · refine Lib.hid (fun u hu => ?_)
          rcases List.mem_append.1 hu with hu | hu
          · exact keepAll (ok := fun w S x => Wpr.Ok w S x) (fun h f s => h.keep f s) (w := wr) (B4 := [gA]) (B9 := [gA]) HFW.out (fun q hq => .inl hq) (HYS.out u hu)
          · rw [List.mem_singleton.1 hu]
            exact keepAll (ok := fun w S x => Wpr.Ok w S x) (fun h f s => h.keep f s) (w := w9) (B4 := [gA]) (B9 := [gA]) HFS.out (fun q hq => .inl hq) HYN.out
      case measure => have := HJN.out; simp [intOf]; omega
    · skip
      have hjn : n = j := by omega
      subst hjn
      have HO1 : Hid (wr.ownsRow 0 49 6 (.slice A1 n c1) n (ys.flatMap Wpr.cells)) := Lib.hid (by
        have h := HO.out
        have hl := HLP.out.1
        rw [List.drop_of_length_le (by omega), List.append_nil] at h
        exact h)
      have HREL1 : Hid (All2 nprR l ys) := Lib.hid (by
        have h := HREL.out
        have hl := HLP.out.1
        rw [List.take_of_length_le (by omega)] at h
        exact h)
      have HYS1 := Lib.hid HYS.out
      have HFP1 := Lib.hid HFP.out
      have HYL1 : Hid (ys.length = n) := Lib.hid (by omega)
      have HBX := Lib.hid HBB.out.1
      have HBZ := Lib.hid HBB.out.2
      have HSW : Hid (w.heap.size + 2 ≤ wr.heap.size) := Lib.hid (by have h1 := HSW.out; have h2 := HFP.out.size; omega)
      have HNX1 : Hid (∀ q ∈ bk A1, q < wr.heap.size) := Lib.hid (fun q hq => own_lt HO.out q ((bk_mem A1 n c1 q).2 hq))
      clear hlt hj hc HO HREL HYS HFP HBB HNA HB7 HZ7 HFP7 HO7 hn1 HFW0
      obtain ⟨zs1, hzs1⟩ : ∃ z, z = ys := ⟨_, rfl⟩
      rw [← hzs1] at HO1 HREL1 HYS1 HYL1
      clear hzs1 hyl
      clear ys
      rename World => wb1
      go_upto_region 8 with (fail)
      have hc : wb1.cell? ⟨w.heap.size, 3, none⟩ = some (.slice A2 n2 d2) := by
        have h := HBX.out.range 3 _ rfl
        simpa using h
      go_wp2_with (at_builtin; refine Stop.mk ?_)
      refine Stop.go ?_
      refine wpList_append_lst (ok := fun w v => Wop.Ok w [] v) _ rfl (.const (.slice none 0 0)) (.tmp 36) _ rfl 34 34 64 (Tryd.underlying24) el_opn (by decide) (by decide) Wop.one rfl A2 n2 d2 l2 rfl (HLO.out.keep' HF.out (by simp) (fun _ _ h => Wop.Ok.keep (S' := []) h HF.out (by simp))) (by have := HNN.out; omega) ?_
      intro A4 c4 w6 hN
      have hb6 := HBX.out.keep hN.2.1 (by simp)
      have hc6 := hN.2.1.cell hc (by simp)
      have hz6 := hb6.frozen 3
      have hb7 : Blk (w6.setCell ⟨w.heap.size, 3, none⟩ (Value.slice A4 n2 c4)) w.heap.size 27 (Wba.cells ⟨upI e, t, A1, n, c1, l, A4, n2, c4, l2, A3, n3, d3, l3⟩).toArray := hb6.set 3 (Value.slice A4 n2 c4)
      have hne := own_ne hN.1 hb6 (by decide)
      have HO7 := Lib.hid (own_setCell hN.1 ⟨w.heap.size, 3, none⟩ hne (Value.slice A4 n2 c4))
      have hfs : Fr [w.heap.size] w6 (w6.setCell ⟨w.heap.size, 3, none⟩ (Value.slice A4 n2 c4)) := (Fr.refl _ w6).setCell ⟨w.heap.size, 3, none⟩ (fun _ => by simp) (Value.slice A4 n2 c4)
      have HB7 := Lib.hid hb7
      have HZ7 := Lib.hid ((HBZ.out.keep hN.2.1 (by simp)).keep hfs (by simp))
      have HFP7 : Hid (Fr [w.heap.size] wb1 (w6.setCell ⟨w.heap.size, 3, none⟩ (Value.slice A4 n2 c4))) := Lib.hid ((hN.2.1.mono (by simp)).trans hfs (fun x hx _ => hx))
      have HNA2 : Hid (∀ q ∈ bk A4, wb1.heap.size ≤ q) := Lib.hid (fun q hq => hN.2.2 q hq)
      clear hN hb6 hb7 hne hfs hc
      go_upto_region 9 with (fail)
      clear hc6 hz6
      generalize w6.setCell ⟨w.heap.size, 3, none⟩ (Value.slice A4 n2 c4) = w7 at *
      have hc7 : w7.cell? ⟨w.heap.size, 3, none⟩ = some (.slice A4 n2 c4) := by
        have h := HB7.out.range 3 _ rfl
        simpa using h
      have hn1 : (n2 : Int) ≤ 9223372036854775807 := by have := HNN.out; omega
      go_wp2_with fail
      clear hc7
      go_loopw [42] (fun i wr => ∃ (j : Nat) (ys : List Wop), j ≤ n2 ∧ i = .int .i64 j ∧ ys.length = j ∧ Hid (wr.ownsRow 0 34 34 (.slice A4 n2 c4) n2 ((ys ++ l2.drop j).flatMap Wop.cells)) ∧ Hid (All2 nopR (l2.take j) ys) ∧ Hid (∀ y ∈ ys, ∀ S0 : List Nat, (∀ q ∈ S0, q < w.heap.size + 2 ∨ q ∈ bk A4) → y.Ok wr S0) ∧ Hid (Blk wr w.heap.size 27 (Wba.cells ⟨upI e, t, A1, n, c1, l, A4, n2, c4, l2, A3, n3, d3, l3⟩).toArray ∧ Blk wr (w.heap.size + 1) 27 zeroBa) ∧ Hid (Fr [w.heap.size] wb1 wr)) (fun i _ => n2 - (intOf i).toNat)
      case atStart => exact ⟨0, [], by omega, rfl, rfl, Lib.hid (by simpa using HO7.out), Lib.hid trivial, Lib.hid (by simp), Lib.hid ⟨HB7.out, HZ7.out⟩, HFP7⟩
      case round =>
        obtain ⟨j, ys, hj, rfl, hyl, HO, HREL, HYS, HBB, HFP⟩ := hrel
        have HFW0 : Hid (Fr [] w wb1) := HF
        have HF : Hid (Fr [] w wr) := Lib.hid (HFW0.out.trans HFP.out (fun x hx hl => by simp at hx; omega))
        have HNA : Hid (∀ q ∈ bk A4, w.heap.size + 2 ≤ q ∧ wb1.heap.size ≤ q) := Lib.hid (fun q hq => by have h1 := HNA2.out q hq; have h2 := HSW.out; omega)
        have hc : wr.cell? ⟨w.heap.size, 3, none⟩ = some (.slice A4 n2 c4) := by
          have h := HBB.out.1.range 3 _ rfl
          simpa using h
        by_cases hlt : j < n2
        · skip
          obtain ⟨gA, rfl⟩ : ∃ gA, A4 = some ⟨gA, 0, none⟩ := by
            obtain ⟨g', cap, hv, _⟩ := HO.out.form (by omega)
            injection hv with h1
            exact ⟨g', h1⟩
          have hlj : j < l2.length := by rw [HLO.out.1]; exact hlt
          obtain ⟨v, hv⟩ : ∃ v, v = l2[j] := ⟨_, rfl⟩
          have hvm : v ∈ l2 := by rw [hv]; exact List.getElem_mem hlj
          have HVOK : Hid (v.Ok wr []) := Lib.hid ((HLO.out.2.1 v hvm).2.keep HF.out (by simp))
          have HLEN : Hid (∀ u ∈ ys ++ l2.drop j, (Wop.cells u).length = 34) := Lib.hid (fun u hu => by
            rcases List.mem_append.1 hu with h | h
            · exact Wop.len ((HYS.out u h [] (by simp)).h)
            · exact (HLO.out.2.1 u (List.mem_of_mem_drop h)).1)
          have HGET : Hid ((ys ++ l2.drop j)[j]? = some v) := Lib.hid (by rw [List.getElem?_append_right (by omega), hyl, Nat.sub_self, List.drop_eq_getElem_cons hlj, hv]; rfl)
          have HRNG : Hid (wr.rangeAt gA (j * 34) (Wop.cells v)) := Lib.hid (fun i u hu => by
            have h := HO.out.cells (g := gA) rfl _ _ (flat_at HLEN.out HGET.out hu)
            rw [add_at] at h
            exact h)
          have HCL : Hid ((Wop.cells v).length = 34) := Lib.hid ((HLO.out.2.1 v hvm).1)
          have HJN : Hid (j < n2) := Lib.hid hlt
          have HHC := Lib.hid hc
          have HSWR : Hid (w.heap.size + 2 ≤ wr.heap.size) := Lib.hid (by have h1 := HSW.out; have h2 := HFP.out.size; omega)
          have hj0 : (0 : Int) ≤ j := by omega
          have HGB : Hid (wb1.heap.size ≤ gA) := Lib.hid (HNA.out gA (by simp [bk])).2
          have HGA : Hid (gA < wr.heap.size ∧ w.heap.size + 2 ≤ gA) := Lib.hid ⟨own_lt HO.out gA rfl, (HNA.out gA (by simp [bk])).1⟩
          have HSET : Hid (∀ y, (ys ++ l2.drop j).set j y = (ys ++ [y]) ++ l2.drop (j + 1)) := Lib.hid (fun y => by
            rw [List.set_append_right _ _ (by omega), hyl, Nat.sub_self, List.drop_eq_getElem_cons hlj, List.set_cons_zero, List.append_assoc]
            rfl)
          have HTK : Hid (l2.take (j + 1) = l2.take j ++ [v]) := Lib.hid (by rw [List.take_succ_eq_append_getElem hlj, hv])
          clear hvm hv
          have HONEV := Lib.hid (Wop.one v)
          have HSZ0 : Hid ((Tryd.prog.info? 34).map (·.size) = some v.cells.toArray.size) := Lib.hid (by rw [List.size_toArray, HCL.out]; kernel_rfl)
          have HCS : Hid (v.cells.toArray.size = 34) := Lib.hid (by rw [List.size_toArray]; exact HCL.out)
          go_upto_region 13 with (first
            | (refine wpList_load_mid rfl 34 _ rfl gA (j * 34) rfl v.cells _ HRNG.out Tryd.underlying34 rfl (row_opg.of HCL.out).2 ?_)
            | (refine wpList_store_blk rfl 34 _ _ rfl wr.heap.size v.cells.toArray rfl rfl 34 _ (Blk.new wr _ _) HSZ0.out (by rw [HCS.out]; rfl) (all_oneCell_toArray HONEV.out) ?_
               intro w8 hb8 hf8
               have HB8 := Lib.hid hb8
               have HF8 : Hid (Fr [] wr w8) := Lib.hid (((Fr.refl [] wr).alloc _).and hf8 (by simp))
               clear hb8 hf8))
          clear hc
          have HR0 : Hid (w8.cell? ⟨wr.heap.size, 0, none⟩ = some (.int .i64 v.i)) := Lib.hid (by have h := HB8.out.range (cs := v.cells) 0 _ rfl; simpa using h)
          have HR1 : Hid (w8.cell? ⟨wr.heap.size, 1, none⟩ = some (.slice v.A v.n v.d)) := Lib.hid (by have h := HB8.out.range (cs := v.cells) 1 _ rfl; simpa using h)
          have HGB8 : Hid (wr.heap.size < w8.heap.size) := Lib.hid HB8.out.lt
          generalize hgb : wr.heap.size = gb at *
          have HGBE := Lib.hid hgb
          refine wp_region_till 7 (Fr [gb] w8) (Fr [] w8) (by kernel_rfl) (Fr.drew (Fr.refl _ w8)) (Fr.drew (Fr.refl _ w8)) (fun hA hB => ?_)
          have hwd : Hid (w8.heap.size ≤ w8.drew.heap.size) := Lib.hid (Nat.le_refl _)
          generalize w8.drew = wd at *
          refine till_run (i := 0) (v := ?_) rfl (by kernel_rfl) (by rfl) (fun _ _ _ h => h) hA hB (fun w1 hw1 => ?_) ?_
          rotate_left 1
          · skip
            go_simp
            (try (first | with_reducible rfl | (apply And.intro <;> rfl)))
          simp only [Act.put, List.setIfInBounds_toArray, List.set_cons_zero, List.set_cons_succ]
          refine till_run (i := 1) (v := ?_) rfl (by kernel_rfl) (by rfl) (fun _ _ _ h => h) hA hB (fun w1 hw1 => ?_) ?_
          rotate_left 1
          · skip
            have hcw0 := hw1.cell (HR0.out) (by first | (simp; done) | exact HNS.out | exact HNW.out | (intro hm; have hlt := HSB.out _ hm; (try dsimp only at hlt); omega))
            go_simp
            (try (first | with_reducible rfl | (apply And.intro <;> rfl)))
          simp only [Act.put, List.setIfInBounds_toArray, List.set_cons_zero, List.set_cons_succ]
          refine till_run (i := 3) (v := ?_) rfl (by kernel_rfl) (by rfl) (fun _ _ _ h => h) hA hB (fun w1 hw1 => ?_) ?_
          rotate_left 1
          · skip
            go_simp
            (try (first | with_reducible rfl | (apply And.intro <;> rfl)))
          simp only [Act.put, List.setIfInBounds_toArray, List.set_cons_zero, List.set_cons_succ]
          refine till_run (i := 4) (v := ?_) rfl (by kernel_rfl) (by rfl) (fun _ _ _ h => h) hA hB (fun w1 hw1 => ?_) ?_
          rotate_left 1
          · skip
            have hcw0 := hw1.cell (HR1.out) (by first | (simp; done) | exact HNS.out | exact HNW.out | (intro hm; have hlt := HSB.out _ hm; (try dsimp only at hlt); omega))
            go_simp
            (try (first | with_reducible rfl | (apply And.intro <;> rfl)))
          simp only [Act.put, List.setIfInBounds_toArray, List.set_cons_zero, List.set_cons_succ]
          refine till_call (i := 2) (f := ?_) (args := ?_) rfl (by kernel_rfl) (by rfl) ?_ ?_
          rotate_left 2
          · go_simp
            (try (first | with_reducible rfl | (apply And.intro <;> rfl)))
          refine (up_any v.i HVOK.out.i wd).mono ?_
          rintro e_ w9 ⟨rfl, rfl⟩
          refine ⟨_, rfl, ⟨hA, hB⟩, fun hB => ?_⟩
          simp only [Act.put, List.setIfInBounds_toArray, List.set_cons_zero, List.set_cons_succ]
          refine till_run (i := 6) (v := ?_) rfl (by kernel_rfl) (by rfl) (fun _ _ _ h => h) hA hB (fun w1 hw1 => ?_) ?_
          rotate_left 1
          · skip
            go_simp
            (try (first | with_reducible rfl | (apply And.intro <;> rfl)))
          simp only [Act.put, List.setIfInBounds_toArray, List.set_cons_zero, List.set_cons_succ]
          refine till_call (i := 5) (f := ?_) (args := ?_) rfl (by kernel_rfl) (by rfl) ?_ ?_
          rotate_left 2
          · go_simp
            (try (first | with_reducible rfl | (apply And.intro <;> rfl)))
          rw [show (256 : Int) = ((256 : Nat) : Int) from rfl]
          refine (cut_any v.A v.n v.d 256 v.p wd ((HVOK.out.p.keep HF8.out (by simp)).keep hB (by simp)) (by have := HVOK.out.n; unfold maxLen; omega) HVOK.out.d (by decide)).mono ?_
          rintro e_ w9 ⟨A9, d9, rfl, hN9⟩
          refine ⟨_, rfl, ⟨hA.go hN9.2.1 (by simp), hB.and hN9.2.1 (by simp)⟩, fun hB => ?_⟩
          replace hA := hA.go hN9.2.1 (by simp)
          have hpl : (v.p.take 256).length ≤ 256 := List.length_take_le _ _
          have hcap9 := hN9.cap
          generalize hpn : (v.p.take 256).length = pn at *
          simp only [Act.put, List.setIfInBounds_toArray, List.set_cons_zero, List.set_cons_succ]
          have hbx := HB8.out.keep hB (by simp)
          refine till_step (i := 7) rfl (by kernel_rfl) (by kernel_rfl) (by rfl) (fun K hK => ?_)
          refine wp_store_at 3 _ _ rfl gb 0 (.int .i64 (upI v.i)) rfl rfl rfl 34 _ hbx (by rw [HCS.out]; omega) (by kernel_rfl) ?_
          have hby := blk_op1 (i := upI v.i) hbx
          refine hK.out _ _ (Fr.setCells (fun _ => by simp) _ _ _ hA) (fun hA => ?_)
          clear hK K hbx
          have hf9 : Fr [gb] w9 (w9.setCells gb 0 [.int .i64 (upI v.i)]) := Fr.setCells (fun _ => by simp) _ _ _ (Fr.refl _ _)
          generalize w9.setCells gb 0 [.int .i64 (upI v.i)] = w10 at *
          simp only [Act.put, List.setIfInBounds_toArray, List.set_cons_zero, List.set_cons_succ]
          refine till_step (i := 8) rfl (by kernel_rfl) (by kernel_rfl) (by rfl) (fun K hK => ?_)
          refine wp_run (v := ?_) (w' := ?_) ?_ ?_
          rotate_left 2
          · go_simp
            (try (first | with_reducible rfl | (apply And.intro <;> rfl)))
          refine hK.out _ _ hA (fun hA => ?_)
          clear hK K
          simp only [Act.put, List.setIfInBounds_toArray, List.set_cons_zero, List.set_cons_succ]
          refine till_step (i := 9) rfl (by kernel_rfl) (by kernel_rfl) (by rfl) (fun K hK => ?_)
          refine wp_store_at 30 _ _ rfl gb 1 (.slice A9 pn d9) rfl rfl rfl 34 _ hby (by rw [List.size_toArray, show (Wop.cells ⟨upI v.i, v.A, v.n, v.d, v.p, v.h⟩).length = 34 from Wop.len HVOK.out.h]; omega) (by kernel_rfl) ?_
          have hbz := blk_op2 (A := A9) (n := pn) (d := d9) (v.p.take 256) hby
          refine hK.out _ _ (Fr.setCells (fun _ => by simp) _ _ _ hA) (fun hA => ?_)
          clear hK K hby
          have hf10 : Fr [gb] w9 (w10.setCells gb 1 [.slice A9 pn d9]) := Fr.setCells (fun _ => by simp) _ _ _ hf9
          generalize w10.setCells gb 1 [.slice A9 pn d9] = w11 at *
          simp only [Act.put, List.setIfInBounds_toArray, List.set_cons_zero, List.set_cons_succ]
          refine till_done (by kernel_rfl) ?_ _
          have HFX : Hid (Fr [] wr w11) := Lib.hid (HF8.out.trans hA (fun x hx hl => by simp at hx; omega))
          have HNL9 : Hid (∀ q ∈ bk A9, gb < q ∧ q < w9.heap.size) := Lib.hid (fun q hq => by have h1 := hN9.2.2 q hq; have h2 := HGB8.out; have h3 := hwd.out; exact ⟨by omega, hN9.lt q hq⟩)
          have HBY9 : Hid (By w11 A9 pn (v.p.take 256)) := Lib.hid (hN9.by.keep hf10 (fun a ha hm => by have h1 := HNL9.out a.block (by rw [ha]; simp [bk]); simp at hm; omega))
          have HSZ11 : Hid (w9.heap.size ≤ w11.heap.size) := Lib.hid hf10.size
          obtain ⟨y, hy⟩ : ∃ y : Wop, y = ⟨upI v.i, A9, pn, d9, v.p.take 256, v.h⟩ := ⟨_, rfl⟩
          rw [← hy] at hbz
          have HBN := Lib.hid hbz
          have HYN : Hid (∀ S0 : List Nat, (∀ q ∈ S0, q < w.heap.size + 2 ∨ q ∈ [gA]) → y.Ok w11 S0) := Lib.hid (fun S0 h0 => by
            rw [hy]
            refine ⟨upI_in _, HBY9.out, by show pn ≤ 260; omega, fun q hq hin => ?_, fun q hq => by have h1 := (HNL9.out q hq).2; have h2 := HSZ11.out; omega, HVOK.out.h, hcap9⟩
            have h1 := (HNL9.out q hq).1
            have h3 := HGA.out
            have h4 := HSWR.out
            rcases h0 q hin with h | h
            · omega
            · simp at h; omega)
          have HYR : Hid (nopR v y) := Lib.hid (by rw [hy]; exact ⟨rfl, rfl, rfl⟩)
          have hyl38 : y.cells.length = 34 := by rw [hy]; exact Wop.len HVOK.out.h
          have HO9 := Lib.hid (own_keep HO.out HFX.out (by simp))
          clear hA hB hbz hf9 hf10 hN9 hpn hpl hy hcap9
          have HPUT := Lib.hid (own_put (cells := Wop.cells) HO9.out HLEN.out (i := j) (by simp; omega) y hyl38)
          have HN1 := Lib.hid (all_oneCell_toArray (Wop.one y))
          have HTH : Hid (w11.there gA (j * 34) y.cells.toArray.size) := Lib.hid (by rw [List.size_toArray, hyl38]; exact HPUT.out.2)
          have HNS2 : Hid ((Tryd.prog.info? 34).map (·.size) = some y.cells.toArray.size) := Lib.hid (by rw [List.size_toArray, hyl38]; kernel_rfl)
          have HNS1 : Hid ((Tryd.prog.info? 34).map (·.size) = some y.cells.length) := Lib.hid (by rw [hyl38]; kernel_rfl)
          have hc11 := HFX.out.cell HHC.out (by simp)
          clear hyl38
          generalize hCN : y.cells = CN at *
          clear hCN
          have HRN : Hid (w11.rangeAt gb 0 CN) := Lib.hid HBN.out.range
          go_wp2_with (first
            | (refine wpList_load_mid rfl 34 _ rfl gb 0 rfl CN _ HRN.out Tryd.underlying34 rfl HNS1.out ?_)
            | (refine wpList_store_mid rfl 34 _ _ rfl gA (j * 34) CN.toArray rfl rfl HTH.out HNS2.out HN1.out ?_))
          try rw [show CN.toArray.toList = CN from rfl]
          clear hc11
          have HFS : Hid (Fr [gA] w11 (w11.setCells gA (j * 34) CN)) := Lib.hid (Fr.setCells (fun _ => by simp) _ _ _ (Fr.refl _ _))
          have HO10 : Hid ((w11.setCells gA (j * 34) CN).ownsRow 0 34 34 (.slice (some ⟨gA, 0, none⟩) n2 c4) n2 (((ys ++ [y]) ++ l2.drop (j + 1)).flatMap Wop.cells)) := Lib.hid (by have h := HPUT.out.1; rw [HSET.out] at h; exact h)
          generalize w11.setCells gA (j * 34) CN = w10 at *
          have HFW : Hid (Fr [gA] wr w10) := Lib.hid ((HFX.out.mono (by simp)).trans HFS.out (fun x hx _ => hx))
          go_roundw
          case rel =>
            refine ⟨j + 1, ys ++ [y], by have := HJN.out; omega, by go_num, by simp [hyl], HO10, ?_, ?_, Lib.hid ⟨HBB.out.1.keep HFW.out (by simp; have := HGA.out; omega), HBB.out.2.keep HFW.out (by simp; have := HGA.out; omega)⟩, Lib.hid (HFP.out.trans HFW.out (fun x hx hl => by simp at hx; have := HGB.out; omega))⟩
            · refine Lib.hid ?_
              rw [HTK.out]
              exact forall2_snoc HREL.out HYR.out
            · refine Lib.hid (fun u hu => ?_)
              rcases List.mem_append.1 hu with hu | hu
              · exact keepAll (ok := fun w S x => Wop.Ok w S x) (fun h f s => h.keep f s) (w := wr) (B4 := [gA]) (B9 := [gA]) HFW.out (fun q hq => .inl hq) (HYS.out u hu)
              · rw [List.mem_singleton.1 hu]
                exact keepAll (ok := fun w S x => Wop.Ok w S x) (fun h f s => h.keep f s) (w := w11) (B4 := [gA]) (B9 := [gA]) HFS.out (fun q hq => .inl hq) HYN.out
          case measure => have := HJN.out; simp [intOf]; omega
        · skip
          have hjn : n2 = j := by omega
          subst hjn
          have HO2 : Hid (wr.ownsRow 0 34 34 (.slice A4 n2 c4) n2 (ys.flatMap Wop.cells)) := Lib.hid (by
            have h := HO.out
            have hl := HLO.out.1
            rw [List.drop_of_length_le (by omega), List.append_nil] at h
            exact h)
          have HREL2 : Hid (All2 nopR l2 ys) := Lib.hid (by
            have h := HREL.out
            have hl := HLO.out.1
            rw [List.take_of_length_le (by omega)] at h
            exact h)
          have HYS2 := Lib.hid HYS.out
          have HFP2 := Lib.hid HFP.out
          have HYL2 : Hid (ys.length = n2) := Lib.hid (by omega)
          have HBX := Lib.hid HBB.out.1
          have HBZ := Lib.hid HBB.out.2
          have HSW : Hid (w.heap.size + 2 ≤ wr.heap.size) := Lib.hid (by have h1 := HSW.out; have h2 := HFP.out.size; omega)
          have HNX2 : Hid (∀ q ∈ bk A4, q < wr.heap.size) := Lib.hid (fun q hq => own_lt HO.out q ((bk_mem A4 n2 c4 q).2 hq))
          clear hlt hj hc HO HREL HYS HFP HBB HNA HB7 HZ7 HFP7 HO7 hn1 HFW0
          obtain ⟨zs2, hzs2⟩ : ∃ z, z = ys := ⟨_, rfl⟩
          rw [← hzs2] at HO2 HREL2 HYS2 HYL2
          clear hzs2 hyl
          clear ys
          rename World => wb2
          go_upto_region 16 with (fail)
          have hc : wb2.cell? ⟨w.heap.size, 4, none⟩ = some (.slice A3 n3 d3) := by
            have h := HBX.out.range 4 _ rfl
            simpa using h
          go_wp2_with (at_builtin; refine Stop.mk ?_)
          refine Stop.go ?_
          refine wpList_append_lst (ok := fun w v => Wtb.Ok w [] v) _ rfl (.const (.slice none 0 0)) (.tmp 65) _ rfl 37 2 32 (Tryd.underlying25) el_tomb (by decide) (by decide) Wtb.one rfl A3 n3 d3 l3 rfl (HLT.out.keep' HF.out (by simp) (fun _ _ h => Wtb.Ok.keep (S' := []) h HF.out (by simp))) (by have := HNN.out; omega) ?_
          intro A5 c5 w6 hN
          have hb6 := HBX.out.keep hN.2.1 (by simp)
          have hc6 := hN.2.1.cell hc (by simp)
          have hz6 := hb6.frozen 4
          have hb7 : Blk (w6.setCell ⟨w.heap.size, 4, none⟩ (Value.slice A5 n3 c5)) w.heap.size 27 (Wba.cells ⟨upI e, t, A1, n, c1, l, A4, n2, c4, l2, A5, n3, c5, l3⟩).toArray := hb6.set 4 (Value.slice A5 n3 c5)
          have hne := own_ne hN.1 hb6 (by decide)
          have HO7 := Lib.hid (own_setCell hN.1 ⟨w.heap.size, 4, none⟩ hne (Value.slice A5 n3 c5))
          have hfs : Fr [w.heap.size] w6 (w6.setCell ⟨w.heap.size, 4, none⟩ (Value.slice A5 n3 c5)) := (Fr.refl _ w6).setCell ⟨w.heap.size, 4, none⟩ (fun _ => by simp) (Value.slice A5 n3 c5)
          have HB7 := Lib.hid hb7
          have HZ7 := Lib.hid ((HBZ.out.keep hN.2.1 (by simp)).keep hfs (by simp))
          have HFP7 : Hid (Fr [w.heap.size] wb2 (w6.setCell ⟨w.heap.size, 4, none⟩ (Value.slice A5 n3 c5))) := Lib.hid ((hN.2.1.mono (by simp)).trans hfs (fun x hx _ => hx))
          have HNA3 : Hid (∀ q ∈ bk A5, wb2.heap.size ≤ q) := Lib.hid (fun q hq => hN.2.2 q hq)
          clear hN hb6 hb7 hne hfs hc
          go_upto_region 17 with (fail)
          clear hc6 hz6
          generalize w6.setCell ⟨w.heap.size, 4, none⟩ (Value.slice A5 n3 c5) = w7 at *
          have hc7 : w7.cell? ⟨w.heap.size, 4, none⟩ = some (.slice A5 n3 c5) := by
            have h := HB7.out.range 4 _ rfl
            simpa using h
          have hn1 : (n3 : Int) ≤ 9223372036854775807 := by have := HNN.out; omega
          go_wp2_with fail
          clear hc7
          go_loopw [71] (fun i wr => ∃ (j : Nat) (ys : List Wtb), j ≤ n3 ∧ i = .int .i64 j ∧ ys.length = j ∧ Hid (wr.ownsRow 0 37 2 (.slice A5 n3 c5) n3 ((ys ++ l3.drop j).flatMap Wtb.cells)) ∧ Hid (All2 ntbR (l3.take j) ys) ∧ Hid (∀ y ∈ ys, ∀ S0 : List Nat, (∀ q ∈ S0, q < w.heap.size + 2 ∨ q ∈ bk A5) → y.Ok wr S0) ∧ Hid (Blk wr w.heap.size 27 (Wba.cells ⟨upI e, t, A1, n, c1, l, A4, n2, c4, l2, A5, n3, c5, l3⟩).toArray ∧ Blk wr (w.heap.size + 1) 27 zeroBa) ∧ Hid (Fr [w.heap.size] wb2 wr)) (fun i _ => n3 - (intOf i).toNat)
          case atStart => exact ⟨0, [], by omega, rfl, rfl, Lib.hid (by simpa using HO7.out), Lib.hid trivial, Lib.hid (by simp), Lib.hid ⟨HB7.out, HZ7.out⟩, HFP7⟩
          case round =>
            obtain ⟨j, ys, hj, rfl, hyl, HO, HREL, HYS, HBB, HFP⟩ := hrel
            have HFW0 : Hid (Fr [] w wb2) := HF
            have HF : Hid (Fr [] w wr) := Lib.hid (HFW0.out.trans HFP.out (fun x hx hl => by simp at hx; omega))
            have HNA : Hid (∀ q ∈ bk A5, w.heap.size + 2 ≤ q ∧ wb2.heap.size ≤ q) := Lib.hid (fun q hq => by have h1 := HNA3.out q hq; have h2 := HSW.out; omega)
            have hc : wr.cell? ⟨w.heap.size, 4, none⟩ = some (.slice A5 n3 c5) := by
              have h := HBB.out.1.range 4 _ rfl
              simpa using h
            by_cases hlt : j < n3
            · skip
              obtain ⟨gA, rfl⟩ : ∃ gA, A5 = some ⟨gA, 0, none⟩ := by
                obtain ⟨g', cap, hv, _⟩ := HO.out.form (by omega)
                injection hv with h1
                exact ⟨g', h1⟩
              have hlj : j < l3.length := by rw [HLT.out.1]; exact hlt
              obtain ⟨v, hv⟩ : ∃ v, v = l3[j] := ⟨_, rfl⟩
              have hvm : v ∈ l3 := by rw [hv]; exact List.getElem_mem hlj
              have HVOK : Hid (v.Ok wr []) := Lib.hid ((HLT.out.2.1 v hvm).2.keep HF.out (by simp))
              have HLEN : Hid (∀ u ∈ ys ++ l3.drop j, (Wtb.cells u).length = 2) := Lib.hid (fun u hu => by
                rcases List.mem_append.1 hu with h | h
                · exact rfl
                · exact (HLT.out.2.1 u (List.mem_of_mem_drop h)).1)
              have HGET : Hid ((ys ++ l3.drop j)[j]? = some v) := Lib.hid (by rw [List.getElem?_append_right (by omega), hyl, Nat.sub_self, List.drop_eq_getElem_cons hlj, hv]; rfl)
              have HRNG : Hid (wr.rangeAt gA (j * 2) (Wtb.cells v)) := Lib.hid (fun i u hu => by
                have h := HO.out.cells (g := gA) rfl _ _ (flat_at HLEN.out HGET.out hu)
                rw [add_at] at h
                exact h)
              have HCL : Hid ((Wtb.cells v).length = 2) := Lib.hid ((HLT.out.2.1 v hvm).1)
              have HJN : Hid (j < n3) := Lib.hid hlt
              have HHC := Lib.hid hc
              have HSWR : Hid (w.heap.size + 2 ≤ wr.heap.size) := Lib.hid (by have h1 := HSW.out; have h2 := HFP.out.size; omega)
              have hj0 : (0 : Int) ≤ j := by omega
              have HGB : Hid (wb2.heap.size ≤ gA) := Lib.hid (HNA.out gA (by simp [bk])).2
              have HGA : Hid (gA < wr.heap.size ∧ w.heap.size + 2 ≤ gA) := Lib.hid ⟨own_lt HO.out gA rfl, (HNA.out gA (by simp [bk])).1⟩
              have HSET : Hid (∀ y, (ys ++ l3.drop j).set j y = (ys ++ [y]) ++ l3.drop (j + 1)) := Lib.hid (fun y => by
                rw [List.set_append_right _ _ (by omega), hyl, Nat.sub_self, List.drop_eq_getElem_cons hlj, List.set_cons_zero, List.append_assoc]
                rfl)
              have HTK : Hid (l3.take (j + 1) = l3.take j ++ [v]) := Lib.hid (by rw [List.take_succ_eq_append_getElem hlj, hv])
              clear hvm hv
              have HONEV := Lib.hid (Wtb.one v)
              have HSZ0 : Hid ((Tryd.prog.info? 37).map (·.size) = some v.cells.toArray.size) := Lib.hid (by rw [List.size_toArray, HCL.out]; kernel_rfl)
              have HCS : Hid (v.cells.toArray.size = 2) := Lib.hid (by rw [List.size_toArray]; exact HCL.out)
              go_upto_region 21 with (first
                | (refine wpList_load_mid rfl 37 _ rfl gA (j * 2) rfl v.cells _ HRNG.out Tryd.underlying37 rfl (row_tmg.of HCL.out).2 ?_)
                | (refine wpList_store_blk rfl 37 _ _ rfl wr.heap.size v.cells.toArray rfl rfl 37 _ (Blk.new wr _ _) HSZ0.out (by rw [HCS.out]; rfl) (all_oneCell_toArray HONEV.out) ?_
                   intro w8 hb8 hf8
                   have HB8 := Lib.hid hb8
                   have HF8 : Hid (Fr [] wr w8) := Lib.hid (((Fr.refl [] wr).alloc _).and hf8 (by simp))
                   clear hb8 hf8))
              clear hc
              have HGB8 : Hid (wr.heap.size < w8.heap.size) := Lib.hid HB8.out.lt
              generalize hgb : wr.heap.size = gb at *
              have HGBE := Lib.hid hgb
              have hr0 : w8.cell? ⟨gb, 0, none⟩ = some (.int .i64 v.i) := by have h := HB8.out.range (cs := v.cells) 0 _ rfl; simpa using h
              have hzr0 := HB8.out.frozen 0
              have hb9 : Blk (w8.setCell ⟨gb, 0, none⟩ (.int .i64 (upI v.i))) gb 37 (Wtb.cells ⟨upI v.i, v.A, v.n, v.d, v.l⟩).toArray := HB8.out.set 0 (.int .i64 (upI v.i))
              have HB9 := Lib.hid hb9
              have HF9 : Hid (Fr [] wr (w8.setCell ⟨gb, 0, none⟩ (.int .i64 (upI v.i)))) := Lib.hid (HF8.out.trans ((Fr.refl [gb] w8).setCell _ (fun _ => by simp) _) (fun x hx hl => by simp at hx; omega))
              clear hb9
              go_wp2_with fail
              refine (up_any v.i HVOK.out.i w8).mono ?_
              rintro e_ w9 ⟨rfl, rfl⟩
              go_upto_region 22 with (fail)
              clear hr0 hzr0
              generalize w8.setCell ⟨gb, 0, none⟩ (.int .i64 (upI v.i)) = w9 at *
              have hr1 : w9.cell? ⟨gb, 1, none⟩ = some (.slice v.A v.n v.d) := by have h := HB9.out.range 1 _ rfl; simpa using h
              go_wp2_with fail
              refine (copyDenies_any v.A v.n v.d v.l w9 (HVOK.out.l.keep' HF9.out (by simp) (fun _ _ h => h)) (by have := HVOK.out.n; omega)).mono ?_
              rintro e_ w10 ⟨A6, c6, rfl, hN⟩
              have hb10 := HB9.out.keep hN.2.1 (by simp)
              have hc10 := hN.2.1.cell hr1 (by simp)
              have hz10 := hb10.frozen 1
              have hb11 : Blk (w10.setCell ⟨gb, 1, none⟩ (Value.slice A6 v.n c6)) gb 37 (Wtb.cells ⟨upI v.i, A6, v.n, c6, v.l⟩).toArray := hb10.set 1 (Value.slice A6 v.n c6)
              have hne := own_ne hN.1 hb10 (by decide)
              have HO11 := Lib.hid (own_setCell hN.1 ⟨gb, 1, none⟩ hne (Value.slice A6 v.n c6))
              have HB11 := Lib.hid hb11
              have HF11 : Hid (Fr [] wr (w10.setCell ⟨gb, 1, none⟩ (Value.slice A6 v.n c6))) := Lib.hid ((HF9.out.and hN.2.1 (by simp)).trans ((Fr.refl [gb] w10).setCell _ (fun _ => by simp) _) (fun x hx hl => by simp at hx; omega))
              have HND : Hid (∀ q ∈ bk A6, gb < q) := Lib.hid (fun q hq => by have h1 := hN.2.2 q hq; have h2 := HB9.out.lt; omega)
              clear hN hb10 hb11 hne hr1
              go_upto_region 23 with (fail)
              clear hc10 hz10
              generalize w10.setCell ⟨gb, 1, none⟩ (Value.slice A6 v.n c6) = w11 at *
              have hc11 : w11.cell? ⟨gb, 1, none⟩ = some (.slice A6 v.n c6) := by have h := HB11.out.range 1 _ rfl; simpa using h
              obtain ⟨vn, hvn⟩ : ∃ vn, v.n = vn := ⟨_, rfl⟩
              have HVN : Hid (v.n = vn ∧ v.l.length = vn ∧ vn ≤ 5) := Lib.hid ⟨hvn, by have := HVOK.out.l.1; omega, by have := HVOK.out.n; omega⟩
              rw [hvn] at HO11 HB11 hc11 ⊢
              clear hvn
              have hn2 : (vn : Int) ≤ 9223372036854775807 := by have := HVN.out; omega
              go_wp2_with fail
              clear hc11
              go_loopw [90] (fun i wq => ∃ k : Nat, k ≤ vn ∧ i = .int .i64 k ∧ Hid (wq.ownsRow 0 54 4 (.slice A6 vn c6) vn (((v.l.take k).map ndn ++ v.l.drop k).flatMap Wdn.cells)) ∧ Hid (Blk wq gb 37 (Wtb.cells ⟨upI v.i, A6, vn, c6, v.l⟩).toArray) ∧ Hid (Fr [] wr wq)) (fun i _ => vn - (intOf i).toNat)
              case atStart => exact ⟨0, by omega, rfl, Lib.hid (by simpa using HO11.out), HB11, HF11⟩
              case round =>
                rename World => wq
                obtain ⟨k, hk, rfl, HOD, HBD, HFD⟩ := hrel
                have hcq : wq.cell? ⟨gb, 1, none⟩ = some (.slice A6 vn c6) := by have h := HBD.out.range 1 _ rfl; simpa using h
                by_cases hkt : k < vn
                · obtain ⟨gD, rfl⟩ : ∃ gD, A6 = some ⟨gD, 0, none⟩ := by
                    obtain ⟨g', cap, hv, _⟩ := HOD.out.form (by omega)
                    injection hv with h1
                    exact ⟨g', h1⟩
                  have hlk : k < v.l.length := by rw [HVN.out.2.1]; exact hkt
                  obtain ⟨u, hu⟩ : ∃ u, u = v.l[k] := ⟨_, rfl⟩
                  have HUOK : Hid (u.Ok) := Lib.hid (HVOK.out.l.2.1 u (by rw [hu]; exact List.getElem_mem hlk)).2
                  have HRND : Hid (wq.rangeAt gD (k * 4) u.cells) := Lib.hid (fun i x hx => by
                    have h := HOD.out.cells (g := gD) rfl _ _ (flat_at (cells := Wdn.cells) (k := 4) (fun _ _ => rfl) (by rw [mix_get ndn v.l hlk, ← hu]) hx)
                    rw [add_at] at h
                    exact h)
                  have HUK : Hid (u = v.l[k]) := Lib.hid hu
                  have HKN : Hid (k < vn) := Lib.hid hkt
                  have HHQ := Lib.hid hcq
                  have hk0 : (0 : Int) ≤ k := by omega
                  have HGD : Hid (gD < wq.heap.size ∧ gb < gD) := Lib.hid ⟨own_lt HOD.out gD rfl, HND.out gD (by simp [bk])⟩
                  have HCU : Hid (u.cells.length = 4) := Lib.hid rfl
                  have HONU := Lib.hid (Wdn.one u)
                  have HSU : Hid ((Tryd.prog.info? 54).map (·.size) = some u.cells.toArray.size) := Lib.hid (by rw [List.size_toArray, HCU.out]; kernel_rfl)
                  clear hu
                  go_upto_region 27 with (first
                    | (refine wpList_load_mid rfl 54 _ rfl gD (k * 4) rfl u.cells _ HRND.out Tryd.underlying54 rfl (row_dny.of HCU.out).2 ?_)
                    | (refine wpList_store_blk rfl 54 _ _ rfl wq.heap.size u.cells.toArray rfl rfl 54 _ (Blk.new wq _ _) HSU.out rfl (all_oneCell_toArray HONU.out) ?_
                       intro w12 hb12 hf12
                       have HB12 := Lib.hid hb12
                       have HF12 : Hid (Fr [] wq w12) := Lib.hid (((Fr.refl [] wq).alloc _).and hf12 (by simp))
                       clear hb12 hf12))
                  clear hcq
                  have hat : u.At w12 wq.heap.size 0 := Wdn.at_of HB12.out.range
                  have HAT := Lib.hid hat
                  have HHQ12 := Lib.hid (HF12.out.cell HHQ.out (by simp))
                  have HOD12 := Lib.hid (own_keep HOD.out HF12.out (by simp))
                  clear hat
                  generalize hgq : wq.heap.size = gq at *
                  refine wp_region_till 14 (Fr [gD] w12) (Fr [] w12) (by kernel_rfl) (Fr.drew (Fr.refl _ w12)) (Fr.drew (Fr.refl _ w12)) (fun hA hB => ?_)
                  generalize w12.drew = wd at *
                  refine till_run (i := 0) (v := ?_) rfl (by kernel_rfl) (by rfl) (fun _ _ _ h => h) hA hB (fun w1 hw1 => ?_) ?_
                  rotate_left 1
                  · skip
                    go_simp
                    (try (first | with_reducible rfl | (apply And.intro <;> rfl)))
                  simp only [Act.put, List.setIfInBounds_toArray, List.set_cons_zero, List.set_cons_succ]
                  refine till_run (i := 1) (v := ?_) rfl (by kernel_rfl) (by rfl) (fun _ _ _ h => h) hA hB (fun w1 hw1 => ?_) ?_
                  rotate_left 1
                  · skip
                    have hcw0 := hw1.cell (HHQ12.out) (by first | (simp; done) | exact HNS.out | exact HNW.out | (intro hm; have hlt := HSB.out _ hm; (try dsimp only at hlt); omega))
                    go_simp
                    (try (first | with_reducible rfl | (apply And.intro <;> rfl)))
                  simp only [Act.put, List.setIfInBounds_toArray, List.set_cons_zero, List.set_cons_succ]
                  refine till_run (i := 2) (v := ?_) rfl (by kernel_rfl) (by rfl) (fun _ _ _ h => h) hA hB (fun w1 hw1 => ?_) ?_
                  rotate_left 1
                  · skip
                    go_simp
                    (try (first | with_reducible rfl | (apply And.intro <;> rfl)))
                  simp only [Act.put, List.setIfInBounds_toArray, List.set_cons_zero, List.set_cons_succ]
                  refine till_run (i := 3) (v := ?_) rfl (by kernel_rfl) (by rfl) (fun _ _ _ h => h) hA hB (fun w1 hw1 => ?_) ?_
                  rotate_left 1
                  · skip
                    go_simp
                    (try (first | with_reducible rfl | (apply And.intro <;> rfl)))
                  simp only [Act.put, List.setIfInBounds_toArray, List.set_cons_zero, List.set_cons_succ]
                  refine till_run (i := 4) (v := ?_) rfl (by kernel_rfl) (by rfl) (fun _ _ _ h => h) hA hB (fun w1 hw1 => ?_) ?_
                  rotate_left 1
                  · skip
                    have hcw0 := hw1.cell (HAT.out.r) (by first | (simp; done) | exact HNS.out | exact HNW.out | (intro hm; have hlt := HSB.out _ hm; (try dsimp only at hlt); omega))
                    go_simp
                    (try (first | with_reducible rfl | (apply And.intro <;> rfl)))
                  simp only [Act.put, List.setIfInBounds_toArray, List.set_cons_zero, List.set_cons_succ]
                  refine till_run (i := 6) (v := ?_) rfl (by kernel_rfl) (by rfl) (fun _ _ _ h => h) hA hB (fun w1 hw1 => ?_) ?_
                  rotate_left 1
                  · skip
                    go_simp
                    (try (first | with_reducible rfl | (apply And.intro <;> rfl)))
                  simp only [Act.put, List.setIfInBounds_toArray, List.set_cons_zero, List.set_cons_succ]
                  refine till_run (i := 7) (v := ?_) rfl (by kernel_rfl) (by rfl) (fun _ _ _ h => h) hA hB (fun w1 hw1 => ?_) ?_
                  rotate_left 1
                  · skip
                    have hcw0 := hw1.cell (HAT.out.i) (by first | (simp; done) | exact HNS.out | exact HNW.out | (intro hm; have hlt := HSB.out _ hm; (try dsimp only at hlt); omega))
                    go_simp
                    (try (first | with_reducible rfl | (apply And.intro <;> rfl)))
                  simp only [Act.put, List.setIfInBounds_toArray, List.set_cons_zero, List.set_cons_succ]
                  refine till_run (i := 9) (v := ?_) rfl (by kernel_rfl) (by rfl) (fun _ _ _ h => h) hA hB (fun w1 hw1 => ?_) ?_
                  rotate_left 1
                  · skip
                    go_simp
                    (try (first | with_reducible rfl | (apply And.intro <;> rfl)))
                  simp only [Act.put, List.setIfInBounds_toArray, List.set_cons_zero, List.set_cons_succ]
                  refine till_row (i := 10) rfl (by kernel_rfl) (by rfl) _ _ rfl _ _ rfl _ (fun w1 hw1 => hw1.range (HAT.out.sig) (by first | (simp; done) | exact HNS.out | exact HNW.out | (intro hm; have hlt := HSB.out _ hm; (try dsimp only at hlt); omega))) (row_sg2) (fun _ _ _ h => h) hA hB ?_
                  simp only [Act.put, List.setIfInBounds_toArray, List.set_cons_zero, List.set_cons_succ]
                  refine till_call (i := 5) (f := ?_) (args := ?_) rfl (by kernel_rfl) (by rfl) ?_ ?_
                  rotate_left 2
                  · go_simp
                    (try (first | with_reducible rfl | (apply And.intro <;> rfl)))
                  refine (up_any u.r HUOK.out.r wd).mono ?_
                  rintro e_ w13 ⟨rfl, rfl⟩
                  refine ⟨_, rfl, ⟨hA, hB⟩, fun hB => ?_⟩
                  simp only [Act.put, List.setIfInBounds_toArray, List.set_cons_zero, List.set_cons_succ]
                  refine till_call (i := 8) (f := ?_) (args := ?_) rfl (by kernel_rfl) (by rfl) ?_ ?_
                  rotate_left 2
                  · go_simp
                    (try (first | with_reducible rfl | (apply And.intro <;> rfl)))
                  refine (up_any u.i HUOK.out.i wd).mono ?_
                  rintro e_ w13 ⟨rfl, rfl⟩
                  refine ⟨_, rfl, ⟨hA, hB⟩, fun hB => ?_⟩
                  simp only [Act.put, List.setIfInBounds_toArray, List.set_cons_zero, List.set_cons_succ]
                  refine till_call (i := 11) (f := ?_) (args := ?_) rfl (by kernel_rfl) (by rfl) ?_ ?_
                  rotate_left 2
                  · go_simp
                    (try (first | with_reducible rfl | (apply And.intro <;> rfl)))
                  refine (niceSig_any u.b u.m HUOK.out.b HUOK.out.m wd).mono ?_
                  rintro e_ w13 ⟨rfl, hf⟩
                  refine ⟨_, rfl, ⟨hA.go hf (by simp), hB.and hf (by simp)⟩, fun hB => ?_⟩
                  replace hA := hA.go hf (by simp)
                  clear hf
                  simp only [Act.put, List.setIfInBounds_toArray, List.set_cons_zero, List.set_cons_succ]
                  refine till_build (i := 12) rfl (by kernel_rfl) (by rfl) _ _ rfl _ _ (built_dn (upI u.r) (upI u.i) (upI u.b) (upI u.m)) rfl (fun _ _ _ h => h) hA hB ?_
                  simp only [Act.put, List.setIfInBounds_toArray, List.set_cons_zero, List.set_cons_succ]
                  refine till_run (i := 13) (v := ?_) rfl (by kernel_rfl) (by rfl) (fun _ _ _ h => h) hA hB (fun w1 hw1 => ?_) ?_
                  rotate_left 1
                  · skip
                    go_simp
                    (try (first | with_reducible rfl | (apply And.intro <;> rfl)))
                  simp only [Act.put, List.setIfInBounds_toArray, List.set_cons_zero, List.set_cons_succ]
                  have HO13 := Lib.hid (own_keep HOD12.out hB (by simp))
                  have HFX13 : Hid (Fr [] wq w13) := Lib.hid (HF12.out.and hB (by simp))
                  have HPUTD := Lib.hid (own_put (cells := Wdn.cells) HO13.out (fun _ _ => rfl) (i := k) (by rw [mix_len]; exact hlk) (ndn u) rfl)
                  have HSETD : Hid (((v.l.take k).map ndn ++ v.l.drop k).set k (ndn u) = (v.l.take (k + 1)).map ndn ++ v.l.drop (k + 1)) := Lib.hid (by rw [HUK.out]; exact mix_set ndn v.l hlk)
                  refine till_step (i := 14) rfl (by kernel_rfl) (by kernel_rfl) (by rfl) (fun K hK => ?_)
                  refine wp_store_mid 54 _ _ rfl gD (k * 4) (Wdn.cells (ndn u)).toArray rfl rfl HPUTD.out.2 (by kernel_rfl) (all_oneCell_toArray (Wdn.one _)) ?_
                  rw [show (Wdn.cells (ndn u)).toArray.toList = Wdn.cells (ndn u) from rfl]
                  have HFSD : Hid (Fr [gD] w13 (w13.setCells gD (k * 4) (Wdn.cells (ndn u)))) := Lib.hid (Fr.setCells (fun _ => by simp) _ _ _ (Fr.refl _ _))
                  have HOD14 : Hid ((w13.setCells gD (k * 4) (Wdn.cells (ndn u))).ownsRow 0 54 4 (.slice (some ⟨gD, 0, none⟩) vn c6) vn (((v.l.take (k + 1)).map ndn ++ v.l.drop (k + 1)).flatMap Wdn.cells)) := Lib.hid (by have h := HPUTD.out.1; rw [HSETD.out] at h; exact h)
                  generalize w13.setCells gD (k * 4) (Wdn.cells (ndn u)) = w14 at *
                  refine hK.out _ _ (hA.trans HFSD.out (fun x hx _ => hx)) (fun hA => ?_)
                  clear hK K
                  simp only [Act.put, List.setIfInBounds_toArray, List.set_cons_zero, List.set_cons_succ]
                  refine till_done (by kernel_rfl) ?_ _
                  have HFWD : Hid (Fr [gD] wq w14) := Lib.hid ((HFX13.out.mono (by simp)).trans HFSD.out (fun x hx _ => hx))
                  clear hA hB
                  go_wp2
                  go_roundw
                  case rel => exact ⟨k + 1, by have := HKN.out; omega, by go_num, HOD14, Lib.hid (HBD.out.keep HFWD.out (by simp; have := HGD.out; omega)), Lib.hid (HFD.out.trans HFWD.out (fun x hx hl => by simp at hx; have := HGD.out; omega))⟩
                  case measure => have := HKN.out; simp [intOf]; omega
                · have hkn : vn = k := by omega
                  subst hkn
                  have HODE : Hid (wq.ownsRow 0 54 4 (.slice A6 vn c6) vn ((v.l.map ndn).flatMap Wdn.cells)) := Lib.hid (by
                    have h := HOD.out
                    have hl := HVN.out.2.1
                    rw [List.take_of_length_le (by omega), List.drop_of_length_le (by omega), List.append_nil] at h
                    exact h)
                  have HFX : Hid (Fr [] wr wq) := Lib.hid HFD.out
                  obtain ⟨y, hy⟩ : ∃ y : Wtb, y = ⟨upI v.i, A6, vn, c6, v.l.map ndn⟩ := ⟨_, rfl⟩
                  have HBN : Hid (Blk wq gb 37 y.cells.toArray) := Lib.hid (by rw [hy]; exact HBD.out)
                  have HYN : Hid (∀ S0 : List Nat, (∀ q ∈ S0, q < w.heap.size + 2 ∨ q ∈ [gA]) → y.Ok wq S0) := Lib.hid (fun S0 h0 => by
                    rw [hy]
                    refine ⟨upI_in _, Lst.of_own HODE.out (by rw [List.length_map]; exact HVN.out.2.1) (fun z hz => ⟨rfl, ?_⟩), HVN.out.2.2, fun _ a ha hin => ?_⟩
                    · obtain ⟨z', _, rfl⟩ := List.mem_map.1 hz
                      exact ndn_ok z'
                    · have h1 := HND.out a.block (by have ha' : A6 = some a := ha; rw [ha']; simp [bk])
                      have h3 := HGA.out
                      have h4 := HSWR.out
                      rcases h0 _ hin with h | h
                      · omega
                      · simp at h; omega)
                  have HYR : Hid (ntbR v y) := Lib.hid (by rw [hy]; exact ⟨rfl, rfl⟩)
                  have HO9 := Lib.hid (own_keep HO.out HFX.out (by simp))
                  clear hkt hk hcq hy
                  have HPUT := Lib.hid (own_put (cells := Wtb.cells) HO9.out HLEN.out (i := j) (by simp; omega) y (show y.cells.length = 2 from rfl))
                  have HN1 := Lib.hid (all_oneCell_toArray (Wtb.one y))
                  have HTH : Hid (wq.there gA (j * 2) y.cells.toArray.size) := Lib.hid HPUT.out.2
                  have HNS2 : Hid ((Tryd.prog.info? 37).map (·.size) = some y.cells.toArray.size) := Lib.hid (by kernel_rfl)
                  have HNS1 : Hid ((Tryd.prog.info? 37).map (·.size) = some y.cells.length) := Lib.hid (by kernel_rfl)
                  have hc11 := HFX.out.cell HHC.out (by simp)
                  generalize hCN : y.cells = CN at *
                  clear hCN
                  have HRN : Hid (wq.rangeAt gb 0 CN) := Lib.hid HBN.out.range
                  go_wp2_with (first
                    | (refine wpList_load_mid rfl 37 _ rfl gb 0 rfl CN _ HRN.out Tryd.underlying37 rfl HNS1.out ?_)
                    | (refine wpList_store_mid rfl 37 _ _ rfl gA (j * 2) CN.toArray rfl rfl HTH.out HNS2.out HN1.out ?_))
                  try rw [show CN.toArray.toList = CN from rfl]
                  clear hc11
                  have HFS : Hid (Fr [gA] wq (wq.setCells gA (j * 2) CN)) := Lib.hid (Fr.setCells (fun _ => by simp) _ _ _ (Fr.refl _ _))
                  have HO10 : Hid ((wq.setCells gA (j * 2) CN).ownsRow 0 37 2 (.slice (some ⟨gA, 0, none⟩) n3 c5) n3 (((ys ++ [y]) ++ l3.drop (j + 1)).flatMap Wtb.cells)) := Lib.hid (by have h := HPUT.out.1; rw [HSET.out] at h; exact h)
                  generalize wq.setCells gA (j * 2) CN = w10 at *
                  have HFW : Hid (Fr [gA] wr w10) := Lib.hid ((HFX.out.mono (by simp)).trans HFS.out (fun x hx _ => hx))
                  go_roundw
                  case rel =>
                    refine ⟨j + 1, ys ++ [y], by have := HJN.out; omega, by go_num, by simp [hyl], HO10, ?_, ?_, Lib.hid ⟨HBB.out.1.keep HFW.out (by simp; have := HGA.out; omega), HBB.out.2.keep HFW.out (by simp; have := HGA.out; omega)⟩, Lib.hid (HFP.out.trans HFW.out (fun x hx hl => by simp at hx; have := HGB.out; omega))⟩
                    · refine Lib.hid ?_
                      rw [HTK.out]
                      exact forall2_snoc HREL.out HYR.out
                    · refine Lib.hid (fun u hu => ?_)
                      rcases List.mem_append.1 hu with hu | hu
                      · exact keepAll (ok := fun w S x => Wtb.Ok w S x) (fun h f s => h.keep f s) (w := wr) (B4 := [gA]) (B9 := [gA]) HFW.out (fun q hq => .inl hq) (HYS.out u hu)
                      · rw [List.mem_singleton.1 hu]
                        exact keepAll (ok := fun w S x => Wtb.Ok w S x) (fun h f s => h.keep f s) (w := wq) (B4 := [gA]) (B9 := [gA]) HFS.out (fun q hq => .inl hq) HYN.out
                  case measure => have := HJN.out; simp [intOf]; omega
            · skip
              have hjn : n3 = j := by omega
              subst hjn
              have HO3 : Hid (wr.ownsRow 0 37 2 (.slice A5 n3 c5) n3 (ys.flatMap Wtb.cells)) := Lib.hid (by
                have h := HO.out
                have hl := HLT.out.1
                rw [List.drop_of_length_le (by omega), List.append_nil] at h
                exact h)
              have HREL3 : Hid (All2 ntbR l3 ys) := Lib.hid (by
                have h := HREL.out
                have hl := HLT.out.1
                rw [List.take_of_length_le (by omega)] at h
                exact h)
              have HYS3 := Lib.hid HYS.out
              have HFP3 := Lib.hid HFP.out
              have HYL3 : Hid (ys.length = n3) := Lib.hid (by omega)
              have HBX := Lib.hid HBB.out.1
              have HBZ := Lib.hid HBB.out.2
              have HSW : Hid (w.heap.size + 2 ≤ wr.heap.size) := Lib.hid (by have h1 := HSW.out; have h2 := HFP.out.size; omega)
              have HNX3 : Hid (∀ q ∈ bk A5, q < wr.heap.size) := Lib.hid (fun q hq => own_lt HO.out q ((bk_mem A5 n3 c5 q).2 hq))
              clear hlt hj hc HO HREL HYS HFP HBB HNA HB7 HZ7 HFP7 HO7 hn1 HFW0
              obtain ⟨zs3, hzs3⟩ : ∃ z, z = ys := ⟨_, rfl⟩
              rw [← hzs3] at HO3 HREL3 HYS3 HYL3
              clear hzs3 hyl
              clear ys
              have HYSZ : Hid ((Tryd.prog.info? 27).map (·.size) = some (Wba.cells ⟨upI e, t, A1, n, c1, l, A4, n2, c4, l2, A5, n3, c5, l3⟩).toArray.size) := Lib.hid (by kernel_rfl)
              have HZC : Hid (zeroBa.size = (Wba.cells ⟨upI e, t, A1, n, c1, l, A4, n2, c4, l2, A5, n3, c5, l3⟩).toArray.size) := Lib.hid rfl
              have HALL : Hid ((Wba.cells ⟨upI e, t, A1, n, c1, l, A4, n2, c4, l2, A5, n3, c5, l3⟩).toArray.all (·.oneCell') = true) := Lib.hid (all_oneCell_toArray (Wba.one _))
              have HCE : Hid (Wba.cells ⟨upI e, t, A1, n, c1, l, A4, n2, c4, l2, A5, n3, c5, l3⟩ = Wba.cells ⟨upI e, t, A1, n, c1, zs1, A4, n2, c4, zs2, A5, n3, c5, zs3⟩) := Lib.hid rfl
              obtain ⟨YC, hYC⟩ : ∃ YC, YC = Wba.cells ⟨upI e, t, A1, n, c1, l, A4, n2, c4, l2, A5, n3, c5, l3⟩ := ⟨_, rfl⟩
              rw [← hYC] at HYSZ HZC HALL HCE HBX
              clear hYC
              go_wp2_with (first
                | (refine wpList_load_row rfl 27 _ rfl w.heap.size rfl 27 YC.toArray _ _ HBX.out Tryd.underlying27 rfl HYSZ.out ?_)
                | (refine wpList_store_blk rfl 27 _ _ rfl (w.heap.size + 1) YC.toArray rfl rfl 27 zeroBa HBZ.out HYSZ.out HZC.out HALL.out ?_
                   intro w9 hb9 hf9
                   have HB9 := Lib.hid hb9
                   have HF9 := Lib.hid hf9
                   clear hb9 hf9))
              have hz1 := HFP1.out.size
              have hz2 := HFP2.out.size
              have hz0 := HSW0.out
              have hfa3 : Fr [w.heap.size, w.heap.size + 1] wr w9 := HF9.out.mono (by intro k hk _; simp at hk; simp [hk])
              have hfa2 : Fr [w.heap.size, w.heap.size + 1] wb2 w9 := (HFP3.out.mono (by intro k hk _; simp at hk; simp [hk])).trans hfa3 (fun x hx _ => hx)
              have hfa1 : Fr [w.heap.size, w.heap.size + 1] wb1 w9 := (HFP2.out.mono (by intro k hk _; simp at hk; simp [hk])).trans hfa2 (fun x hx _ => hx)
              have ho1 := own_keep HO1.out hfa1 (fun q hq hm => by have h1 := HNA1.out q ((bk_mem A1 n c1 q).1 hq); simp at hm; omega)
              have ho2 := own_keep HO2.out hfa2 (fun q hq hm => by have h1 := HNA2.out q ((bk_mem A4 n2 c4 q).1 hq); simp at hm; omega)
              have ho3 := own_keep HO3.out hfa3 (fun q hq hm => by have h1 := HNA3.out q ((bk_mem A5 n3 c5 q).1 hq); simp at hm; omega)
              refine bodyPost_ret (v := .agg YC.toArray) (results_cell_row Tryd.results4 _ _ (w.heap.size + 1) 27 YC.toArray _ _ rfl HB9.out Tryd.underlying27 rfl HYSZ.out) rfl ⟨⟨upI e, t, A1, n, c1, zs1, A4, n2, c4, zs2, A5, n3, c5, zs3⟩, by rw [HCE.out]; rfl, fun S0 h0 => ⟨upI_in _, HXT.out, ?_, HNN.out.1, ?_, ?_, HNN.out.2.1, ?_, ?_, HNN.out.2.2, ?_⟩, ⟨rfl, rfl, HREL1.out, HREL2.out, HREL3.out⟩, ⟨rfl, rfl, rfl, own_cap HO1.out⟩, ?_⟩
              · exact Lst.of_own ho1 HYL1.out (fun u hu => ⟨rfl, (HYS1.out u hu (w.heap.size :: (w.heap.size + 1) :: S0) (fun q hq => by simp at hq; rcases hq with h | h | h; exact .inl (by omega); exact .inl (by omega); exact .inl (by have := h0 q h; omega))).keep (S' := S0) (hfa1.mono (by intro k hk _; simp at hk; rcases hk with h | h <;> simp [h])) (fun q hq _ => by simp [hq])⟩)
              · intro _ a ha hin
                have h1 := HNA1.out a.block (by have ha' : A1 = some a := ha; rw [ha']; simp [bk])
                have h2 := h0 _ hin
                omega
              · refine Lst.of_own ho2 HYL2.out (fun u hu => ?_)
                have hyo := (HYS2.out u hu (w.heap.size :: (w.heap.size + 1) :: S0) (fun q hq => by simp at hq; rcases hq with h | h | h; exact .inl (by omega); exact .inl (by omega); exact .inl (by have := h0 q h; omega))).keep (S' := S0) (hfa2.mono (by intro k hk _; simp at hk; rcases hk with h | h <;> simp [h])) (fun q hq _ => by simp [hq])
                exact ⟨Wop.len hyo.h, hyo⟩
              · intro _ a ha hin
                have h1 := HNA2.out a.block (by have ha' : A4 = some a := ha; rw [ha']; simp [bk])
                have h2 := h0 _ hin
                omega
              · exact Lst.of_own ho3 HYL3.out (fun u hu => ⟨rfl, (HYS3.out u hu (w.heap.size :: (w.heap.size + 1) :: S0) (fun q hq => by simp at hq; rcases hq with h | h | h; exact .inl (by omega); exact .inl (by omega); exact .inl (by have := h0 q h; omega))).keep (S' := S0) (hfa3.mono (by intro k hk _; simp at hk; rcases hk with h | h <;> simp [h])) (fun q hq _ => by simp [hq])⟩)
              · intro _ a ha hin
                have h1 := HNA3.out a.block (by have ha' : A5 = some a := ha; rw [ha']; simp [bk])
                have h2 := h0 _ hin
                omega
              · exact HF.out.and HF9.out (by simp)
end Go.Proofs.YtjpmiigoglcoaaaDoor

namespace Go.Proofs.YtjpmiigoglcoaaaDoor
open Go.RowKit
set_option maxRecDepth 100000
theorem exec_eql {P : Program} {ev : Operand → Value} {o : Oper} {w : World} (ty r : TypeId) (x y : Operand) (ho : o.op = .binOp .eql ty x y r) (C D : Array Value) (hx : ev x = .agg C) (hy : ev y = .agg D) (b : Bool)
    (hg : P.eqGuardType P.depth ty = false) (hq : (Op.equalIn 10000 ty (.agg C) (.agg D)).run P w = .ok b w) : (execOp ev o).run P w = .ok (.value (.bool b)) w := by
  have hq' : (Op.equal ty (.agg C) (.agg D)).run P w = .ok b w := hq
  unfold execOp
  simp only [ho, hx, hy]
  simp [eqGuard, binOp, hg, hq', Result.andThen]
theorem eql_at {P : Program} {l : List Oper} {Q : Exit → Act → World → Prop} {md : Region.Mode} {S : World → Prop} {fuel : Nat} {listed : Array Bool} {a : Act} {w : World}
    {i : Nat} {oi : Oper} (hi : nthOp l i = some oi) (ht : takeOk md l.toArray listed i = true) (hw : Region.wanted oi (yielded l.toArray a.tmps) = true)
    (ty r : TypeId) (x y : Operand) (ho : oi.op = .binOp .eql ty x y r) (C D : Array Value) (hx : a.eval x = .agg C) (hy : a.eval y = .agg D) (b : Bool) (hg : P.eqGuardType P.depth ty = false)
    (hq : ∀ w, (Op.equalIn 10000 ty (.agg C) (.agg D)).run P w = .ok b w)
    (hQ : ∀ c a w, Q (.panic c) (a.put oi.dst (.bool b)) w → Q (.panic c) a w) (hS : S w)
    (h : wpAnyH P md l.toArray Q S fuel (listed.setIfInBounds i true) (a.put oi.dst (.bool b)) w) : wpAnyH P md l.toArray Q S (fuel + 1) listed a w :=
  run_at hi ht hw hQ hS (fun _ _ => exec_eql ty r x y ho C D hx hy b hg (hq _)) h
theorem exec_neq {P : Program} {ev : Operand → Value} {o : Oper} {w : World} (ty r : TypeId) (x y : Operand) (ho : o.op = .binOp .neq ty x y r) (C D : Array Value) (hx : ev x = .agg C) (hy : ev y = .agg D) (b : Bool)
    (hg : P.eqGuardType P.depth ty = false) (hq : (Op.equalIn 10000 ty (.agg C) (.agg D)).run P w = .ok b w) : (execOp ev o).run P w = .ok (.value (.bool (!b))) w := by
  have hq' : (Op.equal ty (.agg C) (.agg D)).run P w = .ok b w := hq
  unfold execOp
  simp only [ho, hx, hy]
  simp [eqGuard, binOp, hg, hq', Result.andThen]
theorem neq_at {P : Program} {l : List Oper} {Q : Exit → Act → World → Prop} {md : Region.Mode} {S : World → Prop} {fuel : Nat} {listed : Array Bool} {a : Act} {w : World}
    {i : Nat} {oi : Oper} (hi : nthOp l i = some oi) (ht : takeOk md l.toArray listed i = true) (hw : Region.wanted oi (yielded l.toArray a.tmps) = true)
    (ty r : TypeId) (x y : Operand) (ho : oi.op = .binOp .neq ty x y r) (C D : Array Value) (hx : a.eval x = .agg C) (hy : a.eval y = .agg D) (b : Bool) (hg : P.eqGuardType P.depth ty = false)
    (hq : ∀ w, (Op.equalIn 10000 ty (.agg C) (.agg D)).run P w = .ok b w)
    (hQ : ∀ c a w, Q (.panic c) (a.put oi.dst (.bool (!b))) w → Q (.panic c) a w) (hS : S w)
    (h : wpAnyH P md l.toArray Q S fuel (listed.setIfInBounds i true) (a.put oi.dst (.bool (!b))) w) : wpAnyH P md l.toArray Q S (fuel + 1) listed a w :=
  run_at hi ht hw hQ hS (fun _ _ => exec_neq ty r x y ho C D hx hy b hg (hq _)) h
end Go.Proofs.YtjpmiigoglcoaaaDoor

namespace Go.Proofs.YtjpmiigoglcoaaaDoor
open Go.RowKit
set_option maxRecDepth 100000

theorem eqFields_bool {P : Program} {d : Nat} {xs ys : Array Value} {f : Field} {fs : List Field} {u v : Value} {b : Bool} {w : World} (hn : f.name ≠ "_") (p : (part f.type xs f.offset).run P w = .ok u w) (p' : (part f.type ys f.offset).run P w = .ok v w)
    (q : (Op.equalIn d f.type u v).run P w = .ok b w) : (Op.eqFields d xs ys (f :: fs)).run P w = if b then (Op.eqFields d xs ys fs).run P w else .ok false w := by
  rw [Op.eqFields, if_pos hn]
  simp only [Sem.run_bind, p, p', Result.andThen_ok, q]
  cases b <;> simp
def FieldsEq (P : Program) (w : World) (d : Nat) (C D : Array Value) : List (TypeId × Nat) → List Bool → Prop
  | [], [] => True
  | (t, o) :: fs, b :: bs => (∃ u v, (part t C o).run P w = .ok u w ∧ (part t D o).run P w = .ok v w ∧ (Op.equalIn d t u v).run P w = .ok b w) ∧ FieldsEq P w d C D fs bs
  | _, _ => False
theorem eqFields_all {P : Program} {w : World} {d : Nat} {C D : Array Value} : ∀ (fs : List Field) (l : List (TypeId × Nat)) (bs : List Bool), fs.map (fun f => (f.type, f.offset, f.name == "_")) = l.map (fun x => (x.1, x.2, false)) →
    FieldsEq P w d C D l bs → (Op.eqFields d C D fs).run P w = .ok (bs.all id) w
  | [], [], [], _, _ => rfl
  | [], [], _ :: _, _, h => h.elim
  | [], _ :: _, _, h, _ => by simp at h
  | _ :: _, [], _, h, _ => by simp at h
  | _ :: _, _ :: _, [], _, h => h.elim
  | f :: fs, (t, o) :: l, b :: bs, h, hb => by
    simp only [List.map_cons, List.cons.injEq, Prod.mk.injEq, beq_eq_false_iff_ne] at h
    obtain ⟨⟨rfl, rfl, hn⟩, h⟩ := h
    obtain ⟨⟨u, v, p, p', q⟩, hr⟩ := hb
    rw [eqFields_bool hn p p' q, eqFields_all fs l bs h hr]
    cases b <;> simp
theorem part_rowx (ty : TypeId) (n off : Nat) (xs ys zs : List Value) (h : RowTy Tryd.prog ty n) (hx : xs.length = off) (hy : ys.length = n) (w : World) : (part ty (xs ++ (ys ++ zs)).toArray off).run Tryd.prog w = .ok (.agg ys.toArray) w := by
  obtain ⟨h1, h2⟩ := h
  cases hu : Tryd.prog.underlying ty with
  | none => rw [hu] at h1; cases h1
  | some d =>
    rw [hu] at h1
    cases hi : Tryd.prog.info? ty with
    | none => rw [hi] at h2; cases h2
    | some i =>
      have hs : i.size = n := by simpa [hi] using h2
      have hagg : (isAgg ty).run Tryd.prog w = .ok true w := by
        unfold isAgg
        rw [Sem.run_bind, run_underlying hu w]
        cases d <;> simp_all
      unfold part
      simp [hagg, sizeOf, typeInfo, hi, hs]
      subst hx
      subst hy
      simp
theorem eql_hash (a b : List UInt8) (ha : a.length = 32) (hb : b.length = 32) (d : Nat) (w : World) : (Op.equalIn (d + 2) 32 (.agg (a.map by8).toArray) (.agg (b.map by8).toArray)).run Tryd.prog w = .ok (decide (a = b)) w := by
  have h := run_equalIn_bytes (P := Tryd.prog) w d 32 5 32 Tryd.underlying32 Tryd.underlying5 u8_size1 a b ha hb
  rw [show decide (a = b) = (a == b) by rw [Bool.eq_iff_iff]; simp]
  exact h
theorem eql_int (y z : Int) (d : Nat) (w : World) : (Op.equalIn (d + 1) 3 (.int .i64 y) (.int .i64 z)).run Tryd.prog w = .ok (decide (y = z)) w := by
  have h := run_equalIn_int (P := Tryd.prog) w d 3 .i64 .i64 y z Tryd.underlying3
  rw [show decide (y = z) = (y == z) by rw [Bool.eq_iff_iff]; simp]
  exact h
theorem eql_u64 (y z : Int) (d : Nat) (w : World) : (Op.equalIn (d + 1) 22 (.int .u64 y) (.int .u64 z)).run Tryd.prog w = .ok (decide (y = z)) w := by
  have h := run_equalIn_int (P := Tryd.prog) w d 22 .u64 .u64 y z Tryd.underlying22
  rw [show decide (y = z) = (y == z) by rw [Bool.eq_iff_iff]; simp]
  exact h
theorem part_int (off : Nat) (cs : Array Value) (v : Value) (hv : cs[off]? = some v) (w : World) : (part 3 cs off).run Tryd.prog w = .ok v w := run_part_plain w (by kernel_rfl) hv
theorem part_u64 (off : Nat) (cs : Array Value) (v : Value) (hv : cs[off]? = some v) (w : World) : (part 22 cs off).run Tryd.prog w = .ok v w := run_part_plain w (by kernel_rfl) hv
theorem eql_of {ty : TypeId} {d : Nat} {C D : Array Value} {w : World} {l : List (TypeId × Nat)} {bs : List Bool} (e : (Op.equalIn (d + 1) ty (.agg C) (.agg D)).run Tryd.prog w = (Op.eqFields d C D (Tryd.prog.fieldsOf ty).toList).run Tryd.prog w)
    (hfs : (Tryd.prog.fieldsOf ty).toList.map (fun f => (f.type, f.offset, f.name == "_")) = l.map (fun x => (x.1, x.2, false))) (hb : FieldsEq Tryd.prog w d C D l bs) : (Op.equalIn (d + 1) ty (.agg C) (.agg D)).run Tryd.prog w = .ok (bs.all id) w := by
  rw [e]
  exact eqFields_all _ l bs hfs hb
theorem eql_name (a b a' b' : Int) (d : Nat) (w : World) : (Op.equalIn (d + 2) 75 (.agg #[.int .i64 a, .int .i64 b]) (.agg #[.int .i64 a', .int .i64 b'])).run Tryd.prog w = .ok (decide (a = a') && decide (b = b')) w := by
  have h := eql_of (l := [(3, 0), (3, 1)]) (run_equalIn_struct w (d + 1) 75 #[.int .i64 a, .int .i64 b] #[.int .i64 a', .int .i64 b'] (by kernel_rfl) (by kernel_rfl)) (by kernel_rfl)
    (bs := [decide (a = a'), decide (b = b')]) ⟨⟨_, _, part_int 0 _ _ rfl w, part_int 0 _ _ rfl w, eql_int a a' d w⟩, ⟨_, _, part_int 1 _ _ rfl w, part_int 1 _ _ rfl w, eql_int b b' d w⟩, trivial⟩
  rw [h]
  simp
theorem eql_sig (a b a' b' : Int) (d : Nat) (w : World) : (Op.equalIn (d + 2) 47 (.agg #[.int .i64 a, .int .i64 b]) (.agg #[.int .i64 a', .int .i64 b'])).run Tryd.prog w = .ok (decide (a = a') && decide (b = b')) w := by
  have h := eql_of (l := [(3, 0), (3, 1)]) (run_equalIn_struct w (d + 1) 47 #[.int .i64 a, .int .i64 b] #[.int .i64 a', .int .i64 b'] (by kernel_rfl) (by kernel_rfl)) (by kernel_rfl)
    (bs := [decide (a = a'), decide (b = b')]) ⟨⟨_, _, part_int 0 _ _ rfl w, part_int 0 _ _ rfl w, eql_int a a' d w⟩, ⟨_, _, part_int 1 _ _ rfl w, part_int 1 _ _ rfl w, eql_int b b' d w⟩, trivial⟩
  rw [h]
  simp
def Wst.eqB (x y : Wst) : Bool := [decide (x.r = y.r), (decide (x.c = y.c) && decide (x.s = y.s)), decide (x.h = y.h), decide ((x.t : Int) = (y.t : Int)), (decide (x.b = y.b) && decide (x.m = y.m))].all id
theorem Wst.eqB_iff (x y : Wst) : x.eqB y = true ↔ x = y := by
  obtain ⟨_, _, _, _, _, _, _⟩ := x
  obtain ⟨_, _, _, _, _, _, _⟩ := y
  simp [Wst.eqB, Wst.mk.injEq, and_assoc]
  (try omega)
set_option maxHeartbeats 1000000 in
theorem eql_Wst (x y : Wst) (hx : x.h.length = 32) (hy : y.h.length = 32) (w : World) : (Op.equalIn 10000 111 (.agg x.cells.toArray) (.agg y.cells.toArray)).run Tryd.prog w = .ok (x.eqB y) w :=
  eql_of (d := 9999) (C := x.cells.toArray) (D := y.cells.toArray) (l := [(3, 0), (75, 1), (32, 3), (22, 35), (47, 36)]) (run_equalIn_struct w 9999 111 x.cells.toArray y.cells.toArray (by kernel_rfl) (by kernel_rfl)) (by kernel_rfl)
    (bs := [decide (x.r = y.r), (decide (x.c = y.c) && decide (x.s = y.s)), decide (x.h = y.h), decide ((x.t : Int) = (y.t : Int)), (decide (x.b = y.b) && decide (x.m = y.m))])
    ⟨⟨_, _, part_int 0 _ _ (show x.cells.toArray[0]? = some (.int .i64 x.r) from rfl) w, part_int 0 _ _ (show y.cells.toArray[0]? = some (.int .i64 y.r) from rfl) w, eql_int _ _ 9998 w⟩,
      ⟨_, _, (part_rowx 75 2 1 [.int .i64 x.r] [.int .i64 x.c, .int .i64 x.s] ([] ++ (x.h.map by8 ++ [.int .u64 (x.t : Int), .int .i64 x.b, .int .i64 x.m])) row_name rfl rfl w), (part_rowx 75 2 1 [.int .i64 y.r] [.int .i64 y.c, .int .i64 y.s] ([] ++ (y.h.map by8 ++ [.int .u64 (y.t : Int), .int .i64 y.b, .int .i64 y.m])) row_name rfl rfl w), eql_name _ _ _ _ 9997 w⟩,
      ⟨_, _, (part_rowx 32 32 3 [.int .i64 x.r, .int .i64 x.c, .int .i64 x.s] (x.h.map by8) [.int .u64 (x.t : Int), .int .i64 x.b, .int .i64 x.m] row_hash rfl (by rw [List.length_map]; exact hx) w), (part_rowx 32 32 3 [.int .i64 y.r, .int .i64 y.c, .int .i64 y.s] (y.h.map by8) [.int .u64 (y.t : Int), .int .i64 y.b, .int .i64 y.m] row_hash rfl (by rw [List.length_map]; exact hy) w), eql_hash x.h y.h hx hy 9997 w⟩,
      ⟨_, _, part_u64 35 _ _ (show x.cells.toArray[35]? = some (.int .u64 (x.t : Int)) by rw [List.getElem?_toArray]; exact post_cell [.int .i64 x.r, .int .i64 x.c, .int .i64 x.s] (x.h.map by8) [.int .u64 (x.t : Int), .int .i64 x.b, .int .i64 x.m] (by rw [List.length_map]; exact hx) 0 rfl) w, part_u64 35 _ _ (show y.cells.toArray[35]? = some (.int .u64 (y.t : Int)) by rw [List.getElem?_toArray]; exact post_cell [.int .i64 y.r, .int .i64 y.c, .int .i64 y.s] (y.h.map by8) [.int .u64 (y.t : Int), .int .i64 y.b, .int .i64 y.m] (by rw [List.length_map]; exact hy) 0 rfl) w, eql_u64 _ _ 9998 w⟩,
      ⟨_, _, (show (part 47 x.cells.toArray 36).run Tryd.prog w = .ok (.agg [.int .i64 x.b, .int .i64 x.m].toArray) w by rw [show x.cells = ([.int .i64 x.r, .int .i64 x.c, .int .i64 x.s] ++ (x.h.map by8 ++ [.int .u64 (x.t : Int)])) ++ ([.int .i64 x.b, .int .i64 x.m] ++ []) by simp [Wst.cells]]; exact part_rowx 47 2 36 _ _ _ row_sig (by simp [hx]) rfl w), (show (part 47 y.cells.toArray 36).run Tryd.prog w = .ok (.agg [.int .i64 y.b, .int .i64 y.m].toArray) w by rw [show y.cells = ([.int .i64 y.r, .int .i64 y.c, .int .i64 y.s] ++ (y.h.map by8 ++ [.int .u64 (y.t : Int)])) ++ ([.int .i64 y.b, .int .i64 y.m] ++ []) by simp [Wst.cells]]; exact part_rowx 47 2 36 _ _ _ row_sig (by simp [hy]) rfl w), eql_sig _ _ _ _ 9997 w⟩, trivial⟩
def Wvt.eqB (x y : Wvt) : Bool := [decide (x.k = y.k), decide (x.e = y.e), decide (x.r = y.r), decide (x.p = y.p), decide (x.h = y.h), (decide (x.b = y.b) && decide (x.m = y.m))].all id
theorem Wvt.eqB_iff (x y : Wvt) : x.eqB y = true ↔ x = y := by
  obtain ⟨_, _, _, _, _, _, _⟩ := x
  obtain ⟨_, _, _, _, _, _, _⟩ := y
  simp [Wvt.eqB, Wvt.mk.injEq, and_assoc]
  (try omega)
def Wdn.eqB (x y : Wdn) : Bool := [decide (x.r = y.r), decide (x.i = y.i), (decide (x.b = y.b) && decide (x.m = y.m))].all id
theorem Wdn.eqB_iff (x y : Wdn) : x.eqB y = true ↔ x = y := by
  obtain ⟨_, _, _, _⟩ := x
  obtain ⟨_, _, _, _⟩ := y
  simp [Wdn.eqB, Wdn.mk.injEq, and_assoc]
  (try omega)
set_option maxHeartbeats 1000000 in
theorem eql_Wdn (x y : Wdn) (w : World) : (Op.equalIn 10000 54 (.agg x.cells.toArray) (.agg y.cells.toArray)).run Tryd.prog w = .ok (x.eqB y) w :=
  eql_of (d := 9999) (C := x.cells.toArray) (D := y.cells.toArray) (l := [(3, 0), (3, 1), (47, 2)]) (run_equalIn_struct w 9999 54 x.cells.toArray y.cells.toArray (by kernel_rfl) (by kernel_rfl)) (by kernel_rfl)
    (bs := [decide (x.r = y.r), decide (x.i = y.i), (decide (x.b = y.b) && decide (x.m = y.m))])
    ⟨⟨_, _, part_int 0 _ _ (show x.cells.toArray[0]? = some (.int .i64 x.r) from rfl) w, part_int 0 _ _ (show y.cells.toArray[0]? = some (.int .i64 y.r) from rfl) w, eql_int _ _ 9998 w⟩,
      ⟨_, _, part_int 1 _ _ (show x.cells.toArray[1]? = some (.int .i64 x.i) from rfl) w, part_int 1 _ _ (show y.cells.toArray[1]? = some (.int .i64 y.i) from rfl) w, eql_int _ _ 9998 w⟩,
      ⟨_, _, (part_rowx 47 2 2 [.int .i64 x.r, .int .i64 x.i] [.int .i64 x.b, .int .i64 x.m] [] row_sig rfl rfl w), (part_rowx 47 2 2 [.int .i64 y.r, .int .i64 y.i] [.int .i64 y.b, .int .i64 y.m] [] row_sig rfl rfl w), eql_sig _ _ _ _ 9997 w⟩, trivial⟩
end Go.Proofs.YtjpmiigoglcoaaaDoor

namespace Go.Proofs.YtjpmiigoglcoaaaDoor
open Go.RowKit
set_option maxRecDepth 100000
theorem add_off (g o j : Nat) : (⟨g, o, none⟩ : Addr).add j = ⟨g, o + j, none⟩ := by unfold Addr.add; split <;> simp_all
theorem wpList_eqlg {P : Program} {ops : Array Oper} {rest : List Oper} {op : Oper} {a : Act} {w : World} {Q : Exit → Act → World → Prop} (hw : Region.wanted op (yielded ops a.tmps) = true) (ty r : TypeId) (x y : Operand) (ho : op.op = .binOp .eql ty x y r) (C D : Array Value) (hx : a.eval x = .agg C) (hy : a.eval y = .agg D) (b : Bool)
    (hg : P.eqGuardType P.depth ty = false) (hq : (Op.equalIn 10000 ty (.agg C) (.agg D)).run P w = .ok b w) (h : wpList P ops Q rest (a.put op.dst (.bool b)) w) : wpList P ops Q (op :: rest) a w :=
  BigFrame.wpList_want hw fun _ hK => wp_run (exec_eql ty r x y ho C D hx hy b hg hq) (hK _ _ h)
theorem wpList_midg {P : Program} {ops : Array Oper} {rest : List Oper} {op : Oper} {a : Act} {w : World} {Q : Exit → Act → World → Prop} (hw : Region.wanted op (yielded ops a.tmps) = true) (ty : TypeId) (x : Operand) (ho : op.op = .load ty x)
    (b o : Nat) (hx : a.eval x = .pointer (some ⟨b, o, none⟩)) (cs : List Value) (hc : w.rangeAt b o cs) (hr : RowTy P ty cs.length) (h : wpList P ops Q rest (a.put op.dst (.agg cs.toArray)) w) : wpList P ops Q (op :: rest) a w :=
  wpList_cells hw ty x ho ⟨b, o, none⟩ hx cs (fun j v hv => by rw [add_off]; exact hc j v hv) hr h
section
variable {P : Program} {l : List Oper} {Q : Exit → Act → World → Prop} {md : Region.Mode} {S : World → Prop} {fuel : Nat} {listed : Array Bool} {a : Act} {w : World}
theorem crow_at {i : Nat} {oi : Oper} (hi : nthOp l i = some oi) (ht : takeOk md l.toArray listed i = true) (hw : Region.wanted oi (yielded l.toArray a.tmps) = true)
    (ty : TypeId) (x : Operand) (ho : oi.op = .load ty x) (ad : Addr) (hx : a.eval x = .pointer (some ad)) (cs : List Value) (hc : ∀ w1, S w1 → ∀ j v, cs[j]? = some v → w1.cell? (ad.add j) = some v) (hr : RowTy P ty cs.length)
    (hQ : ∀ c a w, Q (.panic c) (a.put oi.dst (.agg cs.toArray)) w → Q (.panic c) a w) (hS : S w)
    (h : wpAnyH P md l.toArray Q S fuel (listed.setIfInBounds i true) (a.put oi.dst (.agg cs.toArray)) w) : wpAnyH P md l.toArray Q S (fuel + 1) listed a w :=
  take_at hi ht hQ (.inl ⟨hw, fun w1 h1 => exec_cells ty x ho ad hx cs hr (hc w1 h1)⟩) hS h
end
theorem row_hs : RowTy Tryd.prog 32 32 := ⟨by kernel_rfl, by kernel_rfl⟩
theorem row_opS : RowTy Tryd.prog 34 34 := ⟨by kernel_rfl, by kernel_rfl⟩
theorem row_dnS : RowTy Tryd.prog 54 4 := ⟨by kernel_rfl, by kernel_rfl⟩

theorem fld_add (ad : Addr) (m j : Nat) : (ad.add m).add (j + 1) = ⟨(ad.add m).block, (ad.add m).off + (j + 1), none⟩ := rfl

set_option maxHeartbeats 2000000 in
theorem opening_self (x : Wop) (w : World) (hx : x.Ok w []) (C : List Value) (hC : x.cells = C) :
    Calls Tryd.prog 39 #[.agg C.toArray, .agg C.toArray] w fun e w' => e = .returned (.bool true) ∧ Fr [] w w' := by
  obtain ⟨wa, hwa⟩ : ∃ wa, wa = (w.alloc (Obj.cells C.toArray 34)).alloc (Obj.cells C.toArray 34) := ⟨_, rfl⟩
  have hf0 : Fr [] w wa := by rw [hwa]; exact ((Fr.refl [] w).alloc _).alloc _
  have hb0 : Blk wa w.heap.size 34 x.cells.toArray := by rw [hwa, hC]; exact blk_alloc (Blk.new _ _ _)
  have hb1 : Blk wa (w.heap.size + 1) 34 x.cells.toArray := by
    have := Blk.new (w.alloc (Obj.cells C.toArray 34)) 34 C.toArray
    rw [hwa, hC]
    simpa using this
  have hr0 := hb0.range
  have hr1 := hb1.range
  have h00 : wa.cell? ⟨w.heap.size, 0, none⟩ = some (.int .i64 x.i) := by have h := hr0 0 _ rfl; simpa using h
  have h10 : wa.cell? ⟨w.heap.size + 1, 0, none⟩ = some (.int .i64 x.i) := by have h := hr1 0 _ rfl; simpa using h
  have h01 : wa.cell? ⟨w.heap.size, 1, none⟩ = some (.slice x.A x.n x.d) := by have h := hr0 1 _ rfl; simpa using h
  have h11 : wa.cell? ⟨w.heap.size + 1, 1, none⟩ = some (.slice x.A x.n x.d) := by have h := hr1 1 _ rfl; simpa using h
  have HH0 : Hid (wa.rangeAt w.heap.size 2 (x.h.map by8)) := Lib.hid (rangeAt_sub (o := 0) (xs := [.int .i64 x.i, .slice x.A x.n x.d]) (ys := x.h.map by8) (zs := []) hr0)
  have HH1 : Hid (wa.rangeAt (w.heap.size + 1) 2 (x.h.map by8)) := Lib.hid (rangeAt_sub (o := 0) (xs := [.int .i64 x.i, .slice x.A x.n x.d]) (ys := x.h.map by8) (zs := []) hr1)
  have HHL : Hid ((x.h.map by8).length = 32) := Lib.hid (by rw [List.length_map]; exact hx.h)
  have HEQ : Hid ((Op.equalIn 10000 32 (.agg (x.h.map by8).toArray) (.agg (x.h.map by8).toArray)).run Tryd.prog wa = .ok true wa) := Lib.hid (by
    have h := eql_hash x.h x.h hx.h hx.h 9998 wa
    simpa using h)
  have HF0 := Lib.hid hf0
  have HWA := Lib.hid hwa
  have HX := Lib.hid hx
  have hii : (x.i == x.i) = true := by simp
  clear hwa hf0 hb0 hb1 hr0 hr1 hx hC
  generalize hHV : x.h.map by8 = HV at *
  clear hHV
  go_enter Tryd.func39, Tryd.ntmps39
  go_upto_region 1 with (fail)
  change Code.wp _ _ _ _ ((w.alloc (Obj.cells C.toArray 34)).alloc (Obj.cells C.toArray 34))
  rw [← HWA.out]
  go_wp2_with (first
    | (refine wpList_midg rfl 32 _ rfl w.heap.size 2 rfl HV HH0.out (row_hs.of HHL.out) ?_)
    | (refine wpList_midg rfl 32 _ rfl (w.heap.size + 1) 2 rfl HV HH1.out (row_hs.of HHL.out) ?_)
    | (refine wpList_eqlg rfl 32 _ _ _ rfl HV.toArray HV.toArray rfl rfl true (by kernel_rfl) HEQ.out ?_))
  refine (same_any x.A x.A x.n x.n x.d x.d x.p x.p wa (HX.out.p.keep HF0.out (by simp)) (HX.out.p.keep HF0.out (by simp)) (by have := HX.out.n; omega)).mono ?_
  rintro e w1 ⟨rfl, k1, hw1⟩
  simp only [decide_true]
  have HF1 : Hid (Fr [] w w1) := Lib.hid (by rw [hw1]; exact HF0.out.drewN _)
  clear hw1 h00 h10 h01 h11 hii
  go_wp2
  go_ret
  exact ⟨rfl, HF1.out⟩

set_option maxHeartbeats 4000000 in
theorem openings_self (A : Option Addr) (n d : Nat) (l : List Wop) (w : World) (hl : Lst 34 Wop.cells (fun w v => v.Ok w []) w A n l) (hn : n ≤ 1000) :
    Calls Tryd.prog 20 #[.slice A n d, .slice A n d] w fun e w' => e = .returned (.bool true) ∧ Fr [] w w' := by
  have HL := Lib.hid hl
  have HN := Lib.hid hn
  have hn1 : (n : Int) ≤ 9223372036854775807 := by omega
  have hnn : ((n : Int) != (n : Int)) = false := by simp
  clear hl hn
  go_enter Tryd.func20, Tryd.ntmps20
  go_wp2_with fail
  clear hnn
  go_loopw [13] (fun i wr => ∃ j : Nat, j ≤ n ∧ i = .int .i64 j ∧ Hid (Fr [] w wr)) (fun i _ => n - (intOf i).toNat)
  case atStart => exact ⟨0, by omega, rfl, Lib.hid (Fr.refl _ _)⟩
  case round =>
    obtain ⟨j, hj, rfl, HF⟩ := hrel
    by_cases hlt : j < n
    · obtain ⟨ad, v, hA, hv, hcl, hok, hcells⟩ := HL.out.at (i := j) hlt
      subst hA
      have HCELLS : Hid (∀ i u, (Wop.cells v)[i]? = some u → wr.cell? ((ad.add (j * 34)).add i) = some u) := Lib.hid (fun i u hu => HF.out.cell (hcells i u hu) (by simp))
      have HCL := Lib.hid hcl
      have HOK := Lib.hid hok
      have HJN := Lib.hid hlt
      have hj0 : (0 : Int) ≤ j := by omega
      clear hcells hcl hok hv
      go_upto_region 6 with (fail)
      refine wp_region_held_drew (S := Fr [] wr) (by kernel_rfl) (Fr.drew (Fr.refl _ wr)) (fun hHeld => ?_)
      generalize wr.drew = wd at *
      refine run_at (i := 0) (v := ?_) rfl (by kernel_rfl) (by rfl) (fun _ _ _ h => h) hHeld (fun w1 hw1 => ?_) ?_
      rotate_left 1
      · skip
        go_simp
        (try (first | with_reducible rfl | (apply And.intro <;> rfl)))
      simp only [Act.put, List.setIfInBounds_toArray, List.set_cons_zero, List.set_cons_succ]
      refine run_at (i := 1) (v := ?_) rfl (by kernel_rfl) (by rfl) (fun _ _ _ h => h) hHeld (fun w1 hw1 => ?_) ?_
      rotate_left 1
      · skip
        go_simp
        (try (first | with_reducible rfl | (apply And.intro <;> rfl)))
      simp only [Act.put, List.setIfInBounds_toArray, List.set_cons_zero, List.set_cons_succ]
      refine run_at (i := 2) (v := ?_) rfl (by kernel_rfl) (by rfl) (fun _ _ _ h => h) hHeld (fun w1 hw1 => ?_) ?_
      rotate_left 1
      · skip
        go_simp
        (try (first | with_reducible rfl | (apply And.intro <;> rfl)))
      simp only [Act.put, List.setIfInBounds_toArray, List.set_cons_zero, List.set_cons_succ]
      refine crow_at (i := 3) rfl (by kernel_rfl) (by rfl) _ _ rfl _ rfl _ (fun w1 hw1 j v hv => hw1.cell ((HCELLS.out) j v hv) (by simp)) (row_opS.of HCL.out) (fun _ _ _ h => h) hHeld ?_
      simp only [Act.put, List.setIfInBounds_toArray, List.set_cons_zero, List.set_cons_succ]
      refine run_at (i := 4) (v := ?_) rfl (by kernel_rfl) (by rfl) (fun _ _ _ h => h) hHeld (fun w1 hw1 => ?_) ?_
      rotate_left 1
      · skip
        go_simp
        (try (first | with_reducible rfl | (apply And.intro <;> rfl)))
      simp only [Act.put, List.setIfInBounds_toArray, List.set_cons_zero, List.set_cons_succ]
      refine run_at (i := 5) (v := ?_) rfl (by kernel_rfl) (by rfl) (fun _ _ _ h => h) hHeld (fun w1 hw1 => ?_) ?_
      rotate_left 1
      · skip
        go_simp
        (try (first | with_reducible rfl | (apply And.intro <;> rfl)))
      simp only [Act.put, List.setIfInBounds_toArray, List.set_cons_zero, List.set_cons_succ]
      refine run_at (i := 6) (v := ?_) rfl (by kernel_rfl) (by rfl) (fun _ _ _ h => h) hHeld (fun w1 hw1 => ?_) ?_
      rotate_left 1
      · skip
        go_simp
        (try (first | with_reducible rfl | (apply And.intro <;> rfl)))
      simp only [Act.put, List.setIfInBounds_toArray, List.set_cons_zero, List.set_cons_succ]
      refine crow_at (i := 7) rfl (by kernel_rfl) (by rfl) _ _ rfl _ rfl _ (fun w1 hw1 j v hv => hw1.cell ((HCELLS.out) j v hv) (by simp)) (row_opS.of HCL.out) (fun _ _ _ h => h) hHeld ?_
      simp only [Act.put, List.setIfInBounds_toArray, List.set_cons_zero, List.set_cons_succ]
      refine call_at (i := 8) (f := ?_) (args := ?_) rfl (by kernel_rfl) (by rfl) ?_ ?_
      rotate_left 2
      · go_simp
        (try (first | with_reducible rfl | (apply And.intro <;> rfl)))
      refine (opening_self v wd ((HOK.out.keep HF.out (by simp)).keep hHeld (by simp)) _ rfl).mono ?_
      rintro e_ w9 ⟨rfl, hf⟩
      refine ⟨_, rfl, hHeld.and hf (by simp), fun hHeld => ?_⟩
      clear hf
      simp only [Act.put, List.setIfInBounds_toArray, List.set_cons_zero, List.set_cons_succ]
      refine run_at (i := 9) (v := ?_) rfl (by kernel_rfl) (by rfl) (fun _ _ _ h => h) hHeld (fun w1 hw1 => ?_) ?_
      rotate_left 1
      · skip
        go_simp
        (try (first | with_reducible rfl | (apply And.intro <;> rfl)))
      simp only [Act.put, List.setIfInBounds_toArray, List.set_cons_zero, List.set_cons_succ]
      refine wpAnyH_done (by kernel_rfl) ?_ _
      have HF9 : Hid (Fr [] w w9) := Lib.hid (HF.out.and hHeld (by simp))
      clear hHeld HCELLS HCL
      clear HOK
      go_wp2
      go_roundw
      case rel => exact ⟨j + 1, by have := HJN.out; omega, by go_num, HF9⟩
      case measure => have := HJN.out; simp [intOf]; omega
    · have hjn : n = j := by omega
      subst hjn
      clear hlt hj
      go_wp2
      go_ret
      exact ⟨rfl, HF.out⟩

set_option maxHeartbeats 4000000 in
theorem denies_self (A : Option Addr) (n d : Nat) (l : List Wdn) (w : World) (hl : Lst 4 Wdn.cells (fun _ v => v.Ok) w A n l) (hn : n ≤ 1000) :
    Calls Tryd.prog 40 #[.slice A n d, .slice A n d] w fun e w' => e = .returned (.bool true) ∧ Fr [] w w' := by
  have HL := Lib.hid hl
  have HN := Lib.hid hn
  have hn1 : (n : Int) ≤ 9223372036854775807 := by omega
  have hnn : ((n : Int) != (n : Int)) = false := by simp
  clear hl hn
  go_enter Tryd.func40, Tryd.ntmps40
  go_wp2_with fail
  clear hnn
  go_loopw [5] (fun i wr => ∃ j : Nat, j ≤ n ∧ i = .int .i64 j ∧ Hid (Fr [] w wr)) (fun i _ => n - (intOf i).toNat)
  case atStart => exact ⟨0, by omega, rfl, Lib.hid (Fr.refl _ _)⟩
  case round =>
    obtain ⟨j, hj, rfl, HF⟩ := hrel
    by_cases hlt : j < n
    · obtain ⟨ad, v, hA, hv, hcl, hok, hcells⟩ := HL.out.at (i := j) hlt
      subst hA
      have HCELLS : Hid (∀ i u, (Wdn.cells v)[i]? = some u → wr.cell? ((ad.add (j * 4)).add i) = some u) := Lib.hid (fun i u hu => HF.out.cell (hcells i u hu) (by simp))
      have HCL := Lib.hid hcl
      have HOK := Lib.hid hok
      have HJN := Lib.hid hlt
      have hj0 : (0 : Int) ≤ j := by omega
      clear hcells hcl hok hv
      have HEQ : Hid (∀ W : World, (Op.equalIn 10000 54 (.agg v.cells.toArray) (.agg v.cells.toArray)).run Tryd.prog W = .ok true W) := Lib.hid (fun W => by
        have h := eql_Wdn v v W
        rw [(Wdn.eqB_iff v v).2 rfl] at h
        exact h)
      go_upto_region 6 with (fail)
      refine wp_region_held_drew (S := Fr [] wr) (by kernel_rfl) (Fr.drew (Fr.refl _ wr)) (fun hHeld => ?_)
      generalize wr.drew = w9 at *
      refine run_at (i := 0) (v := ?_) rfl (by kernel_rfl) (by rfl) (fun _ _ _ h => h) hHeld (fun w1 hw1 => ?_) ?_
      rotate_left 1
      · skip
        go_simp
        (try (first | with_reducible rfl | (apply And.intro <;> rfl)))
      simp only [Act.put, List.setIfInBounds_toArray, List.set_cons_zero, List.set_cons_succ]
      refine run_at (i := 1) (v := ?_) rfl (by kernel_rfl) (by rfl) (fun _ _ _ h => h) hHeld (fun w1 hw1 => ?_) ?_
      rotate_left 1
      · skip
        go_simp
        (try (first | with_reducible rfl | (apply And.intro <;> rfl)))
      simp only [Act.put, List.setIfInBounds_toArray, List.set_cons_zero, List.set_cons_succ]
      refine run_at (i := 2) (v := ?_) rfl (by kernel_rfl) (by rfl) (fun _ _ _ h => h) hHeld (fun w1 hw1 => ?_) ?_
      rotate_left 1
      · skip
        go_simp
        (try (first | with_reducible rfl | (apply And.intro <;> rfl)))
      simp only [Act.put, List.setIfInBounds_toArray, List.set_cons_zero, List.set_cons_succ]
      refine crow_at (i := 3) rfl (by kernel_rfl) (by rfl) _ _ rfl _ rfl _ (fun w1 hw1 j v hv => hw1.cell ((HCELLS.out) j v hv) (by simp)) (row_dnS.of HCL.out) (fun _ _ _ h => h) hHeld ?_
      simp only [Act.put, List.setIfInBounds_toArray, List.set_cons_zero, List.set_cons_succ]
      refine run_at (i := 4) (v := ?_) rfl (by kernel_rfl) (by rfl) (fun _ _ _ h => h) hHeld (fun w1 hw1 => ?_) ?_
      rotate_left 1
      · skip
        go_simp
        (try (first | with_reducible rfl | (apply And.intro <;> rfl)))
      simp only [Act.put, List.setIfInBounds_toArray, List.set_cons_zero, List.set_cons_succ]
      refine run_at (i := 5) (v := ?_) rfl (by kernel_rfl) (by rfl) (fun _ _ _ h => h) hHeld (fun w1 hw1 => ?_) ?_
      rotate_left 1
      · skip
        go_simp
        (try (first | with_reducible rfl | (apply And.intro <;> rfl)))
      simp only [Act.put, List.setIfInBounds_toArray, List.set_cons_zero, List.set_cons_succ]
      refine run_at (i := 6) (v := ?_) rfl (by kernel_rfl) (by rfl) (fun _ _ _ h => h) hHeld (fun w1 hw1 => ?_) ?_
      rotate_left 1
      · skip
        go_simp
        (try (first | with_reducible rfl | (apply And.intro <;> rfl)))
      simp only [Act.put, List.setIfInBounds_toArray, List.set_cons_zero, List.set_cons_succ]
      refine crow_at (i := 7) rfl (by kernel_rfl) (by rfl) _ _ rfl _ rfl _ (fun w1 hw1 j v hv => hw1.cell ((HCELLS.out) j v hv) (by simp)) (row_dnS.of HCL.out) (fun _ _ _ h => h) hHeld ?_
      simp only [Act.put, List.setIfInBounds_toArray, List.set_cons_zero, List.set_cons_succ]
      refine neq_at (i := 8) rfl (by kernel_rfl) (by rfl) _ _ _ _ rfl _ _ rfl rfl _ (by kernel_rfl) (HEQ.out) (fun _ _ _ h => h) hHeld ?_
      simp only [Act.put, List.setIfInBounds_toArray, List.set_cons_zero, List.set_cons_succ]
      refine wpAnyH_done (by kernel_rfl) ?_ _
      have HF9 : Hid (Fr [] w w9) := Lib.hid (HF.out.and hHeld (by simp))
      clear hHeld HCELLS HCL
      clear HOK
      go_wp2
      go_roundw
      case rel => exact ⟨j + 1, by have := HJN.out; omega, by go_num, HF9⟩
      case measure => have := HJN.out; simp [intOf]; omega
    · have hjn : n = j := by omega
      subst hjn
      clear hlt hj
      go_wp2
      go_ret
      exact ⟨rfl, HF.out⟩

set_option maxHeartbeats 4000000 in
theorem tombs_self (A : Option Addr) (n d : Nat) (l : List Wtb) (w : World) (hl : Lst 2 Wtb.cells (fun w v => v.Ok w []) w A n l) (hn : n ≤ 1000) :
    Calls Tryd.prog 21 #[.slice A n d, .slice A n d] w fun e w' => e = .returned (.bool true) ∧ Fr [] w w' := by
  have HL := Lib.hid hl
  have HN := Lib.hid hn
  have hn1 : (n : Int) ≤ 9223372036854775807 := by omega
  have hnn : ((n : Int) != (n : Int)) = false := by simp
  clear hl hn
  go_enter Tryd.func21, Tryd.ntmps21
  go_wp2_with fail
  clear hnn
  go_loopw [13] (fun i wr => ∃ j : Nat, j ≤ n ∧ i = .int .i64 j ∧ Hid (Fr [] w wr)) (fun i _ => n - (intOf i).toNat)
  case atStart => exact ⟨0, by omega, rfl, Lib.hid (Fr.refl _ _)⟩
  case round =>
    obtain ⟨j, hj, rfl, HF⟩ := hrel
    by_cases hlt : j < n
    · obtain ⟨ad, v, hA, hv, hcl, hok, hcells⟩ := HL.out.at (i := j) hlt
      subst hA
      have HCELLS : Hid (∀ i u, (Wtb.cells v)[i]? = some u → wr.cell? ((ad.add (j * 2)).add i) = some u) := Lib.hid (fun i u hu => HF.out.cell (hcells i u hu) (by simp))
      have HCL := Lib.hid hcl
      have HOK := Lib.hid hok
      have HJN := Lib.hid hlt
      have hj0 : (0 : Int) ≤ j := by omega
      clear hcells hcl hok hv
      have HC0 : Hid (wr.cell? (ad.add (j * 2)) = some (.int .i64 v.i)) := Lib.hid (by have h := HCELLS.out 0 _ rfl; simpa [Addr.add] using h)
      have HC1 : Hid (wr.cell? ⟨(ad.add (j * 2)).block, (ad.add (j * 2)).off + 1, none⟩ = some (.slice v.A v.n v.d)) := Lib.hid (by have h := HCELLS.out 1 _ rfl; rw [fld_add] at h; exact h)
      have HII : Hid ((v.i != v.i) = false) := Lib.hid (by simp)
      go_upto_region 6 with (fail)
      refine wp_region_held_drew (S := Fr [] wr) (by kernel_rfl) (Fr.drew (Fr.refl _ wr)) (fun hHeld => ?_)
      generalize wr.drew = wd at *
      refine run_at (i := 0) (v := ?_) rfl (by kernel_rfl) (by rfl) (fun _ _ _ h => h) hHeld (fun w1 hw1 => ?_) ?_
      rotate_left 1
      · skip
        go_simp
        (try (first | with_reducible rfl | (apply And.intro <;> rfl)))
      simp only [Act.put, List.setIfInBounds_toArray, List.set_cons_zero, List.set_cons_succ]
      refine run_at (i := 1) (v := ?_) rfl (by kernel_rfl) (by rfl) (fun _ _ _ h => h) hHeld (fun w1 hw1 => ?_) ?_
      rotate_left 1
      · skip
        go_simp
        (try (first | with_reducible rfl | (apply And.intro <;> rfl)))
      simp only [Act.put, List.setIfInBounds_toArray, List.set_cons_zero, List.set_cons_succ]
      refine run_at (i := 2) (v := ?_) rfl (by kernel_rfl) (by rfl) (fun _ _ _ h => h) hHeld (fun w1 hw1 => ?_) ?_
      rotate_left 1
      · skip
        go_simp
        (try (first | with_reducible rfl | (apply And.intro <;> rfl)))
      simp only [Act.put, List.setIfInBounds_toArray, List.set_cons_zero, List.set_cons_succ]
      refine run_at (i := 3) (v := ?_) rfl (by kernel_rfl) (by rfl) (fun _ _ _ h => h) hHeld (fun w1 hw1 => ?_) ?_
      rotate_left 1
      · skip
        go_simp
        (try (first | with_reducible rfl | (apply And.intro <;> rfl)))
      simp only [Act.put, List.setIfInBounds_toArray, List.set_cons_zero, List.set_cons_succ]
      refine run_at (i := 4) (v := ?_) rfl (by kernel_rfl) (by rfl) (fun _ _ _ h => h) hHeld (fun w1 hw1 => ?_) ?_
      rotate_left 1
      · skip
        have hcw0 := hw1.cell (HC0.out) (by first | (simp; done) | exact HNS.out | exact HNW.out | (intro hm; have hlt := HSB.out _ hm; (try dsimp only at hlt); omega))
        go_simp
        (try (first | with_reducible rfl | (apply And.intro <;> rfl)))
      simp only [Act.put, List.setIfInBounds_toArray, List.set_cons_zero, List.set_cons_succ]
      refine run_at (i := 5) (v := ?_) rfl (by kernel_rfl) (by rfl) (fun _ _ _ h => h) hHeld (fun w1 hw1 => ?_) ?_
      rotate_left 1
      · skip
        go_simp
        (try (first | with_reducible rfl | (apply And.intro <;> rfl)))
      simp only [Act.put, List.setIfInBounds_toArray, List.set_cons_zero, List.set_cons_succ]
      refine run_at (i := 6) (v := ?_) rfl (by kernel_rfl) (by rfl) (fun _ _ _ h => h) hHeld (fun w1 hw1 => ?_) ?_
      rotate_left 1
      · skip
        go_simp
        (try (first | with_reducible rfl | (apply And.intro <;> rfl)))
      simp only [Act.put, List.setIfInBounds_toArray, List.set_cons_zero, List.set_cons_succ]
      refine run_at (i := 7) (v := ?_) rfl (by kernel_rfl) (by rfl) (fun _ _ _ h => h) hHeld (fun w1 hw1 => ?_) ?_
      rotate_left 1
      · skip
        go_simp
        (try (first | with_reducible rfl | (apply And.intro <;> rfl)))
      simp only [Act.put, List.setIfInBounds_toArray, List.set_cons_zero, List.set_cons_succ]
      refine run_at (i := 8) (v := ?_) rfl (by kernel_rfl) (by rfl) (fun _ _ _ h => h) hHeld (fun w1 hw1 => ?_) ?_
      rotate_left 1
      · skip
        go_simp
        (try (first | with_reducible rfl | (apply And.intro <;> rfl)))
      simp only [Act.put, List.setIfInBounds_toArray, List.set_cons_zero, List.set_cons_succ]
      refine run_at (i := 9) (v := ?_) rfl (by kernel_rfl) (by rfl) (fun _ _ _ h => h) hHeld (fun w1 hw1 => ?_) ?_
      rotate_left 1
      · skip
        have hcw0 := hw1.cell (HC0.out) (by first | (simp; done) | exact HNS.out | exact HNW.out | (intro hm; have hlt := HSB.out _ hm; (try dsimp only at hlt); omega))
        go_simp
        (try (first | with_reducible rfl | (apply And.intro <;> rfl)))
      simp only [Act.put, List.setIfInBounds_toArray, List.set_cons_zero, List.set_cons_succ]
      refine run_at (i := 10) (v := ?_) rfl (by kernel_rfl) (by rfl) (fun _ _ _ h => h) hHeld (fun w1 hw1 => ?_) ?_
      rotate_left 1
      · skip
        go_simp
        (try (first | with_reducible rfl | (apply And.intro <;> rfl)))
      simp only [Act.put, List.setIfInBounds_toArray, List.set_cons_zero, List.set_cons_succ]
      try rw [HII.out]
      refine run_at (i := 11) (v := ?_) rfl (by kernel_rfl) (by rfl) (fun _ _ _ h => h) hHeld (fun w1 hw1 => ?_) ?_
      rotate_left 1
      · skip
        go_simp
        (try (first | with_reducible rfl | (apply And.intro <;> rfl)))
      simp only [Act.put, List.setIfInBounds_toArray, List.set_cons_zero, List.set_cons_succ]
      refine run_at (i := 12) (v := ?_) rfl (by kernel_rfl) (by rfl) (fun _ _ _ h => h) hHeld (fun w1 hw1 => ?_) ?_
      rotate_left 1
      · skip
        go_simp
        (try (first | with_reducible rfl | (apply And.intro <;> rfl)))
      simp only [Act.put, List.setIfInBounds_toArray, List.set_cons_zero, List.set_cons_succ]
      refine run_at (i := 13) (v := ?_) rfl (by kernel_rfl) (by rfl) (fun _ _ _ h => h) hHeld (fun w1 hw1 => ?_) ?_
      rotate_left 1
      · skip
        go_simp
        (try (first | with_reducible rfl | (apply And.intro <;> rfl)))
      simp only [Act.put, List.setIfInBounds_toArray, List.set_cons_zero, List.set_cons_succ]
      refine run_at (i := 14) (v := ?_) rfl (by kernel_rfl) (by rfl) (fun _ _ _ h => h) hHeld (fun w1 hw1 => ?_) ?_
      rotate_left 1
      · skip
        go_simp
        (try (first | with_reducible rfl | (apply And.intro <;> rfl)))
      simp only [Act.put, List.setIfInBounds_toArray, List.set_cons_zero, List.set_cons_succ]
      refine run_at (i := 15) (v := ?_) rfl (by kernel_rfl) (by rfl) (fun _ _ _ h => h) hHeld (fun w1 hw1 => ?_) ?_
      rotate_left 1
      · skip
        go_simp
        (try (first | with_reducible rfl | (apply And.intro <;> rfl)))
      simp only [Act.put, List.setIfInBounds_toArray, List.set_cons_zero, List.set_cons_succ]
      refine run_at (i := 16) (v := ?_) rfl (by kernel_rfl) (by rfl) (fun _ _ _ h => h) hHeld (fun w1 hw1 => ?_) ?_
      rotate_left 1
      · skip
        have hcw0 := hw1.cell (HC1.out) (by first | (simp; done) | exact HNS.out | exact HNW.out | (intro hm; have hlt := HSB.out _ hm; (try dsimp only at hlt); omega))
        go_simp
        (try (first | with_reducible rfl | (apply And.intro <;> rfl)))
      simp only [Act.put, List.setIfInBounds_toArray, List.set_cons_zero, List.set_cons_succ]
      refine run_at (i := 17) (v := ?_) rfl (by kernel_rfl) (by rfl) (fun _ _ _ h => h) hHeld (fun w1 hw1 => ?_) ?_
      rotate_left 1
      · skip
        go_simp
        (try (first | with_reducible rfl | (apply And.intro <;> rfl)))
      simp only [Act.put, List.setIfInBounds_toArray, List.set_cons_zero, List.set_cons_succ]
      refine run_at (i := 18) (v := ?_) rfl (by kernel_rfl) (by rfl) (fun _ _ _ h => h) hHeld (fun w1 hw1 => ?_) ?_
      rotate_left 1
      · skip
        go_simp
        (try (first | with_reducible rfl | (apply And.intro <;> rfl)))
      simp only [Act.put, List.setIfInBounds_toArray, List.set_cons_zero, List.set_cons_succ]
      refine run_at (i := 19) (v := ?_) rfl (by kernel_rfl) (by rfl) (fun _ _ _ h => h) hHeld (fun w1 hw1 => ?_) ?_
      rotate_left 1
      · skip
        go_simp
        (try (first | with_reducible rfl | (apply And.intro <;> rfl)))
      simp only [Act.put, List.setIfInBounds_toArray, List.set_cons_zero, List.set_cons_succ]
      refine run_at (i := 20) (v := ?_) rfl (by kernel_rfl) (by rfl) (fun _ _ _ h => h) hHeld (fun w1 hw1 => ?_) ?_
      rotate_left 1
      · skip
        go_simp
        (try (first | with_reducible rfl | (apply And.intro <;> rfl)))
      simp only [Act.put, List.setIfInBounds_toArray, List.set_cons_zero, List.set_cons_succ]
      refine run_at (i := 21) (v := ?_) rfl (by kernel_rfl) (by rfl) (fun _ _ _ h => h) hHeld (fun w1 hw1 => ?_) ?_
      rotate_left 1
      · skip
        have hcw0 := hw1.cell (HC1.out) (by first | (simp; done) | exact HNS.out | exact HNW.out | (intro hm; have hlt := HSB.out _ hm; (try dsimp only at hlt); omega))
        go_simp
        (try (first | with_reducible rfl | (apply And.intro <;> rfl)))
      simp only [Act.put, List.setIfInBounds_toArray, List.set_cons_zero, List.set_cons_succ]
      refine call_at (i := 22) (f := ?_) (args := ?_) rfl (by kernel_rfl) (by rfl) ?_ ?_
      rotate_left 2
      · go_simp
        (try (first | with_reducible rfl | (apply And.intro <;> rfl)))
      refine (denies_self v.A v.n v.d v.l wd (HOK.out.l.keep' (HF.out.and hHeld (by simp)) (by simp) (fun _ _ h => h)) (by have := HOK.out.n; omega)).mono ?_
      rintro e_ w9 ⟨rfl, hf⟩
      refine ⟨_, rfl, hHeld.and hf (by simp), fun hHeld => ?_⟩
      clear hf
      simp only [Act.put, List.setIfInBounds_toArray, List.set_cons_zero, List.set_cons_succ]
      refine run_at (i := 23) (v := ?_) rfl (by kernel_rfl) (by rfl) (fun _ _ _ h => h) hHeld (fun w1 hw1 => ?_) ?_
      rotate_left 1
      · skip
        go_simp
        (try (first | with_reducible rfl | (apply And.intro <;> rfl)))
      simp only [Act.put, List.setIfInBounds_toArray, List.set_cons_zero, List.set_cons_succ]
      refine run_at (i := 24) (v := ?_) rfl (by kernel_rfl) (by rfl) (fun _ _ _ h => h) hHeld (fun w1 hw1 => ?_) ?_
      rotate_left 1
      · skip
        go_simp
        (try (first | with_reducible rfl | (apply And.intro <;> rfl)))
      simp only [Act.put, List.setIfInBounds_toArray, List.set_cons_zero, List.set_cons_succ]
      refine wpAnyH_done (by kernel_rfl) ?_ _
      have HF9 : Hid (Fr [] w w9) := Lib.hid (HF.out.and hHeld (by simp))
      clear hHeld HCELLS HCL HC0 HC1
      clear HOK
      go_wp2
      go_roundw
      case rel => exact ⟨j + 1, by have := HJN.out; omega, by go_num, HF9⟩
      case measure => have := HJN.out; simp [intOf]; omega
    · have hjn : n = j := by omega
      subst hjn
      clear hlt hj
      go_wp2
      go_ret
      exact ⟨rfl, HF.out⟩
end Go.Proofs.YtjpmiigoglcoaaaDoor

namespace Go.Proofs.YtjpmiigoglcoaaaDoor
open Go.RowKit
set_option maxRecDepth 100000
theorem openings_len (A B : Option Addr) (n m d e : Nat) (hn : n ≤ 1000) (hm : m ≤ 1000) (hnm : n ≠ m) (w : World) : Calls Tryd.prog 20 #[.slice A n d, .slice B m e] w fun e w' => e = .returned (.bool false) ∧ w = w' := by
  have hnn : ((n : Int) != (m : Int)) = true := by simp; omega
  go_enter Tryd.func20, Tryd.ntmps20
  go_wp2
  go_ret
  exact ⟨rfl, rfl⟩
theorem tombs_len (A B : Option Addr) (n m d e : Nat) (hn : n ≤ 1000) (hm : m ≤ 1000) (hnm : n ≠ m) (w : World) : Calls Tryd.prog 21 #[.slice A n d, .slice B m e] w fun e w' => e = .returned (.bool false) ∧ w = w' := by
  have hnn : ((n : Int) != (m : Int)) = true := by simp; omega
  go_enter Tryd.func21, Tryd.ntmps21
  go_wp2
  go_ret
  exact ⟨rfl, rfl⟩

set_option maxHeartbeats 2000000 in
theorem kb_time (x y : Wba) (w : World) (hx : x.Ok w []) (he : y.e = x.e) (ht : y.t ≠ x.t) (hy : y.n2 ≤ 5 ∧ y.n3 ≤ 5 ∧ y.n ≤ 4) (C D : List Value) (hC : x.cells = C) (hD : y.cells = D) :
    Calls Tryd.prog 7 #[.agg C.toArray, .agg D.toArray] w fun e w' => e = .returned (.bool false) ∧ Fr [] w w' := by
  obtain ⟨wa, hwa⟩ : ∃ wa, wa = (w.alloc (Obj.cells C.toArray 27)).alloc (Obj.cells D.toArray 27) := ⟨_, rfl⟩
  have hf0 : Fr [] w wa := by rw [hwa]; exact ((Fr.refl [] w).alloc _).alloc _
  have hb0 : Blk wa w.heap.size 27 x.cells.toArray := by rw [hwa, hC]; exact blk_alloc (Blk.new _ _ _)
  have hb1 : Blk wa (w.heap.size + 1) 27 y.cells.toArray := by
    have := Blk.new (w.alloc (Obj.cells C.toArray 27)) 27 D.toArray
    rw [hwa, hD]
    simpa using this
  have hr0 := hb0.range
  have hr1 := hb1.range
  have h00 : wa.cell? ⟨w.heap.size, 0, none⟩ = some (.int .i64 x.e) := by have h := hr0 0 _ rfl; simpa using h
  have h01 : wa.cell? ⟨w.heap.size, 1, none⟩ = some (.int .u64 (x.t : Int)) := by have h := hr0 1 _ rfl; simpa using h
  have h02 : wa.cell? ⟨w.heap.size, 2, none⟩ = some (.slice x.A x.n x.d) := by have h := hr0 2 _ rfl; simpa using h
  have h03 : wa.cell? ⟨w.heap.size, 3, none⟩ = some (.slice x.A2 x.n2 x.d2) := by have h := hr0 3 _ rfl; simpa using h
  have h04 : wa.cell? ⟨w.heap.size, 4, none⟩ = some (.slice x.A3 x.n3 x.d3) := by have h := hr0 4 _ rfl; simpa using h
  have h10 : wa.cell? ⟨w.heap.size + 1, 0, none⟩ = some (.int .i64 x.e) := by have h := hr1 0 _ rfl; rw [← he]; simpa using h
  have h11 : wa.cell? ⟨w.heap.size + 1, 1, none⟩ = some (.int .u64 (y.t : Int)) := by have h := hr1 1 _ rfl; simpa using h
  have h12 : wa.cell? ⟨w.heap.size + 1, 2, none⟩ = some (.slice y.A y.n y.d) := by have h := hr1 2 _ rfl; simpa using h
  have h13 : wa.cell? ⟨w.heap.size + 1, 3, none⟩ = some (.slice y.A2 y.n2 y.d2) := by have h := hr1 3 _ rfl; simpa using h
  have h14 : wa.cell? ⟨w.heap.size + 1, 4, none⟩ = some (.slice y.A3 y.n3 y.d3) := by have h := hr1 4 _ rfl; simpa using h
  have HF0 := Lib.hid hf0
  have HWA := Lib.hid hwa
  have HX := Lib.hid hx
  have HY := Lib.hid hy
  have hee : (x.e != x.e) = false := by simp
  have htt : (((x.t : Nat) : Int) != (y.t : Int)) = true := by simp; omega
  clear ht
  clear hwa hf0 hb0 hb1 hr0 hr1 hx hC hD he hy
  go_enter Tryd.func7, Tryd.ntmps7
  go_upto_region 1 with (fail)
  change Code.wp _ _ _ _ ((w.alloc (Obj.cells C.toArray 27)).alloc (Obj.cells D.toArray 27))
  rw [← HWA.out]
  go_wp2
  go_ret
  exact ⟨rfl, HF0.out⟩

set_option maxHeartbeats 2000000 in
theorem kb_prom (x y : Wba) (w : World) (hx : x.Ok w []) (he : y.e = x.e) (ht : y.t = x.t) (hn : y.n ≠ x.n) (hy : y.n2 ≤ 5 ∧ y.n3 ≤ 5 ∧ y.n ≤ 4) (C D : List Value) (hC : x.cells = C) (hD : y.cells = D) :
    Calls Tryd.prog 7 #[.agg C.toArray, .agg D.toArray] w fun e w' => e = .returned (.bool false) ∧ Fr [] w w' := by
  obtain ⟨wa, hwa⟩ : ∃ wa, wa = (w.alloc (Obj.cells C.toArray 27)).alloc (Obj.cells D.toArray 27) := ⟨_, rfl⟩
  have hf0 : Fr [] w wa := by rw [hwa]; exact ((Fr.refl [] w).alloc _).alloc _
  have hb0 : Blk wa w.heap.size 27 x.cells.toArray := by rw [hwa, hC]; exact blk_alloc (Blk.new _ _ _)
  have hb1 : Blk wa (w.heap.size + 1) 27 y.cells.toArray := by
    have := Blk.new (w.alloc (Obj.cells C.toArray 27)) 27 D.toArray
    rw [hwa, hD]
    simpa using this
  have hr0 := hb0.range
  have hr1 := hb1.range
  have h00 : wa.cell? ⟨w.heap.size, 0, none⟩ = some (.int .i64 x.e) := by have h := hr0 0 _ rfl; simpa using h
  have h01 : wa.cell? ⟨w.heap.size, 1, none⟩ = some (.int .u64 (x.t : Int)) := by have h := hr0 1 _ rfl; simpa using h
  have h02 : wa.cell? ⟨w.heap.size, 2, none⟩ = some (.slice x.A x.n x.d) := by have h := hr0 2 _ rfl; simpa using h
  have h03 : wa.cell? ⟨w.heap.size, 3, none⟩ = some (.slice x.A2 x.n2 x.d2) := by have h := hr0 3 _ rfl; simpa using h
  have h04 : wa.cell? ⟨w.heap.size, 4, none⟩ = some (.slice x.A3 x.n3 x.d3) := by have h := hr0 4 _ rfl; simpa using h
  have h10 : wa.cell? ⟨w.heap.size + 1, 0, none⟩ = some (.int .i64 x.e) := by have h := hr1 0 _ rfl; rw [← he]; simpa using h
  have h11 : wa.cell? ⟨w.heap.size + 1, 1, none⟩ = some (.int .u64 (y.t : Int)) := by have h := hr1 1 _ rfl; simpa using h
  have h12 : wa.cell? ⟨w.heap.size + 1, 2, none⟩ = some (.slice y.A y.n y.d) := by have h := hr1 2 _ rfl; simpa using h
  have h13 : wa.cell? ⟨w.heap.size + 1, 3, none⟩ = some (.slice y.A2 y.n2 y.d2) := by have h := hr1 3 _ rfl; simpa using h
  have h14 : wa.cell? ⟨w.heap.size + 1, 4, none⟩ = some (.slice y.A3 y.n3 y.d3) := by have h := hr1 4 _ rfl; simpa using h
  have HF0 := Lib.hid hf0
  have HWA := Lib.hid hwa
  have HX := Lib.hid hx
  have HY := Lib.hid hy
  have hee : (x.e != x.e) = false := by simp
  have htt : (((x.t : Nat) : Int) != (y.t : Int)) = false := by rw [ht]; simp
  have hnn : (((x.n : Nat) : Int) != (y.n : Int)) = true := by simp; omega
  clear ht hn
  clear hwa hf0 hb0 hb1 hr0 hr1 hx hC hD he hy
  go_enter Tryd.func7, Tryd.ntmps7
  go_upto_region 1 with (fail)
  change Code.wp _ _ _ _ ((w.alloc (Obj.cells C.toArray 27)).alloc (Obj.cells D.toArray 27))
  rw [← HWA.out]
  go_wp2
  go_ret
  exact ⟨rfl, HF0.out⟩

set_option maxHeartbeats 2000000 in
theorem kb_open (x y : Wba) (w : World) (hx : x.Ok w []) (he : y.e = x.e) (ht : y.t = x.t) (hn : y.n = x.n) (h2 : y.n2 ≠ x.n2) (hy : y.n2 ≤ 5 ∧ y.n3 ≤ 5 ∧ y.n ≤ 4) (C D : List Value) (hC : x.cells = C) (hD : y.cells = D) :
    Calls Tryd.prog 7 #[.agg C.toArray, .agg D.toArray] w fun e w' => e = .returned (.bool false) ∧ Fr [] w w' := by
  obtain ⟨wa, hwa⟩ : ∃ wa, wa = (w.alloc (Obj.cells C.toArray 27)).alloc (Obj.cells D.toArray 27) := ⟨_, rfl⟩
  have hf0 : Fr [] w wa := by rw [hwa]; exact ((Fr.refl [] w).alloc _).alloc _
  have hb0 : Blk wa w.heap.size 27 x.cells.toArray := by rw [hwa, hC]; exact blk_alloc (Blk.new _ _ _)
  have hb1 : Blk wa (w.heap.size + 1) 27 y.cells.toArray := by
    have := Blk.new (w.alloc (Obj.cells C.toArray 27)) 27 D.toArray
    rw [hwa, hD]
    simpa using this
  have hr0 := hb0.range
  have hr1 := hb1.range
  have h00 : wa.cell? ⟨w.heap.size, 0, none⟩ = some (.int .i64 x.e) := by have h := hr0 0 _ rfl; simpa using h
  have h01 : wa.cell? ⟨w.heap.size, 1, none⟩ = some (.int .u64 (x.t : Int)) := by have h := hr0 1 _ rfl; simpa using h
  have h02 : wa.cell? ⟨w.heap.size, 2, none⟩ = some (.slice x.A x.n x.d) := by have h := hr0 2 _ rfl; simpa using h
  have h03 : wa.cell? ⟨w.heap.size, 3, none⟩ = some (.slice x.A2 x.n2 x.d2) := by have h := hr0 3 _ rfl; simpa using h
  have h04 : wa.cell? ⟨w.heap.size, 4, none⟩ = some (.slice x.A3 x.n3 x.d3) := by have h := hr0 4 _ rfl; simpa using h
  have h10 : wa.cell? ⟨w.heap.size + 1, 0, none⟩ = some (.int .i64 x.e) := by have h := hr1 0 _ rfl; rw [← he]; simpa using h
  have h11 : wa.cell? ⟨w.heap.size + 1, 1, none⟩ = some (.int .u64 (y.t : Int)) := by have h := hr1 1 _ rfl; simpa using h
  have h12 : wa.cell? ⟨w.heap.size + 1, 2, none⟩ = some (.slice y.A y.n y.d) := by have h := hr1 2 _ rfl; simpa using h
  have h13 : wa.cell? ⟨w.heap.size + 1, 3, none⟩ = some (.slice y.A2 y.n2 y.d2) := by have h := hr1 3 _ rfl; simpa using h
  have h14 : wa.cell? ⟨w.heap.size + 1, 4, none⟩ = some (.slice y.A3 y.n3 y.d3) := by have h := hr1 4 _ rfl; simpa using h
  have HF0 := Lib.hid hf0
  have HWA := Lib.hid hwa
  have HX := Lib.hid hx
  have HY := Lib.hid hy
  have hee : (x.e != x.e) = false := by simp
  have htt : (((x.t : Nat) : Int) != (y.t : Int)) = false := by rw [ht]; simp
  have hnn : (((x.n : Nat) : Int) != (y.n : Int)) = false := by rw [hn]; simp
  have H2 := Lib.hid h2
  clear ht hn h2
  clear hwa hf0 hb0 hb1 hr0 hr1 hx hC hD he hy
  go_enter Tryd.func7, Tryd.ntmps7
  go_upto_region 1 with (fail)
  change Code.wp _ _ _ _ ((w.alloc (Obj.cells C.toArray 27)).alloc (Obj.cells D.toArray 27))
  rw [← HWA.out]
  go_wp2_with fail
  refine (openings_len x.A2 y.A2 x.n2 y.n2 x.d2 y.d2 (by have := HX.out.n2; omega) (by have := HY.out; omega) (fun e => H2.out e.symm) wa).mono ?_
  rintro e_ w1 ⟨rfl, rfl⟩
  go_wp2
  go_ret
  exact ⟨rfl, HF0.out⟩

set_option maxHeartbeats 2000000 in
theorem kb_tomb (x y : Wba) (w : World) (hx : x.Ok w []) (he : y.e = x.e) (ht : y.t = x.t) (hn : y.n = x.n) (a2 : y.A2 = x.A2 ∧ y.n2 = x.n2 ∧ y.d2 = x.d2) (h3 : y.n3 ≠ x.n3) (hy : y.n2 ≤ 5 ∧ y.n3 ≤ 5 ∧ y.n ≤ 4) (C D : List Value) (hC : x.cells = C) (hD : y.cells = D) :
    Calls Tryd.prog 7 #[.agg C.toArray, .agg D.toArray] w fun e w' => e = .returned (.bool false) ∧ Fr [] w w' := by
  obtain ⟨wa, hwa⟩ : ∃ wa, wa = (w.alloc (Obj.cells C.toArray 27)).alloc (Obj.cells D.toArray 27) := ⟨_, rfl⟩
  have hf0 : Fr [] w wa := by rw [hwa]; exact ((Fr.refl [] w).alloc _).alloc _
  have hb0 : Blk wa w.heap.size 27 x.cells.toArray := by rw [hwa, hC]; exact blk_alloc (Blk.new _ _ _)
  have hb1 : Blk wa (w.heap.size + 1) 27 y.cells.toArray := by
    have := Blk.new (w.alloc (Obj.cells C.toArray 27)) 27 D.toArray
    rw [hwa, hD]
    simpa using this
  have hr0 := hb0.range
  have hr1 := hb1.range
  have h00 : wa.cell? ⟨w.heap.size, 0, none⟩ = some (.int .i64 x.e) := by have h := hr0 0 _ rfl; simpa using h
  have h01 : wa.cell? ⟨w.heap.size, 1, none⟩ = some (.int .u64 (x.t : Int)) := by have h := hr0 1 _ rfl; simpa using h
  have h02 : wa.cell? ⟨w.heap.size, 2, none⟩ = some (.slice x.A x.n x.d) := by have h := hr0 2 _ rfl; simpa using h
  have h03 : wa.cell? ⟨w.heap.size, 3, none⟩ = some (.slice x.A2 x.n2 x.d2) := by have h := hr0 3 _ rfl; simpa using h
  have h04 : wa.cell? ⟨w.heap.size, 4, none⟩ = some (.slice x.A3 x.n3 x.d3) := by have h := hr0 4 _ rfl; simpa using h
  have h10 : wa.cell? ⟨w.heap.size + 1, 0, none⟩ = some (.int .i64 x.e) := by have h := hr1 0 _ rfl; rw [← he]; simpa using h
  have h11 : wa.cell? ⟨w.heap.size + 1, 1, none⟩ = some (.int .u64 (y.t : Int)) := by have h := hr1 1 _ rfl; simpa using h
  have h12 : wa.cell? ⟨w.heap.size + 1, 2, none⟩ = some (.slice y.A y.n y.d) := by have h := hr1 2 _ rfl; simpa using h
  have h13 : wa.cell? ⟨w.heap.size + 1, 3, none⟩ = some (.slice y.A2 y.n2 y.d2) := by have h := hr1 3 _ rfl; simpa using h
  have h14 : wa.cell? ⟨w.heap.size + 1, 4, none⟩ = some (.slice y.A3 y.n3 y.d3) := by have h := hr1 4 _ rfl; simpa using h
  have HF0 := Lib.hid hf0
  have HWA := Lib.hid hwa
  have HX := Lib.hid hx
  have HY := Lib.hid hy
  have hee : (x.e != x.e) = false := by simp
  have htt : (((x.t : Nat) : Int) != (y.t : Int)) = false := by rw [ht]; simp
  have hnn : (((x.n : Nat) : Int) != (y.n : Int)) = false := by rw [hn]; simp
  rw [a2.1, a2.2.1, a2.2.2] at h13
  have H3 := Lib.hid h3
  clear ht hn h3 a2
  clear hwa hf0 hb0 hb1 hr0 hr1 hx hC hD he hy
  go_enter Tryd.func7, Tryd.ntmps7
  go_upto_region 1 with (fail)
  change Code.wp _ _ _ _ ((w.alloc (Obj.cells C.toArray 27)).alloc (Obj.cells D.toArray 27))
  rw [← HWA.out]
  go_wp2_with fail
  refine (openings_self x.A2 x.n2 x.d2 x.l2 wa (HX.out.l2.keep' HF0.out (by simp) (fun _ _ h => Wop.Ok.keep (S' := []) h HF0.out (by simp))) (by have := HX.out.n2; omega)).mono ?_
  rintro e_ w1 ⟨rfl, hf1⟩
  have k04 := hf1.cell h04 (by simp)
  have k14 := hf1.cell h14 (by simp)
  have HF1 : Hid (Fr [] w w1) := Lib.hid (HF0.out.and hf1 (by simp))
  clear hf1
  go_wp2_with fail
  refine (tombs_len x.A3 y.A3 x.n3 y.n3 x.d3 y.d3 (by have := HX.out.n3; omega) (by have := HY.out; omega) (fun e => H3.out e.symm) w1).mono ?_
  rintro e_ w2 ⟨rfl, rfl⟩
  go_wp2
  go_ret
  exact ⟨rfl, HF1.out⟩

set_option maxHeartbeats 2000000 in
theorem kb_same (x y : Wba) (w : World) (hx : x.Ok w []) (he : y.e = x.e) (ht : y.t = x.t) (hn : y.n = x.n) (hz : x.n = 0) (a2 : y.A2 = x.A2 ∧ y.n2 = x.n2 ∧ y.d2 = x.d2) (a3 : y.A3 = x.A3 ∧ y.n3 = x.n3 ∧ y.d3 = x.d3) (hy : y.n2 ≤ 5 ∧ y.n3 ≤ 5 ∧ y.n ≤ 4) (C D : List Value) (hC : x.cells = C) (hD : y.cells = D) :
    Calls Tryd.prog 7 #[.agg C.toArray, .agg D.toArray] w fun e w' => e = .returned (.bool true) ∧ Fr [] w w' := by
  obtain ⟨wa, hwa⟩ : ∃ wa, wa = (w.alloc (Obj.cells C.toArray 27)).alloc (Obj.cells D.toArray 27) := ⟨_, rfl⟩
  have hf0 : Fr [] w wa := by rw [hwa]; exact ((Fr.refl [] w).alloc _).alloc _
  have hb0 : Blk wa w.heap.size 27 x.cells.toArray := by rw [hwa, hC]; exact blk_alloc (Blk.new _ _ _)
  have hb1 : Blk wa (w.heap.size + 1) 27 y.cells.toArray := by
    have := Blk.new (w.alloc (Obj.cells C.toArray 27)) 27 D.toArray
    rw [hwa, hD]
    simpa using this
  have hr0 := hb0.range
  have hr1 := hb1.range
  have h00 : wa.cell? ⟨w.heap.size, 0, none⟩ = some (.int .i64 x.e) := by have h := hr0 0 _ rfl; simpa using h
  have h01 : wa.cell? ⟨w.heap.size, 1, none⟩ = some (.int .u64 (x.t : Int)) := by have h := hr0 1 _ rfl; simpa using h
  have h02 : wa.cell? ⟨w.heap.size, 2, none⟩ = some (.slice x.A x.n x.d) := by have h := hr0 2 _ rfl; simpa using h
  have h03 : wa.cell? ⟨w.heap.size, 3, none⟩ = some (.slice x.A2 x.n2 x.d2) := by have h := hr0 3 _ rfl; simpa using h
  have h04 : wa.cell? ⟨w.heap.size, 4, none⟩ = some (.slice x.A3 x.n3 x.d3) := by have h := hr0 4 _ rfl; simpa using h
  have h10 : wa.cell? ⟨w.heap.size + 1, 0, none⟩ = some (.int .i64 x.e) := by have h := hr1 0 _ rfl; rw [← he]; simpa using h
  have h11 : wa.cell? ⟨w.heap.size + 1, 1, none⟩ = some (.int .u64 (y.t : Int)) := by have h := hr1 1 _ rfl; simpa using h
  have h12 : wa.cell? ⟨w.heap.size + 1, 2, none⟩ = some (.slice y.A y.n y.d) := by have h := hr1 2 _ rfl; simpa using h
  have h13 : wa.cell? ⟨w.heap.size + 1, 3, none⟩ = some (.slice y.A2 y.n2 y.d2) := by have h := hr1 3 _ rfl; simpa using h
  have h14 : wa.cell? ⟨w.heap.size + 1, 4, none⟩ = some (.slice y.A3 y.n3 y.d3) := by have h := hr1 4 _ rfl; simpa using h
  have HF0 := Lib.hid hf0
  have HWA := Lib.hid hwa
  have HX := Lib.hid hx
  have HY := Lib.hid hy
  have hee : (x.e != x.e) = false := by simp
  have htt : (((x.t : Nat) : Int) != (y.t : Int)) = false := by rw [ht]; simp
  have hnn : (((x.n : Nat) : Int) != (y.n : Int)) = false := by rw [hn]; simp
  rw [a2.1, a2.2.1, a2.2.2] at h13
  rw [a3.1, a3.2.1, a3.2.2] at h14
  rw [hn, hz] at h12
  rw [hz] at h02
  clear ht hn hz a2 a3 hnn
  clear hwa hf0 hb0 hb1 hr0 hr1 hx hC hD he hy
  go_enter Tryd.func7, Tryd.ntmps7
  go_upto_region 1 with (fail)
  change Code.wp _ _ _ _ ((w.alloc (Obj.cells C.toArray 27)).alloc (Obj.cells D.toArray 27))
  rw [← HWA.out]
  go_wp2_with fail
  refine (openings_self x.A2 x.n2 x.d2 x.l2 wa (HX.out.l2.keep' HF0.out (by simp) (fun _ _ h => Wop.Ok.keep (S' := []) h HF0.out (by simp))) (by have := HX.out.n2; omega)).mono ?_
  rintro e_ w1 ⟨rfl, hf1⟩
  have k04 := hf1.cell h04 (by simp)
  have k14 := hf1.cell h14 (by simp)
  have k02 := hf1.cell h02 (by simp)
  have HF1 : Hid (Fr [] w w1) := Lib.hid (HF0.out.and hf1 (by simp))
  clear hf1
  go_wp2_with fail
  refine (tombs_self x.A3 x.n3 x.d3 x.l3 w1 (HX.out.l3.keep' HF1.out (by simp) (fun _ _ h => Wtb.Ok.keep (S' := []) h HF1.out (by simp))) (by have := HX.out.n3; omega)).mono ?_
  rintro e_ w2 ⟨rfl, hf2⟩
  have m02 := hf2.cell k02 (by simp)
  have HF2 : Hid (Fr [] w w2) := Lib.hid (HF1.out.and hf2 (by simp))
  clear hf2
  go_wp2_with fail
  go_loopw [46] (fun i wr => i = .int .i64 0 ∧ wr = w2) (fun _ _ => 0)
  case atStart => exact ⟨rfl, rfl⟩
  case round =>
    obtain ⟨rfl, rfl⟩ := hrel
    go_wp2
    go_ret
    exact ⟨rfl, HF2.out⟩
end Go.Proofs.YtjpmiigoglcoaaaDoor

namespace Go.Proofs.YtjpmiigoglcoaaaDoor
open Go.RowKit
theorem u8_ne {a b : Nat} (ha : a < 256) (hb : b < 256) (h : UInt8.ofNat a = UInt8.ofNat b) : a = b := by
  have := congrArg UInt8.toNat h
  simp only [UInt8.toNat_ofNat'] at this
  omega
theorem enc_prefix : ∀ (a b : Nat) (s t : List UInt8), enc a ++ s = enc b ++ t → a = b ∧ s = t := by
  intro a
  induction a using Nat.strongRecOn with
  | _ a ih =>
    intro b s t h
    by_cases ha : a < 128 <;> by_cases hb : b < 128
    · rw [enc_small ha, enc_small hb] at h
      simp only [List.cons_append, List.nil_append, List.cons.injEq] at h
      exact ⟨u8_ne (by omega) (by omega) h.1, h.2⟩
    · rw [enc_small ha, enc_great hb] at h
      simp only [List.cons_append, List.nil_append, List.cons.injEq] at h
      have := u8_ne (by omega) (by omega) h.1
      omega
    · rw [enc_great ha, enc_small hb] at h
      simp only [List.cons_append, List.nil_append, List.cons.injEq] at h
      have := u8_ne (by omega) (by omega) h.1
      omega
    · rw [enc_great ha, enc_great hb] at h
      simp only [List.cons_append, List.cons.injEq] at h
      have h1 := u8_ne (by omega) (by omega) h.1
      obtain ⟨h2, h3⟩ := ih (a / 128) (by omega) (b / 128) s t h.2
      exact ⟨by omega, h3⟩
end Go.Proofs.YtjpmiigoglcoaaaDoor

namespace Go.Proofs.YtjpmiigoglcoaaaDoor
open Go.RowKit
set_option maxRecDepth 100000
theorem map_idem {α : Type} {f : α → α} (h : ∀ x, f (f x) = f x) (l : List α) : (l.map f).map f = l.map f := by
  rw [List.map_map]
  exact List.map_congr_left (fun x _ => h x)
theorem nce_idem {x y z : Wce} (h : nceR x y) (k : nceR y z) : z.full = y.full := by
  unfold Wce.full
  rw [k.1, k.2, h.1, h.2, ncm_idem, map_idem nst_idem]
theorem flat_all2 {α : Type} {R : α → α → Prop} {full : α → List UInt8} : ∀ {xs ys zs : List α}, All2 R xs ys → All2 R ys zs → (∀ x y z, R x y → R y z → y ∈ ys → z ∈ zs → full z = full y) → zs.flatMap full = ys.flatMap full ∧ zs.length = ys.length
  | [], [], [], _, _, _ => ⟨rfl, rfl⟩
  | x :: xs, y :: ys, z :: zs, h, k, f => by
    obtain ⟨h1, h2⟩ := flat_all2 h.2 k.2 (fun a b c p q hb hc => f a b c p q (by simp [hb]) (by simp [hc]))
    have h3 := f x y z h.1 k.1 (by simp) (by simp)
    exact ⟨by rw [List.flatMap_cons, List.flatMap_cons, h1, h3], by simp [h2]⟩
  | [], [], _ :: _, _, k, _ => k.elim
  | [], _ :: _, _, h, _, _ => h.elim
  | _ :: _, [], _, h, _, _ => h.elim
  | _ :: _, _ :: _, [], _, k, _ => k.elim
theorem list_all2 {α : Type} {R : α → α → Prop} {full : α → List UInt8} {xs ys zs : List α} (h : All2 R xs ys) (k : All2 R ys zs) (f : ∀ x y z, R x y → R y z → y ∈ ys → z ∈ zs → full z = full y) : listL full zs = listL full ys := by
  obtain ⟨h1, h2⟩ := flat_all2 h k f
  unfold listL
  rw [h1, h2]
theorem npr_idem {x y z : Wpr} (h : nprR x y) (k : nprR y z) : z.full = y.full := by
  obtain ⟨h1, h2, h3, h4, h5, h6⟩ := h
  obtain ⟨k1, k2, k3, k4, k5, k6⟩ := k
  unfold Wpr.full Wpr.bare
  rw [list_all2 h6 k6 (fun _ _ _ p q _ _ => nce_idem p q), k1, k2, k3, k4, k5, h1, h2, h4, h5, upI_idem, upI_idem, upI_idem, upI_idem]
theorem nop_idem {x y z : Wop} (h : nopR x y) (k : nopR y z) (hy : y.n = y.p.length) (hz : z.n = z.p.length) : z.full = y.full := by
  obtain ⟨h1, h2, h3⟩ := h
  obtain ⟨k1, k2, k3⟩ := k
  unfold Wop.full
  rw [hy, hz, k1, k2, k3, h1, h2, upI_idem, List.take_take]
  rfl
theorem ntb_idem {x y z : Wtb} (h : ntbR x y) (k : ntbR y z) : z.full = y.full := by
  unfold Wtb.full
  rw [k.1, k.2, h.1, h.2, upI_idem, map_idem ndn_idem]
/-- made nice again a batch has the same bytes -/
theorem nba_idem {x y z : Wba} {w1 w2 : World} {S T : List Nat} (h : nbaR x y) (k : nbaR y z) (hy : y.Ok w1 S) (hz : z.Ok w2 T) : z.full = y.full := by
  obtain ⟨h1, h2, h3, h4, h5⟩ := h
  obtain ⟨k1, k2, k3, k4, k5⟩ := k
  unfold Wba.full
  rw [list_all2 h3 k3 (fun _ _ _ p q _ _ => npr_idem p q), list_all2 h4 k4 (fun _ _ _ p q a b => nop_idem p q (hy.l2.2.1 _ a).2.p.1.symm (hz.l2.2.1 _ b).2.p.1.symm), list_all2 h5 k5 (fun _ _ _ p q _ _ => ntb_idem p q), k1, k2, h1, upI_idem]
theorem encI_small {n : Nat} (h : n < 128) : (encI (n : Int)).length = 1 := by
  unfold encI
  rw [Int.toNat_natCast, enc_small h]
  rfl
theorem full_open (z c : Wba) (o : Wop) (ho : o.h.length = 32) (h2 : c.l2 = o :: z.l2) (he : c.e = z.e) (ht : c.t = z.t) (h1 : c.l = z.l) (h3 : c.l3 = z.l3) (hn : z.l2.length ≤ 5) : z.full ≠ c.full := by
  intro h
  have hl := congrArg List.length h
  unfold Wba.full listL at hl
  rw [h2, he, ht, h1, h3] at hl
  have e1 := encI_small (n := z.l2.length) (by omega)
  have e2 := encI_small (n := (o :: z.l2).length) (by simp; omega)
  have e3 : o.full.length ≥ 32 := by unfold Wop.full; simp only [List.length_append]; omega
  simp only [List.length_append, List.flatMap_cons, e1, e2] at hl
  omega
theorem full_tomb (z c : Wba) (o : Wtb) (h3 : c.l3 = o :: z.l3) (he : c.e = z.e) (ht : c.t = z.t) (h1 : c.l = z.l) (h2 : c.l2 = z.l2) (hn : z.l3.length ≤ 5) : z.full ≠ c.full := by
  intro h
  have hl := congrArg List.length h
  unfold Wba.full listL at hl
  rw [h2, he, ht, h1, h3] at hl
  have e1 := encI_small (n := z.l3.length) (by omega)
  have e2 := encI_small (n := (o :: z.l3).length) (by simp; omega)
  have e3 : 0 < o.full.length := by unfold Wtb.full encI; have := enc_pos o.i.toNat; simp only [List.length_append]; omega
  simp only [List.length_append, List.flatMap_cons, e1, e2] at hl
  omega
theorem full_prom (z c : Wba) (hn : 0 < z.l.length) (hn2 : z.l.length ≤ 4) (h1 : c.l = z.l.drop 1) (he : c.e = z.e) (ht : c.t = z.t) (h2 : c.l2 = z.l2) (h3 : c.l3 = z.l3) : z.full ≠ c.full := by
  intro h
  have hl := congrArg List.length h
  unfold Wba.full listL at hl
  rw [h2, he, ht, h1, h3] at hl
  obtain ⟨p, ps, hp⟩ : ∃ p ps, z.l = p :: ps := by
    cases hz : z.l with
    | nil => rw [hz] at hn; simp at hn
    | cons p ps => exact ⟨p, ps, rfl⟩
  rw [hp] at hl hn2
  have e1 := encI_small (n := (p :: ps).length) (by omega)
  have e2 := encI_small (n := ((p :: ps).drop 1).length) (by simp at *; omega)
  have e3 : 0 < p.full.length := by unfold Wpr.full Wpr.bare encI; have := enc_pos p.r.toNat; simp only [List.length_append]; omega
  simp only [List.length_append, e1, e2] at hl
  simp only [List.drop_succ_cons, List.drop_zero, List.flatMap_cons, List.length_append] at hl
  omega
theorem full_time (z c : Wba) (ht : c.t ≠ z.t) (he : c.e = z.e) : z.full ≠ c.full := by
  intro h
  unfold Wba.full at h
  rw [he, List.append_assoc, List.append_assoc, List.append_assoc, List.append_assoc, List.append_assoc, List.append_assoc] at h
  have h1 := List.append_cancel_left h
  exact ht (enc_prefix _ _ _ _ h1).1.symm
theorem xor_one_ne (t : Nat) : t ^^^ 1 ≠ t := by
  intro h
  have h1 : (t ^^^ 1) ^^^ t = t ^^^ t := by rw [h]
  rw [Nat.xor_self, Nat.xor_comm t 1, Nat.xor_assoc, Nat.xor_self, Nat.xor_zero] at h1
  omega
section
variable {P : Program} (w : World)
theorem run_append_onto {α : Type} {cells : α → List Value} {ok : World → α → Prop} (hone : ∀ v, ∀ u ∈ cells v, u.oneCell' = true) (t ty e : TypeId) (k bytes : Nat) (ht : P.underlying t = some (.slice e)) (he : ElTy P e k bytes) (hk : 0 < k) (hby : bytes ≤ 1000)
    (v : Value) (n : Nat) (l0 : List α) (hown : w.ownsRow 0 e k v n (l0.flatMap cells)) (A : Option Addr) (m c : Nat) (l : List α) (hr : Lst k cells ok w A m l) (hm : n + m ≤ 1000000) :
    ∃ A' c' w', (Builtin.append_ #[t, t] ty #[v, .slice A m c]).run P w = .ok (.slice A' (n + m) c') w' ∧ w'.ownsRow 0 e k (.slice A' (n + m) c') (n + m) ((l0 ++ l).flatMap cells) ∧ w.grownBy w' v.ownBlock ∧ (bk A' = v.ownBlock.toList ∨ bk A' = [w.heap.size]) := by
  obtain ⟨i, z, hi, hz, hzs, hsz, hbs⟩ := he
  suffices h : ∃ v' w', (Builtin.append_ #[t, t] ty #[v, .slice A m c]).run P w = .ok v' w' ∧ w'.ownsRow 0 e k v' (n + m) ((l0 ++ l).flatMap cells) ∧ w.grownBy w' v.ownBlock ∧ (v'.ownBlock = v.ownBlock ∨ v'.ownBlock = some w.heap.size) by
    obtain ⟨v', w', h1, h2, h3, h4⟩ := h
    obtain ⟨A', c', rfl⟩ := own_form h2
    refine ⟨A', c', w', h1, h2, h3, ?_⟩
    rcases h4 with h4 | h4
    · exact .inl (by rw [← h4, bk_own])
    · exact .inr (by rw [← bk_own A' (n + m) c', h4]; rfl)
  rcases A with _ | ad
  · have hm0 : m = 0 := by
      rcases Nat.eq_zero_or_pos m with h0 | h0
      · exact h0
      · obtain ⟨ad, h, _⟩ := hr.2.2 h0
        cases h
    subst hm0
    have hn : l = [] := List.eq_nil_of_length_eq_zero hr.1
    subst hn
    exact ⟨v, w, run_append_nothing w 0 t ty e i k ht hi v n _ hown c, by simpa using hown, World.grownBy.refl w _, .inl rfl⟩
  · obtain ⟨v', w', hrun, h2, h3, _, h5⟩ := run_append_own_at (P := P) w 0 t ty e i z k bytes ht hi hz hsz hbs hzs hk v n _ hown ad m c (l.flatMap cells)
      (by rw [cells_flat_len (fun v hv => (hr.2.1 v hv).1), hr.1]) (hr.flat hk) (cells_one hone l) (by simp only [maxLen]; omega)
      (Nat.le_trans (Nat.mul_le_mul (show n + m ≤ 1000000 by omega) hby) (by decide)) (Nat.zero_le _)
    exact ⟨v', w', hrun, by rw [List.flatMap_append]; exact h2, h3, h5⟩
theorem wpList_append_onto {α : Type} {cells : α → List Value} {ok : World → α → Prop} {ops : Array Oper} {rest : List Oper} {o : Oper} {a : Act} {Q : Exit → Act → World → Prop} (hgd : o.guard = none) (s x : Operand) (t : TypeId)
    (ho : o.op = .call { callee := .builtin .append, args := #[s, x], argTypes := #[t, t] }) (e : TypeId) (k bytes : Nat) (ht : P.underlying t = some (.slice e)) (he : ElTy P e k bytes) (hk : 0 < k) (hby : bytes ≤ 1000)
    (hone : ∀ v, ∀ u ∈ cells v, u.oneCell' = true) (v : Value) (n : Nat) (l0 : List α) (hs : a.eval s = v) (hown : w.ownsRow 0 e k v n (l0.flatMap cells)) (A : Option Addr) (m c : Nat) (l : List α) (hx : a.eval x = .slice A m c) (hr : Lst k cells ok w A m l) (hm : n + m ≤ 1000000)
    (h : ∀ A' c' w', w'.ownsRow 0 e k (.slice A' (n + m) c') (n + m) ((l0 ++ l).flatMap cells) → w.grownBy w' v.ownBlock → (bk A' = v.ownBlock.toList ∨ bk A' = [w.heap.size]) → wpList P ops Q rest (a.put o.dst (.slice A' (n + m) c')) w') : wpList P ops Q (o :: rest) a w := by
  refine wpList_plain hgd fun K hK => ?_
  obtain ⟨A', c', w', hrun, h2, h3, h4⟩ := run_append_onto (P := P) w hone t o.type e k bytes ht he hk hby v n l0 hown A m c l hr hm
  unfold Oper.wp execOp
  simp only [ho, resolve, invoke, builtin, Sem.run_bind, Sem.run_pure, Result.andThen_ok, List.map_toArray, List.map_cons, List.map_nil, hs, hx, hrun]
  exact hK _ _ (h A' c' w' h2 h3 h4)
end
theorem Lst.tail {α : Type} {k : Nat} {cells : α → List Value} {ok : World → α → Prop} {w : World} {ad : Addr} {n : Nat} {l : List α} (h : Lst k cells ok w (some ad) n l) : Lst k cells ok w (some (ad.add k)) (n - 1) (l.drop 1) := by
  refine ⟨by rw [List.length_drop, h.1], fun v hv => h.2.1 v (List.mem_of_mem_drop hv), fun hn => ⟨_, rfl, fun i v hv j x hx => ?_⟩⟩
  obtain ⟨ad', e, hc⟩ := h.2.2 (by omega)
  injection e with e
  subst e
  have h1 := hc (1 + i) v (by rw [← hv, List.getElem?_drop]) j x hx
  rw [add_add]
  rw [show k + (i * k + j) = (1 + i) * k + j by rw [Nat.add_mul]; omega]
  exact h1
theorem row_baH : RowTy Tryd.prog 27 5 := ⟨by kernel_rfl, by kernel_rfl⟩
def op3 : Wop := ⟨3, none, 0, 0, [], List.replicate 32 0⟩
def tb3 : Wtb := ⟨3, none, 0, 0, []⟩
theorem built_op3 : Tryd.prog.built 34 [(0, .int .i64 3)] = some op3.cells.toArray := by kernel_rfl
theorem built_tb3 : Tryd.prog.built 37 [(0, .int .i64 3)] = some tb3.cells.toArray := by kernel_rfl
end Go.Proofs.YtjpmiigoglcoaaaDoor
