/- Texts that the proof stands on: gavellaw05's Batch: a batch that is small enough to be played. (written by gen_cutb.py) | Promises, certificates, commitments, signatures that come in as arguments. | Openings, tombstones, batches, proposals that come in: what their reading says of cells. (written by gen_wbt.py) | '==' of two structs in a region that draws its order. | Equality of structs, field by field: names, signatures, stamps, votes, denials. | The walk of WireApart: its small stamps and votes; the text of an ack. | The example of the document (wakes) over package sha. | The laid table: what the condition of a row gives the walks; the door's own heap meets it. -/
import Derived.Test.YtdgbcdmooklciaaDoorKA3
import Derived.Test.YtdgbcdmooklciaaDoorReg
import Derived.Test.YtdgbcdmooklciaaDoorRead
import Derived.Laws.StructEq
import Derived.Test.YtdgbcdmooklciaaDoorReg2
import Derived.IntWalk
import Derived.Deep.CutBlock
import Derived.Test.YtdgbcdmooklciaaDoorShaQ
import Derived.Test.YtdgbcdmooklciaaDoorTie
import Derived.ProofKit
import Derived.LaidMore
import Derived.OpenShut
import Derived.Stop.Joined
import Derived.Test.YtdgbcdmooklciaaDoorCards
set_option maxRecDepth 100000

namespace Go.Proofs.YtdgbcdmooklciaaDoor
open Go.RowKit
set_option maxRecDepth 100000
theorem el_deny : ElTy Tryd.prog 83 4 32 := ElTy.of (by kernel_rfl)
theorem copyDenies_any (A : Option Addr) (n c : Nat) (l : List Wdn) (w : World) (hr : Lst 4 Wdn.cells (fun _ v => v.Ok) w A n l) (hn : n ≤ 1000000) :
    Calls Tryd.prog 56 #[.slice A n c] w fun e w' => ∃ A' c', e = .returned (.slice A' n c') ∧ NewL 83 4 Wdn.cells w w' A' n c' l := by
  have HR := Lib.hid hr
  have HN := Lib.hid hn
  clear hr hn
  go_enter Tryd.func56, Tryd.ntmps56
  go_wp2_with (at_builtin; refine Stop.mk ?_)
  refine Stop.go ?_
  refine wpList_append_lst _ rfl (.const (.slice none 0 0)) (.tmp 3) _ rfl 83 4 32 Tryd.underlying43 el_deny (by decide) (by decide) Wdn.one rfl A n c l rfl HR.out HN.out ?_
  intro A1 c1 w1 ho1
  have HO := Lib.hid ho1
  clear ho1
  go_wp2
  go_ret
  exact ⟨A1, c1, rfl, HO.out⟩
theorem cutDenies_any (A : Option Addr) (n c m : Nat) (l : List Wdn) (w : World) (hr : Lst 4 Wdn.cells (fun _ v => v.Ok) w A n l) (hn : n ≤ maxLen) (hc : n ≤ c) (hm : m ≤ 1000000) :
    Calls Tryd.prog 58 #[.slice A n c, .int .i64 m] w fun e w' => ∃ A' c', e = .returned (.slice A' (l.take m).length c') ∧ NewL 83 4 Wdn.cells w w' A' (l.take m).length c' (l.take m) := by
  unfold maxLen at hn
  have HR := Lib.hid hr
  have HL : Hid ((l.take m).length = min m n) := by rw [List.length_take, hr.1]; rfl
  clear hr
  by_cases hnm : n ≤ m
  · have hmin : Hid (min m n = n) := Nat.min_eq_right hnm
    go_enter Tryd.func58, Tryd.ntmps58
    go_wp2_with fail
    rw [show (min (n : Int) (m : Int)).toNat = n by omega]
    refine (copyDenies_any A n c (l.take m) w (by have h := HR.out.1; rw [List.take_of_length_le (by omega)]; exact HR.out) (by omega)).mono ?_
    rintro e w1 ⟨A1, c1, rfl, hN⟩
    have HN := Lib.hid hN
    clear hN
    go_wp2
    go_ret
    rw [HL.out, hmin.out]
    exact ⟨A1, c1, rfl, HN.out⟩
  · have hmin : Hid (min m n = m) := Nat.min_eq_left (by omega)
    have hmc : m ≤ c := by omega
    go_enter Tryd.func58, Tryd.ntmps58
    go_wp2_with fail
    rw [show (min (n : Int) (m : Int)).toNat = m by omega]
    refine (copyDenies_any A m c (l.take m) w (HR.out.take (by omega)) (by omega)).mono ?_
    rintro e w1 ⟨A1, c1, rfl, hN⟩
    have HN := Lib.hid hN
    clear hN
    go_wp2
    go_ret
    rw [HL.out, hmin.out]
    exact ⟨A1, c1, rfl, HN.out⟩

theorem el_prm : ElTy Tryd.prog 62 6 64 := ElTy.of (by kernel_rfl)
theorem el_opn : ElTy Tryd.prog 42 34 64 := ElTy.of (by kernel_rfl)
theorem el_tomb : ElTy Tryd.prog 45 2 32 := ElTy.of (by kernel_rfl)
/-- an element that lies apart from what stood there and from the list that grows stays so -/
theorem keepAll {α : Type} {ok : World → List Nat → α → Prop} (hkeep : ∀ {w W : World} {S S' : List Nat} {x : α}, ok w S x → Fr S w W → (∀ k ∈ S', k < w.heap.size → k ∈ S) → ok W S' x)
    {N : Nat} {w w9 : World} {B4 B9 : List Nat} (hf : Fr B4 w w9) (hb : ∀ q ∈ B9, q ∈ B4 ∨ w.heap.size ≤ q) {x : α} (h : ∀ S0, (∀ q ∈ S0, q < N ∨ q ∈ B4) → ok w S0 x) :
    ∀ S0, (∀ q ∈ S0, q < N ∨ q ∈ B9) → ok w9 S0 x := by
  intro S0 h0
  refine hkeep (h (B4 ++ S0.filter (fun q => decide (q < N))) (fun q hq => ?_)) (hf.mono (fun k hk _ => List.mem_append.2 (.inl hk))) (fun q hq hl => ?_)
  · rcases List.mem_append.1 hq with hq | hq
    · exact .inr hq
    · exact .inl (by simpa using (List.mem_filter.1 hq).2)
  · rcases h0 q hq with h1 | h1
    · exact List.mem_append.2 (.inr (List.mem_filter.2 ⟨hq, by simpa using h1⟩))
    · rcases hb q h1 with h2 | h2
      · exact List.mem_append.2 (.inl h2)
      · omega
/-- an opening, a tombstone, a batch that comes in -/
structure Wop.In (w : World) (x : Wop) : Prop where
  i : i64In x.i
  p : By w x.A x.n x.p
  n : x.n ≤ maxLen
  d : x.n ≤ x.d
  h : x.h.length = 32
theorem Wop.In.keep {w w' : World} {x : Wop} (h : x.In w) (hf : Fr [] w w') : x.In w' := ⟨h.i, h.p.keep hf (by simp), h.n, h.d, h.h⟩
structure Wtb.In (w : World) (x : Wtb) : Prop where
  i : i64In x.i
  l : Lst 4 Wdn.cells (fun _ v => v.Ok) w x.A x.n x.l
  n : x.n ≤ maxLen
  d : x.n ≤ x.d
theorem Wtb.In.keep {w w' : World} {x : Wtb} (h : x.In w) (hf : Fr [] w w') : x.In w' := ⟨h.i, h.l.keep' hf (by simp) (fun _ _ h => h), h.n, h.d⟩
theorem Wpr.In.keep {w w' : World} {x : Wpr} (h : x.In w) (hf : Fr [] w w') : x.In w' := ⟨h.r, h.e, h.t, h.l.keep' hf (by simp) (fun _ _ h => h.keep hf), h.n, h.d, h.b, h.m⟩
structure Wba.In (w : World) (x : Wba) : Prop where
  e : i64In x.e
  t : x.t < 18446744073709551616
  l : Lst 6 Wpr.cells (fun w v => v.In w) w x.A x.n x.l
  n : x.n ≤ maxLen
  l2 : Lst 34 Wop.cells (fun w v => v.In w) w x.A2 x.n2 x.l2
  n2 : x.n2 ≤ maxLen
  l3 : Lst 2 Wtb.cells (fun w v => v.In w) w x.A3 x.n3 x.l3
  n3 : x.n3 ≤ maxLen
theorem Wba.In.keep {w w' : World} {x : Wba} (h : x.In w) (hf : Fr [] w w') : x.In w' :=
  ⟨h.e, h.t, h.l.keep' hf (by simp) (fun _ _ h => h.keep hf), h.n, h.l2.keep' hf (by simp) (fun _ _ h => h.keep hf), h.n2, h.l3.keep' hf (by simp) (fun _ _ h => h.keep hf), h.n3⟩
/-- a proposal that comes in -/
structure Wpo.In (w : World) (x : Wpo) : Prop where
  e : i64In x.e
  r : i64In x.r
  v : i64In x.v
  p : i64In x.p
  k : x.k.In w
  b : i64In x.b
  m : i64In x.m
def zeroBa : Array Value := (Wba.cells ⟨0, 0, none, 0, 0, [], none, 0, 0, [], none, 0, 0, []⟩).toArray

set_option maxHeartbeats 8000000 in
theorem batchCut_any (x : Wba) (w : World) (hx : x.In w) (C : List Value) (hC : x.cells = C) :
    Calls Tryd.prog 16 #[.agg C.toArray] w fun e w' => ∃ y : Wba, e = .returned y.val ∧ (∀ S0 : List Nat, (∀ k ∈ S0, k < w.heap.size) → y.Ok w' S0) ∧ Fr [] w w' := by
  obtain ⟨wa, hwa⟩ : ∃ wa, wa = (w.alloc (Obj.cells C.toArray 39)).alloc (Obj.cells zeroBa 39) := ⟨_, rfl⟩
  have hf0 : Fr [] w wa := by rw [hwa]; exact ((Fr.refl [] w).alloc _).alloc _
  have hb0 : Blk wa w.heap.size 39 x.cells.toArray := by rw [hwa, hC]; exact blk_alloc (Blk.new _ _ _)
  have hb1 : Blk wa (w.heap.size + 1) 39 zeroBa := by
    have := Blk.new (w.alloc (Obj.cells C.toArray 39)) 39 zeroBa
    rw [hwa]
    simpa using this
  have HC2 : Hid (wa.cell? ⟨w.heap.size, 2, none⟩ = some (.slice x.A x.n x.d)) := Lib.hid (by have h := hb0.range (cs := x.cells) 2 _ rfl; simpa using h)
  have HC3 : Hid (wa.cell? ⟨w.heap.size, 3, none⟩ = some (.slice x.A2 x.n2 x.d2)) := Lib.hid (by have h := hb0.range (cs := x.cells) 3 _ rfl; simpa using h)
  have HC4 : Hid (wa.cell? ⟨w.heap.size, 4, none⟩ = some (.slice x.A3 x.n3 x.d3)) := Lib.hid (by have h := hb0.range (cs := x.cells) 4 _ rfl; simpa using h)
  have HB0 := Lib.hid hb0
  have HB1 := Lib.hid hb1
  have HF0 := Lib.hid hf0
  have HWA := Lib.hid hwa
  have HX := Lib.hid hx
  have HSZ : Hid (w.heap.size + 2 ≤ wa.heap.size) := Lib.hid (by have := hb1.lt; omega)
  have hn1 := hx.n
  have hn2 := hx.n2
  have hn3 := hx.n3
  unfold maxLen at hn1 hn2 hn3
  have HFA : Hid (Fr [] wa wa) := Lib.hid (Fr.refl _ _)
  clear hwa hf0 hb0 hb1 hx hC
  go_enter Tryd.func16, Tryd.ntmps16
  go_upto_region 1 with (fail)
  change Code.wp _ _ _ _ ((w.alloc (Obj.cells C.toArray 39)).alloc (Obj.cells zeroBa 39))
  rw [← HWA.out]
  go_upto_block 0 with (fail)
  go_cut [3, 4] (fun s _ wx => ∃ (m : Nat) (A4 : Option Addr) (c4 : Nat) (ys : List Wpr), m ≤ 4 ∧ s = .slice A4 m c4 ∧ ys.length = m ∧ Hid (wx.ownsRow wa.heap.size 62 6 (.slice A4 m c4) m (ys.flatMap Wpr.cells)) ∧ Hid (∀ y ∈ ys, ∀ S0, (∀ q ∈ S0, q < wa.heap.size ∨ q ∈ bk A4) → y.Ok wx S0) ∧ Hid (Fr [] wa wx))
  case first =>
    have hc := HFA.out.cell HC2.out (by simp)
    go_wp2_with fail
    clear hc
    go_loopw [3, 4] (fun s i wr => (∃ (m : Nat) (A4 : Option Addr) (c4 : Nat) (ys : List Wpr), m ≤ 4 ∧ s = .slice A4 m c4 ∧ ys.length = m ∧ Hid (wr.ownsRow wa.heap.size 62 6 (.slice A4 m c4) m (ys.flatMap Wpr.cells)) ∧ Hid (∀ y ∈ ys, ∀ S0, (∀ q ∈ S0, q < wa.heap.size ∨ q ∈ bk A4) → y.Ok wr S0) ∧ Hid (Fr [] wa wr)) ∧ ∃ k : Nat, k ≤ x.n ∧ k ≤ 4 ∧ i = .int .i64 k ∧ ∃ A c, s = .slice A k c) (fun _ i _ => 4 - (intOf i).toNat)
    case atStart => exact ⟨⟨0, none, 0, [], by omega, rfl, rfl, Lib.hid ⟨by simp, .inl ⟨rfl, rfl⟩⟩, Lib.hid (by simp), Lib.hid (Fr.refl _ _)⟩, 0, by omega, by omega, rfl, _, _, rfl⟩
    case round =>
      obtain ⟨⟨k, A4, c4, ys, -, rfl, hyl, HO, HYS, HF⟩, k', hk, hk4, rfl, A', c', he⟩ := hrel
      obtain ⟨rfl, hkk, rfl⟩ : A4 = A' ∧ k = k' ∧ c4 = c' := by injection he with h1 h2 h3; exact ⟨h1, h2, h3⟩
      subst hkk
      clear he
      have HFR : Hid (Fr [] wa wr) := Lib.hid (HFA.out.and HF.out (by simp))
      have hc := HFR.out.cell HC2.out (by simp)
      have HLT : Hid (∀ q ∈ bk A4, q < wr.heap.size) := Lib.hid (fun q hq => own_lt HO.out q (by rw [bk_mem]; exact hq))
      by_cases hlt : k < x.n ∧ k < 4
      · obtain ⟨hkn, hk2⟩ := hlt
        obtain ⟨ad, v, hA, hv, hcl, hok, hcells⟩ := HX.out.l.at (i := k) hkn
        rw [hA] at hc
        have HCELLS : Hid (∀ j u, v.cells[j]? = some u → wr.cell? ((ad.add (k * 6)).add j) = some u) := Lib.hid (fun j u hj => HFR.out.cell (HF0.out.cell (hcells j u hj) (by simp)) (by simp))
        have HCLN := Lib.hid hcl
        have HIN := Lib.hid ((hok.keep HF0.out).keep HFR.out)
        have hk0 : (0 : Int) ≤ k := by omega
        have HONE := Lib.hid (Wpr.one v)
        clear hcells hcl hok hv hA
        generalize hC : v.cells = CV at *
        have HCV := Lib.hid hC
        clear hC
        go_wp2_with (first | (refine wpList_cells rfl 62 _ rfl _ rfl CV HCELLS.out (row_prm.of HCLN.out) ?_))
        rw [← HCV.out]
        refine (promiseCut_any v wr HIN.out.r HIN.out.e HIN.out.t HIN.out.b HIN.out.m HIN.out.l HIN.out.n).mono ?_
        rintro e w4 ⟨A1, d1, zs, rfl, hokN, -, hf1⟩
        generalize hy : (⟨v.r, v.e, v.t, A1, (v.l.take 3).length, d1, zs, v.b, v.m⟩ : Wpr) = y at *
        have HFX : Hid (Fr [] wr w4) := Lib.hid hf1
        have HNW : Hid (∀ S0, (∀ q ∈ S0, q < wa.heap.size ∨ q ∈ bk A4) → y.Ok w4 S0) := Lib.hid (fun S0 h0 => hokN S0 (fun q hq => by
          rcases h0 q hq with h | h
          · have := HF.out.size; omega
          · exact HLT.out q h))
        have hD : y.cells.length = 6 := Wpr.len y
        have hD1 := Wpr.one y
        obtain ⟨D, hDY⟩ : ∃ D, D = y.cells := ⟨_, rfl⟩
        rw [← hDY] at hD hD1 ⊢
        have HD := Lib.hid hD
        have HD1 := Lib.hid hD1
        have HDY := Lib.hid hDY
        have HO4 := Lib.hid (own_keep HO.out hf1 (by simp))
        clear hokN hf1 hy hD hD1 hDY hc HO
        go_wp2_with (first | (refine wpList_build_one rfl 35 62 _ rfl Tryd.underlying35 D 64 (by rw [HD.out]; exact el_prm) rfl (by rw [HD.out]; decide) (by rw [HD.out]; decide) ?_) | (at_builtin; refine Stop.mk ?_))
        refine Stop.go ?_
        refine wpList_append_one2 rfl _ _ 35 62 rfl Tryd.underlying35 6 64 el_prm (by decide) wa.heap.size (.slice A4 k c4) k _ D rfl (HO4.out.alloc _) (by have h1 := HF.out.size; have h2 := HFX.out.size; simp; omega) HD.out HD1.out w4.heap.size 62 rfl (Blk.new _ _ _) (by omega) (by decide) ?_
        intro A9 c9 w9 ho9 hf9 hb9
        have HO9 := Lib.hid ho9
        have HF9 : Hid (Fr (bk A4) (w4.alloc (Obj.cells D.toArray 62)) w9) := Lib.hid (by rw [← bk_own A4 k c4]; exact hf9)
        have HB9 : Hid (∀ q ∈ bk A9, q ∈ bk A4 ∨ w4.heap.size ≤ q) := Lib.hid (by
          intro q hq
          rw [← bk_own A9 (k + 1) c9] at hq
          rcases hb9 with h | h
          · rw [h, bk_own] at hq; exact .inl hq
          · rw [h] at hq; simp at hq; exact .inr (by omega))
        clear ho9 hf9 hb9
        go_wp2
        go_roundw
        case rel =>
          refine ⟨⟨k + 1, A9, c9, ys ++ [y], by omega, rfl, by simp [hyl], ?_, ?_, ?_⟩, k + 1, by omega, by omega, by go_num, _, _, rfl⟩
          · refine Lib.hid ?_
            rw [List.flatMap_append, List.flatMap_singleton, ← HDY.out]
            exact HO9.out
          · refine Lib.hid (fun u hu => ?_)
            have hsz := HFX.out.size
            have hfb : Fr (bk A4) w4 w9 := (((Fr.refl [] w4).alloc _).mono (by simp)).trans HF9.out (fun y hy _ => hy)
            rcases List.mem_append.1 hu with hu | hu
            · exact keepAll (ok := fun w S x => Wpr.Ok w S x) (fun h f s => h.keep f s) ((HFX.out.mono (by simp)).trans hfb (fun y hy _ => hy)) (fun q hq => (HB9.out q hq).imp id (fun h => by omega)) (HYS.out u hu)
            · rw [List.mem_singleton.1 hu]
              exact keepAll (ok := fun w S x => Wpr.Ok w S x) (fun h f s => h.keep f s) hfb HB9.out HNW.out
          · exact Lib.hid (((HF.out.and HFX.out (by simp)).alloc _).and HF9.out (fun q hq => (HO4.out.lt q (by rw [bk_mem]; exact hq)).1))
        case measure => simp [intOf]; omega
      · have hkx : (x.n : Int) ≤ k ∨ (4 : Int) ≤ k := by omega
        rcases hkx with hkx | hkx
        all_goals
          go_wp2_with fail
          all_goals
            go_meet
            exact ⟨k, A4, c4, ys, hk4, rfl, hyl, HO, HYS, HF⟩
  case rest =>
    obtain ⟨mp, Ap, cp, ysp, hmp, rfl, hlp, HOp, HQp, HFX1⟩ := hcut
    rename World => wb
    go_upto_block 2 with (fail)
    go_cut [5, 6] (fun s _ wx => ∃ (m : Nat) (A4 : Option Addr) (c4 : Nat) (ys : List Wop), m ≤ 4 ∧ s = .slice A4 m c4 ∧ ys.length = m ∧ Hid (wx.ownsRow wb.heap.size 42 34 (.slice A4 m c4) m (ys.flatMap Wop.cells)) ∧ Hid (∀ y ∈ ys, ∀ S0, (∀ q ∈ S0, q < wb.heap.size ∨ q ∈ bk A4) → y.Ok wx S0) ∧ Hid (Fr [] wb wx))
    case first =>
      have hc := HFX1.out.cell HC3.out (by simp)
      go_wp2_with fail
      clear hc
      go_loopw [5, 6] (fun s i wr => (∃ (m : Nat) (A4 : Option Addr) (c4 : Nat) (ys : List Wop), m ≤ 4 ∧ s = .slice A4 m c4 ∧ ys.length = m ∧ Hid (wr.ownsRow wb.heap.size 42 34 (.slice A4 m c4) m (ys.flatMap Wop.cells)) ∧ Hid (∀ y ∈ ys, ∀ S0, (∀ q ∈ S0, q < wb.heap.size ∨ q ∈ bk A4) → y.Ok wr S0) ∧ Hid (Fr [] wb wr)) ∧ ∃ k : Nat, k ≤ x.n2 ∧ k ≤ 4 ∧ i = .int .i64 k ∧ ∃ A c, s = .slice A k c) (fun _ i _ => 4 - (intOf i).toNat)
      case atStart => exact ⟨⟨0, none, 0, [], by omega, rfl, rfl, Lib.hid ⟨by simp, .inl ⟨rfl, rfl⟩⟩, Lib.hid (by simp), Lib.hid (Fr.refl _ _)⟩, 0, by omega, by omega, rfl, _, _, rfl⟩
      case round =>
        obtain ⟨⟨k, A4, c4, ys, -, rfl, hyl, HO, HYS, HF⟩, k', hk, hk4, rfl, A', c', he⟩ := hrel
        obtain ⟨rfl, hkk, rfl⟩ : A4 = A' ∧ k = k' ∧ c4 = c' := by injection he with h1 h2 h3; exact ⟨h1, h2, h3⟩
        subst hkk
        clear he
        have HFR : Hid (Fr [] wa wr) := Lib.hid (HFX1.out.and HF.out (by simp))
        have hc := HFR.out.cell HC3.out (by simp)
        have HLT : Hid (∀ q ∈ bk A4, q < wr.heap.size) := Lib.hid (fun q hq => own_lt HO.out q (by rw [bk_mem]; exact hq))
        by_cases hlt : k < x.n2 ∧ k < 4
        · obtain ⟨hkn, hk2⟩ := hlt
          obtain ⟨ad, v, hA, hv, hcl, hok, hcells⟩ := HX.out.l2.at (i := k) hkn
          rw [hA] at hc
          have HCELLS : Hid (∀ j u, v.cells[j]? = some u → wr.cell? ((ad.add (k * 34)).add j) = some u) := Lib.hid (fun j u hj => HFR.out.cell (HF0.out.cell (hcells j u hj) (by simp)) (by simp))
          have HCLN := Lib.hid hcl
          have HIN := Lib.hid ((hok.keep HF0.out).keep HFR.out)
          have hk0 : (0 : Int) ≤ k := by omega
          have HONE := Lib.hid (Wop.one v)
          have HC1V : Hid (v.cells[1]? = some (.slice v.A v.n v.d)) := Lib.hid rfl
          clear hcells hcl hok hv hA
          generalize hC : v.cells = CV at *
          have HCV := Lib.hid hC
          clear hC
          have hsz0 : (Tryd.prog.info? 42).map (·.size) = some CV.toArray.size := by rw [List.size_toArray, HCLN.out]; kernel_rfl
          have HSZ0 := Lib.hid hsz0
          have HCS : Hid (CV.toArray.size = 34) := Lib.hid (by rw [List.size_toArray]; exact HCLN.out)
          clear hsz0
          go_wp2_with (first
            | (refine wpList_cells rfl 42 _ rfl _ rfl CV HCELLS.out (row_opn.of HCLN.out) ?_)
            | (refine wpList_store_blk rfl 42 _ _ rfl wr.heap.size CV.toArray rfl rfl 42 _ (Blk.new wr _ _) HSZ0.out (by rw [HCS.out]; rfl) (all_oneCell_toArray HONE.out) ?_
               intro w2 hb2 hf2
               have HB2 := Lib.hid hb2
               have HF2 : Hid (Fr [] wr w2) := Lib.hid (((Fr.refl [] wr).alloc _).and hf2 (by simp))
               have hc2 : w2.cell? ⟨wr.heap.size, 1, none⟩ = some (.slice v.A v.n v.d) := (by rw [hb2.cell 1, List.getElem?_toArray]; exact HC1V.out)
               clear hb2 hf2))
          rw [show (260 : Int) = ((260 : Nat) : Int) from rfl]
          refine (cut_any v.A v.n v.d 260 v.p w2 (HIN.out.p.keep HF2.out (by simp)) HIN.out.n HIN.out.d (by decide)).mono ?_
          rintro e w3 ⟨A1, d1, rfl, hN⟩
          have hmt : (v.p.take 260).length ≤ 260 := List.length_take_le _ _
          generalize hm : (v.p.take 260).length = m at *
          have HM := Lib.hid hmt
          have HMT : Hid ((v.p.take 260).length = m) := Lib.hid hm
          have hb3 := HB2.out.keep hN.2.1 (by simp)
          have hz := hb3.frozen 1
          have hc3 := hN.2.1.cell hc2 (by simp)
          have hset : CV.toArray.setIfInBounds 1 (.slice A1 m d1) = (⟨v.i, A1, m, d1, v.p.take 260, v.h⟩ : Wop).cells.toArray := by rw [← HCV.out]; rfl
          have hb4 := hb3.set 1 (.slice A1 m d1)
          rw [hset] at hb4
          have hf4 : Fr [wr.heap.size] w3 (w3.setCell ⟨wr.heap.size, 1, none⟩ (.slice A1 m d1)) := (Fr.refl _ w3).setCell _ (fun _ => by simp) _
          have HBLT : Hid (wr.heap.size < w2.heap.size) := Lib.hid HB2.out.lt
          have HN := Lib.hid hN
          have HF4 := Lib.hid hf4
          have HLT2 : Hid (∀ q ∈ bk A1, w2.heap.size ≤ q) := Lib.hid hN.2.2
          have hD : (⟨v.i, A1, m, d1, v.p.take 260, v.h⟩ : Wop).cells.length = 34 := Wop.len HIN.out.h
          have hD1 := Wop.one (⟨v.i, A1, m, d1, v.p.take 260, v.h⟩ : Wop)
          obtain ⟨y, hy⟩ : ∃ y, y = (⟨v.i, A1, m, d1, v.p.take 260, v.h⟩ : Wop) := ⟨_, rfl⟩
          rw [← hy] at hD hD1 hb4
          obtain ⟨D, hDY⟩ : ∃ D, D = y.cells := ⟨_, rfl⟩
          rw [← hDY] at hD hD1 hb4
          have HD := Lib.hid hD
          have HD1 := Lib.hid hD1
          have HDY := Lib.hid hDY
          have HYE := Lib.hid hy
          have HSZD : Hid ((Tryd.prog.info? 42).map (·.size) = some D.toArray.size) := Lib.hid (by rw [List.size_toArray, hD]; kernel_rfl)
          have HB4 := Lib.hid hb4
          clear hN hmt hset hb4 hf4 hD hD1 hy hDY hc2 hb3 hc hm
          go_wp2_with (first | (refine wpList_load_row rfl 42 _ rfl wr.heap.size rfl 42 D.toArray _ _ HB4.out Tryd.underlying42 rfl HSZD.out ?_) | (refine wpList_build_one rfl 36 42 _ rfl Tryd.underlying36 D 64 (by rw [HD.out]; exact el_opn) rfl (by rw [HD.out]; decide) (by rw [HD.out]; decide) ?_) | (at_builtin; refine Stop.mk ?_))
          have hs34 : (w3.setCell ⟨wr.heap.size, 1, none⟩ (.slice A1 m d1)).heap.size = w3.heap.size := by simp
          generalize w3.setCell ⟨wr.heap.size, 1, none⟩ (.slice A1 m d1) = w4 at *
          have HFX : Hid (Fr [] wr w4) := Lib.hid ((HF2.out.and HN.out.2.1 (by simp)).and HF4.out (by simp))
          have HO4 := Lib.hid (own_keep HO.out HFX.out (by simp))
          have HNW : Hid (∀ S0, (∀ q ∈ S0, q < wb.heap.size ∨ q ∈ bk A4) → y.Ok w4 S0) := Lib.hid (by
            intro S0 h0
            rw [HYE.out]
            refine ⟨HIN.out.i, (NewB.by HN.out).keep HF4.out (fun a ha hin => ?_), HM.out, fun q hq hin => ?_, fun q hq => ?_, HIN.out.h⟩
            · have h1 := HLT2.out a.block (by rw [ha]; simp [bk])
              have h2 := HBLT.out
              rw [List.mem_singleton.1 hin] at h1
              omega
            · have h1 := HLT2.out q hq
              have h2 := HBLT.out
              rcases h0 q hin with h | h
              · have := HF.out.size; omega
              · have := HLT.out q h; omega
            · exact Nat.lt_of_lt_of_le (NewB.lt HN.out q hq) HF4.out.size)
          clear HO hc3 hz
          refine Stop.go ?_
          refine wpList_append_one2 rfl _ _ 36 42 rfl Tryd.underlying36 34 64 el_opn (by decide) wb.heap.size (.slice A4 k c4) k _ D rfl (HO4.out.alloc _) (by have h1 := HF.out.size; have h2 := HFX.out.size; simp; omega) HD.out HD1.out w3.heap.size 42 rfl (hs34 ▸ Blk.new w4 42 D.toArray) (by omega) (by decide) ?_
          intro A9 c9 w9 ho9 hf9 hb9
          have HO9 := Lib.hid ho9
          have HF9 : Hid (Fr (bk A4) (w4.alloc (Obj.cells D.toArray 42)) w9) := Lib.hid (by rw [← bk_own A4 k c4]; exact hf9)
          have HB9 : Hid (∀ q ∈ bk A9, q ∈ bk A4 ∨ w4.heap.size ≤ q) := Lib.hid (by
            intro q hq
            rw [← bk_own A9 (k + 1) c9] at hq
            rcases hb9 with h | h
            · rw [h, bk_own] at hq; exact .inl hq
            · rw [h] at hq; simp at hq; exact .inr (by omega))
          clear ho9 hf9 hb9
          go_wp2
          go_roundw
          case rel =>
            refine ⟨⟨k + 1, A9, c9, ys ++ [y], by omega, rfl, by simp [hyl], ?_, ?_, ?_⟩, k + 1, by omega, by omega, by go_num, _, _, rfl⟩
            · refine Lib.hid ?_
              rw [List.flatMap_append, List.flatMap_singleton, ← HDY.out]
              exact HO9.out
            · refine Lib.hid (fun u hu => ?_)
              have hsz := HFX.out.size
              have hfb : Fr (bk A4) w4 w9 := (((Fr.refl [] w4).alloc _).mono (by simp)).trans HF9.out (fun y hy _ => hy)
              rcases List.mem_append.1 hu with hu | hu
              · exact keepAll (ok := fun w S x => Wop.Ok w S x) (fun h f s => h.keep f s) ((HFX.out.mono (by simp)).trans hfb (fun y hy _ => hy)) (fun q hq => (HB9.out q hq).imp id (fun h => by omega)) (HYS.out u hu)
              · rw [List.mem_singleton.1 hu]
                exact keepAll (ok := fun w S x => Wop.Ok w S x) (fun h f s => h.keep f s) hfb HB9.out HNW.out
            · exact Lib.hid (((HF.out.and HFX.out (by simp)).alloc _).and HF9.out (fun q hq => (HO4.out.lt q (by rw [bk_mem]; exact hq)).1))
          case measure => simp [intOf]; omega
        · have hkx : (x.n2 : Int) ≤ k ∨ (4 : Int) ≤ k := by omega
          rcases hkx with hkx | hkx
          all_goals
            go_wp2_with fail
            all_goals
              go_meet
              exact ⟨k, A4, c4, ys, hk4, rfl, hyl, HO, HYS, HF⟩
    case rest =>
      obtain ⟨mq, Aq, cq, ysq, hmq, rfl, hlq, HOq, HQq, HFq⟩ := hcut
      have HFY : Hid (Fr [] wa wc) := Lib.hid (HFX1.out.and HFq.out (by simp))
      have HOp := Lib.hid (own_keep HOp.out HFq.out (by simp))
      have HQp : Hid (∀ y ∈ ysp, ∀ S0, (∀ q ∈ S0, q < wa.heap.size ∨ q ∈ bk Ap) → y.Ok wc S0) := Lib.hid (fun y hy => keepAll (ok := fun w S x => Wpr.Ok w S x) (fun h f s => h.keep f s) (HFq.out.mono (by simp)) (fun q hq => .inl hq) (HQp.out y hy))
      skip
      rename World => wd
      go_upto_block 4 with (fail)
      go_cut [8, 9] (fun s _ wx => ∃ (m : Nat) (A4 : Option Addr) (c4 : Nat) (ys : List Wtb), m ≤ 4 ∧ s = .slice A4 m c4 ∧ ys.length = m ∧ Hid (wx.ownsRow wd.heap.size 45 2 (.slice A4 m c4) m (ys.flatMap Wtb.cells)) ∧ Hid (∀ y ∈ ys, ∀ S0, (∀ q ∈ S0, q < wd.heap.size ∨ q ∈ bk A4) → y.Ok wx S0) ∧ Hid (Fr [] wd wx))
      case first =>
        have hc := HFY.out.cell HC4.out (by simp)
        go_wp2_with fail
        clear hc
        go_loopw [8, 9] (fun s i wr => (∃ (m : Nat) (A4 : Option Addr) (c4 : Nat) (ys : List Wtb), m ≤ 4 ∧ s = .slice A4 m c4 ∧ ys.length = m ∧ Hid (wr.ownsRow wd.heap.size 45 2 (.slice A4 m c4) m (ys.flatMap Wtb.cells)) ∧ Hid (∀ y ∈ ys, ∀ S0, (∀ q ∈ S0, q < wd.heap.size ∨ q ∈ bk A4) → y.Ok wr S0) ∧ Hid (Fr [] wd wr)) ∧ ∃ k : Nat, k ≤ x.n3 ∧ k ≤ 4 ∧ i = .int .i64 k ∧ ∃ A c, s = .slice A k c) (fun _ i _ => 4 - (intOf i).toNat)
        case atStart => exact ⟨⟨0, none, 0, [], by omega, rfl, rfl, Lib.hid ⟨by simp, .inl ⟨rfl, rfl⟩⟩, Lib.hid (by simp), Lib.hid (Fr.refl _ _)⟩, 0, by omega, by omega, rfl, _, _, rfl⟩
        case round =>
          obtain ⟨⟨k, A4, c4, ys, -, rfl, hyl, HO, HYS, HF⟩, k', hk, hk4, rfl, A', c', he⟩ := hrel
          obtain ⟨rfl, hkk, rfl⟩ : A4 = A' ∧ k = k' ∧ c4 = c' := by injection he with h1 h2 h3; exact ⟨h1, h2, h3⟩
          subst hkk
          clear he
          have HFR : Hid (Fr [] wa wr) := Lib.hid (HFY.out.and HF.out (by simp))
          have hc := HFR.out.cell HC4.out (by simp)
          have HLT : Hid (∀ q ∈ bk A4, q < wr.heap.size) := Lib.hid (fun q hq => own_lt HO.out q (by rw [bk_mem]; exact hq))
          by_cases hlt : k < x.n3 ∧ k < 4
          · obtain ⟨hkn, hk2⟩ := hlt
            obtain ⟨ad, v, hA, hv, hcl, hok, hcells⟩ := HX.out.l3.at (i := k) hkn
            rw [hA] at hc
            have HCELLS : Hid (∀ j u, v.cells[j]? = some u → wr.cell? ((ad.add (k * 2)).add j) = some u) := Lib.hid (fun j u hj => HFR.out.cell (HF0.out.cell (hcells j u hj) (by simp)) (by simp))
            have HCLN := Lib.hid hcl
            have HIN := Lib.hid ((hok.keep HF0.out).keep HFR.out)
            have hk0 : (0 : Int) ≤ k := by omega
            have HONE := Lib.hid (Wtb.one v)
            have HC1V : Hid (v.cells[1]? = some (.slice v.A v.n v.d)) := Lib.hid rfl
            clear hcells hcl hok hv hA
            generalize hC : v.cells = CV at *
            have HCV := Lib.hid hC
            clear hC
            have hsz0 : (Tryd.prog.info? 45).map (·.size) = some CV.toArray.size := by rw [List.size_toArray, HCLN.out]; kernel_rfl
            have HSZ0 := Lib.hid hsz0
            have HCS : Hid (CV.toArray.size = 2) := Lib.hid (by rw [List.size_toArray]; exact HCLN.out)
            clear hsz0
            go_wp2_with (first
              | (refine wpList_cells rfl 45 _ rfl _ rfl CV HCELLS.out (row_tmb.of HCLN.out) ?_)
              | (refine wpList_store_blk rfl 45 _ _ rfl wr.heap.size CV.toArray rfl rfl 45 _ (Blk.new wr _ _) HSZ0.out (by rw [HCS.out]; rfl) (all_oneCell_toArray HONE.out) ?_
                 intro w2 hb2 hf2
                 have HB2 := Lib.hid hb2
                 have HF2 : Hid (Fr [] wr w2) := Lib.hid (((Fr.refl [] wr).alloc _).and hf2 (by simp))
                 have hc2 : w2.cell? ⟨wr.heap.size, 1, none⟩ = some (.slice v.A v.n v.d) := (by rw [hb2.cell 1, List.getElem?_toArray]; exact HC1V.out)
                 clear hb2 hf2))
            rw [show (5 : Int) = ((5 : Nat) : Int) from rfl]
            refine (cutDenies_any v.A v.n v.d 5 v.l w2 (HIN.out.l.keep' HF2.out (by simp) (fun _ _ h => h)) HIN.out.n HIN.out.d (by decide)).mono ?_
            rintro e w3 ⟨A1, d1, rfl, hN⟩
            have hmt : (v.l.take 5).length ≤ 5 := List.length_take_le _ _
            generalize hm : (v.l.take 5).length = m at *
            have HM := Lib.hid hmt
            have HMT : Hid ((v.l.take 5).length = m) := Lib.hid hm
            have hb3 := HB2.out.keep hN.2.1 (by simp)
            have hz := hb3.frozen 1
            have hc3 := hN.2.1.cell hc2 (by simp)
            have hset : CV.toArray.setIfInBounds 1 (.slice A1 m d1) = (⟨v.i, A1, m, d1, v.l.take 5⟩ : Wtb).cells.toArray := by rw [← HCV.out]; rfl
            have hb4 := hb3.set 1 (.slice A1 m d1)
            rw [hset] at hb4
            have hf4 : Fr [wr.heap.size] w3 (w3.setCell ⟨wr.heap.size, 1, none⟩ (.slice A1 m d1)) := (Fr.refl _ w3).setCell _ (fun _ => by simp) _
            have HBLT : Hid (wr.heap.size < w2.heap.size) := Lib.hid HB2.out.lt
            have HN := Lib.hid hN
            have HF4 := Lib.hid hf4
            have HLT2 : Hid (∀ q ∈ bk A1, w2.heap.size ≤ q) := Lib.hid hN.2.2
            have hD : (⟨v.i, A1, m, d1, v.l.take 5⟩ : Wtb).cells.length = 2 := rfl
            have hD1 := Wtb.one (⟨v.i, A1, m, d1, v.l.take 5⟩ : Wtb)
            obtain ⟨y, hy⟩ : ∃ y, y = (⟨v.i, A1, m, d1, v.l.take 5⟩ : Wtb) := ⟨_, rfl⟩
            rw [← hy] at hD hD1 hb4
            obtain ⟨D, hDY⟩ : ∃ D, D = y.cells := ⟨_, rfl⟩
            rw [← hDY] at hD hD1 hb4
            have HD := Lib.hid hD
            have HD1 := Lib.hid hD1
            have HDY := Lib.hid hDY
            have HYE := Lib.hid hy
            have HSZD : Hid ((Tryd.prog.info? 45).map (·.size) = some D.toArray.size) := Lib.hid (by rw [List.size_toArray, hD]; kernel_rfl)
            have HB4 := Lib.hid hb4
            clear hN hmt hset hb4 hf4 hD hD1 hy hDY hc2 hb3 hc hm
            go_wp2_with (first | (refine wpList_load_row rfl 45 _ rfl wr.heap.size rfl 45 D.toArray _ _ HB4.out Tryd.underlying45 rfl HSZD.out ?_) | (refine wpList_build_one rfl 37 45 _ rfl Tryd.underlying37 D 32 (by rw [HD.out]; exact el_tomb) rfl (by rw [HD.out]; decide) (by rw [HD.out]; decide) ?_) | (at_builtin; refine Stop.mk ?_))
            have hs34 : (w3.setCell ⟨wr.heap.size, 1, none⟩ (.slice A1 m d1)).heap.size = w3.heap.size := by simp
            generalize w3.setCell ⟨wr.heap.size, 1, none⟩ (.slice A1 m d1) = w4 at *
            have HFX : Hid (Fr [] wr w4) := Lib.hid ((HF2.out.and HN.out.2.1 (by simp)).and HF4.out (by simp))
            have HO4 := Lib.hid (own_keep HO.out HFX.out (by simp))
            have HNW : Hid (∀ S0, (∀ q ∈ S0, q < wd.heap.size ∨ q ∈ bk A4) → y.Ok w4 S0) := Lib.hid (by
              intro S0 h0
              rw [HYE.out]
              refine ⟨HIN.out.i, (Lst.of_own (ok := fun (_ : World) (v : Wdn) => v.Ok) HN.out.1 HMT.out (fun u hu => HIN.out.l.2.1 u (List.mem_of_mem_take hu))).keep' (S := [wr.heap.size]) HF4.out (fun _ a ha hin => ?_) (fun _ _ h => h), HM.out, fun _ a ha hin => ?_⟩
              · have ha : A1 = some a := ha
                have h1 := HLT2.out a.block (by rw [ha]; simp [bk])
                have h2 := HBLT.out
                rw [List.mem_singleton.1 hin] at h1
                omega
              · have ha : A1 = some a := ha
                have h1 := HLT2.out a.block (by rw [ha]; simp [bk])
                have h2 := HBLT.out
                rcases h0 a.block hin with h | h
                · have := HF.out.size; omega
                · have := HLT.out a.block h; omega)
            clear HO hc3 hz
            refine Stop.go ?_
            refine wpList_append_one2 rfl _ _ 37 45 rfl Tryd.underlying37 2 32 el_tomb (by decide) wd.heap.size (.slice A4 k c4) k _ D rfl (HO4.out.alloc _) (by have h1 := HF.out.size; have h2 := HFX.out.size; simp; omega) HD.out HD1.out w3.heap.size 45 rfl (hs34 ▸ Blk.new w4 45 D.toArray) (by omega) (by decide) ?_
            intro A9 c9 w9 ho9 hf9 hb9
            have HO9 := Lib.hid ho9
            have HF9 : Hid (Fr (bk A4) (w4.alloc (Obj.cells D.toArray 45)) w9) := Lib.hid (by rw [← bk_own A4 k c4]; exact hf9)
            have HB9 : Hid (∀ q ∈ bk A9, q ∈ bk A4 ∨ w4.heap.size ≤ q) := Lib.hid (by
              intro q hq
              rw [← bk_own A9 (k + 1) c9] at hq
              rcases hb9 with h | h
              · rw [h, bk_own] at hq; exact .inl hq
              · rw [h] at hq; simp at hq; exact .inr (by omega))
            clear ho9 hf9 hb9
            go_wp2
            go_roundw
            case rel =>
              refine ⟨⟨k + 1, A9, c9, ys ++ [y], by omega, rfl, by simp [hyl], ?_, ?_, ?_⟩, k + 1, by omega, by omega, by go_num, _, _, rfl⟩
              · refine Lib.hid ?_
                rw [List.flatMap_append, List.flatMap_singleton, ← HDY.out]
                exact HO9.out
              · refine Lib.hid (fun u hu => ?_)
                have hsz := HFX.out.size
                have hfb : Fr (bk A4) w4 w9 := (((Fr.refl [] w4).alloc _).mono (by simp)).trans HF9.out (fun y hy _ => hy)
                rcases List.mem_append.1 hu with hu | hu
                · exact keepAll (ok := fun w S x => Wtb.Ok w S x) (fun h f s => h.keep f s) ((HFX.out.mono (by simp)).trans hfb (fun y hy _ => hy)) (fun q hq => (HB9.out q hq).imp id (fun h => by omega)) (HYS.out u hu)
                · rw [List.mem_singleton.1 hu]
                  exact keepAll (ok := fun w S x => Wtb.Ok w S x) (fun h f s => h.keep f s) hfb HB9.out HNW.out
              · exact Lib.hid (((HF.out.and HFX.out (by simp)).alloc _).and HF9.out (fun q hq => (HO4.out.lt q (by rw [bk_mem]; exact hq)).1))
            case measure => simp [intOf]; omega
          · have hkx : (x.n3 : Int) ≤ k ∨ (4 : Int) ≤ k := by omega
            rcases hkx with hkx | hkx
            all_goals
              go_wp2_with fail
              all_goals
                go_meet
                exact ⟨k, A4, c4, ys, hk4, rfl, hyl, HO, HYS, HF⟩
      case rest =>
        obtain ⟨mr, Ar, cr, ysr, hmr, rfl, hlr, HOr, HQr, HFr⟩ := hcut
        have HFZ : Hid (Fr [] wa wc) := Lib.hid (HFY.out.and HFr.out (by simp))
        have HOp := Lib.hid (own_keep HOp.out HFr.out (by simp))
        have HOq := Lib.hid (own_keep HOq.out HFr.out (by simp))
        have HQp : Hid (∀ y ∈ ysp, ∀ S0, (∀ q ∈ S0, q < wa.heap.size ∨ q ∈ bk Ap) → y.Ok wc S0) := Lib.hid (fun y hy => keepAll (ok := fun w S x => Wpr.Ok w S x) (fun h f s => h.keep f s) (HFr.out.mono (by simp)) (fun q hq => .inl hq) (HQp.out y hy))
        have HQq : Hid (∀ y ∈ ysq, ∀ S0, (∀ q ∈ S0, q < wb.heap.size ∨ q ∈ bk Aq) → y.Ok wc S0) := Lib.hid (fun y hy => keepAll (ok := fun w S x => Wop.Ok w S x) (fun h f s => h.keep f s) (HFr.out.mono (by simp)) (fun q hq => .inl hq) (HQq.out y hy))
        have hbx := HB0.out.keep HFZ.out (by simp)
        have hz2 := hbx.frozen 2
        have hz3 := hbx.frozen 3
        have hz4 := hbx.frozen 4
        have hc2 := HFZ.out.cell HC2.out (by simp)
        have hc3 := HFZ.out.cell HC3.out (by simp)
        have hc4 := HFZ.out.cell HC4.out (by simp)
        have hset : ((x.cells.toArray.setIfInBounds 2 (.slice Ap mp cp)).setIfInBounds 3 (.slice Aq mq cq)).setIfInBounds 4 (.slice Ar mr cr) = (Wba.cells ⟨x.e, x.t, Ap, mp, cp, ysp, Aq, mq, cq, ysq, Ar, mr, cr, ysr⟩).toArray := rfl
        have hb2 := ((hbx.set 2 (.slice Ap mp cp)).set 3 (.slice Aq mq cq)).set 4 (.slice Ar mr cr)
        rw [hset] at hb2
        have hf2 : Fr [w.heap.size] wc (((wc.setCell ⟨w.heap.size, 2, none⟩ (.slice Ap mp cp)).setCell ⟨w.heap.size, 3, none⟩ (.slice Aq mq cq)).setCell ⟨w.heap.size, 4, none⟩ (.slice Ar mr cr)) := (((Fr.refl [w.heap.size] wc).setCell _ (fun _ => by simp) _).setCell _ (fun _ => by simp) _).setCell _ (fun _ => by simp) _
        have HB1S := Lib.hid ((HB1.out.keep HFZ.out (by simp)).keep hf2 (by simp))
        have HB2 := Lib.hid hb2
        have HF2 := Lib.hid hf2
        obtain ⟨y, hy⟩ : ∃ y : Wba, y = ⟨x.e, x.t, Ap, mp, cp, ysp, Aq, mq, cq, ysq, Ar, mr, cr, ysr⟩ := ⟨_, rfl⟩
        have HSZY : Hid ((Tryd.prog.info? 39).map (·.size) = some (Wba.cells ⟨x.e, x.t, Ap, mp, cp, ysp, Aq, mq, cq, ysq, Ar, mr, cr, ysr⟩).toArray.size) := Lib.hid (by kernel_rfl)
        have HALL : Hid ((Wba.cells ⟨x.e, x.t, Ap, mp, cp, ysp, Aq, mq, cq, ysq, Ar, mr, cr, ysr⟩).toArray.all (·.oneCell') = true) := Lib.hid (all_oneCell_toArray (Wba.one _))
        have HZP : Hid (zeroBa.size = (Wba.cells ⟨x.e, x.t, Ap, mp, cp, ysp, Aq, mq, cq, ysq, Ar, mr, cr, ysr⟩).toArray.size) := Lib.hid rfl
        rw [← hy] at HSZY HALL HZP HB2
        have HY := Lib.hid hy
        clear hbx hset hb2 hf2 hy
        generalize hCY : y.cells.toArray = CY at *
        have HCY := Lib.hid hCY
        clear hCY
        go_wp2_with (first
          | (refine wpList_load_row rfl 39 _ rfl w.heap.size rfl 39 CY _ _ HB2.out Tryd.underlying39 rfl HSZY.out ?_)
          | (refine wpList_store_blk rfl 39 _ _ rfl (w.heap.size + 1) CY rfl rfl 39 zeroBa HB1S.out HSZY.out HZP.out HALL.out ?_
             intro w3 hb3 hf3
             have HB3 := Lib.hid hb3
             have HF3 := Lib.hid hf3
             clear hb3 hf3))
        have HFa : Fr [w.heap.size, w.heap.size + 1] wc w3 := (HF2.out.mono (by intro k hk _; simp at hk; simp [hk])).trans HF3.out (by intro k hk _; simp at hk; simp [hk])
        have hsz := HSZ.out
        have hsb := HFX1.out.size
        have hsc := HFY.out.size
        refine bodyPost_ret (v := .agg CY) (results_cell_row Tryd.results16 _ _ (w.heap.size + 1) 39 CY _ _ rfl HB3.out Tryd.underlying39 rfl HSZY.out) rfl ⟨y, by rw [← HCY.out]; rfl, fun S0 hS0 => ?_, (HF0.out.and HFZ.out (by simp)).and HFa (fun k hk => by simp at hk; omega)⟩
        have hS1 : ∀ (N : Nat) (B : List Nat), wa.heap.size ≤ N → ∀ q ∈ w.heap.size :: (w.heap.size + 1) :: S0, q < N ∨ q ∈ B := by
          intro N B hN q hq
          simp only [List.mem_cons] at hq
          rcases hq with h | h | h
          · exact .inl (by omega)
          · exact .inl (by omega)
          · have := hS0 q h; exact .inl (by omega)
        have hFb : Fr (w.heap.size :: (w.heap.size + 1) :: S0) wc w3 := HFa.mono (by intro k hk _; simp at hk; rcases hk with rfl | rfl <;> simp)
        have hin2 : ∀ k ∈ S0, k < wc.heap.size → k ∈ w.heap.size :: (w.heap.size + 1) :: S0 := fun k hk _ => by simp [hk]
        have hap : ∀ a : Addr, wa.heap.size ≤ a.block → ¬ a.block ∈ w.heap.size :: (w.heap.size + 1) :: S0 := by
          intro a ha hin
          simp only [List.mem_cons] at hin
          rcases hin with h | h | h
          · omega
          · omega
          · have := hS0 _ h; omega
        have bp : ∀ a, Ap = some a → wa.heap.size ≤ a.block := fun a ha => (HOp.out.lt a.block (by rw [bk_mem, ha]; simp [bk])).1
        have bq : ∀ a, Aq = some a → wa.heap.size ≤ a.block := fun a ha => by have := (HOq.out.lt a.block (by rw [bk_mem, ha]; simp [bk])).1; omega
        have br : ∀ a, Ar = some a → wa.heap.size ≤ a.block := fun a ha => by have := (HOr.out.lt a.block (by rw [bk_mem, ha]; simp [bk])).1; omega
        have ap0 : ∀ a : Addr, wa.heap.size ≤ a.block → ¬ a.block ∈ S0 := fun a ha hin => hap a ha (by simp [hin])
        have ap2 : ∀ a : Addr, wa.heap.size ≤ a.block → ¬ a.block ∈ [w.heap.size, w.heap.size + 1] := fun a ha hin => by simp at hin; omega
        rw [HY.out]
        refine ⟨HX.out.e, HX.out.t, ?_, hmp, fun _ a ha => ap0 a (bp a ha), ?_, hmq, fun _ a ha => ap0 a (bq a ha), ?_, hmr, fun _ a ha => ap0 a (br a ha)⟩
        · exact Lst.keep' (Lst.of_own (k := 6) (cells := Wpr.cells) (ok := fun (_ : World) (_ : Wpr) => True) HOp.out hlp (fun y hy => ⟨Wpr.len y, trivial⟩)) HFa (fun _ a ha => ap2 a (bp a ha)) (fun y hy _ => (HQp.out y hy _ (hS1 _ _ (Nat.le_refl _))).keep hFb hin2)
        · exact Lst.keep' (Lst.of_own (k := 34) (cells := Wop.cells) (ok := fun (_ : World) (_ : Wop) => True) HOq.out hlq (fun y hy => ⟨Wop.len (HQq.out y hy [] (by simp)).h, trivial⟩)) HFa (fun _ a ha => ap2 a (bq a ha)) (fun y hy _ => (HQq.out y hy _ (hS1 _ _ hsb)).keep hFb hin2)
        · exact Lst.keep' (Lst.of_own (k := 2) (cells := Wtb.cells) (ok := fun (_ : World) (_ : Wtb) => True) HOr.out hlr (fun y hy => ⟨rfl, trivial⟩)) HFa (fun _ a ha => ap2 a (br a ha)) (fun y hy _ => (HQr.out y hy _ (hS1 _ _ (by omega))).keep hFb hin2)
end Go.Proofs.YtdgbcdmooklciaaDoor

namespace Go.Proofs.YtdgbcdmooklciaaDoor
open Go.ChangeShapes Go.WideShapes Go.ChangeAt Go.RowKit
set_option maxRecDepth 100000
theorem promise_open {H : Type} {enc : TypeId × Value → H} {W : World} {r : Reach} {base b0 : Nat} {v : Value} {d : DataW H} {p : List MemPlace} {sp : Nat → Bool} {held : Bool} (hv : Value.okWide Tryd.prog W r base 62 v) (h : DataW.Trod enc Tryd.prog W b0 sp held 62 v d p) (hb : b0 = 0) :
    ∃ x : Wpr, x.In W ∧ v = x.val := by
  subst hb
  unfold Value.okWide at hv
  rw [Tryd.underlying62] at hv
  obtain ⟨cs, rfl, -⟩ := hv
  obtain ⟨fuel, hf⟩ := h
  obtain ⟨x, hx, e⟩ := promise_of_trod (show DataW.trod enc Tryd.prog W 0 sp held fuel 62 cs.toList = some (d, p) from hf)
  exact ⟨x, hx, by show Value.agg cs = Value.agg _; rw [← e, Array.toArray_toList]⟩
theorem cert_open {H : Type} {enc : TypeId × Value → H} {W : World} {r : Reach} {base b0 : Nat} {v : Value} {d : DataW H} {p : List MemPlace} {sp : Nat → Bool} {held : Bool} (hv : Value.okWide Tryd.prog W r base 59 v) (h : DataW.Trod enc Tryd.prog W b0 sp held 59 v d p) (hb : b0 = 0) :
    ∃ x : Wce, x.In W ∧ v = x.val := by
  subst hb
  unfold Value.okWide at hv
  rw [Tryd.underlying59] at hv
  obtain ⟨cs, rfl, -⟩ := hv
  obtain ⟨fuel, hf⟩ := h
  obtain ⟨x, hx, e⟩ := cert_of_trod (show DataW.trod enc Tryd.prog W 0 sp held fuel 59 cs.toList = some (d, p) from hf)
  exact ⟨x, hx, by show Value.agg cs = Value.agg _; rw [← e, Array.toArray_toList]⟩
theorem sig_open {H : Type} {enc : TypeId × Value → H} {W : World} {r : Reach} {base b0 : Nat} {v : Value} {d : DataW H} {p : List MemPlace} {sp : Nat → Bool} {held : Bool} (hv : Value.okWide Tryd.prog W r base 54 v) (h : DataW.Trod enc Tryd.prog W b0 sp held 54 v d p) (hb : b0 = 0) :
    ∃ c s : Int, i64In c ∧ i64In s ∧ v = .agg #[.int .i64 c, .int .i64 s] := by
  subst hb
  unfold Value.okWide at hv
  rw [Tryd.underlying54] at hv
  obtain ⟨cs, rfl, -⟩ := hv
  obtain ⟨fuel, hf⟩ := h
  obtain ⟨c, s, h1, h2, e⟩ := pair_of_trod Tryd.underlying54 ⟨rfl, rfl⟩ ⟨rfl, rfl⟩ (by kernel_rfl) (show DataW.trod enc Tryd.prog W 0 sp held fuel 54 cs.toList = some (d, p) from hf)
  exact ⟨c, s, h1, h2, by rw [← Array.toArray_toList (xs := cs), e]⟩
end Go.Proofs.YtdgbcdmooklciaaDoor

namespace Go.Proofs.YtdgbcdmooklciaaDoor
open Go.ChangeShapes Go.WideShapes Go.ChangeAt Go.RowKit
set_option maxRecDepth 100000
instance : Inhabited Wpr := ⟨⟨0, 0, 0, none, 0, 0, [], 0, 0⟩⟩
instance : Inhabited Wop := ⟨⟨0, none, 0, 0, [], []⟩⟩
instance : Inhabited Wtb := ⟨⟨0, none, 0, 0, []⟩⟩
theorem opening_of_trod {H : Type} {enc : TypeId × Value → H} {W : World} {sp : Nat → Bool} {held : Bool} {fuel : Nat} {cs : List Value} {x0 : DataW H × List MemPlace} (h : DataW.trod enc Tryd.prog W 0 sp held fuel 42 cs = some x0) :
    ∃ x : Wop, x.In W ∧ cs = x.cells := by
  obtain ⟨xs, m, _, _, hlen, hxl, hat⟩ := DataW.trod_struct Tryd.underlying42 h
  rw [show Tryd.prog.cellsOf 42 = 34 by kernel_rfl] at hlen
  have hx : ∀ i (hi : i < 3), xs[i]? = some (xs[i]'(by rw [hxl]; exact hi)) := fun i hi => List.getElem?_eq_getElem _
  have f0 : DataW.trod enc Tryd.prog W 0 sp held m 3 ((cs.drop 0).take (Tryd.prog.cellsOf 3)) = _ := (hat 0 _ rfl).trans (hx 0 (by omega))
  rw [show Tryd.prog.cellsOf 3 = 1 by kernel_rfl] at f0
  obtain ⟨a0, e0, _, w0⟩ := DataW.trod_int Tryd.underlying3 f0
  have f1 : DataW.trod enc Tryd.prog W 0 sp held m 23 ((cs.drop 1).take (Tryd.prog.cellsOf 23)) = _ := (hat 1 _ rfl).trans (hx 1 (by omega))
  rw [show Tryd.prog.cellsOf 23 = 1 by kernel_rfl] at f1
  obtain ⟨A1, n1, d1, e1⟩ := Go.Joins.slice_form Tryd.underlying23 f1
  rw [e1] at f1
  obtain ⟨l1, w1, m1, k1⟩ := by_of_trod f1
  have f2 : DataW.trod enc Tryd.prog W 0 sp held m 26 ((cs.drop 2).take (Tryd.prog.cellsOf 26)) = _ := (hat 2 _ rfl).trans (hx 2 (by omega))
  rw [show Tryd.prog.cellsOf 26 = 32 by kernel_rfl] at f2
  obtain ⟨a2, w2, e2⟩ := hash_of_trod f2
  refine ⟨⟨a0, A1, n1, d1, l1, a2⟩, ⟨i64In_of w0, w1, Nat.le_trans m1 k1, m1, w2⟩, ?_⟩
  have z : cs.drop 34 = [] := List.drop_eq_nil_of_le (by omega)
  have s0 : cs = cs.drop 0 := rfl
  rw [s0, cut_at cs 0 1 1 rfl, e0, cut_at cs 1 1 2 rfl, e1, cut_at cs 2 32 34 rfl, e2, z]
  simp [Wop.cells]
theorem tomb_of_trod {H : Type} {enc : TypeId × Value → H} {W : World} {sp : Nat → Bool} {held : Bool} {fuel : Nat} {cs : List Value} {x0 : DataW H × List MemPlace} (h : DataW.trod enc Tryd.prog W 0 sp held fuel 45 cs = some x0) :
    ∃ x : Wtb, x.In W ∧ cs = x.cells := by
  obtain ⟨xs, m, _, _, hlen, hxl, hat⟩ := DataW.trod_struct Tryd.underlying45 h
  rw [show Tryd.prog.cellsOf 45 = 2 by kernel_rfl] at hlen
  have hx : ∀ i (hi : i < 2), xs[i]? = some (xs[i]'(by rw [hxl]; exact hi)) := fun i hi => List.getElem?_eq_getElem _
  have f0 : DataW.trod enc Tryd.prog W 0 sp held m 3 ((cs.drop 0).take (Tryd.prog.cellsOf 3)) = _ := (hat 0 _ rfl).trans (hx 0 (by omega))
  rw [show Tryd.prog.cellsOf 3 = 1 by kernel_rfl] at f0
  obtain ⟨a0, e0, _, w0⟩ := DataW.trod_int Tryd.underlying3 f0
  have f1 : DataW.trod enc Tryd.prog W 0 sp held m 43 ((cs.drop 1).take (Tryd.prog.cellsOf 43)) = _ := (hat 1 _ rfl).trans (hx 1 (by omega))
  rw [show Tryd.prog.cellsOf 43 = 1 by kernel_rfl] at f1
  obtain ⟨A1, n1, d1, l1, e1, w1, m1, k1⟩ := lst_of_cells (cells := Wdn.cells) (ok := fun w v => v.Ok) (k := 4) Tryd.underlying43 (by kernel_rfl) (fun fuel cs x h => deny_of_trod h) f1
  refine ⟨⟨a0, A1, n1, d1, l1⟩, ⟨i64In_of w0, w1, Nat.le_trans m1 k1, m1⟩, ?_⟩
  have z : cs.drop 2 = [] := List.drop_eq_nil_of_le (by omega)
  have s0 : cs = cs.drop 0 := rfl
  rw [s0, cut_at cs 0 1 1 rfl, e0, cut_at cs 1 1 2 rfl, e1, z]
  simp [Wtb.cells]
theorem batch_of_trod {H : Type} {enc : TypeId × Value → H} {W : World} {sp : Nat → Bool} {held : Bool} {fuel : Nat} {cs : List Value} {x0 : DataW H × List MemPlace} (h : DataW.trod enc Tryd.prog W 0 sp held fuel 39 cs = some x0) :
    ∃ x : Wba, x.In W ∧ cs = x.cells := by
  obtain ⟨xs, m, _, _, hlen, hxl, hat⟩ := DataW.trod_struct Tryd.underlying39 h
  rw [show Tryd.prog.cellsOf 39 = 5 by kernel_rfl] at hlen
  have hx : ∀ i (hi : i < 5), xs[i]? = some (xs[i]'(by rw [hxl]; exact hi)) := fun i hi => List.getElem?_eq_getElem _
  have f0 : DataW.trod enc Tryd.prog W 0 sp held m 3 ((cs.drop 0).take (Tryd.prog.cellsOf 3)) = _ := (hat 0 _ rfl).trans (hx 0 (by omega))
  rw [show Tryd.prog.cellsOf 3 = 1 by kernel_rfl] at f0
  obtain ⟨a0, e0, _, w0⟩ := DataW.trod_int Tryd.underlying3 f0
  have f1 : DataW.trod enc Tryd.prog W 0 sp held m 34 ((cs.drop 1).take (Tryd.prog.cellsOf 34)) = _ := (hat 1 _ rfl).trans (hx 1 (by omega))
  rw [show Tryd.prog.cellsOf 34 = 1 by kernel_rfl] at f1
  obtain ⟨u1, e1, _, w1⟩ := DataW.trod_int Tryd.underlying34 f1
  obtain ⟨a1, rfl, b1⟩ := u64_of w1
  have f2 : DataW.trod enc Tryd.prog W 0 sp held m 35 ((cs.drop 2).take (Tryd.prog.cellsOf 35)) = _ := (hat 2 _ rfl).trans (hx 2 (by omega))
  rw [show Tryd.prog.cellsOf 35 = 1 by kernel_rfl] at f2
  obtain ⟨A2, n2, d2, l2, e2, w2, m2, k2⟩ := lst_of_cells (cells := Wpr.cells) (ok := fun w v => v.In w) (k := 6) Tryd.underlying35 (by kernel_rfl) (fun fuel cs x h => promise_of_trod h) f2
  have f3 : DataW.trod enc Tryd.prog W 0 sp held m 36 ((cs.drop 3).take (Tryd.prog.cellsOf 36)) = _ := (hat 3 _ rfl).trans (hx 3 (by omega))
  rw [show Tryd.prog.cellsOf 36 = 1 by kernel_rfl] at f3
  obtain ⟨A3, n3, d3, l3, e3, w3, m3, k3⟩ := lst_of_cells (cells := Wop.cells) (ok := fun w v => v.In w) (k := 34) Tryd.underlying36 (by kernel_rfl) (fun fuel cs x h => opening_of_trod h) f3
  have f4 : DataW.trod enc Tryd.prog W 0 sp held m 37 ((cs.drop 4).take (Tryd.prog.cellsOf 37)) = _ := (hat 4 _ rfl).trans (hx 4 (by omega))
  rw [show Tryd.prog.cellsOf 37 = 1 by kernel_rfl] at f4
  obtain ⟨A4, n4, d4, l4, e4, w4, m4, k4⟩ := lst_of_cells (cells := Wtb.cells) (ok := fun w v => v.In w) (k := 2) Tryd.underlying37 (by kernel_rfl) (fun fuel cs x h => tomb_of_trod h) f4
  refine ⟨⟨a0, a1, A2, n2, d2, l2, A3, n3, d3, l3, A4, n4, d4, l4⟩, ⟨i64In_of w0, b1, w2, Nat.le_trans m2 k2, w3, Nat.le_trans m3 k3, w4, Nat.le_trans m4 k4⟩, ?_⟩
  have z : cs.drop 5 = [] := List.drop_eq_nil_of_le (by omega)
  have s0 : cs = cs.drop 0 := rfl
  rw [s0, cut_at cs 0 1 1 rfl, e0, cut_at cs 1 1 2 rfl, e1, cut_at cs 2 1 3 rfl, e2, cut_at cs 3 1 4 rfl, e3, cut_at cs 4 1 5 rfl, e4, z]
  simp [Wba.cells]
theorem proposal_of_trod {H : Type} {enc : TypeId × Value → H} {W : World} {sp : Nat → Bool} {held : Bool} {fuel : Nat} {cs : List Value} {x0 : DataW H × List MemPlace} (h : DataW.trod enc Tryd.prog W 0 sp held fuel 85 cs = some x0) :
    ∃ x : Wpo, x.In W ∧ cs = x.cells := by
  obtain ⟨xs, m, _, _, hlen, hxl, hat⟩ := DataW.trod_struct Tryd.underlying85 h
  rw [show Tryd.prog.cellsOf 85 = 11 by kernel_rfl] at hlen
  have hx : ∀ i (hi : i < 6), xs[i]? = some (xs[i]'(by rw [hxl]; exact hi)) := fun i hi => List.getElem?_eq_getElem _
  have f0 : DataW.trod enc Tryd.prog W 0 sp held m 3 ((cs.drop 0).take (Tryd.prog.cellsOf 3)) = _ := (hat 0 _ rfl).trans (hx 0 (by omega))
  rw [show Tryd.prog.cellsOf 3 = 1 by kernel_rfl] at f0
  obtain ⟨a0, e0, _, w0⟩ := DataW.trod_int Tryd.underlying3 f0
  have f1 : DataW.trod enc Tryd.prog W 0 sp held m 3 ((cs.drop 1).take (Tryd.prog.cellsOf 3)) = _ := (hat 1 _ rfl).trans (hx 1 (by omega))
  rw [show Tryd.prog.cellsOf 3 = 1 by kernel_rfl] at f1
  obtain ⟨a1, e1, _, w1⟩ := DataW.trod_int Tryd.underlying3 f1
  have f2 : DataW.trod enc Tryd.prog W 0 sp held m 3 ((cs.drop 2).take (Tryd.prog.cellsOf 3)) = _ := (hat 2 _ rfl).trans (hx 2 (by omega))
  rw [show Tryd.prog.cellsOf 3 = 1 by kernel_rfl] at f2
  obtain ⟨a2, e2, _, w2⟩ := DataW.trod_int Tryd.underlying3 f2
  have f3 : DataW.trod enc Tryd.prog W 0 sp held m 3 ((cs.drop 3).take (Tryd.prog.cellsOf 3)) = _ := (hat 3 _ rfl).trans (hx 3 (by omega))
  rw [show Tryd.prog.cellsOf 3 = 1 by kernel_rfl] at f3
  obtain ⟨a3, e3, _, w3⟩ := DataW.trod_int Tryd.underlying3 f3
  have f4 : DataW.trod enc Tryd.prog W 0 sp held m 39 ((cs.drop 4).take (Tryd.prog.cellsOf 39)) = _ := (hat 4 _ rfl).trans (hx 4 (by omega))
  rw [show Tryd.prog.cellsOf 39 = 5 by kernel_rfl] at f4
  obtain ⟨a4, w4, e4⟩ := batch_of_trod f4
  have f5 : DataW.trod enc Tryd.prog W 0 sp held m 54 ((cs.drop 9).take (Tryd.prog.cellsOf 54)) = _ := (hat 5 _ rfl).trans (hx 5 (by omega))
  rw [show Tryd.prog.cellsOf 54 = 2 by kernel_rfl] at f5
  obtain ⟨a5, c5, w5, v5, e5⟩ := pair_of_trod Tryd.underlying54 ⟨rfl, rfl⟩ ⟨rfl, rfl⟩ (by kernel_rfl) f5
  refine ⟨⟨a0, a1, a2, a3, a4, a5, c5⟩, ⟨i64In_of w0, i64In_of w1, i64In_of w2, i64In_of w3, w4, w5, v5⟩, ?_⟩
  have z : cs.drop 11 = [] := List.drop_eq_nil_of_le (by omega)
  have s0 : cs = cs.drop 0 := rfl
  rw [s0, cut_at cs 0 1 1 rfl, e0, cut_at cs 1 1 2 rfl, e1, cut_at cs 2 1 3 rfl, e2, cut_at cs 3 1 4 rfl, e3, cut_at cs 4 5 9 rfl, e4, cut_at cs 9 2 11 rfl, e5, z]
  simp [Wpo.cells]
theorem batch_open {H : Type} {enc : TypeId × Value → H} {W : World} {r : Reach} {base b0 : Nat} {v : Value} {d : DataW H} {p : List MemPlace} {sp : Nat → Bool} {held : Bool} (hv : Value.okWide Tryd.prog W r base 39 v) (h : DataW.Trod enc Tryd.prog W b0 sp held 39 v d p) (hb : b0 = 0) :
    ∃ x : Wba, x.In W ∧ v = x.val := by
  subst hb
  unfold Value.okWide at hv
  rw [Tryd.underlying39] at hv
  obtain ⟨cs, rfl, -⟩ := hv
  obtain ⟨fuel, hf⟩ := h
  obtain ⟨x, hx, e⟩ := batch_of_trod (show DataW.trod enc Tryd.prog W 0 sp held fuel 39 cs.toList = some (d, p) from hf)
  exact ⟨x, hx, by show Value.agg cs = Value.agg _; rw [← e, Array.toArray_toList]⟩
theorem proposal_open {H : Type} {enc : TypeId × Value → H} {W : World} {r : Reach} {base b0 : Nat} {v : Value} {d : DataW H} {p : List MemPlace} {sp : Nat → Bool} {held : Bool} (hv : Value.okWide Tryd.prog W r base 85 v) (h : DataW.Trod enc Tryd.prog W b0 sp held 85 v d p) (hb : b0 = 0) :
    ∃ x : Wpo, x.In W ∧ v = x.val := by
  subst hb
  unfold Value.okWide at hv
  rw [Tryd.underlying85] at hv
  obtain ⟨cs, rfl, -⟩ := hv
  obtain ⟨fuel, hf⟩ := h
  obtain ⟨x, hx, e⟩ := proposal_of_trod (show DataW.trod enc Tryd.prog W 0 sp held fuel 85 cs.toList = some (d, p) from hf)
  exact ⟨x, hx, by show Value.agg cs = Value.agg _; rw [← e, Array.toArray_toList]⟩
end Go.Proofs.YtdgbcdmooklciaaDoor

namespace Go.Proofs.YtdgbcdmooklciaaDoor
open Go.RowKit
set_option maxRecDepth 100000
theorem exec_eql {P : Program} {ev : Operand → Value} {o : Oper} {w : World} (ty r : TypeId) (x y : Operand) (ho : o.op = .binOp .eql ty x y r) (C D : Array Value) (hx : ev x = .agg C) (hy : ev y = .agg D) (b : Bool)
    (hg : P.eqGuardType P.depth ty = false) (hq : (Op.equalIn 10000 ty (.agg C) (.agg D)).run P w = .ok b w) : (execOp ev o).run P w = .ok (.value (.bool b)) w := by
  have hq' : (Op.equal ty (.agg C) (.agg D)).run P w = .ok b w := hq
  unfold execOp
  simp only [ho, hx, hy]
  simp [eqGuard, binOp, hg, hq', Result.andThen]
theorem eql_at {P : Program} {l : List Oper} {Q : Exit → Act → World → Prop} {md : Region.Mode} {S : World → Prop} {fuel : Nat} {listed : Array Bool} {a : Act} {w : World}
    {i : Nat} {oi : Oper} (hi : nthOp l i = some oi) (ht : takeOk md l.toArray listed i = true) (hw : Region.wanted oi (yielded l.toArray a.tmps) = true)
    (ty r : TypeId) (x y : Operand) (ho : oi.op = .binOp .eql ty x y r) (C D : Array Value) (hx : a.eval x = .agg C) (hy : a.eval y = .agg D) (b : Bool) (hg : P.eqGuardType P.depth ty = false)
    (hq : ∀ w, (Op.equalIn 10000 ty (.agg C) (.agg D)).run P w = .ok b w)
    (hQ : ∀ c a w, Q (.panic c) (a.put oi.dst (.bool b)) w → Q (.panic c) a w) (hS : S w)
    (h : wpAnyH P md l.toArray Q S fuel (listed.setIfInBounds i true) (a.put oi.dst (.bool b)) w) : wpAnyH P md l.toArray Q S (fuel + 1) listed a w :=
  run_at hi ht hw hQ hS (fun _ _ => exec_eql ty r x y ho C D hx hy b hg (hq _)) h
theorem exec_neq {P : Program} {ev : Operand → Value} {o : Oper} {w : World} (ty r : TypeId) (x y : Operand) (ho : o.op = .binOp .neq ty x y r) (C D : Array Value) (hx : ev x = .agg C) (hy : ev y = .agg D) (b : Bool)
    (hg : P.eqGuardType P.depth ty = false) (hq : (Op.equalIn 10000 ty (.agg C) (.agg D)).run P w = .ok b w) : (execOp ev o).run P w = .ok (.value (.bool (!b))) w := by
  have hq' : (Op.equal ty (.agg C) (.agg D)).run P w = .ok b w := hq
  unfold execOp
  simp only [ho, hx, hy]
  simp [eqGuard, binOp, hg, hq', Result.andThen]
theorem neq_at {P : Program} {l : List Oper} {Q : Exit → Act → World → Prop} {md : Region.Mode} {S : World → Prop} {fuel : Nat} {listed : Array Bool} {a : Act} {w : World}
    {i : Nat} {oi : Oper} (hi : nthOp l i = some oi) (ht : takeOk md l.toArray listed i = true) (hw : Region.wanted oi (yielded l.toArray a.tmps) = true)
    (ty r : TypeId) (x y : Operand) (ho : oi.op = .binOp .neq ty x y r) (C D : Array Value) (hx : a.eval x = .agg C) (hy : a.eval y = .agg D) (b : Bool) (hg : P.eqGuardType P.depth ty = false)
    (hq : ∀ w, (Op.equalIn 10000 ty (.agg C) (.agg D)).run P w = .ok b w)
    (hQ : ∀ c a w, Q (.panic c) (a.put oi.dst (.bool (!b))) w → Q (.panic c) a w) (hS : S w)
    (h : wpAnyH P md l.toArray Q S fuel (listed.setIfInBounds i true) (a.put oi.dst (.bool (!b))) w) : wpAnyH P md l.toArray Q S (fuel + 1) listed a w :=
  run_at hi ht hw hQ hS (fun _ _ => exec_neq ty r x y ho C D hx hy b hg (hq _)) h
end Go.Proofs.YtdgbcdmooklciaaDoor

namespace Go.Proofs.YtdgbcdmooklciaaDoor
open Go.RowKit
set_option maxRecDepth 100000

theorem eqFields_bool {P : Program} {d : Nat} {xs ys : Array Value} {f : Field} {fs : List Field} {u v : Value} {b : Bool} {w : World} (hn : f.name ≠ "_") (p : (part f.type xs f.offset).run P w = .ok u w) (p' : (part f.type ys f.offset).run P w = .ok v w)
    (q : (Op.equalIn d f.type u v).run P w = .ok b w) : (Op.eqFields d xs ys (f :: fs)).run P w = if b then (Op.eqFields d xs ys fs).run P w else .ok false w := by
  rw [Op.eqFields, if_pos hn]
  simp only [Sem.run_bind, p, p', Result.andThen_ok, q]
  cases b <;> simp
def FieldsEq (P : Program) (w : World) (d : Nat) (C D : Array Value) : List (TypeId × Nat) → List Bool → Prop
  | [], [] => True
  | (t, o) :: fs, b :: bs => (∃ u v, (part t C o).run P w = .ok u w ∧ (part t D o).run P w = .ok v w ∧ (Op.equalIn d t u v).run P w = .ok b w) ∧ FieldsEq P w d C D fs bs
  | _, _ => False
theorem eqFields_all {P : Program} {w : World} {d : Nat} {C D : Array Value} : ∀ (fs : List Field) (l : List (TypeId × Nat)) (bs : List Bool), fs.map (fun f => (f.type, f.offset, f.name == "_")) = l.map (fun x => (x.1, x.2, false)) →
    FieldsEq P w d C D l bs → (Op.eqFields d C D fs).run P w = .ok (bs.all id) w
  | [], [], [], _, _ => rfl
  | [], [], _ :: _, _, h => h.elim
  | [], _ :: _, _, h, _ => by simp at h
  | _ :: _, [], _, h, _ => by simp at h
  | _ :: _, _ :: _, [], _, h => h.elim
  | f :: fs, (t, o) :: l, b :: bs, h, hb => by
    simp only [List.map_cons, List.cons.injEq, Prod.mk.injEq, beq_eq_false_iff_ne] at h
    obtain ⟨⟨rfl, rfl, hn⟩, h⟩ := h
    obtain ⟨⟨u, v, p, p', q⟩, hr⟩ := hb
    rw [eqFields_bool hn p p' q, eqFields_all fs l bs h hr]
    cases b <;> simp
theorem part_rowx (ty : TypeId) (n off : Nat) (xs ys zs : List Value) (h : RowTy Tryd.prog ty n) (hx : xs.length = off) (hy : ys.length = n) (w : World) : (part ty (xs ++ (ys ++ zs)).toArray off).run Tryd.prog w = .ok (.agg ys.toArray) w := by
  obtain ⟨h1, h2⟩ := h
  cases hu : Tryd.prog.underlying ty with
  | none => rw [hu] at h1; cases h1
  | some d =>
    rw [hu] at h1
    cases hi : Tryd.prog.info? ty with
    | none => rw [hi] at h2; cases h2
    | some i =>
      have hs : i.size = n := by simpa [hi] using h2
      have hagg : (isAgg ty).run Tryd.prog w = .ok true w := by
        unfold isAgg
        rw [Sem.run_bind, run_underlying hu w]
        cases d <;> simp_all
      unfold part
      simp [hagg, sizeOf, typeInfo, hi, hs]
      subst hx
      subst hy
      simp
theorem eql_hash (a b : List UInt8) (ha : a.length = 32) (hb : b.length = 32) (d : Nat) (w : World) : (Op.equalIn (d + 2) 26 (.agg (a.map by8).toArray) (.agg (b.map by8).toArray)).run Tryd.prog w = .ok (decide (a = b)) w := by
  have h := run_equalIn_bytes (P := Tryd.prog) w d 26 5 32 Tryd.underlying26 Tryd.underlying5 u8_size1 a b ha hb
  rw [show decide (a = b) = (a == b) by rw [Bool.eq_iff_iff]; simp]
  exact h
theorem eql_int (y z : Int) (d : Nat) (w : World) : (Op.equalIn (d + 1) 3 (.int .i64 y) (.int .i64 z)).run Tryd.prog w = .ok (decide (y = z)) w := by
  have h := run_equalIn_int (P := Tryd.prog) w d 3 .i64 .i64 y z Tryd.underlying3
  rw [show decide (y = z) = (y == z) by rw [Bool.eq_iff_iff]; simp]
  exact h
theorem eql_u64 (y z : Int) (d : Nat) (w : World) : (Op.equalIn (d + 1) 34 (.int .u64 y) (.int .u64 z)).run Tryd.prog w = .ok (decide (y = z)) w := by
  have h := run_equalIn_int (P := Tryd.prog) w d 34 .u64 .u64 y z Tryd.underlying34
  rw [show decide (y = z) = (y == z) by rw [Bool.eq_iff_iff]; simp]
  exact h
theorem part_int (off : Nat) (cs : Array Value) (v : Value) (hv : cs[off]? = some v) (w : World) : (part 3 cs off).run Tryd.prog w = .ok v w := run_part_plain w (by kernel_rfl) hv
theorem part_u64 (off : Nat) (cs : Array Value) (v : Value) (hv : cs[off]? = some v) (w : World) : (part 34 cs off).run Tryd.prog w = .ok v w := run_part_plain w (by kernel_rfl) hv
theorem eql_of {ty : TypeId} {d : Nat} {C D : Array Value} {w : World} {l : List (TypeId × Nat)} {bs : List Bool} (e : (Op.equalIn (d + 1) ty (.agg C) (.agg D)).run Tryd.prog w = (Op.eqFields d C D (Tryd.prog.fieldsOf ty).toList).run Tryd.prog w)
    (hfs : (Tryd.prog.fieldsOf ty).toList.map (fun f => (f.type, f.offset, f.name == "_")) = l.map (fun x => (x.1, x.2, false))) (hb : FieldsEq Tryd.prog w d C D l bs) : (Op.equalIn (d + 1) ty (.agg C) (.agg D)).run Tryd.prog w = .ok (bs.all id) w := by
  rw [e]
  exact eqFields_all _ l bs hfs hb
theorem eql_name (a b a' b' : Int) (d : Nat) (w : World) : (Op.equalIn (d + 2) 52 (.agg #[.int .i64 a, .int .i64 b]) (.agg #[.int .i64 a', .int .i64 b'])).run Tryd.prog w = .ok (decide (a = a') && decide (b = b')) w := by
  have h := eql_of (l := [(3, 0), (3, 1)]) (run_equalIn_struct w (d + 1) 52 #[.int .i64 a, .int .i64 b] #[.int .i64 a', .int .i64 b'] (by kernel_rfl) (by kernel_rfl)) (by kernel_rfl)
    (bs := [decide (a = a'), decide (b = b')]) ⟨⟨_, _, part_int 0 _ _ rfl w, part_int 0 _ _ rfl w, eql_int a a' d w⟩, ⟨_, _, part_int 1 _ _ rfl w, part_int 1 _ _ rfl w, eql_int b b' d w⟩, trivial⟩
  rw [h]
  simp
theorem eql_sig (a b a' b' : Int) (d : Nat) (w : World) : (Op.equalIn (d + 2) 54 (.agg #[.int .i64 a, .int .i64 b]) (.agg #[.int .i64 a', .int .i64 b'])).run Tryd.prog w = .ok (decide (a = a') && decide (b = b')) w := by
  have h := eql_of (l := [(3, 0), (3, 1)]) (run_equalIn_struct w (d + 1) 54 #[.int .i64 a, .int .i64 b] #[.int .i64 a', .int .i64 b'] (by kernel_rfl) (by kernel_rfl)) (by kernel_rfl)
    (bs := [decide (a = a'), decide (b = b')]) ⟨⟨_, _, part_int 0 _ _ rfl w, part_int 0 _ _ rfl w, eql_int a a' d w⟩, ⟨_, _, part_int 1 _ _ rfl w, part_int 1 _ _ rfl w, eql_int b b' d w⟩, trivial⟩
  rw [h]
  simp
def Wst.eqB (x y : Wst) : Bool := [decide (x.r = y.r), (decide (x.c = y.c) && decide (x.s = y.s)), decide (x.h = y.h), decide ((x.t : Int) = (y.t : Int)), (decide (x.b = y.b) && decide (x.m = y.m))].all id
theorem Wst.eqB_iff (x y : Wst) : x.eqB y = true ↔ x = y := by
  obtain ⟨_, _, _, _, _, _, _⟩ := x
  obtain ⟨_, _, _, _, _, _, _⟩ := y
  simp [Wst.eqB, Wst.mk.injEq, and_assoc]
  (try omega)
set_option maxHeartbeats 1000000 in
theorem eql_Wst (x y : Wst) (hx : x.h.length = 32) (hy : y.h.length = 32) (w : World) : (Op.equalIn 10000 79 (.agg x.cells.toArray) (.agg y.cells.toArray)).run Tryd.prog w = .ok (x.eqB y) w :=
  eql_of (d := 9999) (C := x.cells.toArray) (D := y.cells.toArray) (l := [(3, 0), (52, 1), (26, 3), (34, 35), (54, 36)]) (run_equalIn_struct w 9999 79 x.cells.toArray y.cells.toArray (by kernel_rfl) (by kernel_rfl)) (by kernel_rfl)
    (bs := [decide (x.r = y.r), (decide (x.c = y.c) && decide (x.s = y.s)), decide (x.h = y.h), decide ((x.t : Int) = (y.t : Int)), (decide (x.b = y.b) && decide (x.m = y.m))])
    ⟨⟨_, _, part_int 0 _ _ (show x.cells.toArray[0]? = some (.int .i64 x.r) from rfl) w, part_int 0 _ _ (show y.cells.toArray[0]? = some (.int .i64 y.r) from rfl) w, eql_int _ _ 9998 w⟩,
      ⟨_, _, (part_rowx 52 2 1 [.int .i64 x.r] [.int .i64 x.c, .int .i64 x.s] ([] ++ (x.h.map by8 ++ [.int .u64 (x.t : Int), .int .i64 x.b, .int .i64 x.m])) row_name rfl rfl w), (part_rowx 52 2 1 [.int .i64 y.r] [.int .i64 y.c, .int .i64 y.s] ([] ++ (y.h.map by8 ++ [.int .u64 (y.t : Int), .int .i64 y.b, .int .i64 y.m])) row_name rfl rfl w), eql_name _ _ _ _ 9997 w⟩,
      ⟨_, _, (part_rowx 26 32 3 [.int .i64 x.r, .int .i64 x.c, .int .i64 x.s] (x.h.map by8) [.int .u64 (x.t : Int), .int .i64 x.b, .int .i64 x.m] row_hash rfl (by rw [List.length_map]; exact hx) w), (part_rowx 26 32 3 [.int .i64 y.r, .int .i64 y.c, .int .i64 y.s] (y.h.map by8) [.int .u64 (y.t : Int), .int .i64 y.b, .int .i64 y.m] row_hash rfl (by rw [List.length_map]; exact hy) w), eql_hash x.h y.h hx hy 9997 w⟩,
      ⟨_, _, part_u64 35 _ _ (show x.cells.toArray[35]? = some (.int .u64 (x.t : Int)) by rw [List.getElem?_toArray]; exact post_cell [.int .i64 x.r, .int .i64 x.c, .int .i64 x.s] (x.h.map by8) [.int .u64 (x.t : Int), .int .i64 x.b, .int .i64 x.m] (by rw [List.length_map]; exact hx) 0 rfl) w, part_u64 35 _ _ (show y.cells.toArray[35]? = some (.int .u64 (y.t : Int)) by rw [List.getElem?_toArray]; exact post_cell [.int .i64 y.r, .int .i64 y.c, .int .i64 y.s] (y.h.map by8) [.int .u64 (y.t : Int), .int .i64 y.b, .int .i64 y.m] (by rw [List.length_map]; exact hy) 0 rfl) w, eql_u64 _ _ 9998 w⟩,
      ⟨_, _, (show (part 54 x.cells.toArray 36).run Tryd.prog w = .ok (.agg [.int .i64 x.b, .int .i64 x.m].toArray) w by rw [show x.cells = ([.int .i64 x.r, .int .i64 x.c, .int .i64 x.s] ++ (x.h.map by8 ++ [.int .u64 (x.t : Int)])) ++ ([.int .i64 x.b, .int .i64 x.m] ++ []) by simp [Wst.cells]]; exact part_rowx 54 2 36 _ _ _ row_sig (by simp [hx]) rfl w), (show (part 54 y.cells.toArray 36).run Tryd.prog w = .ok (.agg [.int .i64 y.b, .int .i64 y.m].toArray) w by rw [show y.cells = ([.int .i64 y.r, .int .i64 y.c, .int .i64 y.s] ++ (y.h.map by8 ++ [.int .u64 (y.t : Int)])) ++ ([.int .i64 y.b, .int .i64 y.m] ++ []) by simp [Wst.cells]]; exact part_rowx 54 2 36 _ _ _ row_sig (by simp [hy]) rfl w), eql_sig _ _ _ _ 9997 w⟩, trivial⟩
def Wvt.eqB (x y : Wvt) : Bool := [decide (x.k = y.k), decide (x.e = y.e), decide (x.r = y.r), decide (x.p = y.p), decide (x.h = y.h), (decide (x.b = y.b) && decide (x.m = y.m))].all id
theorem Wvt.eqB_iff (x y : Wvt) : x.eqB y = true ↔ x = y := by
  obtain ⟨_, _, _, _, _, _, _⟩ := x
  obtain ⟨_, _, _, _, _, _, _⟩ := y
  simp [Wvt.eqB, Wvt.mk.injEq, and_assoc]
  (try omega)
set_option maxHeartbeats 1000000 in
theorem eql_Wvt (x y : Wvt) (hx : x.h.length = 32) (hy : y.h.length = 32) (w : World) : (Op.equalIn 10000 87 (.agg x.cells.toArray) (.agg y.cells.toArray)).run Tryd.prog w = .ok (x.eqB y) w :=
  eql_of (d := 9999) (C := x.cells.toArray) (D := y.cells.toArray) (l := [(3, 0), (3, 1), (3, 2), (3, 3), (26, 4), (54, 36)]) (run_equalIn_struct w 9999 87 x.cells.toArray y.cells.toArray (by kernel_rfl) (by kernel_rfl)) (by kernel_rfl)
    (bs := [decide (x.k = y.k), decide (x.e = y.e), decide (x.r = y.r), decide (x.p = y.p), decide (x.h = y.h), (decide (x.b = y.b) && decide (x.m = y.m))])
    ⟨⟨_, _, part_int 0 _ _ (show x.cells.toArray[0]? = some (.int .i64 x.k) from rfl) w, part_int 0 _ _ (show y.cells.toArray[0]? = some (.int .i64 y.k) from rfl) w, eql_int _ _ 9998 w⟩,
      ⟨_, _, part_int 1 _ _ (show x.cells.toArray[1]? = some (.int .i64 x.e) from rfl) w, part_int 1 _ _ (show y.cells.toArray[1]? = some (.int .i64 y.e) from rfl) w, eql_int _ _ 9998 w⟩,
      ⟨_, _, part_int 2 _ _ (show x.cells.toArray[2]? = some (.int .i64 x.r) from rfl) w, part_int 2 _ _ (show y.cells.toArray[2]? = some (.int .i64 y.r) from rfl) w, eql_int _ _ 9998 w⟩,
      ⟨_, _, part_int 3 _ _ (show x.cells.toArray[3]? = some (.int .i64 x.p) from rfl) w, part_int 3 _ _ (show y.cells.toArray[3]? = some (.int .i64 y.p) from rfl) w, eql_int _ _ 9998 w⟩,
      ⟨_, _, (part_rowx 26 32 4 [.int .i64 x.k, .int .i64 x.e, .int .i64 x.r, .int .i64 x.p] (x.h.map by8) [.int .i64 x.b, .int .i64 x.m] row_hash rfl (by rw [List.length_map]; exact hx) w), (part_rowx 26 32 4 [.int .i64 y.k, .int .i64 y.e, .int .i64 y.r, .int .i64 y.p] (y.h.map by8) [.int .i64 y.b, .int .i64 y.m] row_hash rfl (by rw [List.length_map]; exact hy) w), eql_hash x.h y.h hx hy 9997 w⟩,
      ⟨_, _, (show (part 54 x.cells.toArray 36).run Tryd.prog w = .ok (.agg [.int .i64 x.b, .int .i64 x.m].toArray) w by rw [show x.cells = ([.int .i64 x.k, .int .i64 x.e, .int .i64 x.r, .int .i64 x.p] ++ (x.h.map by8 ++ [])) ++ ([.int .i64 x.b, .int .i64 x.m] ++ []) by simp [Wvt.cells]]; exact part_rowx 54 2 36 _ _ _ row_sig (by simp [hx]) rfl w), (show (part 54 y.cells.toArray 36).run Tryd.prog w = .ok (.agg [.int .i64 y.b, .int .i64 y.m].toArray) w by rw [show y.cells = ([.int .i64 y.k, .int .i64 y.e, .int .i64 y.r, .int .i64 y.p] ++ (y.h.map by8 ++ [])) ++ ([.int .i64 y.b, .int .i64 y.m] ++ []) by simp [Wvt.cells]]; exact part_rowx 54 2 36 _ _ _ row_sig (by simp [hy]) rfl w), eql_sig _ _ _ _ 9997 w⟩, trivial⟩
def Wdn.eqB (x y : Wdn) : Bool := [decide (x.r = y.r), decide (x.i = y.i), (decide (x.b = y.b) && decide (x.m = y.m))].all id
theorem Wdn.eqB_iff (x y : Wdn) : x.eqB y = true ↔ x = y := by
  obtain ⟨_, _, _, _⟩ := x
  obtain ⟨_, _, _, _⟩ := y
  simp [Wdn.eqB, Wdn.mk.injEq, and_assoc]
  (try omega)
set_option maxHeartbeats 1000000 in
theorem eql_Wdn (x y : Wdn) (w : World) : (Op.equalIn 10000 83 (.agg x.cells.toArray) (.agg y.cells.toArray)).run Tryd.prog w = .ok (x.eqB y) w :=
  eql_of (d := 9999) (C := x.cells.toArray) (D := y.cells.toArray) (l := [(3, 0), (3, 1), (54, 2)]) (run_equalIn_struct w 9999 83 x.cells.toArray y.cells.toArray (by kernel_rfl) (by kernel_rfl)) (by kernel_rfl)
    (bs := [decide (x.r = y.r), decide (x.i = y.i), (decide (x.b = y.b) && decide (x.m = y.m))])
    ⟨⟨_, _, part_int 0 _ _ (show x.cells.toArray[0]? = some (.int .i64 x.r) from rfl) w, part_int 0 _ _ (show y.cells.toArray[0]? = some (.int .i64 y.r) from rfl) w, eql_int _ _ 9998 w⟩,
      ⟨_, _, part_int 1 _ _ (show x.cells.toArray[1]? = some (.int .i64 x.i) from rfl) w, part_int 1 _ _ (show y.cells.toArray[1]? = some (.int .i64 y.i) from rfl) w, eql_int _ _ 9998 w⟩,
      ⟨_, _, (part_rowx 54 2 2 [.int .i64 x.r, .int .i64 x.i] [.int .i64 x.b, .int .i64 x.m] [] row_sig rfl rfl w), (part_rowx 54 2 2 [.int .i64 y.r, .int .i64 y.i] [.int .i64 y.b, .int .i64 y.m] [] row_sig rfl rfl w), eql_sig _ _ _ _ 9997 w⟩, trivial⟩
end Go.Proofs.YtdgbcdmooklciaaDoor

namespace Go.Proofs.YtdgbcdmooklciaaDoor
open Go.RowKit
set_option maxRecDepth 100000

def hh1 (u : UInt8) : List UInt8 := u :: List.replicate 31 0
def Wst.small (x : Wst) : Wst := ⟨x.r % 4, x.c % 3, x.s % 3, hh1 (x.h.getD 0 0 % 2), x.t % 3, 0, 0⟩
def Wvt.small (x : Wvt) : Wvt := ⟨1 + x.k % 2, x.e % 3, x.r % 3, x.p % 4, hh1 (x.h.getD 0 0 % 2), 0, 0⟩
theorem built_nm (c s : Int) : Tryd.prog.built 52 [(0, .int .i64 c), (1, .int .i64 s)] = some #[.int .i64 c, .int .i64 s] := by kernel_rfl
theorem built_h1 (u : UInt8) : Tryd.prog.built 26 [(0, by8 u)] = some ((hh1 u).map by8).toArray := by kernel_rfl
theorem built_st (r c s : Int) (u : UInt8) (t : Nat) : Tryd.prog.built 79 [(0, .int .i64 r), (1, .agg #[.int .i64 c, .int .i64 s]), (2, .agg ((hh1 u).map by8).toArray), (3, .int .u64 (t : Int))] = some (Wst.cells ⟨r, c, s, hh1 u, t, 0, 0⟩).toArray := by kernel_rfl
theorem built_vt (k e r p : Int) (u : UInt8) : Tryd.prog.built 87 [(0, .int .i64 k), (1, .int .i64 e), (2, .int .i64 r), (3, .int .i64 p), (4, .agg ((hh1 u).map by8).toArray)] = some (Wvt.cells ⟨k, e, r, p, hh1 u, 0, 0⟩).toArray := by kernel_rfl
theorem built_dn (r i : Int) : Tryd.prog.built 83 [(0, .int .i64 r), (1, .int .i64 i)] = some (Wdn.cells ⟨r, i, 0, 0⟩).toArray := by kernel_rfl
def zeroSt : Array Value := (Wst.cells ⟨0, 0, 0, List.replicate 32 0, 0, 0, 0⟩).toArray
def zeroVt : Array Value := (Wvt.cells ⟨0, 0, 0, 0, List.replicate 32 0, 0, 0⟩).toArray

-- votes
end Go.Proofs.YtdgbcdmooklciaaDoor

namespace Go.Proofs.YtdgbcdmooklciaaDoor
set_option maxRecDepth 100000
open Go.RowKit

set_option maxRecDepth 100000 in
set_option maxHeartbeats 1000000 in
theorem shawakes_any (w : World) (hK : KW w) : Calls Tryd.prog 14 #[] w fun e w' => e = .returned (.bool true) ∧ Fr [] w w' := by
  obtain ⟨rest, hrest⟩ : ∃ rest, sumL [] = 227 :: 176 :: 196 :: 66 :: rest := by
    have h := wakesum
    have hl := sumL_len []
    match hs : sumL [], h, hl with
    | a :: b :: c :: d :: r, h, _ =>
      simp at h
      obtain ⟨rfl, rfl, rfl, rfl⟩ := h
      exact ⟨r, rfl⟩
    | [], _, h => simp at h
    | [_], _, h => simp at h
    | [_, _], _, h => simp at h
    | [_, _, _], _, h => simp at h
  have HR := Lib.hid hrest
  have hlen := sumL_len []
  have hs := sum_any none 0 0 [] w (By.nil w none) (Nat.le_refl _) (by omega) hK
  generalize sumL [] = S at *
  have HLEN := Lib.hid hlen
  have HS := Lib.hid hs
  clear hrest hlen hs hK
  go_enter Tryd.func14, Tryd.ntmps14
  go_wp2_with fail
  refine HS.out.mono ?_
  rintro e w1 ⟨rfl, hf1⟩
  have HF1 := Lib.hid hf1
  clear hf1
  go_wp2_with (first
    | (refine wpList_store_box rfl 26 _ _ rfl _ 26 (S.map by8) rfl rfl (by rw [hash_sizeS, List.length_map, HLEN.out]) (by rw [List.length_map, HLEN.out]; rfl) (by8_one S) ?_
       intro wb hblk hfb
       have c0 : wb.cell? ⟨w1.heap.size, 0, none⟩ = some (.int .u8 227) := by rw [hblk.cell 0, HR.out]; rfl
       have c1 : wb.cell? ⟨w1.heap.size, 1, none⟩ = some (.int .u8 176) := by rw [hblk.cell 1, HR.out]; rfl
       have c2 : wb.cell? ⟨w1.heap.size, 2, none⟩ = some (.int .u8 196) := by rw [hblk.cell 2, HR.out]; rfl
       have c3 : wb.cell? ⟨w1.heap.size, 3, none⟩ = some (.int .u8 66) := by rw [hblk.cell 3, HR.out]; rfl
       have HFB := Lib.hid hfb
       clear hblk hfb))
  go_wp2
  go_ret
  exact ⟨rfl, HF1.out.trans HFB.out (by simp)⟩
end Go.Proofs.YtdgbcdmooklciaaDoor

namespace Go.Proofs.YtdgbcdmooklciaaDoor
set_option maxRecDepth 100000
open Go.ChangeShapes Go.WideShapes Go.ChangeAt Go.RowKit

theorem gK : Tryd.prog.globalNamed "gavel/sha.roundWords" = some 0 := by kernel_rfl
theorem tK : (Tryd.prog.globals[0]?).map (·.type) = some 140 := by kernel_rfl
theorem kay_lits {H : Type} : (Rows.laid_gavel_sha_roundWords : DataW H) = .agg (kay.map fun z => .lit (.int .u32 z)) := rfl
theorem kw_of_laid {W : World} (h : laidMetH Tryd.prog [("gavel/sha.roundWords", Rows.laid_gavel_sha_roundWords)] W) : KW W := by
  rw [MakeChecks.laidMetH_plain _ _ _ (by kernel_rfl)] at h
  obtain ⟨ps, ⟨g0, t0, cs0, f0, p0, q0, hg0, ht0, hv0, hd0, _, _⟩, _⟩ := h
  obtain rfl := Option.some.inj (gK.symm.trans hg0)
  obtain rfl := Option.some.inj (tK.symm.trans ht0)
  obtain ⟨xs, m1, rfl, hx1, hlen, hn3, hel⟩ := DataW.trod_array Tryd.underlying140 hd0
  have c1 : Tryd.prog.cellsOf 97 = 1 := by kernel_rfl
  have c64 : Tryd.prog.cellsOf 140 = 64 := by kernel_rfl
  rw [kay_lits] at hx1
  simp only [Prod.mk.injEq, DataW.agg.injEq] at hx1
  intro i hi
  have hw := World.var?_cell hg0 hv0 i
  have hl64 : cs0.toList.length = 64 := by rw [hlen, c64]
  have h1 := hel i hi
  have hxi : xs[i]? = some (xs[i]'(by omega)) := List.getElem?_eq_getElem _
  rw [hxi, c1, Nat.mul_one] at h1
  have hci : i < cs0.size := by simpa using (show i < cs0.toList.length by omega)
  have h2 : (cs0.toList.drop i).take 1 = [cs0[i]] := by
    rw [List.drop_eq_getElem_cons (by simpa using hci)]
    simp
  rw [h2] at h1
  obtain ⟨k, e1, e2, _⟩ := DataW.trod_int Tryd.underlying97 h1
  injection e1 with e1
  have hk : k = kay.getD i 0 := by
    have h3 : (xs.map (·.1))[i]? = (kay.map fun z => (.lit (.int .u32 z) : DataW _))[i]? := by rw [hx1.1]
    have hkl : i < kay.length := hi
    rw [List.getElem?_map, hxi, List.getElem?_map, List.getElem?_eq_getElem hkl] at h3
    simp only [Option.map_some, Option.some.injEq] at h3
    rw [e2] at h3
    simp only [DataW.lit.injEq, Lit.int.injEq] at h3
    rw [List.getD, List.getElem?_eq_getElem hkl]
    exact h3.2
  rw [hw, Array.getElem?_eq_getElem hci, e1, hk]
theorem door_met (os : Os) (args : Array Value) : laidMetH Tryd.prog [("gavel/sha.roundWords", Rows.laid_gavel_sha_roundWords)] ((World.doorLaid Tryd.prog 14 os).forCall (fun _ _ => 0) ⟨#[], args, []⟩).memory :=
  laidMetH_of_parts3 (fuel := 8) (laidMet_of_run' 8 (by kernel_rfl) (by kernel_rfl)) (by kernel_rfl) (by kernel_rfl)
theorem hash_open {H : Type} {enc : TypeId × Value → H} {W : World} {r : Reach} {base b0 : Nat} {v : Value} {d : DataW H} {p : List MemPlace} {sp : Nat → Bool} {held : Bool} (hv : Value.okWide Tryd.prog W r base 26 v) (h : DataW.Trod enc Tryd.prog W b0 sp held 26 v d p) (hb : b0 = 0) :
    ∃ l : List UInt8, l.length = 32 ∧ v = .agg (l.map by8).toArray := by
  subst hb
  unfold Value.okWide at hv
  rw [Tryd.underlying26] at hv
  obtain ⟨cs, rfl, -⟩ := hv
  obtain ⟨fuel, hf⟩ := h
  obtain ⟨l, hl, e⟩ := hash_of_trod (show DataW.trod enc Tryd.prog W 0 sp held fuel 26 cs.toList = some (d, p) from hf)
  exact ⟨l, hl, by rw [← e]⟩
theorem own : ownKnob Tryd.prog.godebug = none := by kernel_rfl
end Go.Proofs.YtdgbcdmooklciaaDoor
