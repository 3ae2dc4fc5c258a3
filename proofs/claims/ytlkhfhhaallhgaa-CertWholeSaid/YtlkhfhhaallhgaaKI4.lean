/- Texts that the proof stands on: Package cert: stamps put in order by their replicas. | Package cert: the first stamp of each replica. | Package cert: Make. | The document's MakeCert. -/
import Derived.Test.YtlkhfhhaallhgaaKI3
import Derived.Shelf.SlSortFuncK.SWK
import Derived.Shelf.SlSortCmp.NoneTotal
import Derived.Deep.DeepCutAuto
import Derived.Deep.CutBlock
set_option maxRecDepth 100000

namespace Go.Proofs.Ytlkhfhhaallhgaa
open Go.RowKit Go.Sort Go.Shelf
set_option maxRecDepth 100000

/-- stamps that may be -/
abbrev Stt := { x : Wst // x.Ok }
theorem zStc_ok : zStc.Ok := by
  have h0 : i64In 0 := ⟨by decide, by decide⟩
  exact ⟨h0, h0, h0, by simp [zStc], by decide, h0, h0⟩
instance : Inhabited Stt := ⟨⟨zStc, zStc_ok⟩⟩
def sttC (x : Stt) : List Value := x.1.cells
def sttCmp (x y : Stt) : Int := Lib.compareInt x.1.r y.1.r
theorem ltOf_stt (x y : Stt) : ltOf sttCmp x y = decide (x.1.r < y.1.r) := by
  unfold ltOf sttCmp Lib.compareInt
  by_cases h1 : x.1.r < y.1.r
  · simp [h1]
  · by_cases h2 : y.1.r < x.1.r <;> simp [h1, h2]
theorem swo_stt : SWO (ltOf sttCmp) where
  irrefl x := by rw [ltOf_stt]; simp
  trans x y z h1 h2 := by rw [ltOf_stt] at *; simp at *; omega
  ntrans x y z h1 h2 := by rw [ltOf_stt] at *; simp at *; omega
theorem nan_any (a : Int) (w : World) : Calls Try.prog 54 #[.int .i64 a] w fun e w' => e = .returned (.bool false) ∧ w' = w := by
  go_enter Try.func54, Try.ntmps54
  go_wp2
  go_ret
  exact ⟨rfl, rfl⟩
theorem cmpi_any (a b : Int) (w : World) : Calls Try.prog 41 #[.int .i64 a, .int .i64 b] w fun e w' => e = .returned (.int .i64 (Lib.compareInt a b)) ∧ w' = w := by
  have h1 := fun W => nan_any a W
  have h2 := fun W => nan_any b W
  unfold Lib.compareInt
  by_cases hab : a < b
  · have hd : decide (a < b) = true := by simp [hab]
    rw [if_pos hab]
    go_enter Try.func41, Try.ntmps41
    go_wp2_with (first | (refine (h1 _).mono ?_; rintro e w' ⟨rfl, rfl⟩) | (refine (h2 _).mono ?_; rintro e w' ⟨rfl, rfl⟩))
    go_ret
    exact ⟨rfl, rfl⟩
  · have hd : decide (a < b) = false := by simp [hab]
    rw [if_neg hab]
    by_cases hba : b < a
    · have hd2 : decide (b < a) = true := by simp [hba]
      rw [if_pos hba]
      go_enter Try.func41, Try.ntmps41
      go_wp2_with (first | (refine (h1 _).mono ?_; rintro e w' ⟨rfl, rfl⟩) | (refine (h2 _).mono ?_; rintro e w' ⟨rfl, rfl⟩))
      go_ret
      exact ⟨rfl, rfl⟩
    · have hd2 : decide (b < a) = false := by simp [hba]
      rw [if_neg hba]
      go_enter Try.func41, Try.ntmps41
      go_wp2_with (first | (refine (h1 _).mono ?_; rintro e w' ⟨rfl, rfl⟩) | (refine (h2 _).mono ?_; rintro e w' ⟨rfl, rfl⟩))
      go_ret
      exact ⟨rfl, rfl⟩
theorem byr_any (x y : Stt) (w : World) : Calls Try.prog 40 #[.agg (sttC x).toArray, .agg (sttC y).toArray] w fun e w' => e = .returned (.int .i64 (sttCmp x y)) ∧ ∃ q os', w' = grow (w.drewN q) os' := by
  have hb0 : Blk ((w.alloc (Obj.cells (sttC x).toArray 45)).alloc (Obj.cells (sttC y).toArray 45)) w.heap.size 45 (sttC x).toArray := blk_alloc (Blk.new _ _ _)
  have hb1 : Blk ((w.alloc (Obj.cells (sttC x).toArray 45)).alloc (Obj.cells (sttC y).toArray 45)) (w.heap.size + 1) 45 (sttC y).toArray := by
    simpa using Blk.new (w.alloc (Obj.cells (sttC x).toArray 45)) 45 (sttC y).toArray
  have h0 := (hb0.cell 0).trans (show (sttC x).toArray[0]? = some (.int .i64 x.1.r) from rfl)
  have h1 := (hb1.cell 0).trans (show (sttC y).toArray[0]? = some (.int .i64 y.1.r) from rfl)
  have hc := fun W => cmpi_any x.1.r y.1.r W
  clear hb0 hb1
  generalize hC : sttC x = C at *
  generalize hD : sttC y = D at *
  have hr : sttCmp x y = Lib.compareInt x.1.r y.1.r := rfl
  rw [hr]
  clear hr hC hD
  generalize Lib.compareInt x.1.r y.1.r = r at *
  go_enter Try.func40, Try.ntmps40
  go_wp2_with (refine (hc _).mono ?_; rintro e w' ⟨rfl, rfl⟩)
  go_ret
  exact ⟨rfl, 0, _, by rw [alloc_eq_grow, alloc_eq_grow, grow_grow]; rfl⟩
theorem sort_fr {α : Type} [Inhabited α] (enc : α → List Value) (k : Nat) (w : World) (blk off n : Nat) (d : Array α) (os : Array Obj) (hb : blk < w.heap.size) : Fr [blk] w (sortWorldK enc k w blk off n d os) := by
  refine ⟨rfl, rfl, rfl, size_sortWorldK_c enc k w blk off n d os, fun i hi hn => ?_⟩
  have hne : blk ≠ i := fun e => hn (by simp [e])
  unfold sortWorldK putRowK putRow mapBlock
  rw [heap_grow_old _ _ (by simpa [ahead] using hi)]
  simp [ahead, Array.getElem?_modify, hne]
theorem holds_of {w : World} {e : TypeId} {g n c : Nat} {l : List Wst} (h : w.ownsRow 0 e 38 (.slice (some ⟨g, 0, none⟩) n c) n (l.flatMap Wst.cells)) (d : Array Stt) (hd : d.toList.map (·.1) = l) (hdn : d.size = n) : HoldsK sttC 38 w g 0 d := by
  intro j hj
  rw [size_flatK] at hj
  have hi : j / 38 < d.size := by omega
  have hk : ∀ v ∈ l, (Wst.cells v).length = 38 := fun v hv => by
    rw [← hd] at hv
    obtain ⟨y, _, rfl⟩ := List.mem_map.1 hv
    exact Wst.len y.2.h
  have hl : l[j / 38]? = some (d[j / 38]!).1 := by rw [← hd]; simp [hi]
  have hx : (Wst.cells (d[j / 38]!).1)[j % 38]? = some ((sttC d[j / 38]!)[j % 38]!) := by
    have h1 : j % 38 < (sttC d[j / 38]!).length := by unfold sttC; rw [Wst.len (d[j / 38]!).2.h]; omega
    rw [getElem!_pos (sttC d[j / 38]!) (j % 38) h1]
    exact List.getElem?_eq_getElem h1
  have hf := flat_at hk hl hx
  rw [show j / 38 * 38 + j % 38 = j by omega] at hf
  rw [get_flatK _ _ _ _ hj, Nat.zero_add]
  have hc := h.cells (g := g) rfl j _ hf
  refine ⟨by
    have e : (⟨g, 0, none⟩ : Addr).add j = ⟨g, j, none⟩ := by unfold Addr.add; split <;> simp_all
    rw [← e]; exact hc, ?_⟩
  rcases h.2 with ⟨_, h0⟩ | ⟨g', cap', cur, hv', _, hh, _⟩
  · omega
  · injection hv' with e1
    injection e1 with e1
    injection e1 with e1
    subst e1
    simp [World.frozen?, hh]
theorem lst_of_holds {w : World} {g : Nat} {d : Array Stt} (h : HoldsK sttC 38 w g 0 d) : Lst 38 Wst.cells (fun _ v => v.Ok) w (some ⟨g, 0, none⟩) d.size (d.toList.map (·.1)) := by
  refine ⟨by simp, fun v hv => ?_, fun _ => ⟨_, rfl, fun i v hv j x hx => ?_⟩⟩
  · obtain ⟨y, _, rfl⟩ := List.mem_map.1 hv
    exact ⟨Wst.len y.2.h, y.2⟩
  · rw [List.getElem?_map] at hv
    obtain ⟨y, hy, rfl⟩ := Option.map_eq_some_iff.1 hv
    have hi : i < d.size := by have := (List.getElem?_eq_some_iff.1 hy).1; simpa using this
    have hy2 : d[i]! = y := by
      rw [getElem!_pos d i hi]
      simpa [hi] using hy
    have hj : j < 38 := by have := (List.getElem?_eq_some_iff.1 hx).1; rw [Wst.len y.2.h] at this; exact this
    have hlt : i * 38 + j < d.size * 38 := by omega
    have := (h (i * 38 + j) (by rw [size_flatK]; exact hlt)).1
    rw [get_flatK _ _ _ _ hlt, Nat.zero_add, show (i * 38 + j) / 38 = i by omega, show (i * 38 + j) % 38 = j by omega, hy2] at this
    have e : (⟨g, 0, none⟩ : Addr).add (i * 38 + j) = ⟨g, i * 38 + j, none⟩ := by unfold Addr.add; split <;> simp_all
    rw [e, this]
    have h1 : j < (sttC y).length := by unfold sttC; rw [Wst.len y.2.h]; exact hj
    rw [getElem!_pos (sttC y) j h1]
    have hq : (sttC y)[j]? = some ((sttC y)[j]'h1) := List.getElem?_eq_getElem h1
    exact hq.symm.trans hx
theorem stt_list0 : ∀ {l : List Wst}, (∀ s ∈ l, s.Ok) → ∃ d : List Stt, d.map (·.1) = l
  | [], _ => ⟨[], rfl⟩
  | x :: l, h =>
    have ⟨d, hd⟩ := stt_list0 (l := l) (fun s hs => h s (List.mem_cons_of_mem _ hs))
    ⟨⟨x, h x (by simp)⟩ :: d, by rw [List.map_cons, hd]⟩
theorem stt_list {l : List Wst} (h : ∀ s ∈ l, s.Ok) : ∃ d : Array Stt, d.toList.map (·.1) = l := by
  obtain ⟨d, hd⟩ := stt_list0 h
  exact ⟨d.toArray, by simpa using hd⟩
/-- slices.SortFunc of stamps, by replica -/
theorem sortst_any (g n c : Nat) (l : List Wst) (w : World) (e : TypeId) (h : w.ownsRow 0 e 38 (.slice (some ⟨g, 0, none⟩) n c) n (l.flatMap Wst.cells)) (hl : l.length = n) (hk : ∀ s ∈ l, s.Ok) (hg : g < w.heap.size) (hn : n ≤ 1000000) :
    Calls Try.prog 39 #[.slice (some ⟨g, 0, none⟩) n c, .func (.func 40) #[] #[]] w fun e w' =>
      e = .returned (.tuple #[]) ∧ ∃ m : List Wst, m.Perm l ∧ m.Pairwise (fun a b => a.r ≤ b.r) ∧ Lst 38 Wst.cells (fun _ v => v.Ok) w' (some ⟨g, 0, none⟩) n m ∧ Fr [g] w w' := by
  obtain ⟨d, hd⟩ := stt_list hk
  have hdn : d.size = n := by rw [← hl, ← hd]; simp
  have hH := holds_of h d hd hdn
  have eg : ∀ args w, (callFunc 40 args).run Try.prog w = .ok (.enter 40 args) w := enters_of Try.func40 (by kernel_rfl) rfl
  have hcon := AnyQ.slices_SortFunc sortSt_lays 38 Try.isAgg45 Try.sizeOf45 sttC (fun x => Wst.len x.2.h) (fun x v hv => Wst.one x.1 v hv) sttCmp swo_stt 40 #[] g 0 c d w eg (fun _ _ _ _ x y => byr_any x y _) hH hg (by omega)
  rw [hdn] at hcon
  refine hcon.mono ?_
  rintro e w' ⟨rfl, d', m, os, hp, hs, rfl⟩
  have hsz : d'.size = n := hp.1.trans hdn
  refine ⟨rfl, d'.toList.map (·.1), ?_, ?_, ?_, sort_fr sttC 38 w g 0 m d' os hg⟩
  · have := hp.2.2
    rw [← hd]
    refine List.Perm.map _ ?_
    have e1 : (d'.extract 0 n).toList = d'.toList := by rw [← hsz]; simp
    have e2 : (d.extract 0 n).toList = d.toList := by rw [← hdn]; simp
    rwa [e1, e2] at this
  · rw [List.pairwise_map, List.pairwise_iff_getElem]
    intro i j hi hj hij
    have := hs i j (Nat.zero_le _) hij (by rw [← hsz]; simpa using hj)
    rw [ltOf_stt, decide_eq_false_iff_not] at this
    simp only [Array.length_toList] at hi hj
    rw [getElem!_pos d' i hi, getElem!_pos d' j hj] at this
    simp only [Array.getElem_toList]
    omega
  · rw [← hsz]
    exact lst_of_holds (holdsK_sortWorldK_c sttC 38 w g 0 d d' m os hH hg (hp.1))
end Go.Proofs.Ytlkhfhhaallhgaa

namespace Go.Proofs.Ytlkhfhhaallhgaa
open Go.RowKit Go.Sort
set_option maxRecDepth 100000
theorem zeroUnit (w : World) : (zeroValue 92).run Try.prog w = .ok (.agg #[]) w := by kernel_rfl
theorem sz_unit : (Try.prog.info? 92).map (·.size) = some 0 := by kernel_rfl
theorem own_capm {w : World} {b : Nat} {e : TypeId} {k n c : Nat} {A : Option Addr} {xs : List Value} (h : w.ownsRow b e k (.slice A n c) n xs) : c ≤ maxLen := by
  rcases h.2 with ⟨h, h0⟩ | ⟨g, cap, cur, h1, h2, h3, h4, h5, _⟩
  · injection h with _ _ h; omega
  · injection h1 with _ _ e; omega
theorem foe_take (F : Int) (k : Wcm) (l : List Wst) {j : Nat} {v : Wst} (hv : l[j]? = some v) : foe F k (l.take (j + 1)) = foeStep F k (foe F k (l.take j)) v := by
  rw [List.take_add_one, hv]
  exact foe_snoc F k _ v
set_option maxHeartbeats 4000000 in
theorem foe_any (F kk : Int) (x : Wcm) (hx : x.Ok) (A : Option Addr) (n c : Nat) (l : List Wst) (w : World) (hr : Lst 38 Wst.cells (fun _ v => v.Ok) w A n l) (hn : n ≤ 1000) (C : List Value) (hC : x.cells = C) :
    Calls Try.prog 24 #[.agg #[.int .i64 F, .int .i64 kk], .agg C.toArray, .slice A n c] w fun e w' => ∃ (A' : Option Addr) (c' m : Nat) (d : List Wst), e = .returned (.slice A' m c') ∧ d.Perm (foe F x l) ∧ d.Pairwise (fun a b => a.r ≤ b.r) ∧
      Lst 38 Wst.cells (fun _ v => v.Ok) w' A' m d ∧ (m ≤ c' ∧ c' ≤ maxLen) ∧ (∀ y ∈ bk A', w.heap.size ≤ y) ∧ Fr [] w w' := by
  obtain ⟨wa, hwa⟩ : ∃ wa, wa = (w.alloc (Obj.cells #[.int .i64 F, .int .i64 kk] 27)).alloc (Obj.cells C.toArray 39) := ⟨_, rfl⟩
  have hf0 : Fr [] w wa := by rw [hwa]; exact ((Fr.refl [] w).alloc _).alloc _
  have hb0 : Blk wa (w.heap.size + 1) 39 C.toArray := by
    have := Blk.new (w.alloc (Obj.cells #[.int .i64 F, .int .i64 kk] 27)) 39 C.toArray
    rw [hwa]; simpa using this
  have hb1 : Blk wa w.heap.size 27 #[.int .i64 F, .int .i64 kk] := by rw [hwa]; exact blk_alloc (Blk.new _ _ _)
  have HCM : Hid (wa.rangeAt (w.heap.size + 1) 0 C) := Lib.hid hb0.range
  have HCF := Lib.hid hb1.range
  have HCL : Hid (C.length = 37) := Lib.hid (by rw [← hC]; exact Wcm.len hx.h)
  have HSB : Hid (w.heap.size + 1 < wa.heap.size) := Lib.hid hb0.lt
  have HX := Lib.hid hx
  have HR := Lib.hid (hr.keep hf0 (by simp) (fun _ _ h => h))
  have HF0 := Lib.hid hf0
  have HWA := Lib.hid hwa
  have HCC := Lib.hid hC
  clear hwa hf0 hb0 hb1 hx hr hC
  obtain ⟨wb, hwb⟩ : ∃ wb, wb = wa.alloc (.map #[] 0) := ⟨_, rfl⟩
  have HMB : Hid (MapAt intKey wb wa.heap.size (keyL (foe F x (l.take 0)))) := Lib.hid (by rw [hwb]; exact MapAt.made intKey wa)
  have HFB : Hid (Fr [] wa wb) := Lib.hid (by rw [hwb]; exact (Fr.refl [] wa).alloc _)
  have HSZB : Hid (wb.heap.size = wa.heap.size + 1) := Lib.hid (by rw [hwb]; simp)
  have HWB := Lib.hid hwb
  clear hwb
  have HMM := Lib.hid (@run_makeMap Try.prog)
  go_enter Try.func24, Try.ntmps24
  go_upto_region 1 with (fail)
  change Code.wp _ _ _ _ ((w.alloc (Obj.cells #[.int .i64 F, .int .i64 kk] 27)).alloc (Obj.cells C.toArray 39))
  rw [← HWA.out]
  have hmm := HMM.out
  go_upto_region 3 with (fail)
  rw [← HWB.out]
  clear hmm
  obtain ⟨b, hb⟩ : ∃ b, b = wa.heap.size := ⟨_, rfl⟩
  rw [← hb] at HMB HSZB ⊢
  have HB := Lib.hid hb
  clear hb
  have HBB : Hid (wa.heap.size ≤ b) := Lib.hid (by rw [HB.out]; exact Nat.le_refl _)
  go_wp2_with fail
  go_loopw [7, 16] (fun s i wr => ∃ (k m c9 : Nat) (A9 : Option Addr), k ≤ n ∧ i = .int .i64 k ∧ s = .slice A9 m c9 ∧ Hid (m = (foe F x (l.take k)).length) ∧ Hid (wr.ownsRow wb.heap.size 45 38 (.slice A9 m c9) m ((foe F x (l.take k)).flatMap Wst.cells)) ∧
    Hid (MapAt intKey wr b (keyL (foe F x (l.take k)))) ∧ Hid (Fr [] wa wr) ∧ Hid (wb.heap.size ≤ wr.heap.size)) (fun _ i _ => n + 1 - (intOf i).toNat)
  case atStart => exact ⟨0, 0, 0, none, Nat.zero_le _, rfl, rfl, Lib.hid rfl, Lib.hid ⟨rfl, .inl ⟨rfl, rfl⟩⟩, HMB, HFB, Lib.hid (Nat.le_refl _)⟩
  case round =>
    obtain ⟨k, m, c9, A9, hk, rfl, rfl, HM, HO, HMAP, HF, HGE⟩ := hrel
    rename World => wr
    by_cases hkn : k < n
    case neg =>
      have hke : k = n := by omega
      have htk : l.take k = l := List.take_of_length_le (by rw [HR.out.1]; omega)
      rw [htk] at HM HO
      have hmn : m ≤ 1000 := by
        rw [HM.out]
        have := foe_len F x l
        rw [HR.out.1] at this
        omega
      have hall : Hid (∀ s ∈ foe F x l, s.Ok) := Lib.hid (fun s hs => (HR.out.2.1 s (foe_sub F x l s hs)).2)
      have HFW := Lib.hid (HF0.out.trans HF.out (by simp))
      have HCAP := Lib.hid (⟨own_capn HO.out, own_capm HO.out⟩ : m ≤ c9 ∧ c9 ≤ maxLen)
      rcases Nat.eq_zero_or_pos m with hm0 | hm0
      · subst hm0
        have hnil : foe F x l = [] := List.eq_nil_of_length_eq_zero HM.out.symm
        have hs := AnyF.slices_SortFunc_none sortSt_lays A9 c9 (.func (.func 40) #[] #[]) wr
        change Calls Try.prog 39 _ _ _ at hs
        have HGB : Hid (∀ y ∈ bk A9, w.heap.size ≤ y) := Lib.hid (fun y hy => by
          have := own_ge HO.out y hy
          have := HF0.out.size
          have := HFB.out.size
          omega)
        have HNIL := Lib.hid hnil
        clear hnil htk HO HM
        go_wp2_with fail
        refine hs.mono ?_
        rintro e w2 ⟨rfl, rfl⟩
        clear hs
        go_wp2_with fail
        go_ret
        exact ⟨A9, c9, 0, [], rfl, by rw [HNIL.out], List.Pairwise.nil, Lst.nil _, HCAP.out, HGB.out, HFW.out⟩
      · obtain ⟨g, rfl⟩ : ∃ g, A9 = some ⟨g, 0, none⟩ := by
          obtain ⟨g, cap, hv, _⟩ := HO.out.form hm0
          exact ⟨g, by injection hv⟩
        have hgl := (HO.out.lt g rfl).2
        have hge := own_ge HO.out g (by simp [bk])
        have hs := sortst_any g m c9 (foe F x l) wr _ (own_any HO.out (Nat.zero_le _)) HM.out.symm hall.out hgl (by omega)
        have HGB : Hid (wa.heap.size ≤ g ∧ w.heap.size ≤ g) := Lib.hid (by
          have := HF0.out.size
          have := HFB.out.size
          omega)
        clear hgl hge htk HO HM
        go_wp2_with fail
        refine hs.mono ?_
        rintro e w2 ⟨rfl, d, hp, hso, hl, hf2⟩
        have HP := Lib.hid hp
        have HSO := Lib.hid hso
        have HL := Lib.hid hl
        have HF2 := Lib.hid (HF0.out.trans (HF.out.and hf2 (by have := HGB.out; simp; omega)) (by simp))
        clear hp hso hl hf2 hs
        go_wp2_with fail
        go_ret
        exact ⟨_, c9, m, d, rfl, HP.out, HSO.out, HL.out, HCAP.out, (fun y hy => by simp [bk] at hy; subst hy; exact HGB.out.2), HF2.out⟩
    obtain ⟨ad, v, rfl, hv, hcl, hok, hcells⟩ := HR.out.at (i := k) hkn
    have HCELLS := Lib.hid (fun j u (hj : v.cells[j]? = some u) => HF.out.cell (hcells j u hj) (by simp))
    have HVL := Lib.hid hcl
    have HOK := Lib.hid hok
    have HV := Lib.hid hv
    clear hv hcl hok hcells
    go_upto_region 6 with (first
      | (refine wpList_cells rfl 45 _ rfl _ rfl v.cells HCELLS.out (row_stamp.of HVL.out) ?_)
      | (refine wpList_store_blk rfl 45 _ _ rfl wr.heap.size v.cells.toArray rfl rfl 45 zStc.cells.toArray (Blk.new wr _ _) (st_size HOK.out.h) (by rw [List.size_toArray, List.size_toArray, zStc_len, HVL.out]) v.all ?_; intro w1 hb1 hf1))
    simp only [Act.put]
    have hFA : Fr [wr.heap.size] wr w1 := ((Fr.refl [] wr).alloc (Obj.cells zStc.cells.toArray 45)).mono (T := [wr.heap.size]) (by simp) |>.trans hf1 (fun _ h _ => h)
    have HFA : Hid (Fr [] wa w1) := Lib.hid (HF.out.and hFA (by have := HF.out.size; simpa using this))
    have HVT := Lib.hid (Wst.at_of (by simpa using hb1.range) HOK.out.h)
    have HMAP1 := Lib.hid (HMAP.out.keep hFA (by have := HMAP.out.lt; simp; omega))
    have HO1 := Lib.hid (own_keep HO.out hFA (fun z hz => by have := own_lt HO.out z hz; simp; omega))
    have HSZ : Hid (wr.heap.size < w1.heap.size) := Lib.hid hb1.lt
    clear hb1 hf1 hFA
    obtain ⟨gs, hgs⟩ : ∃ gs, gs = wr.heap.size := ⟨_, rfl⟩
    rw [← hgs] at HVT HSZ HGE ⊢
    have HGS : Hid (wb.heap.size ≤ gs) := HGE
    clear hgs
    have HLK := Lib.hid (keyL_look (foe F x (l.take k)) v.r)
    have HI64 : Hid (i64In v.r) := Lib.hid HOK.out.r
    obtain ⟨B, hB⟩ : ∃ B, B = (foe F x (l.take k)).any (fun y => decide (y.r = v.r)) := ⟨_, rfl⟩
    rw [← hB] at HLK
    have HBE := Lib.hid hB
    clear hB
    have HLOOK : Hid (∀ W, Fr [] w1 W → (Instr.lookup 91 (.map (some b)) (.int .i64 v.r) true).run Try.prog W = .ok (.tuple #[.agg #[], .bool B]) W) := Lib.hid (fun W hW => by
      have := (HMAP1.out.keep hW (by simp)).look Try.underlying91 zeroUnit (x := v.r) HI64.out
      rw [HLK.out] at this
      refine this.trans ?_
      cases B <;> rfl)
    have hlook := HLOOK.out w1 (Fr.refl _ _)
    have h0 := HVT.out.r
    go_upto_region 7 with (fail)
    obtain ⟨w2, hw2⟩ : ∃ w2, w2 = w1.alloc (Obj.cells #[] 92) := ⟨_, rfl⟩
    have HFC : Hid (Fr [] w1 w2) := Lib.hid (by rw [hw2]; exact (Fr.refl [] w1).alloc _)
    have HSZ2 : Hid (gs < w2.heap.size) := Lib.hid (by have := HSZ.out; have := HFC.out.size; omega)
    rw [← hw2]
    clear hlook h0 hw2
    have HVT2 := Lib.hid (HVT.out.keep HFC.out (by simp))
    have HFD := Lib.hid (HFA.out.trans HFC.out (by simp))
    have hio := isof_any v x HOK.out HX.out v.cells C rfl HCC.out w2
    go_cut [40] (fun s wx => ∃ Q : Bool, s = .bool Q ∧ Hid (Q = foeB F x (foe F x (l.take k)) v) ∧ Hid (Fr [] w2 wx))
    case first =>
      cases B
      case true =>
        go_wp2_with fail
        go_meet
        exact ⟨_, rfl, Lib.hid (by unfold foeB; rw [← HBE.out]; rfl), Lib.hid (Fr.refl _ _)⟩
      case false =>
        cases hO : ofB v x
        case false =>
          rw [hO] at hio
          go_wp2_with (first
            | (refine wpList_midg rfl 45 _ rfl gs 0 rfl v.cells HVT2.out.all (row_stamp.of HVL.out) ?_)
            | (refine wpList_midg rfl 39 _ rfl (w.heap.size + 1) 0 rfl C (HFD.out.range HCM.out (by simp)) (row_cmt.of HCL.out) ?_)
            | (refine wpList_midg rfl 27 _ rfl w.heap.size 0 rfl _ (HFD.out.range HCF.out (by simp)) row_conf ?_))
          refine hio.mono ?_
          rintro e w3 ⟨rfl, hf3⟩
          go_wp2_with fail
          go_meet
          exact ⟨_, rfl, Lib.hid (by unfold foeB; rw [← HBE.out, hO]; rfl), Lib.hid hf3⟩
        case true =>
          rw [hO] at hio
          go_wp2_with (first
            | (refine wpList_midg rfl 45 _ rfl gs 0 rfl v.cells HVT2.out.all (row_stamp.of HVL.out) ?_)
            | (refine wpList_midg rfl 39 _ rfl (w.heap.size + 1) 0 rfl C (HFD.out.range HCM.out (by simp)) (row_cmt.of HCL.out) ?_)
            | (refine wpList_midg rfl 27 _ rfl w.heap.size 0 rfl _ (HFD.out.range HCF.out (by simp)) row_conf ?_))
          refine hio.mono ?_
          rintro e w3 ⟨rfl, hf3⟩
          have HF3 := Lib.hid hf3
          have hh := rhas_any F kk v.r HI64.out w3
          have h0 := (HVT2.out.keep hf3 (by simp)).r
          clear hf3 hio
          go_wp2_with (first
            | (refine wpList_midg rfl 27 _ rfl w.heap.size 0 rfl _ ((HFD.out.trans HF3.out (by simp)).range HCF.out (by simp)) row_conf ?_))
          refine hh.mono ?_
          rintro e w4 ⟨rfl, hf4⟩
          have HF4 := Lib.hid (HF3.out.trans hf4 (by simp))
          clear hf4 hh h0
          obtain ⟨Z, hZ⟩ : ∃ Z, Z = hasB F v.r := ⟨_, rfl⟩
          rw [← hZ]
          have HZ := Lib.hid hZ
          clear hZ
          cases Z
          · go_wp2_with fail
            go_meet
            exact ⟨_, rfl, Lib.hid (by unfold foeB; rw [← HBE.out, hO, ← HZ.out]; rfl), Lib.hid HF4.out⟩
          · go_wp2_with fail
            go_meet
            exact ⟨_, rfl, Lib.hid (by unfold foeB; rw [← HBE.out, hO, ← HZ.out]; rfl), Lib.hid HF4.out⟩
    case rest =>
    obtain ⟨Q, rfl, HQ, HFE⟩ := hcut
    rename World => w3
    clear hio
    have HFF := Lib.hid (HFD.out.trans HFE.out (by simp))
    have HF13 := Lib.hid (HFC.out.trans HFE.out (by simp))
    have HVT3 := Lib.hid (HVT2.out.keep HFE.out (by simp))
    have HMAP3 := Lib.hid (HMAP1.out.keep HF13.out (by simp))
    have HO3 := Lib.hid (own_keep HO1.out HF13.out (by simp))
    have HGE3 : Hid (wb.heap.size ≤ w3.heap.size) := Lib.hid (by have := HGS.out; have := HSZ2.out; have := HFE.out.size; omega)
    have hstep := foe_take F x l HV.out
    cases Q
    case true =>
      have HS : Hid (foe F x (l.take (k + 1)) = foe F x (l.take k)) := Lib.hid (by rw [hstep]; unfold foeStep; rw [← HQ.out]; rfl)
      clear hstep
      go_wp2_with fail
      go_roundw
      case rel => exact ⟨k + 1, m, c9, A9, by omega, by go_num, rfl, Lib.hid (by rw [HS.out]; exact HM.out), Lib.hid (by rw [HS.out]; exact HO3.out), Lib.hid (by rw [HS.out]; exact HMAP3.out), HFF, HGE3⟩
      case measure => simp [intOf]; omega
    case false =>
      have HS : Hid (foe F x (l.take (k + 1)) = foe F x (l.take k) ++ [v]) := Lib.hid (by rw [hstep]; unfold foeStep; rw [← HQ.out]; rfl)
      clear hstep
      have hmk : m ≤ k := by
        rw [HM.out]
        refine Nat.le_trans (foe_len F x _) ?_
        rw [List.length_take]
        omega
      have hBf : B = false := by
        have := HQ.out
        unfold foeB at this
        rw [← HBE.out] at this
        cases B
        · rfl
        · cases this
      subst hBf
      obtain ⟨w4, hst, hmap4, hf4⟩ := HMAP3.out.store Try.underlying91 (by unfold keyL; rw [List.length_map, ← HM.out]; unfold maxLen; omega) (x := v.r) HI64.out (by rw [HLK.out]; rfl) (.agg #[])
      rw [← keyL_snoc, ← HS.out] at hmap4
      have hst : (Instr.mapUpdate 91 (.map (some b)) (.int .i64 v.r) (.agg #[])).run Try.prog w3 = .ok () w4 := hst
      have h0 := HVT3.out.r
      have HMAP4 := Lib.hid hmap4
      have HFF4 := Lib.hid (HFF.out.and hf4 (by have := HBB.out; simpa using this))
      have hgb : ¬ gs ∈ [b] := by have := HGS.out; have := HSZB.out; simp; omega
      have HVT4 := Lib.hid (HVT3.out.keep hf4 hgb)
      have HO4 := Lib.hid (own_keep HO3.out hf4 (fun z hz => by
        have h1 := own_ge HO3.out z ((bk_mem A9 m c9 z).1 hz)
        have := HSZB.out
        simp
        omega))
      have HGE4 : Hid (wb.heap.size ≤ w4.heap.size) := Lib.hid (Nat.le_trans HGE3.out hf4.size)
      clear hmap4 hf4 hgb
      obtain ⟨D, hD⟩ : ∃ D, v.cells = D := ⟨_, rfl⟩
      have HDL : Hid (38 = D.length) := Lib.hid (by rw [← hD]; exact HVL.out.symm)
      have HD1 : Hid (∀ u ∈ D, u.oneCell' = true) := Lib.hid (by rw [← hD]; exact v.one)
      have HDA : Hid (w4.rangeAt gs 0 D) := Lib.hid (by rw [← hD]; exact HVT4.out.all)
      have HDD := Lib.hid hD
      clear hD
      go_wp2_with (first
        | (refine wpList_midg rfl 45 _ rfl gs 0 rfl D HDA.out (row_stamp.of HDL.out.symm) ?_)
        | (refine wpList_build_one rfl 42 45 _ rfl Try.underlying42 D 80 (by rw [← HDL.out]; exact el_stamp) rfl (by rw [← HDL.out]; decide) (by rw [← HDL.out]; decide) ?_)
        | (at_builtin; refine Stop.mk ?_))
      refine Stop.go ?_
      refine wpList_append_one3 rfl _ _ 42 45 rfl Try.underlying42 38 80 el_stamp (by decide) wb.heap.size (.slice A9 m c9) m _ D rfl (HO4.out.alloc _) (by have := HGE4.out; simp; omega) HDL.out.symm HD1.out w4.heap.size 45 rfl (Blk.new w4 _ _) (by omega) (by decide) ?_
      intro A1 c1 w5 ho5 hf5 hb5
      have HO5 : Hid (w5.ownsRow wb.heap.size 45 38 (.slice A1 (m + 1) c1) (m + 1) ((foe F x (l.take (k + 1))).flatMap Wst.cells)) := Lib.hid (by
        rw [HS.out, List.flatMap_append]
        have e : [v].flatMap Wst.cells = D := by simp [HDD.out]
        rw [e]
        exact ho5)
      have hfz : Fr ((Value.slice A9 m c9).ownBlock.toList) w4 w5 := (((Fr.refl [] w4).alloc (Obj.cells D.toArray 45)).mono (T := (Value.slice A9 m c9).ownBlock.toList) (by simp)).trans hf5 (fun _ h _ => h)
      have HMAP5 := Lib.hid (HMAP4.out.keep hfz (fun hz => by
        rw [bk_own] at hz
        have := own_ge HO4.out b hz
        have := HSZB.out
        omega))
      have HF5 := Lib.hid (HFF4.out.and hfz (fun z hz => by
        rw [bk_own] at hz
        have := own_ge HO4.out z hz
        have := HSZB.out
        have := HBB.out
        omega))
      have HGE5 : Hid (wb.heap.size ≤ w5.heap.size) := Lib.hid (Nat.le_trans HGE4.out hfz.size)
      clear ho5 hf5 hb5 hfz
      go_wp2_with fail
      go_roundw
      case rel => exact ⟨k + 1, m + 1, c1, A1, by omega, by go_num, rfl, Lib.hid (by rw [HS.out, List.length_append, ← HM.out]; rfl), HO5, HMAP5, HF5, HGE5⟩
      case measure => simp [intOf]; omega
end Go.Proofs.Ytlkhfhhaallhgaa

namespace Go.Proofs.Ytlkhfhhaallhgaa
open Go.RowKit Go.Sort
set_option maxRecDepth 100000
theorem clip_any (A : Option Addr) (n c : Nat) (hc : n ≤ c) (hc2 : c ≤ 9223372036854775807) (w : World) :
    Calls Try.prog 26 #[.slice A n c] w fun e w' => e = .returned (.slice A n n) ∧ w' = w := by
  go_enter Try.func26, Try.ntmps26
  go_wp2
  go_ret
  exact ⟨rfl, rfl⟩
theorem wcm_cells (x : Wcm) : (cmOf x).cells = x.cells := rfl
theorem built_ce2 (y : Wcm) (hh : y.h.length = 32) (A : Option Addr) (n c : Nat) : Try.prog.built 48 [(0, .agg y.cells.toArray), (1, .slice A n c)] = some (y.cells ++ [Value.slice A n c]).toArray := by
  have hk : y.cells.length = 37 := Wcm.len hh
  rw [builtCe_eq, fill_step _ _ 0 0 37 _ _ rfl (by simp [Value.cells, hk]) (by show 0 + 37 ≤ 38; omega), fill_step _ _ 1 37 1 _ _ rfl rfl (by simp [splice, Value.cells, hk, Wce.cells, Wcm.cells, hh]), Instr.fill]
  congr 2
  have tk : ∀ n, 32 ≤ n → (y.h.map by8).take n = y.h.map by8 := fun n hn => List.take_of_length_le (by simp [hh]; omega)
  have dk : ∀ n, 32 ≤ n → (y.h.map by8).drop n = [] := fun n hn => List.drop_of_length_le (by simp [hh]; omega)
  simp [splice, Wce.cells, Wcm.cells, Value.cells, hh, List.drop_append, List.take_append, tk, dk]
theorem zCe_row : (ceZ.all (·.oneCell')) = true := by kernel_rfl
theorem zCe_sz : (Try.prog.info? 48).map (·.size) = some ceZ.size := by kernel_rfl
theorem zCe_built : Try.prog.built 48 [] = some ceZ := by kernel_rfl
set_option maxHeartbeats 4000000 in
theorem mkcert_any (Fn : Nat) (h1 : 1 ≤ Fn) (hF : Fn ≤ 1000) (kk : Int) (x : Wcm) (hx : x.Ok) (A : Option Addr) (n c : Nat) (l : List Wst) (w : World) (hr : Lst 38 Wst.cells (fun _ v => v.Ok) w A n l) (hn : n ≤ 1000) (C : List Value) (hC : x.cells = C) :
    Calls Try.prog 10 #[.agg #[.int .i64 (Fn : Int), .int .i64 kk], .agg C.toArray, .slice A n c] w fun e w' => Fr [] w w' ∧
      (((refL x l (3 * Fn + 1)).length < 2 * Fn + 1 ∧ e = .returned (.tuple #[.agg ceZ, .int .i64 8])) ∨
       (2 * Fn + 1 ≤ (refL x l (3 * Fn + 1)).length ∧ ∃ ad : Addr, e = .returned (.tuple #[.agg (C ++ [Value.slice (some ad) (2 * Fn + 1) (2 * Fn + 1)]).toArray, .int .i64 0]) ∧
         Lst 38 Wst.cells (fun _ v => v.Ok) w' (some ad) (2 * Fn + 1) ((refL x l (3 * Fn + 1)).take (2 * Fn + 1)) ∧ w.heap.size ≤ ad.block)) := by
  obtain ⟨wa, hwa⟩ : ∃ wa, wa = ((w.alloc (Obj.cells #[.int .i64 (Fn : Int), .int .i64 kk] 27)).alloc (Obj.cells C.toArray 39)).alloc (Obj.cells ceZ 48) := ⟨_, rfl⟩
  have hf0 : Fr [] w wa := by rw [hwa]; exact (((Fr.refl [] w).alloc _).alloc _).alloc _
  have hb0 : Blk wa (w.heap.size + 1) 39 C.toArray := by
    have := Blk.new (w.alloc (Obj.cells #[.int .i64 (Fn : Int), .int .i64 kk] 27)) 39 C.toArray
    rw [hwa]; exact blk_alloc (by simpa using this)
  have hb2 : Blk wa (w.heap.size + 2) 48 ceZ := by
    have := Blk.new ((w.alloc (Obj.cells #[.int .i64 (Fn : Int), .int .i64 kk] 27)).alloc (Obj.cells C.toArray 39)) 48 ceZ
    rw [hwa]; simpa using this
  have hb1 : Blk wa w.heap.size 27 #[.int .i64 (Fn : Int), .int .i64 kk] := by rw [hwa]; exact blk_alloc (blk_alloc (Blk.new _ _ _))
  have HCM : Hid (wa.rangeAt (w.heap.size + 1) 0 C) := Lib.hid hb0.range
  have HCF := Lib.hid hb1.range
  have HCE := Lib.hid hb2
  have HCL : Hid (C.length = 37) := Lib.hid (by rw [← hC]; exact Wcm.len hx.h)
  have hR : Lst 38 Wst.cells (fun _ v => v.Ok) wa A n l := hr.keep hf0 (by simp) (fun _ _ h => h)
  have HRR := Lib.hid hR
  have HSB : Hid (w.heap.size + 2 < wa.heap.size) := Lib.hid hb2.lt
  have HX := Lib.hid hx
  have HF0 := Lib.hid hf0
  have HWA := Lib.hid hwa
  have HCC := Lib.hid hC
  have HFO := Lib.hid (show 3 * (Fn : Int) + 1 = ((3 * Fn + 1 : Nat) : Int) by omega)
  have HN : Hid (l.length = n) := Lib.hid hr.1
  clear hwa hf0 hb0 hb1 hb2 hx hr hC hR
  obtain ⟨Q, hQ⟩ : ∃ Q, Q = 2 * Fn + 1 := ⟨_, rfl⟩
  have hQ1 : 1 ≤ Q := by omega
  have hQ2 : Q ≤ 2001 := by omega
  rw [← hQ]
  have HQ := Lib.hid hQ
  clear hQ
  obtain ⟨R, hR⟩ : ∃ R, R = refL x l (3 * Fn + 1) := ⟨_, rfl⟩
  rw [← hR]
  have HRE := Lib.hid hR
  clear hR
  go_enter Try.func10, Try.ntmps10
  go_upto_region 1 with (fail)
  change Code.wp _ _ _ _ (((w.alloc (Obj.cells #[.int .i64 (Fn : Int), .int .i64 kk] 27)).alloc (Obj.cells C.toArray 39)).alloc (Obj.cells ceZ 48))
  rw [← HWA.out]
  refine wp_region_held_drew (S := Fr [] wa) (by kernel_rfl) (Fr.drew (Fr.refl _ wa)) (fun hHeld => ?_)
  refine row_at (i := 0) rfl (by kernel_rfl) (by rfl) _ _ rfl _ _ rfl _ (fun w1 hw1 => hw1.range (HCF.out) (by first | (simp; done) | exact HNS.out | exact HNW.out | (intro hm; have hlt := HSB.out _ hm; (try dsimp only at hlt); omega))) (row_conf) (fun _ _ _ h => h) hHeld ?_
  simp only [Act.put, List.setIfInBounds_toArray, List.set_cons_zero, List.set_cons_succ]
  refine row_at (i := 1) rfl (by kernel_rfl) (by rfl) _ _ rfl _ _ rfl _ (fun w1 hw1 => hw1.range (HCM.out) (by first | (simp; done) | exact HNS.out | exact HNW.out | (intro hm; have hlt := HSB.out _ hm; (try dsimp only at hlt); omega))) (row_cmt.of HCL.out) (fun _ _ _ h => h) hHeld ?_
  simp only [Act.put, List.setIfInBounds_toArray, List.set_cons_zero, List.set_cons_succ]
  refine run_at (i := 2) (v := ?_) rfl (by kernel_rfl) (by rfl) (fun _ _ _ h => h) hHeld (fun w1 hw1 => ?_) ?_
  rotate_left 1
  · skip
    go_simp
    (try (first | with_reducible rfl | (apply And.intro <;> rfl)))
  simp only [Act.put, List.setIfInBounds_toArray, List.set_cons_zero, List.set_cons_succ]
  refine row_at (i := 4) rfl (by kernel_rfl) (by rfl) _ _ rfl _ _ rfl _ (fun w1 hw1 => hw1.range (HCF.out) (by first | (simp; done) | exact HNS.out | exact HNW.out | (intro hm; have hlt := HSB.out _ hm; (try dsimp only at hlt); omega))) (row_conf) (fun _ _ _ h => h) hHeld ?_
  simp only [Act.put, List.setIfInBounds_toArray, List.set_cons_zero, List.set_cons_succ]
  refine call_at (i := 3) (f := ?_) (args := ?_) rfl (by kernel_rfl) (by rfl) ?_ ?_
  rotate_left 2
  · go_simp
    (try (first | with_reducible rfl | (apply And.intro <;> rfl)))
  refine (foe_any (Fn : Int) kk x HX.out A n c l _ (HRR.out.keep hHeld (by simp) (fun _ _ h => h)) hn C HCC.out).mono ?_
  rintro e w1 ⟨A1, c1, m, d, rfl, hp, hso, hl, hmc, hbk, hf1⟩
  have HD : Hid (d = R) := Lib.hid ((foe_order HFO.out hp hso).trans HRE.out.symm)
  have HL := Lib.hid hl
  have HBK : Hid (∀ y ∈ bk A1, wa.heap.size ≤ y) := Lib.hid (fun y hy => Nat.le_trans hHeld.size (hbk y hy))
  have hmc1 := hmc.1
  have HCAP : Hid (c1 ≤ 9223372036854775807) := Lib.hid (by have := hmc.2; unfold maxLen at this; omega)
  have hmn : m ≤ 1000 := by
    have e1 := hp.length_eq
    have e2 := foe_len (Fn : Int) x l
    have e3 := hl.1
    have e4 := HN.out
    omega
  refine ⟨_, rfl, hHeld.and hf1 (by simp), fun hHeld => ?_⟩
  clear hp hso hl hbk hf1
  simp only [Act.put, List.setIfInBounds_toArray, List.set_cons_zero, List.set_cons_succ]
  refine call_at (i := 5) (f := ?_) (args := ?_) rfl (by kernel_rfl) (by rfl) ?_ ?_
  rotate_left 2
  · go_simp
    (try (first | with_reducible rfl | (apply And.intro <;> rfl)))
  have hq := quorum_any (Fn : Int) kk ⟨by omega, by omega⟩ w1
  rw [show (2 * (Fn : Int) + 1) = (Q : Int) by have := HQ.out; omega] at hq
  refine hq.mono ?_
  rintro e w2 ⟨rfl, hf2⟩
  have HL2 := Lib.hid (HL.out.keep hf2 (by simp) (fun _ _ h => h))
  refine ⟨_, rfl, hHeld.and hf2 (by simp), fun hHeld => ?_⟩
  clear hf2 hq
  simp only [Act.put, List.setIfInBounds_toArray, List.set_cons_zero, List.set_cons_succ]
  refine run_at (i := 6) (v := ?_) rfl (by kernel_rfl) (by rfl) (fun _ _ _ h => h) hHeld (fun w1 hw1 => ?_) ?_
  rotate_left 1
  · skip
    go_simp
    (try (first | with_reducible rfl | (apply And.intro <;> rfl)))
  simp only [Act.put, List.setIfInBounds_toArray, List.set_cons_zero, List.set_cons_succ]
  refine run_at (i := 7) (v := ?_) rfl (by kernel_rfl) (by rfl) (fun _ _ _ h => h) hHeld (fun w1 hw1 => ?_) ?_
  rotate_left 1
  · skip
    go_simp
    (try (first | with_reducible rfl | (apply And.intro <;> rfl)))
  simp only [Act.put, List.setIfInBounds_toArray, List.set_cons_zero, List.set_cons_succ]
  refine wpAnyH_done (by kernel_rfl) ?_ _
  have HF2 := Lib.hid hHeld
  clear hHeld
  have hd1 : decide ((Q : Int) < 1) = false := decide_eq_false (by omega)
  have HDL : Hid (R.length = m) := Lib.hid (by rw [← HD.out]; exact HL.out.1)
  by_cases hmq : m < Q
  · have hd2 : decide ((m : Int) < (Q : Int)) = true := decide_eq_true (by omega)
    have hd3 : decide (m < Q) = true := decide_eq_true hmq
    have HB := Lib.hid (HCE.out.keep HF2.out (by simp))
    go_wp2_with (first
      | (refine wpList_builtg rfl 48 _ rfl _ _ zCe_built rfl ?_)
      | (refine wpList_store_blk rfl 48 _ _ rfl (w.heap.size + 2) ceZ rfl rfl 48 ceZ HB.out zCe_sz rfl zCe_row ?_; intro w3 hb3 hf3))
    refine bodyPost_ret (v := .tuple #[.agg ceZ, .int .i64 8]) (results_ct Try.results10 _ _ (w.heap.size + 2) 48 _ _ _ (.int .i64 8) rfl rfl hb3 Try.underlying48 rfl zCe_sz) rfl ⟨(HF0.out.and HF2.out (by simp)).and hf3 (by simp), .inl ⟨by rw [HDL.out]; exact hmq, rfl⟩⟩
  · have hd2 : decide ((m : Int) < (Q : Int)) = false := decide_eq_false (by omega)
    have hd3 : decide (m < Q) = false := decide_eq_false hmq
    obtain ⟨ad, hA1, -⟩ := HL2.out.2.2 (by omega)
    subst hA1
    have hqm : (Q : Int) ≤ (m : Int) := by omega
    have hqc : (Q : Int) ≤ (c1 : Int) := by omega
    have hlt : ad.block < w2.heap.size := HL2.out.lt (by omega) (by decide) (fun v hv => Wst.len (HL2.out.2.1 v hv).2.h) ad rfl
    have HAD : Hid (w.heap.size + 3 ≤ ad.block ∧ ad.block < w2.heap.size) := Lib.hid (by
      have h1 := HBK.out ad.block (by simp [bk])
      have h2 := HSB.out
      exact ⟨by omega, hlt⟩)
    have HB := Lib.hid (HCE.out.keep HF2.out (by simp))
    have HLT : Hid (Lst 38 Wst.cells (fun _ v => v.Ok) w2 (some ad) Q (d.take Q)) := Lib.hid (HL2.out.take (by omega))
    clear hlt
    have HCMX := Lib.hid (HF2.out.range HCM.out (by simp))
    have HBU := Lib.hid (built_ce2 x HX.out.h (some ad) Q Q)
    rw [HCC.out] at HBU
    have hone : ∀ u ∈ C ++ [Value.slice (some ad) Q Q], u.oneCell' = true := by
      have h := Wce.one ⟨x, some ad, Q, Q, []⟩
      rw [show Wce.cells ⟨x, some ad, Q, Q, []⟩ = C ++ [Value.slice (some ad) Q Q] by unfold Wce.cells; rw [HCC.out]] at h
      exact h
    have HONE := Lib.hid hone
    have HSI : Hid ((Try.prog.info? 48).map (·.size) = some (C ++ [Value.slice (some ad) Q Q]).toArray.size) := Lib.hid (by rw [List.size_toArray, List.length_append, HCL.out]; kernel_rfl)
    have HSO : Hid (ceZ.size = (C ++ [Value.slice (some ad) Q Q]).toArray.size) := Lib.hid (by rw [show ceZ.size = 38 from rfl, List.size_toArray, List.length_append, HCL.out]; rfl)
    have HHB : Hid (w.heap.size + 2 ≠ ad.block) := Lib.hid (by have := HAD.out; omega)
    clear hone
    go_upto_region 4 with (fail)
    refine wp_region_till 6 (Fr [w.heap.size + 2] w2) (Fr [] w2) (by kernel_rfl) (Fr.drew (Fr.refl _ w2)) (Fr.drew (Fr.refl _ w2)) (fun hA hB => ?_)
    refine till_row (i := 0) rfl (by kernel_rfl) (by rfl) _ _ rfl _ _ rfl _ (fun w1 hw1 => hw1.range (HCMX.out) (by first | (simp; done) | exact HNS.out | exact HNW.out | (intro hm; have hlt := HSB.out _ hm; (try dsimp only at hlt); omega))) (row_cmt.of HCL.out) (fun _ _ _ h => h) hA hB ?_
    simp only [Act.put, List.setIfInBounds_toArray, List.set_cons_zero, List.set_cons_succ]
    refine till_run (i := 1) (v := ?_) rfl (by kernel_rfl) (by rfl) (fun _ _ _ h => h) hA hB (fun w1 hw1 => ?_) ?_
    rotate_left 1
    · skip
      go_simp
      (try (first | with_reducible rfl | (apply And.intro <;> rfl)))
    simp only [Act.put, List.setIfInBounds_toArray, List.set_cons_zero, List.set_cons_succ]
    refine till_run (i := 2) (v := ?_) rfl (by kernel_rfl) (by rfl) (fun _ _ _ h => h) hA hB (fun w1 hw1 => ?_) ?_
    rotate_left 1
    · skip
      go_simp
      (try (first | with_reducible rfl | (apply And.intro <;> rfl)))
    simp only [Act.put, List.setIfInBounds_toArray, List.set_cons_zero, List.set_cons_succ]
    refine till_run (i := 3) (v := ?_) rfl (by kernel_rfl) (by rfl) (fun _ _ _ h => h) hA hB (fun w1 hw1 => ?_) ?_
    rotate_left 1
    · skip
      go_simp
      (try (first | with_reducible rfl | (apply And.intro <;> rfl)))
    simp only [Act.put, List.setIfInBounds_toArray, List.set_cons_zero, List.set_cons_succ]
    refine till_call (i := 4) (f := ?_) (args := ?_) rfl (by kernel_rfl) (by rfl) ?_ ?_
    rotate_left 2
    · go_simp
      (try (first | with_reducible rfl | (apply And.intro <;> rfl)))
    refine (clip_any (some ad) Q c1 (by omega) HCAP.out _).mono ?_
    rintro e w3 ⟨rfl, rfl⟩
    refine ⟨_, rfl, ⟨hA, hB⟩, fun hB => ?_⟩
    simp only [Act.put, List.setIfInBounds_toArray, List.set_cons_zero, List.set_cons_succ]
    refine till_build (i := 5) rfl (by kernel_rfl) (by rfl) _ _ rfl _ _ (HBU.out) rfl (fun _ _ _ h => h) hA hB ?_
    simp only [Act.put, List.setIfInBounds_toArray, List.set_cons_zero, List.set_cons_succ]
    refine till_step (i := 6) rfl (by kernel_rfl) (by kernel_rfl) (by rfl) (fun K hK => ?_)
    refine wp_store_blk 48 _ _ rfl (w.heap.size + 2) (C ++ [Value.slice (some ad) Q Q]).toArray rfl rfl 48 ceZ (HB.out.keep hB (by simp)) HSI.out HSO.out (all_oneCell_toArray HONE.out) ?_
    intro w4 hb3 hf3
    refine hK.out _ _ (hA.trans hf3 (fun _ h _ => h)) (fun hA => ?_)
    clear hK K
    simp only [Act.put, List.setIfInBounds_toArray, List.set_cons_zero, List.set_cons_succ]
    refine till_step (i := 7) rfl (by kernel_rfl) (by kernel_rfl) (by rfl) (fun K hK => ?_)
    refine wp_run (v := ?_) (w' := ?_) ?_ ?_
    rotate_left 2
    · go_simp
      (try (first | with_reducible rfl | (apply And.intro <;> rfl)))
    refine hK.out _ _ hA (fun hA => ?_)
    clear hK K
    simp only [Act.put, List.setIfInBounds_toArray, List.set_cons_zero, List.set_cons_succ]
    refine till_done (by kernel_rfl) ?_ _
    go_wp2_with fail
    refine bodyPost_ret (v := .tuple #[.agg (C ++ [Value.slice (some ad) Q Q]).toArray, .int .i64 0]) (results_ct Try.results10 _ _ (w.heap.size + 2) 48 _ _ _ (.int .i64 0) rfl rfl hb3 Try.underlying48 rfl HSI.out) rfl ⟨(HF0.out.and HF2.out (by simp)).and hA (by simp), .inr ⟨by rw [HDL.out]; omega, ad, rfl, ?_, by have := HAD.out; omega⟩⟩
    rw [← HD.out]
    exact HLT.out.keep hA (fun a ha => by injection ha with ha; subst ha; have := HHB.out; simp; omega) (fun _ _ h => h)
end Go.Proofs.Ytlkhfhhaallhgaa

namespace Go.Proofs.Ytlkhfhhaallhgaa
open Go.RowKit Go.Sort
set_option maxRecDepth 100000
theorem row_cer3 : RowTy Try.prog 48 38 := ⟨by kernel_rfl, by kernel_rfl⟩
theorem till_cells {P : Program} {l : List Oper} {Q : Exit → Act → World → Prop} {md : Region.Mode} {T : Nat} {A B : World → Prop} {fuel : Nat} {L : Array Bool} {a : Act} {w : World} {i : Nat} {oi : Oper} (hi : nthOp l i = some oi) (ht : tillOk md l.toArray T L i = true) (hw : Region.wanted oi (yielded l.toArray a.tmps) = true)
    (ty : TypeId) (x : Operand) (ho : oi.op = .load ty x) (ad : Addr) (hx : a.eval x = .pointer (some ad)) (cs : List Value) (hc : ∀ w1, B w1 → ∀ j v, cs[j]? = some v → w1.cell? (ad.add j) = some v) (hr : RowTy P ty cs.length)
    (hQ : ∀ c a w, Q (.panic c) (a.put oi.dst (.agg cs.toArray)) w → Q (.panic c) a w) (hA : A w) (hB : B w)
    (h : wpTill P md l.toArray Q T A B fuel (L.setIfInBounds i true) (a.put oi.dst (.agg cs.toArray)) w) : wpTill P md l.toArray Q T A B (fuel + 1) L a w :=
  till_run hi ht hw hQ hA hB (fun w1 h1 => exec_cells ty x ho ad hx cs hr (hc w1 h1)) h
theorem elt_range {ad : Addr} {C : List Value} {w : World} (h : ∀ j u, C[j]? = some u → w.cell? (ad.add j) = some u) {p : Nat} (hp : 0 < p) {cs : List Value} (hc : ∀ j u, cs[j]? = some u → C[p + j]? = some u) : w.rangeAt ad.block (ad.off + p) cs := fun j u hu => by
  have := h (p + j) u (hc j u hu)
  rw [add_pos ad (by omega)] at this
  rw [Nat.add_assoc]
  exact this
theorem fst1_none {k : Wcm} {l : List Wst} {r : Int} {j : Nat} {v : Wst} (hv : l[j]? = some v) (h : fst1 k (l.take j) r = none) (hm : (decide (v.r = r) && ofB v k) = false) : fst1 k (l.take (j + 1)) r = none := by
  rw [List.take_add_one, hv]
  show fst1 k (l.take j ++ [v]) r = none
  rw [fst1_snoc, h, hm]
  rfl
theorem fst1_some {k : Wcm} {l : List Wst} {r : Int} {j : Nat} {v : Wst} (hv : l[j]? = some v) (h : fst1 k (l.take j) r = none) (hm : (decide (v.r = r) && ofB v k) = true) : fst1 k l r = some v := by
  have e : l = (l.take j ++ [v]) ++ l.drop (j + 1) := by
    have h1 : l.take j ++ [v] = l.take (j + 1) := by rw [List.take_add_one, hv]; rfl
    rw [h1, List.take_append_drop]
  rw [e]
  unfold fst1 at h ⊢
  rw [List.find?_append, List.find?_append, h]
  simp [hm]
set_option maxHeartbeats 8000000 in
theorem refmk_any (Fn : Nat) (h1 : 1 ≤ Fn) (hF : Fn ≤ 1000) (kk : Int) (x : Wcm) (hx : x.Ok) (A : Option Addr) (n c : Nat) (l : List Wst) (w : World) (hr : Lst 38 Wst.cells (fun _ v => v.Ok) w A n l) (hn : n ≤ 1000) (C : List Value) (hC : x.cells = C) :
    Calls Try.prog 14 #[.agg #[.int .i64 (Fn : Int), .int .i64 kk], .agg C.toArray, .slice A n c] w fun e w' => Fr [] w w' ∧
      (((refL x l (3 * Fn + 1)).length < 2 * Fn + 1 ∧ e = .returned (.tuple #[.agg ceZ, .bool false])) ∨
       (2 * Fn + 1 ≤ (refL x l (3 * Fn + 1)).length ∧ ∃ (A' : Option Addr) (c' : Nat), e = .returned (.tuple #[.agg (C ++ [Value.slice A' (2 * Fn + 1) c']).toArray, .bool true]) ∧
         Lst 38 Wst.cells (fun _ v => v.Ok) w' A' (2 * Fn + 1) ((refL x l (3 * Fn + 1)).take (2 * Fn + 1)))) := by
  obtain ⟨wa, hwa⟩ : ∃ wa, wa = ((w.alloc (Obj.cells #[.int .i64 (Fn : Int), .int .i64 kk] 27)).alloc (Obj.cells C.toArray 39)).alloc (Obj.cells ceZ 48) := ⟨_, rfl⟩
  have hf0 : Fr [] w wa := by rw [hwa]; exact (((Fr.refl [] w).alloc _).alloc _).alloc _
  have hb0 : Blk wa (w.heap.size + 1) 39 C.toArray := by
    have := Blk.new (w.alloc (Obj.cells #[.int .i64 (Fn : Int), .int .i64 kk] 27)) 39 C.toArray
    rw [hwa]; exact blk_alloc (by simpa using this)
  have hb2 : Blk wa (w.heap.size + 2) 48 ceZ := by
    have := Blk.new ((w.alloc (Obj.cells #[.int .i64 (Fn : Int), .int .i64 kk] 27)).alloc (Obj.cells C.toArray 39)) 48 ceZ
    rw [hwa]; simpa using this
  have hb1 : Blk wa w.heap.size 27 #[.int .i64 (Fn : Int), .int .i64 kk] := by rw [hwa]; exact blk_alloc (blk_alloc (Blk.new _ _ _))
  have HCM0 : Hid (wa.rangeAt (w.heap.size + 1) 0 C) := Lib.hid hb0.range
  have HCF0 := Lib.hid hb1.range
  have HCE0 := Lib.hid hb2
  have HCL : Hid (C.length = 37) := Lib.hid (by rw [← hC]; exact Wcm.len hx.h)
  have HCO : Hid (∀ u ∈ C, u.oneCell' = true) := Lib.hid (by rw [← hC]; exact Wcm.one x)
  have HRA := Lib.hid (hr.keep hf0 (by simp) (fun _ _ h => h))
  have HSB : Hid (w.heap.size + 2 < wa.heap.size) := Lib.hid hb2.lt
  have HX := Lib.hid hx
  have HF0 := Lib.hid hf0
  have HWA := Lib.hid hwa
  have HCC := Lib.hid hC
  have HN : Hid (l.length = n) := Lib.hid hr.1
  have HBU : Hid (Try.prog.built 48 [(0, .agg C.toArray)] = some (C ++ [Value.slice none 0 0]).toArray) := Lib.hid (by rw [← hC]; exact built_ceC (cmOf x) hx.h)
  have HCVL : Hid ((C ++ [Value.slice none 0 0]).length = 38) := Lib.hid (by rw [List.length_append, HCL.out]; rfl)
  have HCVO : Hid (∀ v ∈ C ++ [Value.slice none 0 0], v.oneCell' = true) := Lib.hid (fun v hv => by
    rcases List.mem_append.1 hv with h | h
    · exact HCO.out v h
    · rw [List.mem_singleton.1 h]; rfl)
  have HAL : Hid (0 < n → ∀ a, A = some a → a.block < w.heap.size) := Lib.hid (fun h => hr.lt h (by decide) (fun v hv => Wst.len (hr.2.1 v hv).2.h))
  clear hwa hf0 hb0 hb1 hb2 hx hr hC
  obtain ⟨Q, hQ⟩ : ∃ Q, Q = 2 * Fn + 1 := ⟨_, rfl⟩
  obtain ⟨N, hN⟩ : ∃ N, N = 3 * Fn + 1 := ⟨_, rfl⟩
  have hQ1 : 1 ≤ Q := by omega
  have hQ2 : Q ≤ 2001 := by omega
  have hN2 : N ≤ 3001 := by omega
  rw [← hQ, ← hN]
  have HQI : Hid (2 * (Fn : Int) + 1 = (Q : Int)) := Lib.hid (by omega)
  have HNI : Hid (3 * (Fn : Int) + 1 = (N : Int)) := Lib.hid (by omega)
  have HFB : Hid (-1099511627776 ≤ (Fn : Int) ∧ (Fn : Int) ≤ 1099511627776) := Lib.hid (by omega)
  have HCN : Hid (∀ W, Calls Try.prog 13 #[.agg #[.int .i64 (Fn : Int), .int .i64 kk]] W fun e w' => e = .returned (.int .i64 (N : Int)) ∧ Fr [] W w') := Lib.hid (fun W => by rw [← HNI.out]; exact refn_any (Fn : Int) kk HFB.out W)
  have HCQ : Hid (∀ W, Calls Try.prog 31 #[.agg #[.int .i64 (Fn : Int), .int .i64 kk]] W fun e w' => e = .returned (.int .i64 (Q : Int)) ∧ Fr [] W w') := Lib.hid (fun W => by rw [← HQI.out]; exact refquorum_any (Fn : Int) kk HFB.out W)
  clear hQ hN
  obtain ⟨R, hR⟩ : ∃ R, R = refL x l N := ⟨_, rfl⟩
  rw [← hR]
  have HRE := Lib.hid hR
  clear hR
  go_enter Try.func14, Try.ntmps14
  go_upto_region 1 with (fail)
  change Code.wp _ _ _ _ (((w.alloc (Obj.cells #[.int .i64 (Fn : Int), .int .i64 kk] 27)).alloc (Obj.cells C.toArray 39)).alloc (Obj.cells ceZ 48))
  rw [← HWA.out]
  go_upto_region 2 with (first
    | (refine wpList_row rfl 39 _ rfl _ _ rfl _ HCM0.out (row_cmt.of HCL.out) ?_)
    | (refine wpList_builtg rfl 48 _ rfl _ _ HBU.out rfl ?_)
    | (refine wpList_store_box rfl 48 _ _ rfl ceZ 48 (C ++ [Value.slice none 0 0]) rfl rfl (by rw [HCVL.out]; kernel_rfl) (by rw [HCVL.out]; rfl) HCVO.out ?_
       intro w3 hb7 hf7
       have HX3 := Lib.hid hb7
       have HF3 := Lib.hid hf7
       clear hb7 hf7))
  simp only [Act.put]
  generalize hg : wa.heap.size = g8 at *
  have HG8 : Hid (w.heap.size + 2 < g8) := HSB
  have HG83 : Hid (g8 < w3.heap.size) := Lib.hid HX3.out.lt
  clear hg
  have HF03 := Lib.hid (HF0.out.trans HF3.out (by simp))
  have HCM := Lib.hid (HF3.out.range HCM0.out (by simp))
  have HCF := Lib.hid (HF3.out.range HCF0.out (by simp))
  have HCE := Lib.hid (HCE0.out.keep HF3.out (by simp))
  have HRR := Lib.hid (HRA.out.keep HF3.out (by simp) (fun _ _ h => h))
  have HKA := Lib.hid (Wcm.at_of (by rw [HCC.out]; exact HCM.out) HX.out.h)
  clear HCM0 HCF0 HCE0 HRA HF0 HF3 HWA HBU HCVL HCVO
  have HX0 : Hid (Blk w3 g8 48 (C ++ [Value.slice none 0 0]).toArray) := HX3
  clear HX3
  go_upto_block 0 with (fail)
  go_cut [9] (fun _ wx => ∃ (m c9 : Nat) (A9 : Option Addr) (L : List Wst), m ≤ Q ∧ Hid (Blk wx g8 48 (C ++ [Value.slice A9 m c9]).toArray) ∧ Hid (L.length = m) ∧ Hid (wx.ownsRow w3.heap.size 45 38 (.slice A9 m c9) m (L.flatMap Wst.cells)) ∧ Hid (L = R.take m) ∧ Hid (m < Q → m = R.length) ∧ Hid (∀ v ∈ L, v.Ok) ∧ Hid (Fr [g8] w3 wx))
  case first =>
    go_wp2_with fail
    go_loopw [9] (fun i wr => ∃ (r m c9 : Nat) (A9 : Option Addr), r ≤ N ∧ i = .int .i64 r ∧ m ≤ Q ∧ Hid (Blk wr g8 48 (C ++ [Value.slice A9 m c9]).toArray) ∧ Hid ((refL x l r).length = m) ∧ Hid (wr.ownsRow w3.heap.size 45 38 (.slice A9 m c9) m ((refL x l r).flatMap Wst.cells)) ∧ Hid (Fr [g8] w3 wr)) (fun i _ => N + 1 - (intOf i).toNat)
    case atStart => exact ⟨0, 0, 0, none, Nat.zero_le _, rfl, Nat.zero_le _, HX0, Lib.hid rfl, Lib.hid ⟨rfl, .inl ⟨rfl, rfl⟩⟩, Lib.hid (Fr.refl _ _)⟩
    case round =>
      obtain ⟨r, m, c9, A9, hrN, rfl, hmQ, HB, HM, HO, HF⟩ := hrel
      rename World => wr
      have HOKS : Hid (∀ v ∈ refL x l r, v.Ok) := Lib.hid (fun v hv => (HRR.out.2.1 v (fst1_r ((refL_mem x l r v).1 hv).2.2).2.2).2)
      have HNG : Hid (∀ q ∈ bk A9, w3.heap.size ≤ q) := Lib.hid (own_ge HO.out)
      have HCFr := Lib.hid (HF.out.range HCF.out (by have := HG8.out; simp; omega))
      have h37 : wr.cell? ⟨g8, 37, none⟩ = some (.slice A9 m c9) := by
        rw [HB.out.cell 37, List.getElem?_toArray, List.getElem?_append_right (by have := HCL.out; omega), HCL.out]
        rfl
      have H37 := Lib.hid h37
      clear h37
      go_upto_region 3 with (fail)
      go_cut [24] (fun s wx => ∃ B : Bool, s = .bool B ∧ Hid (B = (decide (r < N) && decide (m < Q))) ∧ Hid (Fr [] wr wx))
      case first =>
        rename_i J K2 hJ hK2
        by_cases hrn : r < N
        · have hd : decide ((r : Int) < (N : Int)) = true := decide_eq_true (by omega)
          have hd' : decide (r < N) = true := decide_eq_true hrn
          refine wp_region_held_drew (S := Fr [] wr) (by kernel_rfl) (Fr.drew (Fr.refl _ wr)) (fun hHeld => ?_)
          refine run_at (i := 0) (v := ?_) rfl (by kernel_rfl) (by rfl) (fun _ _ _ h => h) hHeld (fun w1 hw1 => ?_) ?_
          rotate_left 1
          · skip
            go_simp
            (try (first | with_reducible rfl | (apply And.intro <;> rfl)))
          simp only [Act.put, List.setIfInBounds_toArray, List.set_cons_zero, List.set_cons_succ]
          refine row_at (i := 1) rfl (by kernel_rfl) (by rfl) _ _ rfl _ _ rfl _ (fun w1 hw1 => hw1.range (HCFr.out) (by first | (simp; done) | exact HNS.out | exact HNW.out | (intro hm; have hlt := HSB.out _ hm; (try dsimp only at hlt); omega))) (row_conf) (fun _ _ _ h => h) hHeld ?_
          simp only [Act.put, List.setIfInBounds_toArray, List.set_cons_zero, List.set_cons_succ]
          refine call_at (i := 2) (f := ?_) (args := ?_) rfl (by kernel_rfl) (by rfl) ?_ ?_
          rotate_left 2
          · go_simp
            (try (first | with_reducible rfl | (apply And.intro <;> rfl)))
          have hq := HCN.out
          refine (hq _).mono ?_
          rintro e w4 ⟨rfl, hf4⟩
          refine ⟨_, rfl, hHeld.and hf4 (by simp), fun hHeld => ?_⟩
          clear hf4 hq
          simp only [Act.put, List.setIfInBounds_toArray, List.set_cons_zero, List.set_cons_succ]
          refine run_at (i := 3) (v := ?_) rfl (by kernel_rfl) (by rfl) (fun _ _ _ h => h) hHeld (fun w1 hw1 => ?_) ?_
          rotate_left 1
          · skip
            go_simp
            (try (first | with_reducible rfl | (apply And.intro <;> rfl)))
          simp only [Act.put, List.setIfInBounds_toArray, List.set_cons_zero, List.set_cons_succ]
          refine run_at (i := 4) (v := ?_) rfl (by kernel_rfl) (by rfl) (fun _ _ _ h => h) hHeld (fun w1 hw1 => ?_) ?_
          rotate_left 1
          · skip
            go_simp
            (try (first | with_reducible rfl | (apply And.intro <;> rfl)))
          simp only [Act.put, List.setIfInBounds_toArray, List.set_cons_zero, List.set_cons_succ]
          refine run_at (i := 5) (v := ?_) rfl (by kernel_rfl) (by rfl) (fun _ _ _ h => h) hHeld (fun w1 hw1 => ?_) ?_
          rotate_left 1
          · skip
            go_simp
            (try (first | with_reducible rfl | (apply And.intro <;> rfl)))
          simp only [Act.put, List.setIfInBounds_toArray, List.set_cons_zero, List.set_cons_succ]
          refine run_at (i := 6) (v := ?_) rfl (by kernel_rfl) (by rfl) (fun _ _ _ h => h) hHeld (fun w1 hw1 => ?_) ?_
          rotate_left 1
          · skip
            have hcw0 := hw1.cell (H37.out) (by first | (simp; done) | exact HNS.out | exact HNW.out | (intro hm; have hlt := HSB.out _ hm; (try dsimp only at hlt); omega))
            go_simp
            (try (first | with_reducible rfl | (apply And.intro <;> rfl)))
          simp only [Act.put, List.setIfInBounds_toArray, List.set_cons_zero, List.set_cons_succ]
          refine run_at (i := 7) (v := ?_) rfl (by kernel_rfl) (by rfl) (fun _ _ _ h => h) hHeld (fun w1 hw1 => ?_) ?_
          rotate_left 1
          · skip
            go_simp
            (try (first | with_reducible rfl | (apply And.intro <;> rfl)))
          simp only [Act.put, List.setIfInBounds_toArray, List.set_cons_zero, List.set_cons_succ]
          refine row_at (i := 8) rfl (by kernel_rfl) (by rfl) _ _ rfl _ _ rfl _ (fun w1 hw1 => hw1.range (HCFr.out) (by first | (simp; done) | exact HNS.out | exact HNW.out | (intro hm; have hlt := HSB.out _ hm; (try dsimp only at hlt); omega))) (row_conf) (fun _ _ _ h => h) hHeld ?_
          simp only [Act.put, List.setIfInBounds_toArray, List.set_cons_zero, List.set_cons_succ]
          refine call_at (i := 9) (f := ?_) (args := ?_) rfl (by kernel_rfl) (by rfl) ?_ ?_
          rotate_left 2
          · go_simp
            (try (first | with_reducible rfl | (apply And.intro <;> rfl)))
          have hq := HCQ.out
          refine (hq _).mono ?_
          rintro e w5 ⟨rfl, hf5⟩
          refine ⟨_, rfl, hHeld.and hf5 (by simp), fun hHeld => ?_⟩
          clear hf5 hq
          simp only [Act.put, List.setIfInBounds_toArray, List.set_cons_zero, List.set_cons_succ]
          refine run_at (i := 10) (v := ?_) rfl (by kernel_rfl) (by rfl) (fun _ _ _ h => h) hHeld (fun w1 hw1 => ?_) ?_
          rotate_left 1
          · skip
            go_simp
            (try (first | with_reducible rfl | (apply And.intro <;> rfl)))
          simp only [Act.put, List.setIfInBounds_toArray, List.set_cons_zero, List.set_cons_succ]
          refine run_at (i := 11) (v := ?_) rfl (by kernel_rfl) (by rfl) (fun _ _ _ h => h) hHeld (fun w1 hw1 => ?_) ?_
          rotate_left 1
          · skip
            go_simp
            (try (first | with_reducible rfl | (apply And.intro <;> rfl)))
          simp only [Act.put, List.setIfInBounds_toArray, List.set_cons_zero, List.set_cons_succ]
          refine wpAnyH_done (by kernel_rfl) ?_ _
          refine hK2 _ _ (Met.intro (hJ _ _ ?_))
          repeat apply Exists.intro
          refine ⟨?_, rfl⟩
          exact ⟨_, rfl, Lib.hid (by rw [hd']; simp), Lib.hid hHeld⟩
        · have hd : decide ((r : Int) < (N : Int)) = false := decide_eq_false (by omega)
          have hd' : decide (r < N) = false := decide_eq_false hrn
          refine wp_region_held_drew (S := Fr [] wr) (by kernel_rfl) (Fr.drew (Fr.refl _ wr)) (fun hHeld => ?_)
          refine run_at (i := 0) (v := ?_) rfl (by kernel_rfl) (by rfl) (fun _ _ _ h => h) hHeld (fun w1 hw1 => ?_) ?_
          rotate_left 1
          · skip
            go_simp
            (try (first | with_reducible rfl | (apply And.intro <;> rfl)))
          simp only [Act.put, List.setIfInBounds_toArray, List.set_cons_zero, List.set_cons_succ]
          refine row_at (i := 1) rfl (by kernel_rfl) (by rfl) _ _ rfl _ _ rfl _ (fun w1 hw1 => hw1.range (HCFr.out) (by first | (simp; done) | exact HNS.out | exact HNW.out | (intro hm; have hlt := HSB.out _ hm; (try dsimp only at hlt); omega))) (row_conf) (fun _ _ _ h => h) hHeld ?_
          simp only [Act.put, List.setIfInBounds_toArray, List.set_cons_zero, List.set_cons_succ]
          refine call_at (i := 2) (f := ?_) (args := ?_) rfl (by kernel_rfl) (by rfl) ?_ ?_
          rotate_left 2
          · go_simp
            (try (first | with_reducible rfl | (apply And.intro <;> rfl)))
          have hq := HCN.out
          refine (hq _).mono ?_
          rintro e w4 ⟨rfl, hf4⟩
          refine ⟨_, rfl, hHeld.and hf4 (by simp), fun hHeld => ?_⟩
          clear hf4 hq
          simp only [Act.put, List.setIfInBounds_toArray, List.set_cons_zero, List.set_cons_succ]
          refine run_at (i := 3) (v := ?_) rfl (by kernel_rfl) (by rfl) (fun _ _ _ h => h) hHeld (fun w1 hw1 => ?_) ?_
          rotate_left 1
          · skip
            go_simp
            (try (first | with_reducible rfl | (apply And.intro <;> rfl)))
          simp only [Act.put, List.setIfInBounds_toArray, List.set_cons_zero, List.set_cons_succ]
          refine run_at (i := 4) (v := ?_) rfl (by kernel_rfl) (by rfl) (fun _ _ _ h => h) hHeld (fun w1 hw1 => ?_) ?_
          rotate_left 1
          · skip
            go_simp
            (try (first | with_reducible rfl | (apply And.intro <;> rfl)))
          simp only [Act.put, List.setIfInBounds_toArray, List.set_cons_zero, List.set_cons_succ]
          refine skip_at (i := 5) rfl (by kernel_rfl) (fun _ _ _ h => h) (by kernel_rfl) hHeld ?_
          simp only [Act.put, List.setIfInBounds_toArray, List.set_cons_zero, List.set_cons_succ]
          refine skip_at (i := 6) rfl (by kernel_rfl) (fun _ _ _ h => h) (by kernel_rfl) hHeld ?_
          simp only [Act.put, List.setIfInBounds_toArray, List.set_cons_zero, List.set_cons_succ]
          refine skip_at (i := 7) rfl (by kernel_rfl) (fun _ _ _ h => h) (by kernel_rfl) hHeld ?_
          simp only [Act.put, List.setIfInBounds_toArray, List.set_cons_zero, List.set_cons_succ]
          refine skip_at (i := 8) rfl (by kernel_rfl) (fun _ _ _ h => h) (by kernel_rfl) hHeld ?_
          simp only [Act.put, List.setIfInBounds_toArray, List.set_cons_zero, List.set_cons_succ]
          refine skip_at (i := 9) rfl (by kernel_rfl) (fun _ _ _ h => h) (by kernel_rfl) hHeld ?_
          simp only [Act.put, List.setIfInBounds_toArray, List.set_cons_zero, List.set_cons_succ]
          refine skip_at (i := 10) rfl (by kernel_rfl) (fun _ _ _ h => h) (by kernel_rfl) hHeld ?_
          simp only [Act.put, List.setIfInBounds_toArray, List.set_cons_zero, List.set_cons_succ]
          refine run_at (i := 11) (v := ?_) rfl (by kernel_rfl) (by rfl) (fun _ _ _ h => h) hHeld (fun w1 hw1 => ?_) ?_
          rotate_left 1
          · skip
            go_simp
            (try (first | with_reducible rfl | (apply And.intro <;> rfl)))
          simp only [Act.put, List.setIfInBounds_toArray, List.set_cons_zero, List.set_cons_succ]
          refine wpAnyH_done (by kernel_rfl) ?_ _
          refine hK2 _ _ (Met.intro (hJ _ _ ?_))
          repeat apply Exists.intro
          refine ⟨?_, rfl⟩
          exact ⟨_, rfl, Lib.hid (by rw [hd']; rfl), Lib.hid hHeld⟩
      case rest =>
      obtain ⟨B, rfl, HBE, HFE⟩ := hcut
      rename World => wx
      have HBx := Lib.hid (HB.out.keep HFE.out (by simp))
      have HOx := Lib.hid (own_keep HO.out HFE.out (by simp))
      have HFx := Lib.hid (HF.out.trans HFE.out (by simp))
      cases B
      case false =>
        have hmr : m < Q → m = R.length := fun h => by
          have := HBE.out
          have h2 : ¬ r < N := fun h3 => by simp [h, h3] at this
          have : r = N := by omega
          subst this
          rw [HRE.out]
          exact HM.out.symm
        have htk : refL x l r = R.take m := by rw [HRE.out, ← HM.out]; exact (refL_take hrN).symm
        have HMR := Lib.hid hmr
        have HTK := Lib.hid htk
        clear hmr htk
        go_wp2_with fail
        go_meet
        exact ⟨m, c9, A9, refL x l r, hmQ, HBx, HM, HOx, HTK, HMR, HOKS, HFx⟩
      case true =>
      have hrm : r < N ∧ m < Q := by have := HBE.out; simp at this; exact this
      obtain ⟨hrn, hmq⟩ := hrm
      have HRX : Hid (Lst 38 Wst.cells (fun _ v => v.Ok) wx A n l) := Lib.hid (HRR.out.keep' HFx.out (fun h a ha => by have := HAL.out h a ha; have := HG8.out; simp; omega) (fun _ _ h => h))
      go_upto_block 1 with (fail)
      go_cut [10, 29] (fun _ _ wy => ∃ (m' c' : Nat) (A' : Option Addr), m' ≤ Q ∧ Hid (Blk wy g8 48 (C ++ [Value.slice A' m' c']).toArray) ∧ Hid ((refL x l (r + 1)).length = m') ∧ Hid (wy.ownsRow w3.heap.size 45 38 (.slice A' m' c') m' ((refL x l (r + 1)).flatMap Wst.cells)) ∧ Hid (Fr [g8] w3 wy))
      case first =>
        go_wp2_with fail
        go_loopw [29] (fun i wz => ∃ k : Nat, k ≤ n ∧ i = .int .i64 k ∧ Hid (fst1 x (l.take k) (r : Int) = none) ∧ Hid (Fr [] wx wz)) (fun i _ => n + 1 - (intOf i).toNat)
        case atStart => exact ⟨0, Nat.zero_le _, rfl, Lib.hid rfl, Lib.hid (Fr.refl _ _)⟩
        case round =>
          obtain ⟨k, hk, rfl, HNO, HFz⟩ := hrel
          rename World => wz
          have HBz := Lib.hid (HBx.out.keep HFz.out (by simp))
          have HOz := Lib.hid (own_keep HOx.out HFz.out (by simp))
          have HFw := Lib.hid (HFx.out.trans HFz.out (by simp))
          by_cases hkn : k < n
          case neg =>
            have hRS : refL x l (r + 1) = refL x l r := by
              have h := HNO.out
              rw [List.take_of_length_le (by rw [HN.out]; omega)] at h
              rw [refL_succ, h]
              simp
            have HRS := Lib.hid hRS
            clear hRS
            go_wp2_with fail
            go_meet
            exact ⟨m, c9, A9, hmQ, HBz, Lib.hid (by rw [HRS.out]; exact HM.out), Lib.hid (by rw [HRS.out]; exact HOz.out), HFw⟩
          obtain ⟨ad, v, hA, hv, hcl, hok, hcells⟩ := HRX.out.at (i := k) hkn
          subst hA
          have HCELLS := Lib.hid (fun j u (hj : v.cells[j]? = some u) => HFz.out.cell (hcells j u hj) (by simp))
          have HVL := Lib.hid hcl
          have HOK := Lib.hid hok
          have HV := Lib.hid hv
          clear hv hcl hok hcells
          have HR0 : Hid (wz.cell? (ad.add (k * 38)) = some (.int .i64 v.r)) := Lib.hid (by
            have := HCELLS.out 0 _ rfl
            rw [add_add, Nat.add_zero] at this
            exact this)
          have HNM : Hid (wz.rangeAt (ad.add (k * 38)).block ((ad.add (k * 38)).off + 1) [.int .i64 v.c, .int .i64 v.s]) := Lib.hid (elt_range HCELLS.out (by decide) (fun j u hj => by
            rcases j with _ | j
            · exact hj
            rcases j with _ | j
            · exact hj
            · simp at hj))
          have HHS : Hid (wz.rangeAt (ad.add (k * 38)).block ((ad.add (k * 38)).off + 3) (v.h.map by8)) := Lib.hid (elt_range HCELLS.out (by decide) (fun j u hj => by
            have hlt := (List.getElem?_eq_some_iff.1 hj).1
            unfold Wst.cells
            rw [List.getElem?_append_right (by simp), List.getElem?_append_left (by simp at hlt ⊢; omega), ← hj]
            congr 1
            simp))
          have HFA : Hid (Fr [] wx wz) := HFz
          have HKN : Hid (wz.rangeAt (w.heap.size + 1) 0 [.int .i64 x.c, .int .i64 x.s]) := Lib.hid (HFw.out.range HKA.out.name (by have := HG8.out; simp; omega))
          have HKH : Hid (wz.rangeAt (w.heap.size + 1) 2 (x.h.map by8)) := Lib.hid (HFw.out.range HKA.out.hash (by have := HG8.out; simp; omega))
          have HQN : Hid (∀ W, (Op.equalIn 10000 23 (.agg #[.int .i64 v.c, .int .i64 v.s]) (.agg #[.int .i64 x.c, .int .i64 x.s])).run Try.prog W = .ok (nameB v x) W) := Lib.hid (fun W => eql_name v.c v.s x.c x.s 9998 W)
          have HQH : Hid (∀ W, (Op.equalIn 10000 35 (.agg (v.h.map by8).toArray) (.agg (x.h.map by8).toArray)).run Try.prog W = .ok (decide (v.h = x.h)) W) := Lib.hid (fun W => eql_hash v.h x.h HOK.out.h HX.out.h 9998 W)
          have HLV : Hid ((v.h.map by8).length = 32) := Lib.hid (by rw [List.length_map]; exact HOK.out.h)
          have HLK : Hid ((x.h.map by8).length = 32) := Lib.hid (by rw [List.length_map]; exact HX.out.h)
          have HOF := Lib.hid (show ofB v x = (nameB v x && decide (v.h = x.h)) from rfl)
          generalize nameB v x = BN at *
          generalize decide (v.h = x.h) = BH at *
          go_upto_region 8 with (fail)
          go_cut [58] (fun s wq => ∃ B : Bool, s = .bool B ∧ Hid (B = (decide (v.r = (r : Int)) && ofB v x)) ∧ Hid (Fr [] wz wq))
          case first =>
            rename_i J K2 hJ hK2
            by_cases hvr : v.r = (r : Int)
            case neg =>
              have hd : (v.r == (r : Int)) = false := by simp [hvr]
              refine wp_region_held_drew (S := Fr [] wz) (by kernel_rfl) (Fr.drew (Fr.refl _ wz)) (fun hHeld => ?_)
              refine run_at (i := 0) (v := ?_) rfl (by kernel_rfl) (by rfl) (fun _ _ _ h => h) hHeld (fun w1 hw1 => ?_) ?_
              rotate_left 1
              · skip
                go_simp
                (try (first | with_reducible rfl | (apply And.intro <;> rfl)))
              simp only [Act.put, List.setIfInBounds_toArray, List.set_cons_zero, List.set_cons_succ]
              refine run_at (i := 1) (v := ?_) rfl (by kernel_rfl) (by rfl) (fun _ _ _ h => h) hHeld (fun w1 hw1 => ?_) ?_
              rotate_left 1
              · skip
                go_simp
                (try (first | with_reducible rfl | (apply And.intro <;> rfl)))
              simp only [Act.put, List.setIfInBounds_toArray, List.set_cons_zero, List.set_cons_succ]
              refine run_at (i := 2) (v := ?_) rfl (by kernel_rfl) (by rfl) (fun _ _ _ h => h) hHeld (fun w1 hw1 => ?_) ?_
              rotate_left 1
              · skip
                go_simp
                (try (first | with_reducible rfl | (apply And.intro <;> rfl)))
              simp only [Act.put, List.setIfInBounds_toArray, List.set_cons_zero, List.set_cons_succ]
              refine run_at (i := 3) (v := ?_) rfl (by kernel_rfl) (by rfl) (fun _ _ _ h => h) hHeld (fun w1 hw1 => ?_) ?_
              rotate_left 1
              · skip
                go_simp
                (try (first | with_reducible rfl | (apply And.intro <;> rfl)))
              simp only [Act.put, List.setIfInBounds_toArray, List.set_cons_zero, List.set_cons_succ]
              refine run_at (i := 4) (v := ?_) rfl (by kernel_rfl) (by rfl) (fun _ _ _ h => h) hHeld (fun w1 hw1 => ?_) ?_
              rotate_left 1
              · skip
                have hcw0 := hw1.cell (HR0.out) (by first | (simp; done) | exact HNS.out | exact HNW.out | (intro hm; have hlt := HSB.out _ hm; (try dsimp only at hlt); omega))
                go_simp
                (try (first | with_reducible rfl | (apply And.intro <;> rfl)))
              simp only [Act.put, List.setIfInBounds_toArray, List.set_cons_zero, List.set_cons_succ]
              refine run_at (i := 5) (v := ?_) rfl (by kernel_rfl) (by rfl) (fun _ _ _ h => h) hHeld (fun w1 hw1 => ?_) ?_
              rotate_left 1
              · skip
                go_simp
                (try (first | with_reducible rfl | (apply And.intro <;> rfl)))
              simp only [Act.put, List.setIfInBounds_toArray, List.set_cons_zero, List.set_cons_succ]
              refine run_at (i := 6) (v := ?_) rfl (by kernel_rfl) (by rfl) (fun _ _ _ h => h) hHeld (fun w1 hw1 => ?_) ?_
              rotate_left 1
              · skip
                go_simp
                (try (first | with_reducible rfl | (apply And.intro <;> rfl)))
              simp only [Act.put, List.setIfInBounds_toArray, List.set_cons_zero, List.set_cons_succ]
              refine run_at (i := 7) (v := ?_) rfl (by kernel_rfl) (by rfl) (fun _ _ _ h => h) hHeld (fun w1 hw1 => ?_) ?_
              rotate_left 1
              · skip
                go_simp
                (try (first | with_reducible rfl | (apply And.intro <;> rfl)))
              simp only [Act.put, List.setIfInBounds_toArray, List.set_cons_zero, List.set_cons_succ]
              refine skip_at (i := 8) rfl (by kernel_rfl) (fun _ _ _ h => h) (by kernel_rfl) hHeld ?_
              simp only [Act.put, List.setIfInBounds_toArray, List.set_cons_zero, List.set_cons_succ]
              refine skip_at (i := 9) rfl (by kernel_rfl) (fun _ _ _ h => h) (by kernel_rfl) hHeld ?_
              simp only [Act.put, List.setIfInBounds_toArray, List.set_cons_zero, List.set_cons_succ]
              refine skip_at (i := 10) rfl (by kernel_rfl) (fun _ _ _ h => h) (by kernel_rfl) hHeld ?_
              simp only [Act.put, List.setIfInBounds_toArray, List.set_cons_zero, List.set_cons_succ]
              refine skip_at (i := 11) rfl (by kernel_rfl) (fun _ _ _ h => h) (by kernel_rfl) hHeld ?_
              simp only [Act.put, List.setIfInBounds_toArray, List.set_cons_zero, List.set_cons_succ]
              refine skip_at (i := 12) rfl (by kernel_rfl) (fun _ _ _ h => h) (by kernel_rfl) hHeld ?_
              simp only [Act.put, List.setIfInBounds_toArray, List.set_cons_zero, List.set_cons_succ]
              refine skip_at (i := 13) rfl (by kernel_rfl) (fun _ _ _ h => h) (by kernel_rfl) hHeld ?_
              simp only [Act.put, List.setIfInBounds_toArray, List.set_cons_zero, List.set_cons_succ]
              refine skip_at (i := 14) rfl (by kernel_rfl) (fun _ _ _ h => h) (by kernel_rfl) hHeld ?_
              simp only [Act.put, List.setIfInBounds_toArray, List.set_cons_zero, List.set_cons_succ]
              refine skip_at (i := 15) rfl (by kernel_rfl) (fun _ _ _ h => h) (by kernel_rfl) hHeld ?_
              simp only [Act.put, List.setIfInBounds_toArray, List.set_cons_zero, List.set_cons_succ]
              refine run_at (i := 16) (v := ?_) rfl (by kernel_rfl) (by rfl) (fun _ _ _ h => h) hHeld (fun w1 hw1 => ?_) ?_
              rotate_left 1
              · skip
                go_simp
                (try (first | with_reducible rfl | (apply And.intro <;> rfl)))
              simp only [Act.put, List.setIfInBounds_toArray, List.set_cons_zero, List.set_cons_succ]
              refine run_at (i := 17) (v := ?_) rfl (by kernel_rfl) (by rfl) (fun _ _ _ h => h) hHeld (fun w1 hw1 => ?_) ?_
              rotate_left 1
              · skip
                go_simp
                (try (first | with_reducible rfl | (apply And.intro <;> rfl)))
              simp only [Act.put, List.setIfInBounds_toArray, List.set_cons_zero, List.set_cons_succ]
              refine skip_at (i := 18) rfl (by kernel_rfl) (fun _ _ _ h => h) (by kernel_rfl) hHeld ?_
              simp only [Act.put, List.setIfInBounds_toArray, List.set_cons_zero, List.set_cons_succ]
              refine skip_at (i := 19) rfl (by kernel_rfl) (fun _ _ _ h => h) (by kernel_rfl) hHeld ?_
              simp only [Act.put, List.setIfInBounds_toArray, List.set_cons_zero, List.set_cons_succ]
              refine skip_at (i := 20) rfl (by kernel_rfl) (fun _ _ _ h => h) (by kernel_rfl) hHeld ?_
              simp only [Act.put, List.setIfInBounds_toArray, List.set_cons_zero, List.set_cons_succ]
              refine skip_at (i := 21) rfl (by kernel_rfl) (fun _ _ _ h => h) (by kernel_rfl) hHeld ?_
              simp only [Act.put, List.setIfInBounds_toArray, List.set_cons_zero, List.set_cons_succ]
              refine skip_at (i := 22) rfl (by kernel_rfl) (fun _ _ _ h => h) (by kernel_rfl) hHeld ?_
              simp only [Act.put, List.setIfInBounds_toArray, List.set_cons_zero, List.set_cons_succ]
              refine skip_at (i := 23) rfl (by kernel_rfl) (fun _ _ _ h => h) (by kernel_rfl) hHeld ?_
              simp only [Act.put, List.setIfInBounds_toArray, List.set_cons_zero, List.set_cons_succ]
              refine skip_at (i := 24) rfl (by kernel_rfl) (fun _ _ _ h => h) (by kernel_rfl) hHeld ?_
              simp only [Act.put, List.setIfInBounds_toArray, List.set_cons_zero, List.set_cons_succ]
              refine skip_at (i := 25) rfl (by kernel_rfl) (fun _ _ _ h => h) (by kernel_rfl) hHeld ?_
              simp only [Act.put, List.setIfInBounds_toArray, List.set_cons_zero, List.set_cons_succ]
              refine run_at (i := 26) (v := ?_) rfl (by kernel_rfl) (by rfl) (fun _ _ _ h => h) hHeld (fun w1 hw1 => ?_) ?_
              rotate_left 1
              · skip
                go_simp
                (try (first | with_reducible rfl | (apply And.intro <;> rfl)))
              simp only [Act.put, List.setIfInBounds_toArray, List.set_cons_zero, List.set_cons_succ]
              refine wpAnyH_done (by kernel_rfl) ?_ _
              refine hK2 _ _ (Met.intro (hJ _ _ ?_))
              repeat apply Exists.intro
              refine ⟨?_, rfl⟩
              exact ⟨_, rfl, Lib.hid (by simp [hvr]), Lib.hid hHeld⟩
            have hd : (v.r == (r : Int)) = true := by simp [hvr]
            cases BN
            case false =>
              refine wp_region_held_drew (S := Fr [] wz) (by kernel_rfl) (Fr.drew (Fr.refl _ wz)) (fun hHeld => ?_)
              refine run_at (i := 0) (v := ?_) rfl (by kernel_rfl) (by rfl) (fun _ _ _ h => h) hHeld (fun w1 hw1 => ?_) ?_
              rotate_left 1
              · skip
                go_simp
                (try (first | with_reducible rfl | (apply And.intro <;> rfl)))
              simp only [Act.put, List.setIfInBounds_toArray, List.set_cons_zero, List.set_cons_succ]
              refine run_at (i := 1) (v := ?_) rfl (by kernel_rfl) (by rfl) (fun _ _ _ h => h) hHeld (fun w1 hw1 => ?_) ?_
              rotate_left 1
              · skip
                go_simp
                (try (first | with_reducible rfl | (apply And.intro <;> rfl)))
              simp only [Act.put, List.setIfInBounds_toArray, List.set_cons_zero, List.set_cons_succ]
              refine run_at (i := 2) (v := ?_) rfl (by kernel_rfl) (by rfl) (fun _ _ _ h => h) hHeld (fun w1 hw1 => ?_) ?_
              rotate_left 1
              · skip
                go_simp
                (try (first | with_reducible rfl | (apply And.intro <;> rfl)))
              simp only [Act.put, List.setIfInBounds_toArray, List.set_cons_zero, List.set_cons_succ]
              refine run_at (i := 3) (v := ?_) rfl (by kernel_rfl) (by rfl) (fun _ _ _ h => h) hHeld (fun w1 hw1 => ?_) ?_
              rotate_left 1
              · skip
                go_simp
                (try (first | with_reducible rfl | (apply And.intro <;> rfl)))
              simp only [Act.put, List.setIfInBounds_toArray, List.set_cons_zero, List.set_cons_succ]
              refine run_at (i := 4) (v := ?_) rfl (by kernel_rfl) (by rfl) (fun _ _ _ h => h) hHeld (fun w1 hw1 => ?_) ?_
              rotate_left 1
              · skip
                have hcw0 := hw1.cell (HR0.out) (by first | (simp; done) | exact HNS.out | exact HNW.out | (intro hm; have hlt := HSB.out _ hm; (try dsimp only at hlt); omega))
                go_simp
                (try (first | with_reducible rfl | (apply And.intro <;> rfl)))
              simp only [Act.put, List.setIfInBounds_toArray, List.set_cons_zero, List.set_cons_succ]
              refine run_at (i := 5) (v := ?_) rfl (by kernel_rfl) (by rfl) (fun _ _ _ h => h) hHeld (fun w1 hw1 => ?_) ?_
              rotate_left 1
              · skip
                go_simp
                (try (first | with_reducible rfl | (apply And.intro <;> rfl)))
              simp only [Act.put, List.setIfInBounds_toArray, List.set_cons_zero, List.set_cons_succ]
              refine run_at (i := 6) (v := ?_) rfl (by kernel_rfl) (by rfl) (fun _ _ _ h => h) hHeld (fun w1 hw1 => ?_) ?_
              rotate_left 1
              · skip
                go_simp
                (try (first | with_reducible rfl | (apply And.intro <;> rfl)))
              simp only [Act.put, List.setIfInBounds_toArray, List.set_cons_zero, List.set_cons_succ]
              refine run_at (i := 7) (v := ?_) rfl (by kernel_rfl) (by rfl) (fun _ _ _ h => h) hHeld (fun w1 hw1 => ?_) ?_
              rotate_left 1
              · skip
                go_simp
                (try (first | with_reducible rfl | (apply And.intro <;> rfl)))
              simp only [Act.put, List.setIfInBounds_toArray, List.set_cons_zero, List.set_cons_succ]
              refine run_at (i := 8) (v := ?_) rfl (by kernel_rfl) (by rfl) (fun _ _ _ h => h) hHeld (fun w1 hw1 => ?_) ?_
              rotate_left 1
              · skip
                go_simp
                (try (first | with_reducible rfl | (apply And.intro <;> rfl)))
              simp only [Act.put, List.setIfInBounds_toArray, List.set_cons_zero, List.set_cons_succ]
              refine run_at (i := 9) (v := ?_) rfl (by kernel_rfl) (by rfl) (fun _ _ _ h => h) hHeld (fun w1 hw1 => ?_) ?_
              rotate_left 1
              · skip
                go_simp
                (try (first | with_reducible rfl | (apply And.intro <;> rfl)))
              simp only [Act.put, List.setIfInBounds_toArray, List.set_cons_zero, List.set_cons_succ]
              refine run_at (i := 10) (v := ?_) rfl (by kernel_rfl) (by rfl) (fun _ _ _ h => h) hHeld (fun w1 hw1 => ?_) ?_
              rotate_left 1
              · skip
                go_simp
                (try (first | with_reducible rfl | (apply And.intro <;> rfl)))
              simp only [Act.put, List.setIfInBounds_toArray, List.set_cons_zero, List.set_cons_succ]
              refine run_at (i := 11) (v := ?_) rfl (by kernel_rfl) (by rfl) (fun _ _ _ h => h) hHeld (fun w1 hw1 => ?_) ?_
              rotate_left 1
              · skip
                go_simp
                (try (first | with_reducible rfl | (apply And.intro <;> rfl)))
              simp only [Act.put, List.setIfInBounds_toArray, List.set_cons_zero, List.set_cons_succ]
              refine row_at (i := 12) rfl (by kernel_rfl) (by rfl) _ _ rfl _ _ rfl _ (fun w1 hw1 => hw1.range (HNM.out) (by first | (simp; done) | exact HNS.out | exact HNW.out | (intro hm; have hlt := HSB.out _ hm; (try dsimp only at hlt); omega))) (row_name) (fun _ _ _ h => h) hHeld ?_
              simp only [Act.put, List.setIfInBounds_toArray, List.set_cons_zero, List.set_cons_succ]
              refine run_at (i := 13) (v := ?_) rfl (by kernel_rfl) (by rfl) (fun _ _ _ h => h) hHeld (fun w1 hw1 => ?_) ?_
              rotate_left 1
              · skip
                go_simp
                (try (first | with_reducible rfl | (apply And.intro <;> rfl)))
              simp only [Act.put, List.setIfInBounds_toArray, List.set_cons_zero, List.set_cons_succ]
              refine row_at (i := 14) rfl (by kernel_rfl) (by rfl) _ _ rfl _ _ rfl _ (fun w1 hw1 => hw1.range (HKN.out) (by first | (simp; done) | exact HNS.out | exact HNW.out | (intro hm; have hlt := HSB.out _ hm; (try dsimp only at hlt); omega))) (row_name) (fun _ _ _ h => h) hHeld ?_
              simp only [Act.put, List.setIfInBounds_toArray, List.set_cons_zero, List.set_cons_succ]
              refine eql_at (i := 15) rfl (by kernel_rfl) (by rfl) _ _ _ _ rfl _ _ rfl rfl _ (by kernel_rfl) (fun W => HQN.out W) (fun _ _ _ h => h) hHeld ?_
              simp only [Act.put, List.setIfInBounds_toArray, List.set_cons_zero, List.set_cons_succ]
              refine run_at (i := 16) (v := ?_) rfl (by kernel_rfl) (by rfl) (fun _ _ _ h => h) hHeld (fun w1 hw1 => ?_) ?_
              rotate_left 1
              · skip
                go_simp
                (try (first | with_reducible rfl | (apply And.intro <;> rfl)))
              simp only [Act.put, List.setIfInBounds_toArray, List.set_cons_zero, List.set_cons_succ]
              refine run_at (i := 17) (v := ?_) rfl (by kernel_rfl) (by rfl) (fun _ _ _ h => h) hHeld (fun w1 hw1 => ?_) ?_
              rotate_left 1
              · skip
                go_simp
                (try (first | with_reducible rfl | (apply And.intro <;> rfl)))
              simp only [Act.put, List.setIfInBounds_toArray, List.set_cons_zero, List.set_cons_succ]
              refine skip_at (i := 18) rfl (by kernel_rfl) (fun _ _ _ h => h) (by kernel_rfl) hHeld ?_
              simp only [Act.put, List.setIfInBounds_toArray, List.set_cons_zero, List.set_cons_succ]
              refine skip_at (i := 19) rfl (by kernel_rfl) (fun _ _ _ h => h) (by kernel_rfl) hHeld ?_
              simp only [Act.put, List.setIfInBounds_toArray, List.set_cons_zero, List.set_cons_succ]
              refine skip_at (i := 20) rfl (by kernel_rfl) (fun _ _ _ h => h) (by kernel_rfl) hHeld ?_
              simp only [Act.put, List.setIfInBounds_toArray, List.set_cons_zero, List.set_cons_succ]
              refine skip_at (i := 21) rfl (by kernel_rfl) (fun _ _ _ h => h) (by kernel_rfl) hHeld ?_
              simp only [Act.put, List.setIfInBounds_toArray, List.set_cons_zero, List.set_cons_succ]
              refine skip_at (i := 22) rfl (by kernel_rfl) (fun _ _ _ h => h) (by kernel_rfl) hHeld ?_
              simp only [Act.put, List.setIfInBounds_toArray, List.set_cons_zero, List.set_cons_succ]
              refine skip_at (i := 23) rfl (by kernel_rfl) (fun _ _ _ h => h) (by kernel_rfl) hHeld ?_
              simp only [Act.put, List.setIfInBounds_toArray, List.set_cons_zero, List.set_cons_succ]
              refine skip_at (i := 24) rfl (by kernel_rfl) (fun _ _ _ h => h) (by kernel_rfl) hHeld ?_
              simp only [Act.put, List.setIfInBounds_toArray, List.set_cons_zero, List.set_cons_succ]
              refine skip_at (i := 25) rfl (by kernel_rfl) (fun _ _ _ h => h) (by kernel_rfl) hHeld ?_
              simp only [Act.put, List.setIfInBounds_toArray, List.set_cons_zero, List.set_cons_succ]
              refine run_at (i := 26) (v := ?_) rfl (by kernel_rfl) (by rfl) (fun _ _ _ h => h) hHeld (fun w1 hw1 => ?_) ?_
              rotate_left 1
              · skip
                go_simp
                (try (first | with_reducible rfl | (apply And.intro <;> rfl)))
              simp only [Act.put, List.setIfInBounds_toArray, List.set_cons_zero, List.set_cons_succ]
              refine wpAnyH_done (by kernel_rfl) ?_ _
              refine hK2 _ _ (Met.intro (hJ _ _ ?_))
              repeat apply Exists.intro
              refine ⟨?_, rfl⟩
              exact ⟨_, rfl, Lib.hid (by rw [HOF.out]; simp), Lib.hid hHeld⟩
            case true =>
              refine wp_region_held_drew (S := Fr [] wz) (by kernel_rfl) (Fr.drew (Fr.refl _ wz)) (fun hHeld => ?_)
              refine run_at (i := 0) (v := ?_) rfl (by kernel_rfl) (by rfl) (fun _ _ _ h => h) hHeld (fun w1 hw1 => ?_) ?_
              rotate_left 1
              · skip
                go_simp
                (try (first | with_reducible rfl | (apply And.intro <;> rfl)))
              simp only [Act.put, List.setIfInBounds_toArray, List.set_cons_zero, List.set_cons_succ]
              refine run_at (i := 1) (v := ?_) rfl (by kernel_rfl) (by rfl) (fun _ _ _ h => h) hHeld (fun w1 hw1 => ?_) ?_
              rotate_left 1
              · skip
                go_simp
                (try (first | with_reducible rfl | (apply And.intro <;> rfl)))
              simp only [Act.put, List.setIfInBounds_toArray, List.set_cons_zero, List.set_cons_succ]
              refine run_at (i := 2) (v := ?_) rfl (by kernel_rfl) (by rfl) (fun _ _ _ h => h) hHeld (fun w1 hw1 => ?_) ?_
              rotate_left 1
              · skip
                go_simp
                (try (first | with_reducible rfl | (apply And.intro <;> rfl)))
              simp only [Act.put, List.setIfInBounds_toArray, List.set_cons_zero, List.set_cons_succ]
              refine run_at (i := 3) (v := ?_) rfl (by kernel_rfl) (by rfl) (fun _ _ _ h => h) hHeld (fun w1 hw1 => ?_) ?_
              rotate_left 1
              · skip
                go_simp
                (try (first | with_reducible rfl | (apply And.intro <;> rfl)))
              simp only [Act.put, List.setIfInBounds_toArray, List.set_cons_zero, List.set_cons_succ]
              refine run_at (i := 4) (v := ?_) rfl (by kernel_rfl) (by rfl) (fun _ _ _ h => h) hHeld (fun w1 hw1 => ?_) ?_
              rotate_left 1
              · skip
                have hcw0 := hw1.cell (HR0.out) (by first | (simp; done) | exact HNS.out | exact HNW.out | (intro hm; have hlt := HSB.out _ hm; (try dsimp only at hlt); omega))
                go_simp
                (try (first | with_reducible rfl | (apply And.intro <;> rfl)))
              simp only [Act.put, List.setIfInBounds_toArray, List.set_cons_zero, List.set_cons_succ]
              refine run_at (i := 5) (v := ?_) rfl (by kernel_rfl) (by rfl) (fun _ _ _ h => h) hHeld (fun w1 hw1 => ?_) ?_
              rotate_left 1
              · skip
                go_simp
                (try (first | with_reducible rfl | (apply And.intro <;> rfl)))
              simp only [Act.put, List.setIfInBounds_toArray, List.set_cons_zero, List.set_cons_succ]
              refine run_at (i := 6) (v := ?_) rfl (by kernel_rfl) (by rfl) (fun _ _ _ h => h) hHeld (fun w1 hw1 => ?_) ?_
              rotate_left 1
              · skip
                go_simp
                (try (first | with_reducible rfl | (apply And.intro <;> rfl)))
              simp only [Act.put, List.setIfInBounds_toArray, List.set_cons_zero, List.set_cons_succ]
              refine run_at (i := 7) (v := ?_) rfl (by kernel_rfl) (by rfl) (fun _ _ _ h => h) hHeld (fun w1 hw1 => ?_) ?_
              rotate_left 1
              · skip
                go_simp
                (try (first | with_reducible rfl | (apply And.intro <;> rfl)))
              simp only [Act.put, List.setIfInBounds_toArray, List.set_cons_zero, List.set_cons_succ]
              refine run_at (i := 8) (v := ?_) rfl (by kernel_rfl) (by rfl) (fun _ _ _ h => h) hHeld (fun w1 hw1 => ?_) ?_
              rotate_left 1
              · skip
                go_simp
                (try (first | with_reducible rfl | (apply And.intro <;> rfl)))
              simp only [Act.put, List.setIfInBounds_toArray, List.set_cons_zero, List.set_cons_succ]
              refine run_at (i := 9) (v := ?_) rfl (by kernel_rfl) (by rfl) (fun _ _ _ h => h) hHeld (fun w1 hw1 => ?_) ?_
              rotate_left 1
              · skip
                go_simp
                (try (first | with_reducible rfl | (apply And.intro <;> rfl)))
              simp only [Act.put, List.setIfInBounds_toArray, List.set_cons_zero, List.set_cons_succ]
              refine run_at (i := 10) (v := ?_) rfl (by kernel_rfl) (by rfl) (fun _ _ _ h => h) hHeld (fun w1 hw1 => ?_) ?_
              rotate_left 1
              · skip
                go_simp
                (try (first | with_reducible rfl | (apply And.intro <;> rfl)))
              simp only [Act.put, List.setIfInBounds_toArray, List.set_cons_zero, List.set_cons_succ]
              refine run_at (i := 11) (v := ?_) rfl (by kernel_rfl) (by rfl) (fun _ _ _ h => h) hHeld (fun w1 hw1 => ?_) ?_
              rotate_left 1
              · skip
                go_simp
                (try (first | with_reducible rfl | (apply And.intro <;> rfl)))
              simp only [Act.put, List.setIfInBounds_toArray, List.set_cons_zero, List.set_cons_succ]
              refine row_at (i := 12) rfl (by kernel_rfl) (by rfl) _ _ rfl _ _ rfl _ (fun w1 hw1 => hw1.range (HNM.out) (by first | (simp; done) | exact HNS.out | exact HNW.out | (intro hm; have hlt := HSB.out _ hm; (try dsimp only at hlt); omega))) (row_name) (fun _ _ _ h => h) hHeld ?_
              simp only [Act.put, List.setIfInBounds_toArray, List.set_cons_zero, List.set_cons_succ]
              refine run_at (i := 13) (v := ?_) rfl (by kernel_rfl) (by rfl) (fun _ _ _ h => h) hHeld (fun w1 hw1 => ?_) ?_
              rotate_left 1
              · skip
                go_simp
                (try (first | with_reducible rfl | (apply And.intro <;> rfl)))
              simp only [Act.put, List.setIfInBounds_toArray, List.set_cons_zero, List.set_cons_succ]
              refine row_at (i := 14) rfl (by kernel_rfl) (by rfl) _ _ rfl _ _ rfl _ (fun w1 hw1 => hw1.range (HKN.out) (by first | (simp; done) | exact HNS.out | exact HNW.out | (intro hm; have hlt := HSB.out _ hm; (try dsimp only at hlt); omega))) (row_name) (fun _ _ _ h => h) hHeld ?_
              simp only [Act.put, List.setIfInBounds_toArray, List.set_cons_zero, List.set_cons_succ]
              refine eql_at (i := 15) rfl (by kernel_rfl) (by rfl) _ _ _ _ rfl _ _ rfl rfl _ (by kernel_rfl) (fun W => HQN.out W) (fun _ _ _ h => h) hHeld ?_
              simp only [Act.put, List.setIfInBounds_toArray, List.set_cons_zero, List.set_cons_succ]
              refine run_at (i := 16) (v := ?_) rfl (by kernel_rfl) (by rfl) (fun _ _ _ h => h) hHeld (fun w1 hw1 => ?_) ?_
              rotate_left 1
              · skip
                go_simp
                (try (first | with_reducible rfl | (apply And.intro <;> rfl)))
              simp only [Act.put, List.setIfInBounds_toArray, List.set_cons_zero, List.set_cons_succ]
              refine run_at (i := 17) (v := ?_) rfl (by kernel_rfl) (by rfl) (fun _ _ _ h => h) hHeld (fun w1 hw1 => ?_) ?_
              rotate_left 1
              · skip
                go_simp
                (try (first | with_reducible rfl | (apply And.intro <;> rfl)))
              simp only [Act.put, List.setIfInBounds_toArray, List.set_cons_zero, List.set_cons_succ]
              refine run_at (i := 18) (v := ?_) rfl (by kernel_rfl) (by rfl) (fun _ _ _ h => h) hHeld (fun w1 hw1 => ?_) ?_
              rotate_left 1
              · skip
                go_simp
                (try (first | with_reducible rfl | (apply And.intro <;> rfl)))
              simp only [Act.put, List.setIfInBounds_toArray, List.set_cons_zero, List.set_cons_succ]
              refine run_at (i := 19) (v := ?_) rfl (by kernel_rfl) (by rfl) (fun _ _ _ h => h) hHeld (fun w1 hw1 => ?_) ?_
              rotate_left 1
              · skip
                go_simp
                (try (first | with_reducible rfl | (apply And.intro <;> rfl)))
              simp only [Act.put, List.setIfInBounds_toArray, List.set_cons_zero, List.set_cons_succ]
              refine run_at (i := 20) (v := ?_) rfl (by kernel_rfl) (by rfl) (fun _ _ _ h => h) hHeld (fun w1 hw1 => ?_) ?_
              rotate_left 1
              · skip
                go_simp
                (try (first | with_reducible rfl | (apply And.intro <;> rfl)))
              simp only [Act.put, List.setIfInBounds_toArray, List.set_cons_zero, List.set_cons_succ]
              refine run_at (i := 21) (v := ?_) rfl (by kernel_rfl) (by rfl) (fun _ _ _ h => h) hHeld (fun w1 hw1 => ?_) ?_
              rotate_left 1
              · skip
                go_simp
                (try (first | with_reducible rfl | (apply And.intro <;> rfl)))
              simp only [Act.put, List.setIfInBounds_toArray, List.set_cons_zero, List.set_cons_succ]
              refine row_at (i := 22) rfl (by kernel_rfl) (by rfl) _ _ rfl _ _ rfl _ (fun w1 hw1 => hw1.range (HHS.out) (by first | (simp; done) | exact HNS.out | exact HNW.out | (intro hm; have hlt := HSB.out _ hm; (try dsimp only at hlt); omega))) (row_hash.of HLV.out) (fun _ _ _ h => h) hHeld ?_
              simp only [Act.put, List.setIfInBounds_toArray, List.set_cons_zero, List.set_cons_succ]
              refine run_at (i := 23) (v := ?_) rfl (by kernel_rfl) (by rfl) (fun _ _ _ h => h) hHeld (fun w1 hw1 => ?_) ?_
              rotate_left 1
              · skip
                go_simp
                (try (first | with_reducible rfl | (apply And.intro <;> rfl)))
              simp only [Act.put, List.setIfInBounds_toArray, List.set_cons_zero, List.set_cons_succ]
              refine row_at (i := 24) rfl (by kernel_rfl) (by rfl) _ _ rfl _ _ rfl _ (fun w1 hw1 => hw1.range (HKH.out) (by first | (simp; done) | exact HNS.out | exact HNW.out | (intro hm; have hlt := HSB.out _ hm; (try dsimp only at hlt); omega))) (row_hash.of HLK.out) (fun _ _ _ h => h) hHeld ?_
              simp only [Act.put, List.setIfInBounds_toArray, List.set_cons_zero, List.set_cons_succ]
              refine eql_at (i := 25) rfl (by kernel_rfl) (by rfl) _ _ _ _ rfl _ _ rfl rfl _ (by kernel_rfl) (fun W => HQH.out W) (fun _ _ _ h => h) hHeld ?_
              simp only [Act.put, List.setIfInBounds_toArray, List.set_cons_zero, List.set_cons_succ]
              refine run_at (i := 26) (v := ?_) rfl (by kernel_rfl) (by rfl) (fun _ _ _ h => h) hHeld (fun w1 hw1 => ?_) ?_
              rotate_left 1
              · skip
                go_simp
                (try (first | with_reducible rfl | (apply And.intro <;> rfl)))
              simp only [Act.put, List.setIfInBounds_toArray, List.set_cons_zero, List.set_cons_succ]
              refine wpAnyH_done (by kernel_rfl) ?_ _
              refine hK2 _ _ (Met.intro (hJ _ _ ?_))
              repeat apply Exists.intro
              refine ⟨?_, rfl⟩
              exact ⟨_, rfl, Lib.hid (by rw [HOF.out]; simp [hvr]), Lib.hid hHeld⟩
          case rest =>
          obtain ⟨B, rfl, HBM, HFm⟩ := hcut
          rename World => wq
          clear HQN HQH HNM HHS HKN HKH HR0
          have HBq := Lib.hid (HBz.out.keep HFm.out (by simp))
          have HOq := Lib.hid (own_keep HOz.out HFm.out (by simp))
          have HFq := Lib.hid (HFw.out.trans HFm.out (by simp))
          cases B
          case false =>
            have HNX : Hid (fst1 x (l.take (k + 1)) (r : Int) = none) := Lib.hid (fst1_none HV.out HNO.out HBM.out.symm)
            have HFy := Lib.hid (HFz.out.trans HFm.out (by simp))
            go_wp2_with fail
            go_roundw
            case rel => exact ⟨k + 1, by omega, by go_num, HNX, HFy⟩
            case measure => simp [intOf]; omega
          case true =>
            have HRS : Hid (refL x l (r + 1) = refL x l r ++ [v]) := Lib.hid (by rw [refL_succ, fst1_some HV.out HNO.out HBM.out.symm]; rfl)
            have HCQ2 := Lib.hid (fun j u (hj : v.cells[j]? = some u) => HFm.out.cell (HCELLS.out j u hj) (by simp))
            have H37q : Hid (wq.cell? ⟨g8, 37, none⟩ = some (.slice A9 m c9)) := Lib.hid (by
              rw [HBq.out.cell 37, List.getElem?_toArray, List.getElem?_append_right (by have := HCL.out; omega), HCL.out]
              rfl)
            have HNS : Hid (¬ g8 ∈ bk A9) := Lib.hid (fun hm => by have := HNG.out g8 hm; have := HG83.out; omega)
            have HNW := HNS
            have HEN : Hid (∀ j, ¬ ((ad.add (k * 38)).add j).block ∈ bk A9) := Lib.hid (fun j hm => by
              rw [add_block, add_block] at hm
              have h1 := HNG.out _ hm
              have h2 := HAL.out (by omega) ad rfl
              have h3 := HG8.out
              have h4 := HG83.out
              omega)
            have HDL : Hid (v.cells.length = 38) := HVL
            have HD1 := Lib.hid (Wst.one v)
            have HCY : Hid ((refL x l (r + 1)).flatMap Wst.cells = (refL x l r).flatMap Wst.cells ++ v.cells) := Lib.hid (by rw [HRS.out, List.flatMap_append, List.flatMap_singleton])
            have HVV := Lib.hid HOK.out.h
            obtain ⟨D, hD⟩ : ∃ D, v.cells = D := ⟨_, rfl⟩
            rw [hD] at HDL HD1 HCY HCQ2 HVL HCELLS
            clear hD
            go_upto_region 9 with (fail)
            refine wp_region_till 9 (Fr (g8 :: bk A9) wq) (Fr (bk A9) wq) (by kernel_rfl) (Fr.drew (Fr.refl _ wq)) (Fr.drew (Fr.refl _ wq)) (fun hA hB => ?_)
            have HWD : Hid (Fr [] wq wq.drew) := Lib.hid (Fr.drew (Fr.refl [] wq))
            generalize wq.drew = wd at *
            have HOd := Lib.hid (own_keep HOq.out HWD.out (by simp))
            have HBd := Lib.hid (HBq.out.keep HWD.out (by simp))
            refine till_run (i := 0) (v := ?_) rfl (by kernel_rfl) (by rfl) (fun _ _ _ h => h) hA hB (fun w1 hw1 => ?_) ?_
            rotate_left 1
            · skip
              go_simp
              (try (first | with_reducible rfl | (apply And.intro <;> rfl)))
            simp only [Act.put, List.setIfInBounds_toArray, List.set_cons_zero, List.set_cons_succ]
            refine till_run (i := 1) (v := ?_) rfl (by kernel_rfl) (by rfl) (fun _ _ _ h => h) hA hB (fun w1 hw1 => ?_) ?_
            rotate_left 1
            · skip
              have hcw0 := hw1.cell (H37q.out) (by first | (simp; done) | exact HNS.out | exact HNW.out | (intro hm; have hlt := HSB.out _ hm; (try dsimp only at hlt); omega))
              go_simp
              (try (first | with_reducible rfl | (apply And.intro <;> rfl)))
            simp only [Act.put, List.setIfInBounds_toArray, List.set_cons_zero, List.set_cons_succ]
            refine till_run (i := 2) (v := ?_) rfl (by kernel_rfl) (by rfl) (fun _ _ _ h => h) hA hB (fun w1 hw1 => ?_) ?_
            rotate_left 1
            · skip
              go_simp
              (try (first | with_reducible rfl | (apply And.intro <;> rfl)))
            simp only [Act.put, List.setIfInBounds_toArray, List.set_cons_zero, List.set_cons_succ]
            refine till_run (i := 3) (v := ?_) rfl (by kernel_rfl) (by rfl) (fun _ _ _ h => h) hA hB (fun w1 hw1 => ?_) ?_
            rotate_left 1
            · skip
              go_simp
              (try (first | with_reducible rfl | (apply And.intro <;> rfl)))
            simp only [Act.put, List.setIfInBounds_toArray, List.set_cons_zero, List.set_cons_succ]
            refine till_run (i := 4) (v := ?_) rfl (by kernel_rfl) (by rfl) (fun _ _ _ h => h) hA hB (fun w1 hw1 => ?_) ?_
            rotate_left 1
            · skip
              go_simp
              (try (first | with_reducible rfl | (apply And.intro <;> rfl)))
            simp only [Act.put, List.setIfInBounds_toArray, List.set_cons_zero, List.set_cons_succ]
            refine till_cells (i := 5) rfl (by kernel_rfl) (by rfl) _ _ rfl _ rfl D (fun w1 hw1 j u hj => hw1.cell (HCQ2.out j u hj) (HEN.out j)) (row_stamp.of HDL.out) (fun _ _ _ h => h) hA hB ?_
            simp only [Act.put, List.setIfInBounds_toArray, List.set_cons_zero, List.set_cons_succ]
            refine till_stepC (i := 6) rfl (by kernel_rfl) (by rfl) (fun K hK => ?_)
            refine wp_build_one 42 45 _ rfl Try.underlying42 D 80 (by rw [HDL.out]; exact el_stamp) rfl (by rw [HDL.out]; decide) (by rw [HDL.out]; decide) ?_
            refine hK.out _ _ (hA.alloc _) (hB.alloc _) (fun hA hB => ?_)
            clear hK K
            simp only [Act.put, List.setIfInBounds_toArray, List.set_cons_zero, List.set_cons_succ]
            refine till_stepC (i := 7) rfl (by kernel_rfl) (by rfl) (fun K hK => ?_)
            refine wp_append_onec _ _ 42 45 rfl Try.underlying42 38 80 el_stamp (by decide) w3.heap.size (.slice A9 m c9) m _ D rfl (HOd.out.alloc _) (by have := HFq.out.size; have := HWD.out.size; simp; omega) HDL.out HD1.out wd.heap.size 45 rfl (Blk.new _ _ _) (by omega) (by decide) ?_
            intro A5 c5 w9 ho9 hf9 hb9
            rw [bk_own] at hf9
            have HF9 : Hid (Fr (bk A9) wd w9) := Lib.hid ((((Fr.refl [] wd).alloc _).mono (by simp)).trans hf9 (fun x hx _ => hx))
            have HO9 := Lib.hid ho9
            refine hK.out _ _ (hA.trans hf9 (fun x hx _ => List.mem_cons_of_mem _ hx)) (hB.trans hf9 (fun x hx _ => hx)) (fun hA hB => ?_)
            clear hK K ho9 hf9 hb9
            have HX9 := Lib.hid (HBd.out.keep HF9.out HNS.out)
            simp only [Act.put, List.setIfInBounds_toArray, List.set_cons_zero, List.set_cons_succ]
            refine till_stepC (i := 8) rfl (by kernel_rfl) (by rfl) (fun K hK => ?_)
            refine wp_run (v := ?_) (w' := ?_) ?_ ?_
            rotate_left 2
            · go_simp
              (try (first | with_reducible rfl | (apply And.intro <;> rfl)))
            refine hK.out _ _ hA hB (fun hA hB => ?_)
            clear hK K
            simp only [Act.put, List.setIfInBounds_toArray, List.set_cons_zero, List.set_cons_succ]
            refine till_step (i := 9) rfl (by kernel_rfl) (by kernel_rfl) (by rfl) (fun K hK => ?_)
            refine wp_store_cell1 42 _ _ rfl g8 37 (.slice A5 (m + 1) c5) rfl rfl rfl 48 _ HX9.out (by simp [HCL.out]) (by kernel_rfl) ?_
            have hb7 := HX9.out.set 37 (.slice A5 (m + 1) c5)
            rw [set_last C HCL.out _ _] at hb7
            have HB7 := Lib.hid hb7
            have hf7 : Fr [g8] w9 (w9.setCell ⟨g8, 37, none⟩ (.slice A5 (m + 1) c5)) := (Fr.refl [g8] w9).setCell _ (fun _ => by simp) _
            have HF7 := Lib.hid hf7
            refine hK.out _ _ (hA.trans HF7.out (fun q hq _ => by simp at hq; simp [hq])) (fun hA => ?_)
            clear hK K hb7 hf7
            generalize w9.setCell ⟨g8, 37, none⟩ (.slice A5 (m + 1) c5) = w10 at *
            simp only [Act.put, List.setIfInBounds_toArray, List.set_cons_zero, List.set_cons_succ]
            refine till_done (by kernel_rfl) ?_ _
            have HFF : Hid (Fr [g8] w3 w10) := Lib.hid (HFq.out.trans hA (fun x hx hl => by
              rcases List.mem_cons.1 hx with h | hx
              · simp [h]
              · have := HNG.out x hx; omega))
            have HO10 := Lib.hid (own_keep HO9.out HF7.out (fun q hq hm => by
              rw [bk_mem] at hq
              have h1 := own_ge HO9.out q hq
              have h2 := HG83.out
              simp at hm
              omega))
            have HLN : Hid ((refL x l (r + 1)).length = m + 1) := Lib.hid (by rw [HRS.out, List.length_append, HM.out]; rfl)
            clear hA
            go_wp2
            go_meet
            exact ⟨m + 1, c5, A5, by omega, HB7, HLN, Lib.hid (by rw [HCY.out]; exact HO10.out), HFF⟩
      case rest =>
      obtain ⟨m', c', A', hm', HB', HM', HO', HF'⟩ := hcut
      rename World => wy
      go_wp2_with fail
      go_roundw
      case rel => exact ⟨r + 1, m', c', A', by omega, by go_num, hm', HB', HM', HO', HF'⟩
      case measure => simp [intOf]; omega
  case rest =>
  obtain ⟨m, c9, A9, L, hmQ, HB, HM, HO, HL, HMR, HOKS, HF⟩ := hcut
  rename World => wb
  rename_i Ka ha
  refine ha _ _ ?_
  clear ha
  have HNG : Hid (∀ q ∈ bk A9, w3.heap.size ≤ q) := Lib.hid (own_ge HO.out)
  have HCFr := Lib.hid (HF.out.range HCF.out (by have := HG8.out; simp; omega))
  have HCEr := Lib.hid (HCE.out.keep HF.out (by have := HG8.out; simp; omega))
  have HFW : Hid (Fr [] w wb) := Lib.hid (HF03.out.and HF.out (by have := HG8.out; simp; omega))
  have H37 : Hid (wb.cell? ⟨g8, 37, none⟩ = some (.slice A9 m c9)) := Lib.hid (by
    rw [HB.out.cell 37, List.getElem?_toArray, List.getElem?_append_right (by have := HCL.out; omega), HCL.out]
    rfl)
  have HLST : Hid (Lst 38 Wst.cells (fun _ v => v.Ok) wb A9 m L) := Lib.hid (Lst.of_own HO.out HM.out (fun v hv => ⟨Wst.len (HOKS.out v hv).h, HOKS.out v hv⟩))
  go_upto_region 11 with (fail)
  by_cases hmq : m < Q
  · have hd : decide ((m : Int) < (Q : Int)) = true := decide_eq_true (by omega)
    refine wp_region_held_drew (S := Fr [] wb) (by kernel_rfl) (Fr.drew (Fr.refl _ wb)) (fun hHeld => ?_)
    refine run_at (i := 0) (v := ?_) rfl (by kernel_rfl) (by rfl) (fun _ _ _ h => h) hHeld (fun w1 hw1 => ?_) ?_
    rotate_left 1
    · skip
      go_simp
      (try (first | with_reducible rfl | (apply And.intro <;> rfl)))
    simp only [Act.put, List.setIfInBounds_toArray, List.set_cons_zero, List.set_cons_succ]
    refine run_at (i := 1) (v := ?_) rfl (by kernel_rfl) (by rfl) (fun _ _ _ h => h) hHeld (fun w1 hw1 => ?_) ?_
    rotate_left 1
    · skip
      have hcw0 := hw1.cell (H37.out) (by first | (simp; done) | exact HNS.out | exact HNW.out | (intro hm; have hlt := HSB.out _ hm; (try dsimp only at hlt); omega))
      go_simp
      (try (first | with_reducible rfl | (apply And.intro <;> rfl)))
    simp only [Act.put, List.setIfInBounds_toArray, List.set_cons_zero, List.set_cons_succ]
    refine run_at (i := 2) (v := ?_) rfl (by kernel_rfl) (by rfl) (fun _ _ _ h => h) hHeld (fun w1 hw1 => ?_) ?_
    rotate_left 1
    · skip
      go_simp
      (try (first | with_reducible rfl | (apply And.intro <;> rfl)))
    simp only [Act.put, List.setIfInBounds_toArray, List.set_cons_zero, List.set_cons_succ]
    refine row_at (i := 3) rfl (by kernel_rfl) (by rfl) _ _ rfl _ _ rfl _ (fun w1 hw1 => hw1.range (HCFr.out) (by first | (simp; done) | exact HNS.out | exact HNW.out | (intro hm; have hlt := HSB.out _ hm; (try dsimp only at hlt); omega))) (row_conf) (fun _ _ _ h => h) hHeld ?_
    simp only [Act.put, List.setIfInBounds_toArray, List.set_cons_zero, List.set_cons_succ]
    refine call_at (i := 4) (f := ?_) (args := ?_) rfl (by kernel_rfl) (by rfl) ?_ ?_
    rotate_left 2
    · go_simp
      (try (first | with_reducible rfl | (apply And.intro <;> rfl)))
    have hq := HCQ.out
    refine (hq _).mono ?_
    rintro e w5 ⟨rfl, hf5⟩
    refine ⟨_, rfl, hHeld.and hf5 (by simp), fun hHeld => ?_⟩
    clear hf5 hq
    simp only [Act.put, List.setIfInBounds_toArray, List.set_cons_zero, List.set_cons_succ]
    refine run_at (i := 5) (v := ?_) rfl (by kernel_rfl) (by rfl) (fun _ _ _ h => h) hHeld (fun w1 hw1 => ?_) ?_
    rotate_left 1
    · skip
      go_simp
      (try (first | with_reducible rfl | (apply And.intro <;> rfl)))
    simp only [Act.put, List.setIfInBounds_toArray, List.set_cons_zero, List.set_cons_succ]
    refine wpAnyH_done (by kernel_rfl) ?_ _
    have HBX := Lib.hid (HCEr.out.keep hHeld (by simp))
    have HFX := Lib.hid (HFW.out.trans hHeld (by simp))
    clear hHeld
    go_wp2_with (first
      | (refine wpList_builtg rfl 48 _ rfl _ _ zCe_built rfl ?_)
      | (refine wpList_store_blk rfl 48 _ _ rfl (w.heap.size + 2) ceZ rfl rfl 48 ceZ HBX.out zCe_sz rfl zCe_row ?_; intro w6 hb6 hf6))
    refine bodyPost_ret (v := .tuple #[.agg ceZ, .bool false]) (results_ct Try.results14 _ _ (w.heap.size + 2) 48 _ _ _ (.bool false) rfl rfl hb6 Try.underlying48 rfl zCe_sz) rfl ⟨HFX.out.and hf6 (by simp), .inl ⟨by have := HMR.out hmq; omega, rfl⟩⟩
  · have hd : decide ((m : Int) < (Q : Int)) = false := decide_eq_false (by omega)
    have hmQ2 : m = Q := by omega
    have HQR : Hid (Q ≤ R.length) := Lib.hid (by
      have h1 := congrArg List.length HL.out
      rw [HM.out, List.length_take] at h1
      omega)
    have HONE : Hid (∀ u ∈ C ++ [Value.slice A9 m c9], u.oneCell' = true) := Lib.hid (fun u hu => by
      rcases List.mem_append.1 hu with h | h
      · exact HCO.out u h
      · rw [List.mem_singleton.1 h]; rfl)
    have HSI : Hid ((Try.prog.info? 48).map (·.size) = some (C ++ [Value.slice A9 m c9]).toArray.size) := Lib.hid (by rw [List.size_toArray, List.length_append, HCL.out]; kernel_rfl)
    have HSO : Hid (ceZ.size = (C ++ [Value.slice A9 m c9]).toArray.size) := Lib.hid (by rw [show ceZ.size = 38 from rfl, List.size_toArray, List.length_append, HCL.out]; rfl)
    have HVL : Hid ((C ++ [Value.slice A9 m c9]).length = 38) := Lib.hid (by rw [List.length_append, HCL.out]; rfl)
    refine wp_region_held_drew (S := Fr [] wb) (by kernel_rfl) (Fr.drew (Fr.refl _ wb)) (fun hHeld => ?_)
    refine run_at (i := 0) (v := ?_) rfl (by kernel_rfl) (by rfl) (fun _ _ _ h => h) hHeld (fun w1 hw1 => ?_) ?_
    rotate_left 1
    · skip
      go_simp
      (try (first | with_reducible rfl | (apply And.intro <;> rfl)))
    simp only [Act.put, List.setIfInBounds_toArray, List.set_cons_zero, List.set_cons_succ]
    refine run_at (i := 1) (v := ?_) rfl (by kernel_rfl) (by rfl) (fun _ _ _ h => h) hHeld (fun w1 hw1 => ?_) ?_
    rotate_left 1
    · skip
      have hcw0 := hw1.cell (H37.out) (by first | (simp; done) | exact HNS.out | exact HNW.out | (intro hm; have hlt := HSB.out _ hm; (try dsimp only at hlt); omega))
      go_simp
      (try (first | with_reducible rfl | (apply And.intro <;> rfl)))
    simp only [Act.put, List.setIfInBounds_toArray, List.set_cons_zero, List.set_cons_succ]
    refine run_at (i := 2) (v := ?_) rfl (by kernel_rfl) (by rfl) (fun _ _ _ h => h) hHeld (fun w1 hw1 => ?_) ?_
    rotate_left 1
    · skip
      go_simp
      (try (first | with_reducible rfl | (apply And.intro <;> rfl)))
    simp only [Act.put, List.setIfInBounds_toArray, List.set_cons_zero, List.set_cons_succ]
    refine row_at (i := 3) rfl (by kernel_rfl) (by rfl) _ _ rfl _ _ rfl _ (fun w1 hw1 => hw1.range (HCFr.out) (by first | (simp; done) | exact HNS.out | exact HNW.out | (intro hm; have hlt := HSB.out _ hm; (try dsimp only at hlt); omega))) (row_conf) (fun _ _ _ h => h) hHeld ?_
    simp only [Act.put, List.setIfInBounds_toArray, List.set_cons_zero, List.set_cons_succ]
    refine call_at (i := 4) (f := ?_) (args := ?_) rfl (by kernel_rfl) (by rfl) ?_ ?_
    rotate_left 2
    · go_simp
      (try (first | with_reducible rfl | (apply And.intro <;> rfl)))
    have hq := HCQ.out
    refine (hq _).mono ?_
    rintro e w5 ⟨rfl, hf5⟩
    refine ⟨_, rfl, hHeld.and hf5 (by simp), fun hHeld => ?_⟩
    clear hf5 hq
    simp only [Act.put, List.setIfInBounds_toArray, List.set_cons_zero, List.set_cons_succ]
    refine run_at (i := 5) (v := ?_) rfl (by kernel_rfl) (by rfl) (fun _ _ _ h => h) hHeld (fun w1 hw1 => ?_) ?_
    rotate_left 1
    · skip
      go_simp
      (try (first | with_reducible rfl | (apply And.intro <;> rfl)))
    simp only [Act.put, List.setIfInBounds_toArray, List.set_cons_zero, List.set_cons_succ]
    refine wpAnyH_done (by kernel_rfl) ?_ _
    have HBX := Lib.hid (HCEr.out.keep hHeld (by simp))
    have HGX := Lib.hid ((HB.out.keep hHeld (by simp)).range)
    have HLX := Lib.hid (HLST.out.keep hHeld (by simp) (fun _ _ h => h))
    have HFX := Lib.hid (HFW.out.trans hHeld (by simp))
    have HNE : Hid (∀ a, A9 = some a → ¬ a.block ∈ [w.heap.size + 2]) := Lib.hid (fun a ha hm => by
      have h1 := HNG.out a.block (by rw [ha]; simp [bk])
      have h2 := HG83.out
      have h3 := HG8.out
      simp at hm
      omega)
    clear hHeld
    go_wp2_with (first
      | (refine wpList_row rfl 48 _ rfl _ _ rfl _ HGX.out (row_cer3.of HVL.out) ?_)
      | (refine wpList_store_blk rfl 48 _ _ rfl (w.heap.size + 2) (C ++ [Value.slice A9 m c9]).toArray rfl rfl 48 ceZ HBX.out HSI.out HSO.out (all_oneCell_toArray HONE.out) ?_; intro w6 hb6 hf6))
    refine bodyPost_ret (v := .tuple #[.agg (C ++ [Value.slice A9 m c9]).toArray, .bool true]) (results_ct Try.results14 _ _ (w.heap.size + 2) 48 _ _ _ (.bool true) rfl rfl hb6 Try.underlying48 rfl HSI.out) rfl ⟨HFX.out.and hf6 (by simp), .inr ⟨HQR.out, A9, c9, by rw [hmQ2], ?_⟩⟩
    rw [← hmQ2, ← HL.out]
    exact HLX.out.keep hf6 HNE.out (fun _ _ h => h)
end Go.Proofs.Ytlkhfhhaallhgaa
