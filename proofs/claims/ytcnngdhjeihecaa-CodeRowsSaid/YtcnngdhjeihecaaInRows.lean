/- Proved here: CodeRows' statement: for every list of rows and every bound the law returns true. Conditions: none. -/
import Derived.Test.YtcnngdhjeihecaaRead
import Derived.Test.YtcnngdhjeihecaaVals
import Derived.Deep.DeepCutAuto
import Derived.Deep.CutBlock
namespace Go.Proofs.Ytcnngdhjeihecaa.InRows
open Go.RowKit
open Go.ChangeShapes Go.WideShapes
open Go.Deep (open_slice open_slice1)

theorem info_row : (Try.prog.info? 23).map (fun i => (i.zero, i.size, i.bytes)) = some (some (.slice none 0 0), 1, 24) := by kernel_rfl

/-- a row: a slice of bytes, with what it holds -/
structure RowV where
  A : Option Addr
  n : Nat
  c : Nat
  b : List UInt8
def RowV.val (r : RowV) : Value := .slice r.A r.n r.c
/-- a list of rows that comes in -/
def RowsIn (w : World) (A : Option Addr) (n : Nat) (l : List RowV) : Prop :=
  l.length = n ∧ (0 < n → ∃ ad, A = some ad ∧ ∀ i r, l[i]? = some r → By w r.A r.n r.b ∧ r.n ≤ r.c ∧ r.c ≤ maxLen ∧ w.cell? (ad.add i) = some r.val)
theorem RowsIn.at {w w' : World} {A : Option Addr} {n i : Nat} {l : List RowV} (h : RowsIn w A n l) (hb : Below w.heap.size w w') (hi : i < n) :
    ∃ ad r, A = some ad ∧ l[i]? = some r ∧ By w' r.A r.n r.b ∧ r.n ≤ r.c ∧ r.c ≤ maxLen ∧ w'.cell? (ad.add i) = some (.slice r.A r.n r.c) := by
  obtain ⟨ad, e, hc⟩ := h.2 (by omega)
  have hl : i < l.length := by rw [h.1]; exact hi
  obtain ⟨h1, h2, h3, h4⟩ := hc i l[i] (List.getElem?_eq_getElem hl)
  exact ⟨ad, l[i], e, List.getElem?_eq_getElem hl, h1.old hb, h2, h3, cell_old hb h4⟩
section
variable {H : Type} {enc : TypeId × Value → H} {w : World} {spare : Nat → Bool} {held : Bool}
theorem rows_of_trod {fuel : Nat} {A : Option Addr} {len cap : Nat} {x : DataW H × List MemPlace} (h : DataW.trod enc Try.prog w 0 spare held fuel 60 [.slice A len cap] = some x) :
    ∃ l, RowsIn w A len l ∧ len ≤ cap ∧ cap ≤ maxLen := by
  rcases open_slice Try.underlying60 h with ⟨hcs, _⟩ | ⟨a, len', cap', m, n, D, Pl, hcs, _, hl, hm, hmm, _, hi⟩
  · simp at hcs
    obtain ⟨rfl, rfl, rfl⟩ := hcs
    exact ⟨[], ⟨rfl, fun h => absurd h (by omega)⟩, Nat.le_refl _, Nat.zero_le _⟩
  · simp at hcs
    obtain ⟨rfl, rfl, rfl⟩ := hcs
    have hlm : len ≤ m := by rw [hmm]; split <;> omega
    have hv : ∀ i, i < len → ∃ r : RowV, By w r.A r.n r.b ∧ r.n ≤ r.c ∧ r.c ≤ maxLen ∧ w.cell? (a.add i) = some r.val := by
      intro i hil
      obtain ⟨cs', hc, ht⟩ := hi i (by omega)
      rw [show Try.prog.cellsOf 23 = 1 by kernel_rfl, Nat.mul_one] at hc
      obtain ⟨A', l', c', rfl⟩ := Go.Joins.slice_form Try.underlying23 ht
      obtain ⟨b, h1, h2, h3⟩ := by_of_trod ht
      obtain ⟨_, hcl, hat⟩ := World.cells?_some hc
      refine ⟨⟨A', l', c', b⟩, h1, h2, h3, ?_⟩
      have := hat 0 (by omega)
      simpa [Addr.add, RowV.val] using this
    refine ⟨(List.range len).map (fun i => if hi : i < len then Classical.choose (hv i hi) else ⟨none, 0, 0, []⟩), ⟨by simp, fun _ => ⟨a, rfl, fun i v hiv => ?_⟩⟩, hl, hm⟩
    simp only [List.getElem?_map, Option.map_eq_some_iff] at hiv
    obtain ⟨k, hk, rfl⟩ := hiv
    obtain ⟨hk1, hk2⟩ := List.getElem?_eq_some_iff.1 hk
    simp at hk1 hk2
    subst hk2
    rw [dif_pos hk1]
    exact Classical.choose_spec (hv i hk1)
end

/-- rows of the call's own: each in memory of its own kind, apart from the blocks of S -/
def RowsOk (w : World) (S : List Nat) (rs : List RowV) : Prop :=
  ∀ r ∈ rs, w.ownsRow 0 5 1 (.slice r.A r.n r.c) r.n (r.b.map by8) ∧ ∀ x ∈ bk r.A, ¬ x ∈ S
theorem RowsOk.lt {w : World} {S : List Nat} {rs : List RowV} (h : RowsOk w S rs) : ∀ r ∈ rs, ∀ x ∈ bk r.A, x < w.heap.size := fun r hr x hx => own_lt (h r hr).1 x (by rw [bk_mem]; exact hx)
theorem RowsOk.keep {w w' : World} {S S' T : List Nat} {rs : List RowV} (h : RowsOk w S rs) (hf : Fr T w w') (hT : ∀ r ∈ rs, ∀ x ∈ bk r.A, ¬ x ∈ T) (hS : ∀ x ∈ S', x < w.heap.size → x ∈ S) : RowsOk w' S' rs := by
  intro r hr
  refine ⟨own_keep (h r hr).1 hf (fun x hx => hT r hr x (by rw [bk_mem] at hx; exact hx)), fun x hx hm => ?_⟩
  exact (h r hr).2 x hx (hS x hm (h.lt r hr x hx))
/-- a row of rows shares no block with a row of bytes -/
theorem rows_apart {w : World} {A A' : Option Addr} {n c n' c' : Nat} {xs ys : List Value} (h : w.ownsRow 0 23 1 (.slice A n c) n xs) (h' : w.ownsRow 0 5 1 (.slice A' n' c') n' ys) : ∀ x ∈ bk A, ¬ x ∈ bk A' := by
  intro x hx hm
  rcases h'.2 with ⟨hv, _⟩ | ⟨g', cap, cur, hv, _, hh, _⟩
  · injection hv with hA
    subst hA
    simp [bk] at hm
  · injection hv with hA
    subst hA
    simp [bk] at hm
    subst hm
    exact own_ne h (g := x) (t := 5) (cs := cur) hh (by decide) (by rw [bk_mem]; exact hx)
theorem wr_rows_apart {w : World} {S : List Nat} {g n c : Nat} {l : List UInt8} {A : Option Addr} {xs : List Value} (h : Wr w S g l) (ho : w.ownsRow 0 23 1 (.slice A n c) n xs) : ∀ x ∈ bk A, ¬ x ∈ S := by
  obtain ⟨A', c', rfl, hb, hr⟩ := h
  intro x hx hm
  simp at hm
  rcases hm with rfl | hm
  · exact own_ne ho hb (by decide) (by rw [bk_mem]; exact hx)
  · exact rows_apart ho hr x hx hm
def encRows (l : List (List UInt8)) : List UInt8 := (l.map fun b => enc b.length ++ b).flatten
theorem encRows_snoc {l : List (List UInt8)} {k : Nat} {b : List UInt8} (h : l[k]? = some b) : encRows (l.take (k + 1)) = encRows (l.take k) ++ (enc b.length ++ b) := by
  unfold encRows
  rw [List.take_add_one, h]
  simp
theorem encRows_drop {l : List (List UInt8)} {k : Nat} {b : List UInt8} (h : l[k]? = some b) : encRows (l.drop k) = (enc b.length ++ b) ++ encRows (l.drop (k + 1)) := by
  unfold encRows
  obtain ⟨hk, rfl⟩ := List.getElem?_eq_some_iff.1 h
  rw [List.drop_eq_getElem_cons hk, List.map_cons, List.flatten_cons]

attribute [local irreducible] encRows
set_option maxRecDepth 100000 in
set_option maxHeartbeats 20000000 in
theorem rows_walk (w : World) (A : Option Addr) (n c : Nat) (l : List RowV) (hl : RowsIn w A n l) (hc : n ≤ c) (hx : c ≤ maxLen) (most : Int) (h1 : -9223372036854775808 ≤ most) (h2 : most < 9223372036854775808) :
    Calls Try.prog 9 #[.slice A n c, .int .i64 most] w fun e w' => e = .returned (.bool true) ∧ Fr [] w w' := by
  unfold maxLen at hx
  have hnm : n ≤ 9223372036854775807 := by omega
  have HL := Lib.hid hl
  have HC := Lib.hid (And.intro h1 h2)
  clear hl hx hc h1 h2
  go_enter Try.func9, Try.ntmps9
  go_wp2_with fail
  refine (newWriter_any w).mono ?_
  rintro e w1 ⟨rfl, hw1, hb1⟩
  have HW1 := Lib.hid hw1
  have HB1 := Lib.hid hb1
  clear hw1 hb1
  go_upto_block 0 with (fail)
  go_cut [6, 7] (fun s6 _ wx => ∃ (S : List Nat) (A6 : Option Addr) (c6 : Nat) (rs : List RowV), s6 = .slice A6 (min n 8) c6 ∧ rs.map (·.b) = (l.take 8).map (fun r => r.b.take 200) ∧ (∀ r ∈ rs, r.n = r.b.length ∧ r.b.length ≤ 200) ∧ Wr wx S w.heap.size (encRows (rs.map (·.b))) ∧ (∀ x ∈ S, w.heap.size ≤ x) ∧
      (encRows (rs.map (·.b))).length ≤ 1760 ∧ wx.ownsRow 0 23 1 (.slice A6 (min n 8) c6) (min n 8) (rs.map RowV.val) ∧ RowsOk wx S rs ∧ Below w.heap.size w wx)
  case first =>
    go_wp2_with fail
    go_loopw [6, 7] (fun s6 i wr => ∃ (k : Nat) (S : List Nat) (A6 : Option Addr) (c6 : Nat) (rs : List RowV), k ≤ n ∧ k ≤ 8 ∧ i = .int .i64 k ∧ s6 = .slice A6 k c6 ∧ rs.map (·.b) = (l.take k).map (fun r => r.b.take 200) ∧ (∀ r ∈ rs, r.n = r.b.length ∧ r.b.length ≤ 200) ∧
      Wr wr S w.heap.size (encRows (rs.map (·.b))) ∧ (∀ x ∈ S, w.heap.size ≤ x) ∧ (encRows (rs.map (·.b))).length ≤ 220 * k ∧ wr.ownsRow 0 23 1 (.slice A6 k c6) k (rs.map RowV.val) ∧ (∀ x ∈ bk A6, w.heap.size ≤ x) ∧ RowsOk wr S rs ∧ Below w.heap.size w wr) (fun _ i _ => 8 - (intOf i).toNat)
    case atStart => exact ⟨0, [w.heap.size], none, 0, [], by omega, by omega, rfl, rfl, by simp, by simp, by simpa [encRows] using HW1.out, by simp, by simp [encRows], ⟨rfl, .inl ⟨rfl, rfl⟩⟩, by simp [bk], by intro r hr; simp at hr, HB1.out.below_all⟩
    case round =>
      obtain ⟨k, S, A6, c6, rs, hk, hk12, rfl, rfl, hrs, hrn, hwr, hS, hlen, ho6, hbk6, hok, hbel⟩ := hrel
      have HRS := Lib.hid hrs
      have HRN := Lib.hid hrn
      have HWR := Lib.hid hwr
      have HSS := Lib.hid hS
      have HLEN := Lib.hid hlen
      have HO6 := Lib.hid ho6
      have HBK6 := Lib.hid hbk6
      have HOK := Lib.hid hok
      have HBEL := Lib.hid hbel
      clear hwr hS hlen ho6 hbk6 hbel HW1 HB1 hrs hrn hok
      by_cases hlt : k < n ∧ k < 8
      · obtain ⟨hkn, hk2⟩ := hlt
        obtain ⟨ad, r, rfl, hg, hy, hrc, hrm, hcell⟩ := HL.out.at HBEL.out hkn
        have HY := Lib.hid hy
        have HG := Lib.hid hg
        have HRC := Lib.hid (And.intro hrc hrm)
        have hk0 : (0 : Int) ≤ k := by omega
        clear hg hy hrc hrm
        go_wp2_with fail
        rw [show (200 : Int) = ((200 : Nat) : Int) from rfl]
        refine (cut_any r.A r.n r.c 200 r.b wr HY.out (Nat.le_trans HRC.out.1 HRC.out.2) HRC.out.1 (by omega)).mono ?_
        rintro e w2 ⟨A2, c2, rfl, hN2⟩
        have h200 : (r.b.take 200).length ≤ 200 := List.length_take_le _ _
        have H200 := Lib.hid h200
        have HRS2 : Hid ((l.take (k + 1)).map (fun r => r.b.take 200) = (l.take k).map (fun r => r.b.take 200) ++ [r.b.take 200]) := by
          show _ = _
          rw [List.take_add_one, HG.out, Option.toList_some, List.map_append]; rfl
        generalize r.b.take 200 = b at *
        have HN2 := Lib.hid hN2
        have HW2 := Lib.hid (HWR.out.keep hN2.2.1 (by simp))
        have HO2 := Lib.hid (own_keep HO6.out hN2.2.1 (by simp))
        have HOK2 := Lib.hid (HOK.out.keep (S' := S) hN2.2.1 (by simp) (fun x hx _ => hx))
        have HB2 := Lib.hid (HBEL.out.trans (hN2.2.1.nil_below HBEL.out.size))
        have hA2S : ∀ x ∈ bk A2, ¬ x ∈ S := fun x hx hm => by have h1 := hN2.2.2 x hx; have h2 := HWR.out.lt x hm; omega
        have HA2S := Lib.hid hA2S
        clear hN2 h200 hA2S
        go_wp2_with (at_builtin; refine Stop.mk ?_)
        refine Stop.go ?_
        refine wpList_append_vals _ rfl (.tmp 25) (.tmp 31) _ rfl 23 (.slice none 0 0) 24 Try.underlying60 info_row rfl (.slice A6 k c6) k _ rfl (HO2.out.alloc _) ⟨w2.heap.size, 0, none⟩ 1
          (.slice A2 b.length c2) rfl ?_ rfl (by omega) (by omega) ?_
        · exact (Blk.new w2 23 #[Value.slice A2 b.length c2]).cell 0
        intro A3 c3 w3 ho3 hg3 hat3
        have hf23 : Fr (bk A6) w2 w3 := (((Fr.refl [] w2).alloc _).mono (by simp)).grown hg3 (fun x hx _ => by rw [bk_mem] at hx; exact hx)
        have hap6 := wr_rows_apart HW2.out HO2.out
        have HW3 := Lib.hid (HW2.out.keep hf23 (fun x hx hm => hap6 x hm hx))
        have HOK3 := Lib.hid (HOK2.out.keep (S' := S) hf23 (fun r hr x hx hm => rows_apart HO2.out (HOK2.out r hr).1 x hm hx) (fun x hx _ => hx))
        have HNA := Lib.hid (own_keep HN2.out.1 hf23 (fun x hx hm => rows_apart HO2.out HN2.out.1 x hm (by rw [bk_mem] at hx; exact hx)))
        have HB3 := Lib.hid (HB2.out.trans (hf23.below HB2.out.size HBK6.out))
        have HBK3 : Hid (∀ x ∈ bk A3, w.heap.size ≤ x) := by
          intro x hx
          have := HB2.out.size
          rcases hat3 with e | e
          · rw [e, bk_own] at hx; exact HBK6.out x hx
          · rw [e] at hx; simp at hx; omega
        have hcat : ∃ ad3, A3 = some ad3 ∧ w3.cell? (ad3.add k) = some (.slice A2 b.length c2) := by
          obtain ⟨gq, cap, hv, _, _⟩ := ho3.form (by omega)
          injection hv with hA
          refine ⟨_, hA, ?_⟩
          subst hA
          have hkl : (rs.map RowV.val).length = k := by have := HO2.out.1; omega
          exact ho3.cells (g := gq) rfl k _ (by rw [List.getElem?_append_right (by omega), hkl]; simp)
        obtain ⟨ad3, rfl, hc3⟩ := hcat
        have HO3 := Lib.hid ho3
        have hrl : (encRows (rs.map (·.b))).length ≤ 1760 := by have := HLEN.out; omega
        have HRL := Lib.hid hrl
        clear ho3 hg3 hat3 hf23 hap6 hrl HO2 HW2 HOK2 HWR HO6 HOK HBK6
        go_wp2_with fail
        refine (row_any A2 b.length c2 b w3 (By.of_own HNA.out) (by have := H200.out; omega) S HA2S.out _ _ HW3.out (by have := HRL.out; omega)).mono ?_
        rintro e w5 ⟨rfl, S5, k1, k2, k3⟩
        have hap3 := wr_rows_apart HW3.out HO3.out
        have HO5 := Lib.hid (own_keep HO3.out k2 (fun x hx hm => hap3 x (by rw [bk_mem] at hx; exact hx) hm))
        have hok5 : RowsOk w3 S (rs ++ [⟨A2, b.length, c2, b⟩]) := by
          intro r hr
          rcases List.mem_append.1 hr with h | h
          · exact HOK3.out r h
          · simp at h; subst h; exact ⟨HNA.out, HA2S.out⟩
        have HOK5 := Lib.hid (hok5.keep (S' := S5) k2 (fun r hr x hx hm => (hok5 r hr).2 x hx hm) k3)
        have HW5 := Lib.hid k1
        have HS5 : Hid (∀ x ∈ S5, w.heap.size ≤ x) := fun x hx => by
          by_cases h : x < w3.heap.size
          · exact HSS.out x (k3 x hx h)
          · have := HB3.out.size; omega
        have HB5 := Lib.hid (HB3.out.trans (k2.below HB3.out.size HSS.out))
        have HENC : Hid (encRows ((rs ++ [(⟨A2, b.length, c2, b⟩ : RowV)]).map (fun r => r.b)) = encRows (rs.map (·.b)) ++ (enc b.length ++ b)) := by
          have h := encRows_snoc (l := rs.map (·.b) ++ [b]) (k := rs.length) (b := b) (by simp)
          rw [List.take_of_length_le (by simp), List.take_append_of_le_length (by simp), List.take_of_length_le (by simp)] at h
          simp only [List.map_append, List.map_cons, List.map_nil]
          exact h
        clear k1 k2 k3 hap3 hok5
        go_wp2
        go_roundw
        case rel =>
          refine ⟨k + 1, S5, some ad3, c3, rs ++ [⟨A2, b.length, c2, b⟩], by omega, by omega, by go_num, rfl, ?_, ?_, by rw [HENC.out]; exact HW5.out, HS5.out, ?_, ?_, HBK3.out, HOK5.out, HB5.out⟩
          · rw [HRS2.out, ← HRS.out]; simp
          · intro r hr
            rcases List.mem_append.1 hr with h | h
            · exact HRN.out r h
            · simp at h; subst h; exact ⟨rfl, H200.out⟩
          · rw [HENC.out]
            have h1 := HLEN.out
            have h2 := H200.out
            have h3 := enc_ten (m := b.length) (by omega)
            simp only [List.length_append] at h1 ⊢
            omega
          · have := HO5.out
            simpa [RowV.val] using this
        case measure => simp [intOf]; omega
      · have hkx : (n : Int) ≤ k ∨ (8 : Int) ≤ k := by omega
        have hkm : l.take k = l.take 8 := by
          rcases Nat.lt_or_ge k 8 with h | h
          · rw [List.take_of_length_le (by have := HL.out.1; omega), List.take_of_length_le (by have := HL.out.1; omega)]
          · rw [show k = 8 by omega]
        have hkn : k = min n 8 := by omega
        have HKM := Lib.hid hkm
        have HKN := Lib.hid hkn
        clear hkm hkn
        rcases hkx with hkx | hkx
        all_goals
          go_wp2_with fail
          all_goals
            go_meet
            exact ⟨S, A6, c6, rs, by rw [← HKN.out], by rw [← HKM.out]; exact HRS.out, HRN.out, HWR.out, HSS.out, by have := HLEN.out; omega, by rw [← HKN.out]; exact HO6.out, HOK.out, HBEL.out⟩
  case rest =>
    obtain ⟨S, A6, c6, rs, rfl, hrs, hrn, hwc, hSS, hel, ho6, hok, hbc⟩ := hcut
    have hql : rs.length = min n 8 := by
      have := congrArg List.length hrs
      simp only [List.length_map, List.length_take, HL.out.1] at this
      omega
    have HRN := Lib.hid hrn
    have HWC : Hid (WB wc w.heap.size w.heap.size (encRows (rs.map (·.b)))) := ⟨S, hwc, hSS, hbc.size⟩
    have HEL := Lib.hid hel
    have HBC := Lib.hid hbc
    have HO6 := Lib.hid ho6
    have HOK := Lib.hid hok
    have HQL := Lib.hid hql
    have hq8 : min n 8 ≤ 8 := by omega
    clear hrs hrn hwc hSS hel ho6 hok hbc HW1 HB1 hql
    generalize min n 8 = q at *
    go_wp2_with fail
    refine (bytes_b HWC.out (by have := HEL.out; omega)).mono ?_
    rintro e w2 ⟨A2, c2, rfl, hN2, hw2, hb2⟩
    have HO2 := Lib.hid (own_keep HO6.out hN2.2.1 (by simp))
    have HOK2 := Lib.hid (HOK.out.keep (S' := []) hN2.2.1 (by simp) (by simp))
    have HB2 := Lib.hid (HBC.out.trans hb2)
    have HN2 := Lib.hid hN2
    clear hw2 hb2 hN2
    go_wp2_with fail
    refine (newReader_b A2 _ c2 _ w2 HN2.out.by (by have := HEL.out; omega)).mono ?_
    rintro e w5 ⟨g, rfl, hr5, hf5⟩
    have HR5 := Lib.hid hr5
    have HO5 := Lib.hid (own_keep HO2.out hf5 (by simp))
    have HOK5 := Lib.hid (HOK2.out.keep (S' := []) hf5 (by simp) (by simp))
    have HB5 := Lib.hid (HB2.out.trans (hf5.nil_below HB2.out.size))
    have HLT6 : Hid (∀ x ∈ bk A6, x < w2.heap.size) := fun x hx => own_lt HO2.out x (by rw [bk_mem]; exact hx)
    have HLTR : Hid (∀ r ∈ rs, ∀ x ∈ bk r.A, x < w2.heap.size) := HOK2.out.lt
    have hwB : w.heap.size ≤ w2.heap.size := HB2.out.size
    clear hr5 hf5
    generalize w2.heap.size = B2 at *
    go_wp2_with fail
    refine (within_pos most 220 HC.out.1 HC.out.2 (by omega) (by omega) w5).mono ?_
    rintro e wx ⟨rfl, rfl⟩
    obtain ⟨mo, hmo, hmo2⟩ : ∃ mo : Nat, most % 220 = (mo : Int) ∧ mo < 220 := ⟨(most % 220).toNat, by omega, by omega⟩
    rw [hmo]
    clear hmo
    go_wp2_with fail
    go_loopw [9, 48] (fun s9 i wr => ∃ (k : Nat) (R : List UInt8) (f : Bool), k ≤ q ∧ i = .int .i64 k ∧ s9 = .bool f ∧ RB wr B2 g R f ∧ (f = false → R = encRows ((rs.map (·.b)).drop k)) ∧ (f = true → R = []) ∧ R.length ≤ 1760 ∧ Below B2 w5 wr) (fun _ i _ => q - (intOf i).toNat)
    case atStart => exact ⟨0, _, false, by omega, rfl, rfl, HR5.out, fun _ => by rw [List.drop_zero], (fun h => by cases h), HEL.out, Below.refl _ _⟩
    case round =>
      obtain ⟨k, R, f, hk, rfl, rfl, hr, hf0, hf1, hRl, hbel⟩ := hrel
      have HR := Lib.hid hr
      have HF0 := Lib.hid hf0
      have HF1 := Lib.hid hf1
      have HRL := Lib.hid hRl
      have HBEL := Lib.hid hbel
      have HBW : Hid (Below w.heap.size w wr) := HB5.out.trans (hbel.mono hwB)
      clear hr hf0 hf1 hRl hbel
      by_cases hlt : k < q
      · have hkr : k < rs.length := by rw [HQL.out]; exact hlt
        obtain ⟨r, hr⟩ : ∃ r, rs[k]? = some r := ⟨rs[k], List.getElem?_eq_getElem hkr⟩
        have hmem : r ∈ rs := List.mem_of_getElem? hr
        have HMEM := Lib.hid hmem
        obtain ⟨hrn, hr200⟩ := HRN.out r hmem
        have hbs : (rs.map (·.b))[k]? = some r.b := by rw [List.getElem?_map, hr]; rfl
        have HDR := Lib.hid (encRows_drop hbs)
        have hcat : ∃ ada, A6 = some ada ∧ ∀ w', Below B2 w5 w' → w'.cell? (ada.add k) = some (.slice r.A r.n r.c) := by
          obtain ⟨gq, cap, hv, _, _⟩ := HO5.out.form (show 0 < q by omega)
          injection hv with hA
          refine ⟨_, hA, fun w' hb' => ?_⟩
          subst hA
          have h1 := HO5.out.cells (g := gq) rfl k (.slice r.A r.n r.c) (by rw [List.getElem?_map, hr]; rfl)
          rw [hb'.cell (by rw [add_block]; exact HLT6.out gq (by simp [bk]))]
          exact h1
        obtain ⟨ada, rfl, hcells⟩ := hcat
        have hby : ∀ w', Below B2 w5 w' → By w' r.A r.n r.b := fun w' hb' => by
          have h1 : By w5 r.A r.n r.b := By.of_own (HOK5.out r hmem).1
          exact (show Lo w5 B2 r.A r.n r.b from ⟨h1, HLTR.out r hmem⟩).below hb' |>.1
        have HBY := Lib.hid hby
        have HCELLS := Lib.hid hcells
        have hk0 : (0 : Int) ≤ k := by omega
        have HR200 := Lib.hid hr200
        have HRNN := Lib.hid hrn
        clear hr hmem hbs hcells hby hr200 hrn hkr
        cases f
        · have hR := HF0.out rfl
          rw [HDR.out] at hR
          by_cases hm : r.b.length ≤ mo
          · obtain ⟨g1, g2, g3⟩ := rw_enc (b := r.b) (m := mo) (by have := HR200.out; omega) (by omega) (encRows ((rs.map (·.b)).drop (k + 1)))
            rw [← hR] at g1 g2 g3
            have G1 := Lib.hid g1
            have G2 := Lib.hid g2
            have G3 := Lib.hid (g3 false)
            have HRR := Lib.hid hR
            have hnm1 : (r.n : Int) ≤ mo := by rw [HRNN.out]; omega
            have hrn2 : r.n ≤ 200 := by rw [HRNN.out]; exact HR200.out
            clear g1 g2 g3 hR hm
            go_wp2_with fail
            refine (rrow_s mo (by omega) HR.out (by have := HRL.out; omega)).mono ?_
            rw [G1.out, G2.out, G3.out]
            rintro e w6 ⟨A7, c7, rfl, hy6, hn6, hr6, hf6⟩
            have HB6 := Lib.hid (HBEL.out.trans (HR.out.below hf6))
            have hc6' := HCELLS.out w6 HB6.out
            have HY6 := Lib.hid hy6
            have HR6 := Lib.hid hr6
            clear hy6 hn6 hr6 hf6
            go_wp2_with fail
            refine (same_any A7 r.A r.b.length r.n c7 r.c r.b r.b w6 HY6.out (HBY.out w6 HB6.out) (by have := HR200.out; omega)).mono ?_
            rw [decide_eq_true rfl]
            rintro e w7 ⟨rfl, k7, rfl⟩
            have HR7 := Lib.hid (HR6.out.fr ((Fr.refl [] w6).drewN k7))
            have HB7 := Lib.hid (HB6.out.trans (((Fr.refl [] w6).drewN k7).nil_below HR6.out.le.2.2))
            go_wp2
            go_roundw
            case rel => exact ⟨k + 1, _, false, by omega, by go_num, rfl, HR7.out, fun _ => rfl, (fun h => by cases h), by have h1 := HRL.out; rw [HRR.out, List.length_append] at h1; omega, HB7.out⟩
            case measure => simp [intOf]; omega
          · have hdec : dec R = some (r.b.length, (enc r.b.length).length) := by rw [hR, List.append_assoc]; exact dec_enc (by have := HR200.out; omega) _
            obtain ⟨g1, g2, g3⟩ := rw_over (m := mo) hdec (by omega)
            have G1 := Lib.hid g1
            have G2 := Lib.hid g2
            have G3 := Lib.hid (g3 false)
            have hnm1 : (mo : Int) < r.n := by rw [HRNN.out]; omega
            have hrn2 : r.n ≤ 200 := by rw [HRNN.out]; exact HR200.out
            clear g1 g2 g3 hR hm hdec
            go_wp2_with fail
            refine (rrow_s mo (by omega) HR.out (by have := HRL.out; omega)).mono ?_
            rw [G1.out, G2.out, G3.out]
            rintro e w6 ⟨A7, c7, rfl, hy6, hn6, hr6, hf6⟩
            have HB6 := Lib.hid (HBEL.out.trans (HR.out.below hf6))
            have hc6' := HCELLS.out w6 HB6.out
            have HR6 := Lib.hid hr6
            clear hy6 hn6 hr6 hf6
            go_wp2
            go_roundw
            case rel => exact ⟨k + 1, [], true, by omega, by go_num, rfl, HR6.out, (fun h => by cases h), fun _ => rfl, by simp, HB6.out⟩
            case measure => simp [intOf]; omega
        · have hR := HF1.out rfl
          subst hR
          obtain ⟨g1, g2, g3⟩ := rw_none (R := []) (m := mo) (.inl rfl)
          have G1 := Lib.hid g1
          have G2 := Lib.hid g2
          have G3 := Lib.hid (g3 true)
          clear g1 g2 g3
          go_wp2_with fail
          refine (rrow_s mo (by omega) HR.out (by simp)).mono ?_
          rw [G1.out, G2.out, G3.out]
          rintro e w6 ⟨A7, c7, rfl, hy6, hn6, hr6, hf6⟩
          have HB6 := Lib.hid (HBEL.out.trans (HR.out.below hf6))
          have hc6' := HCELLS.out w6 HB6.out
          have HR6 := Lib.hid hr6
          clear hy6 hn6 hr6 hf6
          go_wp2
          go_roundw
          case rel => exact ⟨k + 1, [], true, by omega, by go_num, rfl, HR6.out, (fun h => by cases h), fun _ => rfl, by simp, HB6.out⟩
          case measure => simp [intOf]; omega
      · have hR : R = [] := by
          cases f
          · rw [HF0.out rfl, List.drop_eq_nil_of_le (by rw [List.length_map, HQL.out]; omega)]
            unfold encRows; rfl
          · exact HF1.out rfl
        subst hR
        cases f
        all_goals
          go_wp2_with fail
          refine (ok_b HR.out).mono ?_
          rintro e wx ⟨rfl, rfl⟩
          go_wp2_with fail
          refine (left_b HR.out).mono ?_
          rintro e wx ⟨rfl, rfl⟩
          go_wp2_with fail
          refine (wakes_any wr).mono ?_
          rintro e w9 ⟨rfl, hf9⟩
          have HF9 := Lib.hid hf9
          clear hf9
          go_wp2
          go_ret
          exact ⟨rfl, Fr.of_below (HBW.out.trans (HF9.out.nil_below HBW.out.size)) (Nat.le_refl _)⟩

namespace codeRows
open Go.ChangeShapes Go.WideShapes Go.ChangeAt
open Go.ChangeMaps (open_string shut_string)
theorem own : ownKnob Try.prog.godebug = none := by kernel_rfl
set_option linter.unusedVariables false
set_option maxRecDepth 100000 in
set_option maxHeartbeats 2000000 in
theorem lifted (os : Os) (started : os.Started) (H : Type) (enc : TypeId × Value → H) :
    ReturnsInHanded {} Try.checked os 9 .any (Rows.codeRowsSpec.pre6 enc Try.prog Try.f9 Rows.codeRowsRow.domain false) (Rows.codeRowsSpec.post enc Try.prog Try.f9 false true false false) := by
  refine returnsInHanded_of_change (C := Try.checked) own started (by kernel_rfl) Try.func9
    (ChangeSpec.witness6 (enc := enc) (C := Try.checked) false ⟨#[], #[.slice none 0 0, .int .i64 0], []⟩ 8 (by kernel_rfl) (by kernel_rfl) (by kernel_rfl) (by kernel_rfl)) ?_
  intro W base args ds gs before hval0 hW hcnd _
  have hval : ∀ (j : Nat) t v, Try.f9.params[j]? = some t → args[j]? = some v → Value.okWide Try.prog W .any base t v := hval0
  have hW' := hW
  obtain ⟨p, q, hA0, hV, rfl, hfz, hnd⟩ := hW
  have hA : DataW.TrodAll enc Try.prog W 0 (fun _ => true) true Try.f9.params.toList args.toList ds p := hA0
  rw [Try.params9] at hA hval
  obtain ⟨v0, vs0, d0, ds0, p0, q0, hargs, rfl, rfl, h0, r0⟩ := trodAll_cons hA
  obtain ⟨v1, vs1, d1, ds1, p1, q1, rfl, rfl, rfl, h1, r1⟩ := trodAll_cons r0
  obtain ⟨rfl, rfl, rfl⟩ := trodAll_nil r1
  obtain rfl : args = #[v0, v1] := by cases args; simp_all
  obtain ⟨rfl, rfl⟩ := trodVars_none hV
  obtain ⟨a0, len0, cap0, rfl⟩ := okWide_slice Try.underlying60 (hval 0 60 v0 rfl rfl)
  have k0 := h0
  have lt0 : ∀ x ∈ p0, x.block < W.heap.size := by obtain ⟨m, hm⟩ := k0; exact DataW.trod_lt m _ _ _ hm
  obtain ⟨l0, y0, c0, x0⟩ : ∃ l, RowsIn W a0 len0 l ∧ len0 ≤ cap0 ∧ cap0 ≤ maxLen := by
    obtain ⟨fuel, hf⟩ := h0
    exact rows_of_trod (by simpa [Value.cells] using hf)
  obtain ⟨a1, rfl, rfl, rfl, w1⟩ := open_int Try.underlying3 (hval 1 3 v1 rfl rfl) h1
  have b1 := i64_of w1
  clear hA0 hval0
  refine (rows_walk W a0 len0 cap0 l0 y0 c0 x0 a1 b1.1 b1.2).mono fun e W' ⟨he, hg⟩ => ?_
  subst he
  have hb := hg.below_all
  exact ⟨_, rfl, _, _, _, [], _, [], hW', trodAll_mk1 (shut_bool Try.underlying4 _), (trodAll_cons_mk (Below.trod laidOut (by kernel_rfl) (of_decide_eq_true (by kernel_rfl)) k0 hb lt0) (trodAll_cons_mk (shut_int Try.underlying3 w1) trodAll_mk0)), rfl, hb.frame _, fun h => by cases h⟩
theorem over : Rows.codeRowsRow.holds Try.pinned (OpenSpec.ofChange Rows.codeRowsSpec) :=
  OpenClaim.holds_of_wide 9 Try.f9 rfl rfl rfl rfl rfl rfl rfl ⟨rfl, rfl, rfl, rfl, rfl⟩ rfl rfl rfl rfl rfl (by kernel_rfl) Try.func9 (by kernel_rfl)
    (of_decide_eq_true (by kernel_rfl)) (by unfold Func.isWrapper; first | (rw [if_pos (by decide +kernel)]; kernel_rfl) | (rw [if_neg (by decide +kernel)]; exact ⟨rfl, rfl⟩))
    (fun os started H enc _ => lifted os started H enc)
/-- the statement -/
theorem proved : Rows.CodeRowsSaid := over
end codeRows
end Go.Proofs.Ytcnngdhjeihecaa.InRows
