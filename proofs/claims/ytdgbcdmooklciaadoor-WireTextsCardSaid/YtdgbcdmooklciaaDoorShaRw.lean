/- Package sha: the hash of rows. -/
import Derived.Test.YtdgbcdmooklciaaDoorShaQ
import Derived.Test.YtdgbcdmooklciaaDoorRowv
import Derived.Test.YtdgbcdmooklciaaDoorRefW
import Derived.Deep.DeepCutAuto
namespace Go.Proofs.YtdgbcdmooklciaaDoor
set_option maxRecDepth 100000
open Go.RowKit

def encRw (l : List (List UInt8)) : List UInt8 := (l.map fun b => enc b.length ++ b).flatten
theorem encRw_snoc {l : List (List UInt8)} {k : Nat} {b : List UInt8} (h : l[k]? = some b) : encRw (l.take (k + 1)) = encRw (l.take k) ++ (enc b.length ++ b) := by
  unfold encRw
  rw [List.take_add_one, h]
  simp
/-- rows that are there, each in memory that is there -/
def RwsIn (w : World) (A : Option Addr) (n : Nat) (rs : List RowV) : Prop :=
  rs.length = n ∧ (0 < n → ∃ ad, A = some ad ∧ ∀ i r, rs[i]? = some r → w.cell? (ad.add i) = some (.slice r.A r.n r.c)) ∧ (∀ r ∈ rs, By w r.A r.n r.b ∧ r.n ≤ 100 ∧ ∀ x ∈ bk r.A, x < w.heap.size) ∧ n ≤ 8
theorem RwsIn.at {w w' : World} {A : Option Addr} {n i : Nat} {rs : List RowV} (h : RwsIn w A n rs) (hb : Below w.heap.size w w') (hi : i < n) :
    ∃ ad r, A = some ad ∧ rs[i]? = some r ∧ By w' r.A r.n r.b ∧ r.n ≤ 100 ∧ (∀ x ∈ bk r.A, x < w.heap.size) ∧ w'.cell? (ad.add i) = some (.slice r.A r.n r.c) := by
  obtain ⟨ad, e, hc⟩ := h.2.1 (by omega)
  have hl : i < rs.length := by rw [h.1]; exact hi
  obtain ⟨h1, h2, h3⟩ := h.2.2.1 rs[i] (List.getElem_mem hl)
  exact ⟨ad, rs[i], e, List.getElem?_eq_getElem hl, h1.old hb, h2, h3, cell_old hb (hc i rs[i] (List.getElem?_eq_getElem hl))⟩

theorem rws_of_own {w : World} {A : Option Addr} {k c : Nat} {rs : List RowV} (hrl : rs.length = k) (hk : k ≤ 8) (hrn : ∀ r ∈ rs, r.n ≤ 100) (ho : w.ownsRow 0 23 1 (.slice A k c) k (rs.map RowV.val)) (hok : RowsOk w [] rs) : RwsIn w A k rs := by
  refine ⟨hrl, fun h => ?_, fun r hr => ⟨By.of_own (hok r hr).1, hrn r hr, hok.lt r hr⟩, hk⟩
  obtain ⟨gq, cap, hv, _, _⟩ := ho.form h
  injection hv with hA
  subst hA
  exact ⟨_, rfl, fun i r hi => ho.cells (g := gq) rfl i (.slice r.A r.n r.c) (by rw [List.getElem?_map, hi]; rfl)⟩

set_option maxRecDepth 100000 in
set_option maxHeartbeats 8000000 in
theorem sharows_any (A : Option Addr) (n c : Nat) (rs : List RowV) (w : World) (hr : RwsIn w A n rs) (hK : KW w) :
    Calls Tryd.prog 9 #[.slice A n c] w fun e w' => e = .returned (.agg ((sumL (enc n ++ encRw (rs.map (·.b)))).map by8).toArray) ∧ Fr [] w w' := by
  have HR := Lib.hid hr
  have HK := Lib.hid hK
  have hn8 := hr.2.2.2
  obtain ⟨w0, hw0⟩ : ∃ w0, w0 = w.alloc (Obj.cells zeroH 26) := ⟨_, rfl⟩
  have hf0 : Fr [] w w0 := by rw [hw0]; exact (Fr.refl [] w).alloc _
  have hb0 : Blk w0 w.heap.size 26 zeroH := by rw [hw0]; exact Blk.new _ _ _
  have hs0 : w0.heap.size = w.heap.size + 1 := by rw [hw0]; simp
  have HF0 := Lib.hid hf0
  have HB0 := Lib.hid hb0
  have HS0 := Lib.hid hs0
  have HW0 := Lib.hid hw0
  clear hr hK hw0 hf0 hb0 hs0
  go_enter Tryd.func9, Tryd.ntmps9
  go_upto_region 1 with (fail)
  change Code.wp _ _ _ _ (w.alloc (Obj.cells zeroH 26))
  rw [← HW0.out]
  generalize hg2 : w.heap.size = g2 at *
  have HG2 := Lib.hid hg2
  clear hg2
  go_wp2_with fail
  refine (newWriter_any _).mono ?_
  rintro e w1 ⟨rfl, hw1, hf1⟩
  have HW1 := Lib.hid hw1
  have HF1 := Lib.hid hf1
  clear hw1 hf1
  go_wp2_with fail
  refine (int_nat n (by omega) w1 _ _ _ HW1.out (by simp)).mono ?_
  rintro e w2 ⟨rfl, S2, hw2, hf2, hs2⟩
  have hgw : w0.heap.size = g2 + 1 := HS0.out
  have HW2 : Hid (Wr w2 S2 (g2 + 1) (enc n)) := Lib.hid (by rw [← hgw]; simpa using hw2)
  have hb2 : Blk w2 g2 26 zeroH := (HB0.out.keep HF1.out (by simp)).keep hf2 (by simp; omega)
  have HB2 := Lib.hid hb2
  have HSS : Hid (∀ y ∈ S2, g2 < y) := Lib.hid (fun y hy => by
    by_cases hl : y < w1.heap.size
    · have := hs2 y hy hl; simp at this; omega
    · have := HF1.out.size; omega)
  have HF2 : Hid (Fr [] w w2) := Lib.hid ((HF0.out.and HF1.out (by simp)).and hf2 (by simp; have := HG2.out; omega))
  have HEN := Lib.hid (show (enc n).length ≤ 10 by have := enc_ten (m := n) (by omega); omega)
  clear hw2 hf2 hs2 hb2
  rw [hgw]
  have HGW := Lib.hid hgw
  clear hgw
  go_wp2
  go_loopw [12] (fun i wr => ∃ (k : Nat) (S : List Nat) (L : List UInt8), k ≤ n ∧ i = .int .i64 k ∧ L = enc n ++ encRw ((rs.map (·.b)).take k) ∧ L.length ≤ 10 + 120 * k ∧ Wr wr S (g2 + 1) L ∧ (∀ y ∈ S, g2 < y) ∧ Blk wr g2 26 zeroH ∧ Fr [] w wr) (fun i _ => n - (intOf i).toNat)
  case atStart => exact ⟨0, S2, enc n, by omega, rfl, by simp [encRw], by have := HEN.out; omega, HW2.out, HSS.out, HB2.out, HF2.out⟩
  case round =>
    obtain ⟨k, S, L, hk, rfl, hL, hLl, hw, hS, hb, hf⟩ := hrel
    have HL := Lib.hid hL
    have HLL := Lib.hid hLl
    have HW := Lib.hid hw
    have HS := Lib.hid hS
    have HB := Lib.hid hb
    have HF := Lib.hid hf
    clear hL hLl hw hS hb hf HW2 HSS HB2 HF2
    by_cases hlt : k < n
    · obtain ⟨ad, r, rfl, hg, hy, hrc, hrm, hcell⟩ := HR.out.at HF.out.below_all hlt
      have hrn := hrc
      have hrb := hrm
      have hL1 : L ++ (enc r.n ++ r.b) = enc n ++ encRw ((rs.map (·.b)).take (k + 1)) := by
        rw [encRw_snoc (b := r.b) (by rw [List.getElem?_map, hg]; rfl), HL.out, hy.1, List.append_assoc]
      have hl1 : (L ++ (enc r.n ++ r.b)).length ≤ 10 + 120 * (k + 1) := by
        have h1 := enc_ten (m := r.n) (by omega)
        have h2 := HLL.out
        have h3 := hy.1
        simp only [List.length_append]
        omega
      have HL1 := Lib.hid hL1
      have Hl1 := Lib.hid hl1
      have HY := Lib.hid hy
      have HRB : Hid (∀ y ∈ bk r.A, ¬ y ∈ S) := Lib.hid (fun y hy hm => by have h1 := hrb y hy; have h2 := HS.out y hm; have := HG2.out; omega)
      have hk0 : (0 : Int) ≤ k := by omega
      clear hg hy hrc hrm hrb hL1 hl1
      go_wp2_with fail
      refine (row_any r.A r.n r.c r.b wr HY.out (by omega) S HRB.out (g2 + 1) L HW.out (by have := HLL.out; omega)).mono ?_
      rintro e w3 ⟨rfl, S3, hw3, hf3, hs3⟩
      have HW3 := Lib.hid hw3
      have HS3 : Hid (∀ y ∈ S3, g2 < y) := Lib.hid (fun y hy => by
        by_cases hl : y < wr.heap.size
        · exact HS.out y (hs3 y hy hl)
        · have := HB.out.lt; omega)
      have HB3 := Lib.hid (HB.out.keep hf3 (fun hm => by have := HS.out _ hm; omega))
      have HF3 := Lib.hid (HF.out.and hf3 (fun y hy => by have := HS.out y hy; have := HG2.out; omega))
      clear hw3 hf3 hs3
      go_wp2
      go_roundw
      case rel => exact ⟨k + 1, S3, _, by omega, by go_num, HL1.out, Hl1.out, HW3.out, HS3.out, HB3.out, HF3.out⟩
      case measure => simp [intOf]; omega
    · have hkn : k = n := by omega
      have HLE : Hid (L = enc n ++ encRw (rs.map (·.b))) := Lib.hid (by
        have h := HL.out
        rw [hkn, List.take_of_length_le (by rw [List.length_map, HR.out.1]; omega)] at h
        exact h)
      have hd : decide (k < n) = false := by simp; omega
      clear hkn hlt
      go_wp2_with fail
      refine (bytes_any wr S (g2 + 1) L HW.out (by have := HLL.out; omega)).mono ?_
      rintro e w4 ⟨A4, c4, rfl, hN⟩
      have HN := Lib.hid hN
      have HB4 := Lib.hid (HB.out.keep hN.2.1 (by simp))
      have HF4 := Lib.hid (HF.out.and hN.2.1 (by simp))
      clear hN
      go_wp2_with fail
      refine (sum_any A4 L.length c4 L w4 HN.out.by HN.out.cap (by have := HLL.out; omega) (HK.out.keep HF4.out (by simp))).mono ?_
      rintro e w5 ⟨rfl, hf5⟩
      have HB5 := Lib.hid (HB4.out.keep hf5 (by simp))
      have HF5 := Lib.hid (HF4.out.and hf5 (by simp))
      have hsz : (((sumL L).map by8).toArray).size = 32 := by simp [sumL_len]
      have hone : ((((sumL L).map by8).toArray).all (·.oneCell')) = true := by
        rw [Array.all_eq_true_iff_forall_mem]
        intro u hu
        exact by8_one (sumL L) u (by simpa using hu)
      have HHM : Hid (((sumL L).map by8).toArray = ((sumL (enc n ++ encRw (rs.map (·.b)))).map by8).toArray) := Lib.hid (by rw [HLE.out])
      have HSZ := Lib.hid hsz
      have HONE := Lib.hid hone
      clear hsz hone hf5
      generalize ((sumL L).map by8).toArray = H at *
      go_wp2_with (first
        | (refine wpList_store_row rfl 26 _ _ rfl g2 H rfl rfl 26 zeroH HB5.out (by rw [hash_sizeS, HSZ.out]) (by rw [HSZ.out, zeroH_size]) HONE.out ?_))
      have hgr := setRow_blk HB5.out H
      refine bodyPost_ret (v := .agg H) (results_cell_row Tryd.results9 _ _ g2 26 H _ _ rfl hgr Tryd.underlying26 rfl (by rw [hash_sizeS, HSZ.out])) rfl ⟨by rw [HHM.out], ?_⟩
      exact HF5.out.trans (setRow_fr _ g2 H) (fun y hy hl => by have := HG2.out; simp at hy; omega)
end Go.Proofs.YtdgbcdmooklciaaDoor
