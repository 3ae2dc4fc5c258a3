/- gavelref01's Rows: the document's own hash of rows. -/
import Derived.Test.YtimknnohabodnaaDoorShaX
import Derived.Test.YtimknnohabodnaaDoorShaRw
namespace Go.Proofs.YtimknnohabodnaaDoor
open Go.RowKit

set_option maxRecDepth 100000 in
set_option maxHeartbeats 8000000 in
theorem refrows_any (A : Option Addr) (n c : Nat) (rs : List RowV) (w : World) (hr : RwsIn w A n rs) :
    Calls Tryd.prog 20 #[.slice A n c] w fun e w' => e = .returned (.agg ((sumL (enc n ++ encRw (rs.map (·.b)))).map by8).toArray) ∧ Fr [] w w' := by
  have HR := Lib.hid hr
  have hn8 := hr.2.2.2
  obtain ⟨w0, hw0⟩ : ∃ w0, w0 = w.alloc (Obj.cells zeroH 26) := ⟨_, rfl⟩
  have hf0 : Fr [] w w0 := by rw [hw0]; exact (Fr.refl [] w).alloc _
  have hb0 : Blk w0 w.heap.size 26 zeroH := by rw [hw0]; exact Blk.new _ _ _
  have hs0 : w0.heap.size = w.heap.size + 1 := by rw [hw0]; simp
  have HF0 := Lib.hid hf0
  have HB0 := Lib.hid hb0
  have HS0 := Lib.hid hs0
  have HW0 := Lib.hid hw0
  clear hr hw0 hf0 hb0 hs0
  go_enter Tryd.func20, Tryd.ntmps20
  go_upto_region 1 with (fail)
  change Code.wp _ _ _ _ (w.alloc (Obj.cells zeroH 26))
  rw [← HW0.out]
  generalize hg2 : w.heap.size = g2 at *
  have HG2 := Lib.hid hg2
  clear hg2
  go_wp2_with fail
  refine (refint_nat n (by omega) _).mono ?_
  rintro e w1 ⟨A1, c1, rfl, hN⟩
  have HN1 := Lib.hid hN
  have hb2 := HB0.out.keep hN.2.1 (by simp)
  have HB2 := Lib.hid hb2
  have HF2 := Lib.hid (HF0.out.and hN.2.1 (by simp))
  have HBK1 : Hid (∀ y ∈ bk A1, g2 < y) := Lib.hid (fun y hy => by have := hN.2.2 y hy; have := HS0.out; omega)
  have HEN := Lib.hid (show (enc n).length ≤ 10 by have := enc_ten (m := n) (by omega); omega)
  clear hN hb2
  go_wp2
  go_loopw [3, 10] (fun s3 i wr => ∃ (k : Nat) (A3 : Option Addr) (c3 : Nat) (L : List UInt8), k ≤ n ∧ i = .int .i64 k ∧ s3 = .slice A3 L.length c3 ∧ L = enc n ++ encRw ((rs.map (·.b)).take k) ∧ L.length ≤ 10 + 120 * k ∧ wr.ownsRow 0 5 1 (.slice A3 L.length c3) L.length (L.map by8) ∧ (∀ y ∈ bk A3, g2 < y) ∧ Blk wr g2 26 zeroH ∧ Fr [] w wr) (fun _ i _ => n - (intOf i).toNat)
  case atStart => exact ⟨0, A1, c1, enc n, by omega, rfl, rfl, by simp [encRw], by have := HEN.out; omega, HN1.out.1, HBK1.out, HB2.out, HF2.out⟩
  case round =>
    obtain ⟨k, A3, c3, L, hk, rfl, rfl, hL, hLl, ho, hbk, hb, hf⟩ := hrel
    have HL := Lib.hid hL
    have HLL := Lib.hid hLl
    have HO := Lib.hid ho
    have HBK := Lib.hid hbk
    have HB := Lib.hid hb
    have HF := Lib.hid hf
    clear hL hLl ho hbk hb hf HN1 HBK1 HB2 HF2
    by_cases hlt : k < n
    · obtain ⟨ad, r, rfl, hg, hy, hrc, hrm, hcell⟩ := HR.out.at HF.out.below_all hlt
      have hrn := hrc
      have hrb := hrm
      have hL1 : L ++ (enc r.n ++ r.b) = enc n ++ encRw ((rs.map (·.b)).take (k + 1)) := by
        rw [encRw_snoc (b := r.b) (by rw [List.getElem?_map, hg]; rfl), HL.out, hy.1, List.append_assoc]
      have hl1 : (L ++ (enc r.n ++ r.b)).length ≤ 10 + 120 * (k + 1) := by
        have h1 := enc_ten (m := r.n) (by omega)
        have h2 := HLL.out
        have h3 := hy.1
        simp only [List.length_append]
        omega
      have hl2 : (L ++ (enc r.n ++ r.b)).length = L.length + ((enc r.n).length + r.n) := by
        have h3 := hy.1
        simp only [List.length_append]
        omega
      obtain ⟨L2, hL2⟩ : ∃ L2, L2 = L ++ (enc r.n ++ r.b) := ⟨_, rfl⟩
      rw [← hL2] at hL1 hl1 hl2
      have HL2 := Lib.hid hL2
      have HL1 := Lib.hid hL1
      have Hl1 := Lib.hid hl1
      have Hl2 := Lib.hid hl2
      have HY := Lib.hid hy
      have hsz := HF.out.size
      have HRB : Hid (∀ y ∈ bk r.A, y < wr.heap.size) := Lib.hid (fun y hy => by have h1 := hrb y hy; have := HG2.out; omega)
      have hk0 : (0 : Int) ≤ k := by omega
      clear hg hy hrc hrm hrb hL1 hl1 hl2 hL2 hsz
      go_wp2_with fail
      refine (refrow_any r.A r.n r.c r.b wr HY.out HRB.out (by omega)).mono ?_
      rintro e w3 ⟨A4, c4, rfl, hN⟩
      have HN := Lib.hid hN
      have HO3 := Lib.hid (own_keep HO.out hN.2.1 (by simp))
      have HB3 := Lib.hid (HB.out.keep hN.2.1 (by simp))
      have HF3 := Lib.hid (HF.out.and hN.2.1 (by simp))
      clear hN
      go_wp2_with (at_builtin; refine Stop.mk ?_)
      refine Stop.go ?_
      refine wpList_append_bytes _ rfl (.tmp 13) (.tmp 18) _ rfl 5 Tryd.underlying23 info_u8 (.slice A3 L.length c3) L.length L rfl HO3.out A4 ((enc r.n).length + r.n) c4 (enc r.n ++ r.b) rfl HN.out.by (by have := HLL.out; have := enc_ten (m := r.n) (by omega); omega) ?_
      intro A5 c5 w5 ho5 hg5 hat5
      have HO5 : Hid (w5.ownsRow 0 5 1 (.slice A5 L2.length c5) L2.length (L2.map by8)) := Lib.hid (by rw [Hl2.out, HL2.out]; exact ho5)
      have hf5 : Fr (bk A3) w3 w5 := (Fr.refl (bk A3) w3).grown hg5 (fun y hy _ => by rw [bk_mem] at hy; exact hy)
      have HBK5 : Hid (∀ y ∈ bk A5, g2 < y) := Lib.hid (by
        intro y hy
        rcases hat5 with e | e
        · rw [e, bk_own] at hy; exact HBK.out y hy
        · rw [e] at hy; simp at hy; have := HB3.out.lt; omega)
      have HB5 := Lib.hid (HB3.out.keep hf5 (fun hm => by have := HBK.out _ hm; omega))
      have HF5 := Lib.hid (HF3.out.and hf5 (fun y hy => by have := HBK.out y hy; have := HG2.out; omega))
      clear ho5 hg5 hat5 hf5
      rw [← Hl2.out]
      go_wp2
      go_roundw
      case rel => exact ⟨k + 1, A5, c5, _, by omega, by go_num, rfl, HL1.out, Hl1.out, HO5.out, HBK5.out, HB5.out, HF5.out⟩
      case measure => simp [intOf]; omega
    · have hkn : k = n := by omega
      have HLE : Hid (L = enc n ++ encRw (rs.map (·.b))) := Lib.hid (by
        have h := HL.out
        rw [hkn, List.take_of_length_le (by rw [List.length_map, HR.out.1]; omega)] at h
        exact h)
      have hd : decide (k < n) = false := by simp; omega
      clear hkn hlt
      go_wp2_with fail
      refine (refsum_any A3 L.length c3 L wr (By.of_own HO.out) (by have := HLL.out; omega)).mono ?_
      rintro e w5 ⟨rfl, hf5⟩
      have HB5 := Lib.hid (HB.out.keep hf5 (by simp))
      have HF5 := Lib.hid (HF.out.and hf5 (by simp))
      have hsz : (((sumL L).map by8).toArray).size = 32 := by simp [sumL_len]
      have hone : ((((sumL L).map by8).toArray).all (·.oneCell')) = true := by
        rw [Array.all_eq_true_iff_forall_mem]
        intro u hu
        exact by8_one (sumL L) u (by simpa using hu)
      have HHM : Hid (((sumL L).map by8).toArray = ((sumL (enc n ++ encRw (rs.map (·.b)))).map by8).toArray) := Lib.hid (by rw [HLE.out])
      have HSZ := Lib.hid hsz
      have HONE := Lib.hid hone
      clear hsz hone hf5
      generalize ((sumL L).map by8).toArray = H at *
      go_wp2_with (first
        | (refine wpList_store_row rfl 26 _ _ rfl g2 H rfl rfl 26 zeroH HB5.out (by rw [hash_sizeS, HSZ.out]) (by rw [HSZ.out, zeroH_size]) HONE.out ?_))
      have hgr := setRow_blk HB5.out H
      refine bodyPost_ret (v := .agg H) (results_cell_row Tryd.results20 _ _ g2 26 H _ _ rfl hgr Tryd.underlying26 rfl (by rw [hash_sizeS, HSZ.out])) rfl ⟨by rw [HHM.out], ?_⟩
      exact HF5.out.trans (setRow_fr _ g2 H) (fun y hy hl => by have := HG2.out; simp at hy; omega)
end Go.Proofs.YtimknnohabodnaaDoor
