/- The walk of BookApart. -/
import Derived.Test.YtimknnohabodnaaApart
namespace Go.Proofs.Ytimknnohabodnaa
open Go.RowKit

set_option maxRecDepth 100000 in
set_option maxHeartbeats 20000000 in
theorem apart_walk (w : World) (A : Option Addr) (n c : Nat) (l : List RowV) (hl : RowsIn w A n l) (hc : n ≤ c) (hx : c ≤ maxLen) (x : Int) (hx1 : -9223372036854775808 ≤ x) (hx2 : x < 9223372036854775808) (m : Int) (h1 : -9223372036854775808 ≤ m) (h2 : m < 9223372036854775808) :
    Calls Try.prog 3 #[.slice A n c, .int .i64 x, .int .i64 m] w fun e w' => e = .returned (.bool true) ∧ Fr [] w w' := by
  unfold maxLen at hx
  have hnm : n ≤ 9223372036854775807 := by omega
  have HL := Lib.hid hl
  have HWF : Hid ((Lit.int .i64 x).wf = true) := Lib.hid (WalkArith.wf_i64 (by omega))
  have HM1 := Lib.hid h1
  have HM2 := Lib.hid h2
  have hxx : (x != x) = false := by simp
  clear hl hx hc h1 h2 hx1 hx2
  go_enter Try.func3, Try.ntmps3
  go_wp2_with fail
  refine (new_any w).mono ?_
  rintro e w1 ⟨rfl, hb1, hf1⟩
  have HB1 := Lib.hid hb1
  have HF1 := Lib.hid hf1
  have hl1 : w.heap.size + 1 < w1.heap.size := hb1.lt _ (by simp)
  clear hb1 hf1
  go_upto_block 0 with (fail)
  go_cut [8, 9] (fun s8 _ wr => ∃ (k : Nat) (A8 : Option Addr) (c8 : Nat) (rs : List RowV) (ts : List (List UInt8)), k ≤ 8 ∧ s8 = .slice A8 k c8 ∧ ts.length = k ∧ Txs ts ∧ rs.map (·.b) = ts ∧ (∀ r ∈ rs, r.n = r.b.length) ∧
      Bok wr [w.heap.size + 1, w.heap.size] (w.heap.size + 1) (ents x ts) ∧ wr.ownsRow 0 25 1 (.slice A8 k c8) k (rs.map RowV.val) ∧ (∀ y ∈ bk A8, w.heap.size + 1 < y) ∧ RowsOk wr [w.heap.size + 1, w.heap.size] rs ∧ Fr [] w wr)
  case first =>
    go_wp2_with fail
    go_loopw [8, 9] (fun s8 i wr => ∃ (k : Nat) (A8 : Option Addr) (c8 : Nat) (rs : List RowV) (ts : List (List UInt8)), k ≤ 8 ∧ i = .int .i64 k ∧ s8 = .slice A8 k c8 ∧ ts.length = k ∧ Txs ts ∧ rs.map (·.b) = ts ∧ (∀ r ∈ rs, r.n = r.b.length) ∧
      Bok wr [w.heap.size + 1, w.heap.size] (w.heap.size + 1) (ents x ts) ∧ wr.ownsRow 0 25 1 (.slice A8 k c8) k (rs.map RowV.val) ∧ (∀ y ∈ bk A8, w.heap.size + 1 < y) ∧ RowsOk wr [w.heap.size + 1, w.heap.size] rs ∧ Fr [] w wr) (fun _ i _ => 8 - (intOf i).toNat)
    case atStart => exact ⟨0, none, 0, [], [], by omega, rfl, rfl, rfl, Txs.nil, rfl, by simp, HB1.out, ⟨rfl, .inl ⟨rfl, rfl⟩⟩, by simp [bk], by intro r hr; simp at hr, HF1.out⟩
    case round =>
      obtain ⟨k, A8, c8, rs, ts, hk8, rfl, rfl, htl, htx, hrs, hrn, hb, ho, hbk, hok, hf⟩ := hrel
      have HTL := Lib.hid htl
      have HTX := Lib.hid htx
      have HRS := Lib.hid hrs
      have HRN := Lib.hid hrn
      have HB := Lib.hid hb
      have HO := Lib.hid ho
      have HBK := Lib.hid hbk
      have HOK := Lib.hid hok
      have HF := Lib.hid hf
      clear htl htx hrs hrn hb ho hbk hok hf HB1 HF1
      by_cases hlt : k < n ∧ k < 8
      · obtain ⟨hkn, hk2⟩ := hlt
        obtain ⟨ad, r, rfl, hg, hy, hrc, hrm, hcell⟩ := HL.out.at HF.out.below_all hkn
        have HY := Lib.hid hy
        have HRC := Lib.hid (And.intro hrc hrm)
        have hk0 : (0 : Int) ≤ k := by omega
        have wk : IntKind.u8.wrap (k : Int) = k := u8_wrap_nat k (by omega)
        have hszr := HB.out.lt (w.heap.size + 1) (by simp)
        clear hg hy hrc hrm
        go_wp2_with fail
        rw [show (20 : Int) = ((20 : Nat) : Int) from rfl]
        refine (cut_any r.A r.n r.c 20 r.b wr HY.out (Nat.le_trans HRC.out.1 HRC.out.2) HRC.out.1 (by omega)).mono ?_
        rintro e w2 ⟨A2, c2, rfl, hN2⟩
        have h20 : (r.b.take 20).length ≤ 20 := List.length_take_le _ _
        generalize r.b.take 20 = b at *
        have HN2 := Lib.hid hN2
        have H20 := Lib.hid h20
        clear hN2 h20
        go_wp2_with (at_builtin; refine Stop.mk ?_)
        refine Stop.go ?_
        refine wpList_append_bytes _ rfl (.tmp 33) (.tmp 36) _ rfl 5 Try.underlying25 info_u8 (.slice A2 b.length c2) b.length b rfl (HN2.out.1.alloc _) (some ⟨w2.heap.size, 0, none⟩) 1 1 [UInt8.ofNat k] rfl
          (By.one (Blk.new _ _ _) (by first | exact byte_of k (by omega) | (rw [wk]; exact byte_of k (by omega)))) (by have := H20.out; omega) ?_
        intro A3 c3 w3 ho3 hg3 hat3
        have hN3 : NewB wr w3 A3 (b.length + 1) c3 (b ++ [UInt8.ofNat k]) := NewB.grow (HN2.out.2.1.alloc _) HN2.out.2.2 ho3 hg3 hat3
        have HN3 := Lib.hid hN3
        clear ho3 hg3 hat3 hN3 HN2
        go_wp2_with fail
        have hnew : ¬ (b ++ [UInt8.ofNat k]) ∈ ts := by rw [← HTL.out]; exact HTX.out.new b
        have hsg := sign_any w3 [w.heap.size + 1, w.heap.size] (w.heap.size + 1) (ents x ts) (HB.out.keep HN3.out.2.1 (by simp)) x HWF.out A3 (b.length + 1) c3 (b ++ [UInt8.ofNat k]) HN3.out.by (by have := H20.out; simp only [maxLen]; omega) (by rw [ents_len, HTL.out]; omega)
        rw [sgn_ents hnew, mrk_ents hnew, HTL.out] at hsg
        have HSG := Lib.hid hsg
        have HTN : Hid (Txs (ts ++ [b ++ [UInt8.ofNat k]]) ∧ (ts ++ [b ++ [UInt8.ofNat k]]).length = k + 1) := Lib.hid (by
          have h := HTX.out.snoc b H20.out (by rw [HTL.out]; omega)
          rw [HTL.out] at h
          exact ⟨h, by simp; exact HTL.out⟩)
        have HBL : Hid (b.length + 1 = (b ++ [UInt8.ofNat k]).length) := Lib.hid (by simp)
        generalize b ++ [UInt8.ofNat k] = t at *
        obtain ⟨nt, hnt⟩ : ∃ nt, nt = b.length + 1 := ⟨_, rfl⟩
        rw [← hnt] at HBL HN3 HSG ⊢
        have HNT : Hid (nt ≤ 21) := Lib.hid (by rw [hnt]; have := H20.out; omega)
        clear hnew hsg hnt H20
        refine HSG.out.mono ?_
        rintro e w4 ⟨rfl, hb4, hf4⟩
        have HB4 := Lib.hid hb4
        have HF4 := Lib.hid hf4
        clear hb4 hf4 HSG
        go_wp2_with (at_builtin; refine Stop.mk ?_)
        have hf34 : Fr [w.heap.size + 1, w.heap.size] wr w4 := (HN3.out.2.1.mono (by simp)).trans HF4.out (fun y hy _ => hy)
        have HF34 := Lib.hid hf34
        have hA8 : ∀ y ∈ bk A8, ¬ y ∈ [w.heap.size + 1, w.heap.size] := fun y hy hm => by have := HBK.out y hy; simp at hm; omega
        have HO4 := Lib.hid (own_keep HO.out hf34 (fun y hy hm => hA8 y (by rw [bk_mem] at hy; exact hy) hm))
        have HOK4 := Lib.hid (HOK.out.keep (S' := [w.heap.size + 1, w.heap.size]) hf34 (fun r hr y hy => (HOK.out r hr).2 y hy) (fun y hy _ => hy))
        have hA3 : ∀ y ∈ bk A3, ¬ y ∈ [w.heap.size + 1, w.heap.size] := fun y hy hm => by have := HN3.out.2.2 y hy; simp at hm; omega
        have HA3 := Lib.hid hA3
        have HA8 := Lib.hid hA8
        have HR4 := Lib.hid (own_keep HN3.out.1 HF4.out (fun y hy hm => hA3 y (by rw [bk_mem] at hy; exact hy) hm))
        have HFW4 := Lib.hid (HF.out.and hf34 (by simp))
        have hsz4 : w.heap.size + 1 < w4.heap.size := by have := hf34.size; omega
        clear hf34 hA8 hA3 HF4 HN3 HO HOK HB HF
        obtain ⟨w5, hw5⟩ : ∃ w5, w5 = w4.alloc (Obj.cells #[.int .i64 x, .int .i64 ((k : Int) + 1)] 28) := ⟨_, rfl⟩
        have hf5 : Fr [] w4 w5 := by rw [hw5]; exact (Fr.refl [] w4).alloc _
        have hs5 : w5.heap.size = w4.heap.size + 1 := by rw [hw5]; simp
        change Stop (wpList _ _ _ _ _ ((w4.alloc (Obj.cells #[.int .i64 x, .int .i64 ((k : Int) + 1)] 28)).alloc (Obj.cells #[.slice A3 nt c3] 25)))
        rw [← hw5]
        have HB5 := Lib.hid (HB4.out.keep hf5 (by simp))
        have HO5 := Lib.hid (own_keep HO4.out hf5 (by simp))
        have HOK5 := Lib.hid (HOK4.out.keep (S' := [w.heap.size + 1, w.heap.size]) hf5 (by simp) (fun y hy _ => hy))
        have HR5 := Lib.hid (own_keep HR4.out hf5 (by simp))
        have HFW5 := Lib.hid (HFW4.out.and hf5 (by simp))
        have HS5 := Lib.hid hs5
        clear hw5 hf5 hs5 HB4 HO4 HOK4 HR4 HFW4
        refine Stop.go ?_
        refine wpList_append_vals _ rfl (.tmp 54) (.tmp 56) _ rfl 25 (.slice none 0 0) 24 Try.underlying22 info_row rfl (.slice A8 k c8) k _ rfl (HO5.out.alloc _) ⟨w5.heap.size, 0, none⟩ 1
          (.slice A3 nt c3) (by first | rfl | (rw [HS5.out]; rfl)) ?_ rfl (by omega) (by omega) ?_
        · exact (Blk.new w5 25 #[Value.slice A3 nt c3]).cell 0
        intro A9 c9 w6 ho9 hg9 hat9
        have hf56 : Fr (bk A8) w5 w6 := (((Fr.refl [] w5).alloc _).mono (by simp)).grown hg9 (fun y hy _ => by rw [bk_mem] at hy; exact hy)
        have HB6 := Lib.hid (HB5.out.keep hf56 (fun y hy hm => HA8.out y hm hy))
        have HR6 := Lib.hid (own_keep HR5.out hf56 (fun y hy hm => rows_apart HO5.out HR5.out y hm (by rw [bk_mem] at hy; exact hy)))
        have HOK6 := Lib.hid (HOK5.out.keep (S' := [w.heap.size + 1, w.heap.size]) hf56 (fun r hr y hy hm => rows_apart HO5.out (HOK5.out r hr).1 y hm hy) (fun y hy _ => hy))
        have HOK7 : Hid (RowsOk w6 [w.heap.size + 1, w.heap.size] (rs ++ [RowV.mk A3 nt c3 t])) := Lib.hid (by
          intro r hr
          rcases List.mem_append.1 hr with hr | hr
          · exact HOK6.out r hr
          · simp at hr
            subst hr
            exact ⟨HR6.out, HA3.out⟩)
        have HO9 : Hid (w6.ownsRow 0 25 1 (.slice A9 (k + 1) c9) (k + 1) ((rs ++ [RowV.mk A3 nt c3 t]).map RowV.val)) := Lib.hid (by simpa [RowV.val] using ho9)
        have HBK9 : Hid (∀ y ∈ bk A9, w.heap.size + 1 < y) := Lib.hid (by
          intro y hy
          rcases hat9 with e | e
          · rw [e, bk_own] at hy; exact HBK.out y hy
          · rw [e] at hy; simp at hy; have := HS5.out; omega)
        have HF9 := Lib.hid (HFW5.out.and hf56 (fun y hy => by have := HBK.out y hy; omega))
        clear ho9 hg9 hat9 hf56 HB5 HO5 HOK5 HR5 HFW5
        go_wp2
        go_roundw
        case rel =>
          refine ⟨k + 1, A9, c9, rs ++ [RowV.mk A3 nt c3 t], ts ++ [t], by omega, by go_num, rfl, HTN.out.2, HTN.out.1, by simp [HRS.out], ?_, HB6.out, HO9.out, HBK9.out, HOK7.out, HF9.out⟩
          intro r hr
          rcases List.mem_append.1 hr with hr | hr
          · exact HRN.out r hr
          · simp at hr
            subst hr
            exact HBL.out
        case measure => simp [intOf]; omega
      · by_cases hkn : k < n
        · have hk2 : ¬ k < 8 := fun h => hlt ⟨hkn, h⟩
          go_wp2_with fail
          go_meet
          exact ⟨k, A8, c8, rs, ts, hk8, rfl, HTL.out, HTX.out, HRS.out, HRN.out, HB.out, HO.out, HBK.out, HOK.out, HF.out⟩
        · go_wp2_with fail
          go_meet
          exact ⟨k, A8, c8, rs, ts, hk8, rfl, HTL.out, HTX.out, HRS.out, HRN.out, HB.out, HO.out, HBK.out, HOK.out, HF.out⟩
  case rest =>
    obtain ⟨k, A8, c8, rs, ts, hk8, rfl, htl, htx, hrs, hrn, hb, ho, hbk, hok, hf⟩ := hcut
    have HTL := Lib.hid htl
    have HTX := Lib.hid htx
    have HRS := Lib.hid hrs
    have HRN := Lib.hid hrn
    have HB := Lib.hid hb
    have HO := Lib.hid ho
    have HBK := Lib.hid hbk
    have HOK := Lib.hid hok
    have HF := Lib.hid hf
    have hszc := hb.lt (w.heap.size + 1) (by simp)
    have kc := conv_const
    clear htl htx hrs hrn hb ho hbk hok hf HB1 HF1 HL
    go_wp2_with fail
    refine (clone_book wc [w.heap.size + 1, w.heap.size] (w.heap.size + 1) (ents x ts) HB.out).mono ?_
    rintro e w2 ⟨rfl, hb2, hf2⟩
    have HC := Lib.hid hb2
    have hszc2 := hb2.lt (wc.heap.size + 1) (by simp)
    have HFC := Lib.hid hf2
    clear hb2 hf2
    generalize hgc : wc.heap.size = gc at *
    have HGC := Lib.hid hgc
    clear hgc
    have hlen := len_any w2 _ _ _ HC.out
    rw [ents_len, HTL.out] at hlen
    go_wp2_with fail
    refine hlen.mono ?_
    rintro e w3 ⟨rfl, rfl⟩
    clear hlen
    go_wp2_with fail
    have hs1 := sign_any (w2.alloc (Obj.cells (text1.map by8).toArray 5 (42, 43))) [gc + 1, gc] (gc + 1) (ents x ts) (HC.out.keep ((Fr.refl [] w2).alloc _) (by simp)) x HWF.out (some ⟨w2.heap.size, 0, none⟩) 42 42 text1 (By.mark w2 _ rfl _ _ _ text1 rfl) (by decide) (by rw [ents_len, HTL.out]; omega)
    rw [sgn_ents (text1_new HTX.out), mrk_ents (text1_new HTX.out), HTL.out] at hs1
    refine hs1.mono ?_
    rintro e w3 ⟨rfl, hb3, hf3⟩
    have HS3 := Lib.hid hb3
    have hfa : Fr [gc + 1, gc] w2 w3 := (((Fr.refl [] w2).alloc _).mono (by simp)).trans hf3 (fun y hy _ => hy)
    have HFA := Lib.hid hfa
    have hsz3 := hfa.size
    clear hb3 hf3 hs1 hfa
    go_wp2_with fail
    obtain ⟨w4, hw4⟩ : ∃ w4, w4 = w3.alloc (Obj.cells #[.int .i64 x, .int .i64 ((k : Int) + 1)] 28) := ⟨_, rfl⟩
    have hf4 : Fr [] w3 w4 := by rw [hw4]; exact (Fr.refl [] w3).alloc _
    have hb4 : Blk w4 w3.heap.size 28 #[.int .i64 x, .int .i64 ((k : Int) + 1)] := by rw [hw4]; exact Blk.new _ _ _
    have hs4 : w4.heap.size = w3.heap.size + 1 := by rw [hw4]; simp
    have HS4 := Lib.hid hs4
    have HSB4 := Lib.hid hb4
    have HF4 := Lib.hid hf4
    have HW4 := Lib.hid hw4
    have hgb : ∀ y ∈ [w.heap.size + 1, w.heap.size], ¬ y ∈ [gc + 1, gc] := fun y hy hm => by simp at hy hm; omega
    have HB4 := Lib.hid ((((HB.out.keep HFC.out (by simp)).keep HFA.out hgb).keep hf4 (by simp)))
    have hs2 := sign_any (w4.alloc (Obj.cells (text2.map by8).toArray 5 (46, 47))) [w.heap.size + 1, w.heap.size] (w.heap.size + 1) (ents x ts) (HB4.out.keep ((Fr.refl [] w4).alloc _) (by simp)) x HWF.out (some ⟨w4.heap.size, 0, none⟩) 46 46 text2 (By.mark w4 _ rfl _ _ _ text2 rfl) (by decide) (by rw [ents_len, HTL.out]; omega)
    rw [sgn_ents (text2_new HTX.out), mrk_ents (text2_new HTX.out), HTL.out] at hs2
    clear hw4 hf4 hb4 hs4
    rw [HW4.out, show (w3.alloc (Obj.cells #[.int .i64 x, .int .i64 ((k : Int) + 1)] 28)).heap.size = w3.heap.size + 1 by simp] at hs2
    refine hs2.mono ?_
    rw [← HW4.out]
    rintro e w5 ⟨rfl, hb5, hf5⟩
    have HB5 := Lib.hid hb5
    have hfb : Fr [w.heap.size + 1, w.heap.size] w4 w5 := (((Fr.refl [] w4).alloc _).mono (by simp)).trans hf5 (fun y hy _ => hy)
    have HFB := Lib.hid hfb
    have hgb2 : ∀ y ∈ [gc + 1, gc], ¬ y ∈ [w.heap.size + 1, w.heap.size] := fun y hy hm => by simp at hy hm; omega
    have HC5 := Lib.hid ((HS3.out.keep HF4.out (by simp)).keep hfb hgb2)
    have HSB5 := Lib.hid (HSB4.out.keep hfb (by simp; omega))
    have HA8 : Hid (∀ y ∈ bk A8, ¬ y ∈ [w.heap.size + 1, w.heap.size]) := Lib.hid (fun y hy hm => by have := HBK.out y hy; simp at hm; omega)
    have HA8c : Hid (∀ y ∈ bk A8, ¬ y ∈ [gc + 1, gc]) := Lib.hid (fun y hy hm => by have h := own_lt HO.out y (by rw [bk_mem]; exact hy); have := HGC.out; simp at hm; omega)
    have HO5 := Lib.hid (own_keep (own_keep (own_keep (own_keep HO.out HFC.out (by simp)) HFA.out (fun y hy hm => HA8c.out y (by rw [bk_mem] at hy; exact hy) hm)) HF4.out (by simp)) hfb (fun y hy hm => HA8.out y (by rw [bk_mem] at hy; exact hy) hm))
    have HOK5 : Hid (RowsOk w5 [w.heap.size + 1, w.heap.size] rs) := Lib.hid (by
      have h1 := HOK.out.keep (S' := [w.heap.size + 1, w.heap.size]) HFC.out (by simp) (fun y hy _ => hy)
      have h2 := h1.keep (S' := [w.heap.size + 1, w.heap.size]) HFA.out (fun r hr y hy hm => by have h := HOK.out.lt r hr y hy; have := HGC.out; simp at hm; omega) (fun y hy _ => hy)
      have h3 := h2.keep (S' := [w.heap.size + 1, w.heap.size]) HF4.out (by simp) (fun y hy _ => hy)
      exact h3.keep (S' := [w.heap.size + 1, w.heap.size]) hfb (fun r hr y hy => (h3 r hr).2 y hy) (fun y hy _ => hy))
    have HF5 : Hid (Fr [] w w5) := Lib.hid ((((HF.out.and HFC.out (by simp)).and HFA.out (by simp; omega)).and HF4.out (by simp)).and hfb (by simp))
    have hsz5 := hfb.size
    clear hb5 hf5 hs2 hfb hgb hgb2 HB4 HSB4 HO HOK HC HB HS3 HFA HFB HF4 HFC HF
    go_upto_region 18 with (fail)
    obtain ⟨w6, hw6⟩ : ∃ w6, w6 = w5.alloc (Obj.cells #[.int .i64 x, .int .i64 ((k : Int) + 1)] 28) := ⟨_, rfl⟩
    have hf6 : Fr [] w5 w6 := by rw [hw6]; exact (Fr.refl [] w5).alloc _
    have hb6 : Blk w6 w5.heap.size 28 #[.int .i64 x, .int .i64 ((k : Int) + 1)] := by rw [hw6]; exact Blk.new _ _ _
    change Code.wp _ _ _ _ (w5.alloc (Obj.cells #[.int .i64 x, .int .i64 ((k : Int) + 1)] 28))
    rw [← hw6]
    have hb5 := HSB5.out.keep hf6 (by simp)
    have HB6 := Lib.hid (HB5.out.keep hf6 (by simp))
    have HC6 := Lib.hid (HC5.out.keep hf6 (by simp))
    have HO6 := Lib.hid (own_keep HO5.out hf6 (by simp))
    have HOK6 := Lib.hid (HOK5.out.keep (S' := [w.heap.size + 1, w.heap.size]) hf6 (by simp) (fun y hy _ => hy))
    have HF6 := Lib.hid (HF5.out.and hf6 (by simp))
    generalize w5.heap.size = gs2 at *
    generalize w3.heap.size = gs1 at *
    have c10 := hb5.cell 0
    have c11 := hb5.cell 1
    have c20 := hb6.cell 0
    have c21 := hb6.cell 1
    simp at c10 c11 c20 c21
    have HS1 := Lib.hid hb5
    have HS2 := Lib.hid hb6
    clear hw6 hf6 hb5 hb6 HB5 HC5 HSB5 HO5 HOK5 HF5 HW4 HS4
    have hr1 := right_any (w6.alloc (Obj.cells (text1.map by8).toArray 5 (42, 43))) [w.heap.size + 1, w.heap.size] (w.heap.size + 1) (ents x (ts ++ [text2])) (HB6.out.keep ((Fr.refl [] w6).alloc _) (by simp)) x ((k : Int) + 1) HWF.out (some ⟨w6.heap.size, 0, none⟩) 42 42 text1 (By.mark w6 _ rfl _ _ _ text1 rfl) (by decide)
    rw [ents_snoc, right_other _ HTX.out (by decide) text_ne] at hr1
    have HR1 := Lib.hid hr1
    clear hr1
    go_wp2_with fail
    refine HR1.out.mono ?_
    rintro e w7 ⟨rfl, hf7⟩
    have hfc := ((Fr.refl [] w6).alloc (Obj.cells (text1.map by8).toArray 5 (42, 43))).and hf7 (by simp)
    have hb7 := HS2.out.keep hfc (by simp)
    have HB7 := Lib.hid (HB6.out.keep hfc (by simp))
    have HC7 := Lib.hid (HC6.out.keep hfc (by simp))
    have HO7 := Lib.hid (own_keep HO6.out hfc (by simp))
    have HOK7 := Lib.hid (HOK6.out.keep (S' := [w.heap.size + 1, w.heap.size]) hfc (by simp) (fun y hy _ => hy))
    have HF7 := Lib.hid (HF6.out.and hfc (by simp))
    clear c10 c11 c20 c21 hfc hf7 HS1 HS2 HR1 HB6 HC6 HO6 HOK6 HF6
    have c20 := hb7.cell 0
    have c21 := hb7.cell 1
    simp at c20 c21
    have hr2 := right_any (w7.alloc (Obj.cells (text2.map by8).toArray 5 (46, 47))) [gc + 1, gc] (gc + 1) (ents x (ts ++ [text1])) (HC7.out.keep ((Fr.refl [] w7).alloc _) (by simp)) x ((k : Int) + 1) HWF.out (some ⟨w7.heap.size, 0, none⟩) 46 46 text2 (By.mark w7 _ rfl _ _ _ text2 rfl) (by decide)
    rw [ents_snoc, right_other _ HTX.out (by decide) text_ne.symm] at hr2
    have HR2 := Lib.hid hr2
    clear hr2 hb7
    go_wp2_with fail
    refine HR2.out.mono ?_
    rintro e w8 ⟨rfl, hf8⟩
    have hfd := ((Fr.refl [] w7).alloc (Obj.cells (text2.map by8).toArray 5 (46, 47))).and hf8 (by simp)
    have HB8 := Lib.hid (HB7.out.keep hfd (by simp))
    have HC8 := Lib.hid (HC7.out.keep hfd (by simp))
    have HO8 := Lib.hid (own_keep HO7.out hfd (by simp))
    have HOK8 := Lib.hid (HOK7.out.keep (S' := [w.heap.size + 1, w.heap.size]) hfd (by simp) (fun y hy _ => hy))
    have HF8 := Lib.hid (HF7.out.and hfd (by simp))
    clear c20 c21 hfd hf8 HR2 HB7 HC7 HO7 HOK7 HF7
    go_wp2
    go_loopw [109] (fun i wr => ∃ j : Nat, j ≤ k ∧ i = .int .i64 j ∧ Hid (Fr [] w8 wr)) (fun i _ => k - (intOf i).toNat)
    case atStart => exact ⟨0, by omega, rfl, Lib.hid (Fr.refl [] w8)⟩
    case round =>
      obtain ⟨j, hj, rfl, HFR⟩ := hrel
      by_cases hlt : j < k
      · have hgd : ∃ gq, A8 = some ⟨gq, 0, none⟩ := by
          obtain ⟨gq, cap, hv, _, _⟩ := HO8.out.form (by omega)
          injection hv with hA
          exact ⟨gq, hA⟩
        obtain ⟨gq, rfl⟩ := hgd
        have hrl : j < rs.length := by
          have h1 := congrArg List.length HRS.out
          rw [List.length_map, HTL.out] at h1
          omega
        have hgr : rs[j]? = some rs[j] := List.getElem?_eq_getElem hrl
        have hrm : rs[j] ∈ rs := List.getElem_mem hrl
        generalize rs[j] = r at *
        have hadd : (⟨gq, 0, none⟩ : Addr).add j = ⟨gq, j, none⟩ := by unfold Addr.add; split <;> simp_all
        have hcl : wr.cell? ⟨gq, j, none⟩ = some (.slice r.A r.n r.c) := by
          rw [← hadd]
          exact (own_keep HO8.out HFR.out (by simp)).cells (g := gq) rfl j (.slice r.A r.n r.c) (by rw [List.getElem?_map, hgr]; rfl)
        have htj : ts[j]? = some r.b := by rw [← HRS.out, List.getElem?_map, hgr]; rfl
        have hy : By wr r.A r.n r.b := By.of_own (own_keep (HOK8.out r hrm).1 HFR.out (by simp))
        have hnb : r.n ≤ 21 := by rw [HRN.out r hrm]; exact HTX.out.short _ (List.mem_of_getElem? htj)
        have HY := Lib.hid hy
        have hj0 : (0 : Int) ≤ j := by omega
        have hra := fun (W : World) (hW : Fr [] w8 W) => right_any W [w.heap.size + 1, w.heap.size] (w.heap.size + 1) (ents x (ts ++ [text2])) (HB8.out.keep hW (by simp)) x ((j : Int) + 1) HWF.out r.A r.n r.c r.b
        have hrb := fun (W : World) (hW : Fr [] w8 W) => right_any W [gc + 1, gc] (gc + 1) (ents x (ts ++ [text1])) (HC8.out.keep hW (by simp)) x ((j : Int) + 1) HWF.out r.A r.n r.c r.b
        simp only [ents_snoc, right_at HTX.out htj] at hra hrb
        have HRA := Lib.hid hra
        have HRB := Lib.hid hrb
        have HCL := Lib.hid hcl
        clear hra hrb hgr hrm htj hy hrl hadd
        go_wp2_with fail
        refine (HRA.out wr HFR.out HY.out (by simp only [maxLen]; omega)).mono ?_
        rintro e wa ⟨rfl, hfa⟩
        have HFa := Lib.hid (HFR.out.and hfa (by simp))
        have HYa := Lib.hid (HY.out.keep hfa (by simp))
        have hcl2 := hfa.cell HCL.out (by simp)
        clear hfa hcl
        go_wp2_with fail
        refine (HRB.out wa HFa.out HYa.out (by simp only [maxLen]; omega)).mono ?_
        rintro e wb ⟨rfl, hfb⟩
        have HFb := Lib.hid (HFa.out.and hfb (by simp))
        clear hfb hcl2
        go_wp2
        go_roundw
        case rel => exact ⟨j + 1, by omega, by go_num, HFb⟩
        case measure => simp [intOf]; omega
      · have hjk : j = k := by omega
        have hv0 : 0 ≤ m % 9 := Int.emod_nonneg _ (by omega)
        have hv9 : m % 9 < 9 := Int.emod_lt_of_pos _ (by omega)
        clear hlt
        go_wp2_with fail
        refine (within_pos m 9 HM1.out HM2.out (by omega) (by omega) _).mono ?_
        rintro e wv ⟨rfl, rfl⟩
        generalize m % 9 = v at *
        go_wp2_with fail
        refine (right_any _ [w.heap.size + 1, w.heap.size] (w.heap.size + 1) (ents x (ts ++ [text2])) (HB8.out.keep HFR.out (by simp)) x _ HWF.out none 0 0 [] (By.nil _ _) (by decide)).mono ?_
        rw [right_low (by omega)]
        rintro e wy ⟨rfl, hfy⟩
        have HFY := Lib.hid (HFR.out.and hfy (by simp))
        clear hfy
        go_wp2_with fail
        refine (bwakes_any _).mono ?_
        rintro e wz ⟨rfl, hfz⟩
        have HFZ := Lib.hid (HFY.out.and hfz (by simp))
        clear hfz
        go_wp2
        go_ret
        exact ⟨rfl, HF8.out.and HFZ.out (by simp)⟩
end Go.Proofs.Ytimknnohabodnaa
