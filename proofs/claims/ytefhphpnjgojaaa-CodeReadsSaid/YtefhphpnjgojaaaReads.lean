/- Proved here: CodeReads' statement: for all bytes and every list of calls the law returns true. Conditions: none. -/
import Derived.Test.YtefhphpnjgojaaaRefH
import Derived.Test.YtefhphpnjgojaaaIntact
import Derived.Test.YtefhphpnjgojaaaOpen
import Derived.Deep.RegionWith
import Derived.Deep.QuietTactic
import Derived.BigQuiet
import Derived.Lib.Builder
namespace Go.Proofs.Ytefhphpnjgojaaa
open Go.RowKit

/-- what does not turn: two readers, the lent block, the bytes that were cut -/
structure Env (w0 : World) (B g1 : Nat) (F1 : List Nat) (g2 : Nat) (F2 : List Nat) (gx : Nat) (A : Option Addr) : Prop where
  h12 : g1 ≠ g2
  x1 : gx ≠ g1
  x2 : gx ≠ g2
  f1 : ∀ k ∈ F1, k ≠ g2
  f2 : ∀ k ∈ F2, k ≠ g1
  a : ∀ k ∈ bk A, k ≠ g1 ∧ k ≠ g2 ∧ k < B
  lo : w0.heap.size ≤ g1 ∧ w0.heap.size ≤ g2 ∧ w0.heap.size ≤ B
  hi : g1 < B ∧ g2 < B ∧ gx < B ∧ (∀ k ∈ F1, k < B) ∧ ∀ k ∈ F2, k < B
/-- what the two readers hold -/
structure Pair (w0 w : World) (g1 : Nat) (F1 : List Nat) (g2 : Nat) (F2 : List Nat) (gx : Nat) (A : Option Addr) (n : Nat) (L R1 : List UInt8) (b1 : Bool) (R2 : List UInt8) (b2 : Bool) : Prop where
  r : Rd w g1 F1 R1 b1
  q : Rq w g2 F2 R2 b2
  x : Blk w gx 5 ((lent L).map by8).toArray
  y : By w A n L
  f : Fr [] w0 w
section
variable {w0 w w' : World} {B g1 g2 gx n : Nat} {F1 F2 : List Nat} {A : Option Addr} {L R1 R2 R' : List UInt8} {b1 b2 b' : Bool}
theorem Pair.stepr (h : Pair w0 w g1 F1 g2 F2 gx A n L R1 b1 R2 b2) (e : Env w0 B g1 F1 g2 F2 gx A) (hr : Rd w' g1 F1 R' b') (hf : Fr [g1] w w') : Pair w0 w' g1 F1 g2 F2 gx A n L R' b' R2 b2 :=
  ⟨hr, h.q.keep hf (by simpa using e.h12.symm) (fun k hk => by simpa using e.f2 k hk), h.x.keep hf (by simpa using e.x1),
    h.y.keep hf (fun a ha => by simpa using (e.a a.block (by simp [bk, ha])).1), h.f.trans hf (fun x hx hl => by simp at hx; have := e.lo; omega)⟩
theorem Pair.stepq (h : Pair w0 w g1 F1 g2 F2 gx A n L R1 b1 R2 b2) (e : Env w0 B g1 F1 g2 F2 gx A) (hr : Rq w' g2 F2 R' b') (hf : Fr [g2] w w') : Pair w0 w' g1 F1 g2 F2 gx A n L R1 b1 R' b' :=
  ⟨h.r.keep hf (by simpa using e.h12) (fun k hk => by simpa using e.f1 k hk), hr, h.x.keep hf (by simpa using e.x2),
    h.y.keep hf (fun a ha => by simpa using (e.a a.block (by simp [bk, ha])).2.1), h.f.trans hf (fun x hx hl => by simp at hx; have := e.lo; omega)⟩
theorem Pair.fr {T : List Nat} (h : Pair w0 w g1 F1 g2 F2 gx A n L R1 b1 R2 b2) (e : Env w0 B g1 F1 g2 F2 gx A) (hf : Fr T w w') (hT : ∀ x ∈ T, B ≤ x) : Pair w0 w' g1 F1 g2 F2 gx A n L R1 b1 R2 b2 :=
  ⟨h.r.keep hf (fun hm => by have := hT _ hm; have := e.hi; omega) (fun k hk hm => by have := hT _ hm; have := e.hi.2.2.2.1 k hk; omega),
    h.q.keep hf (fun hm => by have := hT _ hm; have := e.hi; omega) (fun k hk hm => by have := hT _ hm; have := e.hi.2.2.2.2 k hk; omega),
    h.x.keep hf (fun hm => by have := hT _ hm; have := e.hi; omega),
    h.y.keep hf (fun a ha hm => by have := hT _ hm; have := (e.a a.block (by simp [bk, ha])).2.2; omega),
    h.f.trans hf (fun x hx hl => by have := hT x hx; have := e.lo; omega)⟩
theorem Pair.same (h : Pair w0 w g1 F1 g2 F2 gx A n L R1 b1 R2 b2) (e : Env w0 B g1 F1 g2 F2 gx A) (hf : Fr [] w w') : Pair w0 w' g1 F1 g2 F2 gx A n L R1 b1 R2 b2 := h.fr e hf (by simp)
end
theorem ok_same (w : World) (g : Nat) (F : List Nat) (l : List UInt8) (b : Bool) (hr : Rd w g F l b) :
    Calls Try.prog 19 #[.pointer (some ⟨g, 0, none⟩)] w fun e w' => e = .returned (.bool (!b)) ∧ w' = w := (ok_any w g F l b hr).mono fun _ _ ⟨h1, h2⟩ => ⟨h1, h2.symm⟩
theorem left_same (w : World) (g : Nat) (F : List Nat) (l : List UInt8) (b : Bool) (hr : Rd w g F l b) :
    Calls Try.prog 20 #[.pointer (some ⟨g, 0, none⟩)] w fun e w' => e = .returned (.int .i64 l.length) ∧ w' = w := (left_any w g F l b hr).mono fun _ _ ⟨h1, h2⟩ => ⟨h1, h2.symm⟩
theorem rwL_len (R : List UInt8) (m : Int) : (rwL R m).length ≤ R.length := by
  unfold rwL
  split
  · split
    · rw [List.length_drop]; omega
    · simp
  · simp
theorem tookL_len (R : List UInt8) : (tookL R).length ≤ R.length := by
  unfold tookL
  split
  · simp
  · rw [List.length_drop]; omega

attribute [local go_sem ↓] exec_load_hash_any
attribute [local go_sem] addrOf_ptr isLoadHash_load loadOf_load

set_option maxRecDepth 100000 in
set_option maxHeartbeats 20000000 in
theorem reads_walk (w : World) (A0 : Option Addr) (n0 c0 : Nat) (l0 : List UInt8) (hb0 : By w A0 n0 l0) (hc0 : n0 ≤ c0) (hx0 : c0 ≤ maxLen) (A : Option Addr) (n c : Nat) (l : List ActV) (hl : Acts w A n l) (hc : n ≤ c) (hx : c ≤ maxLen) :
    Calls Try.prog 3 #[.slice A0 n0 c0, .slice A n c] w fun e w' => e = .returned (.bool true) ∧ Fr [] w w' := by
  have hn0 : n0 ≤ maxLen := by omega
  have HN0 := Lib.hid hn0
  have HC0 := Lib.hid hc0
  unfold maxLen at hx
  have hnm : n ≤ 9223372036854775807 := by omega
  have HL := Lib.hid hl
  have HB0 := Lib.hid hb0
  clear hl hx hc hb0 hn0 hx0 hc0
  go_enter Try.func3, Try.ntmps3
  go_wp2_with fail
  rw [show (200 : Int) = ((200 : Nat) : Int) from rfl]
  refine (cut_any A0 n0 c0 200 l0 w HB0.out HN0.out HC0.out (by omega)).mono ?_
  rintro e w1 ⟨A1, c1, rfl, hN1⟩
  have HN1 := Lib.hid hN1
  have h200 : (l0.take 200).length ≤ 200 := List.length_take_le _ _
  generalize l0.take 200 = L at *
  have H200 := Lib.hid h200
  clear hN1 h200 HB0 HN0 HC0
  go_wp2_with fail
  refine (lend_any A1 L.length c1 L w1 HN1.out.by (by have := H200.out; omega)).mono ?_
  rintro e w2 ⟨gx, rfl, hbx, hgx, hf2⟩
  have HBX := Lib.hid hbx
  have HGX := Lib.hid hgx
  have HF2 := Lib.hid hf2
  have hby2 : By w2 (some ⟨gx, 0, none⟩) L.length L := by
    have h := (By.blk (lent L) hbx rfl).take (k := L.length) (by rw [lent_len]; omega)
    unfold lent at h
    rwa [List.take_left] at h
  have HBY2 := Lib.hid hby2
  clear hbx hgx hf2 hby2
  go_wp2_with fail
  refine (newReader_any (some ⟨gx, 0, none⟩) L.length (L.length + 3) L w2 HBY2.out (by have := H200.out; omega)).mono ?_
  rintro e w3 ⟨g1, F1, rfl, hr3, hf3, hg3, hF3⟩
  have HR3 := Lib.hid hr3
  have HF3 := Lib.hid hf3
  have HG3 := Lib.hid hg3
  have HFF3 := Lib.hid hF3
  clear hr3 hf3 hg3 hF3
  go_wp2_with fail
  refine (copy_any A1 L.length c1 L w3 ((HN1.out.by.keep HF2.out (by simp)).keep HF3.out (by simp)) (by have := H200.out; omega)).mono ?_
  rintro e w4 ⟨A4, c4, rfl, hN4⟩
  have HN4 := Lib.hid hN4
  clear hN4
  go_wp2_with fail
  have hg4 : g1 < w4.heap.size := Nat.lt_of_lt_of_le HR3.out.lt HN4.out.2.1.size
  have hx2 : gx < w2.heap.size := HBX.out.lt
  have hs23 := HF3.out.size
  have hs34 := HN4.out.2.1.size
  have hs12 := HF2.out.size
  have hs01 := HN1.out.2.1.size
  have hpair : Pair w (w4.alloc (Obj.cells #[Value.slice A4 L.length c4, Value.bool false] 30)) g1 F1 w4.heap.size (bk A4) gx A1 L.length L L false L false := by
    refine ⟨?_, ?_, ?_, ?_, ?_⟩
    · exact (HR3.out.keep HN4.out.2.1 (by simp) (by simp)).keep ((Fr.refl [] _).alloc _) (by simp) (by simp)
    · exact ⟨A4, L.length, c4, fun k hk => ⟨hk, by have := HN4.out.lt k hk; omega⟩, Blk.new _ _ _, HN4.out.by.keep ((Fr.refl [] _).alloc _) (by simp), HN4.out.cap⟩
    · exact ((HBX.out.keep HF3.out (by simp)).keep HN4.out.2.1 (by simp)).keep ((Fr.refl [] _).alloc _) (by simp)
    · exact (((HN1.out.by.keep HF2.out (by simp)).keep HF3.out (by simp)).keep HN4.out.2.1 (by simp)).keep ((Fr.refl [] _).alloc _) (by simp)
    · exact (((HN1.out.2.1.trans HF2.out (by simp)).trans HF3.out (by simp)).trans HN4.out.2.1 (by simp)).alloc _
  have henv : Env w (w4.heap.size + 1) g1 F1 w4.heap.size (bk A4) gx A1 := by
    refine ⟨by omega, ?_, by omega, ?_, ?_, ?_, ?_, ?_⟩
    · have := HG3.out; omega
    · intro k hk; have := (HFF3.out k hk).2; omega
    · intro k hk h; subst h; have := HN4.out.2.2 k hk; have := HR3.out.lt; omega
    · intro k hk; have := HN1.out.lt k hk; have := HG3.out; exact ⟨by omega, by omega, by omega⟩
    · have := HG3.out; exact ⟨by omega, by omega, by omega⟩
    · exact ⟨by omega, by omega, by omega, fun k hk => by have := (HFF3.out k hk).2; omega, fun k hk => by have := HN4.out.lt k hk; omega⟩
  have HP0 := Lib.hid hpair
  have HE := Lib.hid henv
  have hsz0 : w4.heap.size + 1 ≤ (w4.alloc (Obj.cells #[Value.slice A4 L.length c4, Value.bool false] 30)).heap.size := by simp
  have HSZ0 := Lib.hid hsz0
  clear hg4 hx2 hs23 hs34 hs12 hs01 hpair henv HBX HR3 HN4 HF3 HF2 HN1 HG3 HGX HFF3 HBY2 hsz0
  generalize w4.alloc _ = w5 at *
  generalize hg2 : w4.heap.size = g2 at *
  generalize bk A4 = F2 at *
  clear hg2
  go_loopw [8] (fun i wr => ∃ (k : Nat) (R : List UInt8) (bad : Bool), k ≤ n ∧ k ≤ 20 ∧ i = .int .i64 k ∧ R.length ≤ 200 ∧ Pair w wr g1 F1 g2 F2 gx A1 L.length L R bad R bad ∧ g2 + 1 ≤ wr.heap.size) (fun i _ => 20 - (intOf i).toNat)
  case atStart => exact ⟨0, L, false, by omega, by omega, rfl, H200.out, HP0.out, HSZ0.out⟩
  case round =>
    obtain ⟨k, R, bad, hk, hk20, rfl, hR, hp, hsz⟩ := hrel
    have HP := Lib.hid hp
    have HRL := Lib.hid hR
    have HSZ := Lib.hid hsz
    clear hp hR hsz HP0 HSZ0
    by_cases hlt : k < n ∧ k < 20
    · obtain ⟨hkn, hk2⟩ := hlt
      obtain ⟨ad, v, rfl, hg, hok, hcells⟩ := HL.out.at HP.out.f.below_all hkn
      have HOK := Lib.hid hok
      have HCELLS := Lib.hid hcells
      have hk0 : (0 : Int) ≤ k := by omega
      clear hg hok hcells
      go_wp2_with (first
        | (refine wpList_load_cells rfl 35 _ rfl (ad.add (k * 36)) rfl v.cells _ (fun j x hx => by rw [add_add]; exact HCELLS.out j x hx) Try.underlying35 rfl (by rw [act_size, HOK.out.len]) ?_)
        | (refine wpList_store_box rfl 35 _ _ rfl _ 35 v.cells rfl rfl (by rw [act_size, HOK.out.len]) (by rw [HOK.out.len]; rfl) v.one ?_
           intro wb hblk hfb
           obtain ⟨hc0, hc1, -, -, -⟩ := ActV.in_blk hblk
           have HPB := Lib.hid (HP.out.same HE.out hfb)
           have hszb : g2 + 1 ≤ wb.heap.size := Nat.le_trans HSZ.out hfb.size
           have HSZB := Lib.hid hszb
           clear hblk hfb hszb))
      have hgb : g2 + 1 ≤ wr.heap.size := HSZ.out
      generalize wr.heap.size = gb at *
      have hd1 := HOK.out.d1
      have hd2 := HOK.out.d2
      have hn1 := HOK.out.n1
      have hn2 := HOK.out.n2
      refine (within_pos v.d 4 hd1 hd2 (by omega) (by omega) wb).mono ?_
      rintro e wb' ⟨rfl, rfl⟩
      have hq : v.d % 4 = 0 ∨ v.d % 4 = 1 ∨ v.d % 4 = 2 ∨ v.d % 4 = 3 := by omega
      have HN2 := Lib.hid hn2
      clear hd1 hd2 hn1 hn2
      have hg1b : g1 ≠ gb := by have := HE.out.hi; omega
      have hg2b : g2 ≠ gb := by omega
      go_upto_block 2 with (fail)
      go_cut [10, 41] (fun s10 _ wx => ∃ (R' : List UInt8) (bad' : Bool), s10 = .bool true ∧ R'.length ≤ 200 ∧ Pair w wx g1 F1 g2 F2 gx A1 L.length L R' bad' R' bad' ∧ g2 + 1 ≤ wx.heap.size)
      case first =>
        rcases hq with hq | hq | hq | hq
        · rw [hq]
          clear hq hc1
          go_wp2_with fail
          refine (rnum_f HPB.out.r (by have := HRL.out; omega)).mono ?_
          rintro e w6 ⟨rfl, h1, h2⟩
          have HP6 := Lib.hid (HPB.out.stepr HE.out h1 h2)
          have HS6 := Lib.hid (Nat.le_trans HSZB.out h2.size)
          clear h1 h2
          go_wp2_with fail
          refine (qnum_f HP6.out.q (by have := HRL.out; omega)).mono ?_
          rintro e w7 ⟨rfl, h1, h2⟩
          have HP7 := Lib.hid (HP6.out.stepq HE.out h1 h2)
          have HS7 := Lib.hid (Nat.le_trans HS6.out h2.size)
          clear h1 h2
          go_wp2_with fail
          go_meet
          exact ⟨_, _, by simp, by have := rdL_len R; have := HRL.out; omega, HP7.out, HS7.out⟩
        · rw [hq]
          clear hq
          go_wp2
          go_region_with (first
            | (go_at_call 11
               go_must (refine (rint_f v.n HN2.out (HPB.out.same HE.out ((Fr.refl [] wb).drew)).r (by have := HRL.out; omega)).mono ?_
                        rintro e w6 ⟨rfl, h1, h2⟩
                        have hc1' := h2.cell (a := wb.drew) hc1 (by simp; omega)
                        have HP6 := Lib.hid ((HPB.out.same HE.out ((Fr.refl [] wb).drew)).stepr HE.out h1 h2)
                        have HS6 := Lib.hid (Nat.le_trans HSZB.out h2.size)
                        clear h1 h2))
            | (go_at_call 12
               go_must (refine (qint_f v.n HN2.out HP6.out.q (by have := HRL.out; omega)).mono ?_
                        rintro e w7 ⟨rfl, h1, h2⟩
                        have HP7 := Lib.hid (HP6.out.stepq HE.out h1 h2)
                        have HS7 := Lib.hid (Nat.le_trans HS6.out h2.size)
                        clear h1 h2)))
          all_goals
            go_wp2_with fail
            go_meet
            exact ⟨_, _, by simp, by have := inL_len R v.n; have := HRL.out; omega, HP7.out, HS7.out⟩
        · rw [hq]
          clear hq
          have HVL : Hid ((rwV R v.n).length ≤ 1073741824) := Lib.hid (by have := rwV_len R v.n; have := HRL.out; omega)
          go_wp2
          go_region_with (first
            | (go_at_call 13
               go_must (refine (rrow_f v.n HN2.out (HPB.out.same HE.out ((Fr.refl [] wb).drew)).r (by have := HRL.out; omega)).mono ?_
                        rintro e w6 ⟨A6, c6, s6, rfl, h3, h4, h5, h1, h2⟩
                        have hc1' := h2.cell (a := wb.drew) hc1 (by simp; omega)
                        have HP6 := Lib.hid ((HPB.out.same HE.out ((Fr.refl [] wb).drew)).stepr HE.out h1 h2)
                        have HS6 := Lib.hid (Nat.le_trans HSZB.out h2.size)
                        have HF6 := Lib.hid h3
                        have HNW6 : Hid (∀ x ∈ bk A6, g2 + 1 ≤ x) := Lib.hid (fun x hx => Nat.le_trans HSZB.out (h4 x hx))
                        have HM6 := Lib.hid h5
                        clear h1 h2 h3 h4 h5))
            | (go_at_call 14
               go_must (refine (qrow_f v.n HN2.out HP6.out.q (by have := HRL.out; omega)).mono ?_
                        rintro e w7 ⟨A7, c7, rfl, h3, h4, h1, h2⟩
                        have HP7 := Lib.hid (HP6.out.stepq HE.out h1 h2)
                        have HS7 := Lib.hid (Nat.le_trans HS6.out h2.size)
                        have HY7 := Lib.hid h3
                        have HF7 := Lib.hid (HF6.out.keep h2 (fun x hx => by have := HNW6.out x hx; simp; omega))
                        clear h1 h2 h3 h4)))
          all_goals
            go_wp2_with fail
            refine (same_any A6 A7 _ _ c6 c7 (rwV R v.n) (rwV R v.n) w7 HF7.out.by HY7.out HVL.out).mono ?_
            rintro e w8 ⟨rfl, k8, rfl⟩
            rw [show decide (rwV R v.n = rwV R v.n) = true by simp]
            have HF8 := Lib.hid (HF7.out.keep ((Fr.refl [] w7).drewN k8) (by simp))
            have HP8 := Lib.hid (HP7.out.same HE.out ((Fr.refl [] w7).drewN k8))
            go_wp2_with fail
            refine (spoil_any A6 _ c6 (rwV R v.n) s6 _ HF8.out HM6.out).mono ?_
            rintro e w9 ⟨rfl, hf9⟩
            have HP9 := Lib.hid (HP8.out.fr HE.out hf9 HNW6.out)
            have HS9 : Hid (g2 + 1 ≤ w9.heap.size) := Lib.hid (Nat.le_trans HS7.out hf9.size)
            clear hf9
            go_wp2_with fail
            go_meet
            exact ⟨_, _, rfl, by have := rwL_len R v.n; have := HRL.out; omega, HP9.out, HS9.out⟩
        · rw [hq]
          clear hq hc1
          have heqh := hash_eql (hashOf R) (hashOf R) (hashOf_len R) (hashOf_len R)
          rw [show decide (hashOf R = hashOf R) = true by simp] at heqh
          generalize hH1 : ((hashOf R).map by8).toArray = H1 at *
          have HH1 := Lib.hid hH1
          clear hH1
          go_wp2_with fail
          refine (rhash_any wb g1 F1 R bad HPB.out.r (fun x hx => by have := HE.out.hi.2.2.2.1 x hx; have := HSZB.out; omega) (by have := HRL.out; omega)).mono ?_
          rw [HH1.out]
          rintro e w6 ⟨rfl, h1, h2⟩
          have HP6 := Lib.hid (HPB.out.stepr HE.out h1 h2)
          have HS6 := Lib.hid (Nat.le_trans HSZB.out h2.size)
          clear h1 h2
          go_wp2_with fail
          refine (qhash_f w6 g2 F2 R bad HP6.out.q (fun x hx => by have := HE.out.hi.2.2.2.2 x hx; have := HS6.out; omega) (by have := HRL.out; omega)).mono ?_
          rw [HH1.out]
          rintro e w7 ⟨rfl, h1, h2⟩
          have HP7 := Lib.hid (HP6.out.stepq HE.out h1 h2)
          have HS7 := Lib.hid (Nat.le_trans HS6.out h2.size)
          clear h1 h2
          go_wp2_with fail
          go_meet
          exact ⟨_, _, rfl, by have := tookL_len R; have := HRL.out; omega, HP7.out, HS7.out⟩
      case rest =>
        obtain ⟨R', bad', rfl, hR', hp', hs'⟩ := hcut
        have HP' := Lib.hid hp'
        have HR' := Lib.hid hR'
        have HS' := Lib.hid hs'
        obtain ⟨A9, n9, c9, -, hb9, hy9, -⟩ := hp'.q
        have hn9 : n9 = R'.length := hy9.1.symm
        subst hn9
        have hcA := hb9.cell 0
        have hcB := hb9.cell 1
        simp at hcA hcB
        have hne : ((R'.length : Int) != (R'.length : Int)) = false := by simp
        have hl9 : R'.length ≤ 200 := hR'
        clear hp' hR' hs' hb9 hy9 hc0 hc1 hq HPB HSZB hg1b hg2b HP HRL
        cases bad'
        all_goals
          go_wp2_with fail
          go_quiet ((first | (go_at_call 19; exact Calls.quiet_of_same (ok_same _ g1 F1 R' _ (HP'.out.same HE.out ((Fr.refl [] _).drewN _)).r)) | (go_at_call 20; exact Calls.quiet_of_same (left_same _ g1 F1 R' _ (HP'.out.same HE.out ((Fr.refl [] _).drewN _)).r))))
          go_wp2
          go_roundw
          case rel => exact ⟨k + 1, R', _, by omega, by omega, by go_num, HR'.out, HP'.out.same HE.out ((Fr.refl [] _).drewN _), HS'.out⟩
          case measure => simp [intOf]; omega
    · have hkx : (n : Int) ≤ k ∨ ((k : Int) < n ∧ (20 : Int) ≤ k) := by omega
      have h200 := H200.out
      clear hlt
      rcases hkx with hkx | ⟨hkx0, hkx⟩
      all_goals
        go_wp2_with fail
        refine (intact_any A1 gx L.length c1 L wr HP.out.y HP.out.x (by omega)).mono ?_
        rintro e w6 ⟨rfl, kk, rfl⟩
        go_wp2_with fail
        refine (wakes_any _).mono ?_
        rintro e w8 ⟨rfl, hf8⟩
        have HF8 := Lib.hid (HP.out.f.trans (((Fr.refl [] wr).drewN kk).trans hf8 (by simp)) (by simp))
        clear hf8
        go_wp2
        go_ret
        exact ⟨rfl, HF8.out⟩
namespace codeReads
open Go.ChangeShapes Go.WideShapes Go.ChangeAt
open Go.ChangeMaps (open_string shut_string)
theorem own : ownKnob Try.prog.godebug = none := by kernel_rfl
set_option linter.unusedVariables false
set_option maxRecDepth 100000 in
set_option maxHeartbeats 2000000 in
theorem lifted (os : Os) (started : os.Started) (H : Type) (enc : TypeId × Value → H) :
    ReturnsInHanded {} Try.checked os 3 .any (Rows.codeReadsSpec.pre6 enc Try.prog Try.f3 Rows.codeReadsRow.domain false) (Rows.codeReadsSpec.post enc Try.prog Try.f3 false true false false) := by
  refine returnsInHanded_of_change (C := Try.checked) own started (by kernel_rfl) Try.func3
    (ChangeSpec.witness6 (enc := enc) (C := Try.checked) false ⟨#[], #[.slice none 0 0, .slice none 0 0], []⟩ 8 (by kernel_rfl) (by kernel_rfl) (by kernel_rfl) (by kernel_rfl)) ?_
  intro W base args ds gs before hval0 hW hcnd _
  have hval : ∀ (j : Nat) t v, Try.f3.params[j]? = some t → args[j]? = some v → Value.okWide Try.prog W .any base t v := hval0
  have hW' := hW
  obtain ⟨p, q, hA0, hV, rfl, hfz, hnd⟩ := hW
  have hA : DataW.TrodAll enc Try.prog W 0 (fun _ => true) true Try.f3.params.toList args.toList ds p := hA0
  rw [Try.params3] at hA hval
  obtain ⟨v0, vs0, d0, ds0, p0, q0, hargs, rfl, rfl, h0, r0⟩ := trodAll_cons hA
  obtain ⟨v1, vs1, d1, ds1, p1, q1, rfl, rfl, rfl, h1, r1⟩ := trodAll_cons r0
  obtain ⟨rfl, rfl, rfl⟩ := trodAll_nil r1
  obtain rfl : args = #[v0, v1] := by cases args; simp_all
  obtain ⟨rfl, rfl⟩ := trodVars_none hV
  obtain ⟨a0, len0, cap0, rfl⟩ := okWide_slice Try.underlying22 (hval 0 22 v0 rfl rfl)
  have k0 := h0
  have lt0 : ∀ x ∈ p0, x.block < W.heap.size := by obtain ⟨m, hm⟩ := k0; exact DataW.trod_lt m _ _ _ hm
  obtain ⟨l0, y0, c0, x0⟩ : ∃ l, By W a0 len0 l ∧ len0 ≤ cap0 ∧ cap0 ≤ maxLen := by
    obtain ⟨fuel, hf⟩ := h0
    exact by_of_trod (by simpa [Value.cells] using hf)
  obtain ⟨a1, len1, cap1, rfl⟩ := okWide_slice Try.underlying23 (hval 1 23 v1 rfl rfl)
  have k1 := h1
  have lt1 : ∀ x ∈ p1, x.block < W.heap.size := by obtain ⟨m, hm⟩ := k1; exact DataW.trod_lt m _ _ _ hm
  obtain ⟨l1, y1, c1, x1⟩ : ∃ l, Acts W a1 len1 l ∧ len1 ≤ cap1 ∧ cap1 ≤ maxLen := by
    obtain ⟨fuel, hf⟩ := h1
    exact acts_of_trod (by simpa [Value.cells] using hf)
  clear hA0 hval0
  refine (reads_walk W a0 len0 cap0 l0 y0 c0 x0 a1 len1 cap1 l1 y1 c1 x1).mono fun e W' ⟨he, hg⟩ => ?_
  subst he
  have hb := hg.below_all
  exact ⟨_, rfl, _, _, _, [], _, [], hW', trodAll_mk1 (shut_bool Try.underlying4 _), (trodAll_cons_mk (Below.trod laidOut (by kernel_rfl) (of_decide_eq_true (by kernel_rfl)) k0 hb lt0) (trodAll_cons_mk (Below.trod laidOut (by kernel_rfl) (of_decide_eq_true (by kernel_rfl)) k1 hb lt1) trodAll_mk0)), rfl, hb.frame _, fun h => by cases h⟩
theorem over : Rows.codeReadsRow.holds Try.pinned (OpenSpec.ofChange Rows.codeReadsSpec) :=
  OpenClaim.holds_of_wide 3 Try.f3 rfl rfl rfl rfl rfl rfl rfl ⟨rfl, rfl, rfl, rfl, rfl⟩ rfl rfl rfl rfl rfl (by kernel_rfl) Try.func3 (by kernel_rfl)
    (of_decide_eq_true (by kernel_rfl)) (by unfold Func.isWrapper; first | (rw [if_pos (by decide +kernel)]; kernel_rfl) | (rw [if_neg (by decide +kernel)]; exact ⟨rfl, rfl⟩))
    (fun os started H enc _ => lifted os started H enc)
/-- the statement -/
theorem proved : Rows.CodeReadsSaid := over
end codeReads
end Go.Proofs.Ytefhphpnjgojaaa
