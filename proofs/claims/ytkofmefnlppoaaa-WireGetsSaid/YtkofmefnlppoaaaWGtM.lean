/- WireGets: the walk. -/
import Derived.Test.YtkofmefnlppoaaaKD6
namespace Go.Proofs.Ytkofmefnlppoaaa
open Go.RowKit
set_option maxRecDepth 100000
/-- a reader with its blocks' bounds -/
structure Rr (w : World) (B B' : Nat) (F : List Nat) (g : Nat) (s : Ps) : Prop where
  rs : Rs w F g s
  g : B ≤ g ∧ g < B'
  f : ∀ k ∈ F, B ≤ k ∧ k < B'
structure Qr (w : World) (B B' : Nat) (F : List Nat) (g : Nat) (s : Ps) : Prop where
  qs : Qs w F g s
  g : B ≤ g ∧ g < B'
  f : ∀ k ∈ F, B ≤ k ∧ k < B'
theorem Rr.keep {w w' : World} {B B' : Nat} {F T : List Nat} {g : Nat} {s : Ps} (h : Rr w B B' F g s) (hf : Fr T w w') (hT : ∀ x ∈ T, x < B ∨ B' ≤ x) : Rr w' B B' F g s :=
  ⟨h.rs.fr hf (fun hm => by have h1 := hT _ hm; have h2 := h.g; omega) (fun k hk hm => by have h1 := hT _ hm; have h2 := h.f k hk; omega), h.g, h.f⟩
theorem Qr.keep {w w' : World} {B B' : Nat} {F T : List Nat} {g : Nat} {s : Ps} (h : Qr w B B' F g s) (hf : Fr T w w') (hT : ∀ x ∈ T, x < B ∨ B' ≤ x) : Qr w' B B' F g s :=
  ⟨h.qs.fr hf (fun hm => by have h1 := hT _ hm; have h2 := h.g; omega) (fun k hk hm => by have h1 := hT _ hm; have h2 := h.f k hk; omega), h.g, h.f⟩
theorem newRr (A : Option Addr) (n c : Nat) (l : List UInt8) (w : World) (hy : By w A n l) (hn : n ≤ 1000000) :
    Calls Try.prog 15 #[.slice A n c] w fun e w' => ∃ g F, e = .returned (.pointer (some ⟨g, 0, none⟩)) ∧ Rr w' w.heap.size w'.heap.size F g (l, false) ∧ Fr [] w w' := by
  refine (newReader_any A n c l w hy (by omega)).mono ?_
  rintro e w' ⟨g, F, rfl, h1, h2, h3, h4⟩
  exact ⟨g, F, rfl, ⟨⟨h1, by have := hy.1; simp only; omega, fun k hk => (h4 k hk).2⟩, ⟨h3, h1.lt⟩, h4⟩, h2⟩
/-- the document's reader, made of a copy -/
theorem Qr.new {w w1 : World} {A1 : Option Addr} {n c1 : Nat} {l : List UInt8} (hN : NewB w w1 A1 n c1 l) (hn : n ≤ 1000000) :
    Qr (w1.alloc (Obj.cells #[.slice A1 n c1, .bool false] 57)) w.heap.size (w1.alloc (Obj.cells #[.slice A1 n c1, .bool false] 57)).heap.size (bk A1) w1.heap.size (l, false) := by
  have hs := hN.2.1.size
  have hl := hN.lt
  have hln := hN.by.1
  refine ⟨⟨⟨A1, n, c1, fun k hk => ⟨hk, fun e => by have := hl k hk; omega⟩, Blk.new _ _ _, hN.by.keep ((Fr.refl [] w1).alloc _) (by simp), hN.cap⟩, by simp only; omega, fun k hk => by have := hl k hk; simp; omega, fun h => by cases h⟩, ⟨hs, by simp⟩, fun k hk => ⟨hN.2.2 k hk, by have := hl k hk; simp; omega⟩⟩
theorem Qr.cells {w : World} {B B' : Nat} {F : List Nat} {g : Nat} {s : Ps} (h : Qr w B B' F g s) : (∃ A c, w.cell? ⟨g, 0, none⟩ = some (.slice A s.1.length c)) ∧ w.cell? ⟨g, 1, none⟩ = some (.bool s.2) := by
  obtain ⟨A, n, c, _, hb, hy, _⟩ := h.qs.rd
  have h0 := hb.cell 0
  have h1 := hb.cell 1
  simp at h0 h1
  exact ⟨⟨A, c, by rw [h0, hy.1]⟩, h1⟩

set_option maxHeartbeats 20000000 in
theorem wireGets_walk (w : World) (x : Wce) (hx : x.In w) (p : Wpr) (hp : p.In w) (b : Wba) (hb : b.In w) (A : Option Addr) (n d : Nat) (l : List UInt8) (hy : By w A n l) (hnd : n ≤ d) (hd : d ≤ maxLen)
    (what : Int) (hw1 : -9223372036854775808 ≤ what) (hw2 : what < 9223372036854775808) (how : Int) (hh1 : -9223372036854775808 ≤ how) (hh2 : how < 9223372036854775808) (at_ : Int) (ha1 : -9223372036854775808 ≤ at_) (ha2 : at_ < 9223372036854775808) (ch : UInt8) :
    Calls Try.prog 3 #[x.val, p.val, b.val, .slice A n d, .int .i64 what, .int .i64 how, .int .i64 at_, .int .u8 (ch.toNat : Int)] w fun e w' => e = .returned (.bool true) ∧ Fr [] w w' := by
  unfold Wce.val Wpr.val Wba.val
  have HXL0 : x.cells.length = 38 := Wce.len hx.k.h
  have HPL0 : p.cells.length = 6 := Wpr.len p
  have HBL0 : b.cells.length = 5 := Wba.len b
  have HXA0 : x.k.cells ++ [Value.slice x.A x.n x.d] = x.cells := rfl
  generalize hXL : x.cells = XL at *
  generalize hPL : p.cells = PL at *
  generalize hBL : b.cells = BL at *
  have HRX := Lib.hid hXL
  have HRP := Lib.hid hPL
  have HRB := Lib.hid hBL
  have HXL := Lib.hid HXL0
  have HPL := Lib.hid HPL0
  have HBL := Lib.hid HBL0
  have HXA := Lib.hid HXA0
  have HWH := Lib.hid (And.intro hw1 hw2)
  have HHO := Lib.hid (And.intro hh1 hh2)
  have HAT := Lib.hid (And.intro ha1 ha2)
  clear hXL hPL hBL HXL0 HPL0 HBL0 HXA0 hw1 hw2 hh1 hh2 ha1 ha2
  obtain ⟨wa, hwa⟩ : ∃ wa, wa = (((w.alloc (Obj.cells XL.toArray 32)).alloc (Obj.cells PL.toArray 36)).alloc (Obj.cells BL.toArray 41)) := ⟨_, rfl⟩
  have hf0 : Fr [] w wa := by rw [hwa]; exact (((Fr.refl [] w).alloc _).alloc _).alloc _
  have hb0 : Blk wa (w.heap.size + 0) 32 XL.toArray := by
    have h := Blk.new w 32 XL.toArray
    rw [hwa]
    exact blk_alloc (blk_alloc ((by simpa using h)))
  have hb1 : Blk wa (w.heap.size + 1) 36 PL.toArray := by
    have h := Blk.new (w.alloc (Obj.cells XL.toArray 32)) 36 PL.toArray
    rw [hwa]
    exact blk_alloc ((by simpa using h))
  have hb2 : Blk wa (w.heap.size + 2) 41 BL.toArray := by
    have h := Blk.new ((w.alloc (Obj.cells XL.toArray 32)).alloc (Obj.cells PL.toArray 36)) 41 BL.toArray
    rw [hwa]
    exact (by simpa using h)
  have HB0 := Lib.hid hb0
  have HB1 := Lib.hid hb1
  have HB2 := Lib.hid hb2
  have HF0 := Lib.hid hf0
  have HWA := Lib.hid hwa
  have HX := Lib.hid hx
  have HP := Lib.hid hp
  have HB := Lib.hid hb
  have HY0 := Lib.hid (hy.keep hf0 (by simp))
  have HND := Lib.hid hnd
  have HD := Lib.hid hd
  clear hwa hf0 hb0 hb1 hb2 hx hp hb hy hnd hd
  go_enter Try.func3, Try.ntmps3
  go_upto_region 1 with (fail)
  change Code.wp _ _ _ _ (((w.alloc (Obj.cells XL.toArray 32)).alloc (Obj.cells PL.toArray 36)).alloc (Obj.cells BL.toArray 41))
  rw [← HWA.out]
  go_wp2_with fail
  refine (within_pos what 4 HWH.out.1 HWH.out.2 (by omega) (by omega) _).mono ?_
  rintro e wx ⟨rfl, rfl⟩
  go_upto_block 0 with (fail)
  go_cut [17] (fun s17 wx => ∃ (A : Option Addr) (n c : Nat) (l : List UInt8), s17 = .slice A n c ∧ Hid (By wx A n l) ∧ Hid (n ≤ 14000) ∧ Hid (Fr [] w wx))
  case first =>
    obtain hq | hq | hq | hq : what % 4 = 0 ∨ what % 4 = 1 ∨ what % 4 = 2 ∨ ¬ (what % 4 = 0 ∨ what % 4 = 1 ∨ what % 4 = 2) := by omega
    · have hq0 : (what % 4 == 0) = true := by simp [hq]
      clear hq
      have hcc := certCut_any x.k HX.out.k x.A x.n x.d x.l
      rw [HXA.out] at hcc
      go_wp2_with (refine wpList_row rfl 32 _ rfl _ _ rfl _ HB0.out.range (row_crt.of HXL.out) ?_)
      refine (hcc wa (HX.out.l.keep' HF0.out (by simp) (fun _ _ h => h)) HX.out.n HX.out.d).mono ?_
      clear hcc
      rintro e w1 ⟨A1, d1, rfl, hN⟩
      have hm5 : (x.l.take 5).length ≤ 5 := List.length_take_le _ _
      have hok : (⟨x.k, A1, (x.l.take 5).length, d1, x.l.take 5⟩ : Wce).Ok w1 [] := ⟨HX.out.k, Lst.of_own (ok := fun (_ : World) (v : Wst) => v.Ok) hN.1 rfl (fun u hu => HX.out.l.2.1 u (List.mem_of_mem_take hu)), hm5, fun _ a ha hin => by simp at hin⟩
      have hcl : x.k.cells ++ [Value.slice A1 (x.l.take 5).length d1] = (⟨x.k, A1, (x.l.take 5).length, d1, x.l.take 5⟩ : Wce).cells := rfl
      rw [hcl]
      generalize (⟨x.k, A1, (x.l.take 5).length, d1, x.l.take 5⟩ : Wce) = c at *
      have HC := Lib.hid hok
      have HF1 : Hid (Fr [] w w1) := Lib.hid (HF0.out.and hN.2.1 (by simp))
      clear hN hm5 hok hcl
      go_wp2_with fail
      refine (refputCert_any c w1 HC.out c.cells rfl).mono ?_
      rintro e w2 ⟨A2, c2, rfl, hN⟩
      have HN := Lib.hid hN
      have hln := Wce.full_len HC.out
      generalize c.full = fl at *
      have HLN := Lib.hid hln
      clear hN hln
      go_wp2_with fail
      all_goals
        go_meet
        exact ⟨A2, _, c2, fl, rfl, Lib.hid HN.out.by, Lib.hid (by have := HLN.out; omega), Lib.hid (HF1.out.and HN.out.2.1 (by simp))⟩
    · have hq0 : (what % 4 == 0) = false := by simp [hq]
      have hq1 : (what % 4 == 1) = true := by simp [hq]
      clear hq
      have hpc := promiseCut_any p
      rw [HRP.out] at hpc
      go_wp2_with (refine wpList_row rfl 36 _ rfl _ _ rfl _ HB1.out.range (row_prm.of HPL.out) ?_)
      refine (hpc wa HP.out.r HP.out.e HP.out.t HP.out.b HP.out.m (HP.out.l.keep' HF0.out (by simp) (fun _ _ h => h.keep HF0.out)) HP.out.n).mono ?_
      clear hpc
      rintro e w1 ⟨A1, d1, ys, rfl, hok, -, hf⟩
      have hok2 := hok [] (by simp)
      generalize hq : (⟨p.r, p.e, p.t, A1, (p.l.take 3).length, d1, ys, p.b, p.m⟩ : Wpr) = q0 at *
      have HC := Lib.hid hok2
      have HF1 : Hid (Fr [] w w1) := Lib.hid (HF0.out.and hf (by simp))
      clear hq hok hok2 hf
      go_wp2_with fail
      refine (refputPromise_any q0 w1 HC.out q0.cells rfl).mono ?_
      rintro e w2 ⟨A2, c2, rfl, hN⟩
      have HN := Lib.hid hN
      have hln := Wpr.full_len HC.out
      generalize q0.full = fl at *
      have HLN := Lib.hid hln
      clear hN hln
      go_wp2_with fail
      all_goals
        go_meet
        exact ⟨A2, _, c2, fl, rfl, Lib.hid HN.out.by, Lib.hid (by have := HLN.out; omega), Lib.hid (HF1.out.and HN.out.2.1 (by simp))⟩
    · have hq0 : (what % 4 == 0) = false := by simp [hq]
      have hq1 : (what % 4 == 1) = false := by simp [hq]
      have hq2 : (what % 4 == 2) = true := by simp [hq]
      clear hq
      go_wp2_with (refine wpList_row rfl 41 _ rfl _ _ rfl _ HB2.out.range (row_bat.of HBL.out) ?_)
      refine (batchCut_any b wa (HB.out.keep HF0.out) BL HRB.out).mono ?_
      rintro e w1 ⟨z0, rfl, hok, hf⟩
      have HC := Lib.hid (hok [] (by simp))
      have HF1 : Hid (Fr [] w w1) := Lib.hid (HF0.out.and hf (by simp))
      clear hok hf
      unfold Wba.val
      go_wp2_with fail
      refine (refputBatch_any z0 w1 HC.out z0.cells rfl).mono ?_
      rintro e w2 ⟨A2, c2, rfl, hN⟩
      have HN := Lib.hid hN
      have hln := Wba.full_len HC.out
      generalize z0.full = fl at *
      have HLN := Lib.hid hln
      clear hN hln
      go_wp2_with fail
      all_goals
        go_meet
        exact ⟨A2, _, c2, fl, rfl, Lib.hid HN.out.by, Lib.hid (by have := HLN.out; omega), Lib.hid (HF1.out.and HN.out.2.1 (by simp))⟩
    · have hq0 : (what % 4 == 0) = false := by simp; omega
      have hq1 : (what % 4 == 1) = false := by simp; omega
      have hq2 : (what % 4 == 2) = false := by simp; omega
      clear hq
      go_wp2_with fail
      rw [show (300 : Int) = ((300 : Nat) : Int) from rfl]
      refine (cut_any A n d 300 l wa HY0.out (Nat.le_trans HND.out HD.out) HND.out (by omega)).mono ?_
      rintro e w2 ⟨A2, c2, rfl, hN⟩
      have HN := Lib.hid hN
      have hln : (l.take 300).length ≤ 300 := List.length_take_le _ _
      generalize l.take 300 = fl at *
      have HLN := Lib.hid hln
      clear hN hln
      go_wp2_with fail
      all_goals
        go_meet
        exact ⟨A2, _, c2, fl, rfl, Lib.hid HN.out.by, Lib.hid (by have := HLN.out; omega), Lib.hid (HF0.out.and HN.out.2.1 (by simp))⟩
  case rest =>
    obtain ⟨A0, n0, c0, l0, rfl, HYA, HNA, HFA⟩ := hcut
    rename World => wy
    clear HX HP HB HY0 HB0 HB1 HB2 HWA HF0 HRX HRP HRB HXA HXL HPL HBL
    go_wp2_with fail
    refine (turned_any A0 n0 c0 l0 wy HYA.out (by have := HNA.out; omega) how HHO.out.1 HHO.out.2 at_ HAT.out.1 HAT.out.2 ch).mono ?_
    rintro e w1 ⟨A1, n1, c1, l1, rfl, hy1, hn1, hb1, hf1⟩
    have HY1 := Lib.hid hy1
    have HN1 : Hid (n1 ≤ 14000) := Lib.hid (by have := HNA.out; omega)
    have HF1 : Hid (Fr [] w w1) := Lib.hid (HFA.out.and hf1 (by simp))
    clear hy1 hn1 hb1 hf1 HYA HNA HFA
    go_wp2_with fail
    refine (newRr A1 n1 c1 l1 w1 (HY1.out) (by have := HN1.out; omega)).mono ?_
    rintro e w2 ⟨g1, F1, rfl, hr, hf⟩
    have HR1 := Lib.hid hr
    have HFw1 : Hid (Fr [] w1 w2) := Lib.hid (hf)
    have HS1 : Hid (w1.heap.size ≤ w2.heap.size) := Lib.hid hf.size
    clear hr hf
    go_wp2_with fail
    refine (newRr A1 n1 c1 l1 w2 (HY1.out.keep HFw1.out (by simp)) (by have := HN1.out; omega)).mono ?_
    rintro e w3 ⟨g2, F2, rfl, hr, hf⟩
    have HR2 := Lib.hid hr
    have HFw2 : Hid (Fr [] w1 w3) := Lib.hid (HFw1.out.and hf (by simp))
    have HS2 : Hid (w2.heap.size ≤ w3.heap.size) := Lib.hid hf.size
    have HR1 := Lib.hid (HR1.out.keep hf (by simp))
    clear hr hf
    go_wp2_with fail
    refine (newRr A1 n1 c1 l1 w3 (HY1.out.keep HFw2.out (by simp)) (by have := HN1.out; omega)).mono ?_
    rintro e w4 ⟨g3, F3, rfl, hr, hf⟩
    have HR3 := Lib.hid hr
    have HFw3 : Hid (Fr [] w1 w4) := Lib.hid (HFw2.out.and hf (by simp))
    have HS3 : Hid (w3.heap.size ≤ w4.heap.size) := Lib.hid hf.size
    have HR1 := Lib.hid (HR1.out.keep hf (by simp))
    have HR2 := Lib.hid (HR2.out.keep hf (by simp))
    clear hr hf
    go_wp2_with fail
    refine (copy_any A1 n1 c1 l1 w4 (HY1.out.keep HFw3.out (by simp)) (by have := HN1.out; omega)).mono ?_
    rintro e u1 ⟨B1, d1, rfl, hN⟩
    have hq := Qr.new hN (by have := HN1.out; omega)
    have hf : Fr [] w4 (u1.alloc (Obj.cells #[.slice B1 n1 d1, .bool false] 57)) := hN.2.1.alloc _
    have HQ1 := Lib.hid hq
    have HFw4 : Hid (Fr [] w1 (u1.alloc (Obj.cells #[.slice B1 n1 d1, .bool false] 57))) := Lib.hid (HFw3.out.and hf (by simp))
    have HS4 : Hid (w4.heap.size ≤ (u1.alloc (Obj.cells #[.slice B1 n1 d1, .bool false] 57)).heap.size) := Lib.hid hf.size
    have HR1 := Lib.hid (HR1.out.keep hf (by simp))
    have HR2 := Lib.hid (HR2.out.keep hf (by simp))
    have HR3 := Lib.hid (HR3.out.keep hf (by simp))
    clear hN hq hf
    go_wp2_with fail
    generalize u1.alloc (Obj.cells #[.slice B1 n1 d1, .bool false] 57) = v1 at *
    generalize u1.heap.size = h1 at *
    refine (copy_any A1 n1 c1 l1 v1 (HY1.out.keep HFw4.out (by simp)) (by have := HN1.out; omega)).mono ?_
    rintro e u2 ⟨B2, d2, rfl, hN⟩
    have hq := Qr.new hN (by have := HN1.out; omega)
    have hf : Fr [] v1 (u2.alloc (Obj.cells #[.slice B2 n1 d2, .bool false] 57)) := hN.2.1.alloc _
    have HQ2 := Lib.hid hq
    have HFw5 : Hid (Fr [] w1 (u2.alloc (Obj.cells #[.slice B2 n1 d2, .bool false] 57))) := Lib.hid (HFw4.out.and hf (by simp))
    have HS5 : Hid (v1.heap.size ≤ (u2.alloc (Obj.cells #[.slice B2 n1 d2, .bool false] 57)).heap.size) := Lib.hid hf.size
    have HR1 := Lib.hid (HR1.out.keep hf (by simp))
    have HR2 := Lib.hid (HR2.out.keep hf (by simp))
    have HR3 := Lib.hid (HR3.out.keep hf (by simp))
    have HQ1 := Lib.hid (HQ1.out.keep hf (by simp))
    clear hN hq hf
    go_wp2_with fail
    generalize u2.alloc (Obj.cells #[.slice B2 n1 d2, .bool false] 57) = v2 at *
    generalize u2.heap.size = h2 at *
    refine (copy_any A1 n1 c1 l1 v2 (HY1.out.keep HFw5.out (by simp)) (by have := HN1.out; omega)).mono ?_
    rintro e u3 ⟨B3, d3, rfl, hN⟩
    have hq := Qr.new hN (by have := HN1.out; omega)
    have hf : Fr [] v2 (u3.alloc (Obj.cells #[.slice B3 n1 d3, .bool false] 57)) := hN.2.1.alloc _
    have HQ3 := Lib.hid hq
    have HFw6 : Hid (Fr [] w1 (u3.alloc (Obj.cells #[.slice B3 n1 d3, .bool false] 57))) := Lib.hid (HFw5.out.and hf (by simp))
    have HS6 : Hid (v2.heap.size ≤ (u3.alloc (Obj.cells #[.slice B3 n1 d3, .bool false] 57)).heap.size) := Lib.hid hf.size
    have HR1 := Lib.hid (HR1.out.keep hf (by simp))
    have HR2 := Lib.hid (HR2.out.keep hf (by simp))
    have HR3 := Lib.hid (HR3.out.keep hf (by simp))
    have HQ1 := Lib.hid (HQ1.out.keep hf (by simp))
    have HQ2 := Lib.hid (HQ2.out.keep hf (by simp))
    clear hN hq hf
    go_wp2_with fail
    generalize u3.alloc (Obj.cells #[.slice B3 n1 d3, .bool false] 57) = v3 at *
    generalize u3.heap.size = h3 at *
    have HBO : Hid (w1.heap.size ≤ w2.heap.size ∧ w2.heap.size ≤ w3.heap.size ∧ w3.heap.size ≤ w4.heap.size ∧ w4.heap.size ≤ v1.heap.size ∧ v1.heap.size ≤ v2.heap.size ∧ v2.heap.size ≤ v3.heap.size) := Lib.hid ⟨HS1.out, HS2.out, HS3.out, HS4.out, HS5.out, HS6.out⟩
    have HGI : Hid (g1 < w2.heap.size ∧ w2.heap.size ≤ g2 ∧ g2 < w3.heap.size ∧ w3.heap.size ≤ g3 ∧ g3 < w4.heap.size ∧ w4.heap.size ≤ h1 ∧ h1 < v1.heap.size ∧ v1.heap.size ≤ h2 ∧ h2 < v2.heap.size ∧ v2.heap.size ≤ h3 ∧ h3 < v3.heap.size ∧ w1.heap.size ≤ g1) := Lib.hid ⟨HR1.out.g.2, HR2.out.g.1, HR2.out.g.2, HR3.out.g.1, HR3.out.g.2, HQ1.out.g.1, HQ1.out.g.2, HQ2.out.g.1, HQ2.out.g.2, HQ3.out.g.1, HQ3.out.g.2, HR1.out.g.1⟩
    have HGS : Hid (∀ q ∈ [g1, g2, g3, h1, h2, h3], q < v3.heap.size) := Lib.hid (by
      have h0 := HBO.out
      have h1 := HGI.out
      intro q hq
      simp at hq
      omega)
    clear HY1
    refine (wireCert_any v3 F1 g1 _ HR1.out.rs).mono ?_
    rintro e x1 ⟨p1, rfl, hc, hok, hr, hf⟩
    have HPC1 := Lib.hid hc
    have HPO1 := Lib.hid (hok [g1, g2, g3, h1, h2, h3] (fun q hq => by have h1 := HGS.out q hq; omega))
    have HQ1 := Lib.hid (HQ1.out.keep hf (by have h0 := HBO.out; have h1 := HGI.out; intro q hq; simp at hq <;> omega))
    have HR2 := Lib.hid (HR2.out.keep hf (by have h0 := HBO.out; have h1 := HGI.out; intro q hq; simp at hq <;> omega))
    have HQ2 := Lib.hid (HQ2.out.keep hf (by have h0 := HBO.out; have h1 := HGI.out; intro q hq; simp at hq <;> omega))
    have HR3 := Lib.hid (HR3.out.keep hf (by have h0 := HBO.out; have h1 := HGI.out; intro q hq; simp at hq <;> omega))
    have HQ3 := Lib.hid (HQ3.out.keep hf (by have h0 := HBO.out; have h1 := HGI.out; intro q hq; simp at hq <;> omega))
    have HR1 : Hid (Rr x1 _ _ F1 g1 (pCe (l1, false)).2) := Lib.hid ⟨hr, HR1.out.g, HR1.out.f⟩
    have HZ1a : Hid (Fr [g1, g2, g3, h1, h2, h3] v3 x1) := Lib.hid (hf.mono (fun q hq _ => by simp at hq; simp [hq]))
    clear hc hok hr hf
    go_wp2_with fail
    refine (qWCert_any x1 _ h1 _ HQ1.out.qs).mono ?_
    rintro e x2 ⟨q1, rfl, hc, hok, hr, hf⟩
    have HQC1 := Lib.hid hc
    have HQO1 := Lib.hid (hok [] (by simp))
    have HPO1 := Lib.hid (HPO1.out.keep (S' := []) (hf.mono (fun q hq _ => by simp at hq; simp [hq])) (by simp))
    have HR1 := Lib.hid (HR1.out.keep hf (by have h0 := HBO.out; have h1 := HGI.out; intro q hq; simp at hq <;> omega))
    have HR2 := Lib.hid (HR2.out.keep hf (by have h0 := HBO.out; have h1 := HGI.out; intro q hq; simp at hq <;> omega))
    have HQ2 := Lib.hid (HQ2.out.keep hf (by have h0 := HBO.out; have h1 := HGI.out; intro q hq; simp at hq <;> omega))
    have HR3 := Lib.hid (HR3.out.keep hf (by have h0 := HBO.out; have h1 := HGI.out; intro q hq; simp at hq <;> omega))
    have HQ3 := Lib.hid (HQ3.out.keep hf (by have h0 := HBO.out; have h1 := HGI.out; intro q hq; simp at hq <;> omega))
    have HQ1 : Hid (Qr x2 _ _ _ h1 (pCe (l1, false)).2) := Lib.hid ⟨hr, HQ1.out.g, HQ1.out.f⟩
    have HZ1b : Hid (Fr [g1, g2, g3, h1, h2, h3] v3 x2) := Lib.hid (HZ1a.out.trans hf (fun q hq _ => by simp at hq; simp [hq]))
    clear hc hok hr hf
    go_wp2_with fail
    refine (cert_eq p1 q1 x2 HPO1.out HQO1.out (by rw [HPC1.out, HQC1.out]) p1.cells q1.cells rfl rfl).mono ?_
    rintro e x3 ⟨rfl, hf⟩
    have HR1 := Lib.hid (HR1.out.keep hf (by have h0 := HBO.out; have h1 := HGI.out; intro q hq; simp at hq <;> omega))
    have HQ1 := Lib.hid (HQ1.out.keep hf (by have h0 := HBO.out; have h1 := HGI.out; intro q hq; simp at hq <;> omega))
    have HR2 := Lib.hid (HR2.out.keep hf (by have h0 := HBO.out; have h1 := HGI.out; intro q hq; simp at hq <;> omega))
    have HQ2 := Lib.hid (HQ2.out.keep hf (by have h0 := HBO.out; have h1 := HGI.out; intro q hq; simp at hq <;> omega))
    have HR3 := Lib.hid (HR3.out.keep hf (by have h0 := HBO.out; have h1 := HGI.out; intro q hq; simp at hq <;> omega))
    have HQ3 := Lib.hid (HQ3.out.keep hf (by have h0 := HBO.out; have h1 := HGI.out; intro q hq; simp at hq <;> omega))
    have HZ1 : Hid (Fr [g1, g2, g3, h1, h2, h3] v3 x3) := Lib.hid (HZ1b.out.trans hf (by simp))
    have HSV1 : Hid (v3.heap.size ≤ x3.heap.size) := Lib.hid HZ1.out.size
    clear hf HPC1 HQC1 HPO1 HQO1 HZ1a HZ1b
    go_wp2_with fail
    refine (wirePromise_any x3 F2 g2 _ HR2.out.rs).mono ?_
    rintro e x4 ⟨p2, rfl, hc, hok, hr, hf⟩
    have HPC2 := Lib.hid hc
    have HPO2 := Lib.hid (hok [g1, g2, g3, h1, h2, h3] (fun q hq => by have h1 := HGS.out q hq; have h2 := HSV1.out; omega))
    have HR1 := Lib.hid (HR1.out.keep hf (by have h0 := HBO.out; have h1 := HGI.out; intro q hq; simp at hq <;> omega))
    have HQ1 := Lib.hid (HQ1.out.keep hf (by have h0 := HBO.out; have h1 := HGI.out; intro q hq; simp at hq <;> omega))
    have HQ2 := Lib.hid (HQ2.out.keep hf (by have h0 := HBO.out; have h1 := HGI.out; intro q hq; simp at hq <;> omega))
    have HR3 := Lib.hid (HR3.out.keep hf (by have h0 := HBO.out; have h1 := HGI.out; intro q hq; simp at hq <;> omega))
    have HQ3 := Lib.hid (HQ3.out.keep hf (by have h0 := HBO.out; have h1 := HGI.out; intro q hq; simp at hq <;> omega))
    have HR2 : Hid (Rr x4 _ _ F2 g2 (pPr (l1, false)).2) := Lib.hid ⟨hr, HR2.out.g, HR2.out.f⟩
    have HZ2a : Hid (Fr [g1, g2, g3, h1, h2, h3] v3 x4) := Lib.hid (HZ1.out.trans hf (fun q hq _ => by simp at hq; simp [hq]))
    clear hc hok hr hf
    go_wp2_with fail
    refine (qWPromise_any x4 _ h2 _ HQ2.out.qs).mono ?_
    rintro e x5 ⟨q2, rfl, hc, hok, hr, hf⟩
    have HQC2 := Lib.hid hc
    have HQO2 := Lib.hid (hok [] (by simp))
    have HPO2 := Lib.hid (HPO2.out.keep (S' := []) (hf.mono (fun q hq _ => by simp at hq; simp [hq])) (by simp))
    have HR1 := Lib.hid (HR1.out.keep hf (by have h0 := HBO.out; have h1 := HGI.out; intro q hq; simp at hq <;> omega))
    have HQ1 := Lib.hid (HQ1.out.keep hf (by have h0 := HBO.out; have h1 := HGI.out; intro q hq; simp at hq <;> omega))
    have HR2 := Lib.hid (HR2.out.keep hf (by have h0 := HBO.out; have h1 := HGI.out; intro q hq; simp at hq <;> omega))
    have HR3 := Lib.hid (HR3.out.keep hf (by have h0 := HBO.out; have h1 := HGI.out; intro q hq; simp at hq <;> omega))
    have HQ3 := Lib.hid (HQ3.out.keep hf (by have h0 := HBO.out; have h1 := HGI.out; intro q hq; simp at hq <;> omega))
    have HQ2 : Hid (Qr x5 _ _ _ h2 (pPr (l1, false)).2) := Lib.hid ⟨hr, HQ2.out.g, HQ2.out.f⟩
    have HZ2b : Hid (Fr [g1, g2, g3, h1, h2, h3] v3 x5) := Lib.hid (HZ2a.out.trans hf (fun q hq _ => by simp at hq; simp [hq]))
    clear hc hok hr hf
    go_wp2_with fail
    refine (promise_eq p2 q2 x5 HPO2.out HQO2.out (by rw [HPC2.out, HQC2.out]) p2.cells q2.cells rfl rfl).mono ?_
    rintro e x6 ⟨rfl, hf⟩
    have HR1 := Lib.hid (HR1.out.keep hf (by have h0 := HBO.out; have h1 := HGI.out; intro q hq; simp at hq <;> omega))
    have HQ1 := Lib.hid (HQ1.out.keep hf (by have h0 := HBO.out; have h1 := HGI.out; intro q hq; simp at hq <;> omega))
    have HR2 := Lib.hid (HR2.out.keep hf (by have h0 := HBO.out; have h1 := HGI.out; intro q hq; simp at hq <;> omega))
    have HQ2 := Lib.hid (HQ2.out.keep hf (by have h0 := HBO.out; have h1 := HGI.out; intro q hq; simp at hq <;> omega))
    have HR3 := Lib.hid (HR3.out.keep hf (by have h0 := HBO.out; have h1 := HGI.out; intro q hq; simp at hq <;> omega))
    have HQ3 := Lib.hid (HQ3.out.keep hf (by have h0 := HBO.out; have h1 := HGI.out; intro q hq; simp at hq <;> omega))
    have HZ2 : Hid (Fr [g1, g2, g3, h1, h2, h3] v3 x6) := Lib.hid (HZ2b.out.trans hf (by simp))
    have HSV2 : Hid (v3.heap.size ≤ x6.heap.size) := Lib.hid HZ2.out.size
    clear hf HPC2 HQC2 HPO2 HQO2 HZ2a HZ2b
    go_wp2_with fail
    refine (wireBatch_any x6 F3 g3 _ HR3.out.rs).mono ?_
    rintro e x7 ⟨p3, rfl, hc, hok, hr, hf⟩
    have HPC3 := Lib.hid hc
    have HPO3 := Lib.hid (hok [g1, g2, g3, h1, h2, h3] (fun q hq => by have h1 := HGS.out q hq; have h2 := HSV2.out; omega))
    have HR1 := Lib.hid (HR1.out.keep hf (by have h0 := HBO.out; have h1 := HGI.out; intro q hq; simp at hq <;> omega))
    have HQ1 := Lib.hid (HQ1.out.keep hf (by have h0 := HBO.out; have h1 := HGI.out; intro q hq; simp at hq <;> omega))
    have HR2 := Lib.hid (HR2.out.keep hf (by have h0 := HBO.out; have h1 := HGI.out; intro q hq; simp at hq <;> omega))
    have HQ2 := Lib.hid (HQ2.out.keep hf (by have h0 := HBO.out; have h1 := HGI.out; intro q hq; simp at hq <;> omega))
    have HQ3 := Lib.hid (HQ3.out.keep hf (by have h0 := HBO.out; have h1 := HGI.out; intro q hq; simp at hq <;> omega))
    have HR3 : Hid (Rr x7 _ _ F3 g3 (pBa (l1, false)).2) := Lib.hid ⟨hr, HR3.out.g, HR3.out.f⟩
    have HZ3a : Hid (Fr [g1, g2, g3, h1, h2, h3] v3 x7) := Lib.hid (HZ2.out.trans hf (fun q hq _ => by simp at hq; simp [hq]))
    clear hc hok hr hf
    go_wp2_with fail
    refine (qWBatch_any x7 _ h3 _ HQ3.out.qs).mono ?_
    rintro e x8 ⟨q3, rfl, hc, hok, hr, hf⟩
    have HQC3 := Lib.hid hc
    have HQO3 := Lib.hid (hok [] (by simp))
    have HPO3 := Lib.hid (HPO3.out.keep (S' := []) (hf.mono (fun q hq _ => by simp at hq; simp [hq])) (by simp))
    have HR1 := Lib.hid (HR1.out.keep hf (by have h0 := HBO.out; have h1 := HGI.out; intro q hq; simp at hq <;> omega))
    have HQ1 := Lib.hid (HQ1.out.keep hf (by have h0 := HBO.out; have h1 := HGI.out; intro q hq; simp at hq <;> omega))
    have HR2 := Lib.hid (HR2.out.keep hf (by have h0 := HBO.out; have h1 := HGI.out; intro q hq; simp at hq <;> omega))
    have HQ2 := Lib.hid (HQ2.out.keep hf (by have h0 := HBO.out; have h1 := HGI.out; intro q hq; simp at hq <;> omega))
    have HR3 := Lib.hid (HR3.out.keep hf (by have h0 := HBO.out; have h1 := HGI.out; intro q hq; simp at hq <;> omega))
    have HQ3 : Hid (Qr x8 _ _ _ h3 (pBa (l1, false)).2) := Lib.hid ⟨hr, HQ3.out.g, HQ3.out.f⟩
    have HZ3b : Hid (Fr [g1, g2, g3, h1, h2, h3] v3 x8) := Lib.hid (HZ3a.out.trans hf (fun q hq _ => by simp at hq; simp [hq]))
    clear hc hok hr hf
    go_wp2_with fail
    refine (batch_eq p3 q3 x8 HPO3.out HQO3.out (by rw [HPC3.out, HQC3.out]) p3.cells q3.cells rfl rfl).mono ?_
    rintro e x9 ⟨rfl, hf⟩
    have HR1 := Lib.hid (HR1.out.keep hf (by have h0 := HBO.out; have h1 := HGI.out; intro q hq; simp at hq <;> omega))
    have HQ1 := Lib.hid (HQ1.out.keep hf (by have h0 := HBO.out; have h1 := HGI.out; intro q hq; simp at hq <;> omega))
    have HR2 := Lib.hid (HR2.out.keep hf (by have h0 := HBO.out; have h1 := HGI.out; intro q hq; simp at hq <;> omega))
    have HQ2 := Lib.hid (HQ2.out.keep hf (by have h0 := HBO.out; have h1 := HGI.out; intro q hq; simp at hq <;> omega))
    have HR3 := Lib.hid (HR3.out.keep hf (by have h0 := HBO.out; have h1 := HGI.out; intro q hq; simp at hq <;> omega))
    have HQ3 := Lib.hid (HQ3.out.keep hf (by have h0 := HBO.out; have h1 := HGI.out; intro q hq; simp at hq <;> omega))
    have HZ3 : Hid (Fr [g1, g2, g3, h1, h2, h3] v3 x9) := Lib.hid (HZ3b.out.trans hf (by simp))
    have HSV3 : Hid (v3.heap.size ≤ x9.heap.size) := Lib.hid HZ3.out.size
    clear hf HPC3 HQC3 HPO3 HQO3 HZ3a HZ3b
    have HFX : Hid (Fr [] w x9) := Lib.hid ((HF1.out.and HFw6.out (by simp)).trans HZ3.out (fun q hq hl => by have h0 := HBO.out; have h1 := HGI.out; have h2 := HF1.out.size; simp at hq; omega))
    generalize (pCe (l1, false)).2 = s1 at *
    generalize (pPr (l1, false)).2 = s2 at *
    generalize (pBa (l1, false)).2 = s3 at *
    obtain ⟨R1, b1⟩ := s1
    obtain ⟨R2, b2⟩ := s2
    obtain ⟨R3, b3⟩ := s3
    obtain ⟨⟨C1, k1, hl1⟩, hd1⟩ := HQ1.out.cells
    obtain ⟨⟨C2, k2, hl2⟩, hd2⟩ := HQ2.out.cells
    obtain ⟨⟨C3, k3, hl3⟩, hd3⟩ := HQ3.out.cells
    simp only at hl1 hl2 hl3 hd1 hd2 hd3
    have hx1 : ((!b1) != b1) = true := by cases b1 <;> rfl
    have hx2 : ((!b2) != b2) = true := by cases b2 <;> rfl
    have hx3 : ((!b3) != b3) = true := by cases b3 <;> rfl
    go_upto_region 17 with (fail)
    refine wp_region_held_drew (S := Fr [] x9) (by kernel_rfl) (Fr.drew (Fr.refl _ x9)) (fun hHeld => ?_)
    generalize x9.drew = wd at *
    refine run_at (i := 0) (v := ?_) rfl (by kernel_rfl) (by rfl) (fun _ _ _ h => h) hHeld (fun w1 hw1 => ?_) ?_
    rotate_left 1
    · skip
      go_simp
      (try (first | with_reducible rfl | (apply And.intro <;> rfl)))
    simp only [Act.put, List.setIfInBounds_toArray, List.set_cons_zero, List.set_cons_succ]
    refine run_at (i := 2) (v := ?_) rfl (by kernel_rfl) (by rfl) (fun _ _ _ h => h) hHeld (fun w1 hw1 => ?_) ?_
    rotate_left 1
    · skip
      go_simp
      (try (first | with_reducible rfl | (apply And.intro <;> rfl)))
    simp only [Act.put, List.setIfInBounds_toArray, List.set_cons_zero, List.set_cons_succ]
    refine run_at (i := 3) (v := ?_) rfl (by kernel_rfl) (by rfl) (fun _ _ _ h => h) hHeld (fun w1 hw1 => ?_) ?_
    rotate_left 1
    · skip
      go_simp
      (try (first | with_reducible rfl | (apply And.intro <;> rfl)))
    simp only [Act.put, List.setIfInBounds_toArray, List.set_cons_zero, List.set_cons_succ]
    refine run_at (i := 4) (v := ?_) rfl (by kernel_rfl) (by rfl) (fun _ _ _ h => h) hHeld (fun w1 hw1 => ?_) ?_
    rotate_left 1
    · skip
      go_simp
      (try (first | with_reducible rfl | (apply And.intro <;> rfl)))
    simp only [Act.put, List.setIfInBounds_toArray, List.set_cons_zero, List.set_cons_succ]
    refine run_at (i := 5) (v := ?_) rfl (by kernel_rfl) (by rfl) (fun _ _ _ h => h) hHeld (fun w1 hw1 => ?_) ?_
    rotate_left 1
    · skip
      have hcw0 := hw1.cell (hd1) (by first | (simp; done) | exact HNS.out | exact HNW.out | (intro hm; have hlt := HSB.out _ hm; (try dsimp only at hlt); omega))
      go_simp
      (try (first | with_reducible rfl | (apply And.intro <;> rfl)))
    simp only [Act.put, List.setIfInBounds_toArray, List.set_cons_zero, List.set_cons_succ]
    refine call_at (i := 1) (f := ?_) (args := ?_) rfl (by kernel_rfl) (by rfl) ?_ ?_
    rotate_left 2
    · go_simp
      (try (first | with_reducible rfl | (apply And.intro <;> rfl)))
    refine (ok_any _ g1 F1 R1 b1 (HR1.out.keep hHeld (by simp)).rs.rd).mono ?_
    rintro e_ wz ⟨rfl, rfl⟩
    refine ⟨_, rfl, hHeld, fun hHeld => ?_⟩
    simp only [Act.put, List.setIfInBounds_toArray, List.set_cons_zero, List.set_cons_succ]
    refine run_at (i := 6) (v := ?_) rfl (by kernel_rfl) (by rfl) (fun _ _ _ h => h) hHeld (fun w1 hw1 => ?_) ?_
    rotate_left 1
    · skip
      go_simp
      (try (first | with_reducible rfl | (apply And.intro <;> rfl)))
    simp only [Act.put, List.setIfInBounds_toArray, List.set_cons_zero, List.set_cons_succ]
    refine run_at (i := 7) (v := ?_) rfl (by kernel_rfl) (by rfl) (fun _ _ _ h => h) hHeld (fun w1 hw1 => ?_) ?_
    rotate_left 1
    · skip
      go_simp
      (try (first | with_reducible rfl | (apply And.intro <;> rfl)))
    simp only [Act.put, List.setIfInBounds_toArray, List.set_cons_zero, List.set_cons_succ]
    refine run_at (i := 8) (v := ?_) rfl (by kernel_rfl) (by rfl) (fun _ _ _ h => h) hHeld (fun w1 hw1 => ?_) ?_
    rotate_left 1
    · skip
      go_simp
      (try (first | with_reducible rfl | (apply And.intro <;> rfl)))
    simp only [Act.put, List.setIfInBounds_toArray, List.set_cons_zero, List.set_cons_succ]
    refine run_at (i := 10) (v := ?_) rfl (by kernel_rfl) (by rfl) (fun _ _ _ h => h) hHeld (fun w1 hw1 => ?_) ?_
    rotate_left 1
    · skip
      go_simp
      (try (first | with_reducible rfl | (apply And.intro <;> rfl)))
    simp only [Act.put, List.setIfInBounds_toArray, List.set_cons_zero, List.set_cons_succ]
    refine run_at (i := 11) (v := ?_) rfl (by kernel_rfl) (by rfl) (fun _ _ _ h => h) hHeld (fun w1 hw1 => ?_) ?_
    rotate_left 1
    · skip
      go_simp
      (try (first | with_reducible rfl | (apply And.intro <;> rfl)))
    simp only [Act.put, List.setIfInBounds_toArray, List.set_cons_zero, List.set_cons_succ]
    refine run_at (i := 12) (v := ?_) rfl (by kernel_rfl) (by rfl) (fun _ _ _ h => h) hHeld (fun w1 hw1 => ?_) ?_
    rotate_left 1
    · skip
      go_simp
      (try (first | with_reducible rfl | (apply And.intro <;> rfl)))
    simp only [Act.put, List.setIfInBounds_toArray, List.set_cons_zero, List.set_cons_succ]
    refine run_at (i := 13) (v := ?_) rfl (by kernel_rfl) (by rfl) (fun _ _ _ h => h) hHeld (fun w1 hw1 => ?_) ?_
    rotate_left 1
    · skip
      have hcw0 := hw1.cell (hd2) (by first | (simp; done) | exact HNS.out | exact HNW.out | (intro hm; have hlt := HSB.out _ hm; (try dsimp only at hlt); omega))
      go_simp
      (try (first | with_reducible rfl | (apply And.intro <;> rfl)))
    simp only [Act.put, List.setIfInBounds_toArray, List.set_cons_zero, List.set_cons_succ]
    refine call_at (i := 9) (f := ?_) (args := ?_) rfl (by kernel_rfl) (by rfl) ?_ ?_
    rotate_left 2
    · go_simp
      (try (first | with_reducible rfl | (apply And.intro <;> rfl)))
    refine (ok_any _ g2 F2 R2 b2 (HR2.out.keep hHeld (by simp)).rs.rd).mono ?_
    rintro e_ wz ⟨rfl, rfl⟩
    refine ⟨_, rfl, hHeld, fun hHeld => ?_⟩
    simp only [Act.put, List.setIfInBounds_toArray, List.set_cons_zero, List.set_cons_succ]
    refine run_at (i := 14) (v := ?_) rfl (by kernel_rfl) (by rfl) (fun _ _ _ h => h) hHeld (fun w1 hw1 => ?_) ?_
    rotate_left 1
    · skip
      go_simp
      (try (first | with_reducible rfl | (apply And.intro <;> rfl)))
    simp only [Act.put, List.setIfInBounds_toArray, List.set_cons_zero, List.set_cons_succ]
    refine run_at (i := 15) (v := ?_) rfl (by kernel_rfl) (by rfl) (fun _ _ _ h => h) hHeld (fun w1 hw1 => ?_) ?_
    rotate_left 1
    · skip
      go_simp
      (try (first | with_reducible rfl | (apply And.intro <;> rfl)))
    simp only [Act.put, List.setIfInBounds_toArray, List.set_cons_zero, List.set_cons_succ]
    refine run_at (i := 16) (v := ?_) rfl (by kernel_rfl) (by rfl) (fun _ _ _ h => h) hHeld (fun w1 hw1 => ?_) ?_
    rotate_left 1
    · skip
      go_simp
      (try (first | with_reducible rfl | (apply And.intro <;> rfl)))
    simp only [Act.put, List.setIfInBounds_toArray, List.set_cons_zero, List.set_cons_succ]
    refine run_at (i := 17) (v := ?_) rfl (by kernel_rfl) (by rfl) (fun _ _ _ h => h) hHeld (fun w1 hw1 => ?_) ?_
    rotate_left 1
    · skip
      go_simp
      (try (first | with_reducible rfl | (apply And.intro <;> rfl)))
    simp only [Act.put, List.setIfInBounds_toArray, List.set_cons_zero, List.set_cons_succ]
    refine run_at (i := 19) (v := ?_) rfl (by kernel_rfl) (by rfl) (fun _ _ _ h => h) hHeld (fun w1 hw1 => ?_) ?_
    rotate_left 1
    · skip
      go_simp
      (try (first | with_reducible rfl | (apply And.intro <;> rfl)))
    simp only [Act.put, List.setIfInBounds_toArray, List.set_cons_zero, List.set_cons_succ]
    refine run_at (i := 20) (v := ?_) rfl (by kernel_rfl) (by rfl) (fun _ _ _ h => h) hHeld (fun w1 hw1 => ?_) ?_
    rotate_left 1
    · skip
      go_simp
      (try (first | with_reducible rfl | (apply And.intro <;> rfl)))
    simp only [Act.put, List.setIfInBounds_toArray, List.set_cons_zero, List.set_cons_succ]
    refine run_at (i := 21) (v := ?_) rfl (by kernel_rfl) (by rfl) (fun _ _ _ h => h) hHeld (fun w1 hw1 => ?_) ?_
    rotate_left 1
    · skip
      go_simp
      (try (first | with_reducible rfl | (apply And.intro <;> rfl)))
    simp only [Act.put, List.setIfInBounds_toArray, List.set_cons_zero, List.set_cons_succ]
    refine run_at (i := 22) (v := ?_) rfl (by kernel_rfl) (by rfl) (fun _ _ _ h => h) hHeld (fun w1 hw1 => ?_) ?_
    rotate_left 1
    · skip
      have hcw0 := hw1.cell (hd3) (by first | (simp; done) | exact HNS.out | exact HNW.out | (intro hm; have hlt := HSB.out _ hm; (try dsimp only at hlt); omega))
      go_simp
      (try (first | with_reducible rfl | (apply And.intro <;> rfl)))
    simp only [Act.put, List.setIfInBounds_toArray, List.set_cons_zero, List.set_cons_succ]
    refine call_at (i := 18) (f := ?_) (args := ?_) rfl (by kernel_rfl) (by rfl) ?_ ?_
    rotate_left 2
    · go_simp
      (try (first | with_reducible rfl | (apply And.intro <;> rfl)))
    refine (ok_any _ g3 F3 R3 b3 (HR3.out.keep hHeld (by simp)).rs.rd).mono ?_
    rintro e_ wz ⟨rfl, rfl⟩
    refine ⟨_, rfl, hHeld, fun hHeld => ?_⟩
    simp only [Act.put, List.setIfInBounds_toArray, List.set_cons_zero, List.set_cons_succ]
    refine run_at (i := 23) (v := ?_) rfl (by kernel_rfl) (by rfl) (fun _ _ _ h => h) hHeld (fun w1 hw1 => ?_) ?_
    rotate_left 1
    · skip
      go_simp
      (try (first | with_reducible rfl | (apply And.intro <;> rfl)))
    simp only [Act.put, List.setIfInBounds_toArray, List.set_cons_zero, List.set_cons_succ]
    refine run_at (i := 24) (v := ?_) rfl (by kernel_rfl) (by rfl) (fun _ _ _ h => h) hHeld (fun w1 hw1 => ?_) ?_
    rotate_left 1
    · skip
      go_simp
      (try (first | with_reducible rfl | (apply And.intro <;> rfl)))
    simp only [Act.put, List.setIfInBounds_toArray, List.set_cons_zero, List.set_cons_succ]
    refine run_at (i := 25) (v := ?_) rfl (by kernel_rfl) (by rfl) (fun _ _ _ h => h) hHeld (fun w1 hw1 => ?_) ?_
    rotate_left 1
    · skip
      go_simp
      (try (first | with_reducible rfl | (apply And.intro <;> rfl)))
    simp only [Act.put, List.setIfInBounds_toArray, List.set_cons_zero, List.set_cons_succ]
    refine run_at (i := 26) (v := ?_) rfl (by kernel_rfl) (by rfl) (fun _ _ _ h => h) hHeld (fun w1 hw1 => ?_) ?_
    rotate_left 1
    · skip
      go_simp
      (try (first | with_reducible rfl | (apply And.intro <;> rfl)))
    simp only [Act.put, List.setIfInBounds_toArray, List.set_cons_zero, List.set_cons_succ]
    refine run_at (i := 28) (v := ?_) rfl (by kernel_rfl) (by rfl) (fun _ _ _ h => h) hHeld (fun w1 hw1 => ?_) ?_
    rotate_left 1
    · skip
      go_simp
      (try (first | with_reducible rfl | (apply And.intro <;> rfl)))
    simp only [Act.put, List.setIfInBounds_toArray, List.set_cons_zero, List.set_cons_succ]
    refine run_at (i := 29) (v := ?_) rfl (by kernel_rfl) (by rfl) (fun _ _ _ h => h) hHeld (fun w1 hw1 => ?_) ?_
    rotate_left 1
    · skip
      go_simp
      (try (first | with_reducible rfl | (apply And.intro <;> rfl)))
    simp only [Act.put, List.setIfInBounds_toArray, List.set_cons_zero, List.set_cons_succ]
    refine run_at (i := 30) (v := ?_) rfl (by kernel_rfl) (by rfl) (fun _ _ _ h => h) hHeld (fun w1 hw1 => ?_) ?_
    rotate_left 1
    · skip
      go_simp
      (try (first | with_reducible rfl | (apply And.intro <;> rfl)))
    simp only [Act.put, List.setIfInBounds_toArray, List.set_cons_zero, List.set_cons_succ]
    refine run_at (i := 31) (v := ?_) rfl (by kernel_rfl) (by rfl) (fun _ _ _ h => h) hHeld (fun w1 hw1 => ?_) ?_
    rotate_left 1
    · skip
      have hcw0 := hw1.cell (hl1) (by first | (simp; done) | exact HNS.out | exact HNW.out | (intro hm; have hlt := HSB.out _ hm; (try dsimp only at hlt); omega))
      go_simp
      (try (first | with_reducible rfl | (apply And.intro <;> rfl)))
    simp only [Act.put, List.setIfInBounds_toArray, List.set_cons_zero, List.set_cons_succ]
    refine run_at (i := 32) (v := ?_) rfl (by kernel_rfl) (by rfl) (fun _ _ _ h => h) hHeld (fun w1 hw1 => ?_) ?_
    rotate_left 1
    · skip
      go_simp
      (try (first | with_reducible rfl | (apply And.intro <;> rfl)))
    simp only [Act.put, List.setIfInBounds_toArray, List.set_cons_zero, List.set_cons_succ]
    refine call_at (i := 27) (f := ?_) (args := ?_) rfl (by kernel_rfl) (by rfl) ?_ ?_
    rotate_left 2
    · go_simp
      (try (first | with_reducible rfl | (apply And.intro <;> rfl)))
    refine (left_any _ g1 F1 R1 b1 (HR1.out.keep hHeld (by simp)).rs.rd).mono ?_
    rintro e_ wz ⟨rfl, rfl⟩
    refine ⟨_, rfl, hHeld, fun hHeld => ?_⟩
    simp only [Act.put, List.setIfInBounds_toArray, List.set_cons_zero, List.set_cons_succ]
    refine run_at (i := 33) (v := ?_) rfl (by kernel_rfl) (by rfl) (fun _ _ _ h => h) hHeld (fun w1 hw1 => ?_) ?_
    rotate_left 1
    · skip
      go_simp
      (try (first | with_reducible rfl | (apply And.intro <;> rfl)))
    simp only [Act.put, List.setIfInBounds_toArray, List.set_cons_zero, List.set_cons_succ]
    refine run_at (i := 34) (v := ?_) rfl (by kernel_rfl) (by rfl) (fun _ _ _ h => h) hHeld (fun w1 hw1 => ?_) ?_
    rotate_left 1
    · skip
      go_simp
      (try (first | with_reducible rfl | (apply And.intro <;> rfl)))
    simp only [Act.put, List.setIfInBounds_toArray, List.set_cons_zero, List.set_cons_succ]
    refine run_at (i := 35) (v := ?_) rfl (by kernel_rfl) (by rfl) (fun _ _ _ h => h) hHeld (fun w1 hw1 => ?_) ?_
    rotate_left 1
    · skip
      go_simp
      (try (first | with_reducible rfl | (apply And.intro <;> rfl)))
    simp only [Act.put, List.setIfInBounds_toArray, List.set_cons_zero, List.set_cons_succ]
    refine run_at (i := 36) (v := ?_) rfl (by kernel_rfl) (by rfl) (fun _ _ _ h => h) hHeld (fun w1 hw1 => ?_) ?_
    rotate_left 1
    · skip
      go_simp
      (try (first | with_reducible rfl | (apply And.intro <;> rfl)))
    simp only [Act.put, List.setIfInBounds_toArray, List.set_cons_zero, List.set_cons_succ]
    refine run_at (i := 38) (v := ?_) rfl (by kernel_rfl) (by rfl) (fun _ _ _ h => h) hHeld (fun w1 hw1 => ?_) ?_
    rotate_left 1
    · skip
      go_simp
      (try (first | with_reducible rfl | (apply And.intro <;> rfl)))
    simp only [Act.put, List.setIfInBounds_toArray, List.set_cons_zero, List.set_cons_succ]
    refine run_at (i := 39) (v := ?_) rfl (by kernel_rfl) (by rfl) (fun _ _ _ h => h) hHeld (fun w1 hw1 => ?_) ?_
    rotate_left 1
    · skip
      go_simp
      (try (first | with_reducible rfl | (apply And.intro <;> rfl)))
    simp only [Act.put, List.setIfInBounds_toArray, List.set_cons_zero, List.set_cons_succ]
    refine run_at (i := 40) (v := ?_) rfl (by kernel_rfl) (by rfl) (fun _ _ _ h => h) hHeld (fun w1 hw1 => ?_) ?_
    rotate_left 1
    · skip
      go_simp
      (try (first | with_reducible rfl | (apply And.intro <;> rfl)))
    simp only [Act.put, List.setIfInBounds_toArray, List.set_cons_zero, List.set_cons_succ]
    refine run_at (i := 41) (v := ?_) rfl (by kernel_rfl) (by rfl) (fun _ _ _ h => h) hHeld (fun w1 hw1 => ?_) ?_
    rotate_left 1
    · skip
      have hcw0 := hw1.cell (hl2) (by first | (simp; done) | exact HNS.out | exact HNW.out | (intro hm; have hlt := HSB.out _ hm; (try dsimp only at hlt); omega))
      go_simp
      (try (first | with_reducible rfl | (apply And.intro <;> rfl)))
    simp only [Act.put, List.setIfInBounds_toArray, List.set_cons_zero, List.set_cons_succ]
    refine run_at (i := 42) (v := ?_) rfl (by kernel_rfl) (by rfl) (fun _ _ _ h => h) hHeld (fun w1 hw1 => ?_) ?_
    rotate_left 1
    · skip
      go_simp
      (try (first | with_reducible rfl | (apply And.intro <;> rfl)))
    simp only [Act.put, List.setIfInBounds_toArray, List.set_cons_zero, List.set_cons_succ]
    refine call_at (i := 37) (f := ?_) (args := ?_) rfl (by kernel_rfl) (by rfl) ?_ ?_
    rotate_left 2
    · go_simp
      (try (first | with_reducible rfl | (apply And.intro <;> rfl)))
    refine (left_any _ g2 F2 R2 b2 (HR2.out.keep hHeld (by simp)).rs.rd).mono ?_
    rintro e_ wz ⟨rfl, rfl⟩
    refine ⟨_, rfl, hHeld, fun hHeld => ?_⟩
    simp only [Act.put, List.setIfInBounds_toArray, List.set_cons_zero, List.set_cons_succ]
    refine run_at (i := 43) (v := ?_) rfl (by kernel_rfl) (by rfl) (fun _ _ _ h => h) hHeld (fun w1 hw1 => ?_) ?_
    rotate_left 1
    · skip
      go_simp
      (try (first | with_reducible rfl | (apply And.intro <;> rfl)))
    simp only [Act.put, List.setIfInBounds_toArray, List.set_cons_zero, List.set_cons_succ]
    refine run_at (i := 44) (v := ?_) rfl (by kernel_rfl) (by rfl) (fun _ _ _ h => h) hHeld (fun w1 hw1 => ?_) ?_
    rotate_left 1
    · skip
      go_simp
      (try (first | with_reducible rfl | (apply And.intro <;> rfl)))
    simp only [Act.put, List.setIfInBounds_toArray, List.set_cons_zero, List.set_cons_succ]
    refine run_at (i := 45) (v := ?_) rfl (by kernel_rfl) (by rfl) (fun _ _ _ h => h) hHeld (fun w1 hw1 => ?_) ?_
    rotate_left 1
    · skip
      go_simp
      (try (first | with_reducible rfl | (apply And.intro <;> rfl)))
    simp only [Act.put, List.setIfInBounds_toArray, List.set_cons_zero, List.set_cons_succ]
    refine run_at (i := 46) (v := ?_) rfl (by kernel_rfl) (by rfl) (fun _ _ _ h => h) hHeld (fun w1 hw1 => ?_) ?_
    rotate_left 1
    · skip
      go_simp
      (try (first | with_reducible rfl | (apply And.intro <;> rfl)))
    simp only [Act.put, List.setIfInBounds_toArray, List.set_cons_zero, List.set_cons_succ]
    refine run_at (i := 48) (v := ?_) rfl (by kernel_rfl) (by rfl) (fun _ _ _ h => h) hHeld (fun w1 hw1 => ?_) ?_
    rotate_left 1
    · skip
      go_simp
      (try (first | with_reducible rfl | (apply And.intro <;> rfl)))
    simp only [Act.put, List.setIfInBounds_toArray, List.set_cons_zero, List.set_cons_succ]
    refine run_at (i := 49) (v := ?_) rfl (by kernel_rfl) (by rfl) (fun _ _ _ h => h) hHeld (fun w1 hw1 => ?_) ?_
    rotate_left 1
    · skip
      go_simp
      (try (first | with_reducible rfl | (apply And.intro <;> rfl)))
    simp only [Act.put, List.setIfInBounds_toArray, List.set_cons_zero, List.set_cons_succ]
    refine run_at (i := 50) (v := ?_) rfl (by kernel_rfl) (by rfl) (fun _ _ _ h => h) hHeld (fun w1 hw1 => ?_) ?_
    rotate_left 1
    · skip
      go_simp
      (try (first | with_reducible rfl | (apply And.intro <;> rfl)))
    simp only [Act.put, List.setIfInBounds_toArray, List.set_cons_zero, List.set_cons_succ]
    refine run_at (i := 51) (v := ?_) rfl (by kernel_rfl) (by rfl) (fun _ _ _ h => h) hHeld (fun w1 hw1 => ?_) ?_
    rotate_left 1
    · skip
      have hcw0 := hw1.cell (hl3) (by first | (simp; done) | exact HNS.out | exact HNW.out | (intro hm; have hlt := HSB.out _ hm; (try dsimp only at hlt); omega))
      go_simp
      (try (first | with_reducible rfl | (apply And.intro <;> rfl)))
    simp only [Act.put, List.setIfInBounds_toArray, List.set_cons_zero, List.set_cons_succ]
    refine run_at (i := 52) (v := ?_) rfl (by kernel_rfl) (by rfl) (fun _ _ _ h => h) hHeld (fun w1 hw1 => ?_) ?_
    rotate_left 1
    · skip
      go_simp
      (try (first | with_reducible rfl | (apply And.intro <;> rfl)))
    simp only [Act.put, List.setIfInBounds_toArray, List.set_cons_zero, List.set_cons_succ]
    refine call_at (i := 47) (f := ?_) (args := ?_) rfl (by kernel_rfl) (by rfl) ?_ ?_
    rotate_left 2
    · go_simp
      (try (first | with_reducible rfl | (apply And.intro <;> rfl)))
    refine (left_any _ g3 F3 R3 b3 (HR3.out.keep hHeld (by simp)).rs.rd).mono ?_
    rintro e_ wz ⟨rfl, rfl⟩
    refine ⟨_, rfl, hHeld, fun hHeld => ?_⟩
    simp only [Act.put, List.setIfInBounds_toArray, List.set_cons_zero, List.set_cons_succ]
    refine run_at (i := 53) (v := ?_) rfl (by kernel_rfl) (by rfl) (fun _ _ _ h => h) hHeld (fun w1 hw1 => ?_) ?_
    rotate_left 1
    · skip
      go_simp
      (try (first | with_reducible rfl | (apply And.intro <;> rfl)))
    simp only [Act.put, List.setIfInBounds_toArray, List.set_cons_zero, List.set_cons_succ]
    refine run_at (i := 54) (v := ?_) rfl (by kernel_rfl) (by rfl) (fun _ _ _ h => h) hHeld (fun w1 hw1 => ?_) ?_
    rotate_left 1
    · skip
      go_simp
      (try (first | with_reducible rfl | (apply And.intro <;> rfl)))
    simp only [Act.put, List.setIfInBounds_toArray, List.set_cons_zero, List.set_cons_succ]
    refine run_at (i := 55) (v := ?_) rfl (by kernel_rfl) (by rfl) (fun _ _ _ h => h) hHeld (fun w1 hw1 => ?_) ?_
    rotate_left 1
    · skip
      go_simp
      (try (first | with_reducible rfl | (apply And.intro <;> rfl)))
    simp only [Act.put, List.setIfInBounds_toArray, List.set_cons_zero, List.set_cons_succ]
    refine call_at (i := 56) (f := ?_) (args := ?_) rfl (by kernel_rfl) (by rfl) ?_ ?_
    rotate_left 2
    · go_simp
      (try (first | with_reducible rfl | (apply And.intro <;> rfl)))
    refine (wwakes_any _).mono ?_
    rintro e_ wz ⟨rfl, hfz⟩
    refine ⟨_, rfl, hHeld.trans hfz (by simp), fun hHeld => ?_⟩
    simp only [Act.put, List.setIfInBounds_toArray, List.set_cons_zero, List.set_cons_succ]
    clear hfz
    refine run_at (i := 57) (v := ?_) rfl (by kernel_rfl) (by rfl) (fun _ _ _ h => h) hHeld (fun w1 hw1 => ?_) ?_
    rotate_left 1
    · skip
      go_simp
      (try (first | with_reducible rfl | (apply And.intro <;> rfl)))
    simp only [Act.put, List.setIfInBounds_toArray, List.set_cons_zero, List.set_cons_succ]
    refine run_at (i := 58) (v := ?_) rfl (by kernel_rfl) (by rfl) (fun _ _ _ h => h) hHeld (fun w1 hw1 => ?_) ?_
    rotate_left 1
    · skip
      go_simp
      (try (first | with_reducible rfl | (apply And.intro <;> rfl)))
    simp only [Act.put, List.setIfInBounds_toArray, List.set_cons_zero, List.set_cons_succ]
    refine wpAnyH_done (by kernel_rfl) ?_ _
    have HFIN := Lib.hid (HFX.out.and hHeld (by simp))
    clear hHeld hx1 hx2 hx3 hl1 hl2 hl3 hd1 hd2 hd3
    go_wp2
    all_goals
      go_ret
      exact ⟨rfl, HFIN.out⟩
end Go.Proofs.Ytkofmefnlppoaaa
