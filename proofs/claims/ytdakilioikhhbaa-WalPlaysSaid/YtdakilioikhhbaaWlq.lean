/- WalPlays: the walk. -/
import Derived.Test.YtdakilioikhhbaaRfd3
import Derived.Test.YtdakilioikhhbaaCopyF
namespace Go.Proofs.Ytdakilioikhhbaa
set_option maxRecDepth 100000
open Go.RowKit

/-- a log with the document's beside it -/
structure LQ (w wr : World) (T : List Nat) (g gd gr vr : Nat) (d : Dsk) (L nx : List (List UInt8)) (k : Nat) : Prop where
  log : Log wr T g gd d L
  ref : RL wr T gr vr d L
  j : Jl d L nx
  t : ∀ x ∈ T, w.heap.size ≤ x
  rn : w.heap.size ≤ gr ∧ w.heap.size ≤ vr
  sh : (rowsB L).length ≤ 60 + 160 * k ∧ (∀ b ∈ nx, b.length ≤ 150) ∧ k ≤ 20
  fr : Fr [] w wr
section
variable {w wr w' : World} {T : List Nat} {g gd gr vr : Nat} {d : Dsk} {L nx : List (List UInt8)} {k : Nat}
theorem LQ.keep (h : LQ w wr T g gd gr vr d L nx k) (hf : Fr [] wr w') : LQ w w' T g gd gr vr d L nx k :=
  ⟨h.log.keep hf (by simp), h.ref.keep hf (by simp) (fun _ hx _ => hx), h.j, h.t, h.rn, h.sh, h.fr.and hf (by simp)⟩
theorem LQ.lens (h : LQ w wr T g gd gr vr d L nx k) : (rowsB L).length ≤ 3300 ∧ d.row.length ≤ 3500 ∧ L.length ≤ 3300 := by
  have h1 := h.sh
  have h2 := h.j.len h.sh.2.1 (by omega)
  have h3 := rowsB_count L
  omega
theorem LQ.dok (h : LQ w wr T g gd gr vr d L nx k) : DOk d := h.j.dok (by have := h.lens; omega)
theorem RL.apart (h : RL wr T gr vr d L) : ∀ x ∈ T, ¬ x ∈ [gr, vr] := by
  intro x hx hm
  simp at hm
  obtain ⟨h1, _, _, _, _, _, _, hv⟩ := h
  rcases hm with rfl | rfl
  · exact h1.ne (by simp [hx])
  · exact hv hx
theorem RL.less {U U' : List Nat} (h : RL wr U gr vr d L) (hU : ∀ x ∈ U', x ∈ U) : RL wr U' gr vr d L := h.keep (S := []) (Fr.refl _ _) (by simp) (fun x hx _ => hU x hx)
theorem RL.cells (h : RL wr T gr vr d L) : (∃ A c, wr.cell? ⟨vr, 1, none⟩ = some (.slice A L.length c) ∧ ∃ rs, GL wr [] A L.length rs ∧ rs.map (·.b) = L) ∧
    ∃ A c, wr.cell? ⟨gr, 0, none⟩ = some (.slice A d.row.length c) ∧ wr.cell? ⟨gr, 1, none⟩ = some (.int .i64 d.syn) ∧ wr.cell? ⟨gr, 2, none⟩ = some (.bool d.dead) ∧ By wr A d.row.length d.row := by
  obtain ⟨⟨A, c, f, h1, _⟩, A2, c2, rs, hb, hg, hr, _⟩ := h
  obtain ⟨h0, h1', h2, _, _⟩ := h1.cells
  exact ⟨⟨A2, c2, by rw [hb.cell 1]; rfl, rs, hg.less (by simp), hr⟩, A, c, h0, h1', h2, h1.by_⟩
end

set_option maxHeartbeats 20000000 in
theorem walPlays_walk (w : World) (B : Option Addr) (m cB : Nat) (lb : List UInt8) (hB : By w B m lb) (hm : m ≤ cB) (hcB : cB ≤ maxLen) (A : Option Addr) (n c : Nat) (l : List Act8V) (hA : Acts8 w A n l) (hn : n ≤ c) (hc : c ≤ maxLen) :
    Calls Try.prog 4 #[.slice B m cB, .slice A n c] w fun e w' => e = .returned (.bool true) ∧ Fr [] w w' := by
  have HA := Lib.hid hA
  have HB := Lib.hid hB
  have HM := Lib.hid (And.intro hm hcB)
  have hn1 : (n : Int) ≤ 9223372036854775807 := by unfold maxLen at hc; omega
  clear hA hn hc hB hm hcB
  go_enter Try.func4, Try.ntmps4
  go_wp2_with fail
  refine (dnew_any w).mono ?_
  rintro e w1 ⟨rfl, hd1, hf1⟩
  have HD1 : Hid (Dok w1 [w.heap.size] w.heap.size (cs [] 0)) := Lib.hid hd1
  have HF1 := Lib.hid hf1
  have HG1 : Hid (w.heap.size < w1.heap.size) := Lib.hid (hd1.lt _ hd1.mem)
  clear hd1 hf1
  generalize hg : w.heap.size = gd at *
  have HG := Lib.hid hg
  clear hg
  go_wp2_with fail
  have hbr : Blk (w1.alloc (Obj.cells #[.slice none 0 0, .int .i64 0, .bool false, .bool false, .int .i64 0] 41)) w1.heap.size 41 #[.slice none 0 0, .int .i64 0, .bool false, .bool false, .int .i64 0] := Blk.new _ _ _
  have hf2 : Fr [] w1 (w1.alloc (Obj.cells #[.slice none 0 0, .int .i64 0, .bool false, .bool false, .int .i64 0] 41)) := (Fr.refl [] w1).alloc _
  have HBR := Lib.hid hbr
  have HF2 := Lib.hid hf2
  have HD2 := Lib.hid (HD1.out.keep hf2 (by simp))
  clear hbr hf2
  generalize w1.alloc (Obj.cells #[.slice none 0 0, .int .i64 0, .bool false, .bool false, .int .i64 0] 41) = w2 at *
  generalize hgr : w1.heap.size = gr at *
  have HGR := Lib.hid hgr
  clear hgr
  rw [show (60 : Int) = ((60 : Nat) : Int) from rfl]
  refine (cut_any B m cB 60 lb w2 ((HB.out.keep HF1.out (by simp)).keep HF2.out (by simp)) (Nat.le_trans HM.out.1 HM.out.2) HM.out.1 (by omega)).mono ?_
  rintro e w3 ⟨A3, c3, rfl, hN3⟩
  have h60 : (lb.take 60).length ≤ 60 := List.length_take_le _ _
  generalize lb.take 60 = fb at *
  have H60 := Lib.hid h60
  have HN3 := Lib.hid hN3
  have HF3 : Hid (Fr [] w w3) := Lib.hid ((HF1.out.and HF2.out (by simp)).and hN3.2.1 (by simp))
  have HLG : Hid (gd < gr ∧ gr < w2.heap.size ∧ w2.heap.size ≤ w3.heap.size) := Lib.hid ⟨by have := HG1.out; omega, HBR.out.lt, hN3.2.1.size⟩
  clear hN3 h60
  go_wp2_with fail
  refine (dput_any w3 [gd] gd (cs [] 0) (HD2.out.keep HN3.out.2.1 (by simp)) (cs_ok (Nat.le_refl _) (by simp)) A3 _ c3 fb HN3.out.by (fun x hx e => by have h1 := HN3.out.2.2 x hx; have h2 := HLG.out; omega) (by have := H60.out; simp [cs]; omega)).mono ?_
  rintro e w4 ⟨rfl, SD, hd4, hf4, hs4⟩
  have HD4 : Hid (Dok w4 SD gd (cs fb 0)) := Lib.hid hd4
  have HF4 := Lib.hid hf4
  have HSD : Hid (∀ x ∈ SD, ¬ x = gr ∧ (x = gd ∨ w3.heap.size ≤ x)) := Lib.hid (fun x hx => by
    have h2 := HLG.out
    by_cases hl : x < w3.heap.size
    · have := hs4 x hx hl; simp at this; exact ⟨by omega, .inl this⟩
    · exact ⟨by omega, .inr (by omega)⟩)
  have HRD4 : Hid (RD w4 (SD ++ bk A3) gr (cs [] 0)) := Lib.hid ⟨none, 0, 0, ⟨(HBR.out.keep HN3.out.2.1 (by simp)).keep hf4 (by simp; have := HLG.out; omega), By.nil _ _, Nat.le_refl _, by simp [bk], fun h => by cases h⟩, by
    intro x hx hm
    simp [bk] at hx
    subst hx
    rcases List.mem_append.1 hm with hm | hm
    · exact (HSD.out _ hm).1 rfl
    · have h1 := HN3.out.2.2 _ hm; have h2 := HLG.out; omega⟩
  have HY4 := Lib.hid (HN3.out.by.keep hf4 (fun a ha hm => by have h1 := HN3.out.2.2 a.block (by simp [bk, ha]); have h2 := HLG.out; simp at hm; omega))
  have HA4 : Hid (∀ x ∈ bk A3, x < w4.heap.size ∧ ¬ x = gr ∧ ¬ x = gd) := Lib.hid (fun x hx => by have h1 := HN3.out.lt x hx; have h2 := hf4.size; have h3 := HN3.out.2.2 x hx; have h4 := HLG.out; omega)
  clear hd4 hf4 hs4 HBR HD2 HD1
  go_wp2_with fail
  refine (rput_any w4 (SD ++ bk A3) gr (cs [] 0) HRD4.out (fun x hx => by
    rcases List.mem_append.1 hx with hx | hx
    · exact HD4.out.lt x hx
    · exact (HA4.out x hx).1) (by simp [cs]) A3 _ c3 fb HY4.out (fun x hx => (HA4.out x hx).2.1) (by have := H60.out; simp [cs]; omega)).mono ?_
  rintro e w5 ⟨rfl, hr5, hf5⟩
  have HR5 : Hid (RD w5 SD gr (cs fb 0)) := Lib.hid (RD.less hr5 (by intro x hx; simp [hx]))
  have HD5 := Lib.hid (HD4.out.keep hf5 (fun x hx hm => (HSD.out x hx).1 (by simpa using hm)))
  have HF5 : Hid (Fr [] w w5) := Lib.hid ((HF3.out.trans HF4.out (by intro x hx hl; simp at hx; have := HG.out; omega)).trans hf5 (by intro x hx hl; simp at hx; have := HG.out; have := HLG.out; omega))
  have HW5 : Hid (w3.heap.size ≤ w5.heap.size) := Lib.hid (Nat.le_trans HF4.out.size hf5.size)
  clear hr5 hf5
  obtain ⟨L, U, hsp⟩ := split_ex fb.length fb (Nat.le_refl _)
  have hfe := hsp.eq
  have HSP : Hid (Split (rowsB L ++ U) L U) := Lib.hid (by rw [← hfe]; exact hsp)
  rw [hfe] at HD5 HR5 H60
  have HLL : Hid ((rowsB L ++ U).length = (rowsB L).length + U.length) := Lib.hid List.length_append
  clear hsp hfe
  go_wp2_with fail
  refine (wopen_any w5 SD gd _ HD5.out (cs_ok (Nat.zero_le _) (by have := H60.out; omega)) rfl L U HSP.out).mono ?_
  rintro e w6 h6
  rcases h6 with ⟨h6, _⟩ | ⟨_, g6, S6, rfl, hl6, hf6, hs6⟩
  · rw [(cs_settleD L U 0 (Nat.zero_le _)).1] at h6; cases h6
  rw [(cs_settleD L U 0 (Nat.zero_le _)).2] at hl6
  have HL6 := Lib.hid hl6
  have HF6 := Lib.hid hf6
  have HR6 : Hid (RD w6 (SD ++ S6) gr (cs (rowsB L ++ U) 0)) := Lib.hid (HR5.out.keep hf6 (fun x hx => by simp at hx; subst hx; exact HD5.out.mem) (fun x hx hl => by
    rcases List.mem_append.1 hx with hx | hx
    · exact hx
    · have := hs6 x hx; omega))
  have HT6 : Hid (∀ x ∈ SD ++ S6, w.heap.size ≤ x ∧ ¬ x = gr) := Lib.hid (fun x hx => by
    have h0 := HG.out
    have h1 := HLG.out
    rcases List.mem_append.1 hx with hx | hx
    · have h2 := HSD.out x hx
      omega
    · have h2 := hs6 x hx
      have h3 := HW5.out
      omega)
  have HFw6 : Hid (Fr [] w w6) := Lib.hid (HF5.out.trans hf6 (by intro x hx hl; simp at hx; have := HG.out; omega))
  clear hl6 hf6 hs6
  generalize SD ++ S6 = T0 at *
  go_wp2_with fail
  refine (ropen_any w6 T0 gr 0 L U HSP.out HR6.out HL6.out.lt (Nat.zero_le _) (by have := H60.out; omega)).mono ?_
  rintro e w7 ⟨v0, rfl, hv7, hr7, hf7⟩
  have HLQ0 : Hid (LQ w w7 T0 g6 gd gr v0 (cl L) L [] 0) := Lib.hid ⟨HL6.out.keep hf7 (fun x hx hm => (HT6.out x hx).2 (by simpa using hm)), hr7, Jl.cl L, fun x hx => (HT6.out x hx).1, ⟨by have := HG.out; have := HLG.out; omega, Nat.le_trans HFw6.out.size hv7⟩, ⟨by have := H60.out; have := HLL.out; omega, by simp, by omega⟩, HFw6.out.trans hf7 (by intro x hx hl; simp at hx; have := HG.out; have := HLG.out; omega)⟩
  clear hv7 hr7 hf7 HR6 HL6 HFw6 HT6 HF6 HR5 HD5 HF5 HW5 HRD4 HY4 HA4 HSD HD4 HF4 HF3 HN3 HLG HF1 HF2
  go_wp2_with fail
  go_loopw [7, 9, 11] (fun s7 s9 i wr => ∃ (k : Nat) (T : List Nat) (g vr : Nat) (d : Dsk) (L nx : List (List UInt8)), k ≤ n ∧ k ≤ 20 ∧ i = .int .i64 k ∧ s7 = .pointer (some ⟨g, 0, none⟩) ∧ s9 = .pointer (some ⟨vr, 0, none⟩) ∧ Hid (LQ w wr T g gd gr vr d L nx k)) (fun _ _ i _ => 20 - (intOf i).toNat)
  case atStart => exact ⟨0, T0, g6, v0, cl L, L, [], by omega, by omega, rfl, rfl, rfl, HLQ0⟩
  case round =>
    obtain ⟨k, T, g, vr, d, L1, nx, hk, hk20, rfl, rfl, rfl, HLQ⟩ := hrel
    clear HLQ0 HSP HLL H60
    by_cases hlt : k < n ∧ k < 20
    · obtain ⟨hkn, hk2⟩ := hlt
      obtain ⟨ad, v, rfl, hgv, hok, hcells⟩ := HA.out.at HLQ.out.fr.below_all hkn
      have HOK := Lib.hid hok
      have HCELLS := Lib.hid hcells
      have hk0 : (0 : Int) ≤ k := by omega
      clear hgv hok hcells
      go_wp2_with (first
        | (refine wpList_load_cells rfl 46 _ rfl (ad.add (k * 3)) rfl v.cells _ (fun j x hx => by rw [add_add]; exact HCELLS.out j x hx) Try.underlying46 rfl (by rw [act8_size]; rfl) ?_)
        | (refine wpList_store_box rfl 46 _ _ rfl _ 46 v.cells rfl rfl (by rw [act8_size]; rfl) rfl v.one ?_
           intro wb hblk hfb
           obtain ⟨hc0, hc1, hc2⟩ := Act8V.in_blk hblk
           have HBLK := Lib.hid hblk
           have HFB := Lib.hid hfb
           have HOKB := Lib.hid (HOK.out.keep hfb (by simp))
           clear hblk hfb))
      rw [show (150 : Int) = ((150 : Nat) : Int) from rfl]
      refine (cut_any v.A v.m v.c 150 v.b wb HOKB.out.b (Nat.le_trans HOKB.out.m HOKB.out.c) HOKB.out.m (by omega)).mono ?_
      rintro e w4 ⟨A4, c4, rfl, hN4⟩
      have hb150 : (v.b.take 150).length ≤ 150 := List.length_take_le _ _
      generalize v.b.take 150 = b at *
      have H150 := Lib.hid hb150
      have hblk4 := HBLK.out.keep hN4.2.1 (by simp)
      have hc24 := hblk4.cell 2
      have hz24 := hblk4.frozen 2
      simp [Act8V.cells] at hc24
      have hblk5 : Blk (w4.setCell ⟨wr.heap.size, 2, none⟩ (.slice A4 b.length c4)) wr.heap.size 46 #[.int .i64 v.d, .int .i64 v.q, .slice A4 b.length c4] := hblk4.set 2 _
      have HBX := Lib.hid hblk5
      have hne5 : (Value.slice A4 b.length c4).ownBlock ≠ some wr.heap.size := own_ne hN4.1 hblk4 (by decide)
      have HA5 : Hid ((w4.setCell ⟨wr.heap.size, 2, none⟩ (.slice A4 b.length c4)).ownsRow 0 5 1 (.slice A4 b.length c4) b.length (b.map by8)) := Lib.hid (own_setCell hN4.1 ⟨wr.heap.size, 2, none⟩ hne5 _)
      have hfw5 : Fr [] wr (w4.setCell ⟨wr.heap.size, 2, none⟩ (.slice A4 b.length c4)) := (HFB.out.and hN4.2.1 (by simp)).setCell _ (fun h => by simp at h) _
      have HAN : Hid (∀ x ∈ bk A4, wr.heap.size < x) := Lib.hid (fun x hx => by
        have h1 := hN4.2.2 x hx
        have h2 := HFB.out.size
        have h3 := HBLK.out.lt
        omega)
      have HL5 := Lib.hid (HLQ.out.keep hfw5)
      have HFW5 := Lib.hid hfw5
      have HTlt := Lib.hid HLQ.out.log.lt
      have HGlt : Hid (gr < wr.heap.size ∧ vr < wr.heap.size) := Lib.hid ⟨HLQ.out.ref.1.lt, by obtain ⟨_, _, _, _, hb, _⟩ := HLQ.out.ref; exact hb.lt⟩
      have HRX : Hid (RL (w4.setCell ⟨wr.heap.size, 2, none⟩ (.slice A4 b.length c4)) (T ++ bk A4) gr vr d L1) := Lib.hid (HLQ.out.ref.keep (S := []) hfw5 (by simp) (fun x hx hl => by
        rcases List.mem_append.1 hx with hx | hx
        · exact hx
        · have := HAN.out x hx; omega))
      have hc05 := hblk5.cell 0
      simp at hc05
      clear hN4 hb150 hc0 hc1 hc2 hblk5 hne5 hfw5 hblk4 HBLK HFB
      go_wp2_with fail
      refine (within_pos v.d 7 HOKB.out.d.1 HOKB.out.d.2 (by omega) (by omega) _).mono ?_
      rintro e wx ⟨rfl, rfl⟩
      have HVD := Lib.hid (And.intro HOKB.out.q.1 HOKB.out.q.2)
      clear hc05 hc24 hz24 HOKB HOK HCELLS
      generalize w4.setCell ⟨wr.heap.size, 2, none⟩ (.slice A4 b.length c4) = w5 at *
      have HGB : Hid (wr.heap.size < w5.heap.size) := Lib.hid HBX.out.lt
      generalize hgb : wr.heap.size = gb at *
      have HGBE := Lib.hid hgb
      clear hgb
      go_upto_block 2 with (fail)
      go_cut [7, 9] (fun s7 s9 wx => ∃ (T : List Nat) (g vr : Nat) (d : Dsk) (L nx : List (List UInt8)), s7 = .pointer (some ⟨g, 0, none⟩) ∧ s9 = .pointer (some ⟨vr, 0, none⟩) ∧ Hid (LQ w wx T g gd gr vr d L nx (k + 1)))
      case first =>
        obtain hq | hq | hq : v.d % 7 = 4 ∨ (v.d % 7 = 5 ∨ v.d % 7 = 6) ∨ ¬ (v.d % 7 = 4 ∨ v.d % 7 = 5 ∨ v.d % 7 = 6) := by omega
        · have hq4 : (v.d % 7 == 4) = true := by simp; omega
          have hcb := HBX.out.cell 1
          simp at hcb
          clear hq
          go_wp2_with fail
          refine (within_pos v.q 5 HVD.out.1 HVD.out.2 (by omega) (by omega) _).mono ?_
          rintro e wx ⟨rfl, rfl⟩
          clear hcb
          obtain ⟨q, hq, hqz⟩ : ∃ q : Nat, v.q % 5 = (q : Int) ∧ q ≤ 4 := by
            have h1 : 0 ≤ v.q % 5 := Int.emod_nonneg _ (by omega)
            have h2 : v.q % 5 < 5 := Int.emod_lt_of_pos _ (by omega)
            exact ⟨(v.q % 5).toNat, by omega, by omega⟩
          rw [hq]
          clear hq
          obtain ⟨SD, hdk, hgT, _, hto⟩ := HL5.out.log.fuse
          have HDK := Lib.hid hdk
          have HTO := Lib.hid hto
          have HGT := Lib.hid hgT
          clear hdk hto hgT
          go_wp2_with fail
          refine (dfuse_any w5 SD gd d HDK.out q).mono ?_
          rintro e w6 ⟨rfl, hd6, hf6⟩
          have HLG6 := Lib.hid (HTO.out _ _ hd6 hf6)
          have HR6 := Lib.hid (HL5.out.ref.keep (U' := T) hf6 (fun x hx => by simp at hx; subst hx; exact HGT.out) (fun _ hx _ => hx))
          have HF6 := Lib.hid hf6
          clear hd6 hf6
          go_wp2_with fail
          refine (rfuse_any w6 (vr :: T) gr d HR6.out.1 q).mono ?_
          rintro e w7 ⟨rfl, hr7, hf7⟩
          have HR : Hid (LQ w w7 T g gd gr vr { d with fused := true, left := q } L1 nx (k + 1)) := Lib.hid ⟨HLG6.out.keep hf7 (fun x hx hm => HL5.out.ref.apart x hx (by simp at hm; simp [hm])), HR6.out.disk hr7 hf7, HL5.out.j.fuse q (by omega), HL5.out.t, HL5.out.rn, by have := HL5.out.sh; exact ⟨by omega, this.2.1, by omega⟩,
            (HL5.out.fr.trans HF6.out (fun x hx hl => by simp at hx; subst hx; have := HL5.out.t _ HGT.out; omega)).trans hf7 (fun x hx hl => by simp at hx; subst hx; have := HL5.out.rn; omega)⟩
          clear hr7 hf7
          go_wp2_with fail
          go_meet
          exact ⟨T, g, vr, _, L1, nx, rfl, rfl, HR⟩
        · have hq4 : (v.d % 7 == 4) = false := by simp; omega
          have hq56 : (v.d % 7 == 5) = true ∨ ((v.d % 7 == 5) = false ∧ (v.d % 7 == 6) = true) := by rcases hq with h | h <;> simp [h]
          have hcb := HBX.out.cell 1
          simp at hcb
          obtain ⟨SD, hdk, hgT, hsT, hto⟩ := HL5.out.log.fuse
          have HDK := Lib.hid hdk
          have HGT := Lib.hid hgT
          have HST := Lib.hid hsT
          clear hdk hto hgT hsT hq
          go_upto_if 90 with (fail)
          go_cut [90] (fun s90 wx => s90 = .bool true ∧ w5 = wx)
          case first =>
            rcases hq56 with hq5 | ⟨hq5, hq6⟩
            all_goals
              go_wp2_with fail
              all_goals
                go_meet
                exact ⟨by first | rfl | exact congrArg Value.bool hq5 | exact congrArg Value.bool hq6, rfl⟩
          case rest =>
            obtain ⟨rfl, rfl⟩ := hcut
            go_wp2_with fail
            refine (dcrash_any w5 SD gd d HDK.out HL5.out.dok v.q HVD.out).mono ?_
            rintro e w6 ⟨rfl, hd6, hf6⟩
            have hcb6 := hf6.cell hcb (by simp; intro e; have h1 := HTlt.out _ HGT.out; have h2 := HGBE.out; omega)
            have HD6 := Lib.hid hd6
            have HF6 := Lib.hid hf6
            have HR6 := Lib.hid (HL5.out.ref.keep (U' := T) hf6 (fun x hx => by simp at hx; subst hx; exact HGT.out) (fun _ hx _ => hx))
            clear hd6 hf6 hcb
            go_wp2_with fail
            refine (rcrash_any w6 (vr :: T) gr d HR6.out.1 HL5.out.dok v.q HVD.out).mono ?_
            rintro e w7 ⟨rfl, hr7, hf7⟩
            obtain ⟨L', T', hcr, hsp, htl, hL'⟩ := HL5.out.j.crash HL5.out.log.short (fun b hb => by have := HL5.out.sh.2.1 b hb; omega) v.q
            rw [hcr] at hr7 HD6
            have HSP := Lib.hid hsp
            have HTL := Lib.hid htl
            have HLL : Hid ((rowsB L').length ≤ 60 + 160 * (k + 1)) := Lib.hid (by
              have h0 := HL5.out.sh
              rcases hL' with rfl | ⟨b0, q0, hq0, rfl⟩
              · omega
              · have h1 := h0.2.1 b0 (by rw [hq0]; simp)
                have h2 := rowB_len b0 (by omega)
                rw [rowsB_snoc, List.length_append]
                omega)
            have HR7 := Lib.hid (RD.less hr7 (U' := T) (by intro x hx; simp [hx]))
            have HD7 := Lib.hid (HD6.out.keep hf7 (fun x hx hm => HL5.out.ref.apart x (HST.out x hx) (by simp at hm; simp [hm])))
            have HF7 := Lib.hid hf7
            have HLN : Hid ((rowsB L' ++ T').length = (rowsB L').length + T'.length) := Lib.hid List.length_append
            clear hcr hsp htl hr7 hf7 HD6 hcb6 hL'
            go_wp2_with fail
            refine (wopen_any w7 SD gd _ HD7.out (cs_ok (by rw [HLN.out]; omega) (by rw [HLN.out]; have := HLL.out; have := HTL.out; omega)) rfl L' T' HSP.out).mono ?_
            rintro e w8 h8
            rcases h8 with ⟨h8, _⟩ | ⟨_, g8, S8, rfl, hl8, hf8, hs8⟩
            · rw [(cl_settle2 L' T').1] at h8; cases h8
            rw [(cl_settle2 L' T').2] at hl8
            have HL8 := Lib.hid hl8
            have HR8 : Hid (RD w8 (SD ++ S8) gr (cs (rowsB L' ++ T') ((rowsB L').length + T'.length))) := Lib.hid (HR7.out.keep hf8 (fun x hx => by simp at hx; subst hx; exact HGT.out) (fun x hx hl => by
              rcases List.mem_append.1 hx with hx | hx
              · exact HST.out x hx
              · have := hs8 x hx; omega))
            have HT8 : Hid (∀ x ∈ SD ++ S8, w.heap.size ≤ x) := Lib.hid (fun x hx => by
              rcases List.mem_append.1 hx with hx | hx
              · exact HL5.out.t x (HST.out x hx)
              · have h1 := hs8 x hx; have h2 := HL5.out.fr.size; have h3 := HF6.out.size; have h4 := HF7.out.size; omega)
            have HF8 : Hid (Fr [] w w8) := Lib.hid (((HL5.out.fr.trans HF6.out (fun x hx hl => by simp at hx; subst hx; have := HL5.out.t _ HGT.out; omega)).trans HF7.out (fun x hx hl => by simp at hx; subst hx; have := HL5.out.rn; omega)).trans hf8 (fun x hx hl => by simp at hx; subst hx; have := HL5.out.t _ HGT.out; omega))
            clear hl8 hf8 hs8 HD7 HR7
            generalize SD ++ S8 = T8 at *
            go_wp2_with fail
            refine (ropen_any w8 T8 gr _ L' T' HSP.out HR8.out HL8.out.lt (by rw [HLN.out]; omega) (by rw [HLN.out]; have := HLL.out; have := HTL.out; have := HL5.out.sh; omega)).mono ?_
            rintro e w9 ⟨v9, rfl, hv9, hr9, hf9⟩
            have HR : Hid (LQ w w9 T8 g8 gd gr v9 (cl L') L' [] (k + 1)) := Lib.hid ⟨HL8.out.keep hf9 (fun x hx hm => by simp at hm; subst hm; exact HR8.out.ne hx), hr9, Jl.cl L', HT8.out, ⟨HL5.out.rn.1, Nat.le_trans HF8.out.size hv9⟩, ⟨HLL.out, by simp, by have := HL5.out.sh; omega⟩, HF8.out.trans hf9 (fun x hx hl => by simp at hx; subst hx; have := HL5.out.rn; omega)⟩
            clear hv9 hr9 hf9
            go_wp2_with fail
            go_meet
            exact ⟨T8, g8, v9, cl L', L', [], rfl, rfl, HR⟩
        · have hq4 : (v.d % 7 == 4) = false := by simp; omega
          have hq5 : (v.d % 7 == 5) = false := by simp; omega
          have hq6 : (v.d % 7 == 6) = false := by simp; omega
          clear hq
          have hcb := HBX.out.cell 2
          simp at hcb
          go_wp2_with fail
          refine (copy_full A4 b.length c4 b w5 (By.of_own HA5.out) (by have := H150.out; omega)).mono ?_
          rintro e w6 ⟨A6, c6, s6, rfl, hfu, hf6, hA6, hm6⟩
          have HFU := Lib.hid hfu
          have HM6 := Lib.hid hm6
          have HA6 := Lib.hid hA6
          have HF6 := Lib.hid hf6
          have hcb6 := hf6.cell hcb (by simp)
          have HL6 := Lib.hid (HL5.out.keep hf6)
          have HRX6 : Hid (RL w6 (T ++ (bk A4 ++ bk A6)) gr vr d L1) := Lib.hid (HRX.out.keep (S := []) hf6 (by simp) (fun x hx hl => by
            rcases List.mem_append.1 hx with hx | hx
            · simp [hx]
            · rcases List.mem_append.1 hx with hx | hx
              · simp [hx]
              · have := hA6 x hx; omega))
          have HY6 : Hid (By w6 A4 b.length b) := Lib.hid ((By.of_own HA5.out).keep hf6 (by simp))
          have HA4l : Hid (∀ x ∈ bk A4, x < w6.heap.size ∧ gb < x) := Lib.hid (fun x hx => by have h1 := own_lt HA5.out x (by rw [bk_mem]; exact hx); have h2 := hf6.size; have h3 := HAN.out x hx; omega)
          have HTl6 : Hid (∀ x ∈ T, x < gb) := Lib.hid (fun x hx => by have h1 := HTlt.out x hx; have h2 := HGBE.out; omega)
          clear hfu hf6 hA6 hm6 hcb
          go_upto_region 18 with (fail)
          have HNW : Hid (¬ gb ∈ T ++ [gr, vr]) := Lib.hid (fun hm => by
            have h0 := HGlt.out
            have h1 := HGBE.out
            rcases List.mem_append.1 hm with hm | hm
            · have := HTl6.out _ hm; omega
            · simp at hm; omega)
          have hne : (errB (d.logB b) != errB (d.logB b)) = false := by simp
          refine wp_region_held_drew (S := Fr (T ++ [gr, vr]) w6) (by kernel_rfl) (Fr.drew (Fr.refl _ w6)) (fun hHeld => ?_)
          have HFD : Hid (Fr [] w6 w6.drew) := Lib.hid (Fr.drew (Fr.refl [] w6))
          generalize w6.drew = wd at *
          refine run_at (i := 0) (v := ?_) rfl (by kernel_rfl) (by rfl) (fun _ _ _ h => h) hHeld (fun w1 hw1 => ?_) ?_
          rotate_left 1
          · skip
            go_simp
            (try (first | with_reducible rfl | (apply And.intro <;> rfl)))
          simp only [Act.put, List.setIfInBounds_toArray, List.set_cons_zero, List.set_cons_succ]
          refine run_at (i := 1) (v := ?_) rfl (by kernel_rfl) (by rfl) (fun _ _ _ h => h) hHeld (fun w1 hw1 => ?_) ?_
          rotate_left 1
          · skip
            go_simp
            (try (first | with_reducible rfl | (apply And.intro <;> rfl)))
          simp only [Act.put, List.setIfInBounds_toArray, List.set_cons_zero, List.set_cons_succ]
          refine run_at (i := 3) (v := ?_) rfl (by kernel_rfl) (by rfl) (fun _ _ _ h => h) hHeld (fun w1 hw1 => ?_) ?_
          rotate_left 1
          · skip
            go_simp
            (try (first | with_reducible rfl | (apply And.intro <;> rfl)))
          simp only [Act.put, List.setIfInBounds_toArray, List.set_cons_zero, List.set_cons_succ]
          refine run_at (i := 4) (v := ?_) rfl (by kernel_rfl) (by rfl) (fun _ _ _ h => h) hHeld (fun w1 hw1 => ?_) ?_
          rotate_left 1
          · skip
            go_simp
            (try (first | with_reducible rfl | (apply And.intro <;> rfl)))
          simp only [Act.put, List.setIfInBounds_toArray, List.set_cons_zero, List.set_cons_succ]
          refine run_at (i := 5) (v := ?_) rfl (by kernel_rfl) (by rfl) (fun _ _ _ h => h) hHeld (fun w1 hw1 => ?_) ?_
          rotate_left 1
          · skip
            have hcw0 := hw1.cell (hcb6) (by first | (simp; done) | exact HNS.out | exact HNW.out | (intro hm; have hlt := HSB.out _ hm; (try dsimp only at hlt); omega))
            go_simp
            (try (first | with_reducible rfl | (apply And.intro <;> rfl)))
          simp only [Act.put, List.setIfInBounds_toArray, List.set_cons_zero, List.set_cons_succ]
          refine call_at (i := 2) (f := ?_) (args := ?_) rfl (by kernel_rfl) (by rfl) ?_ ?_
          rotate_left 2
          · go_simp
            (try (first | with_reducible rfl | (apply And.intro <;> rfl)))
          refine (wput_any wd T g gd d L1 (HL6.out.log.keep HFD.out (by simp)) HL6.out.dok A6 _ c6 b ((HFU.out.keep HFD.out (by simp)).by) (fun x hx => ⟨fun hm => by have h1 := HA6.out x hx; have h2 := HTl6.out x hm; have := HGB.out; omega, by have h1 := HFU.out.lt x hx; have h2 := HFD.out.size; omega⟩) (by have := H150.out; omega) (by have := HL6.out.lens; omega) (by have := HL6.out.lens; omega)).mono ?_
          rintro e_ w7 ⟨rfl, T', hl7, hf7, ht7⟩
          refine ⟨_, rfl, hHeld.trans hf7 (fun x hx _ => by simp [hx]), fun hHeld => ?_⟩
          simp only [Act.put, List.setIfInBounds_toArray, List.set_cons_zero, List.set_cons_succ]
          have HL7 := Lib.hid hl7
          have HF7 := Lib.hid hf7
          have HT7 : Hid (∀ x ∈ T', x < w6.heap.size → x ∈ T) := Lib.hid (fun x hx hl => ht7 x hx (by have := HFD.out.size; omega))
          have HR7 : Hid (RL w7 (T' ++ (bk A4 ++ bk A6)) gr vr d L1) := Lib.hid ((HRX6.out.keep (S := []) (U' := T ++ (bk A4 ++ bk A6)) HFD.out (by simp) (fun _ hx _ => hx)).keep hf7 (fun x hx => by simp [hx]) (fun x hx hl => by
            rcases List.mem_append.1 hx with hx | hx
            · simp [ht7 x hx hl]
            · simp at hx; simp [hx]))
          have HY7 : Hid (By w7 A4 b.length b) := Lib.hid ((HY6.out.keep HFD.out (by simp)).keep hf7 (fun a ha hm => by have h1 := HA4l.out a.block (by simp [bk, ha]); have h2 := HTl6.out _ hm; omega))
          have HFU7 := Lib.hid ((HFU.out.keep HFD.out (by simp)).keep hf7 (fun x hx hm => by have h1 := HA6.out x hx; have h2 := HTl6.out x hm; have := HGB.out; omega))
          clear hl7 hf7 ht7
          refine call_at (i := 6) (f := ?_) (args := ?_) rfl (by kernel_rfl) (by rfl) ?_ ?_
          rotate_left 2
          · go_simp
            (try (first | with_reducible rfl | (apply And.intro <;> rfl)))
          refine (rlput_any w7 (T' ++ (bk A4 ++ bk A6)) gr vr d L1 HR7.out (fun x hx => by
            have h6 := HFD.out.size
            have h7 := HF7.out.size
            rcases List.mem_append.1 hx with hx | hx
            · exact HL7.out.lt x hx
            · rcases List.mem_append.1 hx with hx | hx
              · have := HA4l.out x hx; omega
              · have := HFU.out.lt x hx; omega) HL6.out.dok A4 _ c4 b HY7.out (fun x hx => by simp [hx]) (by have := H150.out; omega) (by have := HL6.out.lens; omega) (by have := HL6.out.lens; omega)).mono ?_
          rintro e_ w8 ⟨rfl, hr8, hf8⟩
          refine ⟨_, rfl, hHeld.trans hf8 (fun x hx _ => by simp at hx; simp [hx]), fun hHeld => ?_⟩
          simp only [Act.put, List.setIfInBounds_toArray, List.set_cons_zero, List.set_cons_succ]
          have HR8 := Lib.hid hr8
          have HL8 : Hid (Log w8 T' g gd (d.logD b) (d.logL b L1)) := Lib.hid (HL7.out.keep hf8 (fun x hx hm => HR7.out.apart x (by simp [hx]) hm))
          have HFU8 := Lib.hid (HFU7.out.keep hf8 (fun x hx hm => HR7.out.apart x (by simp [hx]) hm))
          have HF8 : Hid (Fr [] w w8) := Lib.hid (((HL6.out.fr.and HFD.out (by simp)).trans HF7.out (fun x hx hl => by have := HL6.out.t x hx; omega)).trans hf8 (fun x hx hl => by simp at hx; have := HL6.out.rn; omega))
          clear hr8 hf8
          refine run_at (i := 7) (v := ?_) rfl (by kernel_rfl) (by rfl) (fun _ _ _ h => h) hHeld (fun w1 hw1 => ?_) ?_
          rotate_left 1
          · skip
            go_simp
            (try (first | with_reducible rfl | (apply And.intro <;> rfl)))
          simp only [Act.put, List.setIfInBounds_toArray, List.set_cons_zero, List.set_cons_succ]
          refine wpAnyH_done (by kernel_rfl) ?_ _
          clear hHeld hne hcb6
          go_wp2_with fail
          refine (spoil_any A6 _ c6 b s6 w8 HFU8.out HM6.out).mono ?_
          rintro e w9 ⟨rfl, hf9⟩
          have HX : Hid (∃ nx', LQ w w9 T' g gd gr vr (d.logD b) (d.logL b L1) nx' (k + 1)) := Lib.hid (by
            have hlog := HL8.out.keep hf9 (fun x hx hm => by
              have h1 := HA6.out x hm
              have h2 := HFU.out.lt x hm
              have h3 := HTl6.out x (HT7.out x hx h2)
              have := HGB.out
              omega)
            have href : RL w9 T' gr vr (d.logD b) (d.logL b L1) := (HR8.out.keep (U' := T') hf9 (fun x hx => by simp [hx]) (fun x hx _ => by simp [hx]))
            have ht : ∀ x ∈ T', w.heap.size ≤ x := fun x hx => by
              by_cases hl : x < w6.heap.size
              · exact HL6.out.t x (HT7.out x hx hl)
              · have := HL6.out.fr.size; omega
            have hfr : Fr [] w w9 := HF8.out.trans hf9 (fun x hx hl => by have h1 := HA6.out x hx; have h2 := HL5.out.fr.size; omega)
            have hsh := HL6.out.sh
            have hbl := rowB_len b (by have := H150.out; omega)
            have h150 := H150.out
            cases hlb : d.logB b
            · refine ⟨nx ++ [b], hlog, href, ?_, ht, HL6.out.rn, ⟨?_, ?_, by omega⟩, hfr⟩
              · unfold Dsk.logL; rw [hlb]; exact HL6.out.j.no b hlb
              · unfold Dsk.logL; rw [hlb]; simp only [Bool.false_eq_true, if_false]; omega
              · intro x hx
                rcases List.mem_append.1 hx with hx | hx
                · exact hsh.2.1 x hx
                · simp at hx; subst hx; exact h150
            · refine ⟨nx, hlog, href, ?_, ht, HL6.out.rn, ⟨?_, hsh.2.1, by omega⟩, hfr⟩
              · unfold Dsk.logL; rw [hlb]; exact (HL6.out.j.yes b hlb).1
              · unfold Dsk.logL; rw [hlb]; simp only [if_true]; rw [rowsB_snoc, List.length_append]; omega)
          obtain ⟨nx', hX⟩ := HX.out
          have HR := Lib.hid hX
          clear hX hf9 HX
          go_wp2_with fail
          go_meet
          exact ⟨T', g, vr, _, _, nx', rfl, rfl, HR⟩
      case rest =>
        obtain ⟨T', g', vr', d', L', nx', rfl, rfl, HR⟩ := hcut
        rename World => wz
        obtain ⟨⟨Ar, cr, hv1, rs, hgl, hrs⟩, Ad, cd, hr0, hr1, hr2, hby⟩ := HR.out.ref.cells
        obtain ⟨SDz, hdz, _, _, _⟩ := HR.out.log.fuse
        have HDZ := Lib.hid hdz
        have HGLZ := Lib.hid hgl
        have HRS := Lib.hid hrs
        have HBYZ := Lib.hid hby
        obtain ⟨N, hN⟩ : ∃ N, L'.length = N := ⟨_, rfl⟩
        have HN := Lib.hid hN
        rw [hN] at hv1 HGLZ
        have HLB : Hid (∀ b ∈ L', b.length ≤ 1000000) := Lib.hid (fun b hb => by
          have h1 := HR.out.lens
          have h2 := HR.out.log.short b hb
          omega)
        have HNB : Hid (N ≤ 3300) := Lib.hid (by have := HR.out.lens; omega)
        have hne1 : ((N : Int) != (N : Int)) = false := by simp
        have hne2 : ((d'.syn : Int) != (d'.syn : Int)) = false := by simp
        have hne3 : (d'.dead != d'.dead) = false := by simp
        clear hgl hrs hby hdz hN
        go_upto_region 33 with (fail)
        refine wp_region_held_drew (S := Fr [] wz) (by kernel_rfl) (Fr.drew (Fr.refl _ wz)) (fun hHeld => ?_)
        generalize wz.drew = wd at *
        refine run_at (i := 0) (v := ?_) rfl (by kernel_rfl) (by rfl) (fun _ _ _ h => h) hHeld (fun w1 hw1 => ?_) ?_
        rotate_left 1
        · skip
          go_simp
          (try (first | with_reducible rfl | (apply And.intro <;> rfl)))
        simp only [Act.put, List.setIfInBounds_toArray, List.set_cons_zero, List.set_cons_succ]
        refine run_at (i := 2) (v := ?_) rfl (by kernel_rfl) (by rfl) (fun _ _ _ h => h) hHeld (fun w1 hw1 => ?_) ?_
        rotate_left 1
        · skip
          go_simp
          (try (first | with_reducible rfl | (apply And.intro <;> rfl)))
        simp only [Act.put, List.setIfInBounds_toArray, List.set_cons_zero, List.set_cons_succ]
        refine run_at (i := 3) (v := ?_) rfl (by kernel_rfl) (by rfl) (fun _ _ _ h => h) hHeld (fun w1 hw1 => ?_) ?_
        rotate_left 1
        · skip
          go_simp
          (try (first | with_reducible rfl | (apply And.intro <;> rfl)))
        simp only [Act.put, List.setIfInBounds_toArray, List.set_cons_zero, List.set_cons_succ]
        refine run_at (i := 4) (v := ?_) rfl (by kernel_rfl) (by rfl) (fun _ _ _ h => h) hHeld (fun w1 hw1 => ?_) ?_
        rotate_left 1
        · skip
          go_simp
          (try (first | with_reducible rfl | (apply And.intro <;> rfl)))
        simp only [Act.put, List.setIfInBounds_toArray, List.set_cons_zero, List.set_cons_succ]
        refine run_at (i := 5) (v := ?_) rfl (by kernel_rfl) (by rfl) (fun _ _ _ h => h) hHeld (fun w1 hw1 => ?_) ?_
        rotate_left 1
        · skip
          have hcw0 := hw1.cell (hv1) (by first | (simp; done) | exact HNS.out | exact HNW.out | (intro hm; have hlt := HSB.out _ hm; (try dsimp only at hlt); omega))
          go_simp
          (try (first | with_reducible rfl | (apply And.intro <;> rfl)))
        simp only [Act.put, List.setIfInBounds_toArray, List.set_cons_zero, List.set_cons_succ]
        refine call_at (i := 1) (f := ?_) (args := ?_) rfl (by kernel_rfl) (by rfl) ?_ ?_
        rotate_left 2
        · go_simp
          (try (first | with_reducible rfl | (apply And.intro <;> rfl)))
        refine (wrecords_gl wd T' g' gd d' L' (HR.out.log.keep hHeld (by simp)) (by have := HR.out.lens; omega) [] (by simp) N HN.out).mono ?_
        rintro e_ w1 ⟨ar, rr, rfl, hgl1, hrr, hfr1⟩
        refine ⟨_, rfl, hHeld.trans hfr1 (by simp), fun hHeld => ?_⟩
        simp only [Act.put, List.setIfInBounds_toArray, List.set_cons_zero, List.set_cons_succ]
        have HGL1 := Lib.hid hgl1
        have HRR := Lib.hid hrr
        clear hgl1 hrr hfr1
        refine call_at (i := 6) (f := ?_) (args := ?_) rfl (by kernel_rfl) (by rfl) ?_ ?_
        rotate_left 2
        · go_simp
          (try (first | with_reducible rfl | (apply And.intro <;> rfl)))
        refine (krows_yes (some ar) Ar N N _ cr rr rs _ HGL1.out.1 (HGLZ.out.1.keep hHeld (by simp)) (by rw [HRR.out, HRS.out]) (fun r hr => by
          have h5 : r.b ∈ L' := by rw [← HRR.out]; exact List.mem_map.2 ⟨r, hr, rfl⟩
          have := HLB.out _ h5
          omega) (by have := HNB.out; omega)).mono ?_
        rintro e_ w2 ⟨rfl, hf2⟩
        refine ⟨_, rfl, hHeld.trans hf2 (by simp), fun hHeld => ?_⟩
        simp only [Act.put, List.setIfInBounds_toArray, List.set_cons_zero, List.set_cons_succ]
        clear hf2
        refine run_at (i := 7) (v := ?_) rfl (by kernel_rfl) (by rfl) (fun _ _ _ h => h) hHeld (fun w1 hw1 => ?_) ?_
        rotate_left 1
        · skip
          go_simp
          (try (first | with_reducible rfl | (apply And.intro <;> rfl)))
        simp only [Act.put, List.setIfInBounds_toArray, List.set_cons_zero, List.set_cons_succ]
        refine run_at (i := 8) (v := ?_) rfl (by kernel_rfl) (by rfl) (fun _ _ _ h => h) hHeld (fun w1 hw1 => ?_) ?_
        rotate_left 1
        · skip
          go_simp
          (try (first | with_reducible rfl | (apply And.intro <;> rfl)))
        simp only [Act.put, List.setIfInBounds_toArray, List.set_cons_zero, List.set_cons_succ]
        refine run_at (i := 9) (v := ?_) rfl (by kernel_rfl) (by rfl) (fun _ _ _ h => h) hHeld (fun w1 hw1 => ?_) ?_
        rotate_left 1
        · skip
          go_simp
          (try (first | with_reducible rfl | (apply And.intro <;> rfl)))
        simp only [Act.put, List.setIfInBounds_toArray, List.set_cons_zero, List.set_cons_succ]
        refine run_at (i := 11) (v := ?_) rfl (by kernel_rfl) (by rfl) (fun _ _ _ h => h) hHeld (fun w1 hw1 => ?_) ?_
        rotate_left 1
        · skip
          go_simp
          (try (first | with_reducible rfl | (apply And.intro <;> rfl)))
        simp only [Act.put, List.setIfInBounds_toArray, List.set_cons_zero, List.set_cons_succ]
        refine run_at (i := 12) (v := ?_) rfl (by kernel_rfl) (by rfl) (fun _ _ _ h => h) hHeld (fun w1 hw1 => ?_) ?_
        rotate_left 1
        · skip
          go_simp
          (try (first | with_reducible rfl | (apply And.intro <;> rfl)))
        simp only [Act.put, List.setIfInBounds_toArray, List.set_cons_zero, List.set_cons_succ]
        refine run_at (i := 13) (v := ?_) rfl (by kernel_rfl) (by rfl) (fun _ _ _ h => h) hHeld (fun w1 hw1 => ?_) ?_
        rotate_left 1
        · skip
          go_simp
          (try (first | with_reducible rfl | (apply And.intro <;> rfl)))
        simp only [Act.put, List.setIfInBounds_toArray, List.set_cons_zero, List.set_cons_succ]
        refine run_at (i := 14) (v := ?_) rfl (by kernel_rfl) (by rfl) (fun _ _ _ h => h) hHeld (fun w1 hw1 => ?_) ?_
        rotate_left 1
        · skip
          have hcw0 := hw1.cell (hv1) (by first | (simp; done) | exact HNS.out | exact HNW.out | (intro hm; have hlt := HSB.out _ hm; (try dsimp only at hlt); omega))
          go_simp
          (try (first | with_reducible rfl | (apply And.intro <;> rfl)))
        simp only [Act.put, List.setIfInBounds_toArray, List.set_cons_zero, List.set_cons_succ]
        refine run_at (i := 15) (v := ?_) rfl (by kernel_rfl) (by rfl) (fun _ _ _ h => h) hHeld (fun w1 hw1 => ?_) ?_
        rotate_left 1
        · skip
          go_simp
          (try (first | with_reducible rfl | (apply And.intro <;> rfl)))
        simp only [Act.put, List.setIfInBounds_toArray, List.set_cons_zero, List.set_cons_succ]
        have HWL := Lib.hid (wlen_any _ T' g' gd d' L' (HR.out.log.keep hHeld (by simp)))
        rw [HN.out] at HWL
        refine call_at (i := 10) (f := ?_) (args := ?_) rfl (by kernel_rfl) (by rfl) ?_ ?_
        rotate_left 2
        · go_simp
          (try (first | with_reducible rfl | (apply And.intro <;> rfl)))
        refine (HWL.out).mono ?_
        rintro e_ w3 ⟨rfl, rfl⟩
        refine ⟨_, rfl, hHeld, fun hHeld => ?_⟩
        simp only [Act.put, List.setIfInBounds_toArray, List.set_cons_zero, List.set_cons_succ]
        refine run_at (i := 16) (v := ?_) rfl (by kernel_rfl) (by rfl) (fun _ _ _ h => h) hHeld (fun w1 hw1 => ?_) ?_
        rotate_left 1
        · skip
          go_simp
          (try (first | with_reducible rfl | (apply And.intro <;> rfl)))
        simp only [Act.put, List.setIfInBounds_toArray, List.set_cons_zero, List.set_cons_succ]
        refine run_at (i := 17) (v := ?_) rfl (by kernel_rfl) (by rfl) (fun _ _ _ h => h) hHeld (fun w1 hw1 => ?_) ?_
        rotate_left 1
        · skip
          go_simp
          (try (first | with_reducible rfl | (apply And.intro <;> rfl)))
        simp only [Act.put, List.setIfInBounds_toArray, List.set_cons_zero, List.set_cons_succ]
        refine run_at (i := 18) (v := ?_) rfl (by kernel_rfl) (by rfl) (fun _ _ _ h => h) hHeld (fun w1 hw1 => ?_) ?_
        rotate_left 1
        · skip
          go_simp
          (try (first | with_reducible rfl | (apply And.intro <;> rfl)))
        simp only [Act.put, List.setIfInBounds_toArray, List.set_cons_zero, List.set_cons_succ]
        refine run_at (i := 19) (v := ?_) rfl (by kernel_rfl) (by rfl) (fun _ _ _ h => h) hHeld (fun w1 hw1 => ?_) ?_
        rotate_left 1
        · skip
          go_simp
          (try (first | with_reducible rfl | (apply And.intro <;> rfl)))
        simp only [Act.put, List.setIfInBounds_toArray, List.set_cons_zero, List.set_cons_succ]
        refine run_at (i := 21) (v := ?_) rfl (by kernel_rfl) (by rfl) (fun _ _ _ h => h) hHeld (fun w1 hw1 => ?_) ?_
        rotate_left 1
        · skip
          go_simp
          (try (first | with_reducible rfl | (apply And.intro <;> rfl)))
        simp only [Act.put, List.setIfInBounds_toArray, List.set_cons_zero, List.set_cons_succ]
        refine run_at (i := 22) (v := ?_) rfl (by kernel_rfl) (by rfl) (fun _ _ _ h => h) hHeld (fun w1 hw1 => ?_) ?_
        rotate_left 1
        · skip
          go_simp
          (try (first | with_reducible rfl | (apply And.intro <;> rfl)))
        simp only [Act.put, List.setIfInBounds_toArray, List.set_cons_zero, List.set_cons_succ]
        refine run_at (i := 23) (v := ?_) rfl (by kernel_rfl) (by rfl) (fun _ _ _ h => h) hHeld (fun w1 hw1 => ?_) ?_
        rotate_left 1
        · skip
          go_simp
          (try (first | with_reducible rfl | (apply And.intro <;> rfl)))
        simp only [Act.put, List.setIfInBounds_toArray, List.set_cons_zero, List.set_cons_succ]
        refine run_at (i := 24) (v := ?_) rfl (by kernel_rfl) (by rfl) (fun _ _ _ h => h) hHeld (fun w1 hw1 => ?_) ?_
        rotate_left 1
        · skip
          have hcw0 := hw1.cell (hr0) (by first | (simp; done) | exact HNS.out | exact HNW.out | (intro hm; have hlt := HSB.out _ hm; (try dsimp only at hlt); omega))
          go_simp
          (try (first | with_reducible rfl | (apply And.intro <;> rfl)))
        simp only [Act.put, List.setIfInBounds_toArray, List.set_cons_zero, List.set_cons_succ]
        refine call_at (i := 20) (f := ?_) (args := ?_) rfl (by kernel_rfl) (by rfl) ?_ ?_
        rotate_left 2
        · go_simp
          (try (first | with_reducible rfl | (apply And.intro <;> rfl)))
        refine (dread_any _ SDz gd d' (HDZ.out.keep hHeld (by simp)) HR.out.dok).mono ?_
        rintro e_ w4 ⟨A4', c4', rfl, hN4⟩
        refine ⟨_, rfl, hHeld.trans hN4.2.1 (by simp), fun hHeld => ?_⟩
        simp only [Act.put, List.setIfInBounds_toArray, List.set_cons_zero, List.set_cons_succ]
        have HN4 := Lib.hid hN4
        clear hN4
        refine call_at (i := 25) (f := ?_) (args := ?_) rfl (by kernel_rfl) (by rfl) ?_ ?_
        rotate_left 2
        · go_simp
          (try (first | with_reducible rfl | (apply And.intro <;> rfl)))
        refine (same_any A4' Ad _ _ c4' cd d'.row d'.row _ HN4.out.by (HBYZ.out.keep hHeld (by simp)) (by have := HR.out.lens; omega)).mono ?_
        rw [decide_eq_true rfl]
        rintro e_ w5' ⟨rfl, k5, hk5⟩
        refine ⟨_, rfl, by rw [hk5]; exact hHeld.drewN k5, fun hHeld => ?_⟩
        simp only [Act.put, List.setIfInBounds_toArray, List.set_cons_zero, List.set_cons_succ]
        clear hk5
        refine run_at (i := 26) (v := ?_) rfl (by kernel_rfl) (by rfl) (fun _ _ _ h => h) hHeld (fun w1 hw1 => ?_) ?_
        rotate_left 1
        · skip
          go_simp
          (try (first | with_reducible rfl | (apply And.intro <;> rfl)))
        simp only [Act.put, List.setIfInBounds_toArray, List.set_cons_zero, List.set_cons_succ]
        refine run_at (i := 27) (v := ?_) rfl (by kernel_rfl) (by rfl) (fun _ _ _ h => h) hHeld (fun w1 hw1 => ?_) ?_
        rotate_left 1
        · skip
          go_simp
          (try (first | with_reducible rfl | (apply And.intro <;> rfl)))
        simp only [Act.put, List.setIfInBounds_toArray, List.set_cons_zero, List.set_cons_succ]
        refine run_at (i := 28) (v := ?_) rfl (by kernel_rfl) (by rfl) (fun _ _ _ h => h) hHeld (fun w1 hw1 => ?_) ?_
        rotate_left 1
        · skip
          go_simp
          (try (first | with_reducible rfl | (apply And.intro <;> rfl)))
        simp only [Act.put, List.setIfInBounds_toArray, List.set_cons_zero, List.set_cons_succ]
        refine run_at (i := 29) (v := ?_) rfl (by kernel_rfl) (by rfl) (fun _ _ _ h => h) hHeld (fun w1 hw1 => ?_) ?_
        rotate_left 1
        · skip
          go_simp
          (try (first | with_reducible rfl | (apply And.intro <;> rfl)))
        simp only [Act.put, List.setIfInBounds_toArray, List.set_cons_zero, List.set_cons_succ]
        refine run_at (i := 31) (v := ?_) rfl (by kernel_rfl) (by rfl) (fun _ _ _ h => h) hHeld (fun w1 hw1 => ?_) ?_
        rotate_left 1
        · skip
          go_simp
          (try (first | with_reducible rfl | (apply And.intro <;> rfl)))
        simp only [Act.put, List.setIfInBounds_toArray, List.set_cons_zero, List.set_cons_succ]
        refine run_at (i := 32) (v := ?_) rfl (by kernel_rfl) (by rfl) (fun _ _ _ h => h) hHeld (fun w1 hw1 => ?_) ?_
        rotate_left 1
        · skip
          go_simp
          (try (first | with_reducible rfl | (apply And.intro <;> rfl)))
        simp only [Act.put, List.setIfInBounds_toArray, List.set_cons_zero, List.set_cons_succ]
        refine run_at (i := 33) (v := ?_) rfl (by kernel_rfl) (by rfl) (fun _ _ _ h => h) hHeld (fun w1 hw1 => ?_) ?_
        rotate_left 1
        · skip
          go_simp
          (try (first | with_reducible rfl | (apply And.intro <;> rfl)))
        simp only [Act.put, List.setIfInBounds_toArray, List.set_cons_zero, List.set_cons_succ]
        refine run_at (i := 34) (v := ?_) rfl (by kernel_rfl) (by rfl) (fun _ _ _ h => h) hHeld (fun w1 hw1 => ?_) ?_
        rotate_left 1
        · skip
          have hcw0 := hw1.cell (hr1) (by first | (simp; done) | exact HNS.out | exact HNW.out | (intro hm; have hlt := HSB.out _ hm; (try dsimp only at hlt); omega))
          go_simp
          (try (first | with_reducible rfl | (apply And.intro <;> rfl)))
        simp only [Act.put, List.setIfInBounds_toArray, List.set_cons_zero, List.set_cons_succ]
        refine call_at (i := 30) (f := ?_) (args := ?_) rfl (by kernel_rfl) (by rfl) ?_ ?_
        rotate_left 2
        · go_simp
          (try (first | with_reducible rfl | (apply And.intro <;> rfl)))
        refine (dsynced_any _ SDz gd d' (HDZ.out.keep hHeld (by simp))).mono ?_
        rintro e_ w6' ⟨rfl, rfl⟩
        refine ⟨_, rfl, hHeld, fun hHeld => ?_⟩
        simp only [Act.put, List.setIfInBounds_toArray, List.set_cons_zero, List.set_cons_succ]
        refine run_at (i := 35) (v := ?_) rfl (by kernel_rfl) (by rfl) (fun _ _ _ h => h) hHeld (fun w1 hw1 => ?_) ?_
        rotate_left 1
        · skip
          go_simp
          (try (first | with_reducible rfl | (apply And.intro <;> rfl)))
        simp only [Act.put, List.setIfInBounds_toArray, List.set_cons_zero, List.set_cons_succ]
        refine run_at (i := 36) (v := ?_) rfl (by kernel_rfl) (by rfl) (fun _ _ _ h => h) hHeld (fun w1 hw1 => ?_) ?_
        rotate_left 1
        · skip
          go_simp
          (try (first | with_reducible rfl | (apply And.intro <;> rfl)))
        simp only [Act.put, List.setIfInBounds_toArray, List.set_cons_zero, List.set_cons_succ]
        refine run_at (i := 37) (v := ?_) rfl (by kernel_rfl) (by rfl) (fun _ _ _ h => h) hHeld (fun w1 hw1 => ?_) ?_
        rotate_left 1
        · skip
          go_simp
          (try (first | with_reducible rfl | (apply And.intro <;> rfl)))
        simp only [Act.put, List.setIfInBounds_toArray, List.set_cons_zero, List.set_cons_succ]
        refine run_at (i := 38) (v := ?_) rfl (by kernel_rfl) (by rfl) (fun _ _ _ h => h) hHeld (fun w1 hw1 => ?_) ?_
        rotate_left 1
        · skip
          go_simp
          (try (first | with_reducible rfl | (apply And.intro <;> rfl)))
        simp only [Act.put, List.setIfInBounds_toArray, List.set_cons_zero, List.set_cons_succ]
        refine run_at (i := 40) (v := ?_) rfl (by kernel_rfl) (by rfl) (fun _ _ _ h => h) hHeld (fun w1 hw1 => ?_) ?_
        rotate_left 1
        · skip
          go_simp
          (try (first | with_reducible rfl | (apply And.intro <;> rfl)))
        simp only [Act.put, List.setIfInBounds_toArray, List.set_cons_zero, List.set_cons_succ]
        refine run_at (i := 41) (v := ?_) rfl (by kernel_rfl) (by rfl) (fun _ _ _ h => h) hHeld (fun w1 hw1 => ?_) ?_
        rotate_left 1
        · skip
          go_simp
          (try (first | with_reducible rfl | (apply And.intro <;> rfl)))
        simp only [Act.put, List.setIfInBounds_toArray, List.set_cons_zero, List.set_cons_succ]
        refine run_at (i := 42) (v := ?_) rfl (by kernel_rfl) (by rfl) (fun _ _ _ h => h) hHeld (fun w1 hw1 => ?_) ?_
        rotate_left 1
        · skip
          go_simp
          (try (first | with_reducible rfl | (apply And.intro <;> rfl)))
        simp only [Act.put, List.setIfInBounds_toArray, List.set_cons_zero, List.set_cons_succ]
        refine run_at (i := 43) (v := ?_) rfl (by kernel_rfl) (by rfl) (fun _ _ _ h => h) hHeld (fun w1 hw1 => ?_) ?_
        rotate_left 1
        · skip
          have hcw0 := hw1.cell (hr2) (by first | (simp; done) | exact HNS.out | exact HNW.out | (intro hm; have hlt := HSB.out _ hm; (try dsimp only at hlt); omega))
          go_simp
          (try (first | with_reducible rfl | (apply And.intro <;> rfl)))
        simp only [Act.put, List.setIfInBounds_toArray, List.set_cons_zero, List.set_cons_succ]
        refine call_at (i := 39) (f := ?_) (args := ?_) rfl (by kernel_rfl) (by rfl) ?_ ?_
        rotate_left 2
        · go_simp
          (try (first | with_reducible rfl | (apply And.intro <;> rfl)))
        refine (ddead_any _ SDz gd d' (HDZ.out.keep hHeld (by simp))).mono ?_
        rintro e_ w7' ⟨rfl, rfl⟩
        refine ⟨_, rfl, hHeld, fun hHeld => ?_⟩
        simp only [Act.put, List.setIfInBounds_toArray, List.set_cons_zero, List.set_cons_succ]
        refine run_at (i := 44) (v := ?_) rfl (by kernel_rfl) (by rfl) (fun _ _ _ h => h) hHeld (fun w1 hw1 => ?_) ?_
        rotate_left 1
        · skip
          go_simp
          (try (first | with_reducible rfl | (apply And.intro <;> rfl)))
        simp only [Act.put, List.setIfInBounds_toArray, List.set_cons_zero, List.set_cons_succ]
        refine run_at (i := 45) (v := ?_) rfl (by kernel_rfl) (by rfl) (fun _ _ _ h => h) hHeld (fun w1 hw1 => ?_) ?_
        rotate_left 1
        · skip
          go_simp
          (try (first | with_reducible rfl | (apply And.intro <;> rfl)))
        simp only [Act.put, List.setIfInBounds_toArray, List.set_cons_zero, List.set_cons_succ]
        refine wpAnyH_done (by kernel_rfl) ?_ _
        have HRZ := Lib.hid (HR.out.keep hHeld)
        clear hHeld hne1 hne2 hne3 hv1 hr0 hr1 hr2
        go_wp2
        go_roundw
        case rel => exact ⟨k + 1, T', g', vr', d', L', nx', by omega, by omega, by go_num, rfl, rfl, HRZ⟩
        case measure => simp [intOf]; omega
    · have hkx : (n : Int) ≤ k ∨ ((k : Int) < n ∧ (20 : Int) ≤ k) := by omega
      rcases hkx with hkx | ⟨hkx0, hkx⟩
      all_goals
        go_wp2_with fail
        refine (wwakes_any wr).mono ?_
        rintro e w9 ⟨rfl, hf9⟩
        have HF9 := Lib.hid hf9
        clear hf9
        go_wp2
        go_ret
        exact ⟨rfl, HLQ.out.fr.and HF9.out (by simp)⟩
end Go.Proofs.Ytdakilioikhhbaa
