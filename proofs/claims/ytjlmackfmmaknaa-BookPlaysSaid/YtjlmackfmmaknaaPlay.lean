/- gavellaw03.play: the acts of both. -/
import Derived.Test.YtjlmackfmmaknaaRefBc
import Derived.Test.YtjlmackfmmaknaaActs3
import Derived.Test.YtjlmackfmmaknaaBook3
import Derived.Test.YtjlmackfmmaknaaCopyF
import Derived.Deep.CutBlock
import Derived.Test.YtjlmackfmmaknaaReg2
import Derived.Test.YtjlmackfmmaknaaEqX
import Derived.Test.YtjlmackfmmaknaaEqS
namespace Go.Proofs.Ytjlmackfmmaknaa
open Go.RowKit

theorem Act3V.in_blk {w : World} {g : Nat} {t : TypeId} {v : Act3V} (hb : Blk w g t v.cells.toArray) :
    w.cell? ⟨g, 0, none⟩ = some (.int .i64 v.d) ∧ w.cell? ⟨g, 1, none⟩ = some (.int .i64 v.by_) ∧ w.cell? ⟨g, 2, none⟩ = some (.int .i64 v.sb) ∧ w.cell? ⟨g, 3, none⟩ = some (.int .i64 v.sm) ∧ w.cell? ⟨g, 4, none⟩ = some (.slice v.A v.m v.c) :=
  ⟨by rw [hb.cell 0]; rfl, by rw [hb.cell 1]; rfl, by rw [hb.cell 2]; rfl, by rw [hb.cell 3]; rfl, by rw [hb.cell 4]; rfl⟩
theorem row_sgp : RowTy Try.prog 39 2 := ⟨by kernel_rfl, by kernel_rfl⟩
theorem sgn_nodup {l : List Ent} (h : l.Nodup) (e : Ent) : (sgn l e).Nodup := by
  unfold sgn
  split
  · exact h
  · rename_i hn
    rw [List.nodup_append]
    exact ⟨h, by simp, fun a ha b hb => by simp at hb; subst hb; exact fun hab => hn (hab ▸ ha)⟩
theorem sgn_len (l : List Ent) (e : Ent) : (sgn l e).length ≤ l.length + 1 := by
  unfold sgn
  split <;> simp

set_option maxRecDepth 100000 in
set_option maxHeartbeats 1000000 in
theorem play_any (w0 w : World) (S T : List Nat) (g r : Nat) (l : List Ent) (hB : Bok w S g l) (hR : RBk w T r l) (hnd : l.Nodup) (hST : ∀ x ∈ S, ¬ x ∈ T) (A : Option Addr) (n c : Nat) (acs : List Act3V) (hA : Acts3 w0 A n acs) (h0 : Below w0.heap.size w0 w)
    (hlo : ∀ x, x ∈ S ∨ x ∈ T → w0.heap.size ≤ x) (hll : l.length ≤ 1000) (hn : n ≤ c) (hc : c ≤ maxLen) :
    Calls Try.prog 9 #[.pointer (some ⟨g, 0, none⟩), .pointer (some ⟨r, 0, none⟩), .slice A n c] w fun e w' => e = .returned (.bool true) ∧
      ∃ l' T', Bok w' S g l' ∧ RBk w' T' r l' ∧ l'.Nodup ∧ (∀ x ∈ S, ¬ x ∈ T') ∧ l'.length ≤ l.length + 30 ∧ Fr (S ++ T) w w' ∧ ∀ y ∈ T', y < w.heap.size → y ∈ T := by
  have HB := Lib.hid hB
  have HR := Lib.hid hR
  have HND := Lib.hid hnd
  have HST := Lib.hid hST
  have HA := Lib.hid hA
  have H0 := Lib.hid h0
  have HLO := Lib.hid hlo
  have HLL := Lib.hid hll
  have hn1 : (n : Int) ≤ 9223372036854775807 := by unfold maxLen at hc; omega
  clear hB hR hnd hST hA h0 hlo hll hn hc
  go_enter Try.func9, Try.ntmps9
  go_wp2
  go_loopw [7] (fun i wr => ∃ (k : Nat) (l' : List Ent) (T' : List Nat), k ≤ n ∧ k ≤ 30 ∧ i = .int .i64 k ∧ Hid (Bok wr S g l') ∧ Hid (RBk wr T' r l') ∧ Hid (l'.Nodup ∧ (∀ x ∈ S, ¬ x ∈ T') ∧ l'.length ≤ l.length + k ∧ Fr (S ++ T) w wr ∧ ∀ y ∈ T', y < w.heap.size → y ∈ T)) (fun i _ => 30 - (intOf i).toNat)
  case atStart => exact ⟨0, l, T, by omega, by omega, rfl, HB, HR, Lib.hid ⟨HND.out, HST.out, by omega, Fr.refl _ _, fun y hy _ => hy⟩⟩
  case round =>
    obtain ⟨k, l', T', hk, hk30, rfl, HB', HR', HE'⟩ := hrel
    by_cases hlt : k < n ∧ k < 30
    · obtain ⟨hkn, hk2⟩ := hlt
      have hbel : Below w0.heap.size w0 wr := H0.out.trans (HE'.out.2.2.2.1.below H0.out.size (fun x hx => HLO.out x (by simpa using hx)))
      obtain ⟨ad, v, rfl, hg, hok, hcells⟩ := HA.out.at hbel hkn
      have HOK := Lib.hid hok
      have HCELLS := Lib.hid hcells
      have hk0 : (0 : Int) ≤ k := by omega
      clear hg hok hcells hbel
      go_wp2_with (first
        | (refine wpList_load_cells rfl 93 _ rfl (ad.add (k * 5)) rfl v.cells _ (fun j x hx => by rw [add_add]; exact HCELLS.out j x hx) Try.underlying93 rfl (by rw [act3_size]; rfl) ?_)
        | (refine wpList_store_box rfl 93 _ _ rfl _ 93 v.cells rfl rfl (by rw [act3_size]; rfl) rfl v.one ?_
           intro wb hblk hfb
           obtain ⟨hc0, hc1, hc2, hc3, hc4⟩ := Act3V.in_blk hblk
           have HBLK := Lib.hid hblk
           have HFB := Lib.hid hfb
           have HOKB := Lib.hid (HOK.out.keep hfb (by simp))
           have HB2 := Lib.hid (HB'.out.keep hfb (by simp))
           have HR2 := Lib.hid (HR'.out.keep hfb (by simp))
           clear hblk hfb))
      have hgb : ¬ g = wr.heap.size := by have := HB'.out.lt g HB'.out.mem; omega
      have hsz : wr.heap.size < wb.heap.size := HBLK.out.lt
      have hgS : ∀ x ∈ S, ¬ x = wr.heap.size := fun x hx => by have := HB'.out.lt x hx; omega
      have hgT : ∀ x ∈ T', ¬ x = wr.heap.size := fun x hx => by have := HR'.out.lt x hx; omega
      have HGS := Lib.hid hgS
      have HGT := Lib.hid hgT
      have HSZ := Lib.hid hsz
      clear hgb hsz hgS hgT
      have HFIN := Lib.hid (show ∀ w', Fr [wr.heap.size] wb w' → Fr [] wr w' from fun w' h => HFB.out.trans h (by simp))
      generalize wr.heap.size = gb at *
      refine (cut_any v.A v.m v.c 40 v.b wb HOKB.out.b (Nat.le_trans HOKB.out.m HOKB.out.c) HOKB.out.m (by omega)).mono ?_
      rintro e w4 ⟨A4, c4, rfl, hN4⟩
      have h40 : (v.b.take 40).length ≤ 40 := List.length_take_le _ _
      have hf4 := hN4.2.1
      have hnb : ∀ x ∈ bk A4, ¬ x = gb := fun x hx => by have := hN4.2.2 x hx; have := HSZ.out; omega
      have HA4 : Hid (∀ x ∈ bk A4, wb.heap.size ≤ x ∧ x < w4.heap.size) := Lib.hid (fun x hx => ⟨hN4.2.2 x hx, hN4.lt x hx⟩)
      have HSW := Lib.hid HB2.out.lt
      have HTW := Lib.hid HR2.out.lt
      have HSZ5 : Hid ((w4.setCell ⟨gb, 4, none⟩ (.slice A4 (v.b.take 40).length c4)).heap.size = w4.heap.size) := Lib.hid (by simp [World.setCell])
      have hblk4 := HBLK.out.keep hf4 (by simp)
      have hd0 := hblk4.cell 0
      have hd1 := hblk4.cell 1
      have hd2 := hblk4.cell 2
      have hd3 := hblk4.cell 3
      have hd4 := hblk4.cell 4
      have hz4 := hblk4.frozen 4
      simp [Act3V.cells] at hd0 hd1 hd2 hd3 hd4
      generalize v.b.take 40 = b at *
      have hfs : Fr [gb] wb (w4.setCell ⟨gb, 4, none⟩ (.slice A4 b.length c4)) := (hf4.mono (T := [gb]) (by simp)).setCell _ (by simp) _
      have HB5 := Lib.hid (HB2.out.keep hfs (fun x hx hm => HGS.out x hx (by simpa using hm)))
      have HR5 := Lib.hid (HR2.out.keep hfs (fun x hx hm => HGT.out x hx (by simpa using hm)))
      have HBK5 := Lib.hid (hblk4.set 4 (.slice A4 b.length c4))
      have HY5 := Lib.hid (hN4.by.keep ((Fr.refl [gb] w4).setCell ⟨gb, 4, none⟩ (by simp) (.slice A4 b.length c4)) (fun a ha hm => hnb a.block (by simp [bk, ha]) (by simpa using hm)))
      have H40 := Lib.hid h40
      have HF5 := Lib.hid (show Fr [] wr (w4.setCell ⟨gb, 4, none⟩ (.slice A4 b.length c4)) from HFIN.out _ hfs)
      clear hfs hblk4 h40 hN4 hnb hc0 hc1 hc2 hc3 hc4
      go_wp2_with fail
      generalize w4.setCell ⟨gb, 4, none⟩ (.slice A4 b.length c4) = w5 at *
      have hc1 := HBK5.out.cell 1
      have hc2 := HBK5.out.cell 2
      have hc3 := HBK5.out.cell 3
      have hc4 := HBK5.out.cell 4
      simp [Act3V.cells] at hc1 hc2 hc3 hc4
      clear hd0 hd1 hd2 hd3 hd4 hz4
      refine (within_pos v.d 3 HOKB.out.d.1 HOKB.out.d.2 (by omega) (by omega) _).mono ?_
      rintro e w6 ⟨rfl, rfl⟩
      have HCUR := Lib.hid HE'.out
      go_upto_if 32 with (fail)
      go_cut [7] (fun s7 wx => ∃ (l2 : List Ent) (T2 : List Nat), s7 = .int .i64 k ∧ Hid (Bok wx S g l2) ∧ Hid (RBk wx T2 r l2) ∧ Hid (l2.Nodup ∧ (∀ x ∈ S, ¬ x ∈ T2) ∧ l2.length ≤ l.length + (k + 1) ∧ Fr (S ++ T) w wx ∧ ∀ y ∈ T2, y < w.heap.size → y ∈ T))
      case first =>
        have hbk2 := HBK5.out.cell 2
        have hbk3 := HBK5.out.cell 3
        have hrs : w5.rangeAt gb 2 [.int .i64 v.sb, .int .i64 v.sm] := by
          intro j u hu
          rcases j with _ | j
          · simp at hu; subst hu; exact hc2
          rcases j with _ | j
          · simp at hu; subst hu; exact hc3
          · simp at hu
        have HRS := Lib.hid hrs
        have HC1 := Lib.hid hc1
        have HC4 := Lib.hid hc4
        clear hc1 hc2 hc3 hc4 hrs hbk2 hbk3
        have HF5w : Hid (Fr (S ++ T) w w5) := Lib.hid (HE'.out.2.2.2.1.trans HF5.out (by simp))
        by_cases hq : v.d % 3 = 2
        · rw [hq]
          have hra := fun (W : World) (hW : Fr [] w5 W) => right_any W S g l' (HB5.out.keep hW (by simp)) v.sb v.sm (WalkArith.wf_i64 (by have := HOKB.out.sb; omega)) A4 b.length c4 b (HY5.out.keep hW (by simp)) (by have := H40.out; simp only [maxLen]; omega)
          have hrb := fun (W : World) (hW : Fr [] w5 W) => refright_any W T' r l' (HR5.out.keep hW (by simp)) HE'.out.1 v.sb v.sm A4 b.length c4 b (HY5.out.keep hW (by simp)) HOKB.out.sm.1 HOKB.out.sm.2
          generalize rightB l' v.sb v.sm b = rb at *
          have hrbb : (rb != rb) = false := by simp
          have HRA := Lib.hid hra
          have HRB := Lib.hid hrb
          clear hra hrb hq
          go_upto_region 7 with (fail)
          refine wp_region_held_drew (S := Fr [] w5) (by kernel_rfl) (Fr.drew (Fr.refl _ w5)) (fun hHeld => ?_)
          refine run_at (i := 0) (v := ?_) rfl (by kernel_rfl) (by rfl) (fun _ _ _ h => h) hHeld (fun w1 hw1 => ?_) ?_
          rotate_left 1
          · skip
            go_simp
            (try (first | with_reducible rfl | (apply And.intro <;> rfl)))
          simp only [Act.put, List.setIfInBounds_toArray, List.set_cons_zero, List.set_cons_succ]
          refine run_at (i := 1) (v := ?_) rfl (by kernel_rfl) (by rfl) (fun _ _ _ h => h) hHeld (fun w1 hw1 => ?_) ?_
          rotate_left 1
          · skip
            go_simp
            (try (first | with_reducible rfl | (apply And.intro <;> rfl)))
          simp only [Act.put, List.setIfInBounds_toArray, List.set_cons_zero, List.set_cons_succ]
          refine row_at (i := 2) rfl (by kernel_rfl) (by rfl) _ _ rfl _ _ rfl _ (fun w1 hw1 => hw1.range (HRS.out) (by first | (simp; done) | exact HNS.out | exact HNW.out | (intro hm; have hlt := HSB.out _ hm; (try dsimp only at hlt); omega))) (row_sgp) (fun _ _ _ h => h) hHeld ?_
          simp only [Act.put, List.setIfInBounds_toArray, List.set_cons_zero, List.set_cons_succ]
          refine run_at (i := 3) (v := ?_) rfl (by kernel_rfl) (by rfl) (fun _ _ _ h => h) hHeld (fun w1 hw1 => ?_) ?_
          rotate_left 1
          · skip
            go_simp
            (try (first | with_reducible rfl | (apply And.intro <;> rfl)))
          simp only [Act.put, List.setIfInBounds_toArray, List.set_cons_zero, List.set_cons_succ]
          refine run_at (i := 4) (v := ?_) rfl (by kernel_rfl) (by rfl) (fun _ _ _ h => h) hHeld (fun w1 hw1 => ?_) ?_
          rotate_left 1
          · skip
            have hcw0 := hw1.cell (HC4.out) (by first | (simp; done) | exact HNS.out | exact HNW.out | (intro hm; have hlt := HSB.out _ hm; (try dsimp only at hlt); omega))
            go_simp
            (try (first | with_reducible rfl | (apply And.intro <;> rfl)))
          simp only [Act.put, List.setIfInBounds_toArray, List.set_cons_zero, List.set_cons_succ]
          refine run_at (i := 6) (v := ?_) rfl (by kernel_rfl) (by rfl) (fun _ _ _ h => h) hHeld (fun w1 hw1 => ?_) ?_
          rotate_left 1
          · skip
            go_simp
            (try (first | with_reducible rfl | (apply And.intro <;> rfl)))
          simp only [Act.put, List.setIfInBounds_toArray, List.set_cons_zero, List.set_cons_succ]
          refine run_at (i := 7) (v := ?_) rfl (by kernel_rfl) (by rfl) (fun _ _ _ h => h) hHeld (fun w1 hw1 => ?_) ?_
          rotate_left 1
          · skip
            go_simp
            (try (first | with_reducible rfl | (apply And.intro <;> rfl)))
          simp only [Act.put, List.setIfInBounds_toArray, List.set_cons_zero, List.set_cons_succ]
          refine row_at (i := 8) rfl (by kernel_rfl) (by rfl) _ _ rfl _ _ rfl _ (fun w1 hw1 => hw1.range (HRS.out) (by first | (simp; done) | exact HNS.out | exact HNW.out | (intro hm; have hlt := HSB.out _ hm; (try dsimp only at hlt); omega))) (row_sgp) (fun _ _ _ h => h) hHeld ?_
          simp only [Act.put, List.setIfInBounds_toArray, List.set_cons_zero, List.set_cons_succ]
          refine run_at (i := 9) (v := ?_) rfl (by kernel_rfl) (by rfl) (fun _ _ _ h => h) hHeld (fun w1 hw1 => ?_) ?_
          rotate_left 1
          · skip
            go_simp
            (try (first | with_reducible rfl | (apply And.intro <;> rfl)))
          simp only [Act.put, List.setIfInBounds_toArray, List.set_cons_zero, List.set_cons_succ]
          refine run_at (i := 10) (v := ?_) rfl (by kernel_rfl) (by rfl) (fun _ _ _ h => h) hHeld (fun w1 hw1 => ?_) ?_
          rotate_left 1
          · skip
            have hcw0 := hw1.cell (HC4.out) (by first | (simp; done) | exact HNS.out | exact HNW.out | (intro hm; have hlt := HSB.out _ hm; (try dsimp only at hlt); omega))
            go_simp
            (try (first | with_reducible rfl | (apply And.intro <;> rfl)))
          simp only [Act.put, List.setIfInBounds_toArray, List.set_cons_zero, List.set_cons_succ]
          refine call_at (i := 5) (f := ?_) (args := ?_) rfl (by kernel_rfl) (by rfl) ?_ ?_
          rotate_left 2
          · go_simp
            (try (first | with_reducible rfl | (apply And.intro <;> rfl)))
          refine (HRA.out _ hHeld).mono ?_
          rintro e_ w7 ⟨rfl, hf7⟩
          refine ⟨_, rfl, hHeld.and hf7 (by simp), fun hHeld => ?_⟩
          clear hf7
          simp only [Act.put, List.setIfInBounds_toArray, List.set_cons_zero, List.set_cons_succ]
          refine call_at (i := 11) (f := ?_) (args := ?_) rfl (by kernel_rfl) (by rfl) ?_ ?_
          rotate_left 2
          · go_simp
            (try (first | with_reducible rfl | (apply And.intro <;> rfl)))
          refine (HRB.out _ hHeld).mono ?_
          rintro e_ w8 ⟨rfl, hf8⟩
          refine ⟨_, rfl, hHeld.and hf8 (by simp), fun hHeld => ?_⟩
          clear hf8
          simp only [Act.put, List.setIfInBounds_toArray, List.set_cons_zero, List.set_cons_succ]
          refine run_at (i := 12) (v := ?_) rfl (by kernel_rfl) (by rfl) (fun _ _ _ h => h) hHeld (fun w1 hw1 => ?_) ?_
          rotate_left 1
          · skip
            go_simp
            (try (first | with_reducible rfl | (apply And.intro <;> rfl)))
          simp only [Act.put, List.setIfInBounds_toArray, List.set_cons_zero, List.set_cons_succ]
          refine wpAnyH_done (by kernel_rfl) ?_ _
          go_wp2_with fail
          go_meet
          have h := HE'.out
          exact ⟨l', T', rfl, Lib.hid (HB5.out.keep hHeld (by simp)), Lib.hid (HR5.out.keep hHeld (by simp)), Lib.hid ⟨h.1, h.2.1, by have := h.2.2.1; omega, HF5w.out.trans hHeld (by simp), h.2.2.2.2⟩⟩
        · have hqd : (v.d % 3 == 2) = false := by simp [hq]
          clear hq
          have hc4 := HC4.out
          go_wp2_with fail
          clear hc4
          refine (copy_full A4 b.length c4 b w5 HY5.out (by have := H40.out; omega)).mono ?_
          rintro e_ w6 ⟨A6, c6, s6, rfl, hfu, hf6, hn6, hm6⟩
          have HFU := Lib.hid hfu
          have HF6 := Lib.hid hf6
          have HN6 := Lib.hid hn6
          have HM6 := Lib.hid hm6
          have HB6 := Lib.hid (HB5.out.keep hf6 (by simp))
          have HR6 := Lib.hid (HR5.out.keep hf6 (by simp))
          have HS5 := Lib.hid HB5.out.lt
          have HT5 := Lib.hid HR5.out.lt
          have HGB : Hid (gb < w5.heap.size) := Lib.hid HBK5.out.lt
          have hc1 := hf6.cell HC1.out (by simp)
          clear hfu hf6 hn6 hm6
          go_wp2_with fail
          refine (sign_any w6 S g l' HB6.out v.by_ HOKB.out.y A6 b.length c6 b HFU.out.by (by have := H40.out; simp only [maxLen]; omega) (by have := HE'.out.2.2.1; have := HLL.out; omega)).mono ?_
          rintro e_ w7 ⟨rfl, hb7, hf7⟩
          have hrt := rightB_sgn l' v.by_ b
          have hsl := sgn_len l' (v.by_, b)
          have hsn := sgn_nodup HE'.out.1 (v.by_, b)
          have HFU7 := Lib.hid (HFU.out.keep hf7 (fun x hx hm => by have := HN6.out x hx; have := HS5.out x hm; omega))
          have HB7 := Lib.hid hb7
          have HR7 := Lib.hid (HR6.out.keep hf7 (fun x hx hm => HE'.out.2.1 x hm hx))
          have HF7 : Hid (Fr (S ++ T) w w7) := Lib.hid ((HF5w.out.trans HF6.out (by simp)).trans hf7 (fun x hx _ => by simp [hx]))
          have HF67 := Lib.hid hf7
          have HBK7 := Lib.hid (HBK5.out.keep (HF6.out.mono (T := S) (by simp) |>.trans hf7 (fun x hx _ => hx)) (fun hm => by have := HGS.out gb hm; exact this rfl))
          have HSZ7 : Hid (w5.heap.size ≤ w6.heap.size ∧ w6.heap.size ≤ w7.heap.size ∧ w.heap.size ≤ w5.heap.size) := Lib.hid ⟨HF6.out.size, hf7.size, HF5w.out.size⟩
          have HRT := Lib.hid hrt
          have HSL := Lib.hid hsl
          have HSN := Lib.hid hsn
          have HX6 : Hid (∀ x ∈ bk A6, x < w6.heap.size) := Lib.hid HFU.out.lt
          have hrs := fun W hR => refsign_any W T' r l' hR HE'.out.1 v.by_ A4 b.length c4 b
          have HRS2 := Lib.hid hrs
          clear hb7 hf7 hrt hsl hsn hrs hc1
          generalize sgn l' (v.by_, b) = l2 at *
          generalize mrk l2 (v.by_, b) = mk at *
          go_upto_region 11 with (fail)
          have HBS : Hid (Blk (w7.alloc (Obj.cells #[.int .i64 v.by_, .int .i64 mk] 39)) w7.heap.size 39 #[.int .i64 v.by_, .int .i64 mk]) := Lib.hid (Blk.new _ _ _)
          have HF8 : Hid (Fr [] w7 (w7.alloc (Obj.cells #[.int .i64 v.by_, .int .i64 mk] 39))) := Lib.hid ((Fr.refl [] w7).alloc _)
          generalize w7.alloc (Obj.cells #[.int .i64 v.by_, .int .i64 mk] 39) = w8 at *
          generalize hgs : w7.heap.size = gs at *
          have HGS7 := Lib.hid hgs
          clear hgs
          have hfu8 := HFU7.out.keep HF8.out (by simp)
          go_wp2_with fail
          refine (spoil_any A6 b.length c6 b s6 w8 hfu8 HM6.out).mono ?_
          clear hfu8
          rintro e_ w9 ⟨rfl, hf9⟩
          have hbkw : ∀ x ∈ bk A6, w5.heap.size ≤ x ∧ x < w7.heap.size := fun x hx => ⟨HN6.out x hx, by have := HX6.out x hx; have := HSZ7.out; have := HGS7.out; omega⟩
          have HBS9 := Lib.hid (HBS.out.keep hf9 (fun hm => by have := (hbkw _ hm).2; have := HGS7.out; omega))
          have HB9 := Lib.hid ((HB7.out.keep HF8.out (by simp)).keep hf9 (fun x hx hm => by have := (hbkw x hm).1; have := HS5.out x hx; omega))
          have HR9 := Lib.hid ((HR7.out.keep HF8.out (by simp)).keep hf9 (fun x hx hm => by have := (hbkw x hm).1; have := HT5.out x hx; omega))
          have HBK9 := Lib.hid ((HBK7.out.keep HF8.out (by simp)).keep hf9 (fun hm => by have := (hbkw _ hm).1; have := HGB.out; omega))
          have HA5 : Hid (∀ a, A4 = some a → wb.heap.size ≤ a.block ∧ a.block < w5.heap.size) := Lib.hid (fun a ha => by have h := HA4.out a.block (by simp [bk, ha]); have := HSZ5.out; omega)
          have HY9 := Lib.hid ((((HY5.out.keep HF6.out (by simp)).keep HF67.out (fun a ha hm => by have := (HA5.out a ha).1; have := HSW.out _ hm; omega)).keep HF8.out (by simp)).keep hf9 (fun a ha hm => by have := (HA5.out a ha).2; have := (hbkw _ hm).1; omega))
          have HF9 : Hid (Fr (S ++ T) w w9) := Lib.hid ((HF7.out.trans HF8.out (by simp)).trans hf9 (fun x hx hl => absurd hl (by have := (hbkw x hx).1; have := HSZ7.out; omega)))
          clear hf9 hbkw
          have hc91 := HBK9.out.cell 1
          have hc94 := HBK9.out.cell 4
          simp [Act3V.cells] at hc91 hc94
          have HC1 := Lib.hid hc91
          have HC4 := Lib.hid hc94
          have hgT : ¬ gb ∈ T' := fun hm => HGT.out gb hm rfl
          have hgsT : ¬ gs ∈ T' := fun hm => by have := HT5.out gs hm; have := HSZ7.out; have := HGS7.out; omega
          have HNS := Lib.hid hgT
          have HNW := Lib.hid hgsT
          have hsg : ∀ W : World, (Op.equalIn 10000 39 (.agg #[.int .i64 v.by_, .int .i64 mk]) (.agg #[.int .i64 v.by_, .int .i64 mk])).run Try.prog W = .ok true W := fun W => by
            have h := eql_sig v.by_ mk v.by_ mk 9998 W
            simpa using h
          have HSG := Lib.hid hsg
          clear hc91 hc94 hgT hgsT hsg
          go_upto_region 12 with (fail)
          refine wp_region_held_drew (S := Fr T' w9) (by kernel_rfl) (Fr.drew (Fr.refl _ w9)) (fun hHeld => ?_)
          refine row_at (i := 0) rfl (by kernel_rfl) (by rfl) _ _ rfl _ _ rfl _ (fun w1 hw1 => hw1.range (HBS9.out.range) (by first | (simp; done) | exact HNS.out | exact HNW.out | (intro hm; have hlt := HSB.out _ hm; (try dsimp only at hlt); omega))) (row_sgp) (fun _ _ _ h => h) hHeld ?_
          simp only [Act.put, List.setIfInBounds_toArray, List.set_cons_zero, List.set_cons_succ]
          refine run_at (i := 1) (v := ?_) rfl (by kernel_rfl) (by rfl) (fun _ _ _ h => h) hHeld (fun w1 hw1 => ?_) ?_
          rotate_left 1
          · skip
            go_simp
            (try (first | with_reducible rfl | (apply And.intro <;> rfl)))
          simp only [Act.put, List.setIfInBounds_toArray, List.set_cons_zero, List.set_cons_succ]
          refine run_at (i := 2) (v := ?_) rfl (by kernel_rfl) (by rfl) (fun _ _ _ h => h) hHeld (fun w1 hw1 => ?_) ?_
          rotate_left 1
          · skip
            go_simp
            (try (first | with_reducible rfl | (apply And.intro <;> rfl)))
          simp only [Act.put, List.setIfInBounds_toArray, List.set_cons_zero, List.set_cons_succ]
          refine run_at (i := 3) (v := ?_) rfl (by kernel_rfl) (by rfl) (fun _ _ _ h => h) hHeld (fun w1 hw1 => ?_) ?_
          rotate_left 1
          · skip
            have hcw0 := hw1.cell (HC1.out) (by first | (simp; done) | exact HNS.out | exact HNW.out | (intro hm; have hlt := HSB.out _ hm; (try dsimp only at hlt); omega))
            go_simp
            (try (first | with_reducible rfl | (apply And.intro <;> rfl)))
          simp only [Act.put, List.setIfInBounds_toArray, List.set_cons_zero, List.set_cons_succ]
          refine run_at (i := 4) (v := ?_) rfl (by kernel_rfl) (by rfl) (fun _ _ _ h => h) hHeld (fun w1 hw1 => ?_) ?_
          rotate_left 1
          · skip
            go_simp
            (try (first | with_reducible rfl | (apply And.intro <;> rfl)))
          simp only [Act.put, List.setIfInBounds_toArray, List.set_cons_zero, List.set_cons_succ]
          refine run_at (i := 5) (v := ?_) rfl (by kernel_rfl) (by rfl) (fun _ _ _ h => h) hHeld (fun w1 hw1 => ?_) ?_
          rotate_left 1
          · skip
            have hcw0 := hw1.cell (HC4.out) (by first | (simp; done) | exact HNS.out | exact HNW.out | (intro hm; have hlt := HSB.out _ hm; (try dsimp only at hlt); omega))
            go_simp
            (try (first | with_reducible rfl | (apply And.intro <;> rfl)))
          simp only [Act.put, List.setIfInBounds_toArray, List.set_cons_zero, List.set_cons_succ]
          refine call_at (i := 6) (f := ?_) (args := ?_) rfl (by kernel_rfl) (by rfl) ?_ ?_
          rotate_left 2
          · go_simp
            (try (first | with_reducible rfl | (apply And.intro <;> rfl)))
          refine (HRS2.out _ (HR9.out.keep (Fr.drew (Fr.refl [] w9)) (by simp)) (HY9.out.drew) (by have := HE'.out.2.2.1; have := HLL.out; omega)).mono ?_
          rintro e_ wx ⟨rfl, T2, hr2, hf2, ht2⟩
          have HR2 := Lib.hid hr2
          have HT2 := Lib.hid ht2
          refine ⟨_, rfl, hHeld.trans hf2 (fun x hx _ => hx), fun hHeld => ?_⟩
          clear hr2 ht2 hf2
          simp only [Act.put, List.setIfInBounds_toArray, List.set_cons_zero, List.set_cons_succ]
          refine neq_at (i := 7) rfl (by kernel_rfl) (by rfl) _ _ _ _ rfl _ _ rfl rfl _ (by kernel_rfl) (HSG.out) (fun _ _ _ h => h) hHeld ?_
          simp only [Act.put, List.setIfInBounds_toArray, List.set_cons_zero, List.set_cons_succ]
          rw [show (!true) = false from rfl]
          refine run_at (i := 8) (v := ?_) rfl (by kernel_rfl) (by rfl) (fun _ _ _ h => h) hHeld (fun w1 hw1 => ?_) ?_
          rotate_left 1
          · skip
            go_simp
            (try (first | with_reducible rfl | (apply And.intro <;> rfl)))
          simp only [Act.put, List.setIfInBounds_toArray, List.set_cons_zero, List.set_cons_succ]
          refine run_at (i := 9) (v := ?_) rfl (by kernel_rfl) (by rfl) (fun _ _ _ h => h) hHeld (fun w1 hw1 => ?_) ?_
          rotate_left 1
          · skip
            go_simp
            (try (first | with_reducible rfl | (apply And.intro <;> rfl)))
          simp only [Act.put, List.setIfInBounds_toArray, List.set_cons_zero, List.set_cons_succ]
          refine row_at (i := 10) rfl (by kernel_rfl) (by rfl) _ _ rfl _ _ rfl _ (fun w1 hw1 => hw1.range (HBS9.out.range) (by first | (simp; done) | exact HNS.out | exact HNW.out | (intro hm; have hlt := HSB.out _ hm; (try dsimp only at hlt); omega))) (row_sgp) (fun _ _ _ h => h) hHeld ?_
          simp only [Act.put, List.setIfInBounds_toArray, List.set_cons_zero, List.set_cons_succ]
          refine run_at (i := 11) (v := ?_) rfl (by kernel_rfl) (by rfl) (fun _ _ _ h => h) hHeld (fun w1 hw1 => ?_) ?_
          rotate_left 1
          · skip
            go_simp
            (try (first | with_reducible rfl | (apply And.intro <;> rfl)))
          simp only [Act.put, List.setIfInBounds_toArray, List.set_cons_zero, List.set_cons_succ]
          refine run_at (i := 12) (v := ?_) rfl (by kernel_rfl) (by rfl) (fun _ _ _ h => h) hHeld (fun w1 hw1 => ?_) ?_
          rotate_left 1
          · skip
            have hcw0 := hw1.cell (HC4.out) (by first | (simp; done) | exact HNS.out | exact HNW.out | (intro hm; have hlt := HSB.out _ hm; (try dsimp only at hlt); omega))
            go_simp
            (try (first | with_reducible rfl | (apply And.intro <;> rfl)))
          simp only [Act.put, List.setIfInBounds_toArray, List.set_cons_zero, List.set_cons_succ]
          have hrr := right_any wx S g l2 (HB9.out.keep hHeld HE'.out.2.1) v.by_ mk HOKB.out.y A4 b.length c4 b (HY9.out.keep hHeld (fun a ha hm => by have := (HA5.out a ha).1; have := HTW.out _ hm; omega)) (by have := H40.out; simp only [maxLen]; omega)
          rw [HRT.out] at hrr
          refine call_at (i := 13) (f := ?_) (args := ?_) rfl (by kernel_rfl) (by rfl) ?_ ?_
          rotate_left 2
          · go_simp
            (try (first | with_reducible rfl | (apply And.intro <;> rfl)))
          refine hrr.mono ?_
          clear hrr
          rintro e_ wy ⟨rfl, hfy⟩
          have HR2 := Lib.hid (HR2.out.keep hfy (by simp))
          refine ⟨_, rfl, hHeld.trans hfy (by simp), fun hHeld => ?_⟩
          clear hfy
          simp only [Act.put, List.setIfInBounds_toArray, List.set_cons_zero, List.set_cons_succ]
          refine run_at (i := 14) (v := ?_) rfl (by kernel_rfl) (by rfl) (fun _ _ _ h => h) hHeld (fun w1 hw1 => ?_) ?_
          rotate_left 1
          · skip
            go_simp
            (try (first | with_reducible rfl | (apply And.intro <;> rfl)))
          simp only [Act.put, List.setIfInBounds_toArray, List.set_cons_zero, List.set_cons_succ]
          refine run_at (i := 15) (v := ?_) rfl (by kernel_rfl) (by rfl) (fun _ _ _ h => h) hHeld (fun w1 hw1 => ?_) ?_
          rotate_left 1
          · skip
            go_simp
            (try (first | with_reducible rfl | (apply And.intro <;> rfl)))
          simp only [Act.put, List.setIfInBounds_toArray, List.set_cons_zero, List.set_cons_succ]
          refine wpAnyH_done (by kernel_rfl) ?_ _
          go_wp2_with fail
          go_meet
          have h := HE'.out
          refine ⟨l2, T2, rfl, Lib.hid (HB9.out.keep hHeld h.2.1), HR2, Lib.hid ⟨HSN.out, fun x hx hm => ?_, by have := h.2.2.1; have := HSL.out; omega, HF9.out.trans hHeld (fun x hx hl => by have := h.2.2.2.2 x hx hl; simp [this]), fun y hy hl => ?_⟩⟩
          · have h9 : x < w9.heap.size := HB9.out.lt x hx
            exact h.2.1 x hx (HT2.out x hm (by simpa using h9))
          · exact h.2.2.2.2 y (HT2.out y hy (by have := HF9.out.size; show y < w9.heap.size; omega)) hl
      case rest =>
        obtain ⟨l2, T2, rfl, HB2', HR2', HE2⟩ := hcut
        obtain ⟨w9, hw9⟩ : ∃ w9, w9 = wc := ⟨_, rfl⟩
        subst hw9
        obtain ⟨Ar, cr, hTr, hbr, hor⟩ := HR2'.out
        have hcr := hbr.cell 0
        simp only [List.getElem?_toArray, List.getElem?_cons_zero] at hcr
        have HCR := Lib.hid hcr
        have hneq : ((l2.length : Int) != (l2.length : Int)) = false := by simp
        clear hTr hbr hor hcr
        go_upto_region 14 with (fail)
        refine wp_region_held_drew (S := Fr [] w9) (by kernel_rfl) (Fr.drew (Fr.refl _ w9)) (fun hHeld => ?_)
        refine run_at (i := 0) (v := ?_) rfl (by kernel_rfl) (by rfl) (fun _ _ _ h => h) hHeld (fun w1 hw1 => ?_) ?_
        rotate_left 1
        · skip
          go_simp
          (try (first | with_reducible rfl | (apply And.intro <;> rfl)))
        simp only [Act.put, List.setIfInBounds_toArray, List.set_cons_zero, List.set_cons_succ]
        refine run_at (i := 2) (v := ?_) rfl (by kernel_rfl) (by rfl) (fun _ _ _ h => h) hHeld (fun w1 hw1 => ?_) ?_
        rotate_left 1
        · skip
          go_simp
          (try (first | with_reducible rfl | (apply And.intro <;> rfl)))
        simp only [Act.put, List.setIfInBounds_toArray, List.set_cons_zero, List.set_cons_succ]
        refine run_at (i := 3) (v := ?_) rfl (by kernel_rfl) (by rfl) (fun _ _ _ h => h) hHeld (fun w1 hw1 => ?_) ?_
        rotate_left 1
        · skip
          go_simp
          (try (first | with_reducible rfl | (apply And.intro <;> rfl)))
        simp only [Act.put, List.setIfInBounds_toArray, List.set_cons_zero, List.set_cons_succ]
        refine run_at (i := 4) (v := ?_) rfl (by kernel_rfl) (by rfl) (fun _ _ _ h => h) hHeld (fun w1 hw1 => ?_) ?_
        rotate_left 1
        · skip
          go_simp
          (try (first | with_reducible rfl | (apply And.intro <;> rfl)))
        simp only [Act.put, List.setIfInBounds_toArray, List.set_cons_zero, List.set_cons_succ]
        refine run_at (i := 5) (v := ?_) rfl (by kernel_rfl) (by rfl) (fun _ _ _ h => h) hHeld (fun w1 hw1 => ?_) ?_
        rotate_left 1
        · skip
          have hcw0 := hw1.cell (HCR.out) (by first | (simp; done) | exact HNS.out | exact HNW.out | (intro hm; have hlt := HSB.out _ hm; (try dsimp only at hlt); omega))
          go_simp
          (try (first | with_reducible rfl | (apply And.intro <;> rfl)))
        simp only [Act.put, List.setIfInBounds_toArray, List.set_cons_zero, List.set_cons_succ]
        refine run_at (i := 6) (v := ?_) rfl (by kernel_rfl) (by rfl) (fun _ _ _ h => h) hHeld (fun w1 hw1 => ?_) ?_
        rotate_left 1
        · skip
          go_simp
          (try (first | with_reducible rfl | (apply And.intro <;> rfl)))
        simp only [Act.put, List.setIfInBounds_toArray, List.set_cons_zero, List.set_cons_succ]
        refine call_at (i := 1) (f := ?_) (args := ?_) rfl (by kernel_rfl) (by rfl) ?_ ?_
        rotate_left 2
        · go_simp
          (try (first | with_reducible rfl | (apply And.intro <;> rfl)))
        refine (len_any _ S g l2 (HB2'.out.keep hHeld (by simp))).mono ?_
        rintro e_ wx ⟨rfl, rfl⟩
        refine ⟨_, rfl, hHeld, fun hHeld => ?_⟩
        simp only [Act.put, List.setIfInBounds_toArray, List.set_cons_zero, List.set_cons_succ]
        refine run_at (i := 7) (v := ?_) rfl (by kernel_rfl) (by rfl) (fun _ _ _ h => h) hHeld (fun w1 hw1 => ?_) ?_
        rotate_left 1
        · skip
          go_simp
          (try (first | with_reducible rfl | (apply And.intro <;> rfl)))
        simp only [Act.put, List.setIfInBounds_toArray, List.set_cons_zero, List.set_cons_succ]
        refine wpAnyH_done (by kernel_rfl) ?_ _
        go_wp2
        go_roundw
        case rel =>
          have h := HE2.out
          exact ⟨k + 1, l2, T2, by omega, by omega, by go_num, Lib.hid (HB2'.out.keep hHeld (by simp)), Lib.hid (HR2'.out.keep hHeld (by simp)), Lib.hid ⟨h.1, h.2.1, by have := h.2.2.1; omega, h.2.2.2.1.trans hHeld (by simp), h.2.2.2.2⟩⟩
        case measure => simp [intOf]; omega
    · have hfin : ∃ l2 T2, Bok wr S g l2 ∧ RBk wr T2 r l2 ∧ l2.Nodup ∧ (∀ x ∈ S, ¬ x ∈ T2) ∧ l2.length ≤ l.length + 30 ∧ Fr (S ++ T) w wr ∧ ∀ y ∈ T2, y < w.heap.size → y ∈ T :=
        ⟨l', T', HB'.out, HR'.out, HE'.out.1, HE'.out.2.1, by have := HE'.out.2.2.1; omega, HE'.out.2.2.2.1, HE'.out.2.2.2.2⟩
      have HFIN := Lib.hid hfin
      clear hfin
      by_cases hkn' : k < n
      · have hk30' : k = 30 := by omega
        subst hk30'
        go_wp2
        go_ret
        exact ⟨rfl, HFIN.out⟩
      · have hd : decide (k < n) = false := by simp; omega
        have hd2 : decide ((k : Int) < (n : Int)) = false := by simp; omega
        clear hkn'
        go_wp2
        go_ret
        exact ⟨rfl, HFIN.out⟩
end Go.Proofs.Ytjlmackfmmaknaa
