/- Proved here: CodeWrites' statement: for every list of calls the law returns true. Conditions: none. -/
import Derived.Test.YtcnngdhjeihecaaTwo
import Derived.Test.YtcnngdhjeihecaaOpen
import Derived.Deep.RegionWith
import Derived.Stop.BytesEq
import Derived.Deep.DeepCutAuto
import Derived.Deep.CutBlock
import Derived.Deep.RegionHeld3
namespace Go.Proofs.Ytcnngdhjeihecaa
open Go.RowKit
attribute [local go_sem ↓] exec_load_hash_any
attribute [local go_sem] addrOf_ptr isLoadHash_load loadOf_load

set_option maxRecDepth 100000 in
set_option maxHeartbeats 20000000 in
theorem writes_walk (w : World) (A : Option Addr) (n c : Nat) (l : List ActV) (hl : Acts w A n l) (hc : n ≤ c) (hx : c ≤ maxLen) :
    Calls Try.prog 4 #[.slice A n c] w fun e w' => e = .returned (.bool true) ∧ Fr [] w w' := by
  unfold maxLen at hx
  have hnm : n ≤ 9223372036854775807 := by omega
  have HL := Lib.hid hl
  have hneq := neq_wr
  clear hl hx hc
  go_enter Try.func4, Try.ntmps4
  go_wp2_with fail
  refine (newWriter_any w).mono ?_
  rintro e w1 ⟨rfl, hw1, hb1⟩
  have HT1 : Hid (Two w w1 w.heap.size [w.heap.size] [] none 0 []) := Lib.hid ⟨hw1, ⟨⟨rfl, .inl ⟨rfl, rfl⟩⟩, hb1, by simp [bk]⟩, by simp [bk]⟩
  clear hw1 hb1
  go_wp2_with fail
  go_loopw [4, 5] (fun x i wr => ∃ (k : Nat) (S : List Nat) (A2 : Option Addr) (c2 : Nat) (L : List UInt8), k ≤ n ∧ k ≤ 20 ∧ i = .int .i64 k ∧ x = .slice A2 L.length c2 ∧ L = puts (l.take k) ∧ L.length ≤ 120 * k ∧ Two w wr w.heap.size S L A2 c2 L) (fun _ i _ => 20 - (intOf i).toNat)
  case atStart => exact ⟨0, [w.heap.size], none, 0, [], by omega, by omega, rfl, rfl, rfl, by simp, HT1.out⟩
  case round =>
    obtain ⟨k, S, A2, c2, L, hk, hk20, rfl, rfl, hL, hlen, htwo⟩ := hrel
    have HTW := Lib.hid htwo
    have HLEN := Lib.hid hlen
    have HPL := Lib.hid hL
    clear htwo hlen HT1 hL
    by_cases hlt : k < n ∧ k < 20
    · obtain ⟨hkn, hk2⟩ := hlt
      obtain ⟨ad, v, rfl, hg, hok, hcells⟩ := HL.out.at HTW.out.2.1.2.1.below_all hkn
      have HOK := Lib.hid hok
      have HG := Lib.hid hg
      have HCELLS := Lib.hid hcells
      have hk0 : (0 : Int) ≤ k := by omega
      clear hg hok hcells
      go_wp2_with (first
        | (refine wpList_load_cells rfl 46 _ rfl (ad.add (k * 36)) rfl v.cells _ (fun j x hx => by rw [add_add]; exact HCELLS.out j x hx) Try.underlying46 rfl (by rw [act_size, HOK.out.len]) ?_)
        | (refine wpList_store_box rfl 46 _ _ rfl _ 46 v.cells rfl rfl (by rw [act_size, HOK.out.len]) (by rw [HOK.out.len]; rfl) v.one ?_
           intro wb hblk hfb
           have hc3 := (ActV.in_blk hblk).2.2.2.1
           have hz3 := hblk.frozen 3
           have HBLK := Lib.hid hblk
           have HOKB := Lib.hid (HOK.out.keep hfb (by simp))
           have HFB := Lib.hid hfb
           have HTB := Lib.hid (HTW.out.same hfb)
           have hgb : w.heap.size ≤ wr.heap.size := HTW.out.2.1.2.1.size
           have hbS : ∀ x ∈ S, x < wr.heap.size := HTW.out.1.lt
           have hbA : ∀ x ∈ bk A2, x < wr.heap.size := HTW.out.2.1.lt
           have HGB := Lib.hid hgb
           have HBS := Lib.hid hbS
           have HBA := Lib.hid hbA
           clear hblk hfb hgb hbS hbA))
      generalize wr.heap.size = gb at *
      rw [show (100 : Int) = ((100 : Nat) : Int) from rfl]
      refine (cut_any v.A v.m v.c 100 v.b wb HOKB.out.b (Nat.le_trans HOKB.out.m HOKB.out.c) HOKB.out.m (by omega)).mono ?_
      rintro e w4 ⟨A4, c4, rfl, hN4⟩
      have hblk4 := HBLK.out.keep hN4.2.1 (by simp)
      have hz4 := hblk4.frozen 3
      have hgw : gb < wb.heap.size := HBLK.out.lt
      have hA4 : ∀ a, A4 = some a → ¬ a.block ∈ [gb] := by
        rintro a rfl hx
        have := hN4.2.2 a.block (by simp [bk])
        simp at hx
        omega
      have hf5 : Fr [gb] w4 (w4.setCell ⟨gb, 3, none⟩ (.slice A4 (v.b.take 100).length c4)) := (Fr.refl _ w4).setCell _ (fun _ => by simp) _
      have HBL5 := Lib.hid (ActV.reb hblk4 A4 (v.b.take 100).length c4 (v.b.take 100))
      have HTW5 := Lib.hid ((HTB.out.same hN4.2.1).fr hf5 (by
        intro x hx
        simp at hx
        subst hx
        exact ⟨HGB.out, fun h => by have := HBS.out _ h; omega, fun h => by have := HBA.out _ h; omega⟩))
      have HB5 := Lib.hid (hN4.by.keep hf5 hA4)
      have HA5 : Hid (∀ x ∈ bk A4, x ≠ gb ∧ ¬ x ∈ S ∧ ¬ x ∈ bk A2 ∧ w.heap.size ≤ x) := Lib.hid (fun x hx => by
        have h1 := hN4.2.2 x hx
        have h2 := HGB.out
        exact ⟨by omega, fun h => by have := HBS.out _ h; omega, fun h => by have := HBA.out _ h; omega, by omega⟩)
      have HLA5 : Hid (∀ x ∈ bk A4, x < (w4.setCell ⟨gb, 3, none⟩ (.slice A4 (v.b.take 100).length c4)).heap.size) := Lib.hid (fun x hx => by have := hN4.lt x hx; have := hf5.size; omega)
      have HP := Lib.hid (puts_snoc HG.out)
      have HPO := Lib.hid (putOf_len HOKB.out)
      have hd1 := HOKB.out.d1
      have hd2 := HOKB.out.d2
      have hn1 := HOKB.out.n1
      have hn2 := HOKB.out.n2
      have hu := HOKB.out.u
      have HH := Lib.hid HOKB.out.h
      have H100 : Hid ((v.b.take 100).length ≤ 100) := Lib.hid (List.length_take_le _ _)
      have HPE : Hid (putOf v = if v.d % 4 = 0 then enc v.u else if v.d % 4 = 1 then enc v.n.toNat else if v.d % 4 = 2 then enc (v.b.take 100).length ++ v.b.take 100 else v.h) := Lib.hid rfl
      have HD := Lib.hid (And.intro hd1 hd2)
      have HNN := Lib.hid (And.intro hn1 hn2)
      have HU := Lib.hid hu
      have hq0 := (ActV.in_blk hblk4).1
      have hq3 := (ActV.in_blk hblk4).2.2.2.1
      have hgbS : ¬ gb ∈ S := fun h => by have := HBS.out _ h; omega
      have hgbA : ¬ gb ∈ bk A2 := fun h => by have := HBA.out _ h; omega
      have HGBS := Lib.hid hgbS
      have HGBA := Lib.hid hgbA
      clear hN4 hf5 hA4 hblk4 HTB HTW hc3 hz3 HFB hgw hd1 hd2 hn1 hn2 hu HOK HCELLS HG hgbS hgbA
      rw [← HPL.out] at HP
      generalize putOf v = pv at *
      generalize v.b.take 100 = b at *
      go_wp2_with fail
      generalize w4.setCell ⟨gb, 3, none⟩ (.slice A4 b.length c4) = w5 at *
      clear hq0 hz4 hq3
      have hc1 : w5.cell? ⟨gb, 1, none⟩ = some (.int .i64 v.n) := (ActV.in_blk HBL5.out).2.1
      have hc2 : w5.cell? ⟨gb, 2, none⟩ = some (.int .u64 v.u) := (ActV.in_blk HBL5.out).2.2.1
      have hc3 : w5.cell? ⟨gb, 3, none⟩ = some (.slice A4 b.length c4) := (ActV.in_blk HBL5.out).2.2.2.1
      have HC4 : Hid (∀ j x, (v.h.map by8)[j]? = some x → w5.cell? ((⟨gb, 4, none⟩ : Addr).add j) = some x) := Lib.hid (ActV.in_blk HBL5.out).2.2.2.2
      refine (within_pos v.d 4 HD.out.1 HD.out.2 (by omega) (by omega) w5).mono ?_
      rintro e w5' ⟨rfl, rfl⟩
      have hq : v.d % 4 = 0 ∨ v.d % 4 = 1 ∨ v.d % 4 = 2 ∨ v.d % 4 = 3 := by omega
      have hLs : L.length ≤ 2400 := by have := HLEN.out; omega
      have HLS := Lib.hid hLs
      clear hLs
      rcases hq with hq | hq | hq | hq
      · have hab := HPE.out
        rw [if_pos hq] at hab
        subst hab
        rw [hq]
        clear hq
        go_wp2_with fail
        refine (num_any v.u HU.out w5 S w.heap.size L HTW5.out.1 (by have := HLS.out; omega)).mono ?_
        rintro e w6 ⟨rfl, S6, h1, h2, h3⟩
        have HT6 := Lib.hid (HTW5.out.wr h1 h2 h3)
        have hc2' := h2.cell hc2 HGBS.out
        clear h1 h2 h3 hc1 hc2 hc3 HC4
        go_wp2_with fail
        refine (refnum_any v.u HU.out w6).mono ?_
        rintro e w7 ⟨A7, c7, rfl, hN7⟩
        have HN7 := Lib.hid hN7
        have HT7 := Lib.hid (HT6.out.same hN7.2.1)
        clear hN7 hc2'
        go_wp2_with (at_builtin; refine Stop.mk ?_)
        refine Stop.go ?_
        refine wpList_append_bytes _ rfl (.tmp 50) (.tmp 53) _ rfl 5 Try.underlying23 info_u8 (.slice A2 L.length c2) L.length L rfl HT7.out.2.1.1 A7 (enc v.u).length c7 (enc v.u) rfl HN7.out.by (by have := HLS.out; have := HPO.out; omega) ?_
        intro A8 c8 w8 ho8 hg8 hat8
        have HT8 := Lib.hid (HT7.out.grow ho8 hg8 hat8 rfl)
        clear ho8 hg8 hat8
        go_wp2
        go_roundw
        case rel => exact ⟨k + 1, S6, A8, c8, L ++ enc v.u, by omega, by omega, by go_num, by simp, HP.out.symm, by rw [List.length_append]; have := HPO.out; have := HLEN.out; omega, HT8.out⟩
        case measure => simp [intOf]; omega
      · have hab := HPE.out
        rw [if_neg (by omega), if_pos hq] at hab
        subst hab
        rw [hq]
        clear hq
        go_wp2_with fail
        refine (wint_any v.n HNN.out.1 HNN.out.2 w5 S w.heap.size L HTW5.out.1 (by have := HLS.out; omega)).mono ?_
        rintro e w6 ⟨rfl, S6, h1, h2, h3⟩
        have HT6 := Lib.hid (HTW5.out.wr h1 h2 h3)
        have hc1' := h2.cell hc1 HGBS.out
        clear h1 h2 h3 hc1 hc2 hc3 HC4
        go_wp2_with fail
        refine (refint_any v.n HNN.out.1 HNN.out.2 w6).mono ?_
        rintro e w7 ⟨A7, c7, rfl, hN7⟩
        have HN7 := Lib.hid hN7
        have HT7 := Lib.hid (HT6.out.same hN7.2.1)
        clear hN7 hc1'
        go_wp2_with (at_builtin; refine Stop.mk ?_)
        refine Stop.go ?_
        refine wpList_append_bytes _ rfl (.tmp 61) (.tmp 64) _ rfl 5 Try.underlying23 info_u8 (.slice A2 L.length c2) L.length L rfl HT7.out.2.1.1 A7 (enc v.n.toNat).length c7 (enc v.n.toNat) rfl HN7.out.by (by have := HLS.out; have := HPO.out; omega) ?_
        intro A8 c8 w8 ho8 hg8 hat8
        have HT8 := Lib.hid (HT7.out.grow ho8 hg8 hat8 rfl)
        clear ho8 hg8 hat8
        go_wp2
        go_roundw
        case rel => exact ⟨k + 1, S6, A8, c8, L ++ enc v.n.toNat, by omega, by omega, by go_num, by simp, HP.out.symm, by rw [List.length_append]; have := HPO.out; have := HLEN.out; omega, HT8.out⟩
        case measure => simp [intOf]; omega
      · have hab := HPE.out
        rw [if_neg (by omega), if_neg (by omega), if_pos hq] at hab
        subst hab
        rw [hq]
        clear hq
        have hb100 : b.length ≤ 1073741824 := by have := H100.out; omega
        have HBI := Lib.hid hb100
        clear hb100
        go_wp2_with fail
        refine (lend_any A4 b.length c4 b w5 HB5.out HBI.out).mono ?_
        rintro e w6 ⟨g6, rfl, hlb, hg6, hf6⟩
        have HLB6 := Lib.hid hlb
        have hg6S : ∀ x ∈ S, x ≠ g6 := fun x hx => by have := HTW5.out.1.lt x hx; omega
        have hg6A : ¬ g6 ∈ bk A2 := fun hx => by have := HTW5.out.2.1.lt g6 hx; omega
        have HG6A := Lib.hid hg6A
        have HTW6 := Lib.hid (HTW5.out.same hf6)
        have HB6 := Lib.hid (HB5.out.keep hf6 (by simp))
        have hc36 := hf6.cell hc3 (by simp)
        have hby6 : By w6 (some ⟨g6, 0, none⟩) b.length b := by
          have h := (By.blk (lent b) hlb rfl).take (k := b.length) (by rw [lent_len]; omega)
          unfold lent at h
          rwa [List.take_left] at h
        have HBY6 := Lib.hid hby6
        have HG6S := Lib.hid hg6S
        have HLA6 : Hid (∀ x ∈ bk A4, x < w6.heap.size) := Lib.hid (fun x hx => by have := HLA5.out x hx; have := hf6.size; omega)
        clear hlb hg6 hf6 hby6 hg6S hg6A hc1 hc2 hc3 HC4 HB5 HTW5
        go_wp2_with fail
        refine (row_any (some ⟨g6, 0, none⟩) b.length (b.length + 3) b w6 HBY6.out HBI.out S (by intro x hx; simp [bk] at hx; subst hx; exact fun h => HG6S.out _ h rfl) w.heap.size L HTW6.out.1 (by have := HLS.out; omega)).mono ?_
        rintro e w7 ⟨rfl, S7, h1, h2, h3⟩
        have HT7 := Lib.hid (HTW6.out.wr h1 h2 h3)
        have hc37 := h2.cell hc36 HGBS.out
        have HB7 := Lib.hid (HB6.out.keep h2 (by rintro a rfl; exact (HA5.out a.block (by simp [bk])).2.1))
        have HLB7 := Lib.hid (HLB6.out.keep h2 (fun h => HG6S.out _ h rfl))
        have HLA7 : Hid (∀ x ∈ bk A4, x < w7.heap.size) := Lib.hid (fun x hx => by have := HLA6.out x hx; have := h2.size; omega)
        clear h1 h2 h3 hc36 HTW6 HB6 HLB6
        go_wp2_with fail
        refine (refrow_any A4 b.length c4 b w7 HB7.out HLA7.out HBI.out).mono ?_
        rintro e w8 ⟨A8, c8, rfl, hN8⟩
        have HN8 := Lib.hid hN8
        have HT8 := Lib.hid (HT7.out.same hN8.2.1)
        have hc38 := hN8.2.1.cell hc37 (by simp)
        have HB8 := Lib.hid (HB7.out.keep hN8.2.1 (by simp))
        have HLB8 := Lib.hid (HLB7.out.keep hN8.2.1 (by simp))
        clear hN8 hc37 HB7 HLB7
        go_wp2_with (at_builtin; refine Stop.mk ?_)
        refine Stop.go ?_
        refine wpList_append_bytes _ rfl (.tmp 74) (.tmp 77) _ rfl 5 Try.underlying23 info_u8 (.slice A2 L.length c2) L.length L rfl HT8.out.2.1.1 A8 ((enc b.length).length + b.length) c8 (enc b.length ++ b) rfl HN8.out.by (by have := HLS.out; have := HPO.out; rw [List.length_append] at this; omega) ?_
        intro A9 c9 w9 ho9 hg9 hat9
        have hf9 : Fr (bk A2) w8 w9 := (Fr.refl _ w8).grown hg9 (fun x hx _ => by rw [bk_mem] at hx; exact hx)
        have HT9 := Lib.hid (HT8.out.grow ho9 hg9 hat9 (by rw [List.length_append]))
        have hc39 := hf9.cell hc38 HGBA.out
        have HB9 := Lib.hid (HB8.out.keep hf9 (by rintro a rfl; exact (HA5.out a.block (by simp [bk])).2.2.1))
        have HLB9 := Lib.hid (HLB8.out.keep hf9 HG6A.out)
        clear ho9 hg9 hat9 hc38 HB8 HLB8 hf9
        go_wp2_with fail
        refine (intact_any A4 g6 b.length c4 b w9 HB9.out HLB9.out HBI.out).mono ?_
        rintro e w10 ⟨rfl, kk, rfl⟩
        have HT10 := Lib.hid (HT9.out.same ((Fr.refl [] w9).drewN kk))
        clear hc39
        go_wp2
        go_roundw
        case rel => exact ⟨k + 1, S7, A9, c9, L ++ (enc b.length ++ b), by omega, by omega, by go_num, by simp, HP.out.symm, by rw [List.length_append]; have := HPO.out; have := HLEN.out; omega, HT10.out⟩
        case measure => simp [intOf]; omega
      · have hab := HPE.out
        rw [if_neg (by omega), if_neg (by omega), if_neg (by omega)] at hab
        subst hab
        rw [hq]
        clear hq hc1 hc2 hc3
        go_wp2_with (first
          | (refine wpList_load_cells rfl 41 _ rfl ⟨gb, 4, none⟩ rfl (v.h.map by8) _ HC4.out Try.underlying41 rfl (by rw [hash_size, List.length_map, HH.out]) ?_)
          | (go_at_call 32; refine Stop.mk ?_))
        refine Stop.go ?_
        refine (hash_any v.h HH.out w5 S w.heap.size L HTW5.out.1 (by have := HLS.out; omega)).mono ?_
        rintro e w6 ⟨rfl, S6, h1, h2, h3⟩
        have HT6 := Lib.hid (HTW5.out.wr h1 h2 h3)
        have HBY6 : Hid (By w6 (some ⟨gb, 4, none⟩) 32 v.h) := Lib.hid ⟨HH.out, fun _ => ⟨_, rfl, fun j u hu => h2.cell (HC4.out j u hu) (by rw [add_block]; exact HGBS.out)⟩⟩
        clear h1 h2 h3 HC4
        go_wp2_with (at_builtin; refine Stop.mk ?_)
        refine Stop.go ?_
        refine wpList_append_bytes _ rfl (.tmp 40) (.tmp 42) _ rfl 5 Try.underlying23 info_u8 (.slice A2 L.length c2) L.length L rfl HT6.out.2.1.1 (some ⟨gb, 4, none⟩) 32 32 v.h rfl HBY6.out (by have := HLS.out; omega) ?_
        intro A8 c8 w8 ho8 hg8 hat8
        have HT8 := Lib.hid (HT6.out.grow ho8 hg8 hat8 HH.out)
        clear ho8 hg8 hat8
        go_wp2
        go_roundw
        case rel => exact ⟨k + 1, S6, A8, c8, L ++ v.h, by omega, by omega, by go_num, by rw [List.length_append, HH.out], HP.out.symm, by rw [List.length_append]; have := HPO.out; have := HLEN.out; omega, HT8.out⟩
        case measure => simp [intOf]; omega
    · have hkx : (n : Int) ≤ k ∨ ((k : Int) < n ∧ (20 : Int) ≤ k) := by omega
      have hLs : L.length ≤ 1073741824 := by have := HLEN.out; omega
      have HLS := Lib.hid hLs
      clear hLs hlt
      have hA2 : ∀ x ∈ bk A2, x < wr.heap.size := HTW.out.2.1.lt
      have hS2 : ∀ x ∈ S, x < wr.heap.size := HTW.out.1.lt
      have hsz : w.heap.size ≤ wr.heap.size := HTW.out.2.1.2.1.size
      have HA2 := Lib.hid hA2
      have HS2 := Lib.hid hS2
      have HSZ := Lib.hid hsz
      clear hA2 hS2 hsz
      rcases hkx with hkx | ⟨hkx0, hkx⟩
      all_goals
        go_wp2_with fail
        refine (bytes_full wr S w.heap.size L HTW.out.1 HLS.out).mono ?_
        rintro e w3 ⟨A3, c3, s3, rfl, hF3, hf3, hn3, hm3⟩
        have HF3 := Lib.hid hF3
        have HN3 := Lib.hid hn3
        have HM3 := Lib.hid hm3
        have HT3 := Lib.hid (HTW.out.same hf3)
        clear hF3 hf3 hn3 hm3
        go_wp2_with fail
        refine (same_any A3 A2 L.length L.length c3 c2 L L w3 HF3.out.by HT3.out.2.1.by HLS.out).mono ?_
        rintro e w4 ⟨rfl, k4, rfl⟩
        rw [show decide (L = L) = true by simp]
        have HF4 := Lib.hid (HF3.out.keep ((Fr.refl [] w3).drewN k4) (by simp))
        have HT4 := Lib.hid (HT3.out.same ((Fr.refl [] w3).drewN k4))
        go_wp2_with fail
        refine (spoil_any A3 L.length c3 L s3 _ HF4.out HM3.out).mono ?_
        rintro e w5 ⟨rfl, hf5⟩
        have HT5 := Lib.hid (HT4.out.fr hf5 (fun x hx => by
          have h1 := HN3.out x hx
          have h2 := HSZ.out
          exact ⟨by omega, fun h => by have := HS2.out x h; omega, fun h => by have := HA2.out x h; omega⟩))
        clear hf5
        go_wp2_with fail
        refine (bytes_any w5 S w.heap.size L HT5.out.1 HLS.out).mono ?_
        rintro e w6 ⟨A6, c6, rfl, hN6⟩
        have HN6 := Lib.hid hN6
        have HT6 := Lib.hid (HT5.out.same hN6.2.1)
        clear hN6
        go_wp2_with fail
        refine (same_any A6 A2 L.length L.length c6 c2 L L w6 HN6.out.by HT6.out.2.1.by HLS.out).mono ?_
        rintro e w7 ⟨rfl, k7, rfl⟩
        rw [show decide (L = L) = true by simp]
        go_wp2_with fail
        refine (wakes_any _).mono ?_
        rintro e w8 ⟨rfl, hf8⟩
        have HF8 := Lib.hid (HT6.out.2.1.2.1.trans (((Fr.refl [] w6).drewN k7).trans hf8 (by simp)) (by simp))
        clear hf8
        go_wp2
        go_ret
        exact ⟨rfl, HF8.out⟩
namespace codeWrites
open Go.ChangeShapes Go.WideShapes Go.ChangeAt
open Go.ChangeMaps (open_string shut_string)
theorem own : ownKnob Try.prog.godebug = none := by kernel_rfl
set_option linter.unusedVariables false
set_option maxRecDepth 100000 in
set_option maxHeartbeats 2000000 in
theorem lifted (os : Os) (started : os.Started) (H : Type) (enc : TypeId × Value → H) :
    ReturnsInHanded {} Try.checked os 4 .any (Rows.codeWritesSpec.pre6 enc Try.prog Try.f4 Rows.codeWritesRow.domain false) (Rows.codeWritesSpec.post enc Try.prog Try.f4 false true false false) := by
  refine returnsInHanded_of_change (C := Try.checked) own started (by kernel_rfl) Try.func4
    (ChangeSpec.witness6 (enc := enc) (C := Try.checked) false ⟨#[], #[.slice none 0 0], []⟩ 8 (by kernel_rfl) (by kernel_rfl) (by kernel_rfl) (by kernel_rfl)) ?_
  intro W base args ds gs before hval0 hW hcnd _
  have hval : ∀ (j : Nat) t v, Try.f4.params[j]? = some t → args[j]? = some v → Value.okWide Try.prog W .any base t v := hval0
  have hW' := hW
  obtain ⟨p, q, hA0, hV, rfl, hfz, hnd⟩ := hW
  have hA : DataW.TrodAll enc Try.prog W 0 (fun _ => true) true Try.f4.params.toList args.toList ds p := hA0
  rw [Try.params4] at hA hval
  obtain ⟨v0, vs0, d0, ds0, p0, q0, hargs, rfl, rfl, h0, r0⟩ := trodAll_cons hA
  obtain ⟨rfl, rfl, rfl⟩ := trodAll_nil r0
  obtain rfl : args = #[v0] := by cases args; simp_all
  obtain ⟨rfl, rfl⟩ := trodVars_none hV
  obtain ⟨a0, len0, cap0, rfl⟩ := okWide_slice Try.underlying44 (hval 0 44 v0 rfl rfl)
  have k0 := h0
  have lt0 : ∀ x ∈ p0, x.block < W.heap.size := by obtain ⟨m, hm⟩ := k0; exact DataW.trod_lt m _ _ _ hm
  obtain ⟨l0, y0, c0, x0⟩ : ∃ l, Acts W a0 len0 l ∧ len0 ≤ cap0 ∧ cap0 ≤ maxLen := by
    obtain ⟨fuel, hf⟩ := h0
    exact acts_of_trod (by simpa [Value.cells] using hf)
  clear hA0 hval0
  refine (writes_walk W a0 len0 cap0 l0 y0 c0 x0).mono fun e W' ⟨he, hg⟩ => ?_
  subst he
  have hb := hg.below_all
  exact ⟨_, rfl, _, _, _, [], _, [], hW', trodAll_mk1 (shut_bool Try.underlying4 _), (trodAll_cons_mk (Below.trod laidOut (by kernel_rfl) (of_decide_eq_true (by kernel_rfl)) k0 hb lt0) trodAll_mk0), rfl, hb.frame _, fun h => by cases h⟩
theorem over : Rows.codeWritesRow.holds Try.pinned (OpenSpec.ofChange Rows.codeWritesSpec) :=
  OpenClaim.holds_of_wide 4 Try.f4 rfl rfl rfl rfl rfl rfl rfl ⟨rfl, rfl, rfl, rfl, rfl⟩ rfl rfl rfl rfl rfl (by kernel_rfl) Try.func4 (by kernel_rfl)
    (of_decide_eq_true (by kernel_rfl)) (by unfold Func.isWrapper; first | (rw [if_pos (by decide +kernel)]; kernel_rfl) | (rw [if_neg (by decide +kernel)]; exact ⟨rfl, rfl⟩))
    (fun os started H enc _ => lifted os started H enc)
/-- the statement -/
theorem proved : Rows.CodeWritesSaid := over
end codeWrites
end Go.Proofs.Ytcnngdhjeihecaa
