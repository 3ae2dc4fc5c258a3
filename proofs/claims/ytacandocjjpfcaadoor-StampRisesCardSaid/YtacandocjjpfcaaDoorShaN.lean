/- Package sha: mixAll, hash. -/
import Derived.Test.YtacandocjjpfcaaDoorShaM
namespace Go.Proofs.YtacandocjjpfcaaDoor
set_option maxRecDepth 100000
open Go.RowKit

theorem mixes_append : ∀ (a b : Nat) (s : St) (l1 l2 : List UInt8), l1.length = 64 * a → mixes (a + b) s (l1 ++ l2) = mixes b (mixes a s l1) l2 := by
  intro a
  induction a with
  | zero =>
    intro b s l1 l2 h
    have : l1 = [] := List.eq_nil_of_length_eq_zero (by omega)
    subst this
    simp [mixes]
  | succ a ih =>
    intro b s l1 l2 h
    rw [show a + 1 + b = (a + b) + 1 by omega]
    simp only [mixes]
    rw [List.take_append_of_le_length (by omega), List.drop_append_of_le_length (by omega)]
    exact ih b _ _ _ (by rw [List.length_drop]; omega)
theorem mixes_nn : ∀ (a : Nat) (s : St) (l : List UInt8), s.Nn → (mixes a s l).Nn
  | 0, _, _, h => h
  | a + 1, s, _, _ => mixes_nn a _ _ (mixS_nn s _)
def lenV : Value → Nat
  | .slice _ n _ => n
  | _ => 0
/-- the slice from s on, wherever its capacity ends -/
theorem By.cutc {w : World} {A : Option Addr} {n c s : Nat} {l : List UInt8} (h : By w A n l) (hs : s ≤ n) (hc : n ≤ c) :
    (c = s → By w A (n - s) (l.drop s)) ∧ (c ≠ s → By w (A.map (·.add s)) (n - s) (l.drop s)) := by
  have := h.cut hs hc
  exact ⟨fun e => by rw [if_pos e] at this; exact this, fun e => by rw [if_neg e] at this; exact this⟩
theorem bk_add (A : Option Addr) (s : Nat) : bk (A.map (·.add s)) = bk A := by cases A <;> simp [bk, add_block]

set_option maxRecDepth 100000 in
set_option maxHeartbeats 2000000 in
theorem mixAll_any (A : Option Addr) (n c : Nat) (l : List UInt8) (w : World) (g : Nat) (s : St) (hr : By w A n l) (hc : n ≤ c) (hn : n ≤ 1073741824) (hA : 0 < n → ¬ g ∈ bk A) (hs : Blk w g 119 (s.list.map i32).toArray) (hs0 : s.Nn) (hK : KW w) (hg : g ≠ 0) :
    Calls Tryd.prog 60 #[.pointer (some ⟨g, 0, none⟩), .slice A n c] w fun e w' => e = .returned (.tuple #[]) ∧ Blk w' g 119 ((mixes (n / 64) s l).list.map i32).toArray ∧ Fr [g] w w' := by
  have HR := Lib.hid hr
  have HS := Lib.hid hs
  have HS0 := Lib.hid hs0
  have HK := Lib.hid hK
  have HA := Lib.hid hA
  have HG := Lib.hid hg
  clear hr hs hs0 hK hA hg
  go_enter Tryd.func60, Tryd.ntmps60
  go_wp2
  go_loopw [1] (fun v wr => ∃ (A' : Option Addr) (n' c' : Nat) (l' : List UInt8) (st : St), v = .slice A' n' c' ∧ By wr A' n' l' ∧ n' ≤ c' ∧ n' ≤ n ∧ bk A' = bk A ∧ mixes (n' / 64) st l' = mixes (n / 64) s l ∧ Blk wr g 119 (st.list.map i32).toArray ∧ st.Nn ∧ Fr [g] w wr) (fun v _ => lenV v)
  case atStart => exact ⟨A, n, c, l, s, rfl, HR.out, hc, Nat.le_refl _, rfl, rfl, HS.out, HS0.out, Fr.refl _ _⟩
  case round =>
    obtain ⟨A', n', c', l', st, rfl, hy, hc', hn', hbk, hmix, hb, hnn, hf⟩ := hrel
    have HY := Lib.hid hy
    have HBK := Lib.hid hbk
    have HMIX := Lib.hid hmix
    have HB := Lib.hid hb
    have HNN := Lib.hid hnn
    have HF := Lib.hid hf
    clear hy hbk hmix hb hnn hf
    by_cases hlt : 64 ≤ n'
    · have HT := Lib.hid (HY.out.take hlt)
      have hne : n' ≠ 0 := by omega
      have HN1 : Hid (n' / 64 = (n' - 64) / 64 + 1) := Lib.hid (by omega)
      clear hne
      go_wp2_with fail
      refine (mix_any A' c' (l'.take 64) wr g st HT.out (by omega) HB.out HNN.out (HK.out.keep HF.out (by simp; exact fun h => HG.out h.symm))).mono ?_
      rintro e w1 ⟨rfl, hb1, hf1⟩
      have HB1 := Lib.hid hb1
      have HF1 := Lib.hid (HF.out.trans hf1 (fun _ h _ => h))
      have HC := Lib.hid ((HY.out.keep hf1 (fun a ha => by have := HA.out (by omega); rw [← HBK.out] at this; simp only [bk, ha] at this; simpa [eq_comm] using this)).cutc hlt hc')
      have HM1 : Hid (mixes ((n' - 64) / 64) (mixS st (l'.take 64)) (l'.drop 64) = mixes (n / 64) s l) := Lib.hid (by have h := HMIX.out; rw [HN1.out] at h; exact h)
      clear hb1 hf1
      by_cases hcs : c' = 64
      · have HC1 := Lib.hid (HC.out.1 hcs)
        subst hcs
        go_wp2
        go_roundw
        case rel => exact ⟨A', n' - 64, 0, l'.drop 64, _, by simp; omega, HC1.out, by omega, by omega, HBK.out, HM1.out, HB1.out, mixS_nn _ _, HF1.out⟩
        case measure => simp [lenV]; omega
      · have HC1 := Lib.hid (HC.out.2 hcs)
        go_wp2
        go_roundw
        case rel => exact ⟨A'.map (·.add 64), n' - 64, c' - 64, l'.drop 64, _, rfl, HC1.out, by omega, by omega, by rw [bk_add]; exact HBK.out, HM1.out, HB1.out, mixS_nn _ _, HF1.out⟩
        case measure => simp [lenV]; omega
    · have h0 : n' / 64 = 0 := by omega
      have HM0 : Hid (st = mixes (n / 64) s l) := Lib.hid (by have h := HMIX.out; rw [h0] at h; exact h)
      clear h0
      go_wp2
      go_end0
      exact ⟨rfl, by rw [← HM0.out]; exact HB.out, HF.out⟩

theorem hash_sizeS : (Tryd.prog.info? 32).map (·.size) = some 32 := by kernel_rfl
def zeroH : Array Value := ((List.replicate 32 (0 : UInt8)).map by8).toArray
theorem zeroH_size : zeroH.size = 32 := by simp [zeroH]
theorem set_takeB {M L : List UInt8} {j : Nat} {d : UInt8} (h : M.take j = L.take j) (hj : j < M.length) (hL : L[j]? = some d) : (M.set j d).take (j + 1) = L.take (j + 1) := by
  rw [List.take_add_one, List.take_add_one, hL, List.take_set_of_le (Nat.le_refl j), h, List.getElem?_set_self hj]
theorem Blk.setByte {w : World} {g : Nat} {t : TypeId} {M : List UInt8} (h : Blk w g t (M.map by8).toArray) (i : Nat) (z : UInt8) : Blk (w.setCell ⟨g, i, none⟩ (by8 z)) g t ((M.set i z).map by8).toArray := by
  have hbs := h.set i (by8 z)
  rw [show ((M.map by8).toArray.setIfInBounds i (by8 z)) = ((M.set i z).map by8).toArray from by simp [List.map_set]] at hbs
  exact hbs
theorem Blk.byte {w : World} {g : Nat} {t : TypeId} {M : List UInt8} (h : Blk w g t (M.map by8).toArray) {i : Nat} (hi : i < M.length) : w.cell? ⟨g, i, none⟩ = some (.int .u8 ((M.getD i 0).toNat : Int)) := by
  rw [h.cell i, List.getD]
  simp [List.getElem?_eq_getElem hi, by8]

set_option maxRecDepth 100000 in
set_option maxHeartbeats 2000000 in
theorem shash_any (w : World) (g : Nat) (s : St) (hs : Blk w g 119 (s.list.map i32).toArray) (hn : s.Nn) :
    Calls Tryd.prog 62 #[.pointer (some ⟨g, 0, none⟩)] w fun e w' => e = .returned (.agg ((outBytes s).map by8).toArray) ∧ Fr [] w w' := by
  obtain ⟨wa, hwa⟩ : ∃ wa, wa = (w.alloc (Obj.cells zeroH 32)).alloc (Obj.cells zeroH 32) := ⟨_, rfl⟩
  have hf0 : Fr [] w wa := by rw [hwa]; exact ((Fr.refl [] w).alloc _).alloc _
  have hbr : Blk wa w.heap.size 32 zeroH := by rw [hwa]; exact (Blk.new _ _ _).keep ((Fr.refl [] _).alloc _) (by simp)
  have hbv : Blk wa (w.heap.size + 1) 32 zeroH := by
    have := Blk.new (w.alloc (Obj.cells zeroH 32)) 32 zeroH
    rw [hwa]
    simpa using this
  have hgl := hs.lt
  have HS := Lib.hid (hs.keep hf0 (by simp))
  have HN := Lib.hid hn
  have HF0 := Lib.hid hf0
  have HBR := Lib.hid hbr
  have HBV := Lib.hid hbv
  have HWA := Lib.hid hwa
  have hlen := outBytes_len s
  have hOB : ∀ k, k < 32 → (outBytes s)[k]? = some (byteOf (s.list.getD (k / 4) 0 / 2 ^ (24 - 8 * (k % 4)))) := fun k hk => by unfold outBytes; simp [hk]
  have HOB := Lib.hid hOB
  generalize hO : outBytes s = O at *
  have HLEN := Lib.hid hlen
  clear hf0 hbr hbv hwa hs hn hO hOB hlen
  go_enter Tryd.func62, Tryd.ntmps62
  go_upto_region 2 with (fail)
  change Code.wp _ _ _ _ ((w.alloc (Obj.cells zeroH 32)).alloc (Obj.cells zeroH 32))
  rw [← HWA.out]
  generalize hgw : w.heap.size + 1 = gw at *
  have HGW := Lib.hid hgw
  have hne : g ≠ gw := by omega
  clear hgw
  go_wp2
  go_loopw [5] (fun i wr => ∃ (k : Nat) (M : List UInt8), k ≤ 32 ∧ i = .int .i64 k ∧ M.length = 32 ∧ M.take k = O.take k ∧ Blk wr gw 32 (M.map by8).toArray ∧ Fr [gw] wa wr) (fun i _ => 32 - (intOf i).toNat)
  case atStart => exact ⟨0, List.replicate 32 0, by omega, rfl, by simp, by simp, HBV.out, Fr.refl _ _⟩
  case round =>
    obtain ⟨k, M, hk, rfl, hM, hT, hbm, hfm⟩ := hrel
    have HBM := Lib.hid hbm
    have HFM := Lib.hid hfm
    have HM := Lib.hid hM
    have HT := Lib.hid hT
    clear hbm hfm hM hT
    by_cases hlt : k < 32
    · have hcs := (HS.out.keep HFM.out (by simp; omega)).word (i := k / 4) (by rw [St.len]; omega)
      have hcm := HBM.out.byte (i := k) (by rw [HM.out]; exact hlt)
      have hzm := HBM.out.frozen k
      have hnn : 0 ≤ s.list.getD (k / 4) 0 := by
        have := HN.out
        have hq : k / 4 = 0 ∨ k / 4 = 1 ∨ k / 4 = 2 ∨ k / 4 = 3 ∨ k / 4 = 4 ∨ k / 4 = 5 ∨ k / 4 = 6 ∨ k / 4 = 7 := by omega
        rcases hq with h | h | h | h | h | h | h | h <;> rw [h]
        · exact this.a
        · exact this.b
        · exact this.c
        · exact this.d
        · exact this.e
        · exact this.f
        · exact this.g
        · exact this.h
      have HO := Lib.hid (HOB.out k hlt)
      generalize s.list.getD (k / 4) 0 = x at *
      have hk0 : (0 : Int) ≤ k := by omega
      have e1 : ((k : Int) / 4).toNat = k / 4 := by omega
      have e2 : ((32 : Int) - 8 * ((k : Int) % 4 + 1)).toNat = 24 - 8 * (k % 4) := by omega
      go_wp2
      refine ⟨⟨k + 1, M.set k (byteOf (x / 2 ^ (24 - 8 * (k % 4)))), by omega, rfl, by rw [List.length_set]; exact HM.out, set_takeB HT.out (by rw [HM.out]; exact hlt) HO.out, ?_, HFM.out.setCell _ (fun _ => by simp) _⟩, by simp [intOf]; omega⟩
      have hb := HBM.out.setByte k (byteOf (x / 2 ^ (24 - 8 * (k % 4))))
      rw [by8_byteOf] at hb
      exact hb
    · have hMO : M = O := by
        have e := HT.out
        rw [List.take_of_length_le (by have := HM.out; omega), List.take_of_length_le (by have := HLEN.out; omega)] at e
        exact e
      have hsz : ((M.map by8).toArray).size = 32 := by simp [HM.out]
      have hone : (((M.map by8).toArray).all (·.oneCell')) = true := by
        rw [Array.all_eq_true_iff_forall_mem]
        intro u hu
        exact by8_one M u (by simpa using hu)
      have HHM : Hid ((M.map by8).toArray = (O.map by8).toArray) := Lib.hid (by rw [hMO])
      have HSZ := Lib.hid hsz
      have HONE := Lib.hid hone
      have hk3 : k = 32 := by omega
      subst hk3
      clear hsz hone hlt hMO
      have HBRR := Lib.hid (HBR.out.keep HFM.out (by have := HGW.out; simp; omega))
      generalize (M.map by8).toArray = H at *
      go_wp2_with (first
        | (refine wpList_load_row rfl 32 _ rfl gw rfl 32 H _ _ HBM.out Tryd.underlying32 rfl (by rw [hash_sizeS, HSZ.out]) ?_)
        | (refine wpList_store_row rfl 32 _ _ rfl w.heap.size H rfl rfl 32 zeroH HBRR.out (by rw [hash_sizeS, HSZ.out]) (by rw [HSZ.out, zeroH_size]) HONE.out ?_))
      have hgr := setRow_blk HBRR.out H
      refine bodyPost_ret (v := .agg H) (results_cell_row Tryd.results62 _ _ w.heap.size 32 H _ _ rfl hgr Tryd.underlying32 rfl (by rw [hash_sizeS, HSZ.out])) rfl ⟨?_, ?_⟩
      · rw [HHM.out]
      · exact (HF0.out.trans HFM.out (fun x hx hl => by have := HGW.out; simp at hx; omega)).trans (setRow_fr _ w.heap.size H) (fun x hx hl => by simp at hx; omega)
end Go.Proofs.YtacandocjjpfcaaDoor
