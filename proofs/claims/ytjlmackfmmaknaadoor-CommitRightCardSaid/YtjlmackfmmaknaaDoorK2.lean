/- Texts that the proof stands on: The walk of CommitRight. | Names, configurations and commitments that come in: what their reading says of cells. | The example of the document (wakes) over package sha. | The laid table: what the condition of a row gives the walks; the door's own heap meets it. -/
import Derived.Test.YtjlmackfmmaknaaDoorK1
import Derived.Deep.CutBlock
import Derived.StillTailTactics
import Derived.Test.YtjlmackfmmaknaaDoorCm3
import Derived.Test.YtjlmackfmmaknaaDoorActs
import Derived.Test.YtjlmackfmmaknaaDoorOpen
import Derived.Test.YtjlmackfmmaknaaDoorShaQ
import Derived.Test.YtjlmackfmmaknaaDoorTie
import Derived.ProofKit
import Derived.LaidMore
import Derived.OpenShut
import Derived.Stop.Joined
import Derived.Test.YtjlmackfmmaknaaDoorCards
set_option maxRecDepth 100000

namespace Go.Proofs.YtjlmackfmmaknaaDoor
open Go.RowKit
set_option maxRecDepth 100000

theorem newb_ex (w : World) : Calls Tryd.prog 21 #[] w fun e w' => ∃ S g, e = .returned (.pointer (some ⟨g, 0, none⟩)) ∧ Bok w' S g [] ∧ Fr [] w w' ∧ ∀ x ∈ S, w.heap.size ≤ x :=
  (new_any w).mono fun e w' ⟨he, hb, hf⟩ => ⟨_, _, he, hb, hf, by simp⟩
set_option maxHeartbeats 8000000 in
theorem commitRight_walk (w : World) (c s : Int) (hc : i64In c) (hs : i64In s) (ha : List UInt8) (hal : ha.length = 32) (A : Option Addr) (n cp : Nat) (p : List UInt8) (hp : By w A n p) (hpc : n ≤ cp) (hpm : cp ≤ maxLen)
    (what : Int) (hw1 : -9223372036854775808 ≤ what) (hw2 : what < 9223372036854775808) (by_ : Int) (hb1 : -9223372036854775808 ≤ by_) (hb2 : by_ < 9223372036854775808) (kk : Int) (hk1 : -9223372036854775808 ≤ kk) (hk2 : kk < 9223372036854775808) (hK : KW w) :
    Calls Tryd.prog 6 #[.agg #[.int .i64 c, .int .i64 s], .agg (ha.map by8).toArray, .slice A n cp, .int .i64 what, .int .i64 by_, .int .i64 kk] w fun e w' => e = .returned (.bool true) ∧ Fr [] w w' := by
  obtain ⟨wa, hwa⟩ : ∃ wa, wa = (w.alloc (Obj.cells #[.int .i64 c, .int .i64 s] 42)).alloc (Obj.cells (ha.map by8).toArray 26) := ⟨_, rfl⟩
  have hf0 : Fr [] w wa := by rw [hwa]; exact ((Fr.refl [] w).alloc _).alloc _
  have hba : Blk wa w.heap.size 42 #[.int .i64 c, .int .i64 s] := by rw [hwa]; exact blk_alloc (Blk.new _ _ _)
  have hbb : Blk wa (w.heap.size + 1) 26 (ha.map by8).toArray := by
    have := Blk.new (w.alloc (Obj.cells #[.int .i64 c, .int .i64 s] 42)) 26 (ha.map by8).toArray
    rw [hwa]
    simpa using this
  have HF0 := Lib.hid hf0
  have HWA := Lib.hid hwa
  have HBA := Lib.hid hba
  have HBB := Lib.hid hbb
  have HK := Lib.hid hK
  have HC := Lib.hid hc
  have HS := Lib.hid hs
  have HAL := Lib.hid hal
  have HP := Lib.hid hp
  have HPN := Lib.hid (And.intro hpc (Nat.le_trans hpc hpm))
  have HW := Lib.hid (And.intro hw1 hw2)
  have HBY := Lib.hid (And.intro hb1 hb2)
  have HKK := Lib.hid (And.intro hk1 hk2)
  clear hwa hf0 hba hbb hK hc hs hal hp hpc hpm hw1 hw2 hb1 hb2 hk1 hk2
  go_enter Tryd.func6, Tryd.ntmps6
  go_upto_region 1 with (fail)
  rw [← HWA.out]
  go_wp2_with fail
  rw [show (256 : Int) = ((256 : Nat) : Int) from rfl]
  refine (cut_any A n cp 256 p wa (HP.out.keep HF0.out (by simp)) HPN.out.2 HPN.out.1 (by omega)).mono ?_
  rintro e w1 ⟨A1, c1, rfl, hN1⟩
  have h256 : (p.take 256).length ≤ 256 := List.length_take_le _ _
  generalize p.take 256 = q at *
  have HY1 := Lib.hid hN1.by
  have HQL := Lib.hid h256
  have HA1 : Hid (∀ k ∈ bk A1, wa.heap.size ≤ k ∧ k < w1.heap.size) := Lib.hid (fun k hk => ⟨hN1.2.2 k hk, hN1.lt k hk⟩)
  have HWS : Hid (w.heap.size < wa.heap.size) := Lib.hid (by have := HBB.out.lt; omega)
  have HF1 := Lib.hid hN1.2.1
  clear hN1 h256 HP HPN
  go_wp2_with fail
  refine (within_pos kk 5 HKK.out.1 HKK.out.2 (by omega) (by omega) _).mono ?_
  rintro e w2 ⟨rfl, rfl⟩
  have hk0 : 0 ≤ kk % 5 := Int.emod_nonneg _ (by omega)
  have hk1 : kk % 5 < 5 := Int.emod_lt_of_pos _ (by omega)
  generalize kk % 5 = k5 at *
  go_upto_region 3 with (fail)
  have hba := HBA.out.keep HF1.out (by simp)
  have hx0 := hba.cell 0
  have hx1 := hba.cell 1
  have hz0 := hba.frozen 0
  have hz1 := hba.frozen 1
  simp only [List.getElem?_toArray, List.getElem?_cons_zero, List.getElem?_cons_succ] at hx0 hx1
  go_still_tail 7, (by kernel_rfl)
  still_call ((within_pos c 6 HC.out.1 HC.out.2 (by omega) (by omega) _).mono fun _ _ h => ⟨h.1, h.2.symm⟩)
  repeat still_step
  still_call ((within_pos s 9 HS.out.1 HS.out.2 (by omega) (by omega) _).mono fun _ _ h => ⟨h.1, h.2.symm⟩)
  repeat still_step
  refine wpStill_nil ?_
  clear hx0 hx1 hz0 hz1
  change wpList _ _ _ _ _ w1.drew
  have hc0 : 0 ≤ c % 6 := Int.emod_nonneg _ (by omega)
  have hc1 : c % 6 < 6 := Int.emod_lt_of_pos _ (by omega)
  have hs0 : 0 ≤ s % 9 := Int.emod_nonneg _ (by omega)
  have hs1 : s % 9 < 9 := Int.emod_lt_of_pos _ (by omega)
  generalize c % 6 = C6 at *
  generalize s % 9 = S9 at *
  refine wpList_store_blk rfl 42 _ _ rfl (w.heap.size) #[.int .i64 C6, .int .i64 S9] rfl rfl 42 #[.int .i64 c, .int .i64 s] hba.drew (by kernel_rfl) rfl (by kernel_rfl) ?_
  intro w3 hb3 hf3
  have HBA := Lib.hid hb3
  have hf13 : Fr [w.heap.size] w1 w3 := ((Fr.refl [w.heap.size] w1).drew).trans hf3 (fun x hx _ => hx)
  have HBB := Lib.hid ((HBB.out.keep HF1.out (by simp)).keep hf13 (by simp))
  have HLT3 : Hid (w.heap.size + 1 < w3.heap.size) := Lib.hid HBB.out.lt
  have HY3 := Lib.hid (HY1.out.keep hf13 (fun a ha hm => by have := (HA1.out a.block (by simp [bk, ha])).1; have := HWS.out; simp at hm; omega))
  have HF3 : Hid (Fr [] w w3) := Lib.hid ((HF0.out.and HF1.out (by simp)).go hf13 (by simp))
  have HA3 : Hid (∀ k ∈ bk A1, k < w3.heap.size) := Lib.hid (fun k hk => Nat.lt_of_lt_of_le (HA1.out k hk).2 hf13.size)
  clear hb3 hf3 hf13 hba HA1 HY1 HF1
  (try simp only [Act.put])
  go_wp2_with fail
  refine (newb_ex w3).mono ?_
  rintro e w4 ⟨Sb, gb, rfl, hb4, hf4, hn4⟩
  have HB4 := Lib.hid hb4
  have HF4 := Lib.hid hf4
  have HN4 := Lib.hid hn4
  clear hb4 hf4 hn4
  go_upto_region 8 with (fail)
  have HB5 := Lib.hid (HB4.out.keep (((Fr.refl [] w4).alloc (Obj.cells #[.slice none 0 0] 48)).alloc (Obj.cells #[.int .i64 1, .int .i64 (1 + k5)] 50)) (by simp))
  have HR5 : Hid (RBk ((w4.alloc (Obj.cells #[.slice none 0 0] 48)).alloc (Obj.cells #[.int .i64 1, .int .i64 (1 + k5)] 50)) [w4.heap.size] w4.heap.size []) := Lib.hid ⟨none, 0, rfl, blk_alloc (Blk.new _ _ _), ⟨rfl, .inl ⟨rfl, rfl⟩⟩⟩
  have HCF5 : Hid (Blk ((w4.alloc (Obj.cells #[.slice none 0 0] 48)).alloc (Obj.cells #[.int .i64 1, .int .i64 (1 + k5)] 50)) (w4.heap.size + 1) 50 #[.int .i64 1, .int .i64 (1 + k5)]) := Lib.hid (by
    have := Blk.new (w4.alloc (Obj.cells #[.slice none 0 0] 48)) 50 #[.int .i64 1, .int .i64 (1 + k5)]
    simpa using this)
  have HF45 : Hid (Fr [] w4 ((w4.alloc (Obj.cells #[.slice none 0 0] 48)).alloc (Obj.cells #[.int .i64 1, .int .i64 (1 + k5)] 50))) := Lib.hid (((Fr.refl [] w4).alloc _).alloc _)
  have HG45 : Hid (w4.heap.size + 1 < ((w4.alloc (Obj.cells #[.slice none 0 0] 48)).alloc (Obj.cells #[.int .i64 1, .int .i64 (1 + k5)] 50)).heap.size) := Lib.hid HCF5.out.lt
  generalize (w4.alloc (Obj.cells #[.slice none 0 0] 48)).alloc (Obj.cells #[.int .i64 1, .int .i64 (1 + k5)] 50) = w5 at *
  have HF35 := Lib.hid (HF4.out.and HF45.out (by simp))
  have HBA := Lib.hid (HBA.out.keep HF35.out (by simp))
  have HBB := Lib.hid (HBB.out.keep HF35.out (by simp))
  have HY5 := Lib.hid (HY3.out.keep HF35.out (by simp))
  have HF5 := Lib.hid (HF3.out.and HF35.out (by simp))
  have HA5 : Hid (∀ k ∈ bk A1, k < w3.heap.size) := HA3
  have HW35 : Hid (w3.heap.size ≤ w4.heap.size ∧ w4.heap.size ≤ w5.heap.size ∧ w.heap.size ≤ w3.heap.size) := Lib.hid ⟨HF4.out.size, HF45.out.size, HF3.out.size⟩
  obtain ⟨H, hH⟩ : ∃ H, H = sumL (ofL C6 S9 ha q) := ⟨_, rfl⟩
  have hHL : H.length = 32 := by rw [hH]; exact sumL_len _
  have hX : mk1 C6 S9 ha q = ⟨C6, S9, H, (q.length : Int), 1000 + C6, 1⟩ := by rw [mk1_eq, hH]
  have hdx : ∀ k, rightC k (bk1 C6 S9 ha q) ⟨C6, S9, H, (q.length : Int), 1000 + C6, 1⟩ = decide (C6 < k ∧ 1 ≤ S9) := fun k => by
    rw [← hX]
    exact mk1_right C6 S9 hc0 (by omega) ha q HQL.out k
  have t0 := fun k d hd => turn0 k C6 S9 ha q ⟨hs0, hs1⟩ d hd
  have t1 := fun k d hd => turn1 k C6 S9 ha q d hd
  have t2 := fun k i u hi hl => turn2 k C6 S9 ha q i u hi hl
  have t3 := fun k d hd => turn3 k C6 S9 ha q d hd
  have t4 := fun k d hd => turn4 k C6 S9 ha q d hd
  have t5 := fun k d hd => turn5 k C6 S9 ha q d hd
  have t6 := fun k => turn6 k C6 S9 ha q
  rw [← hH] at t0 t1 t2 t3 t4 t5 t6
  have hMk := make_any C6 S9 (by omega) ⟨by omega, by omega⟩ ha HAL.out A1 q.length c1 q w5 HY5.out (fun k hk => by have := HA3.out k hk; have := HW35.out; omega) (by have := HQL.out; omega) (HK.out.keep HF5.out (by simp)) Sb gb [] HB5.out (by decide)
  have hMk' : Calls Tryd.prog 22 #[.pointer (some ⟨gb, 0, none⟩), .agg #[.int .i64 C6, .int .i64 S9], .agg (ha.map by8).toArray, .slice A1 q.length c1] w5 fun e w' => e = .returned (.agg (Cm.cells ⟨C6, S9, H, (q.length : Int), 1000 + C6, 1⟩).toArray) ∧ Bok w' Sb gb (bk1 C6 S9 ha q) ∧ Fr Sb w5 w' :=
    hMk.mono fun e w' ⟨he, hb, hf⟩ => ⟨by rw [he, ← hX]; rfl, by rw [bk1_eq] at hb; exact hb, hf⟩
  have hRk := fun W (hY : By W A1 q.length q) (hA : ∀ k ∈ bk A1, k < W.heap.size) S g (hR : RBk W S g []) => refmake_any C6 S9 (by omega) ⟨by omega, by omega⟩ ha HAL.out A1 q.length c1 q W hY hA (by have := HQL.out; omega) S g [] hR (by simp) (by decide)
  have hRk' : ∀ W, By W A1 q.length q → (∀ k ∈ bk A1, k < W.heap.size) → ∀ S g, RBk W S g [] → Calls Tryd.prog 23 #[.pointer (some ⟨g, 0, none⟩), .agg #[.int .i64 C6, .int .i64 S9], .agg (ha.map by8).toArray, .slice A1 q.length c1] W fun e w' => e = .returned (.agg (Cm.cells ⟨C6, S9, H, (q.length : Int), 1000 + C6, 1⟩).toArray) ∧ ∃ S', RBk w' S' g (bk1 C6 S9 ha q) ∧ Fr S W w' ∧ ∀ y ∈ S', y < W.heap.size → y ∈ S :=
    fun W hY hA S g hR => (hRk W hY hA S g hR).mono fun e w' ⟨he, S', hb, hf, hs⟩ => ⟨by rw [he, ← hX]; rfl, S', by rw [bk1_eq] at hb; exact hb, hf, hs⟩
  have hnd := bk1_nodup C6 S9 ha q
  have hok : (Cm.mk C6 S9 H (q.length : Int) (1000 + C6) 1).Ok := ⟨⟨by show _ ≤ C6; omega, by show C6 < _; omega⟩, ⟨by show _ ≤ S9; omega, by show S9 < _; omega⟩, hHL, ⟨by show _ ≤ (q.length : Int); omega, by have := HQL.out; show (q.length : Int) < _; omega⟩, ⟨by show _ ≤ 1000 + C6; omega, by show 1000 + C6 < _; omega⟩, ⟨by show (_ : Int) ≤ 1; omega, by show (1 : Int) < _; omega⟩⟩
  have HDX := Lib.hid hdx
  have HT0 := Lib.hid t0
  have HT1 := Lib.hid t1
  have HT2 := Lib.hid t2
  have HT3 := Lib.hid t3
  have HT4 := Lib.hid t4
  have HT5 := Lib.hid t5
  have HT6 := Lib.hid t6
  have HMK := Lib.hid hMk'
  have HRK := Lib.hid hRk'
  have HND := Lib.hid hnd
  have HOK := Lib.hid hok
  have HHL := Lib.hid hHL
  have HLB : Hid ((ha.map by8).length = 32) := Lib.hid (by rw [List.length_map]; exact HAL.out)
  clear hdx t0 t1 t2 t3 t4 t5 t6 hMk hMk' hRk hRk' hnd hok hX hH hHL
  generalize bk1 C6 S9 ha q = L1 at *
  have HLN := Lib.hid (Cm.len HOK.out.h)
  have HONE := Lib.hid (Cm.one ⟨C6, S9, H, (q.length : Int), 1000 + C6, 1⟩)
  go_upto_region 9 with (first
    | (refine wpList_row rfl 42 _ rfl _ _ rfl _ HBA.out.range row_name ?_)
    | (refine wpList_row rfl 26 _ rfl _ _ rfl _ HBB.out.range (row_hash.of HLB.out) ?_)
    | (go_at_call 22
       refine HMK.out.mono ?_
       rintro e_ w6 ⟨rfl, hb6, hf6⟩
       have HB6 := Lib.hid hb6
       have HF6 := Lib.hid hf6
       clear hb6 hf6)
    | (refine wpList_store_box rfl 54 _ _ rfl zeroCm 54 (Cm.cells ⟨C6, S9, H, (q.length : Int), 1000 + C6, 1⟩) rfl rfl (by rw [HLN.out]; kernel_rfl) (by rw [HLN.out]; rfl) HONE.out ?_
       intro w7 hb7 hf7
       have HX7 := Lib.hid hb7
       have HF7 := Lib.hid hf7
       clear hb7 hf7))
  have HG16 : Hid (w5.heap.size ≤ w6.heap.size ∧ w6.heap.size < w7.heap.size) := Lib.hid ⟨HF6.out.size, HX7.out.lt⟩
  generalize hg16 : w6.heap.size = g16 at *
  clear hg16
  (try simp only [Act.put])
  have HSB : Hid (∀ x ∈ Sb, w3.heap.size ≤ x ∧ x < w4.heap.size) := Lib.hid (fun x hx => ⟨HN4.out x hx, HB4.out.lt x hx⟩)
  have HF57 := Lib.hid (HF6.out.trans HF7.out (by simp))
  have HB7 := Lib.hid (HB6.out.keep HF7.out (by simp))
  have hnr : ¬ w4.heap.size ∈ Sb := fun hm => by have := (HSB.out _ hm).2; omega
  have HR7 := Lib.hid (HR5.out.keep HF57.out (fun x hx hm => hnr (by simp at hx; rw [← hx]; exact hm)))
  have HCF7 := Lib.hid (HCF5.out.keep HF57.out (fun hm => by have := (HSB.out _ hm).2; omega))
  have HBA := Lib.hid (HBA.out.keep HF57.out (fun hm => by have := (HSB.out _ hm).1; have := HLT3.out; omega))
  have HBB := Lib.hid (HBB.out.keep HF57.out (fun hm => by have := (HSB.out _ hm).1; have := HLT3.out; omega))
  have HY7 := Lib.hid (HY5.out.keep HF57.out (fun a ha hm => by have := (HSB.out _ hm).1; have := HA3.out a.block (by simp [bk, ha]); omega))
  have HA7 : Hid (∀ k ∈ bk A1, k < w7.heap.size) := Lib.hid (fun k hk => by have := HA3.out k hk; have := HW35.out; have := HG16.out; omega)
  have HF7w : Hid (Fr [] w w7) := Lib.hid (HF5.out.go HF57.out (fun x hx => by have := (HSB.out x hx).1; have := HW35.out; omega))
  clear hnr HMK
  go_upto_region 10 with (first
    | (refine wpList_row rfl 42 _ rfl _ _ rfl _ HBA.out.range row_name ?_)
    | (refine wpList_row rfl 26 _ rfl _ _ rfl _ HBB.out.range (row_hash.of HLB.out) ?_)
    | (go_at_call 23
       refine (HRK.out w7 HY7.out HA7.out [w4.heap.size] w4.heap.size HR7.out).mono ?_
       rintro e_ w8 ⟨rfl, Sr, hr8, hf8, hs8⟩
       have HR8 := Lib.hid hr8
       have HF8 := Lib.hid hf8
       have HS8 := Lib.hid hs8
       clear hr8 hf8 hs8)
    | (refine wpList_store_box rfl 54 _ _ rfl zeroCm 54 (Cm.cells ⟨C6, S9, H, (q.length : Int), 1000 + C6, 1⟩) rfl rfl (by rw [HLN.out]; kernel_rfl) (by rw [HLN.out]; rfl) HONE.out ?_
       intro w9 hb9 hf9
       have HY9 := Lib.hid hb9
       have HF9 := Lib.hid hf9
       clear hb9 hf9))
  generalize hg17 : w8.heap.size = g17 at *
  clear hg17
  (try simp only [Act.put])
  have HF79 := Lib.hid (HF8.out.trans HF9.out (by simp))
  have HX9 := Lib.hid (HX7.out.keep HF79.out (fun hm => by have := HG16.out; have := HW35.out; have := HG45.out; simp at hm; omega))
  have HB9 := Lib.hid (HB7.out.keep HF79.out (fun x hx hm => by have := (HSB.out x hx).2; simp at hm; omega))
  have HR9 := Lib.hid (HR8.out.keep HF9.out (by simp))
  have HCF9 := Lib.hid (HCF7.out.keep HF79.out (by simp))
  have HBA9 := Lib.hid (HBA.out.keep HF79.out (fun hm => by have := HW35.out; have := HLT3.out; simp at hm; omega))
  have HF9w : Hid (Fr [] w w9) := Lib.hid (HF7w.out.go HF79.out (by have := HW35.out; simp; omega))
  have HSG : Hid (¬ g16 ∈ Sb ∧ ¬ g16 ∈ Sr ∧ w.heap.size ≤ g16) := Lib.hid ⟨fun hm => by have := (HSB.out _ hm).2; have := HG16.out; have := HW35.out; omega, fun hm => by have h := HS8.out g16 hm HG16.out.2; have := HG16.out; have := HW35.out; have := HG45.out; simp at h; omega, by have := HG16.out; have := HW35.out; omega⟩
  have HGC : Hid (¬ w4.heap.size + 1 = g16) := Lib.hid (by have := HG16.out; have := HG45.out; omega)
  clear HBA HBB HY7 HA7 HR7 HRK HR5 HB5 HB4 HB6 HB7 HX7 HCF5 HCF7 HF8 HF9 HF57 HF6 HF7
  have HCR := Lib.hid (fun W (hW : Fr [] w9 W) => cright_any 1 (1 + k5) _ HOK.out W Sb gb L1 (HB9.out.keep hW (by simp)))
  have HRR := Lib.hid (fun W (hW : Fr [] w9 W) => refright_c 1 (1 + k5) (by omega) _ HOK.out W Sr w4.heap.size L1 (HR9.out.keep hW (by simp)) HND.out)
  unfold Cm.val at HCR HRR
  have HSELF := Lib.hid (fun W => commit_self ⟨C6, S9, H, (q.length : Int), 1000 + C6, 1⟩ HHL.out W)
  go_cut [76] (fun s76 wx => s76 = .bool false ∧ Fr [] w9 wx)
  case first =>
    rw [HDX.out (1 + k5)] at HCR HRR
    have hc6 := HBA9.out.cell 0
    have hs9 := HBA9.out.cell 1
    simp only [List.getElem?_toArray, List.getElem?_cons_zero, List.getElem?_cons_succ] at hc6 hs9
    generalize (Cm.cells ⟨C6, S9, H, (q.length : Int), 1000 + C6, 1⟩) = XC at *
    obtain ⟨d, hd⟩ : ∃ d, d = decide (C6 < 1 + k5 ∧ 1 ≤ S9) := ⟨_, rfl⟩
    rw [← hd] at HCR HRR
    have hdd : (d != d) = false := by simp
    by_cases h1 : C6 < 1 + k5
    · by_cases h2 : 1 ≤ S9
      · have hdt : d = true := by rw [hd]; simp [h1, h2]
        subst hdt
        clear hd
        refine wp_region_held_drew (S := Fr [] w9) (by kernel_rfl) (Fr.drew (Fr.refl _ w9)) (fun hHeld => ?_)
        refine row_at (i := 0) rfl (by kernel_rfl) (by rfl) _ _ rfl _ _ rfl _ (fun w1 hw1 => hw1.range (HX9.out.range) (by first | (simp; done) | exact HNS.out | exact HNW.out | (intro hm; have hlt := HSB.out _ hm; (try dsimp only at hlt); omega))) (row_commit.of HLN.out) (fun _ _ _ h => h) hHeld ?_
        simp only [Act.put, List.setIfInBounds_toArray, List.set_cons_zero, List.set_cons_succ]
        refine row_at (i := 1) rfl (by kernel_rfl) (by rfl) _ _ rfl _ _ rfl _ (fun w1 hw1 => hw1.range (HY9.out.range) (by first | (simp; done) | exact HNS.out | exact HNW.out | (intro hm; have hlt := HSB.out _ hm; (try dsimp only at hlt); omega))) (row_commit.of HLN.out) (fun _ _ _ h => h) hHeld ?_
        simp only [Act.put, List.setIfInBounds_toArray, List.set_cons_zero, List.set_cons_succ]
        refine neq_at (i := 2) rfl (by kernel_rfl) (by rfl) _ _ _ _ rfl _ _ rfl rfl _ (by kernel_rfl) (HSELF.out) (fun _ _ _ h => h) hHeld ?_
        simp only [Act.put, List.setIfInBounds_toArray, List.set_cons_zero, List.set_cons_succ]
        rw [show (!true) = false from rfl]
        refine run_at (i := 3) (v := ?_) rfl (by kernel_rfl) (by rfl) (fun _ _ _ h => h) hHeld (fun w1 hw1 => ?_) ?_
        rotate_left 1
        · skip
          go_simp
          (try (first | with_reducible rfl | (apply And.intro <;> rfl)))
        simp only [Act.put, List.setIfInBounds_toArray, List.set_cons_zero, List.set_cons_succ]
        refine row_at (i := 4) rfl (by kernel_rfl) (by rfl) _ _ rfl _ _ rfl _ (fun w1 hw1 => hw1.range (HCF9.out.range) (by first | (simp; done) | exact HNS.out | exact HNW.out | (intro hm; have hlt := HSB.out _ hm; (try dsimp only at hlt); omega))) (row_conf) (fun _ _ _ h => h) hHeld ?_
        simp only [Act.put, List.setIfInBounds_toArray, List.set_cons_zero, List.set_cons_succ]
        refine run_at (i := 5) (v := ?_) rfl (by kernel_rfl) (by rfl) (fun _ _ _ h => h) hHeld (fun w1 hw1 => ?_) ?_
        rotate_left 1
        · skip
          go_simp
          (try (first | with_reducible rfl | (apply And.intro <;> rfl)))
        simp only [Act.put, List.setIfInBounds_toArray, List.set_cons_zero, List.set_cons_succ]
        refine row_at (i := 6) rfl (by kernel_rfl) (by rfl) _ _ rfl _ _ rfl _ (fun w1 hw1 => hw1.range (HX9.out.range) (by first | (simp; done) | exact HNS.out | exact HNW.out | (intro hm; have hlt := HSB.out _ hm; (try dsimp only at hlt); omega))) (row_commit.of HLN.out) (fun _ _ _ h => h) hHeld ?_
        simp only [Act.put, List.setIfInBounds_toArray, List.set_cons_zero, List.set_cons_succ]
        refine row_at (i := 8) rfl (by kernel_rfl) (by rfl) _ _ rfl _ _ rfl _ (fun w1 hw1 => hw1.range (HCF9.out.range) (by first | (simp; done) | exact HNS.out | exact HNW.out | (intro hm; have hlt := HSB.out _ hm; (try dsimp only at hlt); omega))) (row_conf) (fun _ _ _ h => h) hHeld ?_
        simp only [Act.put, List.setIfInBounds_toArray, List.set_cons_zero, List.set_cons_succ]
        refine run_at (i := 9) (v := ?_) rfl (by kernel_rfl) (by rfl) (fun _ _ _ h => h) hHeld (fun w1 hw1 => ?_) ?_
        rotate_left 1
        · skip
          go_simp
          (try (first | with_reducible rfl | (apply And.intro <;> rfl)))
        simp only [Act.put, List.setIfInBounds_toArray, List.set_cons_zero, List.set_cons_succ]
        refine row_at (i := 10) rfl (by kernel_rfl) (by rfl) _ _ rfl _ _ rfl _ (fun w1 hw1 => hw1.range (HY9.out.range) (by first | (simp; done) | exact HNS.out | exact HNW.out | (intro hm; have hlt := HSB.out _ hm; (try dsimp only at hlt); omega))) (row_commit.of HLN.out) (fun _ _ _ h => h) hHeld ?_
        simp only [Act.put, List.setIfInBounds_toArray, List.set_cons_zero, List.set_cons_succ]
        refine call_at (i := 7) (f := ?_) (args := ?_) rfl (by kernel_rfl) (by rfl) ?_ ?_
        rotate_left 2
        · go_simp
          (try (first | with_reducible rfl | (apply And.intro <;> rfl)))
        refine (HCR.out _ hHeld).mono ?_
        rintro e_ wp ⟨rfl, hfp⟩
        refine ⟨_, rfl, hHeld.and hfp (by simp), fun hHeld => ?_⟩
        clear hfp
        simp only [Act.put, List.setIfInBounds_toArray, List.set_cons_zero, List.set_cons_succ]
        refine call_at (i := 11) (f := ?_) (args := ?_) rfl (by kernel_rfl) (by rfl) ?_ ?_
        rotate_left 2
        · go_simp
          (try (first | with_reducible rfl | (apply And.intro <;> rfl)))
        refine (HRR.out _ hHeld).mono ?_
        rintro e_ wq ⟨rfl, hfq⟩
        refine ⟨_, rfl, hHeld.and hfq (by simp), fun hHeld => ?_⟩
        clear hfq
        simp only [Act.put, List.setIfInBounds_toArray, List.set_cons_zero, List.set_cons_succ]
        refine run_at (i := 12) (v := ?_) rfl (by kernel_rfl) (by rfl) (fun _ _ _ h => h) hHeld (fun w1 hw1 => ?_) ?_
        rotate_left 1
        · skip
          go_simp
          (try (first | with_reducible rfl | (apply And.intro <;> rfl)))
        simp only [Act.put, List.setIfInBounds_toArray, List.set_cons_zero, List.set_cons_succ]
        refine run_at (i := 13) (v := ?_) rfl (by kernel_rfl) (by rfl) (fun _ _ _ h => h) hHeld (fun w1 hw1 => ?_) ?_
        rotate_left 1
        · skip
          go_simp
          (try (first | with_reducible rfl | (apply And.intro <;> rfl)))
        simp only [Act.put, List.setIfInBounds_toArray, List.set_cons_zero, List.set_cons_succ]
        refine run_at (i := 14) (v := ?_) rfl (by kernel_rfl) (by rfl) (fun _ _ _ h => h) hHeld (fun w1 hw1 => ?_) ?_
        rotate_left 1
        · skip
          go_simp
          (try (first | with_reducible rfl | (apply And.intro <;> rfl)))
        simp only [Act.put, List.setIfInBounds_toArray, List.set_cons_zero, List.set_cons_succ]
        refine row_at (i := 15) rfl (by kernel_rfl) (by rfl) _ _ rfl _ _ rfl _ (fun w1 hw1 => hw1.range (HCF9.out.range) (by first | (simp; done) | exact HNS.out | exact HNW.out | (intro hm; have hlt := HSB.out _ hm; (try dsimp only at hlt); omega))) (row_conf) (fun _ _ _ h => h) hHeld ?_
        simp only [Act.put, List.setIfInBounds_toArray, List.set_cons_zero, List.set_cons_succ]
        refine run_at (i := 16) (v := ?_) rfl (by kernel_rfl) (by rfl) (fun _ _ _ h => h) hHeld (fun w1 hw1 => ?_) ?_
        rotate_left 1
        · skip
          go_simp
          (try (first | with_reducible rfl | (apply And.intro <;> rfl)))
        simp only [Act.put, List.setIfInBounds_toArray, List.set_cons_zero, List.set_cons_succ]
        refine row_at (i := 17) rfl (by kernel_rfl) (by rfl) _ _ rfl _ _ rfl _ (fun w1 hw1 => hw1.range (HX9.out.range) (by first | (simp; done) | exact HNS.out | exact HNW.out | (intro hm; have hlt := HSB.out _ hm; (try dsimp only at hlt); omega))) (row_commit.of HLN.out) (fun _ _ _ h => h) hHeld ?_
        simp only [Act.put, List.setIfInBounds_toArray, List.set_cons_zero, List.set_cons_succ]
        refine run_at (i := 19) (v := ?_) rfl (by kernel_rfl) (by rfl) (fun _ _ _ h => h) hHeld (fun w1 hw1 => ?_) ?_
        rotate_left 1
        · skip
          go_simp
          (try (first | with_reducible rfl | (apply And.intro <;> rfl)))
        simp only [Act.put, List.setIfInBounds_toArray, List.set_cons_zero, List.set_cons_succ]
        refine run_at (i := 20) (v := ?_) rfl (by kernel_rfl) (by rfl) (fun _ _ _ h => h) hHeld (fun w1 hw1 => ?_) ?_
        rotate_left 1
        · skip
          have hcw0 := hw1.cell (hc6) (by first | (simp; done) | exact HNS.out | exact HNW.out | (intro hm; have hlt := HSB.out _ hm; (try dsimp only at hlt); omega))
          go_simp
          (try (first | with_reducible rfl | (apply And.intro <;> rfl)))
        simp only [Act.put, List.setIfInBounds_toArray, List.set_cons_zero, List.set_cons_succ]
        refine run_at (i := 21) (v := ?_) rfl (by kernel_rfl) (by rfl) (fun _ _ _ h => h) hHeld (fun w1 hw1 => ?_) ?_
        rotate_left 1
        · skip
          go_simp
          (try (first | with_reducible rfl | (apply And.intro <;> rfl)))
        simp only [Act.put, List.setIfInBounds_toArray, List.set_cons_zero, List.set_cons_succ]
        refine run_at (i := 22) (v := ?_) rfl (by kernel_rfl) (by rfl) (fun _ _ _ h => h) hHeld (fun w1 hw1 => ?_) ?_
        rotate_left 1
        · skip
          go_simp
          (try (first | with_reducible rfl | (apply And.intro <;> rfl)))
        simp only [Act.put, List.setIfInBounds_toArray, List.set_cons_zero, List.set_cons_succ]
        refine call_at (i := 18) (f := ?_) (args := ?_) rfl (by kernel_rfl) (by rfl) ?_ ?_
        rotate_left 2
        · go_simp
          (try (first | with_reducible rfl | (apply And.intro <;> rfl)))
        refine (HCR.out _ hHeld).mono ?_
        rintro e_ wr_ ⟨rfl, hfr⟩
        refine ⟨_, rfl, hHeld.and hfr (by simp), fun hHeld => ?_⟩
        clear hfr
        simp only [Act.put, List.setIfInBounds_toArray, List.set_cons_zero, List.set_cons_succ]
        refine run_at (i := 23) (v := ?_) rfl (by kernel_rfl) (by rfl) (fun _ _ _ h => h) hHeld (fun w1 hw1 => ?_) ?_
        rotate_left 1
        · skip
          go_simp
          (try (first | with_reducible rfl | (apply And.intro <;> rfl)))
        simp only [Act.put, List.setIfInBounds_toArray, List.set_cons_zero, List.set_cons_succ]
        refine run_at (i := 24) (v := ?_) rfl (by kernel_rfl) (by rfl) (fun _ _ _ h => h) hHeld (fun w1 hw1 => ?_) ?_
        rotate_left 1
        · skip
          go_simp
          (try (first | with_reducible rfl | (apply And.intro <;> rfl)))
        simp only [Act.put, List.setIfInBounds_toArray, List.set_cons_zero, List.set_cons_succ]
        refine run_at (i := 25) (v := ?_) rfl (by kernel_rfl) (by rfl) (fun _ _ _ h => h) hHeld (fun w1 hw1 => ?_) ?_
        rotate_left 1
        · skip
          have hcw0 := hw1.cell (hs9) (by first | (simp; done) | exact HNS.out | exact HNW.out | (intro hm; have hlt := HSB.out _ hm; (try dsimp only at hlt); omega))
          go_simp
          (try (first | with_reducible rfl | (apply And.intro <;> rfl)))
        simp only [Act.put, List.setIfInBounds_toArray, List.set_cons_zero, List.set_cons_succ]
        refine run_at (i := 26) (v := ?_) rfl (by kernel_rfl) (by rfl) (fun _ _ _ h => h) hHeld (fun w1 hw1 => ?_) ?_
        rotate_left 1
        · skip
          go_simp
          (try (first | with_reducible rfl | (apply And.intro <;> rfl)))
        simp only [Act.put, List.setIfInBounds_toArray, List.set_cons_zero, List.set_cons_succ]
        refine run_at (i := 27) (v := ?_) rfl (by kernel_rfl) (by rfl) (fun _ _ _ h => h) hHeld (fun w1 hw1 => ?_) ?_
        rotate_left 1
        · skip
          go_simp
          (try (first | with_reducible rfl | (apply And.intro <;> rfl)))
        simp only [Act.put, List.setIfInBounds_toArray, List.set_cons_zero, List.set_cons_succ]
        refine run_at (i := 28) (v := ?_) rfl (by kernel_rfl) (by rfl) (fun _ _ _ h => h) hHeld (fun w1 hw1 => ?_) ?_
        rotate_left 1
        · skip
          go_simp
          (try (first | with_reducible rfl | (apply And.intro <;> rfl)))
        simp only [Act.put, List.setIfInBounds_toArray, List.set_cons_zero, List.set_cons_succ]
        refine run_at (i := 29) (v := ?_) rfl (by kernel_rfl) (by rfl) (fun _ _ _ h => h) hHeld (fun w1 hw1 => ?_) ?_
        rotate_left 1
        · skip
          go_simp
          (try (first | with_reducible rfl | (apply And.intro <;> rfl)))
        simp only [Act.put, List.setIfInBounds_toArray, List.set_cons_zero, List.set_cons_succ]
        refine wpAnyH_done (by kernel_rfl) ?_ _
        go_wp2_with fail
        go_meet
        exact ⟨rfl, hHeld⟩
      · have hdt : d = false := by rw [hd]; simp [h2]
        subst hdt
        clear hd
        have hdn : decide (1 ≤ S9) = false := by simpa using h2
        refine wp_region_held_drew (S := Fr [] w9) (by kernel_rfl) (Fr.drew (Fr.refl _ w9)) (fun hHeld => ?_)
        refine row_at (i := 0) rfl (by kernel_rfl) (by rfl) _ _ rfl _ _ rfl _ (fun w1 hw1 => hw1.range (HX9.out.range) (by first | (simp; done) | exact HNS.out | exact HNW.out | (intro hm; have hlt := HSB.out _ hm; (try dsimp only at hlt); omega))) (row_commit.of HLN.out) (fun _ _ _ h => h) hHeld ?_
        simp only [Act.put, List.setIfInBounds_toArray, List.set_cons_zero, List.set_cons_succ]
        refine row_at (i := 1) rfl (by kernel_rfl) (by rfl) _ _ rfl _ _ rfl _ (fun w1 hw1 => hw1.range (HY9.out.range) (by first | (simp; done) | exact HNS.out | exact HNW.out | (intro hm; have hlt := HSB.out _ hm; (try dsimp only at hlt); omega))) (row_commit.of HLN.out) (fun _ _ _ h => h) hHeld ?_
        simp only [Act.put, List.setIfInBounds_toArray, List.set_cons_zero, List.set_cons_succ]
        refine neq_at (i := 2) rfl (by kernel_rfl) (by rfl) _ _ _ _ rfl _ _ rfl rfl _ (by kernel_rfl) (HSELF.out) (fun _ _ _ h => h) hHeld ?_
        simp only [Act.put, List.setIfInBounds_toArray, List.set_cons_zero, List.set_cons_succ]
        rw [show (!true) = false from rfl]
        refine run_at (i := 3) (v := ?_) rfl (by kernel_rfl) (by rfl) (fun _ _ _ h => h) hHeld (fun w1 hw1 => ?_) ?_
        rotate_left 1
        · skip
          go_simp
          (try (first | with_reducible rfl | (apply And.intro <;> rfl)))
        simp only [Act.put, List.setIfInBounds_toArray, List.set_cons_zero, List.set_cons_succ]
        refine row_at (i := 4) rfl (by kernel_rfl) (by rfl) _ _ rfl _ _ rfl _ (fun w1 hw1 => hw1.range (HCF9.out.range) (by first | (simp; done) | exact HNS.out | exact HNW.out | (intro hm; have hlt := HSB.out _ hm; (try dsimp only at hlt); omega))) (row_conf) (fun _ _ _ h => h) hHeld ?_
        simp only [Act.put, List.setIfInBounds_toArray, List.set_cons_zero, List.set_cons_succ]
        refine run_at (i := 5) (v := ?_) rfl (by kernel_rfl) (by rfl) (fun _ _ _ h => h) hHeld (fun w1 hw1 => ?_) ?_
        rotate_left 1
        · skip
          go_simp
          (try (first | with_reducible rfl | (apply And.intro <;> rfl)))
        simp only [Act.put, List.setIfInBounds_toArray, List.set_cons_zero, List.set_cons_succ]
        refine row_at (i := 6) rfl (by kernel_rfl) (by rfl) _ _ rfl _ _ rfl _ (fun w1 hw1 => hw1.range (HX9.out.range) (by first | (simp; done) | exact HNS.out | exact HNW.out | (intro hm; have hlt := HSB.out _ hm; (try dsimp only at hlt); omega))) (row_commit.of HLN.out) (fun _ _ _ h => h) hHeld ?_
        simp only [Act.put, List.setIfInBounds_toArray, List.set_cons_zero, List.set_cons_succ]
        refine row_at (i := 8) rfl (by kernel_rfl) (by rfl) _ _ rfl _ _ rfl _ (fun w1 hw1 => hw1.range (HCF9.out.range) (by first | (simp; done) | exact HNS.out | exact HNW.out | (intro hm; have hlt := HSB.out _ hm; (try dsimp only at hlt); omega))) (row_conf) (fun _ _ _ h => h) hHeld ?_
        simp only [Act.put, List.setIfInBounds_toArray, List.set_cons_zero, List.set_cons_succ]
        refine run_at (i := 9) (v := ?_) rfl (by kernel_rfl) (by rfl) (fun _ _ _ h => h) hHeld (fun w1 hw1 => ?_) ?_
        rotate_left 1
        · skip
          go_simp
          (try (first | with_reducible rfl | (apply And.intro <;> rfl)))
        simp only [Act.put, List.setIfInBounds_toArray, List.set_cons_zero, List.set_cons_succ]
        refine row_at (i := 10) rfl (by kernel_rfl) (by rfl) _ _ rfl _ _ rfl _ (fun w1 hw1 => hw1.range (HY9.out.range) (by first | (simp; done) | exact HNS.out | exact HNW.out | (intro hm; have hlt := HSB.out _ hm; (try dsimp only at hlt); omega))) (row_commit.of HLN.out) (fun _ _ _ h => h) hHeld ?_
        simp only [Act.put, List.setIfInBounds_toArray, List.set_cons_zero, List.set_cons_succ]
        refine call_at (i := 7) (f := ?_) (args := ?_) rfl (by kernel_rfl) (by rfl) ?_ ?_
        rotate_left 2
        · go_simp
          (try (first | with_reducible rfl | (apply And.intro <;> rfl)))
        refine (HCR.out _ hHeld).mono ?_
        rintro e_ wp ⟨rfl, hfp⟩
        refine ⟨_, rfl, hHeld.and hfp (by simp), fun hHeld => ?_⟩
        clear hfp
        simp only [Act.put, List.setIfInBounds_toArray, List.set_cons_zero, List.set_cons_succ]
        refine call_at (i := 11) (f := ?_) (args := ?_) rfl (by kernel_rfl) (by rfl) ?_ ?_
        rotate_left 2
        · go_simp
          (try (first | with_reducible rfl | (apply And.intro <;> rfl)))
        refine (HRR.out _ hHeld).mono ?_
        rintro e_ wq ⟨rfl, hfq⟩
        refine ⟨_, rfl, hHeld.and hfq (by simp), fun hHeld => ?_⟩
        clear hfq
        simp only [Act.put, List.setIfInBounds_toArray, List.set_cons_zero, List.set_cons_succ]
        refine run_at (i := 12) (v := ?_) rfl (by kernel_rfl) (by rfl) (fun _ _ _ h => h) hHeld (fun w1 hw1 => ?_) ?_
        rotate_left 1
        · skip
          go_simp
          (try (first | with_reducible rfl | (apply And.intro <;> rfl)))
        simp only [Act.put, List.setIfInBounds_toArray, List.set_cons_zero, List.set_cons_succ]
        refine run_at (i := 13) (v := ?_) rfl (by kernel_rfl) (by rfl) (fun _ _ _ h => h) hHeld (fun w1 hw1 => ?_) ?_
        rotate_left 1
        · skip
          go_simp
          (try (first | with_reducible rfl | (apply And.intro <;> rfl)))
        simp only [Act.put, List.setIfInBounds_toArray, List.set_cons_zero, List.set_cons_succ]
        refine run_at (i := 14) (v := ?_) rfl (by kernel_rfl) (by rfl) (fun _ _ _ h => h) hHeld (fun w1 hw1 => ?_) ?_
        rotate_left 1
        · skip
          go_simp
          (try (first | with_reducible rfl | (apply And.intro <;> rfl)))
        simp only [Act.put, List.setIfInBounds_toArray, List.set_cons_zero, List.set_cons_succ]
        refine row_at (i := 15) rfl (by kernel_rfl) (by rfl) _ _ rfl _ _ rfl _ (fun w1 hw1 => hw1.range (HCF9.out.range) (by first | (simp; done) | exact HNS.out | exact HNW.out | (intro hm; have hlt := HSB.out _ hm; (try dsimp only at hlt); omega))) (row_conf) (fun _ _ _ h => h) hHeld ?_
        simp only [Act.put, List.setIfInBounds_toArray, List.set_cons_zero, List.set_cons_succ]
        refine run_at (i := 16) (v := ?_) rfl (by kernel_rfl) (by rfl) (fun _ _ _ h => h) hHeld (fun w1 hw1 => ?_) ?_
        rotate_left 1
        · skip
          go_simp
          (try (first | with_reducible rfl | (apply And.intro <;> rfl)))
        simp only [Act.put, List.setIfInBounds_toArray, List.set_cons_zero, List.set_cons_succ]
        refine row_at (i := 17) rfl (by kernel_rfl) (by rfl) _ _ rfl _ _ rfl _ (fun w1 hw1 => hw1.range (HX9.out.range) (by first | (simp; done) | exact HNS.out | exact HNW.out | (intro hm; have hlt := HSB.out _ hm; (try dsimp only at hlt); omega))) (row_commit.of HLN.out) (fun _ _ _ h => h) hHeld ?_
        simp only [Act.put, List.setIfInBounds_toArray, List.set_cons_zero, List.set_cons_succ]
        refine run_at (i := 19) (v := ?_) rfl (by kernel_rfl) (by rfl) (fun _ _ _ h => h) hHeld (fun w1 hw1 => ?_) ?_
        rotate_left 1
        · skip
          go_simp
          (try (first | with_reducible rfl | (apply And.intro <;> rfl)))
        simp only [Act.put, List.setIfInBounds_toArray, List.set_cons_zero, List.set_cons_succ]
        refine run_at (i := 20) (v := ?_) rfl (by kernel_rfl) (by rfl) (fun _ _ _ h => h) hHeld (fun w1 hw1 => ?_) ?_
        rotate_left 1
        · skip
          have hcw0 := hw1.cell (hc6) (by first | (simp; done) | exact HNS.out | exact HNW.out | (intro hm; have hlt := HSB.out _ hm; (try dsimp only at hlt); omega))
          go_simp
          (try (first | with_reducible rfl | (apply And.intro <;> rfl)))
        simp only [Act.put, List.setIfInBounds_toArray, List.set_cons_zero, List.set_cons_succ]
        refine run_at (i := 21) (v := ?_) rfl (by kernel_rfl) (by rfl) (fun _ _ _ h => h) hHeld (fun w1 hw1 => ?_) ?_
        rotate_left 1
        · skip
          go_simp
          (try (first | with_reducible rfl | (apply And.intro <;> rfl)))
        simp only [Act.put, List.setIfInBounds_toArray, List.set_cons_zero, List.set_cons_succ]
        refine run_at (i := 22) (v := ?_) rfl (by kernel_rfl) (by rfl) (fun _ _ _ h => h) hHeld (fun w1 hw1 => ?_) ?_
        rotate_left 1
        · skip
          go_simp
          (try (first | with_reducible rfl | (apply And.intro <;> rfl)))
        simp only [Act.put, List.setIfInBounds_toArray, List.set_cons_zero, List.set_cons_succ]
        refine call_at (i := 18) (f := ?_) (args := ?_) rfl (by kernel_rfl) (by rfl) ?_ ?_
        rotate_left 2
        · go_simp
          (try (first | with_reducible rfl | (apply And.intro <;> rfl)))
        refine (HCR.out _ hHeld).mono ?_
        rintro e_ wr_ ⟨rfl, hfr⟩
        refine ⟨_, rfl, hHeld.and hfr (by simp), fun hHeld => ?_⟩
        clear hfr
        simp only [Act.put, List.setIfInBounds_toArray, List.set_cons_zero, List.set_cons_succ]
        refine run_at (i := 23) (v := ?_) rfl (by kernel_rfl) (by rfl) (fun _ _ _ h => h) hHeld (fun w1 hw1 => ?_) ?_
        rotate_left 1
        · skip
          go_simp
          (try (first | with_reducible rfl | (apply And.intro <;> rfl)))
        simp only [Act.put, List.setIfInBounds_toArray, List.set_cons_zero, List.set_cons_succ]
        refine run_at (i := 24) (v := ?_) rfl (by kernel_rfl) (by rfl) (fun _ _ _ h => h) hHeld (fun w1 hw1 => ?_) ?_
        rotate_left 1
        · skip
          go_simp
          (try (first | with_reducible rfl | (apply And.intro <;> rfl)))
        simp only [Act.put, List.setIfInBounds_toArray, List.set_cons_zero, List.set_cons_succ]
        refine run_at (i := 25) (v := ?_) rfl (by kernel_rfl) (by rfl) (fun _ _ _ h => h) hHeld (fun w1 hw1 => ?_) ?_
        rotate_left 1
        · skip
          have hcw0 := hw1.cell (hs9) (by first | (simp; done) | exact HNS.out | exact HNW.out | (intro hm; have hlt := HSB.out _ hm; (try dsimp only at hlt); omega))
          go_simp
          (try (first | with_reducible rfl | (apply And.intro <;> rfl)))
        simp only [Act.put, List.setIfInBounds_toArray, List.set_cons_zero, List.set_cons_succ]
        refine run_at (i := 26) (v := ?_) rfl (by kernel_rfl) (by rfl) (fun _ _ _ h => h) hHeld (fun w1 hw1 => ?_) ?_
        rotate_left 1
        · skip
          go_simp
          (try (first | with_reducible rfl | (apply And.intro <;> rfl)))
        simp only [Act.put, List.setIfInBounds_toArray, List.set_cons_zero, List.set_cons_succ]
        refine run_at (i := 27) (v := ?_) rfl (by kernel_rfl) (by rfl) (fun _ _ _ h => h) hHeld (fun w1 hw1 => ?_) ?_
        rotate_left 1
        · skip
          go_simp
          (try (first | with_reducible rfl | (apply And.intro <;> rfl)))
        simp only [Act.put, List.setIfInBounds_toArray, List.set_cons_zero, List.set_cons_succ]
        refine run_at (i := 28) (v := ?_) rfl (by kernel_rfl) (by rfl) (fun _ _ _ h => h) hHeld (fun w1 hw1 => ?_) ?_
        rotate_left 1
        · skip
          go_simp
          (try (first | with_reducible rfl | (apply And.intro <;> rfl)))
        simp only [Act.put, List.setIfInBounds_toArray, List.set_cons_zero, List.set_cons_succ]
        refine run_at (i := 29) (v := ?_) rfl (by kernel_rfl) (by rfl) (fun _ _ _ h => h) hHeld (fun w1 hw1 => ?_) ?_
        rotate_left 1
        · skip
          go_simp
          (try (first | with_reducible rfl | (apply And.intro <;> rfl)))
        simp only [Act.put, List.setIfInBounds_toArray, List.set_cons_zero, List.set_cons_succ]
        refine wpAnyH_done (by kernel_rfl) ?_ _
        go_wp2_with fail
        go_meet
        exact ⟨rfl, hHeld⟩
    · have hdt : d = false := by rw [hd]; simp [h1]
      subst hdt
      clear hd
      have hdn : decide (C6 < 1 + k5) = false := by simpa using h1
      refine wp_region_held_drew (S := Fr [] w9) (by kernel_rfl) (Fr.drew (Fr.refl _ w9)) (fun hHeld => ?_)
      refine row_at (i := 0) rfl (by kernel_rfl) (by rfl) _ _ rfl _ _ rfl _ (fun w1 hw1 => hw1.range (HX9.out.range) (by first | (simp; done) | exact HNS.out | exact HNW.out | (intro hm; have hlt := HSB.out _ hm; (try dsimp only at hlt); omega))) (row_commit.of HLN.out) (fun _ _ _ h => h) hHeld ?_
      simp only [Act.put, List.setIfInBounds_toArray, List.set_cons_zero, List.set_cons_succ]
      refine row_at (i := 1) rfl (by kernel_rfl) (by rfl) _ _ rfl _ _ rfl _ (fun w1 hw1 => hw1.range (HY9.out.range) (by first | (simp; done) | exact HNS.out | exact HNW.out | (intro hm; have hlt := HSB.out _ hm; (try dsimp only at hlt); omega))) (row_commit.of HLN.out) (fun _ _ _ h => h) hHeld ?_
      simp only [Act.put, List.setIfInBounds_toArray, List.set_cons_zero, List.set_cons_succ]
      refine neq_at (i := 2) rfl (by kernel_rfl) (by rfl) _ _ _ _ rfl _ _ rfl rfl _ (by kernel_rfl) (HSELF.out) (fun _ _ _ h => h) hHeld ?_
      simp only [Act.put, List.setIfInBounds_toArray, List.set_cons_zero, List.set_cons_succ]
      rw [show (!true) = false from rfl]
      refine run_at (i := 3) (v := ?_) rfl (by kernel_rfl) (by rfl) (fun _ _ _ h => h) hHeld (fun w1 hw1 => ?_) ?_
      rotate_left 1
      · skip
        go_simp
        (try (first | with_reducible rfl | (apply And.intro <;> rfl)))
      simp only [Act.put, List.setIfInBounds_toArray, List.set_cons_zero, List.set_cons_succ]
      refine row_at (i := 4) rfl (by kernel_rfl) (by rfl) _ _ rfl _ _ rfl _ (fun w1 hw1 => hw1.range (HCF9.out.range) (by first | (simp; done) | exact HNS.out | exact HNW.out | (intro hm; have hlt := HSB.out _ hm; (try dsimp only at hlt); omega))) (row_conf) (fun _ _ _ h => h) hHeld ?_
      simp only [Act.put, List.setIfInBounds_toArray, List.set_cons_zero, List.set_cons_succ]
      refine run_at (i := 5) (v := ?_) rfl (by kernel_rfl) (by rfl) (fun _ _ _ h => h) hHeld (fun w1 hw1 => ?_) ?_
      rotate_left 1
      · skip
        go_simp
        (try (first | with_reducible rfl | (apply And.intro <;> rfl)))
      simp only [Act.put, List.setIfInBounds_toArray, List.set_cons_zero, List.set_cons_succ]
      refine row_at (i := 6) rfl (by kernel_rfl) (by rfl) _ _ rfl _ _ rfl _ (fun w1 hw1 => hw1.range (HX9.out.range) (by first | (simp; done) | exact HNS.out | exact HNW.out | (intro hm; have hlt := HSB.out _ hm; (try dsimp only at hlt); omega))) (row_commit.of HLN.out) (fun _ _ _ h => h) hHeld ?_
      simp only [Act.put, List.setIfInBounds_toArray, List.set_cons_zero, List.set_cons_succ]
      refine row_at (i := 8) rfl (by kernel_rfl) (by rfl) _ _ rfl _ _ rfl _ (fun w1 hw1 => hw1.range (HCF9.out.range) (by first | (simp; done) | exact HNS.out | exact HNW.out | (intro hm; have hlt := HSB.out _ hm; (try dsimp only at hlt); omega))) (row_conf) (fun _ _ _ h => h) hHeld ?_
      simp only [Act.put, List.setIfInBounds_toArray, List.set_cons_zero, List.set_cons_succ]
      refine run_at (i := 9) (v := ?_) rfl (by kernel_rfl) (by rfl) (fun _ _ _ h => h) hHeld (fun w1 hw1 => ?_) ?_
      rotate_left 1
      · skip
        go_simp
        (try (first | with_reducible rfl | (apply And.intro <;> rfl)))
      simp only [Act.put, List.setIfInBounds_toArray, List.set_cons_zero, List.set_cons_succ]
      refine row_at (i := 10) rfl (by kernel_rfl) (by rfl) _ _ rfl _ _ rfl _ (fun w1 hw1 => hw1.range (HY9.out.range) (by first | (simp; done) | exact HNS.out | exact HNW.out | (intro hm; have hlt := HSB.out _ hm; (try dsimp only at hlt); omega))) (row_commit.of HLN.out) (fun _ _ _ h => h) hHeld ?_
      simp only [Act.put, List.setIfInBounds_toArray, List.set_cons_zero, List.set_cons_succ]
      refine call_at (i := 7) (f := ?_) (args := ?_) rfl (by kernel_rfl) (by rfl) ?_ ?_
      rotate_left 2
      · go_simp
        (try (first | with_reducible rfl | (apply And.intro <;> rfl)))
      refine (HCR.out _ hHeld).mono ?_
      rintro e_ wp ⟨rfl, hfp⟩
      refine ⟨_, rfl, hHeld.and hfp (by simp), fun hHeld => ?_⟩
      clear hfp
      simp only [Act.put, List.setIfInBounds_toArray, List.set_cons_zero, List.set_cons_succ]
      refine call_at (i := 11) (f := ?_) (args := ?_) rfl (by kernel_rfl) (by rfl) ?_ ?_
      rotate_left 2
      · go_simp
        (try (first | with_reducible rfl | (apply And.intro <;> rfl)))
      refine (HRR.out _ hHeld).mono ?_
      rintro e_ wq ⟨rfl, hfq⟩
      refine ⟨_, rfl, hHeld.and hfq (by simp), fun hHeld => ?_⟩
      clear hfq
      simp only [Act.put, List.setIfInBounds_toArray, List.set_cons_zero, List.set_cons_succ]
      refine run_at (i := 12) (v := ?_) rfl (by kernel_rfl) (by rfl) (fun _ _ _ h => h) hHeld (fun w1 hw1 => ?_) ?_
      rotate_left 1
      · skip
        go_simp
        (try (first | with_reducible rfl | (apply And.intro <;> rfl)))
      simp only [Act.put, List.setIfInBounds_toArray, List.set_cons_zero, List.set_cons_succ]
      refine run_at (i := 13) (v := ?_) rfl (by kernel_rfl) (by rfl) (fun _ _ _ h => h) hHeld (fun w1 hw1 => ?_) ?_
      rotate_left 1
      · skip
        go_simp
        (try (first | with_reducible rfl | (apply And.intro <;> rfl)))
      simp only [Act.put, List.setIfInBounds_toArray, List.set_cons_zero, List.set_cons_succ]
      refine run_at (i := 14) (v := ?_) rfl (by kernel_rfl) (by rfl) (fun _ _ _ h => h) hHeld (fun w1 hw1 => ?_) ?_
      rotate_left 1
      · skip
        go_simp
        (try (first | with_reducible rfl | (apply And.intro <;> rfl)))
      simp only [Act.put, List.setIfInBounds_toArray, List.set_cons_zero, List.set_cons_succ]
      refine row_at (i := 15) rfl (by kernel_rfl) (by rfl) _ _ rfl _ _ rfl _ (fun w1 hw1 => hw1.range (HCF9.out.range) (by first | (simp; done) | exact HNS.out | exact HNW.out | (intro hm; have hlt := HSB.out _ hm; (try dsimp only at hlt); omega))) (row_conf) (fun _ _ _ h => h) hHeld ?_
      simp only [Act.put, List.setIfInBounds_toArray, List.set_cons_zero, List.set_cons_succ]
      refine run_at (i := 16) (v := ?_) rfl (by kernel_rfl) (by rfl) (fun _ _ _ h => h) hHeld (fun w1 hw1 => ?_) ?_
      rotate_left 1
      · skip
        go_simp
        (try (first | with_reducible rfl | (apply And.intro <;> rfl)))
      simp only [Act.put, List.setIfInBounds_toArray, List.set_cons_zero, List.set_cons_succ]
      refine row_at (i := 17) rfl (by kernel_rfl) (by rfl) _ _ rfl _ _ rfl _ (fun w1 hw1 => hw1.range (HX9.out.range) (by first | (simp; done) | exact HNS.out | exact HNW.out | (intro hm; have hlt := HSB.out _ hm; (try dsimp only at hlt); omega))) (row_commit.of HLN.out) (fun _ _ _ h => h) hHeld ?_
      simp only [Act.put, List.setIfInBounds_toArray, List.set_cons_zero, List.set_cons_succ]
      refine run_at (i := 19) (v := ?_) rfl (by kernel_rfl) (by rfl) (fun _ _ _ h => h) hHeld (fun w1 hw1 => ?_) ?_
      rotate_left 1
      · skip
        go_simp
        (try (first | with_reducible rfl | (apply And.intro <;> rfl)))
      simp only [Act.put, List.setIfInBounds_toArray, List.set_cons_zero, List.set_cons_succ]
      refine run_at (i := 20) (v := ?_) rfl (by kernel_rfl) (by rfl) (fun _ _ _ h => h) hHeld (fun w1 hw1 => ?_) ?_
      rotate_left 1
      · skip
        have hcw0 := hw1.cell (hc6) (by first | (simp; done) | exact HNS.out | exact HNW.out | (intro hm; have hlt := HSB.out _ hm; (try dsimp only at hlt); omega))
        go_simp
        (try (first | with_reducible rfl | (apply And.intro <;> rfl)))
      simp only [Act.put, List.setIfInBounds_toArray, List.set_cons_zero, List.set_cons_succ]
      refine run_at (i := 21) (v := ?_) rfl (by kernel_rfl) (by rfl) (fun _ _ _ h => h) hHeld (fun w1 hw1 => ?_) ?_
      rotate_left 1
      · skip
        go_simp
        (try (first | with_reducible rfl | (apply And.intro <;> rfl)))
      simp only [Act.put, List.setIfInBounds_toArray, List.set_cons_zero, List.set_cons_succ]
      refine run_at (i := 22) (v := ?_) rfl (by kernel_rfl) (by rfl) (fun _ _ _ h => h) hHeld (fun w1 hw1 => ?_) ?_
      rotate_left 1
      · skip
        go_simp
        (try (first | with_reducible rfl | (apply And.intro <;> rfl)))
      simp only [Act.put, List.setIfInBounds_toArray, List.set_cons_zero, List.set_cons_succ]
      refine call_at (i := 18) (f := ?_) (args := ?_) rfl (by kernel_rfl) (by rfl) ?_ ?_
      rotate_left 2
      · go_simp
        (try (first | with_reducible rfl | (apply And.intro <;> rfl)))
      refine (HCR.out _ hHeld).mono ?_
      rintro e_ wr_ ⟨rfl, hfr⟩
      refine ⟨_, rfl, hHeld.and hfr (by simp), fun hHeld => ?_⟩
      clear hfr
      simp only [Act.put, List.setIfInBounds_toArray, List.set_cons_zero, List.set_cons_succ]
      refine run_at (i := 23) (v := ?_) rfl (by kernel_rfl) (by rfl) (fun _ _ _ h => h) hHeld (fun w1 hw1 => ?_) ?_
      rotate_left 1
      · skip
        go_simp
        (try (first | with_reducible rfl | (apply And.intro <;> rfl)))
      simp only [Act.put, List.setIfInBounds_toArray, List.set_cons_zero, List.set_cons_succ]
      refine skip_at (i := 24) rfl (by kernel_rfl) (fun _ _ _ h => h) (by rfl) hHeld ?_
      simp only [Act.put, List.setIfInBounds_toArray, List.set_cons_zero, List.set_cons_succ]
      refine skip_at (i := 25) rfl (by kernel_rfl) (fun _ _ _ h => h) (by rfl) hHeld ?_
      simp only [Act.put, List.setIfInBounds_toArray, List.set_cons_zero, List.set_cons_succ]
      refine skip_at (i := 26) rfl (by kernel_rfl) (fun _ _ _ h => h) (by rfl) hHeld ?_
      simp only [Act.put, List.setIfInBounds_toArray, List.set_cons_zero, List.set_cons_succ]
      refine run_at (i := 27) (v := ?_) rfl (by kernel_rfl) (by rfl) (fun _ _ _ h => h) hHeld (fun w1 hw1 => ?_) ?_
      rotate_left 1
      · skip
        go_simp
        (try (first | with_reducible rfl | (apply And.intro <;> rfl)))
      simp only [Act.put, List.setIfInBounds_toArray, List.set_cons_zero, List.set_cons_succ]
      refine run_at (i := 28) (v := ?_) rfl (by kernel_rfl) (by rfl) (fun _ _ _ h => h) hHeld (fun w1 hw1 => ?_) ?_
      rotate_left 1
      · skip
        go_simp
        (try (first | with_reducible rfl | (apply And.intro <;> rfl)))
      simp only [Act.put, List.setIfInBounds_toArray, List.set_cons_zero, List.set_cons_succ]
      refine run_at (i := 29) (v := ?_) rfl (by kernel_rfl) (by rfl) (fun _ _ _ h => h) hHeld (fun w1 hw1 => ?_) ?_
      rotate_left 1
      · skip
        go_simp
        (try (first | with_reducible rfl | (apply And.intro <;> rfl)))
      simp only [Act.put, List.setIfInBounds_toArray, List.set_cons_zero, List.set_cons_succ]
      refine wpAnyH_done (by kernel_rfl) ?_ _
      go_wp2_with fail
      go_meet
      exact ⟨rfl, hHeld⟩
  case rest =>
    obtain ⟨rfl, hf10⟩ := hcut
    obtain ⟨w10, hw10⟩ : ∃ w10, w10 = wc := ⟨_, rfl⟩
    subst hw10
    have HX10 := Lib.hid (HX9.out.keep hf10 (by simp))
    have HB10 := Lib.hid (HB9.out.keep hf10 (by simp))
    have HR10 := Lib.hid (HR9.out.keep hf10 (by simp))
    have HCF10 := Lib.hid (HCF9.out.keep hf10 (by simp))
    have HF10 := Lib.hid (HF9w.out.and hf10 (by simp))
    have HKC := Lib.hid (HK.out.keep HF10.out (by simp))
    clear hf10 HX9 HB9 HR9 HCF9 HF9w HBA9 HY9 HCR HRR HSELF HF7w HY3 HF3 HF4 HF5 HF35 HF45
    go_wp2_with fail
    refine (within_pos by_ 9 HBY.out.1 HBY.out.2 (by omega) (by omega) _).mono ?_
    rintro e_ wz ⟨rfl, rfl⟩
    have hb0 : 0 ≤ by_ % 9 := Int.emod_nonneg _ (by omega)
    have hb1 : by_ % 9 < 9 := Int.emod_lt_of_pos _ (by omega)
    generalize by_ % 9 = b9 at *
    go_wp2_with fail
    refine (within_pos what 7 HW.out.1 HW.out.2 (by omega) (by omega) _).mono ?_
    rintro e_ wz ⟨rfl, rfl⟩
    have hq0 : 0 ≤ what % 7 := Int.emod_nonneg _ (by omega)
    have hq1 : what % 7 < 7 := Int.emod_lt_of_pos _ (by omega)
    generalize what % 7 = q7 at *
    have hql := HQL.out
    have hat := Cm.at_blk HX10.out HHL.out
    have hcc := hat.c
    have hcs := hat.s
    have hcn := hat.n
    have hcb := hat.b
    have hcm := hat.m
    simp only at hcc hcs hcn hcb hcm
    have hz0 := HX10.out.frozen 0
    have hz1 := HX10.out.frozen 1
    have hz34 := HX10.out.frozen 34
    have hz35 := HX10.out.frozen 35
    have hz36 := HX10.out.frozen 36
    have hdd : 1 ≤ 1 + b9 ∧ 1 + b9 ≤ 9 := by omega
    have hq : q7 = 0 ∨ q7 = 1 ∨ q7 = 2 ∨ q7 = 3 ∨ q7 = 4 ∨ q7 = 5 ∨ q7 = 6 := by omega
    clear hq0 hq1 hat
    rcases hq with rfl | rfl | rfl | rfl | rfl | rfl | rfl
    · go_upto_region 27 with (fail)
      have hb11 := (cells_s C6 S9 (q.length : Int) (1000 + C6) 1 (S9 + (1 + b9)) H) ▸ HX10.out.set 1 (.int .i64 (S9 + (1 + b9)))
      have hf11 : Fr [g16] w10 (w10.setCell ⟨g16, 1, none⟩ (.int .i64 (S9 + (1 + b9)))) := (Fr.refl [g16] w10).setCell _ (fun _ => by simp) _
      generalize w10.setCell ⟨g16, 1, none⟩ (.int .i64 (S9 + (1 + b9))) = w11 at *
      have hok : (Cm.mk C6 (S9 + (1 + b9)) H (q.length : Int) (1000 + C6) 1).Ok := ⟨HOK.out.c, ⟨by show (_ : Int) ≤ S9 + (1 + b9); omega, by show S9 + (1 + b9) < (_ : Int); omega⟩, HOK.out.h, HOK.out.n, HOK.out.b, HOK.out.m⟩
      have hrt : rightC (1 + k5) L1 (Cm.mk C6 (S9 + (1 + b9)) H (q.length : Int) (1000 + C6) 1) = false := HT0.out _ _ hdd
      have HX11 := Lib.hid hb11.range
      have HB11 := Lib.hid (HB10.out.keep hf11 (fun x hx hm => HSG.out.1 (by simp at hm; rw [← hm]; exact hx)))
      have HR11 := Lib.hid (HR10.out.keep hf11 (fun x hx hm => HSG.out.2.1 (by simp at hm; rw [← hm]; exact hx)))
      have HCF11 := Lib.hid (HCF10.out.keep hf11 (by simpa using HGC.out)).range
      have HF11 := Lib.hid (HF10.out.go hf11 (by simpa using HSG.out.2.2))
      have HKC11 := Lib.hid (HK.out.keep HF11.out (by simp))
      have hcr := fun W (hW : Fr [] w11 W) => cright_any 1 (1 + k5) _ hok W Sb gb L1 (HB11.out.keep hW (by simp))
      have hrr := fun W (hW : Fr [] w11 W) => refright_c 1 (1 + k5) (by omega) _ hok W Sr w4.heap.size L1 (HR11.out.keep hW (by simp)) HND.out
      rw [hrt] at hcr hrr
      unfold Cm.val at hcr hrr
      have HCR := Lib.hid hcr
      have HRR := Lib.hid hrr
      have HLN := Lib.hid (Cm.len hok.h)
      clear hcr hrr hok hrt hb11 hf11
      generalize (Cm.mk C6 (S9 + (1 + b9)) H (q.length : Int) (1000 + C6) 1).cells = XC at *
      refine wp_region_held_drew (S := Fr [] w11) (by kernel_rfl) (Fr.drew (Fr.refl _ w11)) (fun hHeld => ?_)
      refine row_at (i := 0) rfl (by kernel_rfl) (by rfl) _ _ rfl _ _ rfl _ (fun w1 hw1 => hw1.range (HCF11.out) (by first | (simp; done) | exact HNS.out | exact HNW.out | (intro hm; have hlt := HSB.out _ hm; (try dsimp only at hlt); omega))) (row_conf) (fun _ _ _ h => h) hHeld ?_
      simp only [Act.put, List.setIfInBounds_toArray, List.set_cons_zero, List.set_cons_succ]
      refine run_at (i := 1) (v := ?_) rfl (by kernel_rfl) (by rfl) (fun _ _ _ h => h) hHeld (fun w1 hw1 => ?_) ?_
      rotate_left 1
      · skip
        go_simp
        (try (first | with_reducible rfl | (apply And.intro <;> rfl)))
      simp only [Act.put, List.setIfInBounds_toArray, List.set_cons_zero, List.set_cons_succ]
      refine row_at (i := 2) rfl (by kernel_rfl) (by rfl) _ _ rfl _ _ rfl _ (fun w1 hw1 => hw1.range (HX11.out) (by first | (simp; done) | exact HNS.out | exact HNW.out | (intro hm; have hlt := HSB.out _ hm; (try dsimp only at hlt); omega))) (row_commit.of HLN.out) (fun _ _ _ h => h) hHeld ?_
      simp only [Act.put, List.setIfInBounds_toArray, List.set_cons_zero, List.set_cons_succ]
      refine call_at (i := 3) (f := ?_) (args := ?_) rfl (by kernel_rfl) (by rfl) ?_ ?_
      rotate_left 2
      · go_simp
        (try (first | with_reducible rfl | (apply And.intro <;> rfl)))
      refine (HCR.out _ hHeld).mono ?_
      rintro e_ wp ⟨rfl, hfp⟩
      refine ⟨_, rfl, hHeld.and hfp (by simp), fun hHeld => ?_⟩
      clear hfp
      simp only [Act.put, List.setIfInBounds_toArray, List.set_cons_zero, List.set_cons_succ]
      refine run_at (i := 4) (v := ?_) rfl (by kernel_rfl) (by rfl) (fun _ _ _ h => h) hHeld (fun w1 hw1 => ?_) ?_
      rotate_left 1
      · skip
        go_simp
        (try (first | with_reducible rfl | (apply And.intro <;> rfl)))
      simp only [Act.put, List.setIfInBounds_toArray, List.set_cons_zero, List.set_cons_succ]
      refine run_at (i := 5) (v := ?_) rfl (by kernel_rfl) (by rfl) (fun _ _ _ h => h) hHeld (fun w1 hw1 => ?_) ?_
      rotate_left 1
      · skip
        go_simp
        (try (first | with_reducible rfl | (apply And.intro <;> rfl)))
      simp only [Act.put, List.setIfInBounds_toArray, List.set_cons_zero, List.set_cons_succ]
      refine row_at (i := 6) rfl (by kernel_rfl) (by rfl) _ _ rfl _ _ rfl _ (fun w1 hw1 => hw1.range (HCF11.out) (by first | (simp; done) | exact HNS.out | exact HNW.out | (intro hm; have hlt := HSB.out _ hm; (try dsimp only at hlt); omega))) (row_conf) (fun _ _ _ h => h) hHeld ?_
      simp only [Act.put, List.setIfInBounds_toArray, List.set_cons_zero, List.set_cons_succ]
      refine run_at (i := 7) (v := ?_) rfl (by kernel_rfl) (by rfl) (fun _ _ _ h => h) hHeld (fun w1 hw1 => ?_) ?_
      rotate_left 1
      · skip
        go_simp
        (try (first | with_reducible rfl | (apply And.intro <;> rfl)))
      simp only [Act.put, List.setIfInBounds_toArray, List.set_cons_zero, List.set_cons_succ]
      refine row_at (i := 8) rfl (by kernel_rfl) (by rfl) _ _ rfl _ _ rfl _ (fun w1 hw1 => hw1.range (HX11.out) (by first | (simp; done) | exact HNS.out | exact HNW.out | (intro hm; have hlt := HSB.out _ hm; (try dsimp only at hlt); omega))) (row_commit.of HLN.out) (fun _ _ _ h => h) hHeld ?_
      simp only [Act.put, List.setIfInBounds_toArray, List.set_cons_zero, List.set_cons_succ]
      refine row_at (i := 10) rfl (by kernel_rfl) (by rfl) _ _ rfl _ _ rfl _ (fun w1 hw1 => hw1.range (HCF11.out) (by first | (simp; done) | exact HNS.out | exact HNW.out | (intro hm; have hlt := HSB.out _ hm; (try dsimp only at hlt); omega))) (row_conf) (fun _ _ _ h => h) hHeld ?_
      simp only [Act.put, List.setIfInBounds_toArray, List.set_cons_zero, List.set_cons_succ]
      refine run_at (i := 11) (v := ?_) rfl (by kernel_rfl) (by rfl) (fun _ _ _ h => h) hHeld (fun w1 hw1 => ?_) ?_
      rotate_left 1
      · skip
        go_simp
        (try (first | with_reducible rfl | (apply And.intro <;> rfl)))
      simp only [Act.put, List.setIfInBounds_toArray, List.set_cons_zero, List.set_cons_succ]
      refine row_at (i := 12) rfl (by kernel_rfl) (by rfl) _ _ rfl _ _ rfl _ (fun w1 hw1 => hw1.range (HX11.out) (by first | (simp; done) | exact HNS.out | exact HNW.out | (intro hm; have hlt := HSB.out _ hm; (try dsimp only at hlt); omega))) (row_commit.of HLN.out) (fun _ _ _ h => h) hHeld ?_
      simp only [Act.put, List.setIfInBounds_toArray, List.set_cons_zero, List.set_cons_succ]
      refine call_at (i := 9) (f := ?_) (args := ?_) rfl (by kernel_rfl) (by rfl) ?_ ?_
      rotate_left 2
      · go_simp
        (try (first | with_reducible rfl | (apply And.intro <;> rfl)))
      refine (HCR.out _ hHeld).mono ?_
      rintro e_ wq ⟨rfl, hfq⟩
      refine ⟨_, rfl, hHeld.and hfq (by simp), fun hHeld => ?_⟩
      clear hfq
      simp only [Act.put, List.setIfInBounds_toArray, List.set_cons_zero, List.set_cons_succ]
      refine call_at (i := 13) (f := ?_) (args := ?_) rfl (by kernel_rfl) (by rfl) ?_ ?_
      rotate_left 2
      · go_simp
        (try (first | with_reducible rfl | (apply And.intro <;> rfl)))
      refine (HRR.out _ hHeld).mono ?_
      rintro e_ wr_ ⟨rfl, hfr⟩
      refine ⟨_, rfl, hHeld.and hfr (by simp), fun hHeld => ?_⟩
      clear hfr
      simp only [Act.put, List.setIfInBounds_toArray, List.set_cons_zero, List.set_cons_succ]
      refine run_at (i := 14) (v := ?_) rfl (by kernel_rfl) (by rfl) (fun _ _ _ h => h) hHeld (fun w1 hw1 => ?_) ?_
      rotate_left 1
      · skip
        go_simp
        (try (first | with_reducible rfl | (apply And.intro <;> rfl)))
      simp only [Act.put, List.setIfInBounds_toArray, List.set_cons_zero, List.set_cons_succ]
      refine run_at (i := 15) (v := ?_) rfl (by kernel_rfl) (by rfl) (fun _ _ _ h => h) hHeld (fun w1 hw1 => ?_) ?_
      rotate_left 1
      · skip
        go_simp
        (try (first | with_reducible rfl | (apply And.intro <;> rfl)))
      simp only [Act.put, List.setIfInBounds_toArray, List.set_cons_zero, List.set_cons_succ]
      refine run_at (i := 16) (v := ?_) rfl (by kernel_rfl) (by rfl) (fun _ _ _ h => h) hHeld (fun w1 hw1 => ?_) ?_
      rotate_left 1
      · skip
        go_simp
        (try (first | with_reducible rfl | (apply And.intro <;> rfl)))
      simp only [Act.put, List.setIfInBounds_toArray, List.set_cons_zero, List.set_cons_succ]
      refine call_at (i := 17) (f := ?_) (args := ?_) rfl (by kernel_rfl) (by rfl) ?_ ?_
      rotate_left 2
      · go_simp
        (try (first | with_reducible rfl | (apply And.intro <;> rfl)))
      refine (cwakes_any _ (HKC11.out.keep hHeld (by simp))).mono ?_
      rintro e_ wt ⟨rfl, hft⟩
      refine ⟨_, rfl, hHeld.and hft (by simp), fun hHeld => ?_⟩
      clear hft
      simp only [Act.put, List.setIfInBounds_toArray, List.set_cons_zero, List.set_cons_succ]
      refine run_at (i := 18) (v := ?_) rfl (by kernel_rfl) (by rfl) (fun _ _ _ h => h) hHeld (fun w1 hw1 => ?_) ?_
      rotate_left 1
      · skip
        go_simp
        (try (first | with_reducible rfl | (apply And.intro <;> rfl)))
      simp only [Act.put, List.setIfInBounds_toArray, List.set_cons_zero, List.set_cons_succ]
      refine run_at (i := 19) (v := ?_) rfl (by kernel_rfl) (by rfl) (fun _ _ _ h => h) hHeld (fun w1 hw1 => ?_) ?_
      rotate_left 1
      · skip
        go_simp
        (try (first | with_reducible rfl | (apply And.intro <;> rfl)))
      simp only [Act.put, List.setIfInBounds_toArray, List.set_cons_zero, List.set_cons_succ]
      refine wpAnyH_done (by kernel_rfl) ?_ _
      go_wp2
      go_ret
      exact ⟨rfl, HF11.out.and hHeld (by simp)⟩
    · go_upto_region 27 with (fail)
      have hb11 := (cells_c C6 S9 (q.length : Int) (1000 + C6) 1 (C6 + (1 + b9)) H) ▸ HX10.out.set 0 (.int .i64 (C6 + (1 + b9)))
      have hf11 : Fr [g16] w10 (w10.setCell ⟨g16, 0, none⟩ (.int .i64 (C6 + (1 + b9)))) := (Fr.refl [g16] w10).setCell _ (fun _ => by simp) _
      generalize w10.setCell ⟨g16, 0, none⟩ (.int .i64 (C6 + (1 + b9))) = w11 at *
      have hok : (Cm.mk (C6 + (1 + b9)) S9 H (q.length : Int) (1000 + C6) 1).Ok := ⟨⟨by show (_ : Int) ≤ C6 + (1 + b9); omega, by show C6 + (1 + b9) < (_ : Int); omega⟩, HOK.out.s, HOK.out.h, HOK.out.n, HOK.out.b, HOK.out.m⟩
      have hrt : rightC (1 + k5) L1 (Cm.mk (C6 + (1 + b9)) S9 H (q.length : Int) (1000 + C6) 1) = false := HT1.out _ _ hdd
      have HX11 := Lib.hid hb11.range
      have HB11 := Lib.hid (HB10.out.keep hf11 (fun x hx hm => HSG.out.1 (by simp at hm; rw [← hm]; exact hx)))
      have HR11 := Lib.hid (HR10.out.keep hf11 (fun x hx hm => HSG.out.2.1 (by simp at hm; rw [← hm]; exact hx)))
      have HCF11 := Lib.hid (HCF10.out.keep hf11 (by simpa using HGC.out)).range
      have HF11 := Lib.hid (HF10.out.go hf11 (by simpa using HSG.out.2.2))
      have HKC11 := Lib.hid (HK.out.keep HF11.out (by simp))
      have hcr := fun W (hW : Fr [] w11 W) => cright_any 1 (1 + k5) _ hok W Sb gb L1 (HB11.out.keep hW (by simp))
      have hrr := fun W (hW : Fr [] w11 W) => refright_c 1 (1 + k5) (by omega) _ hok W Sr w4.heap.size L1 (HR11.out.keep hW (by simp)) HND.out
      rw [hrt] at hcr hrr
      unfold Cm.val at hcr hrr
      have HCR := Lib.hid hcr
      have HRR := Lib.hid hrr
      have HLN := Lib.hid (Cm.len hok.h)
      clear hcr hrr hok hrt hb11 hf11
      generalize (Cm.mk (C6 + (1 + b9)) S9 H (q.length : Int) (1000 + C6) 1).cells = XC at *
      refine wp_region_held_drew (S := Fr [] w11) (by kernel_rfl) (Fr.drew (Fr.refl _ w11)) (fun hHeld => ?_)
      refine row_at (i := 0) rfl (by kernel_rfl) (by rfl) _ _ rfl _ _ rfl _ (fun w1 hw1 => hw1.range (HCF11.out) (by first | (simp; done) | exact HNS.out | exact HNW.out | (intro hm; have hlt := HSB.out _ hm; (try dsimp only at hlt); omega))) (row_conf) (fun _ _ _ h => h) hHeld ?_
      simp only [Act.put, List.setIfInBounds_toArray, List.set_cons_zero, List.set_cons_succ]
      refine run_at (i := 1) (v := ?_) rfl (by kernel_rfl) (by rfl) (fun _ _ _ h => h) hHeld (fun w1 hw1 => ?_) ?_
      rotate_left 1
      · skip
        go_simp
        (try (first | with_reducible rfl | (apply And.intro <;> rfl)))
      simp only [Act.put, List.setIfInBounds_toArray, List.set_cons_zero, List.set_cons_succ]
      refine row_at (i := 2) rfl (by kernel_rfl) (by rfl) _ _ rfl _ _ rfl _ (fun w1 hw1 => hw1.range (HX11.out) (by first | (simp; done) | exact HNS.out | exact HNW.out | (intro hm; have hlt := HSB.out _ hm; (try dsimp only at hlt); omega))) (row_commit.of HLN.out) (fun _ _ _ h => h) hHeld ?_
      simp only [Act.put, List.setIfInBounds_toArray, List.set_cons_zero, List.set_cons_succ]
      refine call_at (i := 3) (f := ?_) (args := ?_) rfl (by kernel_rfl) (by rfl) ?_ ?_
      rotate_left 2
      · go_simp
        (try (first | with_reducible rfl | (apply And.intro <;> rfl)))
      refine (HCR.out _ hHeld).mono ?_
      rintro e_ wp ⟨rfl, hfp⟩
      refine ⟨_, rfl, hHeld.and hfp (by simp), fun hHeld => ?_⟩
      clear hfp
      simp only [Act.put, List.setIfInBounds_toArray, List.set_cons_zero, List.set_cons_succ]
      refine run_at (i := 4) (v := ?_) rfl (by kernel_rfl) (by rfl) (fun _ _ _ h => h) hHeld (fun w1 hw1 => ?_) ?_
      rotate_left 1
      · skip
        go_simp
        (try (first | with_reducible rfl | (apply And.intro <;> rfl)))
      simp only [Act.put, List.setIfInBounds_toArray, List.set_cons_zero, List.set_cons_succ]
      refine run_at (i := 5) (v := ?_) rfl (by kernel_rfl) (by rfl) (fun _ _ _ h => h) hHeld (fun w1 hw1 => ?_) ?_
      rotate_left 1
      · skip
        go_simp
        (try (first | with_reducible rfl | (apply And.intro <;> rfl)))
      simp only [Act.put, List.setIfInBounds_toArray, List.set_cons_zero, List.set_cons_succ]
      refine row_at (i := 6) rfl (by kernel_rfl) (by rfl) _ _ rfl _ _ rfl _ (fun w1 hw1 => hw1.range (HCF11.out) (by first | (simp; done) | exact HNS.out | exact HNW.out | (intro hm; have hlt := HSB.out _ hm; (try dsimp only at hlt); omega))) (row_conf) (fun _ _ _ h => h) hHeld ?_
      simp only [Act.put, List.setIfInBounds_toArray, List.set_cons_zero, List.set_cons_succ]
      refine run_at (i := 7) (v := ?_) rfl (by kernel_rfl) (by rfl) (fun _ _ _ h => h) hHeld (fun w1 hw1 => ?_) ?_
      rotate_left 1
      · skip
        go_simp
        (try (first | with_reducible rfl | (apply And.intro <;> rfl)))
      simp only [Act.put, List.setIfInBounds_toArray, List.set_cons_zero, List.set_cons_succ]
      refine row_at (i := 8) rfl (by kernel_rfl) (by rfl) _ _ rfl _ _ rfl _ (fun w1 hw1 => hw1.range (HX11.out) (by first | (simp; done) | exact HNS.out | exact HNW.out | (intro hm; have hlt := HSB.out _ hm; (try dsimp only at hlt); omega))) (row_commit.of HLN.out) (fun _ _ _ h => h) hHeld ?_
      simp only [Act.put, List.setIfInBounds_toArray, List.set_cons_zero, List.set_cons_succ]
      refine row_at (i := 10) rfl (by kernel_rfl) (by rfl) _ _ rfl _ _ rfl _ (fun w1 hw1 => hw1.range (HCF11.out) (by first | (simp; done) | exact HNS.out | exact HNW.out | (intro hm; have hlt := HSB.out _ hm; (try dsimp only at hlt); omega))) (row_conf) (fun _ _ _ h => h) hHeld ?_
      simp only [Act.put, List.setIfInBounds_toArray, List.set_cons_zero, List.set_cons_succ]
      refine run_at (i := 11) (v := ?_) rfl (by kernel_rfl) (by rfl) (fun _ _ _ h => h) hHeld (fun w1 hw1 => ?_) ?_
      rotate_left 1
      · skip
        go_simp
        (try (first | with_reducible rfl | (apply And.intro <;> rfl)))
      simp only [Act.put, List.setIfInBounds_toArray, List.set_cons_zero, List.set_cons_succ]
      refine row_at (i := 12) rfl (by kernel_rfl) (by rfl) _ _ rfl _ _ rfl _ (fun w1 hw1 => hw1.range (HX11.out) (by first | (simp; done) | exact HNS.out | exact HNW.out | (intro hm; have hlt := HSB.out _ hm; (try dsimp only at hlt); omega))) (row_commit.of HLN.out) (fun _ _ _ h => h) hHeld ?_
      simp only [Act.put, List.setIfInBounds_toArray, List.set_cons_zero, List.set_cons_succ]
      refine call_at (i := 9) (f := ?_) (args := ?_) rfl (by kernel_rfl) (by rfl) ?_ ?_
      rotate_left 2
      · go_simp
        (try (first | with_reducible rfl | (apply And.intro <;> rfl)))
      refine (HCR.out _ hHeld).mono ?_
      rintro e_ wq ⟨rfl, hfq⟩
      refine ⟨_, rfl, hHeld.and hfq (by simp), fun hHeld => ?_⟩
      clear hfq
      simp only [Act.put, List.setIfInBounds_toArray, List.set_cons_zero, List.set_cons_succ]
      refine call_at (i := 13) (f := ?_) (args := ?_) rfl (by kernel_rfl) (by rfl) ?_ ?_
      rotate_left 2
      · go_simp
        (try (first | with_reducible rfl | (apply And.intro <;> rfl)))
      refine (HRR.out _ hHeld).mono ?_
      rintro e_ wr_ ⟨rfl, hfr⟩
      refine ⟨_, rfl, hHeld.and hfr (by simp), fun hHeld => ?_⟩
      clear hfr
      simp only [Act.put, List.setIfInBounds_toArray, List.set_cons_zero, List.set_cons_succ]
      refine run_at (i := 14) (v := ?_) rfl (by kernel_rfl) (by rfl) (fun _ _ _ h => h) hHeld (fun w1 hw1 => ?_) ?_
      rotate_left 1
      · skip
        go_simp
        (try (first | with_reducible rfl | (apply And.intro <;> rfl)))
      simp only [Act.put, List.setIfInBounds_toArray, List.set_cons_zero, List.set_cons_succ]
      refine run_at (i := 15) (v := ?_) rfl (by kernel_rfl) (by rfl) (fun _ _ _ h => h) hHeld (fun w1 hw1 => ?_) ?_
      rotate_left 1
      · skip
        go_simp
        (try (first | with_reducible rfl | (apply And.intro <;> rfl)))
      simp only [Act.put, List.setIfInBounds_toArray, List.set_cons_zero, List.set_cons_succ]
      refine run_at (i := 16) (v := ?_) rfl (by kernel_rfl) (by rfl) (fun _ _ _ h => h) hHeld (fun w1 hw1 => ?_) ?_
      rotate_left 1
      · skip
        go_simp
        (try (first | with_reducible rfl | (apply And.intro <;> rfl)))
      simp only [Act.put, List.setIfInBounds_toArray, List.set_cons_zero, List.set_cons_succ]
      refine call_at (i := 17) (f := ?_) (args := ?_) rfl (by kernel_rfl) (by rfl) ?_ ?_
      rotate_left 2
      · go_simp
        (try (first | with_reducible rfl | (apply And.intro <;> rfl)))
      refine (cwakes_any _ (HKC11.out.keep hHeld (by simp))).mono ?_
      rintro e_ wt ⟨rfl, hft⟩
      refine ⟨_, rfl, hHeld.and hft (by simp), fun hHeld => ?_⟩
      clear hft
      simp only [Act.put, List.setIfInBounds_toArray, List.set_cons_zero, List.set_cons_succ]
      refine run_at (i := 18) (v := ?_) rfl (by kernel_rfl) (by rfl) (fun _ _ _ h => h) hHeld (fun w1 hw1 => ?_) ?_
      rotate_left 1
      · skip
        go_simp
        (try (first | with_reducible rfl | (apply And.intro <;> rfl)))
      simp only [Act.put, List.setIfInBounds_toArray, List.set_cons_zero, List.set_cons_succ]
      refine run_at (i := 19) (v := ?_) rfl (by kernel_rfl) (by rfl) (fun _ _ _ h => h) hHeld (fun w1 hw1 => ?_) ?_
      rotate_left 1
      · skip
        go_simp
        (try (first | with_reducible rfl | (apply And.intro <;> rfl)))
      simp only [Act.put, List.setIfInBounds_toArray, List.set_cons_zero, List.set_cons_succ]
      refine wpAnyH_done (by kernel_rfl) ?_ _
      go_wp2
      go_ret
      exact ⟨rfl, HF11.out.and hHeld (by simp)⟩
    · obtain ⟨m, rfl⟩ : ∃ m : Nat, b9 = (m : Int) := ⟨b9.toNat, by omega⟩
      have hm8 : m ≤ 8 := by omega
      have hil : 1 + m < H.length := by rw [HHL.out]; omega
      obtain ⟨u, hu, hune⟩ := xor1 H[1 + m]
      have hch : w10.cell? ⟨g16, 2 + (1 + m), none⟩ = some (.int .u8 (H[1 + m].toNat : Int)) := (Cm.at_blk HX10.out HHL.out).hash (1 + m) _ (by simp [hil, by8])
      have hzh := HX10.out.frozen (2 + (1 + m))
      have hHu : H[1 + m]? ≠ some u := by rw [List.getElem?_eq_getElem hil]; exact fun e => hune (Option.some.inj e).symm
      generalize H[1 + m] = hb at *
      have HIL := Lib.hid hil
      have HHU := Lib.hid hHu
      clear hil hHu hune
      go_upto_region 27 with (fail)
      have hb11 := (show Blk (w10.setCell ⟨g16, 2 + (1 + m), none⟩ (.int .u8 (u.toNat : Int))) g16 54 (Cm.mk C6 S9 (H.set (1 + m) u) (q.length : Int) (1000 + C6) 1).cells.toArray from by
        have h := HX10.out.set (2 + (1 + m)) (by8 u)
        rw [cells_h C6 S9 (q.length : Int) (1000 + C6) 1 H (1 + m) u HIL.out] at h
        exact h)
      have hf11 : Fr [g16] w10 (w10.setCell ⟨g16, 2 + (1 + m), none⟩ (.int .u8 (u.toNat : Int))) := (Fr.refl [g16] w10).setCell _ (fun _ => by simp) _
      generalize w10.setCell ⟨g16, 2 + (1 + m), none⟩ (.int .u8 (u.toNat : Int)) = w11 at *
      have hok : (Cm.mk C6 S9 (H.set (1 + m) u) (q.length : Int) (1000 + C6) 1).Ok := ⟨HOK.out.c, HOK.out.s, by show (H.set (1 + m) u).length = 32; rw [List.length_set]; exact HHL.out, HOK.out.n, HOK.out.b, HOK.out.m⟩
      have hrt : rightC (1 + k5) L1 (Cm.mk C6 S9 (H.set (1 + m) u) (q.length : Int) (1000 + C6) 1) = false := HT2.out _ _ _ HHU.out (by omega)
      have HX11 := Lib.hid hb11.range
      have HB11 := Lib.hid (HB10.out.keep hf11 (fun x hx hm => HSG.out.1 (by simp at hm; rw [← hm]; exact hx)))
      have HR11 := Lib.hid (HR10.out.keep hf11 (fun x hx hm => HSG.out.2.1 (by simp at hm; rw [← hm]; exact hx)))
      have HCF11 := Lib.hid (HCF10.out.keep hf11 (by simpa using HGC.out)).range
      have HF11 := Lib.hid (HF10.out.go hf11 (by simpa using HSG.out.2.2))
      have HKC11 := Lib.hid (HK.out.keep HF11.out (by simp))
      have hcr := fun W (hW : Fr [] w11 W) => cright_any 1 (1 + k5) _ hok W Sb gb L1 (HB11.out.keep hW (by simp))
      have hrr := fun W (hW : Fr [] w11 W) => refright_c 1 (1 + k5) (by omega) _ hok W Sr w4.heap.size L1 (HR11.out.keep hW (by simp)) HND.out
      rw [hrt] at hcr hrr
      unfold Cm.val at hcr hrr
      have HCR := Lib.hid hcr
      have HRR := Lib.hid hrr
      have HLN := Lib.hid (Cm.len hok.h)
      clear hcr hrr hok hrt hb11 hf11
      generalize (Cm.mk C6 S9 (H.set (1 + m) u) (q.length : Int) (1000 + C6) 1).cells = XC at *
      refine wp_region_held_drew (S := Fr [] w11) (by kernel_rfl) (Fr.drew (Fr.refl _ w11)) (fun hHeld => ?_)
      refine row_at (i := 0) rfl (by kernel_rfl) (by rfl) _ _ rfl _ _ rfl _ (fun w1 hw1 => hw1.range (HCF11.out) (by first | (simp; done) | exact HNS.out | exact HNW.out | (intro hm; have hlt := HSB.out _ hm; (try dsimp only at hlt); omega))) (row_conf) (fun _ _ _ h => h) hHeld ?_
      simp only [Act.put, List.setIfInBounds_toArray, List.set_cons_zero, List.set_cons_succ]
      refine run_at (i := 1) (v := ?_) rfl (by kernel_rfl) (by rfl) (fun _ _ _ h => h) hHeld (fun w1 hw1 => ?_) ?_
      rotate_left 1
      · skip
        go_simp
        (try (first | with_reducible rfl | (apply And.intro <;> rfl)))
      simp only [Act.put, List.setIfInBounds_toArray, List.set_cons_zero, List.set_cons_succ]
      refine row_at (i := 2) rfl (by kernel_rfl) (by rfl) _ _ rfl _ _ rfl _ (fun w1 hw1 => hw1.range (HX11.out) (by first | (simp; done) | exact HNS.out | exact HNW.out | (intro hm; have hlt := HSB.out _ hm; (try dsimp only at hlt); omega))) (row_commit.of HLN.out) (fun _ _ _ h => h) hHeld ?_
      simp only [Act.put, List.setIfInBounds_toArray, List.set_cons_zero, List.set_cons_succ]
      refine call_at (i := 3) (f := ?_) (args := ?_) rfl (by kernel_rfl) (by rfl) ?_ ?_
      rotate_left 2
      · go_simp
        (try (first | with_reducible rfl | (apply And.intro <;> rfl)))
      refine (HCR.out _ hHeld).mono ?_
      rintro e_ wp ⟨rfl, hfp⟩
      refine ⟨_, rfl, hHeld.and hfp (by simp), fun hHeld => ?_⟩
      clear hfp
      simp only [Act.put, List.setIfInBounds_toArray, List.set_cons_zero, List.set_cons_succ]
      refine run_at (i := 4) (v := ?_) rfl (by kernel_rfl) (by rfl) (fun _ _ _ h => h) hHeld (fun w1 hw1 => ?_) ?_
      rotate_left 1
      · skip
        go_simp
        (try (first | with_reducible rfl | (apply And.intro <;> rfl)))
      simp only [Act.put, List.setIfInBounds_toArray, List.set_cons_zero, List.set_cons_succ]
      refine run_at (i := 5) (v := ?_) rfl (by kernel_rfl) (by rfl) (fun _ _ _ h => h) hHeld (fun w1 hw1 => ?_) ?_
      rotate_left 1
      · skip
        go_simp
        (try (first | with_reducible rfl | (apply And.intro <;> rfl)))
      simp only [Act.put, List.setIfInBounds_toArray, List.set_cons_zero, List.set_cons_succ]
      refine row_at (i := 6) rfl (by kernel_rfl) (by rfl) _ _ rfl _ _ rfl _ (fun w1 hw1 => hw1.range (HCF11.out) (by first | (simp; done) | exact HNS.out | exact HNW.out | (intro hm; have hlt := HSB.out _ hm; (try dsimp only at hlt); omega))) (row_conf) (fun _ _ _ h => h) hHeld ?_
      simp only [Act.put, List.setIfInBounds_toArray, List.set_cons_zero, List.set_cons_succ]
      refine run_at (i := 7) (v := ?_) rfl (by kernel_rfl) (by rfl) (fun _ _ _ h => h) hHeld (fun w1 hw1 => ?_) ?_
      rotate_left 1
      · skip
        go_simp
        (try (first | with_reducible rfl | (apply And.intro <;> rfl)))
      simp only [Act.put, List.setIfInBounds_toArray, List.set_cons_zero, List.set_cons_succ]
      refine row_at (i := 8) rfl (by kernel_rfl) (by rfl) _ _ rfl _ _ rfl _ (fun w1 hw1 => hw1.range (HX11.out) (by first | (simp; done) | exact HNS.out | exact HNW.out | (intro hm; have hlt := HSB.out _ hm; (try dsimp only at hlt); omega))) (row_commit.of HLN.out) (fun _ _ _ h => h) hHeld ?_
      simp only [Act.put, List.setIfInBounds_toArray, List.set_cons_zero, List.set_cons_succ]
      refine row_at (i := 10) rfl (by kernel_rfl) (by rfl) _ _ rfl _ _ rfl _ (fun w1 hw1 => hw1.range (HCF11.out) (by first | (simp; done) | exact HNS.out | exact HNW.out | (intro hm; have hlt := HSB.out _ hm; (try dsimp only at hlt); omega))) (row_conf) (fun _ _ _ h => h) hHeld ?_
      simp only [Act.put, List.setIfInBounds_toArray, List.set_cons_zero, List.set_cons_succ]
      refine run_at (i := 11) (v := ?_) rfl (by kernel_rfl) (by rfl) (fun _ _ _ h => h) hHeld (fun w1 hw1 => ?_) ?_
      rotate_left 1
      · skip
        go_simp
        (try (first | with_reducible rfl | (apply And.intro <;> rfl)))
      simp only [Act.put, List.setIfInBounds_toArray, List.set_cons_zero, List.set_cons_succ]
      refine row_at (i := 12) rfl (by kernel_rfl) (by rfl) _ _ rfl _ _ rfl _ (fun w1 hw1 => hw1.range (HX11.out) (by first | (simp; done) | exact HNS.out | exact HNW.out | (intro hm; have hlt := HSB.out _ hm; (try dsimp only at hlt); omega))) (row_commit.of HLN.out) (fun _ _ _ h => h) hHeld ?_
      simp only [Act.put, List.setIfInBounds_toArray, List.set_cons_zero, List.set_cons_succ]
      refine call_at (i := 9) (f := ?_) (args := ?_) rfl (by kernel_rfl) (by rfl) ?_ ?_
      rotate_left 2
      · go_simp
        (try (first | with_reducible rfl | (apply And.intro <;> rfl)))
      refine (HCR.out _ hHeld).mono ?_
      rintro e_ wq ⟨rfl, hfq⟩
      refine ⟨_, rfl, hHeld.and hfq (by simp), fun hHeld => ?_⟩
      clear hfq
      simp only [Act.put, List.setIfInBounds_toArray, List.set_cons_zero, List.set_cons_succ]
      refine call_at (i := 13) (f := ?_) (args := ?_) rfl (by kernel_rfl) (by rfl) ?_ ?_
      rotate_left 2
      · go_simp
        (try (first | with_reducible rfl | (apply And.intro <;> rfl)))
      refine (HRR.out _ hHeld).mono ?_
      rintro e_ wr_ ⟨rfl, hfr⟩
      refine ⟨_, rfl, hHeld.and hfr (by simp), fun hHeld => ?_⟩
      clear hfr
      simp only [Act.put, List.setIfInBounds_toArray, List.set_cons_zero, List.set_cons_succ]
      refine run_at (i := 14) (v := ?_) rfl (by kernel_rfl) (by rfl) (fun _ _ _ h => h) hHeld (fun w1 hw1 => ?_) ?_
      rotate_left 1
      · skip
        go_simp
        (try (first | with_reducible rfl | (apply And.intro <;> rfl)))
      simp only [Act.put, List.setIfInBounds_toArray, List.set_cons_zero, List.set_cons_succ]
      refine run_at (i := 15) (v := ?_) rfl (by kernel_rfl) (by rfl) (fun _ _ _ h => h) hHeld (fun w1 hw1 => ?_) ?_
      rotate_left 1
      · skip
        go_simp
        (try (first | with_reducible rfl | (apply And.intro <;> rfl)))
      simp only [Act.put, List.setIfInBounds_toArray, List.set_cons_zero, List.set_cons_succ]
      refine run_at (i := 16) (v := ?_) rfl (by kernel_rfl) (by rfl) (fun _ _ _ h => h) hHeld (fun w1 hw1 => ?_) ?_
      rotate_left 1
      · skip
        go_simp
        (try (first | with_reducible rfl | (apply And.intro <;> rfl)))
      simp only [Act.put, List.setIfInBounds_toArray, List.set_cons_zero, List.set_cons_succ]
      refine call_at (i := 17) (f := ?_) (args := ?_) rfl (by kernel_rfl) (by rfl) ?_ ?_
      rotate_left 2
      · go_simp
        (try (first | with_reducible rfl | (apply And.intro <;> rfl)))
      refine (cwakes_any _ (HKC11.out.keep hHeld (by simp))).mono ?_
      rintro e_ wt ⟨rfl, hft⟩
      refine ⟨_, rfl, hHeld.and hft (by simp), fun hHeld => ?_⟩
      clear hft
      simp only [Act.put, List.setIfInBounds_toArray, List.set_cons_zero, List.set_cons_succ]
      refine run_at (i := 18) (v := ?_) rfl (by kernel_rfl) (by rfl) (fun _ _ _ h => h) hHeld (fun w1 hw1 => ?_) ?_
      rotate_left 1
      · skip
        go_simp
        (try (first | with_reducible rfl | (apply And.intro <;> rfl)))
      simp only [Act.put, List.setIfInBounds_toArray, List.set_cons_zero, List.set_cons_succ]
      refine run_at (i := 19) (v := ?_) rfl (by kernel_rfl) (by rfl) (fun _ _ _ h => h) hHeld (fun w1 hw1 => ?_) ?_
      rotate_left 1
      · skip
        go_simp
        (try (first | with_reducible rfl | (apply And.intro <;> rfl)))
      simp only [Act.put, List.setIfInBounds_toArray, List.set_cons_zero, List.set_cons_succ]
      refine wpAnyH_done (by kernel_rfl) ?_ _
      go_wp2
      go_ret
      exact ⟨rfl, HF11.out.and hHeld (by simp)⟩
    · go_upto_region 27 with (fail)
      have hb11 := (cells_n C6 S9 (q.length : Int) (1000 + C6) 1 ((q.length : Int) + (1 + b9)) H HHL.out) ▸ HX10.out.set 34 (.int .i64 ((q.length : Int) + (1 + b9)))
      have hf11 : Fr [g16] w10 (w10.setCell ⟨g16, 34, none⟩ (.int .i64 ((q.length : Int) + (1 + b9)))) := (Fr.refl [g16] w10).setCell _ (fun _ => by simp) _
      generalize w10.setCell ⟨g16, 34, none⟩ (.int .i64 ((q.length : Int) + (1 + b9))) = w11 at *
      have hok : (Cm.mk C6 S9 H ((q.length : Int) + (1 + b9)) (1000 + C6) 1).Ok := ⟨HOK.out.c, HOK.out.s, HOK.out.h, ⟨by show (_ : Int) ≤ (q.length : Int) + (1 + b9); omega, by show (q.length : Int) + (1 + b9) < (_ : Int); omega⟩, HOK.out.b, HOK.out.m⟩
      have hrt : rightC (1 + k5) L1 (Cm.mk C6 S9 H ((q.length : Int) + (1 + b9)) (1000 + C6) 1) = false := HT3.out _ _ hdd
      have HX11 := Lib.hid hb11.range
      have HB11 := Lib.hid (HB10.out.keep hf11 (fun x hx hm => HSG.out.1 (by simp at hm; rw [← hm]; exact hx)))
      have HR11 := Lib.hid (HR10.out.keep hf11 (fun x hx hm => HSG.out.2.1 (by simp at hm; rw [← hm]; exact hx)))
      have HCF11 := Lib.hid (HCF10.out.keep hf11 (by simpa using HGC.out)).range
      have HF11 := Lib.hid (HF10.out.go hf11 (by simpa using HSG.out.2.2))
      have HKC11 := Lib.hid (HK.out.keep HF11.out (by simp))
      have hcr := fun W (hW : Fr [] w11 W) => cright_any 1 (1 + k5) _ hok W Sb gb L1 (HB11.out.keep hW (by simp))
      have hrr := fun W (hW : Fr [] w11 W) => refright_c 1 (1 + k5) (by omega) _ hok W Sr w4.heap.size L1 (HR11.out.keep hW (by simp)) HND.out
      rw [hrt] at hcr hrr
      unfold Cm.val at hcr hrr
      have HCR := Lib.hid hcr
      have HRR := Lib.hid hrr
      have HLN := Lib.hid (Cm.len hok.h)
      clear hcr hrr hok hrt hb11 hf11
      generalize (Cm.mk C6 S9 H ((q.length : Int) + (1 + b9)) (1000 + C6) 1).cells = XC at *
      refine wp_region_held_drew (S := Fr [] w11) (by kernel_rfl) (Fr.drew (Fr.refl _ w11)) (fun hHeld => ?_)
      refine row_at (i := 0) rfl (by kernel_rfl) (by rfl) _ _ rfl _ _ rfl _ (fun w1 hw1 => hw1.range (HCF11.out) (by first | (simp; done) | exact HNS.out | exact HNW.out | (intro hm; have hlt := HSB.out _ hm; (try dsimp only at hlt); omega))) (row_conf) (fun _ _ _ h => h) hHeld ?_
      simp only [Act.put, List.setIfInBounds_toArray, List.set_cons_zero, List.set_cons_succ]
      refine run_at (i := 1) (v := ?_) rfl (by kernel_rfl) (by rfl) (fun _ _ _ h => h) hHeld (fun w1 hw1 => ?_) ?_
      rotate_left 1
      · skip
        go_simp
        (try (first | with_reducible rfl | (apply And.intro <;> rfl)))
      simp only [Act.put, List.setIfInBounds_toArray, List.set_cons_zero, List.set_cons_succ]
      refine row_at (i := 2) rfl (by kernel_rfl) (by rfl) _ _ rfl _ _ rfl _ (fun w1 hw1 => hw1.range (HX11.out) (by first | (simp; done) | exact HNS.out | exact HNW.out | (intro hm; have hlt := HSB.out _ hm; (try dsimp only at hlt); omega))) (row_commit.of HLN.out) (fun _ _ _ h => h) hHeld ?_
      simp only [Act.put, List.setIfInBounds_toArray, List.set_cons_zero, List.set_cons_succ]
      refine call_at (i := 3) (f := ?_) (args := ?_) rfl (by kernel_rfl) (by rfl) ?_ ?_
      rotate_left 2
      · go_simp
        (try (first | with_reducible rfl | (apply And.intro <;> rfl)))
      refine (HCR.out _ hHeld).mono ?_
      rintro e_ wp ⟨rfl, hfp⟩
      refine ⟨_, rfl, hHeld.and hfp (by simp), fun hHeld => ?_⟩
      clear hfp
      simp only [Act.put, List.setIfInBounds_toArray, List.set_cons_zero, List.set_cons_succ]
      refine run_at (i := 4) (v := ?_) rfl (by kernel_rfl) (by rfl) (fun _ _ _ h => h) hHeld (fun w1 hw1 => ?_) ?_
      rotate_left 1
      · skip
        go_simp
        (try (first | with_reducible rfl | (apply And.intro <;> rfl)))
      simp only [Act.put, List.setIfInBounds_toArray, List.set_cons_zero, List.set_cons_succ]
      refine run_at (i := 5) (v := ?_) rfl (by kernel_rfl) (by rfl) (fun _ _ _ h => h) hHeld (fun w1 hw1 => ?_) ?_
      rotate_left 1
      · skip
        go_simp
        (try (first | with_reducible rfl | (apply And.intro <;> rfl)))
      simp only [Act.put, List.setIfInBounds_toArray, List.set_cons_zero, List.set_cons_succ]
      refine row_at (i := 6) rfl (by kernel_rfl) (by rfl) _ _ rfl _ _ rfl _ (fun w1 hw1 => hw1.range (HCF11.out) (by first | (simp; done) | exact HNS.out | exact HNW.out | (intro hm; have hlt := HSB.out _ hm; (try dsimp only at hlt); omega))) (row_conf) (fun _ _ _ h => h) hHeld ?_
      simp only [Act.put, List.setIfInBounds_toArray, List.set_cons_zero, List.set_cons_succ]
      refine run_at (i := 7) (v := ?_) rfl (by kernel_rfl) (by rfl) (fun _ _ _ h => h) hHeld (fun w1 hw1 => ?_) ?_
      rotate_left 1
      · skip
        go_simp
        (try (first | with_reducible rfl | (apply And.intro <;> rfl)))
      simp only [Act.put, List.setIfInBounds_toArray, List.set_cons_zero, List.set_cons_succ]
      refine row_at (i := 8) rfl (by kernel_rfl) (by rfl) _ _ rfl _ _ rfl _ (fun w1 hw1 => hw1.range (HX11.out) (by first | (simp; done) | exact HNS.out | exact HNW.out | (intro hm; have hlt := HSB.out _ hm; (try dsimp only at hlt); omega))) (row_commit.of HLN.out) (fun _ _ _ h => h) hHeld ?_
      simp only [Act.put, List.setIfInBounds_toArray, List.set_cons_zero, List.set_cons_succ]
      refine row_at (i := 10) rfl (by kernel_rfl) (by rfl) _ _ rfl _ _ rfl _ (fun w1 hw1 => hw1.range (HCF11.out) (by first | (simp; done) | exact HNS.out | exact HNW.out | (intro hm; have hlt := HSB.out _ hm; (try dsimp only at hlt); omega))) (row_conf) (fun _ _ _ h => h) hHeld ?_
      simp only [Act.put, List.setIfInBounds_toArray, List.set_cons_zero, List.set_cons_succ]
      refine run_at (i := 11) (v := ?_) rfl (by kernel_rfl) (by rfl) (fun _ _ _ h => h) hHeld (fun w1 hw1 => ?_) ?_
      rotate_left 1
      · skip
        go_simp
        (try (first | with_reducible rfl | (apply And.intro <;> rfl)))
      simp only [Act.put, List.setIfInBounds_toArray, List.set_cons_zero, List.set_cons_succ]
      refine row_at (i := 12) rfl (by kernel_rfl) (by rfl) _ _ rfl _ _ rfl _ (fun w1 hw1 => hw1.range (HX11.out) (by first | (simp; done) | exact HNS.out | exact HNW.out | (intro hm; have hlt := HSB.out _ hm; (try dsimp only at hlt); omega))) (row_commit.of HLN.out) (fun _ _ _ h => h) hHeld ?_
      simp only [Act.put, List.setIfInBounds_toArray, List.set_cons_zero, List.set_cons_succ]
      refine call_at (i := 9) (f := ?_) (args := ?_) rfl (by kernel_rfl) (by rfl) ?_ ?_
      rotate_left 2
      · go_simp
        (try (first | with_reducible rfl | (apply And.intro <;> rfl)))
      refine (HCR.out _ hHeld).mono ?_
      rintro e_ wq ⟨rfl, hfq⟩
      refine ⟨_, rfl, hHeld.and hfq (by simp), fun hHeld => ?_⟩
      clear hfq
      simp only [Act.put, List.setIfInBounds_toArray, List.set_cons_zero, List.set_cons_succ]
      refine call_at (i := 13) (f := ?_) (args := ?_) rfl (by kernel_rfl) (by rfl) ?_ ?_
      rotate_left 2
      · go_simp
        (try (first | with_reducible rfl | (apply And.intro <;> rfl)))
      refine (HRR.out _ hHeld).mono ?_
      rintro e_ wr_ ⟨rfl, hfr⟩
      refine ⟨_, rfl, hHeld.and hfr (by simp), fun hHeld => ?_⟩
      clear hfr
      simp only [Act.put, List.setIfInBounds_toArray, List.set_cons_zero, List.set_cons_succ]
      refine run_at (i := 14) (v := ?_) rfl (by kernel_rfl) (by rfl) (fun _ _ _ h => h) hHeld (fun w1 hw1 => ?_) ?_
      rotate_left 1
      · skip
        go_simp
        (try (first | with_reducible rfl | (apply And.intro <;> rfl)))
      simp only [Act.put, List.setIfInBounds_toArray, List.set_cons_zero, List.set_cons_succ]
      refine run_at (i := 15) (v := ?_) rfl (by kernel_rfl) (by rfl) (fun _ _ _ h => h) hHeld (fun w1 hw1 => ?_) ?_
      rotate_left 1
      · skip
        go_simp
        (try (first | with_reducible rfl | (apply And.intro <;> rfl)))
      simp only [Act.put, List.setIfInBounds_toArray, List.set_cons_zero, List.set_cons_succ]
      refine run_at (i := 16) (v := ?_) rfl (by kernel_rfl) (by rfl) (fun _ _ _ h => h) hHeld (fun w1 hw1 => ?_) ?_
      rotate_left 1
      · skip
        go_simp
        (try (first | with_reducible rfl | (apply And.intro <;> rfl)))
      simp only [Act.put, List.setIfInBounds_toArray, List.set_cons_zero, List.set_cons_succ]
      refine call_at (i := 17) (f := ?_) (args := ?_) rfl (by kernel_rfl) (by rfl) ?_ ?_
      rotate_left 2
      · go_simp
        (try (first | with_reducible rfl | (apply And.intro <;> rfl)))
      refine (cwakes_any _ (HKC11.out.keep hHeld (by simp))).mono ?_
      rintro e_ wt ⟨rfl, hft⟩
      refine ⟨_, rfl, hHeld.and hft (by simp), fun hHeld => ?_⟩
      clear hft
      simp only [Act.put, List.setIfInBounds_toArray, List.set_cons_zero, List.set_cons_succ]
      refine run_at (i := 18) (v := ?_) rfl (by kernel_rfl) (by rfl) (fun _ _ _ h => h) hHeld (fun w1 hw1 => ?_) ?_
      rotate_left 1
      · skip
        go_simp
        (try (first | with_reducible rfl | (apply And.intro <;> rfl)))
      simp only [Act.put, List.setIfInBounds_toArray, List.set_cons_zero, List.set_cons_succ]
      refine run_at (i := 19) (v := ?_) rfl (by kernel_rfl) (by rfl) (fun _ _ _ h => h) hHeld (fun w1 hw1 => ?_) ?_
      rotate_left 1
      · skip
        go_simp
        (try (first | with_reducible rfl | (apply And.intro <;> rfl)))
      simp only [Act.put, List.setIfInBounds_toArray, List.set_cons_zero, List.set_cons_succ]
      refine wpAnyH_done (by kernel_rfl) ?_ _
      go_wp2
      go_ret
      exact ⟨rfl, HF11.out.and hHeld (by simp)⟩
    · go_upto_region 27 with (fail)
      have hb11 := (cells_m C6 S9 (q.length : Int) (1000 + C6) 1 (1 + (1 + b9)) H HHL.out) ▸ HX10.out.set 36 (.int .i64 (1 + (1 + b9)))
      have hf11 : Fr [g16] w10 (w10.setCell ⟨g16, 36, none⟩ (.int .i64 (1 + (1 + b9)))) := (Fr.refl [g16] w10).setCell _ (fun _ => by simp) _
      generalize w10.setCell ⟨g16, 36, none⟩ (.int .i64 (1 + (1 + b9))) = w11 at *
      have hok : (Cm.mk C6 S9 H (q.length : Int) (1000 + C6) (1 + (1 + b9))).Ok := ⟨HOK.out.c, HOK.out.s, HOK.out.h, HOK.out.n, HOK.out.b, ⟨by show (_ : Int) ≤ 1 + (1 + b9); omega, by show 1 + (1 + b9) < (_ : Int); omega⟩⟩
      have hrt : rightC (1 + k5) L1 (Cm.mk C6 S9 H (q.length : Int) (1000 + C6) (1 + (1 + b9))) = false := HT4.out _ _ hdd
      have HX11 := Lib.hid hb11.range
      have HB11 := Lib.hid (HB10.out.keep hf11 (fun x hx hm => HSG.out.1 (by simp at hm; rw [← hm]; exact hx)))
      have HR11 := Lib.hid (HR10.out.keep hf11 (fun x hx hm => HSG.out.2.1 (by simp at hm; rw [← hm]; exact hx)))
      have HCF11 := Lib.hid (HCF10.out.keep hf11 (by simpa using HGC.out)).range
      have HF11 := Lib.hid (HF10.out.go hf11 (by simpa using HSG.out.2.2))
      have HKC11 := Lib.hid (HK.out.keep HF11.out (by simp))
      have hcr := fun W (hW : Fr [] w11 W) => cright_any 1 (1 + k5) _ hok W Sb gb L1 (HB11.out.keep hW (by simp))
      have hrr := fun W (hW : Fr [] w11 W) => refright_c 1 (1 + k5) (by omega) _ hok W Sr w4.heap.size L1 (HR11.out.keep hW (by simp)) HND.out
      rw [hrt] at hcr hrr
      unfold Cm.val at hcr hrr
      have HCR := Lib.hid hcr
      have HRR := Lib.hid hrr
      have HLN := Lib.hid (Cm.len hok.h)
      clear hcr hrr hok hrt hb11 hf11
      generalize (Cm.mk C6 S9 H (q.length : Int) (1000 + C6) (1 + (1 + b9))).cells = XC at *
      refine wp_region_held_drew (S := Fr [] w11) (by kernel_rfl) (Fr.drew (Fr.refl _ w11)) (fun hHeld => ?_)
      refine row_at (i := 0) rfl (by kernel_rfl) (by rfl) _ _ rfl _ _ rfl _ (fun w1 hw1 => hw1.range (HCF11.out) (by first | (simp; done) | exact HNS.out | exact HNW.out | (intro hm; have hlt := HSB.out _ hm; (try dsimp only at hlt); omega))) (row_conf) (fun _ _ _ h => h) hHeld ?_
      simp only [Act.put, List.setIfInBounds_toArray, List.set_cons_zero, List.set_cons_succ]
      refine run_at (i := 1) (v := ?_) rfl (by kernel_rfl) (by rfl) (fun _ _ _ h => h) hHeld (fun w1 hw1 => ?_) ?_
      rotate_left 1
      · skip
        go_simp
        (try (first | with_reducible rfl | (apply And.intro <;> rfl)))
      simp only [Act.put, List.setIfInBounds_toArray, List.set_cons_zero, List.set_cons_succ]
      refine row_at (i := 2) rfl (by kernel_rfl) (by rfl) _ _ rfl _ _ rfl _ (fun w1 hw1 => hw1.range (HX11.out) (by first | (simp; done) | exact HNS.out | exact HNW.out | (intro hm; have hlt := HSB.out _ hm; (try dsimp only at hlt); omega))) (row_commit.of HLN.out) (fun _ _ _ h => h) hHeld ?_
      simp only [Act.put, List.setIfInBounds_toArray, List.set_cons_zero, List.set_cons_succ]
      refine call_at (i := 3) (f := ?_) (args := ?_) rfl (by kernel_rfl) (by rfl) ?_ ?_
      rotate_left 2
      · go_simp
        (try (first | with_reducible rfl | (apply And.intro <;> rfl)))
      refine (HCR.out _ hHeld).mono ?_
      rintro e_ wp ⟨rfl, hfp⟩
      refine ⟨_, rfl, hHeld.and hfp (by simp), fun hHeld => ?_⟩
      clear hfp
      simp only [Act.put, List.setIfInBounds_toArray, List.set_cons_zero, List.set_cons_succ]
      refine run_at (i := 4) (v := ?_) rfl (by kernel_rfl) (by rfl) (fun _ _ _ h => h) hHeld (fun w1 hw1 => ?_) ?_
      rotate_left 1
      · skip
        go_simp
        (try (first | with_reducible rfl | (apply And.intro <;> rfl)))
      simp only [Act.put, List.setIfInBounds_toArray, List.set_cons_zero, List.set_cons_succ]
      refine run_at (i := 5) (v := ?_) rfl (by kernel_rfl) (by rfl) (fun _ _ _ h => h) hHeld (fun w1 hw1 => ?_) ?_
      rotate_left 1
      · skip
        go_simp
        (try (first | with_reducible rfl | (apply And.intro <;> rfl)))
      simp only [Act.put, List.setIfInBounds_toArray, List.set_cons_zero, List.set_cons_succ]
      refine row_at (i := 6) rfl (by kernel_rfl) (by rfl) _ _ rfl _ _ rfl _ (fun w1 hw1 => hw1.range (HCF11.out) (by first | (simp; done) | exact HNS.out | exact HNW.out | (intro hm; have hlt := HSB.out _ hm; (try dsimp only at hlt); omega))) (row_conf) (fun _ _ _ h => h) hHeld ?_
      simp only [Act.put, List.setIfInBounds_toArray, List.set_cons_zero, List.set_cons_succ]
      refine run_at (i := 7) (v := ?_) rfl (by kernel_rfl) (by rfl) (fun _ _ _ h => h) hHeld (fun w1 hw1 => ?_) ?_
      rotate_left 1
      · skip
        go_simp
        (try (first | with_reducible rfl | (apply And.intro <;> rfl)))
      simp only [Act.put, List.setIfInBounds_toArray, List.set_cons_zero, List.set_cons_succ]
      refine row_at (i := 8) rfl (by kernel_rfl) (by rfl) _ _ rfl _ _ rfl _ (fun w1 hw1 => hw1.range (HX11.out) (by first | (simp; done) | exact HNS.out | exact HNW.out | (intro hm; have hlt := HSB.out _ hm; (try dsimp only at hlt); omega))) (row_commit.of HLN.out) (fun _ _ _ h => h) hHeld ?_
      simp only [Act.put, List.setIfInBounds_toArray, List.set_cons_zero, List.set_cons_succ]
      refine row_at (i := 10) rfl (by kernel_rfl) (by rfl) _ _ rfl _ _ rfl _ (fun w1 hw1 => hw1.range (HCF11.out) (by first | (simp; done) | exact HNS.out | exact HNW.out | (intro hm; have hlt := HSB.out _ hm; (try dsimp only at hlt); omega))) (row_conf) (fun _ _ _ h => h) hHeld ?_
      simp only [Act.put, List.setIfInBounds_toArray, List.set_cons_zero, List.set_cons_succ]
      refine run_at (i := 11) (v := ?_) rfl (by kernel_rfl) (by rfl) (fun _ _ _ h => h) hHeld (fun w1 hw1 => ?_) ?_
      rotate_left 1
      · skip
        go_simp
        (try (first | with_reducible rfl | (apply And.intro <;> rfl)))
      simp only [Act.put, List.setIfInBounds_toArray, List.set_cons_zero, List.set_cons_succ]
      refine row_at (i := 12) rfl (by kernel_rfl) (by rfl) _ _ rfl _ _ rfl _ (fun w1 hw1 => hw1.range (HX11.out) (by first | (simp; done) | exact HNS.out | exact HNW.out | (intro hm; have hlt := HSB.out _ hm; (try dsimp only at hlt); omega))) (row_commit.of HLN.out) (fun _ _ _ h => h) hHeld ?_
      simp only [Act.put, List.setIfInBounds_toArray, List.set_cons_zero, List.set_cons_succ]
      refine call_at (i := 9) (f := ?_) (args := ?_) rfl (by kernel_rfl) (by rfl) ?_ ?_
      rotate_left 2
      · go_simp
        (try (first | with_reducible rfl | (apply And.intro <;> rfl)))
      refine (HCR.out _ hHeld).mono ?_
      rintro e_ wq ⟨rfl, hfq⟩
      refine ⟨_, rfl, hHeld.and hfq (by simp), fun hHeld => ?_⟩
      clear hfq
      simp only [Act.put, List.setIfInBounds_toArray, List.set_cons_zero, List.set_cons_succ]
      refine call_at (i := 13) (f := ?_) (args := ?_) rfl (by kernel_rfl) (by rfl) ?_ ?_
      rotate_left 2
      · go_simp
        (try (first | with_reducible rfl | (apply And.intro <;> rfl)))
      refine (HRR.out _ hHeld).mono ?_
      rintro e_ wr_ ⟨rfl, hfr⟩
      refine ⟨_, rfl, hHeld.and hfr (by simp), fun hHeld => ?_⟩
      clear hfr
      simp only [Act.put, List.setIfInBounds_toArray, List.set_cons_zero, List.set_cons_succ]
      refine run_at (i := 14) (v := ?_) rfl (by kernel_rfl) (by rfl) (fun _ _ _ h => h) hHeld (fun w1 hw1 => ?_) ?_
      rotate_left 1
      · skip
        go_simp
        (try (first | with_reducible rfl | (apply And.intro <;> rfl)))
      simp only [Act.put, List.setIfInBounds_toArray, List.set_cons_zero, List.set_cons_succ]
      refine run_at (i := 15) (v := ?_) rfl (by kernel_rfl) (by rfl) (fun _ _ _ h => h) hHeld (fun w1 hw1 => ?_) ?_
      rotate_left 1
      · skip
        go_simp
        (try (first | with_reducible rfl | (apply And.intro <;> rfl)))
      simp only [Act.put, List.setIfInBounds_toArray, List.set_cons_zero, List.set_cons_succ]
      refine run_at (i := 16) (v := ?_) rfl (by kernel_rfl) (by rfl) (fun _ _ _ h => h) hHeld (fun w1 hw1 => ?_) ?_
      rotate_left 1
      · skip
        go_simp
        (try (first | with_reducible rfl | (apply And.intro <;> rfl)))
      simp only [Act.put, List.setIfInBounds_toArray, List.set_cons_zero, List.set_cons_succ]
      refine call_at (i := 17) (f := ?_) (args := ?_) rfl (by kernel_rfl) (by rfl) ?_ ?_
      rotate_left 2
      · go_simp
        (try (first | with_reducible rfl | (apply And.intro <;> rfl)))
      refine (cwakes_any _ (HKC11.out.keep hHeld (by simp))).mono ?_
      rintro e_ wt ⟨rfl, hft⟩
      refine ⟨_, rfl, hHeld.and hft (by simp), fun hHeld => ?_⟩
      clear hft
      simp only [Act.put, List.setIfInBounds_toArray, List.set_cons_zero, List.set_cons_succ]
      refine run_at (i := 18) (v := ?_) rfl (by kernel_rfl) (by rfl) (fun _ _ _ h => h) hHeld (fun w1 hw1 => ?_) ?_
      rotate_left 1
      · skip
        go_simp
        (try (first | with_reducible rfl | (apply And.intro <;> rfl)))
      simp only [Act.put, List.setIfInBounds_toArray, List.set_cons_zero, List.set_cons_succ]
      refine run_at (i := 19) (v := ?_) rfl (by kernel_rfl) (by rfl) (fun _ _ _ h => h) hHeld (fun w1 hw1 => ?_) ?_
      rotate_left 1
      · skip
        go_simp
        (try (first | with_reducible rfl | (apply And.intro <;> rfl)))
      simp only [Act.put, List.setIfInBounds_toArray, List.set_cons_zero, List.set_cons_succ]
      refine wpAnyH_done (by kernel_rfl) ?_ _
      go_wp2
      go_ret
      exact ⟨rfl, HF11.out.and hHeld (by simp)⟩
    · go_upto_region 27 with (fail)
      have hb11 := (cells_b C6 S9 (q.length : Int) (1000 + C6) 1 (1000 + C6 + (1 + b9)) H HHL.out) ▸ HX10.out.set 35 (.int .i64 (1000 + C6 + (1 + b9)))
      have hf11 : Fr [g16] w10 (w10.setCell ⟨g16, 35, none⟩ (.int .i64 (1000 + C6 + (1 + b9)))) := (Fr.refl [g16] w10).setCell _ (fun _ => by simp) _
      generalize w10.setCell ⟨g16, 35, none⟩ (.int .i64 (1000 + C6 + (1 + b9))) = w11 at *
      have hok : (Cm.mk C6 S9 H (q.length : Int) (1000 + C6 + (1 + b9)) 1).Ok := ⟨HOK.out.c, HOK.out.s, HOK.out.h, HOK.out.n, ⟨by show (_ : Int) ≤ 1000 + C6 + (1 + b9); omega, by show 1000 + C6 + (1 + b9) < (_ : Int); omega⟩, HOK.out.m⟩
      have hrt : rightC (1 + k5) L1 (Cm.mk C6 S9 H (q.length : Int) (1000 + C6 + (1 + b9)) 1) = false := HT5.out _ _ hdd
      have HX11 := Lib.hid hb11.range
      have HB11 := Lib.hid (HB10.out.keep hf11 (fun x hx hm => HSG.out.1 (by simp at hm; rw [← hm]; exact hx)))
      have HR11 := Lib.hid (HR10.out.keep hf11 (fun x hx hm => HSG.out.2.1 (by simp at hm; rw [← hm]; exact hx)))
      have HCF11 := Lib.hid (HCF10.out.keep hf11 (by simpa using HGC.out)).range
      have HF11 := Lib.hid (HF10.out.go hf11 (by simpa using HSG.out.2.2))
      have HKC11 := Lib.hid (HK.out.keep HF11.out (by simp))
      have hcr := fun W (hW : Fr [] w11 W) => cright_any 1 (1 + k5) _ hok W Sb gb L1 (HB11.out.keep hW (by simp))
      have hrr := fun W (hW : Fr [] w11 W) => refright_c 1 (1 + k5) (by omega) _ hok W Sr w4.heap.size L1 (HR11.out.keep hW (by simp)) HND.out
      rw [hrt] at hcr hrr
      unfold Cm.val at hcr hrr
      have HCR := Lib.hid hcr
      have HRR := Lib.hid hrr
      have HLN := Lib.hid (Cm.len hok.h)
      clear hcr hrr hok hrt hb11 hf11
      generalize (Cm.mk C6 S9 H (q.length : Int) (1000 + C6 + (1 + b9)) 1).cells = XC at *
      refine wp_region_held_drew (S := Fr [] w11) (by kernel_rfl) (Fr.drew (Fr.refl _ w11)) (fun hHeld => ?_)
      refine row_at (i := 0) rfl (by kernel_rfl) (by rfl) _ _ rfl _ _ rfl _ (fun w1 hw1 => hw1.range (HCF11.out) (by first | (simp; done) | exact HNS.out | exact HNW.out | (intro hm; have hlt := HSB.out _ hm; (try dsimp only at hlt); omega))) (row_conf) (fun _ _ _ h => h) hHeld ?_
      simp only [Act.put, List.setIfInBounds_toArray, List.set_cons_zero, List.set_cons_succ]
      refine run_at (i := 1) (v := ?_) rfl (by kernel_rfl) (by rfl) (fun _ _ _ h => h) hHeld (fun w1 hw1 => ?_) ?_
      rotate_left 1
      · skip
        go_simp
        (try (first | with_reducible rfl | (apply And.intro <;> rfl)))
      simp only [Act.put, List.setIfInBounds_toArray, List.set_cons_zero, List.set_cons_succ]
      refine row_at (i := 2) rfl (by kernel_rfl) (by rfl) _ _ rfl _ _ rfl _ (fun w1 hw1 => hw1.range (HX11.out) (by first | (simp; done) | exact HNS.out | exact HNW.out | (intro hm; have hlt := HSB.out _ hm; (try dsimp only at hlt); omega))) (row_commit.of HLN.out) (fun _ _ _ h => h) hHeld ?_
      simp only [Act.put, List.setIfInBounds_toArray, List.set_cons_zero, List.set_cons_succ]
      refine call_at (i := 3) (f := ?_) (args := ?_) rfl (by kernel_rfl) (by rfl) ?_ ?_
      rotate_left 2
      · go_simp
        (try (first | with_reducible rfl | (apply And.intro <;> rfl)))
      refine (HCR.out _ hHeld).mono ?_
      rintro e_ wp ⟨rfl, hfp⟩
      refine ⟨_, rfl, hHeld.and hfp (by simp), fun hHeld => ?_⟩
      clear hfp
      simp only [Act.put, List.setIfInBounds_toArray, List.set_cons_zero, List.set_cons_succ]
      refine run_at (i := 4) (v := ?_) rfl (by kernel_rfl) (by rfl) (fun _ _ _ h => h) hHeld (fun w1 hw1 => ?_) ?_
      rotate_left 1
      · skip
        go_simp
        (try (first | with_reducible rfl | (apply And.intro <;> rfl)))
      simp only [Act.put, List.setIfInBounds_toArray, List.set_cons_zero, List.set_cons_succ]
      refine run_at (i := 5) (v := ?_) rfl (by kernel_rfl) (by rfl) (fun _ _ _ h => h) hHeld (fun w1 hw1 => ?_) ?_
      rotate_left 1
      · skip
        go_simp
        (try (first | with_reducible rfl | (apply And.intro <;> rfl)))
      simp only [Act.put, List.setIfInBounds_toArray, List.set_cons_zero, List.set_cons_succ]
      refine row_at (i := 6) rfl (by kernel_rfl) (by rfl) _ _ rfl _ _ rfl _ (fun w1 hw1 => hw1.range (HCF11.out) (by first | (simp; done) | exact HNS.out | exact HNW.out | (intro hm; have hlt := HSB.out _ hm; (try dsimp only at hlt); omega))) (row_conf) (fun _ _ _ h => h) hHeld ?_
      simp only [Act.put, List.setIfInBounds_toArray, List.set_cons_zero, List.set_cons_succ]
      refine run_at (i := 7) (v := ?_) rfl (by kernel_rfl) (by rfl) (fun _ _ _ h => h) hHeld (fun w1 hw1 => ?_) ?_
      rotate_left 1
      · skip
        go_simp
        (try (first | with_reducible rfl | (apply And.intro <;> rfl)))
      simp only [Act.put, List.setIfInBounds_toArray, List.set_cons_zero, List.set_cons_succ]
      refine row_at (i := 8) rfl (by kernel_rfl) (by rfl) _ _ rfl _ _ rfl _ (fun w1 hw1 => hw1.range (HX11.out) (by first | (simp; done) | exact HNS.out | exact HNW.out | (intro hm; have hlt := HSB.out _ hm; (try dsimp only at hlt); omega))) (row_commit.of HLN.out) (fun _ _ _ h => h) hHeld ?_
      simp only [Act.put, List.setIfInBounds_toArray, List.set_cons_zero, List.set_cons_succ]
      refine row_at (i := 10) rfl (by kernel_rfl) (by rfl) _ _ rfl _ _ rfl _ (fun w1 hw1 => hw1.range (HCF11.out) (by first | (simp; done) | exact HNS.out | exact HNW.out | (intro hm; have hlt := HSB.out _ hm; (try dsimp only at hlt); omega))) (row_conf) (fun _ _ _ h => h) hHeld ?_
      simp only [Act.put, List.setIfInBounds_toArray, List.set_cons_zero, List.set_cons_succ]
      refine run_at (i := 11) (v := ?_) rfl (by kernel_rfl) (by rfl) (fun _ _ _ h => h) hHeld (fun w1 hw1 => ?_) ?_
      rotate_left 1
      · skip
        go_simp
        (try (first | with_reducible rfl | (apply And.intro <;> rfl)))
      simp only [Act.put, List.setIfInBounds_toArray, List.set_cons_zero, List.set_cons_succ]
      refine row_at (i := 12) rfl (by kernel_rfl) (by rfl) _ _ rfl _ _ rfl _ (fun w1 hw1 => hw1.range (HX11.out) (by first | (simp; done) | exact HNS.out | exact HNW.out | (intro hm; have hlt := HSB.out _ hm; (try dsimp only at hlt); omega))) (row_commit.of HLN.out) (fun _ _ _ h => h) hHeld ?_
      simp only [Act.put, List.setIfInBounds_toArray, List.set_cons_zero, List.set_cons_succ]
      refine call_at (i := 9) (f := ?_) (args := ?_) rfl (by kernel_rfl) (by rfl) ?_ ?_
      rotate_left 2
      · go_simp
        (try (first | with_reducible rfl | (apply And.intro <;> rfl)))
      refine (HCR.out _ hHeld).mono ?_
      rintro e_ wq ⟨rfl, hfq⟩
      refine ⟨_, rfl, hHeld.and hfq (by simp), fun hHeld => ?_⟩
      clear hfq
      simp only [Act.put, List.setIfInBounds_toArray, List.set_cons_zero, List.set_cons_succ]
      refine call_at (i := 13) (f := ?_) (args := ?_) rfl (by kernel_rfl) (by rfl) ?_ ?_
      rotate_left 2
      · go_simp
        (try (first | with_reducible rfl | (apply And.intro <;> rfl)))
      refine (HRR.out _ hHeld).mono ?_
      rintro e_ wr_ ⟨rfl, hfr⟩
      refine ⟨_, rfl, hHeld.and hfr (by simp), fun hHeld => ?_⟩
      clear hfr
      simp only [Act.put, List.setIfInBounds_toArray, List.set_cons_zero, List.set_cons_succ]
      refine run_at (i := 14) (v := ?_) rfl (by kernel_rfl) (by rfl) (fun _ _ _ h => h) hHeld (fun w1 hw1 => ?_) ?_
      rotate_left 1
      · skip
        go_simp
        (try (first | with_reducible rfl | (apply And.intro <;> rfl)))
      simp only [Act.put, List.setIfInBounds_toArray, List.set_cons_zero, List.set_cons_succ]
      refine run_at (i := 15) (v := ?_) rfl (by kernel_rfl) (by rfl) (fun _ _ _ h => h) hHeld (fun w1 hw1 => ?_) ?_
      rotate_left 1
      · skip
        go_simp
        (try (first | with_reducible rfl | (apply And.intro <;> rfl)))
      simp only [Act.put, List.setIfInBounds_toArray, List.set_cons_zero, List.set_cons_succ]
      refine run_at (i := 16) (v := ?_) rfl (by kernel_rfl) (by rfl) (fun _ _ _ h => h) hHeld (fun w1 hw1 => ?_) ?_
      rotate_left 1
      · skip
        go_simp
        (try (first | with_reducible rfl | (apply And.intro <;> rfl)))
      simp only [Act.put, List.setIfInBounds_toArray, List.set_cons_zero, List.set_cons_succ]
      refine call_at (i := 17) (f := ?_) (args := ?_) rfl (by kernel_rfl) (by rfl) ?_ ?_
      rotate_left 2
      · go_simp
        (try (first | with_reducible rfl | (apply And.intro <;> rfl)))
      refine (cwakes_any _ (HKC11.out.keep hHeld (by simp))).mono ?_
      rintro e_ wt ⟨rfl, hft⟩
      refine ⟨_, rfl, hHeld.and hft (by simp), fun hHeld => ?_⟩
      clear hft
      simp only [Act.put, List.setIfInBounds_toArray, List.set_cons_zero, List.set_cons_succ]
      refine run_at (i := 18) (v := ?_) rfl (by kernel_rfl) (by rfl) (fun _ _ _ h => h) hHeld (fun w1 hw1 => ?_) ?_
      rotate_left 1
      · skip
        go_simp
        (try (first | with_reducible rfl | (apply And.intro <;> rfl)))
      simp only [Act.put, List.setIfInBounds_toArray, List.set_cons_zero, List.set_cons_succ]
      refine run_at (i := 19) (v := ?_) rfl (by kernel_rfl) (by rfl) (fun _ _ _ h => h) hHeld (fun w1 hw1 => ?_) ?_
      rotate_left 1
      · skip
        go_simp
        (try (first | with_reducible rfl | (apply And.intro <;> rfl)))
      simp only [Act.put, List.setIfInBounds_toArray, List.set_cons_zero, List.set_cons_succ]
      refine wpAnyH_done (by kernel_rfl) ?_ _
      go_wp2
      go_ret
      exact ⟨rfl, HF11.out.and hHeld (by simp)⟩
    · go_upto_region 27 with (fail)
      have hb11 := (cells_sig C6 S9 (q.length : Int) (1000 + C6) 1 0 0 H HHL.out) ▸ (HX10.out.set 35 (.int .i64 0)).set 36 (.int .i64 0)
      have hf11 : Fr [g16] w10 ((w10.setCell ⟨g16, 35, none⟩ (.int .i64 0)).setCell ⟨g16, 36, none⟩ (.int .i64 0)) := ((Fr.refl [g16] w10).setCell _ (fun _ => by simp) _).setCell _ (fun _ => by simp) _
      generalize (w10.setCell ⟨g16, 35, none⟩ (.int .i64 0)).setCell ⟨g16, 36, none⟩ (.int .i64 0) = w11 at *
      have hok : (Cm.mk C6 S9 H (q.length : Int) 0 0).Ok := ⟨HOK.out.c, HOK.out.s, HOK.out.h, HOK.out.n, ⟨by show (_ : Int) ≤ 0; omega, by show 0 < (_ : Int); omega⟩, ⟨by show (_ : Int) ≤ 0; omega, by show 0 < (_ : Int); omega⟩⟩
      have hrt : rightC (1 + k5) L1 (Cm.mk C6 S9 H (q.length : Int) 0 0) = false := HT6.out _
      have HX11 := Lib.hid hb11.range
      have HB11 := Lib.hid (HB10.out.keep hf11 (fun x hx hm => HSG.out.1 (by simp at hm; rw [← hm]; exact hx)))
      have HR11 := Lib.hid (HR10.out.keep hf11 (fun x hx hm => HSG.out.2.1 (by simp at hm; rw [← hm]; exact hx)))
      have HCF11 := Lib.hid (HCF10.out.keep hf11 (by simpa using HGC.out)).range
      have HF11 := Lib.hid (HF10.out.go hf11 (by simpa using HSG.out.2.2))
      have HKC11 := Lib.hid (HK.out.keep HF11.out (by simp))
      have hcr := fun W (hW : Fr [] w11 W) => cright_any 1 (1 + k5) _ hok W Sb gb L1 (HB11.out.keep hW (by simp))
      have hrr := fun W (hW : Fr [] w11 W) => refright_c 1 (1 + k5) (by omega) _ hok W Sr w4.heap.size L1 (HR11.out.keep hW (by simp)) HND.out
      rw [hrt] at hcr hrr
      unfold Cm.val at hcr hrr
      have HCR := Lib.hid hcr
      have HRR := Lib.hid hrr
      have HLN := Lib.hid (Cm.len hok.h)
      clear hcr hrr hok hrt hb11 hf11
      generalize (Cm.mk C6 S9 H (q.length : Int) 0 0).cells = XC at *
      refine wp_region_held_drew (S := Fr [] w11) (by kernel_rfl) (Fr.drew (Fr.refl _ w11)) (fun hHeld => ?_)
      refine row_at (i := 0) rfl (by kernel_rfl) (by rfl) _ _ rfl _ _ rfl _ (fun w1 hw1 => hw1.range (HCF11.out) (by first | (simp; done) | exact HNS.out | exact HNW.out | (intro hm; have hlt := HSB.out _ hm; (try dsimp only at hlt); omega))) (row_conf) (fun _ _ _ h => h) hHeld ?_
      simp only [Act.put, List.setIfInBounds_toArray, List.set_cons_zero, List.set_cons_succ]
      refine run_at (i := 1) (v := ?_) rfl (by kernel_rfl) (by rfl) (fun _ _ _ h => h) hHeld (fun w1 hw1 => ?_) ?_
      rotate_left 1
      · skip
        go_simp
        (try (first | with_reducible rfl | (apply And.intro <;> rfl)))
      simp only [Act.put, List.setIfInBounds_toArray, List.set_cons_zero, List.set_cons_succ]
      refine row_at (i := 2) rfl (by kernel_rfl) (by rfl) _ _ rfl _ _ rfl _ (fun w1 hw1 => hw1.range (HX11.out) (by first | (simp; done) | exact HNS.out | exact HNW.out | (intro hm; have hlt := HSB.out _ hm; (try dsimp only at hlt); omega))) (row_commit.of HLN.out) (fun _ _ _ h => h) hHeld ?_
      simp only [Act.put, List.setIfInBounds_toArray, List.set_cons_zero, List.set_cons_succ]
      refine call_at (i := 3) (f := ?_) (args := ?_) rfl (by kernel_rfl) (by rfl) ?_ ?_
      rotate_left 2
      · go_simp
        (try (first | with_reducible rfl | (apply And.intro <;> rfl)))
      refine (HCR.out _ hHeld).mono ?_
      rintro e_ wp ⟨rfl, hfp⟩
      refine ⟨_, rfl, hHeld.and hfp (by simp), fun hHeld => ?_⟩
      clear hfp
      simp only [Act.put, List.setIfInBounds_toArray, List.set_cons_zero, List.set_cons_succ]
      refine run_at (i := 4) (v := ?_) rfl (by kernel_rfl) (by rfl) (fun _ _ _ h => h) hHeld (fun w1 hw1 => ?_) ?_
      rotate_left 1
      · skip
        go_simp
        (try (first | with_reducible rfl | (apply And.intro <;> rfl)))
      simp only [Act.put, List.setIfInBounds_toArray, List.set_cons_zero, List.set_cons_succ]
      refine run_at (i := 5) (v := ?_) rfl (by kernel_rfl) (by rfl) (fun _ _ _ h => h) hHeld (fun w1 hw1 => ?_) ?_
      rotate_left 1
      · skip
        go_simp
        (try (first | with_reducible rfl | (apply And.intro <;> rfl)))
      simp only [Act.put, List.setIfInBounds_toArray, List.set_cons_zero, List.set_cons_succ]
      refine row_at (i := 6) rfl (by kernel_rfl) (by rfl) _ _ rfl _ _ rfl _ (fun w1 hw1 => hw1.range (HCF11.out) (by first | (simp; done) | exact HNS.out | exact HNW.out | (intro hm; have hlt := HSB.out _ hm; (try dsimp only at hlt); omega))) (row_conf) (fun _ _ _ h => h) hHeld ?_
      simp only [Act.put, List.setIfInBounds_toArray, List.set_cons_zero, List.set_cons_succ]
      refine run_at (i := 7) (v := ?_) rfl (by kernel_rfl) (by rfl) (fun _ _ _ h => h) hHeld (fun w1 hw1 => ?_) ?_
      rotate_left 1
      · skip
        go_simp
        (try (first | with_reducible rfl | (apply And.intro <;> rfl)))
      simp only [Act.put, List.setIfInBounds_toArray, List.set_cons_zero, List.set_cons_succ]
      refine row_at (i := 8) rfl (by kernel_rfl) (by rfl) _ _ rfl _ _ rfl _ (fun w1 hw1 => hw1.range (HX11.out) (by first | (simp; done) | exact HNS.out | exact HNW.out | (intro hm; have hlt := HSB.out _ hm; (try dsimp only at hlt); omega))) (row_commit.of HLN.out) (fun _ _ _ h => h) hHeld ?_
      simp only [Act.put, List.setIfInBounds_toArray, List.set_cons_zero, List.set_cons_succ]
      refine row_at (i := 10) rfl (by kernel_rfl) (by rfl) _ _ rfl _ _ rfl _ (fun w1 hw1 => hw1.range (HCF11.out) (by first | (simp; done) | exact HNS.out | exact HNW.out | (intro hm; have hlt := HSB.out _ hm; (try dsimp only at hlt); omega))) (row_conf) (fun _ _ _ h => h) hHeld ?_
      simp only [Act.put, List.setIfInBounds_toArray, List.set_cons_zero, List.set_cons_succ]
      refine run_at (i := 11) (v := ?_) rfl (by kernel_rfl) (by rfl) (fun _ _ _ h => h) hHeld (fun w1 hw1 => ?_) ?_
      rotate_left 1
      · skip
        go_simp
        (try (first | with_reducible rfl | (apply And.intro <;> rfl)))
      simp only [Act.put, List.setIfInBounds_toArray, List.set_cons_zero, List.set_cons_succ]
      refine row_at (i := 12) rfl (by kernel_rfl) (by rfl) _ _ rfl _ _ rfl _ (fun w1 hw1 => hw1.range (HX11.out) (by first | (simp; done) | exact HNS.out | exact HNW.out | (intro hm; have hlt := HSB.out _ hm; (try dsimp only at hlt); omega))) (row_commit.of HLN.out) (fun _ _ _ h => h) hHeld ?_
      simp only [Act.put, List.setIfInBounds_toArray, List.set_cons_zero, List.set_cons_succ]
      refine call_at (i := 9) (f := ?_) (args := ?_) rfl (by kernel_rfl) (by rfl) ?_ ?_
      rotate_left 2
      · go_simp
        (try (first | with_reducible rfl | (apply And.intro <;> rfl)))
      refine (HCR.out _ hHeld).mono ?_
      rintro e_ wq ⟨rfl, hfq⟩
      refine ⟨_, rfl, hHeld.and hfq (by simp), fun hHeld => ?_⟩
      clear hfq
      simp only [Act.put, List.setIfInBounds_toArray, List.set_cons_zero, List.set_cons_succ]
      refine call_at (i := 13) (f := ?_) (args := ?_) rfl (by kernel_rfl) (by rfl) ?_ ?_
      rotate_left 2
      · go_simp
        (try (first | with_reducible rfl | (apply And.intro <;> rfl)))
      refine (HRR.out _ hHeld).mono ?_
      rintro e_ wr_ ⟨rfl, hfr⟩
      refine ⟨_, rfl, hHeld.and hfr (by simp), fun hHeld => ?_⟩
      clear hfr
      simp only [Act.put, List.setIfInBounds_toArray, List.set_cons_zero, List.set_cons_succ]
      refine run_at (i := 14) (v := ?_) rfl (by kernel_rfl) (by rfl) (fun _ _ _ h => h) hHeld (fun w1 hw1 => ?_) ?_
      rotate_left 1
      · skip
        go_simp
        (try (first | with_reducible rfl | (apply And.intro <;> rfl)))
      simp only [Act.put, List.setIfInBounds_toArray, List.set_cons_zero, List.set_cons_succ]
      refine run_at (i := 15) (v := ?_) rfl (by kernel_rfl) (by rfl) (fun _ _ _ h => h) hHeld (fun w1 hw1 => ?_) ?_
      rotate_left 1
      · skip
        go_simp
        (try (first | with_reducible rfl | (apply And.intro <;> rfl)))
      simp only [Act.put, List.setIfInBounds_toArray, List.set_cons_zero, List.set_cons_succ]
      refine run_at (i := 16) (v := ?_) rfl (by kernel_rfl) (by rfl) (fun _ _ _ h => h) hHeld (fun w1 hw1 => ?_) ?_
      rotate_left 1
      · skip
        go_simp
        (try (first | with_reducible rfl | (apply And.intro <;> rfl)))
      simp only [Act.put, List.setIfInBounds_toArray, List.set_cons_zero, List.set_cons_succ]
      refine call_at (i := 17) (f := ?_) (args := ?_) rfl (by kernel_rfl) (by rfl) ?_ ?_
      rotate_left 2
      · go_simp
        (try (first | with_reducible rfl | (apply And.intro <;> rfl)))
      refine (cwakes_any _ (HKC11.out.keep hHeld (by simp))).mono ?_
      rintro e_ wt ⟨rfl, hft⟩
      refine ⟨_, rfl, hHeld.and hft (by simp), fun hHeld => ?_⟩
      clear hft
      simp only [Act.put, List.setIfInBounds_toArray, List.set_cons_zero, List.set_cons_succ]
      refine run_at (i := 18) (v := ?_) rfl (by kernel_rfl) (by rfl) (fun _ _ _ h => h) hHeld (fun w1 hw1 => ?_) ?_
      rotate_left 1
      · skip
        go_simp
        (try (first | with_reducible rfl | (apply And.intro <;> rfl)))
      simp only [Act.put, List.setIfInBounds_toArray, List.set_cons_zero, List.set_cons_succ]
      refine run_at (i := 19) (v := ?_) rfl (by kernel_rfl) (by rfl) (fun _ _ _ h => h) hHeld (fun w1 hw1 => ?_) ?_
      rotate_left 1
      · skip
        go_simp
        (try (first | with_reducible rfl | (apply And.intro <;> rfl)))
      simp only [Act.put, List.setIfInBounds_toArray, List.set_cons_zero, List.set_cons_succ]
      refine wpAnyH_done (by kernel_rfl) ?_ _
      go_wp2
      go_ret
      exact ⟨rfl, HF11.out.and hHeld (by simp)⟩
end Go.Proofs.YtjlmackfmmaknaaDoor

namespace Go.Proofs.YtjlmackfmmaknaaDoor
open Go.ChangeShapes Go.WideShapes Go.ChangeAt Go.RowKit
set_option maxRecDepth 100000

theorem i64In_of {z : Int} (h : (Lit.int .i64 z).wf = true) : i64In z := i64_of h
theorem name_open {H : Type} {enc : TypeId × Value → H} {W : World} {r : Reach} {base b0 : Nat} {v : Value} {d : DataW H} {p : List MemPlace} {sp : Nat → Bool} {held : Bool} (hv : Value.okWide Tryd.prog W r base 42 v) (h : DataW.Trod enc Tryd.prog W b0 sp held 42 v d p) (hb : b0 = 0) :
    ∃ c s : Int, i64In c ∧ i64In s ∧ v = .agg #[.int .i64 c, .int .i64 s] := by
  subst hb
  unfold Value.okWide at hv
  rw [Tryd.underlying42] at hv
  obtain ⟨cs, rfl, -⟩ := hv
  obtain ⟨fuel, hf⟩ := h
  obtain ⟨xs, m, _, _, hlen, hxl, hat⟩ := DataW.trod_struct Tryd.underlying42 (show DataW.trod enc Tryd.prog W 0 sp held fuel 42 cs.toList = some (d, p) from hf)
  rw [show Tryd.prog.cellsOf 42 = 2 by kernel_rfl] at hlen
  have c1 : Tryd.prog.cellsOf 3 = 1 := by kernel_rfl
  have hx : ∀ i (hi : i < 2), xs[i]? = some (xs[i]'(by rw [hxl]; exact hi)) := fun i hi => List.getElem?_eq_getElem _
  have f0 : DataW.trod enc Tryd.prog W 0 sp held m 3 ((cs.toList.drop 0).take (Tryd.prog.cellsOf 3)) = _ := (hat 0 _ rfl).trans (hx 0 (by omega))
  have f1 : DataW.trod enc Tryd.prog W 0 sp held m 3 ((cs.toList.drop 1).take (Tryd.prog.cellsOf 3)) = _ := (hat 1 _ rfl).trans (hx 1 (by omega))
  rw [c1] at f0 f1
  obtain ⟨c, e0, _, w0⟩ := DataW.trod_int Tryd.underlying3 f0
  obtain ⟨s, e1, _, w1⟩ := DataW.trod_int Tryd.underlying3 f1
  have hcs : cs.toList = [.int .i64 c, .int .i64 s] := by
    match hL : cs.toList, hlen with
    | [x, y], _ =>
      rw [hL] at e0 e1
      simp at e0 e1
      rw [e0, e1]
  refine ⟨c, s, i64In_of w0, i64In_of w1, ?_⟩
  rw [← Array.toArray_toList (xs := cs), hcs]
theorem conf_open {H : Type} {enc : TypeId × Value → H} {W : World} {r : Reach} {base b0 : Nat} {v : Value} {d : DataW H} {p : List MemPlace} {sp : Nat → Bool} {held : Bool} (hv : Value.okWide Tryd.prog W r base 50 v) (h : DataW.Trod enc Tryd.prog W b0 sp held 50 v d p) (hb : b0 = 0) :
    ∃ c s : Int, i64In c ∧ i64In s ∧ v = .agg #[.int .i64 c, .int .i64 s] := by
  subst hb
  unfold Value.okWide at hv
  rw [Tryd.underlying50] at hv
  obtain ⟨cs, rfl, -⟩ := hv
  obtain ⟨fuel, hf⟩ := h
  obtain ⟨xs, m, _, _, hlen, hxl, hat⟩ := DataW.trod_struct Tryd.underlying50 (show DataW.trod enc Tryd.prog W 0 sp held fuel 50 cs.toList = some (d, p) from hf)
  rw [show Tryd.prog.cellsOf 50 = 2 by kernel_rfl] at hlen
  have c1 : Tryd.prog.cellsOf 3 = 1 := by kernel_rfl
  have hx : ∀ i (hi : i < 2), xs[i]? = some (xs[i]'(by rw [hxl]; exact hi)) := fun i hi => List.getElem?_eq_getElem _
  have f0 : DataW.trod enc Tryd.prog W 0 sp held m 3 ((cs.toList.drop 0).take (Tryd.prog.cellsOf 3)) = _ := (hat 0 _ rfl).trans (hx 0 (by omega))
  have f1 : DataW.trod enc Tryd.prog W 0 sp held m 3 ((cs.toList.drop 1).take (Tryd.prog.cellsOf 3)) = _ := (hat 1 _ rfl).trans (hx 1 (by omega))
  rw [c1] at f0 f1
  obtain ⟨c, e0, _, w0⟩ := DataW.trod_int Tryd.underlying3 f0
  obtain ⟨s, e1, _, w1⟩ := DataW.trod_int Tryd.underlying3 f1
  have hcs : cs.toList = [.int .i64 c, .int .i64 s] := by
    match hL : cs.toList, hlen with
    | [x, y], _ =>
      rw [hL] at e0 e1
      simp at e0 e1
      rw [e0, e1]
  refine ⟨c, s, i64In_of w0, i64In_of w1, ?_⟩
  rw [← Array.toArray_toList (xs := cs), hcs]
end Go.Proofs.YtjlmackfmmaknaaDoor

namespace Go.Proofs.YtjlmackfmmaknaaDoor
set_option maxRecDepth 100000
open Go.RowKit

set_option maxRecDepth 100000 in
set_option maxHeartbeats 1000000 in
theorem shawakes_any (w : World) (hK : KW w) : Calls Tryd.prog 16 #[] w fun e w' => e = .returned (.bool true) ∧ Fr [] w w' := by
  obtain ⟨rest, hrest⟩ : ∃ rest, sumL [] = 227 :: 176 :: 196 :: 66 :: rest := by
    have h := wakesum
    have hl := sumL_len []
    match hs : sumL [], h, hl with
    | a :: b :: c :: d :: r, h, _ =>
      simp at h
      obtain ⟨rfl, rfl, rfl, rfl⟩ := h
      exact ⟨r, rfl⟩
    | [], _, h => simp at h
    | [_], _, h => simp at h
    | [_, _], _, h => simp at h
    | [_, _, _], _, h => simp at h
  have HR := Lib.hid hrest
  have hlen := sumL_len []
  have hs := sum_any none 0 0 [] w (By.nil w none) (Nat.le_refl _) (by omega) hK
  generalize sumL [] = S at *
  have HLEN := Lib.hid hlen
  have HS := Lib.hid hs
  clear hrest hlen hs hK
  go_enter Tryd.func16, Tryd.ntmps16
  go_wp2_with fail
  refine HS.out.mono ?_
  rintro e w1 ⟨rfl, hf1⟩
  have HF1 := Lib.hid hf1
  clear hf1
  go_wp2_with (first
    | (refine wpList_store_box rfl 26 _ _ rfl _ 26 (S.map by8) rfl rfl (by rw [hash_sizeS, List.length_map, HLEN.out]) (by rw [List.length_map, HLEN.out]; rfl) (by8_one S) ?_
       intro wb hblk hfb
       have c0 : wb.cell? ⟨w1.heap.size, 0, none⟩ = some (.int .u8 227) := by rw [hblk.cell 0, HR.out]; rfl
       have c1 : wb.cell? ⟨w1.heap.size, 1, none⟩ = some (.int .u8 176) := by rw [hblk.cell 1, HR.out]; rfl
       have c2 : wb.cell? ⟨w1.heap.size, 2, none⟩ = some (.int .u8 196) := by rw [hblk.cell 2, HR.out]; rfl
       have c3 : wb.cell? ⟨w1.heap.size, 3, none⟩ = some (.int .u8 66) := by rw [hblk.cell 3, HR.out]; rfl
       have HFB := Lib.hid hfb
       clear hblk hfb))
  go_wp2
  go_ret
  exact ⟨rfl, HF1.out.trans HFB.out (by simp)⟩
end Go.Proofs.YtjlmackfmmaknaaDoor

namespace Go.Proofs.YtjlmackfmmaknaaDoor
set_option maxRecDepth 100000
open Go.ChangeShapes Go.WideShapes Go.ChangeAt Go.RowKit

theorem gK : Tryd.prog.globalNamed "gavel/sha.roundWords" = some 0 := by kernel_rfl
theorem tK : (Tryd.prog.globals[0]?).map (·.type) = some 173 := by kernel_rfl
theorem kay_lits {H : Type} : (Rows.laid_gavel_sha_roundWords : DataW H) = .agg (kay.map fun z => .lit (.int .u32 z)) := rfl
theorem kw_of_laid {W : World} (h : laidMetH Tryd.prog [("gavel/sha.roundWords", Rows.laid_gavel_sha_roundWords)] W) : KW W := by
  rw [MakeChecks.laidMetH_plain _ _ _ (by kernel_rfl)] at h
  obtain ⟨ps, ⟨g0, t0, cs0, f0, p0, q0, hg0, ht0, hv0, hd0, _, _⟩, _⟩ := h
  obtain rfl := Option.some.inj (gK.symm.trans hg0)
  obtain rfl := Option.some.inj (tK.symm.trans ht0)
  obtain ⟨xs, m1, rfl, hx1, hlen, hn3, hel⟩ := DataW.trod_array Tryd.underlying173 hd0
  have c1 : Tryd.prog.cellsOf 108 = 1 := by kernel_rfl
  have c64 : Tryd.prog.cellsOf 173 = 64 := by kernel_rfl
  rw [kay_lits] at hx1
  simp only [Prod.mk.injEq, DataW.agg.injEq] at hx1
  intro i hi
  have hw := World.var?_cell hg0 hv0 i
  have hl64 : cs0.toList.length = 64 := by rw [hlen, c64]
  have h1 := hel i hi
  have hxi : xs[i]? = some (xs[i]'(by omega)) := List.getElem?_eq_getElem _
  rw [hxi, c1, Nat.mul_one] at h1
  have hci : i < cs0.size := by simpa using (show i < cs0.toList.length by omega)
  have h2 : (cs0.toList.drop i).take 1 = [cs0[i]] := by
    rw [List.drop_eq_getElem_cons (by simpa using hci)]
    simp
  rw [h2] at h1
  obtain ⟨k, e1, e2, _⟩ := DataW.trod_int Tryd.underlying108 h1
  injection e1 with e1
  have hk : k = kay.getD i 0 := by
    have h3 : (xs.map (·.1))[i]? = (kay.map fun z => (.lit (.int .u32 z) : DataW _))[i]? := by rw [hx1.1]
    have hkl : i < kay.length := hi
    rw [List.getElem?_map, hxi, List.getElem?_map, List.getElem?_eq_getElem hkl] at h3
    simp only [Option.map_some, Option.some.injEq] at h3
    rw [e2] at h3
    simp only [DataW.lit.injEq, Lit.int.injEq] at h3
    rw [List.getD, List.getElem?_eq_getElem hkl]
    exact h3.2
  rw [hw, Array.getElem?_eq_getElem hci, e1, hk]
theorem door_met (os : Os) (args : Array Value) : laidMetH Tryd.prog [("gavel/sha.roundWords", Rows.laid_gavel_sha_roundWords)] ((World.doorLaid Tryd.prog 14 os).forCall (fun _ _ => 0) ⟨#[], args, []⟩).memory :=
  laidMetH_of_parts3 (fuel := 8) (laidMet_of_run' 8 (by kernel_rfl) (by kernel_rfl)) (by kernel_rfl) (by kernel_rfl)
theorem hash_open {H : Type} {enc : TypeId × Value → H} {W : World} {r : Reach} {base b0 : Nat} {v : Value} {d : DataW H} {p : List MemPlace} {sp : Nat → Bool} {held : Bool} (hv : Value.okWide Tryd.prog W r base 26 v) (h : DataW.Trod enc Tryd.prog W b0 sp held 26 v d p) (hb : b0 = 0) :
    ∃ l : List UInt8, l.length = 32 ∧ v = .agg (l.map by8).toArray := by
  subst hb
  unfold Value.okWide at hv
  rw [Tryd.underlying26] at hv
  obtain ⟨cs, rfl, -⟩ := hv
  obtain ⟨fuel, hf⟩ := h
  obtain ⟨l, hl, e⟩ := hash_of_trod (show DataW.trod enc Tryd.prog W 0 sp held fuel 26 cs.toList = some (d, p) from hf)
  exact ⟨l, hl, by rw [← e]⟩
theorem own : ownKnob Tryd.prog.godebug = none := by kernel_rfl
end Go.Proofs.YtjlmackfmmaknaaDoor
