/- Texts that the proof stands on: What a message's kind names is all that its bytes hang on. | gavellaw06.MsgOnly, walked. (written by gen_mow.py) | gavelref01.Only, of every kind. (written by gen_mon.py) | gavelref01.Pack of any message, and gavellaw06.MsgPacks, walked. (written by gen_mpw.py) | gavelkeep.Intact. | gavelref01's Reader: Cert, Promise, Batch: all of it, or the zero value. (written by gen_rq5.py) | gavelkeep.Copy of bytes, its memory known whole. | gavellaw05.turned: bytes, one of which may be turned, or cut. | msgs.Pack of a message of kind 11. | The example of chapter 6, by the contract of its own kind. -/
import Derived.Test.YtdenpfcgghangaaGreatKQ7
import Derived.Deep.CutBlock
import Derived.Test.YtdenpfcgghangaaGreatLend
import Derived.Test.YtdenpfcgghangaaGreatSame
import Derived.Deep.QuietTactic
import Derived.BigQuiet
import Derived.Test.YtdenpfcgghangaaGreatFull
set_option linter.unusedSimpArgs false
set_option linter.unusedVariables false
set_option maxRecDepth 100000

namespace Go.Proofs.YtdenpfcgghangaaGreat
open Go.RowKit
set_option maxRecDepth 100000
end Go.Proofs.YtdenpfcgghangaaGreat

namespace Go.Proofs.YtdenpfcgghangaaGreat
open Go.RowKit
set_option maxRecDepth 100000
theorem Wmg.Ok.len {w : World} {S : List Nat} {x : Wmg} (h : x.Ok w S) : x.Len := ⟨h.cm.h, h.st.h, h.ce.k.h, h.ak.h, h.vt.h, h.en.h, h.op.h⟩
theorem Wdc.In.keep {w w' : World} {x : Wdc} (h : x.In w) (hf : Fr [] w w') : x.In w' := ⟨h.e, h.r, h.k.keep hf, h.l.keep' hf (by simp) (fun _ _ h => h), h.n, h.d⟩
theorem Wpo.In.keepM {w w' : World} {x : Wpo} (h : x.In w) (hf : Fr [] w w') : x.In w' := ⟨h.e, h.r, h.v, h.p, h.k.keep hf, h.b, h.m⟩
theorem Wmg.In.keepM {w w' : World} {x : Wmg} (h : x.In w) (hf : Fr [] w w') : x.In w' :=
 ⟨h.q, h.f, h.t, h.cm, h.st, h.ce.keep hf, h.ak, h.e, h.r, h.tm, h.pr.keep hf, h.po.keepM hf, h.vt, h.i, h.en, h.op.keep hf, h.dn, h.rp, h.de.keep hf⟩
end Go.Proofs.YtdenpfcgghangaaGreat

namespace Go.Proofs.YtdenpfcgghangaaGreat
open Go.RowKit
set_option maxRecDepth 100000
end Go.Proofs.YtdenpfcgghangaaGreat

namespace Go.Proofs.YtdenpfcgghangaaGreat
open Go.RowKit
set_option maxRecDepth 100000
theorem refpack_any (x : Wmg) (w : World) (hx : x.Ok w []) (hv : x.po.v < 9223372036854775807) (C : List Value) (hC : x.cells = C) :
  Calls Tryz.prog 5 #[.agg C.toArray] w (PackPost w x) := by
 by_cases hm : 1 ≤ x.q ∧ x.q ≤ 14
 · have h : x.q = 1 ∨ x.q = 2 ∨ x.q = 3 ∨ x.q = 4 ∨ x.q = 5 ∨ x.q = 6 ∨ x.q = 7 ∨ x.q = 8 ∨ x.q = 9 ∨ x.q = 10 ∨ x.q = 11 ∨ x.q = 12 ∨ x.q = 13 ∨ x.q = 14 := by omega
   rcases h with h | h | h | h | h | h | h | h | h | h | h | h | h | h
   · exact refpack_1 x h w hx C hC
   · exact refpack_2 x h w hx C hC
   · exact refpack_3 x h w hx C hC
   · exact refpack_4 x h w hx C hC
   · exact refpack_5 x h w hx C hC
   · exact refpack_6 x h w hx C hC
   · exact refpack_7 x h w hx C hC hv
   · exact refpack_8 x h w hx C hC
   · exact refpack_9 x h w hx C hC
   · exact refpack_10 x h w hx C hC
   · exact refpack_11 x h w hx C hC
   · exact refpack_12 x h w hx C hC
   · exact refpack_13 x h w hx C hC
   · exact refpack_14 x h w hx C hC
 · exact refpack_none x hm w hx C hC
end Go.Proofs.YtdenpfcgghangaaGreat

namespace Go.Proofs.YtdenpfcgghangaaGreat
open Go.RowKit
set_option maxRecDepth 100000 in
set_option maxHeartbeats 1000000 in
theorem intact_any (A : Option Addr) (g n c : Nat) (l : List UInt8) (w : World) (hr : By w A n l) (hb : Blk w g 5 ((lent l).map by8).toArray) (hn : n ≤ 1073741824) :
  Calls Tryz.prog 13 #[.slice (some ⟨g, 0, none⟩) n (n + 3), .slice A n c] w fun e w' => e = .returned (.bool true) ∧ ∃ k, w' = w.drewN k := by
 have HR := Lib.hid hr
 have HB := Lib.hid hb
 have HN := Lib.hid hn
 have HLEN := Lib.hid hr.1
 obtain ⟨N, hN⟩ : ∃ N : Nat, N = n + 3 := ⟨_, rfl⟩
 have hNi : (n : Int) + 3 = (N : Int) := by omega
 have hn1 : (N : Int) ≤ 9223372036854775807 := by omega
 have hn2 : (n : Int) ≤ 9223372036854775807 := by omega
 have hnN : n ≤ N := by omega
 have hx1 : ((n : Int) != (n : Int)) = false := by simp
 have hx2 : ((N : Int) != (N : Int)) = false := by simp
 have HNN := Lib.hid hN
 rw [← hN]
 clear hN hr hb hn
 go_enter Tryz.func13, Tryz.ntmps13
 go_wp2
 go_loopw [27] (fun i wr => ∃ (k q : Nat), k ≤ N ∧ i = .int .i64 k ∧ wr = w.drewN q) (fun i _ => N - (intOf i).toNat)
 case atStart => exact ⟨0, 0, by omega, rfl, rfl⟩
 case round =>
  obtain ⟨k, q, hk, rfl, rfl⟩ := hrel
  clear hNi
  have ha1 : (0 : Int) ≤ k := by omega
  by_cases hlt : k < N
  · by_cases hkn : k < n
    · obtain ⟨a1, b1, rfl, hg1, hc1⟩ := HR.out.at hkn
      have hc2 := HB.out.cell k
      rw [show (((lent l).map by8).toArray)[k]? = some (.int .u8 (b1.toNat : Int)) from by simp [lent_head l (show k < l.length by rw [HLEN.out]; exact hkn), hg1, by8]] at hc2
      have HG1 := Lib.hid hg1
      clear hg1
      have hne : ((b1.toNat : Int) != (b1.toNat : Int)) = false := by simp
      have hnk : decide ((n : Int) ≤ (k : Int)) = false := by simp; omega
      have hnk2 : decide (n ≤ k) = false := by simp; omega
      have hnk3 : ¬ ((n : Int) ≤ (k : Int)) := by omega
      have hnk4 : ¬ (n ≤ k) := by omega
      have hnk5 : decide ((k : Int) ≥ (n : Int)) = false := by simp; omega
      go_wp2
      go_quiet (fail)
      go_wp2
      go_roundw
      case rel => exact ⟨k + 1, q + nq, by omega, by go_num, rfl⟩
      case measure => simp [intOf]; omega
    · have hc2 := HB.out.cell k
      rw [show (((lent l).map by8).toArray)[k]? = some (.int .u8 85) from by simp [lent_tail l (show l.length ≤ k by rw [HLEN.out]; omega) (by rw [HLEN.out]; have := HNN.out; omega), by8]] at hc2
      have hnk : (n : Int) ≤ k := by omega
      have hkd : decide ((k : Int) < (n : Int)) = false := by simp; omega
      go_wp2
      go_quiet (fail)
      go_wp2
      go_roundw
      case rel => exact ⟨k + 1, q + nq, by omega, by go_num, rfl⟩
      case measure => simp [intOf]; omega
  · go_wp2
    go_ret
    exact ⟨rfl, _, rfl⟩
end Go.Proofs.YtdenpfcgghangaaGreat

namespace Go.Proofs.YtdenpfcgghangaaGreat
open Go.RowKit
set_option maxRecDepth 100000
end Go.Proofs.YtdenpfcgghangaaGreat

namespace Go.Proofs.YtdenpfcgghangaaGreat
open Go.RowKit
end Go.Proofs.YtdenpfcgghangaaGreat

namespace Go.Proofs.YtdenpfcgghangaaGreat
open Go.RowKit
set_option maxRecDepth 100000
theorem xor_any (b c : UInt8) : ∃ d : UInt8, bits .xor .u8 (b.toNat : Int) (c.toNat : Int) = (d.toNat : Int) := by
 have h : ∃ v : Int, bits .xor .u8 (b.toNat : Int) (c.toNat : Int) = IntKind.u8.wrap v := ⟨_, rfl⟩
 obtain ⟨v, hv⟩ := h
 rw [hv, IntKind.wrap_u8]
 refine ⟨UInt8.ofNat (v % 256).toNat, ?_⟩
 have h1 : 0 ≤ v % 256 := Int.emod_nonneg _ (by omega)
 have h2 : v % 256 < 256 := Int.emod_lt_of_pos _ (by omega)
 rw [UInt8.toNat_ofNat']
 omega
def TurnPost (w : World) (n : Nat) (e : Ending) (w' : World) : Prop :=
 ∃ A' n' c' l', e = .returned (.slice A' n' c') ∧ By w' A' n' l' ∧ n' ≤ n ∧ (∀ x ∈ bk A', w.heap.size ≤ x ∧ x < w'.heap.size) ∧ Fr [] w w'
end Go.Proofs.YtdenpfcgghangaaGreat

namespace Go.Proofs.YtdenpfcgghangaaGreat
open Go.RowKit
set_option maxRecDepth 100000
set_option maxHeartbeats 2000000 in
theorem mpack_i (x : Wmg) (hq : x.q = 11) (w : World) (hx : x.Ok w []) (C : List Value) (hC : x.cells = C) :
  Calls Tryz.prog 15 #[.agg C.toArray] w (PackPost w x) := by
 obtain ⟨wa, hwa⟩ : ∃ wa, wa = w.alloc (Obj.cells C.toArray 61) := ⟨_, rfl⟩
 have hf0 : Fr [] w wa := by rw [hwa]; exact (Fr.refl [] w).alloc _
 have hb0 : Blk wa w.heap.size 61 x.cells.toArray := by rw [hwa, hC]; exact Blk.new _ _ _
 have hat : x.At wa w.heap.size := Wmg.at_of hb0.range hx
 have HC0 : Hid (wa.cell? ⟨w.heap.size, 0 + 0, none⟩ = some (.int .i64 x.q)) := Lib.hid (hat.q 0 _ rfl)
 have HC1 : Hid (wa.cell? ⟨w.heap.size, 0 + 1, none⟩ = some (.int .i64 x.f)) := Lib.hid (hat.f 0 _ rfl)
 have HC2 : Hid (wa.cell? ⟨w.heap.size, 0 + 2, none⟩ = some (.int .i64 x.t)) := Lib.hid (hat.t 0 _ rfl)
 have HRG : Hid (wa.rangeAt w.heap.size 0 C) := Lib.hid (hC ▸ hb0.range)
 have HLN : Hid (C.length = 295) := Lib.hid (hC ▸ Wmg.len hx)
 have HXA : Hid (x.Ok wa []) := Lib.hid (hx.keep hf0 (by simp))
 have HBL := Lib.hid (Wmg.bytes_len hx)
 have HBD := Lib.hid (Wmg.body_len hx)
 have HRC := Lib.hid hC
 have HF0 := Lib.hid hf0
 have HWA := Lib.hid hwa
 have HX := Lib.hid hx
 have HQ := Lib.hid hq
 clear hwa hf0 hb0 hat hx hC hq
 go_enter Tryz.func15, Tryz.ntmps15
 go_wp2
 rw [← HWA.out]
 refine wp_region_held_drew (S := Fr [] wa) (by kernel_rfl) (Fr.drew (Fr.refl _ wa)) (fun hHeld => ?_)
 refine run_at (i := 1) (v := ?_) rfl (by kernel_rfl) (by rfl) (fun _ _ _ h => h) hHeld (fun w1 hw1 => ?_) ?_
 rotate_left 1
 · skip
   go_simp
   try first | with_reducible rfl | apply And.intro <;> rfl
 simp only [xPa, xPb, xPc, xPd, xPe]
 refine run_at (i := 2) (v := ?_) rfl (by kernel_rfl) (by rfl) (fun _ _ _ h => h) hHeld (fun w1 hw1 => ?_) ?_
 rotate_left 1
 · skip
   have hcw0 := hw1.cell (HC0.out) (by simp)
   go_simp
   try first | with_reducible rfl | apply And.intro <;> rfl
 simp only [xPa, xPb, xPc, xPd, xPe]
 refine run_at (i := 4) (v := ?_) rfl (by kernel_rfl) (by rfl) (fun _ _ _ h => h) hHeld (fun w1 hw1 => ?_) ?_
 rotate_left 1
 · skip
   go_simp
   try first | with_reducible rfl | apply And.intro <;> rfl
 simp only [xPa, xPb, xPc, xPd, xPe]
 refine run_at (i := 5) (v := ?_) rfl (by kernel_rfl) (by rfl) (fun _ _ _ h => h) hHeld (fun w1 hw1 => ?_) ?_
 rotate_left 1
 · skip
   have hcw0 := hw1.cell (HC1.out) (by simp)
   go_simp
   try first | with_reducible rfl | apply And.intro <;> rfl
 simp only [xPa, xPb, xPc, xPd, xPe]
 refine run_at (i := 7) (v := ?_) rfl (by kernel_rfl) (by rfl) (fun _ _ _ h => h) hHeld (fun w1 hw1 => ?_) ?_
 rotate_left 1
 · skip
   go_simp
   try first | with_reducible rfl | apply And.intro <;> rfl
 simp only [xPa, xPb, xPc, xPd, xPe]
 refine run_at (i := 8) (v := ?_) rfl (by kernel_rfl) (by rfl) (fun _ _ _ h => h) hHeld (fun w1 hw1 => ?_) ?_
 rotate_left 1
 · skip
   have hcw0 := hw1.cell (HC2.out) (by simp)
   go_simp
   try first | with_reducible rfl | apply And.intro <;> rfl
 simp only [xPa, xPb, xPc, xPd, xPe]
 refine call_at (i := 0) (f := ?_) (args := ?_) rfl (by kernel_rfl) (by rfl) ?_ ?_
 rotate_left 2
 · go_simp
   try first | with_reducible rfl | apply And.intro <;> rfl
 refine (newWriter_any _).mono ?_
 rintro e w1 ⟨rfl, hw1, hf1⟩
 obtain ⟨g, hg⟩ : ∃ g, g = wa.drew.heap.size := ⟨_, rfl⟩
 have HW1 : Hid (NewWr wa w1 g []) := Lib.hid ⟨[g], hg ▸ hw1, (Fr.drew (Fr.refl [] wa)).trans hf1 (by simp), fun x hx => by simp at hx; subst hx; rw [hg]; exact Nat.le_refl _⟩
 rw [← hg]
 refine ⟨_, rfl, HW1.out.fr, fun hHeld => ?_⟩
 clear hw1 hf1 hg
 simp only [xPa, xPb, xPc, xPd, xPe]
 refine call_at (i := 3) (f := ?_) (args := ?_) rfl (by kernel_rfl) (by rfl) ?_ ?_
 rotate_left 2
 · go_simp
   try first | with_reducible rfl | apply And.intro <;> rfl
 refine (int_head wa w1 g _ HW1.out x.q HX.out.q.1 HX.out.q.2 (by decide)).mono ?_
 rintro e w2 ⟨rfl, hw2⟩
 have HW2 := Lib.hid hw2
 refine ⟨_, rfl, hw2.fr, fun hHeld => ?_⟩
 clear hw2 HW1
 simp only [xPa, xPb, xPc, xPd, xPe]
 refine call_at (i := 6) (f := ?_) (args := ?_) rfl (by kernel_rfl) (by rfl) ?_ ?_
 rotate_left 2
 · go_simp
   try first | with_reducible rfl | apply And.intro <;> rfl
 refine (int_head wa w2 g _ HW2.out x.f HX.out.f.1 HX.out.f.2 (by have b0 := encI_len x.q HX.out.q.2; simp only [List.nil_append]; omega)).mono ?_
 rintro e w3 ⟨rfl, hw3⟩
 have HW3 := Lib.hid hw3
 refine ⟨_, rfl, hw3.fr, fun hHeld => ?_⟩
 clear hw3 HW2
 simp only [xPa, xPb, xPc, xPd, xPe]
 refine call_at (i := 9) (f := ?_) (args := ?_) rfl (by kernel_rfl) (by rfl) ?_ ?_
 rotate_left 2
 · go_simp
   try first | with_reducible rfl | apply And.intro <;> rfl
 refine (int_head wa w3 g _ HW3.out x.t HX.out.t.1 HX.out.t.2 (by have b0 := encI_len x.q HX.out.q.2; have b1 := encI_len x.f HX.out.f.2; simp only [List.nil_append, List.length_append]; omega)).mono ?_
 rintro e w4 ⟨rfl, hw4⟩
 have HW4 := Lib.hid hw4
 refine ⟨_, rfl, hw4.fr, fun hHeld => ?_⟩
 clear hw4 HW3
 simp only [xPa, xPb, xPc, xPd, xPe]
 refine run_at (i := 10) (v := ?_) rfl (by kernel_rfl) (by rfl) (fun _ _ _ h => h) hHeld (fun w1 hw1 => ?_) ?_
 rotate_left 1
 · skip
   go_simp
   try first | with_reducible rfl | apply And.intro <;> rfl
 simp only [xPa, xPb, xPc, xPd, xPe]
 refine wpAnyH_done (by kernel_rfl) ?_ _
 have HR4 : Hid (w4.rangeAt w.heap.size 0 C) := Lib.hid (HW4.out.fr.range HRG.out (by simp))
 go_wp2_with (refine wpList_load_mid rfl 61 _ rfl w.heap.size 0 rfl C _ HR4.out Tryz.underlying61 rfl (row_msg.of HLN.out).2 ?_)
 refine (HW4.out.calls fun S1 k1 f1 s1 => mput_i x HQ.out w4 S1 g _ k1 (by have b0 := encI_len x.q HX.out.q.2; have b1 := encI_len x.f HX.out.f.2; have b2 := encI_len x.t HX.out.t.2; simp only [List.nil_append, List.length_append]; omega) (HXA.out.keep f1 (fun k hk hl => absurd (s1 k hk) (by omega))) C HRC.out).mono ?_
 rintro e w5 ⟨rfl, hw5⟩
 have HW5 : Hid (NewWr wa w5 g x.bytes) := Lib.hid (by rw [Wmg.bytes, Wmg.body_11 HQ.out]; simpa using hw5)
 clear hw5 HW4
 have HM : Hid (1 ≤ x.q ∧ x.q ≤ 14) := Lib.hid (by rw [HQ.out]; decide)
 go_wp2_with fail
 refine (bytes_head wa w5 g _ HW5.out (by have := HBL.out; omega)).mono ?_
 rintro e w6 ⟨A6, c6, rfl, hn6⟩
 have HN6 := Lib.hid hn6
 clear hn6 HW5
 have hbig : ¬ (65536 < (x.bytes.length : Int)) := by have := HBL.out; omega
 have hbig2 : ¬ (65536 < x.bytes.length) := by have := HBL.out; omega
 go_wp2_with fail
 go_ret2
 unfold PackPost
 rw [if_pos HM.out]
 exact ⟨A6, c6, rfl, HN6.out.1, HF0.out.and HN6.out.2.1 (by simp), fun k hk => Nat.le_trans HF0.out.size (HN6.out.2.2 k hk)⟩
end Go.Proofs.YtdenpfcgghangaaGreat

namespace Go.Proofs.YtdenpfcgghangaaGreat
open Go.RowKit
set_option maxRecDepth 100000
set_option maxHeartbeats 4000000 in
theorem mwakes2_any (w : World) : Calls Tryz.prog 14 #[] w fun e w' => e = .returned (.bool true) ∧ Fr [] w w' := by
 go_enter Tryz.func14, Tryz.ntmps14
 go_wp2_with fail
 refine (munpack_nil w).mono ?_
 rintro e_ w1 ⟨rfl, hf1⟩
 have HF1 := Lib.hid hf1
 obtain ⟨Z, hZ⟩ : ∃ Z, Z = (mz 0 0 0).cells.toArray := ⟨_, rfl⟩
 have HYT : Hid ((Tryz.prog.info? 61).map (·.size) = some Z.size) := Lib.hid (by rw [hZ]; exact msg_size (mz_len 0 0 0))
 have HYO : Hid (Z.all (·.oneCell') = true) := Lib.hid (by rw [hZ]; exact all_oneCell_toArray (Wmg.one _))
 have HBN : Hid (Blk (w1.alloc (Obj.cells (mz 0 0 0).cells.toArray 61)) w1.heap.size 61 Z) := Lib.hid (by rw [hZ]; exact Blk.new _ _ _)
 rw [← hZ]
 obtain ⟨C, hC⟩ : ∃ C : List Value, (mz 11 0 0).cells = C := ⟨_, rfl⟩
 have HBU : Hid (Tryz.prog.built 61 [(0, .int .i64 11)] = some C.toArray) := Lib.hid (by rw [← hC]; exact built_mgk 11)
 have HC := Lib.hid hC
 clear hf1 hZ hC
 go_wp2_with (first
  | (refine wpList_builtg rfl 61 _ rfl _ _ HBU.out rfl ?_)
  | (refine wpList_store_blk rfl 61 _ _ rfl w1.heap.size Z rfl rfl 61 Z HBN.out HYT.out rfl HYO.out ?_
     intro w2 hb2 hf2
     have HF2 := Lib.hid ((((Fr.refl [w1.heap.size] w1).alloc _)).trans hf2 (fun x hx _ => hx))
     clear hb2 hf2))
 refine (mpack_i (mz 11 0 0) rfl w2 (mz_ok w2 [] 11 0 0 (by unfold i64In; omega) zi0 zi0) C HC.out).mono ?_
 intro e_ w3 hp
 unfold PackPost at hp
 rw [if_pos (show 1 ≤ (mz 11 0 0).q ∧ (mz 11 0 0).q ≤ 14 from (by decide : 1 ≤ (11 : Int) ∧ (11 : Int) ≤ 14))] at hp
 obtain ⟨A3, c3, rfl, hn3⟩ := hp
 have HF3 : Hid (Fr [] w w3) := Lib.hid ((HF1.out.trans (HF2.out) (fun q hq hl => by have := HF1.out.size; simp at hq; omega)).and hn3.2.1 (by simp))
 have hpos : (0 : Int) < (((mz 11 0 0).bytes.length : Nat) : Int) := by have := mz_bytes_pos 11 0 0; omega
 have hpos2 := mz_bytes_pos 11 0 0
 clear hn3
 generalize (mz 11 0 0).bytes.length = n at *
 go_wp2_with fail
 go_ret
 exact ⟨rfl, HF3.out⟩
end Go.Proofs.YtdenpfcgghangaaGreat
