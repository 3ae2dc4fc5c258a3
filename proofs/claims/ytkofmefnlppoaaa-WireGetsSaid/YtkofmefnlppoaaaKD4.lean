/- Texts that the proof stands on: Package wire: GetCert, GetPromise, GetBatch: all of it, or the zero value. (written by gen_rp4.py) | '==' of two structs in a region that draws its order. | Equality of structs, field by field: names, signatures, stamps, votes, denials. | gavelkeep's Openings and Tombs of one list on both sides. (written by gen_slf.py) | Cells in the middle of a block; gavellaw05's up, niceName, niceSig. (written by gen_nic.py) | gavellaw05's nice: a certificate of numbers from 0 on, not too great. (written by gen_nic2.py) | Package commit: the document's example (wakes). | Package commit: an opening is built of its parts. | Package commit: a commitment is equal to itself. | gavelkeep's Cert, Promise, Batch of parts that say the same, wherever they lie. (written by gen_keq.py) | The walk of WireConfs. | gavelref01's Reader: the document's own answers. | gavelref01's Reader: Int, Row, Hash; and code's reader beside it, each read as one function of what is left. | gavelref01's Reader: Hash. -/
import Derived.Test.YtkofmefnlppoaaaKD3
import Derived.Test.YtkofmefnlppoaaaReg
import Derived.Test.YtkofmefnlppoaaaRead
import Derived.Laws.StructEq
import Derived.Test.YtkofmefnlppoaaaReg2
import Derived.Test.YtkofmefnlppoaaaHelp
import Derived.Deep.CutBlock
import Derived.Test.YtkofmefnlppoaaaRHash
import Derived.Test.YtkofmefnlppoaaaLend
import Derived.Deep.DeepCutAuto
import Derived.Outline
set_option maxRecDepth 100000

namespace Go.Proofs.Ytkofmefnlppoaaa
open Go.RowKit
set_option maxRecDepth 100000
def pW {α : Type} (z : α) (p : Ps → α × Ps) (s : Ps) : α × Ps := (if (p s).2.2 then z else (p s).1, (p s).2)
def zWce : Wce := ⟨⟨0, 0, List.replicate 32 0, 0, 0, 0⟩, none, 0, 0, []⟩
def zWpr : Wpr := ⟨0, 0, 0, none, 0, 0, [], 0, 0⟩
def zWba : Wba := ⟨0, 0, none, 0, 0, [], none, 0, 0, [], none, 0, 0, []⟩
theorem zero_in : i64In 0 := by unfold i64In; omega
theorem zWce_ok (w : World) (S : List Nat) : zWce.Li w S := ⟨⟨zero_in, zero_in, rfl, zero_in, zero_in, zero_in⟩, Lst.nil _, by decide, fun h => absurd h (by decide)⟩
theorem zWpr_ok (w : World) (S : List Nat) : zWpr.Li w S := ⟨zero_in, zero_in, by decide, Lst.nil _, by decide, fun h => absurd h (by decide), zero_in, zero_in⟩
theorem zWba_ok (w : World) (S : List Nat) : zWba.Li w S := ⟨zero_in, by decide, Lst.nil _, by decide, fun h => absurd h (by decide), Lst.nil _, by decide, fun h => absurd h (by decide), Lst.nil _, by decide, fun h => absurd h (by decide)⟩

set_option maxHeartbeats 2000000 in
theorem wholeCert_any (w : World) (F : List Nat) (g : Nat) (s : Ps) (hr : Rs w F g s) : Calls Try.prog 48 #[.pointer (some ⟨g, 0, none⟩), fnV 49] w fun e w' =>
    ∃ v : Wce, e = .returned (.agg v.cells.toArray) ∧ v.con = (pW zWce.con pCe s).1 ∧ (∀ S0 : List Nat, (∀ q ∈ S0, q < w.heap.size) → v.Li w' S0) ∧ Rs w' F g (pW zWce.con pCe s).2 ∧ Fr [g] w w' := by
  unfold fnV
  obtain ⟨Z, hZ⟩ : ∃ Z, Z = zWce.cells := ⟨_, rfl⟩
  have hzl : Z.length = 38 := by rw [hZ]; rfl
  obtain ⟨wa, hwa⟩ : ∃ wa, wa = w.alloc (Obj.cells zWce.cells.toArray 32) := ⟨_, rfl⟩
  have hf0 : Fr [] w wa := by rw [hwa]; exact (Fr.refl [] w).alloc _
  have HB : Hid (Blk wa w.heap.size 32 Z.toArray) := Lib.hid (by rw [hwa, hZ]; exact Blk.new _ _ _)
  have HR := Lib.hid (hr.fr hf0 (by simp) (by simp))
  have HNF : Hid (∀ k ∈ F, k < w.heap.size) := Lib.hid (fun k hm => hr.lt _ hm)
  have HG : Hid (g < w.heap.size) := Lib.hid hr.gt
  have HF0 := Lib.hid hf0
  have HWA := Lib.hid hwa
  have HZL := Lib.hid hzl
  have HZ1 : Hid (Z.toArray.all (·.oneCell') = true) := Lib.hid (by rw [hZ]; exact all_oneCell_toArray (Wce.one _))
  have HZ := Lib.hid hZ
  clear hwa hf0 hr hZ hzl
  go_enter Try.func48, Try.ntmps48
  go_upto_region 1 with (fail)
  change Code.wp _ _ _ _ (w.alloc (Obj.cells zWce.cells.toArray 32))
  rw [← HWA.out]
  go_wp2_with fail
  refine (getCert_any wa F g s HR.out).mono ?_
  rintro e_ w1 ⟨v, rfl, hc, hok, h1, h2⟩
  have HVS : Hid (v.cells.length = 38) := Lib.hid (Wce.len (hok [] (by simp)).k.h)
  have HAL : Hid (v.cells.toArray.all (·.oneCell') = true) := Lib.hid (all_oneCell_toArray (Wce.one _))
  have HC := Lib.hid hc
  have HOK : Hid (∀ W, Fr [g, w.heap.size] w1 W → ∀ S0 : List Nat, (∀ q ∈ S0, q < w.heap.size) → v.Li W S0) := Lib.hid (fun W hW S0 h0 => (hok (g :: w.heap.size :: S0) (fun q hq => by
    have h3 := HB.out.lt
    have h4 := HG.out
    rcases List.mem_cons.1 hq with rfl | hq
    · omega
    · rcases List.mem_cons.1 hq with rfl | hq
      · exact h3
      · have := h0 q hq; omega)).keep (hW.mono (fun k hk _ => by simp at hk; simp; omega)) (fun k hk _ => by simp [hk]))
  have HF1 := Lib.hid h2
  have HB1 := Lib.hid (HB.out.keep h2 (by have := HG.out; simp; omega))
  have HSZ : Hid (w.heap.size < w1.heap.size) := Lib.hid (by have := HB.out.lt; have := h2.size; omega)
  have HP : Hid (pW zWce.con pCe s = (if (pCe s).2.2 then zWce.con else (pCe s).1, (pCe s).2)) := Lib.hid rfl
  generalize (pCe s).2 = s2 at *
  obtain ⟨R, bad⟩ := s2
  have HR1 := Lib.hid h1
  obtain ⟨V, hV⟩ : ∃ V, V = v.cells := ⟨_, rfl⟩
  rw [← hV] at HVS HAL ⊢
  have HV := Lib.hid hV
  have HVT : Hid ((Try.prog.info? 32).map (·.size) = some V.toArray.size) := Lib.hid (by rw [List.size_toArray, HVS.out]; kernel_rfl)
  have HZT : Hid ((Try.prog.info? 32).map (·.size) = some Z.toArray.size) := Lib.hid (by rw [List.size_toArray, HZL.out]; kernel_rfl)
  have HBN : Hid (Blk (w1.alloc (Obj.cells zWce.cells.toArray 32)) w1.heap.size 32 Z.toArray) := Lib.hid (by rw [HZ.out]; exact Blk.new _ _ _)
  clear hc hok h1 h2 hV
  go_wp2_with (first
    | (refine wpList_store_blk rfl 32 _ _ rfl w1.heap.size V.toArray rfl rfl 32 Z.toArray HBN.out HVT.out (by rw [List.size_toArray, List.size_toArray, HVS.out, HZL.out]) HAL.out ?_
       intro w2 hb2 hf2
       have HB2 := Lib.hid hb2
       have HF2 := Lib.hid ((((Fr.refl [w1.heap.size] w1).alloc _)).trans hf2 (fun x hx _ => hx))
       clear hb2 hf2))
  have HR2 := Lib.hid (HR1.out.fr HF2.out (by have := HG.out; have := HSZ.out; simp; omega) (fun k hk hm => by have := HNF.out k hk; have := HSZ.out; simp at hm; omega))
  have HBW := Lib.hid (HB1.out.keep HF2.out (by have := HSZ.out; simp; omega))
  have HS2 : Hid (w1.heap.size < w2.heap.size) := Lib.hid HB2.out.lt
  go_wp2_with fail
  refine (ok_any w2 g F R bad HR2.out.rd).mono ?_
  rintro e_ w3 ⟨rfl, rfl⟩
  cases bad
  · go_wp2_with (first
      | (refine wpList_row rfl 32 _ rfl _ _ rfl _ HB2.out.range (row_crt.of HVS.out) ?_)
      | (refine wpList_store_blk rfl 32 _ _ rfl w.heap.size V.toArray rfl rfl 32 Z.toArray HBW.out HVT.out (by rw [List.size_toArray, List.size_toArray, HVS.out, HZL.out]) HAL.out ?_
         intro w9 hb9 hf9
         have HB9 := Lib.hid hb9
         have HF9 := Lib.hid hf9
         clear hb9 hf9))
    have hq9 : Fr [g, w.heap.size] w1 w9 := (HF2.out.mono (T := [g, w.heap.size]) (fun x hx hl => by simp at hx; omega)).trans (HF9.out.mono (fun x hx _ => by simp at hx; simp [hx])) (fun x hx _ => hx)
    refine bodyPost_ret (v := .agg V.toArray) (results_cell_row Try.results48 _ _ w.heap.size 32 V.toArray _ _ rfl HB9.out Try.underlying32 rfl HVT.out) rfl ⟨v, by rw [HV.out], ?_, fun S0 h0 => HOK.out w9 hq9 S0 h0, ?_, ?_⟩
    · rw [HP.out, HC.out]; rfl
    · rw [HP.out]; exact HR2.out.fr HF9.out (by have := HG.out; simp; omega) (fun k hk hm => by have := HNF.out k hk; simp at hm; omega)
    · exact (((HF0.out.mono (T := [g]) (by simp)).trans HF1.out (fun x hx _ => hx)).trans HF2.out (fun x hx hl => by have := HSZ.out; simp at hx; omega)).trans HF9.out (fun x hx hl => by simp at hx; omega)
  · have HBM : Hid (Blk (w2.alloc (Obj.cells zWce.cells.toArray 32)) w2.heap.size 32 Z.toArray) := Lib.hid (by rw [HZ.out]; exact Blk.new _ _ _)
    have HBV := Lib.hid (HBW.out.keep ((Fr.refl [] w2).alloc (Obj.cells zWce.cells.toArray 32)) (by simp))
    go_wp2_with (first
      | (refine wpList_row rfl 32 _ rfl _ _ rfl _ HBM.out.range (row_crt.of HZL.out) ?_)
      | (refine wpList_store_blk rfl 32 _ _ rfl w.heap.size Z.toArray rfl rfl 32 Z.toArray HBV.out HZT.out rfl HZ1.out ?_
         intro w9 hb9 hf9
         have HB9 := Lib.hid hb9
         have HF9 := Lib.hid (((Fr.refl [w.heap.size] w2).alloc _).trans hf9 (fun x hx _ => hx))
         clear hb9 hf9))
    refine bodyPost_ret (v := .agg Z.toArray) (results_cell_row Try.results48 _ _ w.heap.size 32 Z.toArray _ _ rfl HB9.out Try.underlying32 rfl HZT.out) rfl ⟨zWce, by rw [HZ.out], ?_, fun S0 h0 => zWce_ok w9 S0, ?_, ?_⟩
    · rw [HP.out]; rfl
    · rw [HP.out]; exact HR2.out.fr HF9.out (by have := HG.out; simp; omega) (fun k hk hm => by have := HNF.out k hk; simp at hm; omega)
    · exact (((HF0.out.mono (T := [g]) (by simp)).trans HF1.out (fun x hx _ => hx)).trans HF2.out (fun x hx hl => by have := HSZ.out; simp at hx; omega)).trans HF9.out (fun x hx hl => by simp at hx; omega)
set_option maxHeartbeats 2000000 in
theorem wireCert_any (w : World) (F : List Nat) (g : Nat) (s : Ps) (hr : Rs w F g s) : Calls Try.prog 18 #[.pointer (some ⟨g, 0, none⟩)] w fun e w' =>
    ∃ v : Wce, e = .returned (.agg v.cells.toArray) ∧ v.con = (pW zWce.con pCe s).1 ∧ (∀ S0 : List Nat, (∀ q ∈ S0, q < w.heap.size) → v.Li w' S0) ∧ Rs w' F g (pW zWce.con pCe s).2 ∧ Fr [g] w w' := by
  obtain ⟨Z, hZ⟩ : ∃ Z, Z = zWce.cells := ⟨_, rfl⟩
  have hzl : Z.length = 38 := by rw [hZ]; rfl
  obtain ⟨wa, hwa⟩ : ∃ wa, wa = w.alloc (Obj.cells zWce.cells.toArray 32) := ⟨_, rfl⟩
  have hf0 : Fr [] w wa := by rw [hwa]; exact (Fr.refl [] w).alloc _
  have HB : Hid (Blk wa w.heap.size 32 Z.toArray) := Lib.hid (by rw [hwa, hZ]; exact Blk.new _ _ _)
  have HR := Lib.hid (hr.fr hf0 (by simp) (by simp))
  have HNF : Hid (∀ k ∈ F, k < w.heap.size) := Lib.hid (fun k hm => hr.lt _ hm)
  have HG : Hid (g < w.heap.size) := Lib.hid hr.gt
  have HF0 := Lib.hid hf0
  have HWA := Lib.hid hwa
  have HZL := Lib.hid hzl
  clear hwa hf0 hr hZ hzl
  go_enter Try.func18, Try.ntmps18
  go_upto_region 1 with (fail)
  change Code.wp _ _ _ _ (w.alloc (Obj.cells zWce.cells.toArray 32))
  rw [← HWA.out]
  go_wp2_with fail
  refine (wholeCert_any wa F g s HR.out).mono ?_
  rintro e_ w1 ⟨v, rfl, hc, hok, h1, h2⟩
  have HVS : Hid (v.cells.length = 38) := Lib.hid (Wce.len (hok [] (by simp)).k.h)
  have HAL : Hid (v.cells.toArray.all (·.oneCell') = true) := Lib.hid (all_oneCell_toArray (Wce.one _))
  have HC := Lib.hid hc
  have HOK : Hid (∀ W, Fr [w.heap.size] w1 W → ∀ S0 : List Nat, (∀ q ∈ S0, q < w.heap.size) → v.Li W S0) := Lib.hid (fun W hW S0 h0 => (hok (w.heap.size :: S0) (fun q hq => by
    have h3 := HB.out.lt
    rcases List.mem_cons.1 hq with rfl | hq
    · exact h3
    · have := h0 q hq; omega)).keep (hW.mono (fun k hk _ => by simp at hk; simp [hk])) (fun k hk _ => by simp [hk]))
  have HF1 := Lib.hid h2
  have HB1 := Lib.hid (HB.out.keep h2 (by have := HG.out; simp; omega))
  have HR1 := Lib.hid h1
  obtain ⟨V, hV⟩ : ∃ V, V = v.cells := ⟨_, rfl⟩
  rw [← hV] at HVS HAL ⊢
  have HV := Lib.hid hV
  have HVT : Hid ((Try.prog.info? 32).map (·.size) = some V.toArray.size) := Lib.hid (by rw [List.size_toArray, HVS.out]; kernel_rfl)
  clear hc hok h1 h2 hV
  go_wp2_with (first
    | (refine wpList_store_blk rfl 32 _ _ rfl w.heap.size V.toArray rfl rfl 32 Z.toArray HB1.out HVT.out (by rw [List.size_toArray, List.size_toArray, HVS.out, HZL.out]) HAL.out ?_
       intro w9 hb9 hf9
       have HB9 := Lib.hid hb9
       have HF9 := Lib.hid hf9
       clear hb9 hf9))
  refine bodyPost_ret (v := .agg V.toArray) (results_cell_row Try.results18 _ _ w.heap.size 32 V.toArray _ _ rfl HB9.out Try.underlying32 rfl HVT.out) rfl ⟨v, by rw [HV.out], HC.out, fun S0 h0 => HOK.out w9 HF9.out S0 h0, ?_, ?_⟩
  · exact HR1.out.fr HF9.out (by have := HG.out; simp; omega) (fun k hk hm => by have := HNF.out k hk; simp at hm; omega)
  · exact Fr.unbox HF0.out HF1.out HF9.out (Nat.le_refl _)

set_option maxHeartbeats 2000000 in
theorem wholePromise_any (w : World) (F : List Nat) (g : Nat) (s : Ps) (hr : Rs w F g s) : Calls Try.prog 52 #[.pointer (some ⟨g, 0, none⟩), fnV 53] w fun e w' =>
    ∃ v : Wpr, e = .returned (.agg v.cells.toArray) ∧ v.con = (pW zWpr.con pPr s).1 ∧ (∀ S0 : List Nat, (∀ q ∈ S0, q < w.heap.size) → v.Li w' S0) ∧ Rs w' F g (pW zWpr.con pPr s).2 ∧ Fr [g] w w' := by
  unfold fnV
  obtain ⟨Z, hZ⟩ : ∃ Z, Z = zWpr.cells := ⟨_, rfl⟩
  have hzl : Z.length = 6 := by rw [hZ]; rfl
  obtain ⟨wa, hwa⟩ : ∃ wa, wa = w.alloc (Obj.cells zWpr.cells.toArray 36) := ⟨_, rfl⟩
  have hf0 : Fr [] w wa := by rw [hwa]; exact (Fr.refl [] w).alloc _
  have HB : Hid (Blk wa w.heap.size 36 Z.toArray) := Lib.hid (by rw [hwa, hZ]; exact Blk.new _ _ _)
  have HR := Lib.hid (hr.fr hf0 (by simp) (by simp))
  have HNF : Hid (∀ k ∈ F, k < w.heap.size) := Lib.hid (fun k hm => hr.lt _ hm)
  have HG : Hid (g < w.heap.size) := Lib.hid hr.gt
  have HF0 := Lib.hid hf0
  have HWA := Lib.hid hwa
  have HZL := Lib.hid hzl
  have HZ1 : Hid (Z.toArray.all (·.oneCell') = true) := Lib.hid (by rw [hZ]; exact all_oneCell_toArray (Wpr.one _))
  have HZ := Lib.hid hZ
  clear hwa hf0 hr hZ hzl
  go_enter Try.func52, Try.ntmps52
  go_upto_region 1 with (fail)
  change Code.wp _ _ _ _ (w.alloc (Obj.cells zWpr.cells.toArray 36))
  rw [← HWA.out]
  go_wp2_with fail
  refine (getPromise_any wa F g s HR.out).mono ?_
  rintro e_ w1 ⟨v, rfl, hc, hok, h1, h2⟩
  have HVS : Hid (v.cells.length = 6) := Lib.hid (rfl)
  have HAL : Hid (v.cells.toArray.all (·.oneCell') = true) := Lib.hid (all_oneCell_toArray (Wpr.one _))
  have HC := Lib.hid hc
  have HOK : Hid (∀ W, Fr [g, w.heap.size] w1 W → ∀ S0 : List Nat, (∀ q ∈ S0, q < w.heap.size) → v.Li W S0) := Lib.hid (fun W hW S0 h0 => (hok (g :: w.heap.size :: S0) (fun q hq => by
    have h3 := HB.out.lt
    have h4 := HG.out
    rcases List.mem_cons.1 hq with rfl | hq
    · omega
    · rcases List.mem_cons.1 hq with rfl | hq
      · exact h3
      · have := h0 q hq; omega)).keep (hW.mono (fun k hk _ => by simp at hk; simp; omega)) (fun k hk _ => by simp [hk]))
  have HF1 := Lib.hid h2
  have HB1 := Lib.hid (HB.out.keep h2 (by have := HG.out; simp; omega))
  have HSZ : Hid (w.heap.size < w1.heap.size) := Lib.hid (by have := HB.out.lt; have := h2.size; omega)
  have HP : Hid (pW zWpr.con pPr s = (if (pPr s).2.2 then zWpr.con else (pPr s).1, (pPr s).2)) := Lib.hid rfl
  generalize (pPr s).2 = s2 at *
  obtain ⟨R, bad⟩ := s2
  have HR1 := Lib.hid h1
  obtain ⟨V, hV⟩ : ∃ V, V = v.cells := ⟨_, rfl⟩
  rw [← hV] at HVS HAL ⊢
  have HV := Lib.hid hV
  have HVT : Hid ((Try.prog.info? 36).map (·.size) = some V.toArray.size) := Lib.hid (by rw [List.size_toArray, HVS.out]; kernel_rfl)
  have HZT : Hid ((Try.prog.info? 36).map (·.size) = some Z.toArray.size) := Lib.hid (by rw [List.size_toArray, HZL.out]; kernel_rfl)
  have HBN : Hid (Blk (w1.alloc (Obj.cells zWpr.cells.toArray 36)) w1.heap.size 36 Z.toArray) := Lib.hid (by rw [HZ.out]; exact Blk.new _ _ _)
  clear hc hok h1 h2 hV
  go_wp2_with (first
    | (refine wpList_store_blk rfl 36 _ _ rfl w1.heap.size V.toArray rfl rfl 36 Z.toArray HBN.out HVT.out (by rw [List.size_toArray, List.size_toArray, HVS.out, HZL.out]) HAL.out ?_
       intro w2 hb2 hf2
       have HB2 := Lib.hid hb2
       have HF2 := Lib.hid ((((Fr.refl [w1.heap.size] w1).alloc _)).trans hf2 (fun x hx _ => hx))
       clear hb2 hf2))
  have HR2 := Lib.hid (HR1.out.fr HF2.out (by have := HG.out; have := HSZ.out; simp; omega) (fun k hk hm => by have := HNF.out k hk; have := HSZ.out; simp at hm; omega))
  have HBW := Lib.hid (HB1.out.keep HF2.out (by have := HSZ.out; simp; omega))
  have HS2 : Hid (w1.heap.size < w2.heap.size) := Lib.hid HB2.out.lt
  go_wp2_with fail
  refine (ok_any w2 g F R bad HR2.out.rd).mono ?_
  rintro e_ w3 ⟨rfl, rfl⟩
  cases bad
  · go_wp2_with (first
      | (refine wpList_row rfl 36 _ rfl _ _ rfl _ HB2.out.range (row_prm.of HVS.out) ?_)
      | (refine wpList_store_blk rfl 36 _ _ rfl w.heap.size V.toArray rfl rfl 36 Z.toArray HBW.out HVT.out (by rw [List.size_toArray, List.size_toArray, HVS.out, HZL.out]) HAL.out ?_
         intro w9 hb9 hf9
         have HB9 := Lib.hid hb9
         have HF9 := Lib.hid hf9
         clear hb9 hf9))
    have hq9 : Fr [g, w.heap.size] w1 w9 := (HF2.out.mono (T := [g, w.heap.size]) (fun x hx hl => by simp at hx; omega)).trans (HF9.out.mono (fun x hx _ => by simp at hx; simp [hx])) (fun x hx _ => hx)
    refine bodyPost_ret (v := .agg V.toArray) (results_cell_row Try.results52 _ _ w.heap.size 36 V.toArray _ _ rfl HB9.out Try.underlying36 rfl HVT.out) rfl ⟨v, by rw [HV.out], ?_, fun S0 h0 => HOK.out w9 hq9 S0 h0, ?_, ?_⟩
    · rw [HP.out, HC.out]; rfl
    · rw [HP.out]; exact HR2.out.fr HF9.out (by have := HG.out; simp; omega) (fun k hk hm => by have := HNF.out k hk; simp at hm; omega)
    · exact (((HF0.out.mono (T := [g]) (by simp)).trans HF1.out (fun x hx _ => hx)).trans HF2.out (fun x hx hl => by have := HSZ.out; simp at hx; omega)).trans HF9.out (fun x hx hl => by simp at hx; omega)
  · have HBM : Hid (Blk (w2.alloc (Obj.cells zWpr.cells.toArray 36)) w2.heap.size 36 Z.toArray) := Lib.hid (by rw [HZ.out]; exact Blk.new _ _ _)
    have HBV := Lib.hid (HBW.out.keep ((Fr.refl [] w2).alloc (Obj.cells zWpr.cells.toArray 36)) (by simp))
    go_wp2_with (first
      | (refine wpList_row rfl 36 _ rfl _ _ rfl _ HBM.out.range (row_prm.of HZL.out) ?_)
      | (refine wpList_store_blk rfl 36 _ _ rfl w.heap.size Z.toArray rfl rfl 36 Z.toArray HBV.out HZT.out rfl HZ1.out ?_
         intro w9 hb9 hf9
         have HB9 := Lib.hid hb9
         have HF9 := Lib.hid (((Fr.refl [w.heap.size] w2).alloc _).trans hf9 (fun x hx _ => hx))
         clear hb9 hf9))
    refine bodyPost_ret (v := .agg Z.toArray) (results_cell_row Try.results52 _ _ w.heap.size 36 Z.toArray _ _ rfl HB9.out Try.underlying36 rfl HZT.out) rfl ⟨zWpr, by rw [HZ.out], ?_, fun S0 h0 => zWpr_ok w9 S0, ?_, ?_⟩
    · rw [HP.out]; rfl
    · rw [HP.out]; exact HR2.out.fr HF9.out (by have := HG.out; simp; omega) (fun k hk hm => by have := HNF.out k hk; simp at hm; omega)
    · exact (((HF0.out.mono (T := [g]) (by simp)).trans HF1.out (fun x hx _ => hx)).trans HF2.out (fun x hx hl => by have := HSZ.out; simp at hx; omega)).trans HF9.out (fun x hx hl => by simp at hx; omega)
set_option maxHeartbeats 2000000 in
theorem wirePromise_any (w : World) (F : List Nat) (g : Nat) (s : Ps) (hr : Rs w F g s) : Calls Try.prog 21 #[.pointer (some ⟨g, 0, none⟩)] w fun e w' =>
    ∃ v : Wpr, e = .returned (.agg v.cells.toArray) ∧ v.con = (pW zWpr.con pPr s).1 ∧ (∀ S0 : List Nat, (∀ q ∈ S0, q < w.heap.size) → v.Li w' S0) ∧ Rs w' F g (pW zWpr.con pPr s).2 ∧ Fr [g] w w' := by
  obtain ⟨Z, hZ⟩ : ∃ Z, Z = zWpr.cells := ⟨_, rfl⟩
  have hzl : Z.length = 6 := by rw [hZ]; rfl
  obtain ⟨wa, hwa⟩ : ∃ wa, wa = w.alloc (Obj.cells zWpr.cells.toArray 36) := ⟨_, rfl⟩
  have hf0 : Fr [] w wa := by rw [hwa]; exact (Fr.refl [] w).alloc _
  have HB : Hid (Blk wa w.heap.size 36 Z.toArray) := Lib.hid (by rw [hwa, hZ]; exact Blk.new _ _ _)
  have HR := Lib.hid (hr.fr hf0 (by simp) (by simp))
  have HNF : Hid (∀ k ∈ F, k < w.heap.size) := Lib.hid (fun k hm => hr.lt _ hm)
  have HG : Hid (g < w.heap.size) := Lib.hid hr.gt
  have HF0 := Lib.hid hf0
  have HWA := Lib.hid hwa
  have HZL := Lib.hid hzl
  clear hwa hf0 hr hZ hzl
  go_enter Try.func21, Try.ntmps21
  go_upto_region 1 with (fail)
  change Code.wp _ _ _ _ (w.alloc (Obj.cells zWpr.cells.toArray 36))
  rw [← HWA.out]
  go_wp2_with fail
  refine (wholePromise_any wa F g s HR.out).mono ?_
  rintro e_ w1 ⟨v, rfl, hc, hok, h1, h2⟩
  have HVS : Hid (v.cells.length = 6) := Lib.hid (rfl)
  have HAL : Hid (v.cells.toArray.all (·.oneCell') = true) := Lib.hid (all_oneCell_toArray (Wpr.one _))
  have HC := Lib.hid hc
  have HOK : Hid (∀ W, Fr [w.heap.size] w1 W → ∀ S0 : List Nat, (∀ q ∈ S0, q < w.heap.size) → v.Li W S0) := Lib.hid (fun W hW S0 h0 => (hok (w.heap.size :: S0) (fun q hq => by
    have h3 := HB.out.lt
    rcases List.mem_cons.1 hq with rfl | hq
    · exact h3
    · have := h0 q hq; omega)).keep (hW.mono (fun k hk _ => by simp at hk; simp [hk])) (fun k hk _ => by simp [hk]))
  have HF1 := Lib.hid h2
  have HB1 := Lib.hid (HB.out.keep h2 (by have := HG.out; simp; omega))
  have HR1 := Lib.hid h1
  obtain ⟨V, hV⟩ : ∃ V, V = v.cells := ⟨_, rfl⟩
  rw [← hV] at HVS HAL ⊢
  have HV := Lib.hid hV
  have HVT : Hid ((Try.prog.info? 36).map (·.size) = some V.toArray.size) := Lib.hid (by rw [List.size_toArray, HVS.out]; kernel_rfl)
  clear hc hok h1 h2 hV
  go_wp2_with (first
    | (refine wpList_store_blk rfl 36 _ _ rfl w.heap.size V.toArray rfl rfl 36 Z.toArray HB1.out HVT.out (by rw [List.size_toArray, List.size_toArray, HVS.out, HZL.out]) HAL.out ?_
       intro w9 hb9 hf9
       have HB9 := Lib.hid hb9
       have HF9 := Lib.hid hf9
       clear hb9 hf9))
  refine bodyPost_ret (v := .agg V.toArray) (results_cell_row Try.results21 _ _ w.heap.size 36 V.toArray _ _ rfl HB9.out Try.underlying36 rfl HVT.out) rfl ⟨v, by rw [HV.out], HC.out, fun S0 h0 => HOK.out w9 HF9.out S0 h0, ?_, ?_⟩
  · exact HR1.out.fr HF9.out (by have := HG.out; simp; omega) (fun k hk hm => by have := HNF.out k hk; simp at hm; omega)
  · exact Fr.unbox HF0.out HF1.out HF9.out (Nat.le_refl _)

set_option maxHeartbeats 2000000 in
theorem wholeBatch_any (w : World) (F : List Nat) (g : Nat) (s : Ps) (hr : Rs w F g s) : Calls Try.prog 57 #[.pointer (some ⟨g, 0, none⟩), fnV 58] w fun e w' =>
    ∃ v : Wba, e = .returned (.agg v.cells.toArray) ∧ v.con = (pW zWba.con pBa s).1 ∧ (∀ S0 : List Nat, (∀ q ∈ S0, q < w.heap.size) → v.Li w' S0) ∧ Rs w' F g (pW zWba.con pBa s).2 ∧ Fr [g] w w' := by
  unfold fnV
  obtain ⟨Z, hZ⟩ : ∃ Z, Z = zWba.cells := ⟨_, rfl⟩
  have hzl : Z.length = 5 := by rw [hZ]; rfl
  obtain ⟨wa, hwa⟩ : ∃ wa, wa = w.alloc (Obj.cells zWba.cells.toArray 41) := ⟨_, rfl⟩
  have hf0 : Fr [] w wa := by rw [hwa]; exact (Fr.refl [] w).alloc _
  have HB : Hid (Blk wa w.heap.size 41 Z.toArray) := Lib.hid (by rw [hwa, hZ]; exact Blk.new _ _ _)
  have HR := Lib.hid (hr.fr hf0 (by simp) (by simp))
  have HNF : Hid (∀ k ∈ F, k < w.heap.size) := Lib.hid (fun k hm => hr.lt _ hm)
  have HG : Hid (g < w.heap.size) := Lib.hid hr.gt
  have HF0 := Lib.hid hf0
  have HWA := Lib.hid hwa
  have HZL := Lib.hid hzl
  have HZ1 : Hid (Z.toArray.all (·.oneCell') = true) := Lib.hid (by rw [hZ]; exact all_oneCell_toArray (Wba.one _))
  have HZ := Lib.hid hZ
  clear hwa hf0 hr hZ hzl
  go_enter Try.func57, Try.ntmps57
  go_upto_region 1 with (fail)
  change Code.wp _ _ _ _ (w.alloc (Obj.cells zWba.cells.toArray 41))
  rw [← HWA.out]
  go_wp2_with fail
  refine (getBatch_any wa F g s HR.out).mono ?_
  rintro e_ w1 ⟨v, rfl, hc, hok, h1, h2⟩
  have HVS : Hid (v.cells.length = 5) := Lib.hid (rfl)
  have HAL : Hid (v.cells.toArray.all (·.oneCell') = true) := Lib.hid (all_oneCell_toArray (Wba.one _))
  have HC := Lib.hid hc
  have HOK : Hid (∀ W, Fr [g, w.heap.size] w1 W → ∀ S0 : List Nat, (∀ q ∈ S0, q < w.heap.size) → v.Li W S0) := Lib.hid (fun W hW S0 h0 => (hok (g :: w.heap.size :: S0) (fun q hq => by
    have h3 := HB.out.lt
    have h4 := HG.out
    rcases List.mem_cons.1 hq with rfl | hq
    · omega
    · rcases List.mem_cons.1 hq with rfl | hq
      · exact h3
      · have := h0 q hq; omega)).keep (hW.mono (fun k hk _ => by simp at hk; simp; omega)) (fun k hk _ => by simp [hk]))
  have HF1 := Lib.hid h2
  have HB1 := Lib.hid (HB.out.keep h2 (by have := HG.out; simp; omega))
  have HSZ : Hid (w.heap.size < w1.heap.size) := Lib.hid (by have := HB.out.lt; have := h2.size; omega)
  have HP : Hid (pW zWba.con pBa s = (if (pBa s).2.2 then zWba.con else (pBa s).1, (pBa s).2)) := Lib.hid rfl
  generalize (pBa s).2 = s2 at *
  obtain ⟨R, bad⟩ := s2
  have HR1 := Lib.hid h1
  obtain ⟨V, hV⟩ : ∃ V, V = v.cells := ⟨_, rfl⟩
  rw [← hV] at HVS HAL ⊢
  have HV := Lib.hid hV
  have HVT : Hid ((Try.prog.info? 41).map (·.size) = some V.toArray.size) := Lib.hid (by rw [List.size_toArray, HVS.out]; kernel_rfl)
  have HZT : Hid ((Try.prog.info? 41).map (·.size) = some Z.toArray.size) := Lib.hid (by rw [List.size_toArray, HZL.out]; kernel_rfl)
  have HBN : Hid (Blk (w1.alloc (Obj.cells zWba.cells.toArray 41)) w1.heap.size 41 Z.toArray) := Lib.hid (by rw [HZ.out]; exact Blk.new _ _ _)
  clear hc hok h1 h2 hV
  go_wp2_with (first
    | (refine wpList_store_blk rfl 41 _ _ rfl w1.heap.size V.toArray rfl rfl 41 Z.toArray HBN.out HVT.out (by rw [List.size_toArray, List.size_toArray, HVS.out, HZL.out]) HAL.out ?_
       intro w2 hb2 hf2
       have HB2 := Lib.hid hb2
       have HF2 := Lib.hid ((((Fr.refl [w1.heap.size] w1).alloc _)).trans hf2 (fun x hx _ => hx))
       clear hb2 hf2))
  have HR2 := Lib.hid (HR1.out.fr HF2.out (by have := HG.out; have := HSZ.out; simp; omega) (fun k hk hm => by have := HNF.out k hk; have := HSZ.out; simp at hm; omega))
  have HBW := Lib.hid (HB1.out.keep HF2.out (by have := HSZ.out; simp; omega))
  have HS2 : Hid (w1.heap.size < w2.heap.size) := Lib.hid HB2.out.lt
  go_wp2_with fail
  refine (ok_any w2 g F R bad HR2.out.rd).mono ?_
  rintro e_ w3 ⟨rfl, rfl⟩
  cases bad
  · go_wp2_with (first
      | (refine wpList_row rfl 41 _ rfl _ _ rfl _ HB2.out.range (row_bat.of HVS.out) ?_)
      | (refine wpList_store_blk rfl 41 _ _ rfl w.heap.size V.toArray rfl rfl 41 Z.toArray HBW.out HVT.out (by rw [List.size_toArray, List.size_toArray, HVS.out, HZL.out]) HAL.out ?_
         intro w9 hb9 hf9
         have HB9 := Lib.hid hb9
         have HF9 := Lib.hid hf9
         clear hb9 hf9))
    have hq9 : Fr [g, w.heap.size] w1 w9 := (HF2.out.mono (T := [g, w.heap.size]) (fun x hx hl => by simp at hx; omega)).trans (HF9.out.mono (fun x hx _ => by simp at hx; simp [hx])) (fun x hx _ => hx)
    refine bodyPost_ret (v := .agg V.toArray) (results_cell_row Try.results57 _ _ w.heap.size 41 V.toArray _ _ rfl HB9.out Try.underlying41 rfl HVT.out) rfl ⟨v, by rw [HV.out], ?_, fun S0 h0 => HOK.out w9 hq9 S0 h0, ?_, ?_⟩
    · rw [HP.out, HC.out]; rfl
    · rw [HP.out]; exact HR2.out.fr HF9.out (by have := HG.out; simp; omega) (fun k hk hm => by have := HNF.out k hk; simp at hm; omega)
    · exact (((HF0.out.mono (T := [g]) (by simp)).trans HF1.out (fun x hx _ => hx)).trans HF2.out (fun x hx hl => by have := HSZ.out; simp at hx; omega)).trans HF9.out (fun x hx hl => by simp at hx; omega)
  · have HBM : Hid (Blk (w2.alloc (Obj.cells zWba.cells.toArray 41)) w2.heap.size 41 Z.toArray) := Lib.hid (by rw [HZ.out]; exact Blk.new _ _ _)
    have HBV := Lib.hid (HBW.out.keep ((Fr.refl [] w2).alloc (Obj.cells zWba.cells.toArray 41)) (by simp))
    go_wp2_with (first
      | (refine wpList_row rfl 41 _ rfl _ _ rfl _ HBM.out.range (row_bat.of HZL.out) ?_)
      | (refine wpList_store_blk rfl 41 _ _ rfl w.heap.size Z.toArray rfl rfl 41 Z.toArray HBV.out HZT.out rfl HZ1.out ?_
         intro w9 hb9 hf9
         have HB9 := Lib.hid hb9
         have HF9 := Lib.hid (((Fr.refl [w.heap.size] w2).alloc _).trans hf9 (fun x hx _ => hx))
         clear hb9 hf9))
    refine bodyPost_ret (v := .agg Z.toArray) (results_cell_row Try.results57 _ _ w.heap.size 41 Z.toArray _ _ rfl HB9.out Try.underlying41 rfl HZT.out) rfl ⟨zWba, by rw [HZ.out], ?_, fun S0 h0 => zWba_ok w9 S0, ?_, ?_⟩
    · rw [HP.out]; rfl
    · rw [HP.out]; exact HR2.out.fr HF9.out (by have := HG.out; simp; omega) (fun k hk hm => by have := HNF.out k hk; simp at hm; omega)
    · exact (((HF0.out.mono (T := [g]) (by simp)).trans HF1.out (fun x hx _ => hx)).trans HF2.out (fun x hx hl => by have := HSZ.out; simp at hx; omega)).trans HF9.out (fun x hx hl => by simp at hx; omega)
set_option maxHeartbeats 2000000 in
theorem wireBatch_any (w : World) (F : List Nat) (g : Nat) (s : Ps) (hr : Rs w F g s) : Calls Try.prog 24 #[.pointer (some ⟨g, 0, none⟩)] w fun e w' =>
    ∃ v : Wba, e = .returned (.agg v.cells.toArray) ∧ v.con = (pW zWba.con pBa s).1 ∧ (∀ S0 : List Nat, (∀ q ∈ S0, q < w.heap.size) → v.Li w' S0) ∧ Rs w' F g (pW zWba.con pBa s).2 ∧ Fr [g] w w' := by
  obtain ⟨Z, hZ⟩ : ∃ Z, Z = zWba.cells := ⟨_, rfl⟩
  have hzl : Z.length = 5 := by rw [hZ]; rfl
  obtain ⟨wa, hwa⟩ : ∃ wa, wa = w.alloc (Obj.cells zWba.cells.toArray 41) := ⟨_, rfl⟩
  have hf0 : Fr [] w wa := by rw [hwa]; exact (Fr.refl [] w).alloc _
  have HB : Hid (Blk wa w.heap.size 41 Z.toArray) := Lib.hid (by rw [hwa, hZ]; exact Blk.new _ _ _)
  have HR := Lib.hid (hr.fr hf0 (by simp) (by simp))
  have HNF : Hid (∀ k ∈ F, k < w.heap.size) := Lib.hid (fun k hm => hr.lt _ hm)
  have HG : Hid (g < w.heap.size) := Lib.hid hr.gt
  have HF0 := Lib.hid hf0
  have HWA := Lib.hid hwa
  have HZL := Lib.hid hzl
  clear hwa hf0 hr hZ hzl
  go_enter Try.func24, Try.ntmps24
  go_upto_region 1 with (fail)
  change Code.wp _ _ _ _ (w.alloc (Obj.cells zWba.cells.toArray 41))
  rw [← HWA.out]
  go_wp2_with fail
  refine (wholeBatch_any wa F g s HR.out).mono ?_
  rintro e_ w1 ⟨v, rfl, hc, hok, h1, h2⟩
  have HVS : Hid (v.cells.length = 5) := Lib.hid (rfl)
  have HAL : Hid (v.cells.toArray.all (·.oneCell') = true) := Lib.hid (all_oneCell_toArray (Wba.one _))
  have HC := Lib.hid hc
  have HOK : Hid (∀ W, Fr [w.heap.size] w1 W → ∀ S0 : List Nat, (∀ q ∈ S0, q < w.heap.size) → v.Li W S0) := Lib.hid (fun W hW S0 h0 => (hok (w.heap.size :: S0) (fun q hq => by
    have h3 := HB.out.lt
    rcases List.mem_cons.1 hq with rfl | hq
    · exact h3
    · have := h0 q hq; omega)).keep (hW.mono (fun k hk _ => by simp at hk; simp [hk])) (fun k hk _ => by simp [hk]))
  have HF1 := Lib.hid h2
  have HB1 := Lib.hid (HB.out.keep h2 (by have := HG.out; simp; omega))
  have HR1 := Lib.hid h1
  obtain ⟨V, hV⟩ : ∃ V, V = v.cells := ⟨_, rfl⟩
  rw [← hV] at HVS HAL ⊢
  have HV := Lib.hid hV
  have HVT : Hid ((Try.prog.info? 41).map (·.size) = some V.toArray.size) := Lib.hid (by rw [List.size_toArray, HVS.out]; kernel_rfl)
  clear hc hok h1 h2 hV
  go_wp2_with (first
    | (refine wpList_store_blk rfl 41 _ _ rfl w.heap.size V.toArray rfl rfl 41 Z.toArray HB1.out HVT.out (by rw [List.size_toArray, List.size_toArray, HVS.out, HZL.out]) HAL.out ?_
       intro w9 hb9 hf9
       have HB9 := Lib.hid hb9
       have HF9 := Lib.hid hf9
       clear hb9 hf9))
  refine bodyPost_ret (v := .agg V.toArray) (results_cell_row Try.results24 _ _ w.heap.size 41 V.toArray _ _ rfl HB9.out Try.underlying41 rfl HVT.out) rfl ⟨v, by rw [HV.out], HC.out, fun S0 h0 => HOK.out w9 HF9.out S0 h0, ?_, ?_⟩
  · exact HR1.out.fr HF9.out (by have := HG.out; simp; omega) (fun k hk hm => by have := HNF.out k hk; simp at hm; omega)
  · exact Fr.unbox HF0.out HF1.out HF9.out (Nat.le_refl _)
end Go.Proofs.Ytkofmefnlppoaaa

namespace Go.Proofs.Ytkofmefnlppoaaa
open Go.RowKit
set_option maxRecDepth 100000
theorem exec_eql {P : Program} {ev : Operand → Value} {o : Oper} {w : World} (ty r : TypeId) (x y : Operand) (ho : o.op = .binOp .eql ty x y r) (C D : Array Value) (hx : ev x = .agg C) (hy : ev y = .agg D) (b : Bool)
    (hg : P.eqGuardType P.depth ty = false) (hq : (Op.equalIn 10000 ty (.agg C) (.agg D)).run P w = .ok b w) : (execOp ev o).run P w = .ok (.value (.bool b)) w := by
  have hq' : (Op.equal ty (.agg C) (.agg D)).run P w = .ok b w := hq
  unfold execOp
  simp only [ho, hx, hy]
  simp [eqGuard, binOp, hg, hq', Result.andThen]
theorem eql_at {P : Program} {l : List Oper} {Q : Exit → Act → World → Prop} {md : Region.Mode} {S : World → Prop} {fuel : Nat} {listed : Array Bool} {a : Act} {w : World}
    {i : Nat} {oi : Oper} (hi : nthOp l i = some oi) (ht : takeOk md l.toArray listed i = true) (hw : Region.wanted oi (yielded l.toArray a.tmps) = true)
    (ty r : TypeId) (x y : Operand) (ho : oi.op = .binOp .eql ty x y r) (C D : Array Value) (hx : a.eval x = .agg C) (hy : a.eval y = .agg D) (b : Bool) (hg : P.eqGuardType P.depth ty = false)
    (hq : ∀ w, (Op.equalIn 10000 ty (.agg C) (.agg D)).run P w = .ok b w)
    (hQ : ∀ c a w, Q (.panic c) (a.put oi.dst (.bool b)) w → Q (.panic c) a w) (hS : S w)
    (h : wpAnyH P md l.toArray Q S fuel (listed.setIfInBounds i true) (a.put oi.dst (.bool b)) w) : wpAnyH P md l.toArray Q S (fuel + 1) listed a w :=
  run_at hi ht hw hQ hS (fun _ _ => exec_eql ty r x y ho C D hx hy b hg (hq _)) h
theorem exec_neq {P : Program} {ev : Operand → Value} {o : Oper} {w : World} (ty r : TypeId) (x y : Operand) (ho : o.op = .binOp .neq ty x y r) (C D : Array Value) (hx : ev x = .agg C) (hy : ev y = .agg D) (b : Bool)
    (hg : P.eqGuardType P.depth ty = false) (hq : (Op.equalIn 10000 ty (.agg C) (.agg D)).run P w = .ok b w) : (execOp ev o).run P w = .ok (.value (.bool (!b))) w := by
  have hq' : (Op.equal ty (.agg C) (.agg D)).run P w = .ok b w := hq
  unfold execOp
  simp only [ho, hx, hy]
  simp [eqGuard, binOp, hg, hq', Result.andThen]
theorem neq_at {P : Program} {l : List Oper} {Q : Exit → Act → World → Prop} {md : Region.Mode} {S : World → Prop} {fuel : Nat} {listed : Array Bool} {a : Act} {w : World}
    {i : Nat} {oi : Oper} (hi : nthOp l i = some oi) (ht : takeOk md l.toArray listed i = true) (hw : Region.wanted oi (yielded l.toArray a.tmps) = true)
    (ty r : TypeId) (x y : Operand) (ho : oi.op = .binOp .neq ty x y r) (C D : Array Value) (hx : a.eval x = .agg C) (hy : a.eval y = .agg D) (b : Bool) (hg : P.eqGuardType P.depth ty = false)
    (hq : ∀ w, (Op.equalIn 10000 ty (.agg C) (.agg D)).run P w = .ok b w)
    (hQ : ∀ c a w, Q (.panic c) (a.put oi.dst (.bool (!b))) w → Q (.panic c) a w) (hS : S w)
    (h : wpAnyH P md l.toArray Q S fuel (listed.setIfInBounds i true) (a.put oi.dst (.bool (!b))) w) : wpAnyH P md l.toArray Q S (fuel + 1) listed a w :=
  run_at hi ht hw hQ hS (fun _ _ => exec_neq ty r x y ho C D hx hy b hg (hq _)) h
end Go.Proofs.Ytkofmefnlppoaaa

namespace Go.Proofs.Ytkofmefnlppoaaa
open Go.RowKit
set_option maxRecDepth 100000

theorem eqFields_bool {P : Program} {d : Nat} {xs ys : Array Value} {f : Field} {fs : List Field} {u v : Value} {b : Bool} {w : World} (hn : f.name ≠ "_") (p : (part f.type xs f.offset).run P w = .ok u w) (p' : (part f.type ys f.offset).run P w = .ok v w)
    (q : (Op.equalIn d f.type u v).run P w = .ok b w) : (Op.eqFields d xs ys (f :: fs)).run P w = if b then (Op.eqFields d xs ys fs).run P w else .ok false w := by
  rw [Op.eqFields, if_pos hn]
  simp only [Sem.run_bind, p, p', Result.andThen_ok, q]
  cases b <;> simp
def FieldsEq (P : Program) (w : World) (d : Nat) (C D : Array Value) : List (TypeId × Nat) → List Bool → Prop
  | [], [] => True
  | (t, o) :: fs, b :: bs => (∃ u v, (part t C o).run P w = .ok u w ∧ (part t D o).run P w = .ok v w ∧ (Op.equalIn d t u v).run P w = .ok b w) ∧ FieldsEq P w d C D fs bs
  | _, _ => False
theorem eqFields_all {P : Program} {w : World} {d : Nat} {C D : Array Value} : ∀ (fs : List Field) (l : List (TypeId × Nat)) (bs : List Bool), fs.map (fun f => (f.type, f.offset, f.name == "_")) = l.map (fun x => (x.1, x.2, false)) →
    FieldsEq P w d C D l bs → (Op.eqFields d C D fs).run P w = .ok (bs.all id) w
  | [], [], [], _, _ => rfl
  | [], [], _ :: _, _, h => h.elim
  | [], _ :: _, _, h, _ => by simp at h
  | _ :: _, [], _, h, _ => by simp at h
  | _ :: _, _ :: _, [], _, h => h.elim
  | f :: fs, (t, o) :: l, b :: bs, h, hb => by
    simp only [List.map_cons, List.cons.injEq, Prod.mk.injEq, beq_eq_false_iff_ne] at h
    obtain ⟨⟨rfl, rfl, hn⟩, h⟩ := h
    obtain ⟨⟨u, v, p, p', q⟩, hr⟩ := hb
    rw [eqFields_bool hn p p' q, eqFields_all fs l bs h hr]
    cases b <;> simp
theorem part_rowx (ty : TypeId) (n off : Nat) (xs ys zs : List Value) (h : RowTy Try.prog ty n) (hx : xs.length = off) (hy : ys.length = n) (w : World) : (part ty (xs ++ (ys ++ zs)).toArray off).run Try.prog w = .ok (.agg ys.toArray) w := by
  obtain ⟨h1, h2⟩ := h
  cases hu : Try.prog.underlying ty with
  | none => rw [hu] at h1; cases h1
  | some d =>
    rw [hu] at h1
    cases hi : Try.prog.info? ty with
    | none => rw [hi] at h2; cases h2
    | some i =>
      have hs : i.size = n := by simpa [hi] using h2
      have hagg : (isAgg ty).run Try.prog w = .ok true w := by
        unfold isAgg
        rw [Sem.run_bind, run_underlying hu w]
        cases d <;> simp_all
      unfold part
      simp [hagg, sizeOf, typeInfo, hi, hs]
      subst hx
      subst hy
      simp
theorem eql_hash (a b : List UInt8) (ha : a.length = 32) (hb : b.length = 32) (d : Nat) (w : World) : (Op.equalIn (d + 2) 25 (.agg (a.map by8).toArray) (.agg (b.map by8).toArray)).run Try.prog w = .ok (decide (a = b)) w := by
  have h := run_equalIn_bytes (P := Try.prog) w d 25 5 32 Try.underlying25 Try.underlying5 u8_size1 a b ha hb
  rw [show decide (a = b) = (a == b) by rw [Bool.eq_iff_iff]; simp]
  exact h
theorem eql_int (y z : Int) (d : Nat) (w : World) : (Op.equalIn (d + 1) 3 (.int .i64 y) (.int .i64 z)).run Try.prog w = .ok (decide (y = z)) w := by
  have h := run_equalIn_int (P := Try.prog) w d 3 .i64 .i64 y z Try.underlying3
  rw [show decide (y = z) = (y == z) by rw [Bool.eq_iff_iff]; simp]
  exact h
theorem eql_u64 (y z : Int) (d : Nat) (w : World) : (Op.equalIn (d + 1) 33 (.int .u64 y) (.int .u64 z)).run Try.prog w = .ok (decide (y = z)) w := by
  have h := run_equalIn_int (P := Try.prog) w d 33 .u64 .u64 y z Try.underlying33
  rw [show decide (y = z) = (y == z) by rw [Bool.eq_iff_iff]; simp]
  exact h
theorem part_int (off : Nat) (cs : Array Value) (v : Value) (hv : cs[off]? = some v) (w : World) : (part 3 cs off).run Try.prog w = .ok v w := run_part_plain w (by kernel_rfl) hv
theorem part_u64 (off : Nat) (cs : Array Value) (v : Value) (hv : cs[off]? = some v) (w : World) : (part 33 cs off).run Try.prog w = .ok v w := run_part_plain w (by kernel_rfl) hv
theorem eql_of {ty : TypeId} {d : Nat} {C D : Array Value} {w : World} {l : List (TypeId × Nat)} {bs : List Bool} (e : (Op.equalIn (d + 1) ty (.agg C) (.agg D)).run Try.prog w = (Op.eqFields d C D (Try.prog.fieldsOf ty).toList).run Try.prog w)
    (hfs : (Try.prog.fieldsOf ty).toList.map (fun f => (f.type, f.offset, f.name == "_")) = l.map (fun x => (x.1, x.2, false))) (hb : FieldsEq Try.prog w d C D l bs) : (Op.equalIn (d + 1) ty (.agg C) (.agg D)).run Try.prog w = .ok (bs.all id) w := by
  rw [e]
  exact eqFields_all _ l bs hfs hb
theorem eql_name (a b a' b' : Int) (d : Nat) (w : World) : (Op.equalIn (d + 2) 23 (.agg #[.int .i64 a, .int .i64 b]) (.agg #[.int .i64 a', .int .i64 b'])).run Try.prog w = .ok (decide (a = a') && decide (b = b')) w := by
  have h := eql_of (l := [(3, 0), (3, 1)]) (run_equalIn_struct w (d + 1) 23 #[.int .i64 a, .int .i64 b] #[.int .i64 a', .int .i64 b'] (by kernel_rfl) (by kernel_rfl)) (by kernel_rfl)
    (bs := [decide (a = a'), decide (b = b')]) ⟨⟨_, _, part_int 0 _ _ rfl w, part_int 0 _ _ rfl w, eql_int a a' d w⟩, ⟨_, _, part_int 1 _ _ rfl w, part_int 1 _ _ rfl w, eql_int b b' d w⟩, trivial⟩
  rw [h]
  simp
theorem eql_sig (a b a' b' : Int) (d : Nat) (w : World) : (Op.equalIn (d + 2) 27 (.agg #[.int .i64 a, .int .i64 b]) (.agg #[.int .i64 a', .int .i64 b'])).run Try.prog w = .ok (decide (a = a') && decide (b = b')) w := by
  have h := eql_of (l := [(3, 0), (3, 1)]) (run_equalIn_struct w (d + 1) 27 #[.int .i64 a, .int .i64 b] #[.int .i64 a', .int .i64 b'] (by kernel_rfl) (by kernel_rfl)) (by kernel_rfl)
    (bs := [decide (a = a'), decide (b = b')]) ⟨⟨_, _, part_int 0 _ _ rfl w, part_int 0 _ _ rfl w, eql_int a a' d w⟩, ⟨_, _, part_int 1 _ _ rfl w, part_int 1 _ _ rfl w, eql_int b b' d w⟩, trivial⟩
  rw [h]
  simp
def Wst.eqB (x y : Wst) : Bool := [decide (x.r = y.r), (decide (x.c = y.c) && decide (x.s = y.s)), decide (x.h = y.h), decide ((x.t : Int) = (y.t : Int)), (decide (x.b = y.b) && decide (x.m = y.m))].all id
theorem Wst.eqB_iff (x y : Wst) : x.eqB y = true ↔ x = y := by
  obtain ⟨_, _, _, _, _, _, _⟩ := x
  obtain ⟨_, _, _, _, _, _, _⟩ := y
  simp [Wst.eqB, Wst.mk.injEq, and_assoc]
  (try omega)
set_option maxHeartbeats 1000000 in
theorem eql_Wst (x y : Wst) (hx : x.h.length = 32) (hy : y.h.length = 32) (w : World) : (Op.equalIn 10000 71 (.agg x.cells.toArray) (.agg y.cells.toArray)).run Try.prog w = .ok (x.eqB y) w :=
  eql_of (d := 9999) (C := x.cells.toArray) (D := y.cells.toArray) (l := [(3, 0), (23, 1), (25, 3), (33, 35), (27, 36)]) (run_equalIn_struct w 9999 71 x.cells.toArray y.cells.toArray (by kernel_rfl) (by kernel_rfl)) (by kernel_rfl)
    (bs := [decide (x.r = y.r), (decide (x.c = y.c) && decide (x.s = y.s)), decide (x.h = y.h), decide ((x.t : Int) = (y.t : Int)), (decide (x.b = y.b) && decide (x.m = y.m))])
    ⟨⟨_, _, part_int 0 _ _ (show x.cells.toArray[0]? = some (.int .i64 x.r) from rfl) w, part_int 0 _ _ (show y.cells.toArray[0]? = some (.int .i64 y.r) from rfl) w, eql_int _ _ 9998 w⟩,
      ⟨_, _, (part_rowx 23 2 1 [.int .i64 x.r] [.int .i64 x.c, .int .i64 x.s] ([] ++ (x.h.map by8 ++ [.int .u64 (x.t : Int), .int .i64 x.b, .int .i64 x.m])) row_name rfl rfl w), (part_rowx 23 2 1 [.int .i64 y.r] [.int .i64 y.c, .int .i64 y.s] ([] ++ (y.h.map by8 ++ [.int .u64 (y.t : Int), .int .i64 y.b, .int .i64 y.m])) row_name rfl rfl w), eql_name _ _ _ _ 9997 w⟩,
      ⟨_, _, (part_rowx 25 32 3 [.int .i64 x.r, .int .i64 x.c, .int .i64 x.s] (x.h.map by8) [.int .u64 (x.t : Int), .int .i64 x.b, .int .i64 x.m] row_hash rfl (by rw [List.length_map]; exact hx) w), (part_rowx 25 32 3 [.int .i64 y.r, .int .i64 y.c, .int .i64 y.s] (y.h.map by8) [.int .u64 (y.t : Int), .int .i64 y.b, .int .i64 y.m] row_hash rfl (by rw [List.length_map]; exact hy) w), eql_hash x.h y.h hx hy 9997 w⟩,
      ⟨_, _, part_u64 35 _ _ (show x.cells.toArray[35]? = some (.int .u64 (x.t : Int)) by rw [List.getElem?_toArray]; exact post_cell [.int .i64 x.r, .int .i64 x.c, .int .i64 x.s] (x.h.map by8) [.int .u64 (x.t : Int), .int .i64 x.b, .int .i64 x.m] (by rw [List.length_map]; exact hx) 0 rfl) w, part_u64 35 _ _ (show y.cells.toArray[35]? = some (.int .u64 (y.t : Int)) by rw [List.getElem?_toArray]; exact post_cell [.int .i64 y.r, .int .i64 y.c, .int .i64 y.s] (y.h.map by8) [.int .u64 (y.t : Int), .int .i64 y.b, .int .i64 y.m] (by rw [List.length_map]; exact hy) 0 rfl) w, eql_u64 _ _ 9998 w⟩,
      ⟨_, _, (show (part 27 x.cells.toArray 36).run Try.prog w = .ok (.agg [.int .i64 x.b, .int .i64 x.m].toArray) w by rw [show x.cells = ([.int .i64 x.r, .int .i64 x.c, .int .i64 x.s] ++ (x.h.map by8 ++ [.int .u64 (x.t : Int)])) ++ ([.int .i64 x.b, .int .i64 x.m] ++ []) by simp [Wst.cells]]; exact part_rowx 27 2 36 _ _ _ row_sig (by simp [hx]) rfl w), (show (part 27 y.cells.toArray 36).run Try.prog w = .ok (.agg [.int .i64 y.b, .int .i64 y.m].toArray) w by rw [show y.cells = ([.int .i64 y.r, .int .i64 y.c, .int .i64 y.s] ++ (y.h.map by8 ++ [.int .u64 (y.t : Int)])) ++ ([.int .i64 y.b, .int .i64 y.m] ++ []) by simp [Wst.cells]]; exact part_rowx 27 2 36 _ _ _ row_sig (by simp [hy]) rfl w), eql_sig _ _ _ _ 9997 w⟩, trivial⟩
def Wvt.eqB (x y : Wvt) : Bool := [decide (x.k = y.k), decide (x.e = y.e), decide (x.r = y.r), decide (x.p = y.p), decide (x.h = y.h), (decide (x.b = y.b) && decide (x.m = y.m))].all id
theorem Wvt.eqB_iff (x y : Wvt) : x.eqB y = true ↔ x = y := by
  obtain ⟨_, _, _, _, _, _, _⟩ := x
  obtain ⟨_, _, _, _, _, _, _⟩ := y
  simp [Wvt.eqB, Wvt.mk.injEq, and_assoc]
  (try omega)
set_option maxHeartbeats 1000000 in
theorem eql_Wvt (x y : Wvt) (hx : x.h.length = 32) (hy : y.h.length = 32) (w : World) : (Op.equalIn 10000 77 (.agg x.cells.toArray) (.agg y.cells.toArray)).run Try.prog w = .ok (x.eqB y) w :=
  eql_of (d := 9999) (C := x.cells.toArray) (D := y.cells.toArray) (l := [(3, 0), (3, 1), (3, 2), (3, 3), (25, 4), (27, 36)]) (run_equalIn_struct w 9999 77 x.cells.toArray y.cells.toArray (by kernel_rfl) (by kernel_rfl)) (by kernel_rfl)
    (bs := [decide (x.k = y.k), decide (x.e = y.e), decide (x.r = y.r), decide (x.p = y.p), decide (x.h = y.h), (decide (x.b = y.b) && decide (x.m = y.m))])
    ⟨⟨_, _, part_int 0 _ _ (show x.cells.toArray[0]? = some (.int .i64 x.k) from rfl) w, part_int 0 _ _ (show y.cells.toArray[0]? = some (.int .i64 y.k) from rfl) w, eql_int _ _ 9998 w⟩,
      ⟨_, _, part_int 1 _ _ (show x.cells.toArray[1]? = some (.int .i64 x.e) from rfl) w, part_int 1 _ _ (show y.cells.toArray[1]? = some (.int .i64 y.e) from rfl) w, eql_int _ _ 9998 w⟩,
      ⟨_, _, part_int 2 _ _ (show x.cells.toArray[2]? = some (.int .i64 x.r) from rfl) w, part_int 2 _ _ (show y.cells.toArray[2]? = some (.int .i64 y.r) from rfl) w, eql_int _ _ 9998 w⟩,
      ⟨_, _, part_int 3 _ _ (show x.cells.toArray[3]? = some (.int .i64 x.p) from rfl) w, part_int 3 _ _ (show y.cells.toArray[3]? = some (.int .i64 y.p) from rfl) w, eql_int _ _ 9998 w⟩,
      ⟨_, _, (part_rowx 25 32 4 [.int .i64 x.k, .int .i64 x.e, .int .i64 x.r, .int .i64 x.p] (x.h.map by8) [.int .i64 x.b, .int .i64 x.m] row_hash rfl (by rw [List.length_map]; exact hx) w), (part_rowx 25 32 4 [.int .i64 y.k, .int .i64 y.e, .int .i64 y.r, .int .i64 y.p] (y.h.map by8) [.int .i64 y.b, .int .i64 y.m] row_hash rfl (by rw [List.length_map]; exact hy) w), eql_hash x.h y.h hx hy 9997 w⟩,
      ⟨_, _, (show (part 27 x.cells.toArray 36).run Try.prog w = .ok (.agg [.int .i64 x.b, .int .i64 x.m].toArray) w by rw [show x.cells = ([.int .i64 x.k, .int .i64 x.e, .int .i64 x.r, .int .i64 x.p] ++ (x.h.map by8 ++ [])) ++ ([.int .i64 x.b, .int .i64 x.m] ++ []) by simp [Wvt.cells]]; exact part_rowx 27 2 36 _ _ _ row_sig (by simp [hx]) rfl w), (show (part 27 y.cells.toArray 36).run Try.prog w = .ok (.agg [.int .i64 y.b, .int .i64 y.m].toArray) w by rw [show y.cells = ([.int .i64 y.k, .int .i64 y.e, .int .i64 y.r, .int .i64 y.p] ++ (y.h.map by8 ++ [])) ++ ([.int .i64 y.b, .int .i64 y.m] ++ []) by simp [Wvt.cells]]; exact part_rowx 27 2 36 _ _ _ row_sig (by simp [hy]) rfl w), eql_sig _ _ _ _ 9997 w⟩, trivial⟩
def Wdn.eqB (x y : Wdn) : Bool := [decide (x.r = y.r), decide (x.i = y.i), (decide (x.b = y.b) && decide (x.m = y.m))].all id
theorem Wdn.eqB_iff (x y : Wdn) : x.eqB y = true ↔ x = y := by
  obtain ⟨_, _, _, _⟩ := x
  obtain ⟨_, _, _, _⟩ := y
  simp [Wdn.eqB, Wdn.mk.injEq, and_assoc]
  (try omega)
set_option maxHeartbeats 1000000 in
theorem eql_Wdn (x y : Wdn) (w : World) : (Op.equalIn 10000 83 (.agg x.cells.toArray) (.agg y.cells.toArray)).run Try.prog w = .ok (x.eqB y) w :=
  eql_of (d := 9999) (C := x.cells.toArray) (D := y.cells.toArray) (l := [(3, 0), (3, 1), (27, 2)]) (run_equalIn_struct w 9999 83 x.cells.toArray y.cells.toArray (by kernel_rfl) (by kernel_rfl)) (by kernel_rfl)
    (bs := [decide (x.r = y.r), decide (x.i = y.i), (decide (x.b = y.b) && decide (x.m = y.m))])
    ⟨⟨_, _, part_int 0 _ _ (show x.cells.toArray[0]? = some (.int .i64 x.r) from rfl) w, part_int 0 _ _ (show y.cells.toArray[0]? = some (.int .i64 y.r) from rfl) w, eql_int _ _ 9998 w⟩,
      ⟨_, _, part_int 1 _ _ (show x.cells.toArray[1]? = some (.int .i64 x.i) from rfl) w, part_int 1 _ _ (show y.cells.toArray[1]? = some (.int .i64 y.i) from rfl) w, eql_int _ _ 9998 w⟩,
      ⟨_, _, (part_rowx 27 2 2 [.int .i64 x.r, .int .i64 x.i] [.int .i64 x.b, .int .i64 x.m] [] row_sig rfl rfl w), (part_rowx 27 2 2 [.int .i64 y.r, .int .i64 y.i] [.int .i64 y.b, .int .i64 y.m] [] row_sig rfl rfl w), eql_sig _ _ _ _ 9997 w⟩, trivial⟩
end Go.Proofs.Ytkofmefnlppoaaa

namespace Go.Proofs.Ytkofmefnlppoaaa
open Go.RowKit
set_option maxRecDepth 100000
theorem add_off (g o j : Nat) : (⟨g, o, none⟩ : Addr).add j = ⟨g, o + j, none⟩ := by unfold Addr.add; split <;> simp_all
theorem wpList_eqlg {P : Program} {ops : Array Oper} {rest : List Oper} {op : Oper} {a : Act} {w : World} {Q : Exit → Act → World → Prop} (hw : Region.wanted op (yielded ops a.tmps) = true) (ty r : TypeId) (x y : Operand) (ho : op.op = .binOp .eql ty x y r) (C D : Array Value) (hx : a.eval x = .agg C) (hy : a.eval y = .agg D) (b : Bool)
    (hg : P.eqGuardType P.depth ty = false) (hq : (Op.equalIn 10000 ty (.agg C) (.agg D)).run P w = .ok b w) (h : wpList P ops Q rest (a.put op.dst (.bool b)) w) : wpList P ops Q (op :: rest) a w :=
  BigFrame.wpList_want hw fun _ hK => wp_run (exec_eql ty r x y ho C D hx hy b hg hq) (hK _ _ h)
theorem wpList_midg {P : Program} {ops : Array Oper} {rest : List Oper} {op : Oper} {a : Act} {w : World} {Q : Exit → Act → World → Prop} (hw : Region.wanted op (yielded ops a.tmps) = true) (ty : TypeId) (x : Operand) (ho : op.op = .load ty x)
    (b o : Nat) (hx : a.eval x = .pointer (some ⟨b, o, none⟩)) (cs : List Value) (hc : w.rangeAt b o cs) (hr : RowTy P ty cs.length) (h : wpList P ops Q rest (a.put op.dst (.agg cs.toArray)) w) : wpList P ops Q (op :: rest) a w :=
  wpList_cells hw ty x ho ⟨b, o, none⟩ hx cs (fun j v hv => by rw [add_off]; exact hc j v hv) hr h
section
variable {P : Program} {l : List Oper} {Q : Exit → Act → World → Prop} {md : Region.Mode} {S : World → Prop} {fuel : Nat} {listed : Array Bool} {a : Act} {w : World}
theorem crow_at {i : Nat} {oi : Oper} (hi : nthOp l i = some oi) (ht : takeOk md l.toArray listed i = true) (hw : Region.wanted oi (yielded l.toArray a.tmps) = true)
    (ty : TypeId) (x : Operand) (ho : oi.op = .load ty x) (ad : Addr) (hx : a.eval x = .pointer (some ad)) (cs : List Value) (hc : ∀ w1, S w1 → ∀ j v, cs[j]? = some v → w1.cell? (ad.add j) = some v) (hr : RowTy P ty cs.length)
    (hQ : ∀ c a w, Q (.panic c) (a.put oi.dst (.agg cs.toArray)) w → Q (.panic c) a w) (hS : S w)
    (h : wpAnyH P md l.toArray Q S fuel (listed.setIfInBounds i true) (a.put oi.dst (.agg cs.toArray)) w) : wpAnyH P md l.toArray Q S (fuel + 1) listed a w :=
  take_at hi ht hQ (.inl ⟨hw, fun w1 h1 => exec_cells ty x ho ad hx cs hr (hc w1 h1)⟩) hS h
end
theorem row_hs : RowTy Try.prog 25 32 := ⟨by kernel_rfl, by kernel_rfl⟩
theorem row_opS : RowTy Try.prog 81 34 := ⟨by kernel_rfl, by kernel_rfl⟩
theorem row_dnS : RowTy Try.prog 83 4 := ⟨by kernel_rfl, by kernel_rfl⟩

theorem fld_add (ad : Addr) (m j : Nat) : (ad.add m).add (j + 1) = ⟨(ad.add m).block, (ad.add m).off + (j + 1), none⟩ := rfl

set_option maxHeartbeats 2000000 in
theorem opening_self (x : Wop) (w : World) (hx : x.Ok w []) (C : List Value) (hC : x.cells = C) :
    Calls Try.prog 67 #[.agg C.toArray, .agg C.toArray] w fun e w' => e = .returned (.bool true) ∧ Fr [] w w' := by
  obtain ⟨wa, hwa⟩ : ∃ wa, wa = (w.alloc (Obj.cells C.toArray 81)).alloc (Obj.cells C.toArray 81) := ⟨_, rfl⟩
  have hf0 : Fr [] w wa := by rw [hwa]; exact ((Fr.refl [] w).alloc _).alloc _
  have hb0 : Blk wa w.heap.size 81 x.cells.toArray := by rw [hwa, hC]; exact blk_alloc (Blk.new _ _ _)
  have hb1 : Blk wa (w.heap.size + 1) 81 x.cells.toArray := by
    have := Blk.new (w.alloc (Obj.cells C.toArray 81)) 81 C.toArray
    rw [hwa, hC]
    simpa using this
  have hr0 := hb0.range
  have hr1 := hb1.range
  have h00 : wa.cell? ⟨w.heap.size, 0, none⟩ = some (.int .i64 x.i) := by have h := hr0 0 _ rfl; simpa using h
  have h10 : wa.cell? ⟨w.heap.size + 1, 0, none⟩ = some (.int .i64 x.i) := by have h := hr1 0 _ rfl; simpa using h
  have h01 : wa.cell? ⟨w.heap.size, 1, none⟩ = some (.slice x.A x.n x.d) := by have h := hr0 1 _ rfl; simpa using h
  have h11 : wa.cell? ⟨w.heap.size + 1, 1, none⟩ = some (.slice x.A x.n x.d) := by have h := hr1 1 _ rfl; simpa using h
  have HH0 : Hid (wa.rangeAt w.heap.size 2 (x.h.map by8)) := Lib.hid (rangeAt_sub (o := 0) (xs := [.int .i64 x.i, .slice x.A x.n x.d]) (ys := x.h.map by8) (zs := []) hr0)
  have HH1 : Hid (wa.rangeAt (w.heap.size + 1) 2 (x.h.map by8)) := Lib.hid (rangeAt_sub (o := 0) (xs := [.int .i64 x.i, .slice x.A x.n x.d]) (ys := x.h.map by8) (zs := []) hr1)
  have HHL : Hid ((x.h.map by8).length = 32) := Lib.hid (by rw [List.length_map]; exact hx.h)
  have HEQ : Hid ((Op.equalIn 10000 25 (.agg (x.h.map by8).toArray) (.agg (x.h.map by8).toArray)).run Try.prog wa = .ok true wa) := Lib.hid (by
    have h := eql_hash x.h x.h hx.h hx.h 9998 wa
    simpa using h)
  have HF0 := Lib.hid hf0
  have HWA := Lib.hid hwa
  have HX := Lib.hid hx
  have hii : (x.i == x.i) = true := by simp
  clear hwa hf0 hb0 hb1 hr0 hr1 hx hC
  generalize hHV : x.h.map by8 = HV at *
  clear hHV
  go_enter Try.func67, Try.ntmps67
  go_upto_region 1 with (fail)
  change Code.wp _ _ _ _ ((w.alloc (Obj.cells C.toArray 81)).alloc (Obj.cells C.toArray 81))
  rw [← HWA.out]
  go_wp2_with (first
    | (refine wpList_midg rfl 25 _ rfl w.heap.size 2 rfl HV HH0.out (row_hs.of HHL.out) ?_)
    | (refine wpList_midg rfl 25 _ rfl (w.heap.size + 1) 2 rfl HV HH1.out (row_hs.of HHL.out) ?_)
    | (refine wpList_eqlg rfl 25 _ _ _ rfl HV.toArray HV.toArray rfl rfl true (by kernel_rfl) HEQ.out ?_))
  refine (same_any x.A x.A x.n x.n x.d x.d x.p x.p wa (HX.out.p.keep HF0.out (by simp)) (HX.out.p.keep HF0.out (by simp)) (by have := HX.out.n; omega)).mono ?_
  rintro e w1 ⟨rfl, k1, hw1⟩
  simp only [decide_true]
  have HF1 : Hid (Fr [] w w1) := Lib.hid (by rw [hw1]; exact HF0.out.drewN _)
  clear hw1 h00 h10 h01 h11 hii
  go_wp2
  go_ret
  exact ⟨rfl, HF1.out⟩

set_option maxHeartbeats 4000000 in
theorem openings_self (A : Option Addr) (n d : Nat) (l : List Wop) (w : World) (hl : Lst 34 Wop.cells (fun w v => v.Ok w []) w A n l) (hn : n ≤ 1000) :
    Calls Try.prog 55 #[.slice A n d, .slice A n d] w fun e w' => e = .returned (.bool true) ∧ Fr [] w w' := by
  have HL := Lib.hid hl
  have HN := Lib.hid hn
  have hn1 : (n : Int) ≤ 9223372036854775807 := by omega
  have hnn : ((n : Int) != (n : Int)) = false := by simp
  clear hl hn
  go_enter Try.func55, Try.ntmps55
  go_wp2_with fail
  clear hnn
  go_loopw [13] (fun i wr => ∃ j : Nat, j ≤ n ∧ i = .int .i64 j ∧ Hid (Fr [] w wr)) (fun i _ => n - (intOf i).toNat)
  case atStart => exact ⟨0, by omega, rfl, Lib.hid (Fr.refl _ _)⟩
  case round =>
    obtain ⟨j, hj, rfl, HF⟩ := hrel
    by_cases hlt : j < n
    · obtain ⟨ad, v, hA, hv, hcl, hok, hcells⟩ := HL.out.at (i := j) hlt
      subst hA
      have HCELLS : Hid (∀ i u, (Wop.cells v)[i]? = some u → wr.cell? ((ad.add (j * 34)).add i) = some u) := Lib.hid (fun i u hu => HF.out.cell (hcells i u hu) (by simp))
      have HCL := Lib.hid hcl
      have HOK := Lib.hid hok
      have HJN := Lib.hid hlt
      have hj0 : (0 : Int) ≤ j := by omega
      clear hcells hcl hok hv
      go_upto_region 6 with (fail)
      refine wp_region_held_drew (S := Fr [] wr) (by kernel_rfl) (Fr.drew (Fr.refl _ wr)) (fun hHeld => ?_)
      generalize wr.drew = wd at *
      refine run_at (i := 0) (v := ?_) rfl (by kernel_rfl) (by rfl) (fun _ _ _ h => h) hHeld (fun w1 hw1 => ?_) ?_
      rotate_left 1
      · skip
        go_simp
        (try (first | with_reducible rfl | (apply And.intro <;> rfl)))
      simp only [Act.put, List.setIfInBounds_toArray, List.set_cons_zero, List.set_cons_succ]
      refine run_at (i := 1) (v := ?_) rfl (by kernel_rfl) (by rfl) (fun _ _ _ h => h) hHeld (fun w1 hw1 => ?_) ?_
      rotate_left 1
      · skip
        go_simp
        (try (first | with_reducible rfl | (apply And.intro <;> rfl)))
      simp only [Act.put, List.setIfInBounds_toArray, List.set_cons_zero, List.set_cons_succ]
      refine run_at (i := 2) (v := ?_) rfl (by kernel_rfl) (by rfl) (fun _ _ _ h => h) hHeld (fun w1 hw1 => ?_) ?_
      rotate_left 1
      · skip
        go_simp
        (try (first | with_reducible rfl | (apply And.intro <;> rfl)))
      simp only [Act.put, List.setIfInBounds_toArray, List.set_cons_zero, List.set_cons_succ]
      refine crow_at (i := 3) rfl (by kernel_rfl) (by rfl) _ _ rfl _ rfl _ (fun w1 hw1 j v hv => hw1.cell ((HCELLS.out) j v hv) (by simp)) (row_opS.of HCL.out) (fun _ _ _ h => h) hHeld ?_
      simp only [Act.put, List.setIfInBounds_toArray, List.set_cons_zero, List.set_cons_succ]
      refine run_at (i := 4) (v := ?_) rfl (by kernel_rfl) (by rfl) (fun _ _ _ h => h) hHeld (fun w1 hw1 => ?_) ?_
      rotate_left 1
      · skip
        go_simp
        (try (first | with_reducible rfl | (apply And.intro <;> rfl)))
      simp only [Act.put, List.setIfInBounds_toArray, List.set_cons_zero, List.set_cons_succ]
      refine run_at (i := 5) (v := ?_) rfl (by kernel_rfl) (by rfl) (fun _ _ _ h => h) hHeld (fun w1 hw1 => ?_) ?_
      rotate_left 1
      · skip
        go_simp
        (try (first | with_reducible rfl | (apply And.intro <;> rfl)))
      simp only [Act.put, List.setIfInBounds_toArray, List.set_cons_zero, List.set_cons_succ]
      refine run_at (i := 6) (v := ?_) rfl (by kernel_rfl) (by rfl) (fun _ _ _ h => h) hHeld (fun w1 hw1 => ?_) ?_
      rotate_left 1
      · skip
        go_simp
        (try (first | with_reducible rfl | (apply And.intro <;> rfl)))
      simp only [Act.put, List.setIfInBounds_toArray, List.set_cons_zero, List.set_cons_succ]
      refine crow_at (i := 7) rfl (by kernel_rfl) (by rfl) _ _ rfl _ rfl _ (fun w1 hw1 j v hv => hw1.cell ((HCELLS.out) j v hv) (by simp)) (row_opS.of HCL.out) (fun _ _ _ h => h) hHeld ?_
      simp only [Act.put, List.setIfInBounds_toArray, List.set_cons_zero, List.set_cons_succ]
      refine call_at (i := 8) (f := ?_) (args := ?_) rfl (by kernel_rfl) (by rfl) ?_ ?_
      rotate_left 2
      · go_simp
        (try (first | with_reducible rfl | (apply And.intro <;> rfl)))
      refine (opening_self v wd ((HOK.out.keep HF.out (by simp)).keep hHeld (by simp)) _ rfl).mono ?_
      rintro e_ w9 ⟨rfl, hf⟩
      refine ⟨_, rfl, hHeld.and hf (by simp), fun hHeld => ?_⟩
      clear hf
      simp only [Act.put, List.setIfInBounds_toArray, List.set_cons_zero, List.set_cons_succ]
      refine run_at (i := 9) (v := ?_) rfl (by kernel_rfl) (by rfl) (fun _ _ _ h => h) hHeld (fun w1 hw1 => ?_) ?_
      rotate_left 1
      · skip
        go_simp
        (try (first | with_reducible rfl | (apply And.intro <;> rfl)))
      simp only [Act.put, List.setIfInBounds_toArray, List.set_cons_zero, List.set_cons_succ]
      refine wpAnyH_done (by kernel_rfl) ?_ _
      have HF9 : Hid (Fr [] w w9) := Lib.hid (HF.out.and hHeld (by simp))
      clear hHeld HCELLS HCL
      clear HOK
      go_wp2
      go_roundw
      case rel => exact ⟨j + 1, by have := HJN.out; omega, by go_num, HF9⟩
      case measure => have := HJN.out; simp [intOf]; omega
    · have hjn : n = j := by omega
      subst hjn
      clear hlt hj
      go_wp2
      go_ret
      exact ⟨rfl, HF.out⟩

set_option maxHeartbeats 4000000 in
theorem denies_self (A : Option Addr) (n d : Nat) (l : List Wdn) (w : World) (hl : Lst 4 Wdn.cells (fun _ v => v.Ok) w A n l) (hn : n ≤ 1000) :
    Calls Try.prog 87 #[.slice A n d, .slice A n d] w fun e w' => e = .returned (.bool true) ∧ Fr [] w w' := by
  have HL := Lib.hid hl
  have HN := Lib.hid hn
  have hn1 : (n : Int) ≤ 9223372036854775807 := by omega
  have hnn : ((n : Int) != (n : Int)) = false := by simp
  clear hl hn
  go_enter Try.func87, Try.ntmps87
  go_wp2_with fail
  clear hnn
  go_loopw [5] (fun i wr => ∃ j : Nat, j ≤ n ∧ i = .int .i64 j ∧ Hid (Fr [] w wr)) (fun i _ => n - (intOf i).toNat)
  case atStart => exact ⟨0, by omega, rfl, Lib.hid (Fr.refl _ _)⟩
  case round =>
    obtain ⟨j, hj, rfl, HF⟩ := hrel
    by_cases hlt : j < n
    · obtain ⟨ad, v, hA, hv, hcl, hok, hcells⟩ := HL.out.at (i := j) hlt
      subst hA
      have HCELLS : Hid (∀ i u, (Wdn.cells v)[i]? = some u → wr.cell? ((ad.add (j * 4)).add i) = some u) := Lib.hid (fun i u hu => HF.out.cell (hcells i u hu) (by simp))
      have HCL := Lib.hid hcl
      have HOK := Lib.hid hok
      have HJN := Lib.hid hlt
      have hj0 : (0 : Int) ≤ j := by omega
      clear hcells hcl hok hv
      have HEQ : Hid (∀ W : World, (Op.equalIn 10000 83 (.agg v.cells.toArray) (.agg v.cells.toArray)).run Try.prog W = .ok true W) := Lib.hid (fun W => by
        have h := eql_Wdn v v W
        rw [(Wdn.eqB_iff v v).2 rfl] at h
        exact h)
      go_upto_region 6 with (fail)
      refine wp_region_held_drew (S := Fr [] wr) (by kernel_rfl) (Fr.drew (Fr.refl _ wr)) (fun hHeld => ?_)
      generalize wr.drew = w9 at *
      refine run_at (i := 0) (v := ?_) rfl (by kernel_rfl) (by rfl) (fun _ _ _ h => h) hHeld (fun w1 hw1 => ?_) ?_
      rotate_left 1
      · skip
        go_simp
        (try (first | with_reducible rfl | (apply And.intro <;> rfl)))
      simp only [Act.put, List.setIfInBounds_toArray, List.set_cons_zero, List.set_cons_succ]
      refine run_at (i := 1) (v := ?_) rfl (by kernel_rfl) (by rfl) (fun _ _ _ h => h) hHeld (fun w1 hw1 => ?_) ?_
      rotate_left 1
      · skip
        go_simp
        (try (first | with_reducible rfl | (apply And.intro <;> rfl)))
      simp only [Act.put, List.setIfInBounds_toArray, List.set_cons_zero, List.set_cons_succ]
      refine run_at (i := 2) (v := ?_) rfl (by kernel_rfl) (by rfl) (fun _ _ _ h => h) hHeld (fun w1 hw1 => ?_) ?_
      rotate_left 1
      · skip
        go_simp
        (try (first | with_reducible rfl | (apply And.intro <;> rfl)))
      simp only [Act.put, List.setIfInBounds_toArray, List.set_cons_zero, List.set_cons_succ]
      refine crow_at (i := 3) rfl (by kernel_rfl) (by rfl) _ _ rfl _ rfl _ (fun w1 hw1 j v hv => hw1.cell ((HCELLS.out) j v hv) (by simp)) (row_dnS.of HCL.out) (fun _ _ _ h => h) hHeld ?_
      simp only [Act.put, List.setIfInBounds_toArray, List.set_cons_zero, List.set_cons_succ]
      refine run_at (i := 4) (v := ?_) rfl (by kernel_rfl) (by rfl) (fun _ _ _ h => h) hHeld (fun w1 hw1 => ?_) ?_
      rotate_left 1
      · skip
        go_simp
        (try (first | with_reducible rfl | (apply And.intro <;> rfl)))
      simp only [Act.put, List.setIfInBounds_toArray, List.set_cons_zero, List.set_cons_succ]
      refine run_at (i := 5) (v := ?_) rfl (by kernel_rfl) (by rfl) (fun _ _ _ h => h) hHeld (fun w1 hw1 => ?_) ?_
      rotate_left 1
      · skip
        go_simp
        (try (first | with_reducible rfl | (apply And.intro <;> rfl)))
      simp only [Act.put, List.setIfInBounds_toArray, List.set_cons_zero, List.set_cons_succ]
      refine run_at (i := 6) (v := ?_) rfl (by kernel_rfl) (by rfl) (fun _ _ _ h => h) hHeld (fun w1 hw1 => ?_) ?_
      rotate_left 1
      · skip
        go_simp
        (try (first | with_reducible rfl | (apply And.intro <;> rfl)))
      simp only [Act.put, List.setIfInBounds_toArray, List.set_cons_zero, List.set_cons_succ]
      refine crow_at (i := 7) rfl (by kernel_rfl) (by rfl) _ _ rfl _ rfl _ (fun w1 hw1 j v hv => hw1.cell ((HCELLS.out) j v hv) (by simp)) (row_dnS.of HCL.out) (fun _ _ _ h => h) hHeld ?_
      simp only [Act.put, List.setIfInBounds_toArray, List.set_cons_zero, List.set_cons_succ]
      refine neq_at (i := 8) rfl (by kernel_rfl) (by rfl) _ _ _ _ rfl _ _ rfl rfl _ (by kernel_rfl) (HEQ.out) (fun _ _ _ h => h) hHeld ?_
      simp only [Act.put, List.setIfInBounds_toArray, List.set_cons_zero, List.set_cons_succ]
      refine wpAnyH_done (by kernel_rfl) ?_ _
      have HF9 : Hid (Fr [] w w9) := Lib.hid (HF.out.and hHeld (by simp))
      clear hHeld HCELLS HCL
      clear HOK
      go_wp2
      go_roundw
      case rel => exact ⟨j + 1, by have := HJN.out; omega, by go_num, HF9⟩
      case measure => have := HJN.out; simp [intOf]; omega
    · have hjn : n = j := by omega
      subst hjn
      clear hlt hj
      go_wp2
      go_ret
      exact ⟨rfl, HF.out⟩

set_option maxHeartbeats 4000000 in
theorem tombs_self (A : Option Addr) (n d : Nat) (l : List Wtb) (w : World) (hl : Lst 2 Wtb.cells (fun w v => v.Ok w []) w A n l) (hn : n ≤ 1000) :
    Calls Try.prog 56 #[.slice A n d, .slice A n d] w fun e w' => e = .returned (.bool true) ∧ Fr [] w w' := by
  have HL := Lib.hid hl
  have HN := Lib.hid hn
  have hn1 : (n : Int) ≤ 9223372036854775807 := by omega
  have hnn : ((n : Int) != (n : Int)) = false := by simp
  clear hl hn
  go_enter Try.func56, Try.ntmps56
  go_wp2_with fail
  clear hnn
  go_loopw [13] (fun i wr => ∃ j : Nat, j ≤ n ∧ i = .int .i64 j ∧ Hid (Fr [] w wr)) (fun i _ => n - (intOf i).toNat)
  case atStart => exact ⟨0, by omega, rfl, Lib.hid (Fr.refl _ _)⟩
  case round =>
    obtain ⟨j, hj, rfl, HF⟩ := hrel
    by_cases hlt : j < n
    · obtain ⟨ad, v, hA, hv, hcl, hok, hcells⟩ := HL.out.at (i := j) hlt
      subst hA
      have HCELLS : Hid (∀ i u, (Wtb.cells v)[i]? = some u → wr.cell? ((ad.add (j * 2)).add i) = some u) := Lib.hid (fun i u hu => HF.out.cell (hcells i u hu) (by simp))
      have HCL := Lib.hid hcl
      have HOK := Lib.hid hok
      have HJN := Lib.hid hlt
      have hj0 : (0 : Int) ≤ j := by omega
      clear hcells hcl hok hv
      have HC0 : Hid (wr.cell? (ad.add (j * 2)) = some (.int .i64 v.i)) := Lib.hid (by have h := HCELLS.out 0 _ rfl; simpa [Addr.add] using h)
      have HC1 : Hid (wr.cell? ⟨(ad.add (j * 2)).block, (ad.add (j * 2)).off + 1, none⟩ = some (.slice v.A v.n v.d)) := Lib.hid (by have h := HCELLS.out 1 _ rfl; rw [fld_add] at h; exact h)
      have HII : Hid ((v.i != v.i) = false) := Lib.hid (by simp)
      go_upto_region 6 with (fail)
      refine wp_region_held_drew (S := Fr [] wr) (by kernel_rfl) (Fr.drew (Fr.refl _ wr)) (fun hHeld => ?_)
      generalize wr.drew = wd at *
      refine run_at (i := 0) (v := ?_) rfl (by kernel_rfl) (by rfl) (fun _ _ _ h => h) hHeld (fun w1 hw1 => ?_) ?_
      rotate_left 1
      · skip
        go_simp
        (try (first | with_reducible rfl | (apply And.intro <;> rfl)))
      simp only [Act.put, List.setIfInBounds_toArray, List.set_cons_zero, List.set_cons_succ]
      refine run_at (i := 1) (v := ?_) rfl (by kernel_rfl) (by rfl) (fun _ _ _ h => h) hHeld (fun w1 hw1 => ?_) ?_
      rotate_left 1
      · skip
        go_simp
        (try (first | with_reducible rfl | (apply And.intro <;> rfl)))
      simp only [Act.put, List.setIfInBounds_toArray, List.set_cons_zero, List.set_cons_succ]
      refine run_at (i := 2) (v := ?_) rfl (by kernel_rfl) (by rfl) (fun _ _ _ h => h) hHeld (fun w1 hw1 => ?_) ?_
      rotate_left 1
      · skip
        go_simp
        (try (first | with_reducible rfl | (apply And.intro <;> rfl)))
      simp only [Act.put, List.setIfInBounds_toArray, List.set_cons_zero, List.set_cons_succ]
      refine run_at (i := 3) (v := ?_) rfl (by kernel_rfl) (by rfl) (fun _ _ _ h => h) hHeld (fun w1 hw1 => ?_) ?_
      rotate_left 1
      · skip
        go_simp
        (try (first | with_reducible rfl | (apply And.intro <;> rfl)))
      simp only [Act.put, List.setIfInBounds_toArray, List.set_cons_zero, List.set_cons_succ]
      refine run_at (i := 4) (v := ?_) rfl (by kernel_rfl) (by rfl) (fun _ _ _ h => h) hHeld (fun w1 hw1 => ?_) ?_
      rotate_left 1
      · skip
        have hcw0 := hw1.cell (HC0.out) (by first | (simp; done) | exact HNS.out | exact HNW.out | (intro hm; have hlt := HSB.out _ hm; (try dsimp only at hlt); omega))
        go_simp
        (try (first | with_reducible rfl | (apply And.intro <;> rfl)))
      simp only [Act.put, List.setIfInBounds_toArray, List.set_cons_zero, List.set_cons_succ]
      refine run_at (i := 5) (v := ?_) rfl (by kernel_rfl) (by rfl) (fun _ _ _ h => h) hHeld (fun w1 hw1 => ?_) ?_
      rotate_left 1
      · skip
        go_simp
        (try (first | with_reducible rfl | (apply And.intro <;> rfl)))
      simp only [Act.put, List.setIfInBounds_toArray, List.set_cons_zero, List.set_cons_succ]
      refine run_at (i := 6) (v := ?_) rfl (by kernel_rfl) (by rfl) (fun _ _ _ h => h) hHeld (fun w1 hw1 => ?_) ?_
      rotate_left 1
      · skip
        go_simp
        (try (first | with_reducible rfl | (apply And.intro <;> rfl)))
      simp only [Act.put, List.setIfInBounds_toArray, List.set_cons_zero, List.set_cons_succ]
      refine run_at (i := 7) (v := ?_) rfl (by kernel_rfl) (by rfl) (fun _ _ _ h => h) hHeld (fun w1 hw1 => ?_) ?_
      rotate_left 1
      · skip
        go_simp
        (try (first | with_reducible rfl | (apply And.intro <;> rfl)))
      simp only [Act.put, List.setIfInBounds_toArray, List.set_cons_zero, List.set_cons_succ]
      refine run_at (i := 8) (v := ?_) rfl (by kernel_rfl) (by rfl) (fun _ _ _ h => h) hHeld (fun w1 hw1 => ?_) ?_
      rotate_left 1
      · skip
        go_simp
        (try (first | with_reducible rfl | (apply And.intro <;> rfl)))
      simp only [Act.put, List.setIfInBounds_toArray, List.set_cons_zero, List.set_cons_succ]
      refine run_at (i := 9) (v := ?_) rfl (by kernel_rfl) (by rfl) (fun _ _ _ h => h) hHeld (fun w1 hw1 => ?_) ?_
      rotate_left 1
      · skip
        have hcw0 := hw1.cell (HC0.out) (by first | (simp; done) | exact HNS.out | exact HNW.out | (intro hm; have hlt := HSB.out _ hm; (try dsimp only at hlt); omega))
        go_simp
        (try (first | with_reducible rfl | (apply And.intro <;> rfl)))
      simp only [Act.put, List.setIfInBounds_toArray, List.set_cons_zero, List.set_cons_succ]
      refine run_at (i := 10) (v := ?_) rfl (by kernel_rfl) (by rfl) (fun _ _ _ h => h) hHeld (fun w1 hw1 => ?_) ?_
      rotate_left 1
      · skip
        go_simp
        (try (first | with_reducible rfl | (apply And.intro <;> rfl)))
      simp only [Act.put, List.setIfInBounds_toArray, List.set_cons_zero, List.set_cons_succ]
      try rw [HII.out]
      refine run_at (i := 11) (v := ?_) rfl (by kernel_rfl) (by rfl) (fun _ _ _ h => h) hHeld (fun w1 hw1 => ?_) ?_
      rotate_left 1
      · skip
        go_simp
        (try (first | with_reducible rfl | (apply And.intro <;> rfl)))
      simp only [Act.put, List.setIfInBounds_toArray, List.set_cons_zero, List.set_cons_succ]
      refine run_at (i := 12) (v := ?_) rfl (by kernel_rfl) (by rfl) (fun _ _ _ h => h) hHeld (fun w1 hw1 => ?_) ?_
      rotate_left 1
      · skip
        go_simp
        (try (first | with_reducible rfl | (apply And.intro <;> rfl)))
      simp only [Act.put, List.setIfInBounds_toArray, List.set_cons_zero, List.set_cons_succ]
      refine run_at (i := 13) (v := ?_) rfl (by kernel_rfl) (by rfl) (fun _ _ _ h => h) hHeld (fun w1 hw1 => ?_) ?_
      rotate_left 1
      · skip
        go_simp
        (try (first | with_reducible rfl | (apply And.intro <;> rfl)))
      simp only [Act.put, List.setIfInBounds_toArray, List.set_cons_zero, List.set_cons_succ]
      refine run_at (i := 14) (v := ?_) rfl (by kernel_rfl) (by rfl) (fun _ _ _ h => h) hHeld (fun w1 hw1 => ?_) ?_
      rotate_left 1
      · skip
        go_simp
        (try (first | with_reducible rfl | (apply And.intro <;> rfl)))
      simp only [Act.put, List.setIfInBounds_toArray, List.set_cons_zero, List.set_cons_succ]
      refine run_at (i := 15) (v := ?_) rfl (by kernel_rfl) (by rfl) (fun _ _ _ h => h) hHeld (fun w1 hw1 => ?_) ?_
      rotate_left 1
      · skip
        go_simp
        (try (first | with_reducible rfl | (apply And.intro <;> rfl)))
      simp only [Act.put, List.setIfInBounds_toArray, List.set_cons_zero, List.set_cons_succ]
      refine run_at (i := 16) (v := ?_) rfl (by kernel_rfl) (by rfl) (fun _ _ _ h => h) hHeld (fun w1 hw1 => ?_) ?_
      rotate_left 1
      · skip
        have hcw0 := hw1.cell (HC1.out) (by first | (simp; done) | exact HNS.out | exact HNW.out | (intro hm; have hlt := HSB.out _ hm; (try dsimp only at hlt); omega))
        go_simp
        (try (first | with_reducible rfl | (apply And.intro <;> rfl)))
      simp only [Act.put, List.setIfInBounds_toArray, List.set_cons_zero, List.set_cons_succ]
      refine run_at (i := 17) (v := ?_) rfl (by kernel_rfl) (by rfl) (fun _ _ _ h => h) hHeld (fun w1 hw1 => ?_) ?_
      rotate_left 1
      · skip
        go_simp
        (try (first | with_reducible rfl | (apply And.intro <;> rfl)))
      simp only [Act.put, List.setIfInBounds_toArray, List.set_cons_zero, List.set_cons_succ]
      refine run_at (i := 18) (v := ?_) rfl (by kernel_rfl) (by rfl) (fun _ _ _ h => h) hHeld (fun w1 hw1 => ?_) ?_
      rotate_left 1
      · skip
        go_simp
        (try (first | with_reducible rfl | (apply And.intro <;> rfl)))
      simp only [Act.put, List.setIfInBounds_toArray, List.set_cons_zero, List.set_cons_succ]
      refine run_at (i := 19) (v := ?_) rfl (by kernel_rfl) (by rfl) (fun _ _ _ h => h) hHeld (fun w1 hw1 => ?_) ?_
      rotate_left 1
      · skip
        go_simp
        (try (first | with_reducible rfl | (apply And.intro <;> rfl)))
      simp only [Act.put, List.setIfInBounds_toArray, List.set_cons_zero, List.set_cons_succ]
      refine run_at (i := 20) (v := ?_) rfl (by kernel_rfl) (by rfl) (fun _ _ _ h => h) hHeld (fun w1 hw1 => ?_) ?_
      rotate_left 1
      · skip
        go_simp
        (try (first | with_reducible rfl | (apply And.intro <;> rfl)))
      simp only [Act.put, List.setIfInBounds_toArray, List.set_cons_zero, List.set_cons_succ]
      refine run_at (i := 21) (v := ?_) rfl (by kernel_rfl) (by rfl) (fun _ _ _ h => h) hHeld (fun w1 hw1 => ?_) ?_
      rotate_left 1
      · skip
        have hcw0 := hw1.cell (HC1.out) (by first | (simp; done) | exact HNS.out | exact HNW.out | (intro hm; have hlt := HSB.out _ hm; (try dsimp only at hlt); omega))
        go_simp
        (try (first | with_reducible rfl | (apply And.intro <;> rfl)))
      simp only [Act.put, List.setIfInBounds_toArray, List.set_cons_zero, List.set_cons_succ]
      refine call_at (i := 22) (f := ?_) (args := ?_) rfl (by kernel_rfl) (by rfl) ?_ ?_
      rotate_left 2
      · go_simp
        (try (first | with_reducible rfl | (apply And.intro <;> rfl)))
      refine (denies_self v.A v.n v.d v.l wd (HOK.out.l.keep' (HF.out.and hHeld (by simp)) (by simp) (fun _ _ h => h)) (by have := HOK.out.n; omega)).mono ?_
      rintro e_ w9 ⟨rfl, hf⟩
      refine ⟨_, rfl, hHeld.and hf (by simp), fun hHeld => ?_⟩
      clear hf
      simp only [Act.put, List.setIfInBounds_toArray, List.set_cons_zero, List.set_cons_succ]
      refine run_at (i := 23) (v := ?_) rfl (by kernel_rfl) (by rfl) (fun _ _ _ h => h) hHeld (fun w1 hw1 => ?_) ?_
      rotate_left 1
      · skip
        go_simp
        (try (first | with_reducible rfl | (apply And.intro <;> rfl)))
      simp only [Act.put, List.setIfInBounds_toArray, List.set_cons_zero, List.set_cons_succ]
      refine run_at (i := 24) (v := ?_) rfl (by kernel_rfl) (by rfl) (fun _ _ _ h => h) hHeld (fun w1 hw1 => ?_) ?_
      rotate_left 1
      · skip
        go_simp
        (try (first | with_reducible rfl | (apply And.intro <;> rfl)))
      simp only [Act.put, List.setIfInBounds_toArray, List.set_cons_zero, List.set_cons_succ]
      refine wpAnyH_done (by kernel_rfl) ?_ _
      have HF9 : Hid (Fr [] w w9) := Lib.hid (HF.out.and hHeld (by simp))
      clear hHeld HCELLS HCL HC0 HC1
      clear HOK
      go_wp2
      go_roundw
      case rel => exact ⟨j + 1, by have := HJN.out; omega, by go_num, HF9⟩
      case measure => have := HJN.out; simp [intOf]; omega
    · have hjn : n = j := by omega
      subst hjn
      clear hlt hj
      go_wp2
      go_ret
      exact ⟨rfl, HF.out⟩
end Go.Proofs.Ytkofmefnlppoaaa

namespace Go.Proofs.Ytkofmefnlppoaaa
open Go.RowKit
set_option maxRecDepth 100000

theorem Blk.mid {g : Nat} {t : TypeId} : ∀ (V M P Z : List Value) (w : World), V.length = M.length → Blk w g t (P ++ (M ++ Z)).toArray → Blk (w.setCells g P.length V) g t (P ++ (V ++ Z)).toArray
  | [], M, P, Z, w, h, hb => by
    have : M = [] := List.eq_nil_of_length_eq_zero (by simpa using h.symm)
    subst this
    exact hb
  | v :: V, [], P, Z, w, h, hb => by simp at h
  | v :: V, m :: M, P, Z, w, h, hb => by
    have h1 := hb.set P.length v
    rw [List.setIfInBounds_toArray, List.set_append_right _ _ (Nat.le_refl _), Nat.sub_self] at h1
    have h2 := Blk.mid V M (P ++ [v]) Z (w.setCell ⟨g, P.length, none⟩ v) (by simpa using h) (by simpa using h1)
    have e : (P ++ [v]).length = P.length + 1 := by simp
    rw [e] at h2
    simpa [World.setCells] using h2
theorem Blk.mid_at {g : Nat} {t : TypeId} {w : World} (V M P Z : List Value) (o : Nat) (ho : P.length = o) (h : V.length = M.length) (cs cs' : List Value) (hc : cs = P ++ (M ++ Z)) (hc' : cs' = P ++ (V ++ Z)) (hb : Blk w g t cs.toArray) : Blk (w.setCells g o V) g t cs'.toArray := by
  subst ho
  subst hc
  subst hc'
  exact Blk.mid V M P Z w h hb
theorem Fr.setCells {S : List Nat} {a : World} {g : Nat} (hg : g < a.heap.size → g ∈ S) : ∀ (V : List Value) (o : Nat) (w : World), Fr S a w → Fr S a (w.setCells g o V)
  | [], _, _, h => h
  | v :: V, o, w, h => Fr.setCells hg V (o + 1) _ (h.setCell ⟨g, o, none⟩ hg v)
theorem own_blk {w : World} {base : Nat} {e : TypeId} {k n c g : Nat} {xs : List Value} (h : w.ownsRow base e k (.slice (some ⟨g, 0, none⟩) n c) n xs) : ∃ R : List Value, Blk w g e (xs ++ R).toArray ∧ (xs ++ R).length = c * k ∧ n ≤ c ∧ c ≤ maxLen ∧ base ≤ g := by
  rcases h.2 with ⟨hv, _⟩ | ⟨g', cap, cur, hv, hb, hh, hnc, hcm, hcs, htk⟩
  · injection hv with h1
    cases h1
  · injection hv with h1 h2 h3
    injection h1 with h1
    injection h1 with h1
    subst h1
    subst h3
    refine ⟨cur.toList.drop (n * k), ?_, ?_, hnc, hcm, hb⟩
    · have e : (xs ++ cur.toList.drop (n * k)).toArray = cur := by rw [← htk, List.take_append_drop]
      unfold Blk
      rw [e]
      exact hh
    · rw [← htk, List.take_append_drop]
      simpa using hcs
/-- an element of a row that the call owns is stored -/
theorem own_put {α : Type} {cells : α → List Value} {w : World} {base : Nat} {e : TypeId} {k n c g : Nat} {l : List α} (h : w.ownsRow base e k (.slice (some ⟨g, 0, none⟩) n c) n (l.flatMap cells)) (hk : ∀ v ∈ l, (cells v).length = k) {i : Nat} (hi : i < l.length) (v : α) (hv : (cells v).length = k) :
    (w.setCells g (i * k) (cells v)).ownsRow base e k (.slice (some ⟨g, 0, none⟩) n c) n ((l.set i v).flatMap cells) ∧ w.there g (i * k) k := by
  obtain ⟨P, x, Q, rfl, hP⟩ : ∃ P x Q, l = P ++ x :: Q ∧ P.length = i := ⟨l.take i, l[i], l.drop (i + 1), by simp, by simp; omega⟩
  obtain ⟨R, hb, hl, hnc, hcm, hbase⟩ := own_blk h
  have hp : (P.flatMap cells).length = i * k := by rw [cells_flat_len (fun u hu => hk u (by simp [hu])), hP]
  have hx : (cells x).length = k := hk x (by simp)
  have hs : (P ++ x :: Q).set i v = P ++ v :: Q := by rw [← hP, List.set_append_right _ _ (Nat.le_refl _), Nat.sub_self]; rfl
  rw [hs]
  have hc : (P ++ x :: Q).flatMap cells ++ R = P.flatMap cells ++ (cells x ++ (Q.flatMap cells ++ R)) := by simp
  have hc' : (P ++ v :: Q).flatMap cells ++ R = P.flatMap cells ++ (cells v ++ (Q.flatMap cells ++ R)) := by simp
  have hb2 := Blk.mid_at (cells v) (cells x) (P.flatMap cells) (Q.flatMap cells ++ R) (i * k) hp (by rw [hv, hx]) _ _ hc hc' hb
  have hlen : ((P ++ v :: Q).flatMap cells).length = ((P ++ x :: Q).flatMap cells).length := by simp [hv, hx]
  have h1 := h.1
  refine ⟨⟨by rw [hlen]; exact h1, .inr ⟨g, c, _, rfl, hbase, hb2, hnc, hcm, ?_, ?_⟩⟩, hb.there _ _ ?_⟩
  · rw [List.size_toArray, ← hl, List.length_append, List.length_append, hlen]
  · rw [← h1, ← hlen]
    exact List.take_left
  · rw [List.size_toArray, hc]
    simp only [List.length_append]
    omega
theorem add_at (g o : Nat) : (⟨g, 0, none⟩ : Addr).add o = ⟨g, o, none⟩ := by unfold Addr.add; split <;> simp_all

def upI (v : Int) : Int := v % 1099511627776
theorem upI_in (v : Int) : i64In (upI v) := by unfold i64In upI; omega
theorem upI_idem (v : Int) : upI (upI v) = upI v := by unfold upI; omega
theorem row_nm2 : RowTy Try.prog 23 2 := ⟨by kernel_rfl, by kernel_rfl⟩
theorem row_sg2 : RowTy Try.prog 27 2 := ⟨by kernel_rfl, by kernel_rfl⟩
theorem built_nm3 (c s : Int) : Try.prog.built 23 [(0, .int .i64 c), (1, .int .i64 s)] = some #[.int .i64 c, .int .i64 s] := by kernel_rfl
theorem built_sg3 (c s : Int) : Try.prog.built 27 [(0, .int .i64 c), (1, .int .i64 s)] = some #[.int .i64 c, .int .i64 s] := by kernel_rfl

end Go.Proofs.Ytkofmefnlppoaaa

namespace Go.Proofs.Ytkofmefnlppoaaa
open Go.RowKit
set_option maxRecDepth 100000
def nst (x : Wst) : Wst := ⟨upI x.r, upI x.c, upI x.s, x.h, x.t, upI x.b, upI x.m⟩
def ncm (x : Wcm) : Wcm := ⟨upI x.c, upI x.s, x.h, upI x.n, upI x.b, upI x.m⟩
theorem nst_idem (x : Wst) : nst (nst x) = nst x := by simp [nst, upI_idem]
theorem ncm_idem (x : Wcm) : ncm (ncm x) = ncm x := by simp [ncm, upI_idem]
theorem nst_ok {x : Wst} (h : x.Ok) : (nst x).Ok := ⟨upI_in _, upI_in _, upI_in _, h.h, h.t, upI_in _, upI_in _⟩
theorem ncm_ok {x : Wcm} (h : x.Ok) : (ncm x).Ok := ⟨upI_in _, upI_in _, h.h, upI_in _, upI_in _, upI_in _⟩
theorem mix_set {α : Type} (f : α → α) (l : List α) {k : Nat} (hk : k < l.length) : ((l.take k).map f ++ l.drop k).set k (f l[k]) = (l.take (k + 1)).map f ++ l.drop (k + 1) := by
  have h1 : ((l.take k).map f).length = k := by simp; omega
  rw [List.set_append_right _ _ (by omega), h1, Nat.sub_self, List.drop_eq_getElem_cons hk, List.set_cons_zero, List.take_succ_eq_append_getElem hk, List.map_append, List.append_assoc]
  rfl
theorem mix_get {α : Type} (f : α → α) (l : List α) {k : Nat} (hk : k < l.length) : ((l.take k).map f ++ l.drop k)[k]? = some l[k] := by
  have h1 : ((l.take k).map f).length = k := by simp; omega
  rw [List.getElem?_append_right (by omega), h1, Nat.sub_self, List.drop_eq_getElem_cons hk]
  rfl
theorem mix_len {α : Type} (f : α → α) (l : List α) (k : Nat) : ((l.take k).map f ++ l.drop k).length = l.length := by simp; omega
theorem mix_mem {α : Type} (f : α → α) (l : List α) (k : Nat) {v : α} (hv : v ∈ (l.take k).map f ++ l.drop k) : v ∈ l ∨ ∃ u ∈ l, v = f u := by
  rcases List.mem_append.1 hv with h | h
  · obtain ⟨u, hu, rfl⟩ := List.mem_map.1 h
    exact .inr ⟨u, List.mem_of_mem_take hu, rfl⟩
  · exact .inl (List.mem_of_mem_drop h)
theorem row_stm : RowTy Try.prog 71 38 := ⟨by kernel_rfl, by kernel_rfl⟩
/-- one cell of a block that is known whole is stored -/
theorem wp_store_at {P : Program} {op : Oper} {a : Act} {w : World} {K : Act → World → Prop} {Q : Exit → Act → World → Prop} (ty : TypeId) (x y : Operand) (ho : op.op = .store ty x y)
    (g i : Nat) (v : Value) (hx : a.eval x = .pointer (some ⟨g, i, none⟩)) (hy : a.eval y = v) (h1 : v.oneCell' = true) (t : TypeId) (cs : Array Value) (hb : Blk w g t cs) (hi : i < cs.size) (hsz : (P.info? ty).map (·.size) = some 1)
    (h : K (a.put op.dst undef) (w.setCells g i [v])) : op.wp P a w K Q := by
  subst hy
  have hc := hb.cell i
  rw [Array.getElem?_eq_getElem hi] at hc
  have := run_storeCells_cells (P := P) g i [a.eval y] 0 w (fun j hj => by simp at hj; subst hj; simpa using (by rw [hc]; rfl : (w.cell? ⟨g, i, none⟩).isSome = true)) (fun j hj => by simp at hj; subst hj; simpa using hb.frozen i) (fun u hu => by simp at hu; subst hu; exact h1)
  have hcl : (a.eval y).cells = #[a.eval y] := by cases hv : a.eval y <;> first | rfl | (rw [hv] at h1; cases h1)
  have hrun : (storeVar ty ⟨g, i, none⟩ (a.eval y)).run P w = .ok () (w.setCells g i [a.eval y]) := by
    cases hq : P.info? ty with
    | none => simp [hq] at hsz
    | some j =>
      have hs : j.size = 1 := by simpa [hq] using hsz
      simp only [Nat.add_zero] at this
      simp [storeVar, sizeOf, typeInfo, hq, hcl, hs, this]
  unfold Oper.wp execOp
  simp only [ho, hx, Instr.storeAt, Instr.sureAddr, Sem.run_bind, Sem.run_pure, Result.andThen_ok, hrun]
  exact h
/-- a whole element is stored into a row that the call owns -/
theorem wp_store_el {P : Program} {op : Oper} {a : Act} {w : World} {K : Act → World → Prop} {Q : Exit → Act → World → Prop} (ty : TypeId) (x y : Operand) (ho : op.op = .store ty x y)
    (b o : Nat) (cs : List Value) (hx : a.eval x = .pointer (some ((⟨b, 0, none⟩ : Addr).add o))) (hy : a.eval y = .agg cs.toArray)
    (ht : w.there b o cs.length) (hi : (P.info? ty).map (·.size) = some cs.length) (h1 : cs.toArray.all (·.oneCell') = true)
    (h : K (a.put op.dst undef) (w.setCells b o cs)) : op.wp P a w K Q :=
  wp_store_mid ty x y ho b o cs.toArray (by rw [hx, add_at]) hy (by simpa using ht) (by simpa using hi) h1 (by simpa using h)
theorem wpList_store_el {P : Program} {ops : Array Oper} {rest : List Oper} {op : Oper} {a : Act} {w : World} {Q : Exit → Act → World → Prop} (hg : op.guard = none) (ty : TypeId) (x y : Operand) (ho : op.op = .store ty x y)
    (b o : Nat) (cs : List Value) (hx : a.eval x = .pointer (some ((⟨b, 0, none⟩ : Addr).add o))) (hy : a.eval y = .agg cs.toArray)
    (ht : w.there b o cs.length) (hi : (P.info? ty).map (·.size) = some cs.length) (h1 : cs.toArray.all (·.oneCell') = true)
    (h : wpList P ops Q rest (a.put op.dst undef) (w.setCells b o cs)) : wpList P ops Q (op :: rest) a w :=
  wpList_plain hg fun _ hK => wp_store_el ty x y ho b o cs hx hy ht hi h1 (hK _ _ h)
theorem blk_ce1 {w : World} {g : Nat} {t : TypeId} {k : Wcm} {c s : Int} {u : Value} (hb : Blk w g t (k.cells ++ [u]).toArray) :
    Blk (w.setCells g 0 [.int .i64 c, .int .i64 s]) g t ((⟨c, s, k.h, k.n, k.b, k.m⟩ : Wcm).cells ++ [u]).toArray :=
  Blk.mid_at [.int .i64 c, .int .i64 s] [.int .i64 k.c, .int .i64 k.s] [] (k.h.map by8 ++ [.int .i64 k.n, .int .i64 k.b, .int .i64 k.m] ++ [u]) 0 rfl rfl _ _ (by simp [Wcm.cells]) (by simp [Wcm.cells]) hb
theorem blk_ce2 {w : World} {g : Nat} {t : TypeId} {k : Wcm} (hh : k.h.length = 32) {n : Int} {u : Value} (hb : Blk w g t (k.cells ++ [u]).toArray) :
    Blk (w.setCells g 34 [.int .i64 n]) g t ((⟨k.c, k.s, k.h, n, k.b, k.m⟩ : Wcm).cells ++ [u]).toArray :=
  Blk.mid_at [.int .i64 n] [.int .i64 k.n] ([.int .i64 k.c, .int .i64 k.s] ++ k.h.map by8) ([.int .i64 k.b, .int .i64 k.m] ++ [u]) 34 (by simp [hh]) rfl _ _ (by simp [Wcm.cells]) (by simp [Wcm.cells]) hb
theorem blk_ce3 {w : World} {g : Nat} {t : TypeId} {k : Wcm} (hh : k.h.length = 32) {b m : Int} {u : Value} (hb : Blk w g t (k.cells ++ [u]).toArray) :
    Blk (w.setCells g 35 [.int .i64 b, .int .i64 m]) g t ((⟨k.c, k.s, k.h, k.n, b, m⟩ : Wcm).cells ++ [u]).toArray :=
  Blk.mid_at [.int .i64 b, .int .i64 m] [.int .i64 k.b, .int .i64 k.m] ([.int .i64 k.c, .int .i64 k.s] ++ k.h.map by8 ++ [.int .i64 k.n]) [u] 35 (by simp [hh]) rfl _ _ (by simp [Wcm.cells]) (by simp [Wcm.cells]) hb
theorem blk_st1 {w : World} {g : Nat} {t : TypeId} {x : Wst} {r : Int} (hb : Blk w g t x.cells.toArray) : Blk (w.setCells g 0 [.int .i64 r]) g t (⟨r, x.c, x.s, x.h, x.t, x.b, x.m⟩ : Wst).cells.toArray :=
  Blk.mid_at [.int .i64 r] [.int .i64 x.r] [] ([.int .i64 x.c, .int .i64 x.s] ++ (x.h.map by8 ++ [.int .u64 (x.t : Int), .int .i64 x.b, .int .i64 x.m])) 0 rfl rfl _ _ (by simp [Wst.cells]) (by simp [Wst.cells]) hb
theorem blk_st2 {w : World} {g : Nat} {t : TypeId} {x : Wst} {c s : Int} (hb : Blk w g t x.cells.toArray) : Blk (w.setCells g 1 [.int .i64 c, .int .i64 s]) g t (⟨x.r, c, s, x.h, x.t, x.b, x.m⟩ : Wst).cells.toArray :=
  Blk.mid_at [.int .i64 c, .int .i64 s] [.int .i64 x.c, .int .i64 x.s] [.int .i64 x.r] (x.h.map by8 ++ [.int .u64 (x.t : Int), .int .i64 x.b, .int .i64 x.m]) 1 rfl rfl _ _ (by simp [Wst.cells]) (by simp [Wst.cells]) hb
theorem blk_st3 {w : World} {g : Nat} {t : TypeId} {x : Wst} (hh : x.h.length = 32) {b m : Int} (hb : Blk w g t x.cells.toArray) : Blk (w.setCells g 36 [.int .i64 b, .int .i64 m]) g t (⟨x.r, x.c, x.s, x.h, x.t, b, m⟩ : Wst).cells.toArray :=
  Blk.mid_at [.int .i64 b, .int .i64 m] [.int .i64 x.b, .int .i64 x.m] ([.int .i64 x.r, .int .i64 x.c, .int .i64 x.s] ++ x.h.map by8 ++ [.int .u64 (x.t : Int)]) [] 36 (by simp [hh]) rfl _ _ (by simp [Wst.cells]) (by simp [Wst.cells]) hb

end Go.Proofs.Ytkofmefnlppoaaa

namespace Go.Proofs.Ytkofmefnlppoaaa
open Go.RowKit
set_option maxRecDepth 100000

theorem made_ok (c s : Int) (hc : 0 ≤ c ∧ c < 1099511627776) (hs : i64In s) (h b : List UInt8) (hb : b.length ≤ 1000000) (l : List Ent) (hl : l.length < 1048576) : (made c s h b l).Ok := by
  refine ⟨⟨by show _ ≤ c; omega, by show c < _; omega⟩, hs, sumL_len _, ⟨by show _ ≤ ((b.length : Nat) : Int); omega, by show ((b.length : Nat) : Int) < _; omega⟩, ⟨by show _ ≤ 1000 + c; omega, by show 1000 + c < _; omega⟩, ?_⟩
  show i64In (mrk _ _)
  unfold mrk i64In
  have h1 : List.idxOf (1000 + c, (made0 c s h b).text) (sgn l (1000 + c, (made0 c s h b).text)) ≤ (sgn l (1000 + c, (made0 c s h b).text)).length := List.idxOf_le_length
  have h2 : (sgn l (1000 + c, (made0 c s h b).text)).length ≤ l.length + 1 := by unfold sgn; split <;> simp
  omega
theorem made_right (c s : Int) (hc : 0 ≤ c) (h b : List UInt8) (l : List Ent) (k : Int) (hk : c < k) (hs : 1 ≤ s ∧ s ≤ 1048576) (hb : b.length ≤ 256) :
    rightC k (sgn l (1000 + c, (made0 c s h b).text)) (made c s h b l) = true := by
  unfold rightC
  have h1 : validB k (made c s h b l) = true := by
    unfold validB
    simp only [decide_eq_true_eq]
    exact ⟨hc, hk, hs.1, hs.2, by show (0 : Int) ≤ ((b.length : Nat) : Int); omega, by show ((b.length : Nat) : Int) ≤ 256; omega⟩
  have h2 : signB (made c s h b l).b (made c s h b l).c = true := by
    unfold signB
    simp only [decide_eq_true_eq]
    exact ⟨by show 1000 ≤ 1000 + c; omega, by show 1000 + c - 1000 = c; omega⟩
  rw [h1, h2, made_text]
  exact rightB_sgn l (1000 + c) (made0 c s h b).text

end Go.Proofs.Ytkofmefnlppoaaa

namespace Go.Proofs.Ytkofmefnlppoaaa
open Go.RowKit
set_option maxRecDepth 100000
def zeroOp : Array Value := (opnCells 0 none 0 0 (List.replicate 32 0)).toArray
theorem built_op (parts : List (Nat × Value)) : Try.prog.built 81 parts = Instr.fill ([(0, 1), (1, 1), (2, 32)].toArray[·]?) zeroOp parts := by kernel_rfl
theorem built_opening (A : Option Addr) (n c : Nat) (h : List UInt8) (hh : h.length = 32) :
    Try.prog.built 81 [(1, .slice A n c), (2, .agg (h.map by8).toArray)] = some (opnCells 0 A n c h).toArray := by
  have hz : zeroOp.size = 34 := rfl
  rw [built_op, fill_step _ _ 1 1 1 _ _ rfl rfl (by rw [hz]; omega), fill_step _ _ 2 2 32 _ _ rfl (by simp [Value.cells, hh]) (by simp [splice, zeroOp, opnCells, Value.cells]), Instr.fill]
  congr 2
  simp [splice, zeroOp, opnCells, Value.cells, hh]
theorem built_opening3 (i : Int) (A : Option Addr) (n c : Nat) (h : List UInt8) (hh : h.length = 32) :
    Try.prog.built 81 [(0, .int .i64 i), (1, .slice A n c), (2, .agg (h.map by8).toArray)] = some (opnCells i A n c h).toArray := by
  have hz : zeroOp.size = 34 := rfl
  rw [built_op, fill_step _ _ 0 0 1 _ _ rfl rfl (by rw [hz]; omega), fill_step _ _ 1 1 1 _ _ rfl rfl (by simp [splice, zeroOp, opnCells, Value.cells]), fill_step _ _ 2 2 32 _ _ rfl (by simp [Value.cells, hh]) (by simp [splice, zeroOp, opnCells, Value.cells]), Instr.fill]
  congr 2
  simp [splice, zeroOp, opnCells, Value.cells, hh]
theorem built_opening2 (h : List UInt8) (hh : h.length = 32) :
    Try.prog.built 81 [(2, .agg (h.map by8).toArray)] = some (opnCells 0 none 0 0 h).toArray := by
  have hz : zeroOp.size = 34 := rfl
  rw [built_op, fill_step _ _ 2 2 32 _ _ rfl (by simp [Value.cells, hh]) (by rw [hz]; omega), Instr.fill]
  congr 2
  simp [splice, zeroOp, opnCells, Value.cells, hh]
end Go.Proofs.Ytkofmefnlppoaaa

namespace Go.Proofs.Ytkofmefnlppoaaa
open Go.RowKit
set_option maxRecDepth 100000
theorem part_row (ty : TypeId) (n off : Nat) (xs ys zs : List Value) (h : RowTy Try.prog ty n) (hx : xs.length = off) (hy : ys.length = n) (w : World) : (part ty (xs ++ (ys ++ zs)).toArray off).run Try.prog w = .ok (.agg ys.toArray) w := by
  obtain ⟨h1, h2⟩ := h
  cases hu : Try.prog.underlying ty with
  | none => rw [hu] at h1; cases h1
  | some d =>
    rw [hu] at h1
    cases hi : Try.prog.info? ty with
    | none => rw [hi] at h2; cases h2
    | some i =>
      have hs : i.size = n := by simpa [hi] using h2
      have hagg : (isAgg ty).run Try.prog w = .ok true w := by
        unfold isAgg
        rw [Sem.run_bind, run_underlying hu w]
        cases d <;> simp_all
      unfold part
      simp [hagg, sizeOf, typeInfo, hi, hs]
      subst hx
      subst hy
      simp
theorem hash_selfd (xs : List UInt8) (hx : xs.length = 32) (d : Nat) (w : World) :
    (Op.equalIn (d + 2) 25 (.agg (xs.map by8).toArray) (.agg (xs.map by8).toArray)).run Try.prog w = .ok true w := by
  have h := run_equalIn_bytes (P := Try.prog) w d 25 5 32 Try.underlying25 Try.underlying5 u8_size1 xs xs hx hx
  rw [show (xs == xs) = true by simp] at h
  exact h
theorem int_selfd (z : Int) (d : Nat) (w : World) : (Op.equalIn (d + 1) 3 (.int .i64 z) (.int .i64 z)).run Try.prog w = .ok true w := by
  have h := run_equalIn_int (P := Try.prog) w d 3 .i64 .i64 z z Try.underlying3
  rw [show (z == z) = true by simp] at h
  exact h
theorem stood (t : TypeId) (h : Try.prog.stoodInHeld t = false) : Try.prog.stoodInHeld t = false := h
set_option maxHeartbeats 1000000 in
theorem name_selfd (a b : Int) (d : Nat) (w : World) : (Op.equalIn (d + 2) 23 (.agg #[.int .i64 a, .int .i64 b]) (.agg #[.int .i64 a, .int .i64 b])).run Try.prog w = .ok true w := by
  have h1 := int_selfd a d w
  have h2 := int_selfd b d w
  rw [run_equalIn_struct w (d + 1) 23 _ _ (by kernel_rfl) (by kernel_rfl)]
  go_simp
theorem sig_selfd (a b : Int) (d : Nat) (w : World) : (Op.equalIn (d + 2) 27 (.agg #[.int .i64 a, .int .i64 b]) (.agg #[.int .i64 a, .int .i64 b])).run Try.prog w = .ok true w := by
  have h1 := int_selfd a d w
  have h2 := int_selfd b d w
  rw [run_equalIn_struct w (d + 1) 27 _ _ (by kernel_rfl) (by kernel_rfl)]
  go_simp
theorem part_one (off : Nat) (cs : Array Value) (v : Value) (hv : cs[off]? = some v) (w : World) : (part 3 cs off).run Try.prog w = .ok v w :=
  run_part_plain w (by kernel_rfl) hv
theorem eqFields_step {P : Program} {d : Nat} {xs : Array Value} {f : Field} {fs : List Field} {v : Value} {w : World} (hn : f.name ≠ "_") (p : (part f.type xs f.offset).run P w = .ok v w) (q : (Op.equalIn d f.type v v).run P w = .ok true w) :
    (Op.eqFields d xs xs (f :: fs)).run P w = (Op.eqFields d xs xs fs).run P w := by
  rw [Op.eqFields, if_pos hn]
  simp only [Sem.run_bind, p, Result.andThen_ok, q]
  simp
theorem commit_self (x : Cm) (hh : x.h.length = 32) (w : World) : (Op.equalIn 10000 29 (.agg x.cells.toArray) (.agg x.cells.toArray)).run Try.prog w = .ok true w := by
  have hl : (x.h.map by8).length = 32 := by rw [List.length_map]; exact hh
  have p0 := part_row 23 2 0 [] [.int .i64 x.c, .int .i64 x.s] (x.h.map by8 ++ [.int .i64 x.n, .int .i64 x.b, .int .i64 x.m]) row_name rfl rfl w
  have p1 := part_row 25 32 2 [.int .i64 x.c, .int .i64 x.s] (x.h.map by8) [.int .i64 x.n, .int .i64 x.b, .int .i64 x.m] row_hash rfl hl w
  have p3 := part_row 27 2 35 ([.int .i64 x.c, .int .i64 x.s] ++ x.h.map by8 ++ [.int .i64 x.n]) [.int .i64 x.b, .int .i64 x.m] [] row_sig (by simp [hh]) rfl w
  have e1 : [] ++ ([.int .i64 x.c, .int .i64 x.s] ++ (x.h.map by8 ++ [.int .i64 x.n, .int .i64 x.b, .int .i64 x.m])) = x.cells := rfl
  have e2 : [.int .i64 x.c, .int .i64 x.s] ++ (x.h.map by8 ++ [.int .i64 x.n, .int .i64 x.b, .int .i64 x.m]) = x.cells := rfl
  have e3 : ([.int .i64 x.c, .int .i64 x.s] ++ x.h.map by8 ++ [.int .i64 x.n]) ++ ([.int .i64 x.b, .int .i64 x.m] ++ []) = x.cells := by simp [Cm.cells]
  rw [e1] at p0
  rw [e2] at p1
  rw [e3] at p3
  have h4 : x.cells.toArray[34]? = some (.int .i64 x.n) := by
    rw [List.getElem?_toArray, ← e3, List.getElem?_append_left (by simp [hh]), List.getElem?_append_right (by simp [hh])]; simp [hh]
  have p2 := part_one 34 x.cells.toArray _ h4 w
  have q0 : (Op.equalIn 9999 23 (.agg #[.int .i64 x.c, .int .i64 x.s]) (.agg #[.int .i64 x.c, .int .i64 x.s])).run Try.prog w = .ok true w := name_selfd x.c x.s 9997 w
  have q1 : (Op.equalIn 9999 25 (.agg (x.h.map by8).toArray) (.agg (x.h.map by8).toArray)).run Try.prog w = .ok true w := hash_selfd x.h hh 9997 w
  have q2 : (Op.equalIn 9999 3 (.int .i64 x.n) (.int .i64 x.n)).run Try.prog w = .ok true w := int_selfd x.n 9998 w
  have q3 : (Op.equalIn 9999 27 (.agg #[.int .i64 x.b, .int .i64 x.m]) (.agg #[.int .i64 x.b, .int .i64 x.m])).run Try.prog w = .ok true w := sig_selfd x.b x.m 9997 w
  clear e1 e2 e3 h4
  generalize x.cells.toArray = C at *
  rw [run_equalIn_struct w 9999 29 _ _ (by kernel_rfl) (by kernel_rfl)]
  have hfs : (Try.prog.fieldsOf 29).toList.map (fun f => (f.type, f.offset, f.name == "_")) = [(23, 0, false), (25, 2, false), (3, 34, false), (27, 35, false)] := by kernel_rfl
  generalize (Try.prog.fieldsOf 29).toList = fs at *
  have hl4 : fs.length = 4 := by have := congrArg List.length hfs; simpa using this
  match fs, hl4, hfs with
  | [a, b, c, d], _, hfs =>
    simp only [List.map_cons, List.map_nil, List.cons.injEq, Prod.mk.injEq, beq_eq_false_iff_ne, and_true] at hfs
    obtain ⟨⟨a1, a2, a3⟩, ⟨b1, b2, b3⟩, ⟨c1, c2, c3⟩, ⟨d1, d2, d3⟩⟩ := hfs
    rw [eqFields_step a3 (by rw [a1, a2]; exact p0) (by rw [a1]; exact q0), eqFields_step b3 (by rw [b1, b2]; exact p1) (by rw [b1]; exact q1), eqFields_step c3 (by rw [c1, c2]; exact p2) (by rw [c1]; exact q2), eqFields_step d3 (by rw [d1, d2]; exact p3) (by rw [d1]; exact q3)]
    rfl
end Go.Proofs.Ytkofmefnlppoaaa

namespace Go.Proofs.Ytkofmefnlppoaaa
open Go.RowKit
set_option maxRecDepth 100000
theorem map_at {α β : Type} {f : α → β} {l m : List α} {j : Nat} {v u : α} (h : l.map f = m.map f) (hv : l[j]? = some v) (hu : m[j]? = some u) : f v = f u := by
  have h1 := congrArg (·[j]?) h
  simpa [hv, hu] using h1
theorem eq_Wcm (x : Wcm) (hh : x.h.length = 32) (w : World) : (Op.equalIn 10000 29 (.agg x.cells.toArray) (.agg x.cells.toArray)).run Try.prog w = .ok true w := commit_self ⟨x.c, x.s, x.h, x.n, x.b, x.m⟩ hh w
theorem Wce.Ok.li {w : World} {S : List Nat} {x : Wce} (h : x.Ok w S) : x.Li w S := ⟨h.k, h.l, Nat.le_trans h.n (by omega), h.ap⟩
theorem Wtb.Ok.li {w : World} {S : List Nat} {x : Wtb} (h : x.Ok w S) : x.Li w S := ⟨h.i, h.l, Nat.le_trans h.n (by omega), h.ap⟩
theorem Wpr.Ok.li {w : World} {S : List Nat} {x : Wpr} (h : x.Ok w S) : x.Li w S := ⟨h.r, h.e, h.t, ⟨h.l.1, fun v hv => ⟨(h.l.2.1 v hv).1, (h.l.2.1 v hv).2.li⟩, h.l.2.2⟩, Nat.le_trans h.n (by omega), h.ap, h.b, h.m⟩
theorem Wba.Ok.li {w : World} {S : List Nat} {x : Wba} (h : x.Ok w S) : x.Li w S := ⟨h.e, h.t, ⟨h.l.1, fun v hv => ⟨(h.l.2.1 v hv).1, (h.l.2.1 v hv).2.li⟩, h.l.2.2⟩, Nat.le_trans h.n (by omega), h.ap, h.l2, Nat.le_trans h.n2 (by omega), h.ap2, ⟨h.l3.1, fun v hv => ⟨(h.l3.2.1 v hv).1, (h.l3.2.1 v hv).2.li⟩, h.l3.2.2⟩, Nat.le_trans h.n3 (by omega), h.ap3⟩

set_option maxHeartbeats 2000000 in
theorem opening_eq (x y : Wop) (w : World) (hx : x.Ok w []) (hy : y.Ok w []) (he : x.con = y.con) (C D : List Value) (hC : x.cells = C) (hD : y.cells = D) :
    Calls Try.prog 67 #[.agg C.toArray, .agg D.toArray] w fun e w' => e = .returned (.bool true) ∧ Fr [] w w' := by
  obtain ⟨wa, hwa⟩ : ∃ wa, wa = (w.alloc (Obj.cells C.toArray 81)).alloc (Obj.cells D.toArray 81) := ⟨_, rfl⟩
  have hf0 : Fr [] w wa := by rw [hwa]; exact ((Fr.refl [] w).alloc _).alloc _
  have hb0 : Blk wa w.heap.size 81 x.cells.toArray := by rw [hwa, hC]; exact blk_alloc (Blk.new _ _ _)
  have hb1 : Blk wa (w.heap.size + 1) 81 y.cells.toArray := by
    have := Blk.new (w.alloc (Obj.cells C.toArray 81)) 81 D.toArray
    rw [hwa, hD]
    simpa using this
  obtain ⟨i, A, n, d, p, h⟩ := x
  obtain ⟨i', B, m, d', p', h'⟩ := y
  unfold Wop.con at he
  simp only [Cop.mk.injEq] at he
  obtain ⟨rfl, rfl, rfl⟩ := he
  have hr0 := hb0.range
  have hr1 := hb1.range
  have h00 : wa.cell? ⟨w.heap.size, 0, none⟩ = some (.int .i64 i) := by have h := hr0 0 _ rfl; simpa using h
  have h10 : wa.cell? ⟨w.heap.size + 1, 0, none⟩ = some (.int .i64 i) := by have h := hr1 0 _ rfl; simpa using h
  have h01 : wa.cell? ⟨w.heap.size, 1, none⟩ = some (.slice A n d) := by have h := hr0 1 _ rfl; simpa using h
  have h11 : wa.cell? ⟨w.heap.size + 1, 1, none⟩ = some (.slice B m d') := by have h := hr1 1 _ rfl; simpa using h
  have HH0 : Hid (wa.rangeAt w.heap.size 2 (h.map by8)) := Lib.hid (rangeAt_sub (o := 0) (xs := [.int .i64 i, .slice A n d]) (ys := h.map by8) (zs := []) hr0)
  have HH1 : Hid (wa.rangeAt (w.heap.size + 1) 2 (h.map by8)) := Lib.hid (rangeAt_sub (o := 0) (xs := [.int .i64 i, .slice B m d']) (ys := h.map by8) (zs := []) hr1)
  have HHL : Hid ((h.map by8).length = 32) := Lib.hid (by rw [List.length_map]; exact hx.h)
  have HEQ : Hid ((Op.equalIn 10000 25 (.agg (h.map by8).toArray) (.agg (h.map by8).toArray)).run Try.prog wa = .ok true wa) := Lib.hid (by
    have h := eql_hash h h hx.h hx.h 9998 wa
    simpa using h)
  have HF0 := Lib.hid hf0
  have HWA := Lib.hid hwa
  have HX := Lib.hid hx
  have HY := Lib.hid hy
  have hii : (i == i) = true := by simp
  clear hwa hf0 hb0 hb1 hr0 hr1 hx hy hC hD
  generalize hHV : h.map by8 = HV at *
  clear hHV
  go_enter Try.func67, Try.ntmps67
  go_upto_region 1 with (fail)
  change Code.wp _ _ _ _ ((w.alloc (Obj.cells C.toArray 81)).alloc (Obj.cells D.toArray 81))
  rw [← HWA.out]
  go_wp2_with (first
    | (refine wpList_midg rfl 25 _ rfl w.heap.size 2 rfl HV HH0.out (row_hs.of HHL.out) ?_)
    | (refine wpList_midg rfl 25 _ rfl (w.heap.size + 1) 2 rfl HV HH1.out (row_hs.of HHL.out) ?_)
    | (refine wpList_eqlg rfl 25 _ _ _ rfl HV.toArray HV.toArray rfl rfl true (by kernel_rfl) HEQ.out ?_))
  refine (same_any A B n m d d' p p wa (HX.out.p.keep HF0.out (by simp)) (HY.out.p.keep HF0.out (by simp)) (by have h1 : n ≤ 260 := HX.out.n; omega)).mono ?_
  rintro e w1 ⟨rfl, k1, hw1⟩
  simp only [decide_true]
  have HF1 : Hid (Fr [] w w1) := Lib.hid (by rw [hw1]; exact HF0.out.drewN _)
  clear hw1 h00 h10 h01 h11 hii
  go_wp2
  go_ret
  exact ⟨rfl, HF1.out⟩

set_option maxHeartbeats 4000000 in
theorem denies_eq (A B : Option Addr) (n d d' : Nat) (l m : List Wdn) (w : World) (hl : Lst 4 Wdn.cells (fun _ v => v.Ok) w A n l) (hm : Lst 4 Wdn.cells (fun _ v => v.Ok) w B n m) (hlm : l.map id = m.map id) (hn : n ≤ 1000) :
    Calls Try.prog 87 #[.slice A n d, .slice B n d'] w fun e w' => e = .returned (.bool true) ∧ Fr [] w w' := by
  have HL := Lib.hid hl
  have HM := Lib.hid hm
  have HLM := Lib.hid hlm
  have HN := Lib.hid hn
  have hn1 : (n : Int) ≤ 9223372036854775807 := by omega
  have hnn : ((n : Int) != (n : Int)) = false := by simp
  clear hl hm hn hlm
  go_enter Try.func87, Try.ntmps87
  go_wp2_with fail
  clear hnn
  go_loopw [5] (fun i wr => ∃ j : Nat, j ≤ n ∧ i = .int .i64 j ∧ Hid (Fr [] w wr)) (fun i _ => n - (intOf i).toNat)
  case atStart => exact ⟨0, by omega, rfl, Lib.hid (Fr.refl _ _)⟩
  case round =>
    obtain ⟨j, hj, rfl, HF⟩ := hrel
    by_cases hlt : j < n
    · obtain ⟨ad, v, hA, hv, hcl, hok, hcells⟩ := HL.out.at (i := j) hlt
      obtain ⟨bd, u, hB, hu, hclu, hoku, hcellu⟩ := HM.out.at (i := j) hlt
      subst hA
      subst hB
      have HVU := Lib.hid (map_at HLM.out hv hu)
      have HCELLS : Hid (∀ i c, (Wdn.cells v)[i]? = some c → wr.cell? ((ad.add (j * 4)).add i) = some c) := Lib.hid (fun i c hc => HF.out.cell (hcells i c hc) (by simp))
      have HCELLU : Hid (∀ i c, (Wdn.cells u)[i]? = some c → wr.cell? ((bd.add (j * 4)).add i) = some c) := Lib.hid (fun i c hc => HF.out.cell (hcellu i c hc) (by simp))
      have HCL := Lib.hid hcl
      have HCLU := Lib.hid hclu
      have HOK := Lib.hid hok
      have HOKU := Lib.hid hoku
      have HJN := Lib.hid hlt
      have hj0 : (0 : Int) ≤ j := by omega
      clear hcells hcl hok hv hcellu hclu hoku hu
      have hvu : v = u := HVU.out
      subst hvu
      have HEQ : Hid (∀ W : World, (Op.equalIn 10000 83 (.agg v.cells.toArray) (.agg v.cells.toArray)).run Try.prog W = .ok true W) := Lib.hid (fun W => by have h := eql_Wdn v v W; rw [(Wdn.eqB_iff v v).2 rfl] at h; exact h)
      go_upto_region 6 with (fail)
      refine wp_region_held_drew (S := Fr [] wr) (by kernel_rfl) (Fr.drew (Fr.refl _ wr)) (fun hHeld => ?_)
      generalize wr.drew = w9 at *
      refine run_at (i := 0) (v := ?_) rfl (by kernel_rfl) (by rfl) (fun _ _ _ h => h) hHeld (fun w1 hw1 => ?_) ?_
      rotate_left 1
      · skip
        go_simp
        (try (first | with_reducible rfl | (apply And.intro <;> rfl)))
      simp only [Act.put, List.setIfInBounds_toArray, List.set_cons_zero, List.set_cons_succ]
      refine run_at (i := 1) (v := ?_) rfl (by kernel_rfl) (by rfl) (fun _ _ _ h => h) hHeld (fun w1 hw1 => ?_) ?_
      rotate_left 1
      · skip
        go_simp
        (try (first | with_reducible rfl | (apply And.intro <;> rfl)))
      simp only [Act.put, List.setIfInBounds_toArray, List.set_cons_zero, List.set_cons_succ]
      refine run_at (i := 2) (v := ?_) rfl (by kernel_rfl) (by rfl) (fun _ _ _ h => h) hHeld (fun w1 hw1 => ?_) ?_
      rotate_left 1
      · skip
        go_simp
        (try (first | with_reducible rfl | (apply And.intro <;> rfl)))
      simp only [Act.put, List.setIfInBounds_toArray, List.set_cons_zero, List.set_cons_succ]
      refine crow_at (i := 3) rfl (by kernel_rfl) (by rfl) _ _ rfl _ rfl _ (fun w1 hw1 j v hv => hw1.cell ((HCELLS.out) j v hv) (by simp)) (row_dnS.of HCL.out) (fun _ _ _ h => h) hHeld ?_
      simp only [Act.put, List.setIfInBounds_toArray, List.set_cons_zero, List.set_cons_succ]
      refine run_at (i := 4) (v := ?_) rfl (by kernel_rfl) (by rfl) (fun _ _ _ h => h) hHeld (fun w1 hw1 => ?_) ?_
      rotate_left 1
      · skip
        go_simp
        (try (first | with_reducible rfl | (apply And.intro <;> rfl)))
      simp only [Act.put, List.setIfInBounds_toArray, List.set_cons_zero, List.set_cons_succ]
      refine run_at (i := 5) (v := ?_) rfl (by kernel_rfl) (by rfl) (fun _ _ _ h => h) hHeld (fun w1 hw1 => ?_) ?_
      rotate_left 1
      · skip
        go_simp
        (try (first | with_reducible rfl | (apply And.intro <;> rfl)))
      simp only [Act.put, List.setIfInBounds_toArray, List.set_cons_zero, List.set_cons_succ]
      refine run_at (i := 6) (v := ?_) rfl (by kernel_rfl) (by rfl) (fun _ _ _ h => h) hHeld (fun w1 hw1 => ?_) ?_
      rotate_left 1
      · skip
        go_simp
        (try (first | with_reducible rfl | (apply And.intro <;> rfl)))
      simp only [Act.put, List.setIfInBounds_toArray, List.set_cons_zero, List.set_cons_succ]
      refine crow_at (i := 7) rfl (by kernel_rfl) (by rfl) _ _ rfl _ rfl _ (fun w1 hw1 j v hv => hw1.cell ((HCELLU.out) j v hv) (by simp)) (row_dnS.of HCLU.out) (fun _ _ _ h => h) hHeld ?_
      simp only [Act.put, List.setIfInBounds_toArray, List.set_cons_zero, List.set_cons_succ]
      refine neq_at (i := 8) rfl (by kernel_rfl) (by rfl) _ _ _ _ rfl _ _ rfl rfl _ (by kernel_rfl) (HEQ.out) (fun _ _ _ h => h) hHeld ?_
      simp only [Act.put, List.setIfInBounds_toArray, List.set_cons_zero, List.set_cons_succ]
      refine wpAnyH_done (by kernel_rfl) ?_ _
      have HF9 : Hid (Fr [] w w9) := Lib.hid (HF.out.and hHeld (by simp))
      clear hHeld HCELLS HCL HCELLU HCLU HVU
      clear HOK HOKU
      go_wp2
      go_roundw
      case rel => exact ⟨j + 1, by have := HJN.out; omega, by go_num, HF9⟩
      case measure => have := HJN.out; simp [intOf]; omega
    · have hjn : n = j := by omega
      subst hjn
      clear hlt hj
      go_wp2
      go_ret
      exact ⟨rfl, HF.out⟩

set_option maxHeartbeats 4000000 in
theorem stamps_eq (A B : Option Addr) (n d d' : Nat) (l m : List Wst) (w : World) (hl : Lst 38 Wst.cells (fun _ v => v.Ok) w A n l) (hm : Lst 38 Wst.cells (fun _ v => v.Ok) w B n m) (hlm : l.map id = m.map id) (hn : n ≤ 1000) :
    Calls Try.prog 47 #[.slice A n d, .slice B n d'] w fun e w' => e = .returned (.bool true) ∧ Fr [] w w' := by
  have HL := Lib.hid hl
  have HM := Lib.hid hm
  have HLM := Lib.hid hlm
  have HN := Lib.hid hn
  have hn1 : (n : Int) ≤ 9223372036854775807 := by omega
  have hnn : ((n : Int) != (n : Int)) = false := by simp
  clear hl hm hn hlm
  go_enter Try.func47, Try.ntmps47
  go_wp2_with fail
  clear hnn
  go_loopw [5] (fun i wr => ∃ j : Nat, j ≤ n ∧ i = .int .i64 j ∧ Hid (Fr [] w wr)) (fun i _ => n - (intOf i).toNat)
  case atStart => exact ⟨0, by omega, rfl, Lib.hid (Fr.refl _ _)⟩
  case round =>
    obtain ⟨j, hj, rfl, HF⟩ := hrel
    by_cases hlt : j < n
    · obtain ⟨ad, v, hA, hv, hcl, hok, hcells⟩ := HL.out.at (i := j) hlt
      obtain ⟨bd, u, hB, hu, hclu, hoku, hcellu⟩ := HM.out.at (i := j) hlt
      subst hA
      subst hB
      have HVU := Lib.hid (map_at HLM.out hv hu)
      have HCELLS : Hid (∀ i c, (Wst.cells v)[i]? = some c → wr.cell? ((ad.add (j * 38)).add i) = some c) := Lib.hid (fun i c hc => HF.out.cell (hcells i c hc) (by simp))
      have HCELLU : Hid (∀ i c, (Wst.cells u)[i]? = some c → wr.cell? ((bd.add (j * 38)).add i) = some c) := Lib.hid (fun i c hc => HF.out.cell (hcellu i c hc) (by simp))
      have HCL := Lib.hid hcl
      have HCLU := Lib.hid hclu
      have HOK := Lib.hid hok
      have HOKU := Lib.hid hoku
      have HJN := Lib.hid hlt
      have hj0 : (0 : Int) ≤ j := by omega
      clear hcells hcl hok hv hcellu hclu hoku hu
      have hvu : v = u := HVU.out
      subst hvu
      have HEQ : Hid (∀ W : World, (Op.equalIn 10000 71 (.agg v.cells.toArray) (.agg v.cells.toArray)).run Try.prog W = .ok true W) := Lib.hid (fun W => by have h := eql_Wst v v HOK.out.h HOK.out.h W; rw [(Wst.eqB_iff v v).2 rfl] at h; exact h)
      go_upto_region 6 with (fail)
      refine wp_region_held_drew (S := Fr [] wr) (by kernel_rfl) (Fr.drew (Fr.refl _ wr)) (fun hHeld => ?_)
      generalize wr.drew = w9 at *
      refine run_at (i := 0) (v := ?_) rfl (by kernel_rfl) (by rfl) (fun _ _ _ h => h) hHeld (fun w1 hw1 => ?_) ?_
      rotate_left 1
      · skip
        go_simp
        (try (first | with_reducible rfl | (apply And.intro <;> rfl)))
      simp only [Act.put, List.setIfInBounds_toArray, List.set_cons_zero, List.set_cons_succ]
      refine run_at (i := 1) (v := ?_) rfl (by kernel_rfl) (by rfl) (fun _ _ _ h => h) hHeld (fun w1 hw1 => ?_) ?_
      rotate_left 1
      · skip
        go_simp
        (try (first | with_reducible rfl | (apply And.intro <;> rfl)))
      simp only [Act.put, List.setIfInBounds_toArray, List.set_cons_zero, List.set_cons_succ]
      refine run_at (i := 2) (v := ?_) rfl (by kernel_rfl) (by rfl) (fun _ _ _ h => h) hHeld (fun w1 hw1 => ?_) ?_
      rotate_left 1
      · skip
        go_simp
        (try (first | with_reducible rfl | (apply And.intro <;> rfl)))
      simp only [Act.put, List.setIfInBounds_toArray, List.set_cons_zero, List.set_cons_succ]
      refine crow_at (i := 3) rfl (by kernel_rfl) (by rfl) _ _ rfl _ rfl _ (fun w1 hw1 j v hv => hw1.cell ((HCELLS.out) j v hv) (by simp)) (row_stm.of HCL.out) (fun _ _ _ h => h) hHeld ?_
      simp only [Act.put, List.setIfInBounds_toArray, List.set_cons_zero, List.set_cons_succ]
      refine run_at (i := 4) (v := ?_) rfl (by kernel_rfl) (by rfl) (fun _ _ _ h => h) hHeld (fun w1 hw1 => ?_) ?_
      rotate_left 1
      · skip
        go_simp
        (try (first | with_reducible rfl | (apply And.intro <;> rfl)))
      simp only [Act.put, List.setIfInBounds_toArray, List.set_cons_zero, List.set_cons_succ]
      refine run_at (i := 5) (v := ?_) rfl (by kernel_rfl) (by rfl) (fun _ _ _ h => h) hHeld (fun w1 hw1 => ?_) ?_
      rotate_left 1
      · skip
        go_simp
        (try (first | with_reducible rfl | (apply And.intro <;> rfl)))
      simp only [Act.put, List.setIfInBounds_toArray, List.set_cons_zero, List.set_cons_succ]
      refine run_at (i := 6) (v := ?_) rfl (by kernel_rfl) (by rfl) (fun _ _ _ h => h) hHeld (fun w1 hw1 => ?_) ?_
      rotate_left 1
      · skip
        go_simp
        (try (first | with_reducible rfl | (apply And.intro <;> rfl)))
      simp only [Act.put, List.setIfInBounds_toArray, List.set_cons_zero, List.set_cons_succ]
      refine crow_at (i := 7) rfl (by kernel_rfl) (by rfl) _ _ rfl _ rfl _ (fun w1 hw1 j v hv => hw1.cell ((HCELLU.out) j v hv) (by simp)) (row_stm.of HCLU.out) (fun _ _ _ h => h) hHeld ?_
      simp only [Act.put, List.setIfInBounds_toArray, List.set_cons_zero, List.set_cons_succ]
      refine neq_at (i := 8) rfl (by kernel_rfl) (by rfl) _ _ _ _ rfl _ _ rfl rfl _ (by kernel_rfl) (HEQ.out) (fun _ _ _ h => h) hHeld ?_
      simp only [Act.put, List.setIfInBounds_toArray, List.set_cons_zero, List.set_cons_succ]
      refine wpAnyH_done (by kernel_rfl) ?_ _
      have HF9 : Hid (Fr [] w w9) := Lib.hid (HF.out.and hHeld (by simp))
      clear hHeld HCELLS HCL HCELLU HCLU HVU
      clear HOK HOKU
      go_wp2
      go_roundw
      case rel => exact ⟨j + 1, by have := HJN.out; omega, by go_num, HF9⟩
      case measure => have := HJN.out; simp [intOf]; omega
    · have hjn : n = j := by omega
      subst hjn
      clear hlt hj
      go_wp2
      go_ret
      exact ⟨rfl, HF.out⟩

set_option maxHeartbeats 4000000 in
theorem openings_eq (A B : Option Addr) (n d d' : Nat) (l m : List Wop) (w : World) (hl : Lst 34 Wop.cells (fun w v => v.Ok w []) w A n l) (hm : Lst 34 Wop.cells (fun w v => v.Ok w []) w B n m) (hlm : l.map Wop.con = m.map Wop.con) (hn : n ≤ 1000) :
    Calls Try.prog 55 #[.slice A n d, .slice B n d'] w fun e w' => e = .returned (.bool true) ∧ Fr [] w w' := by
  have HL := Lib.hid hl
  have HM := Lib.hid hm
  have HLM := Lib.hid hlm
  have HN := Lib.hid hn
  have hn1 : (n : Int) ≤ 9223372036854775807 := by omega
  have hnn : ((n : Int) != (n : Int)) = false := by simp
  clear hl hm hn hlm
  go_enter Try.func55, Try.ntmps55
  go_wp2_with fail
  clear hnn
  go_loopw [13] (fun i wr => ∃ j : Nat, j ≤ n ∧ i = .int .i64 j ∧ Hid (Fr [] w wr)) (fun i _ => n - (intOf i).toNat)
  case atStart => exact ⟨0, by omega, rfl, Lib.hid (Fr.refl _ _)⟩
  case round =>
    obtain ⟨j, hj, rfl, HF⟩ := hrel
    by_cases hlt : j < n
    · obtain ⟨ad, v, hA, hv, hcl, hok, hcells⟩ := HL.out.at (i := j) hlt
      obtain ⟨bd, u, hB, hu, hclu, hoku, hcellu⟩ := HM.out.at (i := j) hlt
      subst hA
      subst hB
      have HVU := Lib.hid (map_at HLM.out hv hu)
      have HCELLS : Hid (∀ i c, (Wop.cells v)[i]? = some c → wr.cell? ((ad.add (j * 34)).add i) = some c) := Lib.hid (fun i c hc => HF.out.cell (hcells i c hc) (by simp))
      have HCELLU : Hid (∀ i c, (Wop.cells u)[i]? = some c → wr.cell? ((bd.add (j * 34)).add i) = some c) := Lib.hid (fun i c hc => HF.out.cell (hcellu i c hc) (by simp))
      have HCL := Lib.hid hcl
      have HCLU := Lib.hid hclu
      have HOK := Lib.hid hok
      have HOKU := Lib.hid hoku
      have HJN := Lib.hid hlt
      have hj0 : (0 : Int) ≤ j := by omega
      clear hcells hcl hok hv hcellu hclu hoku hu
      go_upto_region 6 with (fail)
      refine wp_region_held_drew (S := Fr [] wr) (by kernel_rfl) (Fr.drew (Fr.refl _ wr)) (fun hHeld => ?_)
      generalize wr.drew = wd at *
      refine run_at (i := 0) (v := ?_) rfl (by kernel_rfl) (by rfl) (fun _ _ _ h => h) hHeld (fun w1 hw1 => ?_) ?_
      rotate_left 1
      · skip
        go_simp
        (try (first | with_reducible rfl | (apply And.intro <;> rfl)))
      simp only [Act.put, List.setIfInBounds_toArray, List.set_cons_zero, List.set_cons_succ]
      refine run_at (i := 1) (v := ?_) rfl (by kernel_rfl) (by rfl) (fun _ _ _ h => h) hHeld (fun w1 hw1 => ?_) ?_
      rotate_left 1
      · skip
        go_simp
        (try (first | with_reducible rfl | (apply And.intro <;> rfl)))
      simp only [Act.put, List.setIfInBounds_toArray, List.set_cons_zero, List.set_cons_succ]
      refine run_at (i := 2) (v := ?_) rfl (by kernel_rfl) (by rfl) (fun _ _ _ h => h) hHeld (fun w1 hw1 => ?_) ?_
      rotate_left 1
      · skip
        go_simp
        (try (first | with_reducible rfl | (apply And.intro <;> rfl)))
      simp only [Act.put, List.setIfInBounds_toArray, List.set_cons_zero, List.set_cons_succ]
      refine crow_at (i := 3) rfl (by kernel_rfl) (by rfl) _ _ rfl _ rfl _ (fun w1 hw1 j v hv => hw1.cell ((HCELLS.out) j v hv) (by simp)) (row_opS.of HCL.out) (fun _ _ _ h => h) hHeld ?_
      simp only [Act.put, List.setIfInBounds_toArray, List.set_cons_zero, List.set_cons_succ]
      refine run_at (i := 4) (v := ?_) rfl (by kernel_rfl) (by rfl) (fun _ _ _ h => h) hHeld (fun w1 hw1 => ?_) ?_
      rotate_left 1
      · skip
        go_simp
        (try (first | with_reducible rfl | (apply And.intro <;> rfl)))
      simp only [Act.put, List.setIfInBounds_toArray, List.set_cons_zero, List.set_cons_succ]
      refine run_at (i := 5) (v := ?_) rfl (by kernel_rfl) (by rfl) (fun _ _ _ h => h) hHeld (fun w1 hw1 => ?_) ?_
      rotate_left 1
      · skip
        go_simp
        (try (first | with_reducible rfl | (apply And.intro <;> rfl)))
      simp only [Act.put, List.setIfInBounds_toArray, List.set_cons_zero, List.set_cons_succ]
      refine run_at (i := 6) (v := ?_) rfl (by kernel_rfl) (by rfl) (fun _ _ _ h => h) hHeld (fun w1 hw1 => ?_) ?_
      rotate_left 1
      · skip
        go_simp
        (try (first | with_reducible rfl | (apply And.intro <;> rfl)))
      simp only [Act.put, List.setIfInBounds_toArray, List.set_cons_zero, List.set_cons_succ]
      refine crow_at (i := 7) rfl (by kernel_rfl) (by rfl) _ _ rfl _ rfl _ (fun w1 hw1 j v hv => hw1.cell ((HCELLU.out) j v hv) (by simp)) (row_opS.of HCLU.out) (fun _ _ _ h => h) hHeld ?_
      simp only [Act.put, List.setIfInBounds_toArray, List.set_cons_zero, List.set_cons_succ]
      refine call_at (i := 8) (f := ?_) (args := ?_) rfl (by kernel_rfl) (by rfl) ?_ ?_
      rotate_left 2
      · go_simp
        (try (first | with_reducible rfl | (apply And.intro <;> rfl)))
      refine (opening_eq v u wd (Wop.Ok.keep HOK.out (HF.out.and hHeld (by simp)) (by simp)) (Wop.Ok.keep HOKU.out (HF.out.and hHeld (by simp)) (by simp)) HVU.out _ _ rfl rfl).mono ?_
      rintro e_ w9 ⟨rfl, hf⟩
      refine ⟨_, rfl, hHeld.and hf (by simp), fun hHeld => ?_⟩
      clear hf
      simp only [Act.put, List.setIfInBounds_toArray, List.set_cons_zero, List.set_cons_succ]
      refine run_at (i := 9) (v := ?_) rfl (by kernel_rfl) (by rfl) (fun _ _ _ h => h) hHeld (fun w1 hw1 => ?_) ?_
      rotate_left 1
      · skip
        go_simp
        (try (first | with_reducible rfl | (apply And.intro <;> rfl)))
      simp only [Act.put, List.setIfInBounds_toArray, List.set_cons_zero, List.set_cons_succ]
      refine wpAnyH_done (by kernel_rfl) ?_ _
      have HF9 : Hid (Fr [] w w9) := Lib.hid (HF.out.and hHeld (by simp))
      clear hHeld HCELLS HCL HCELLU HCLU HVU
      clear HOK HOKU
      go_wp2
      go_roundw
      case rel => exact ⟨j + 1, by have := HJN.out; omega, by go_num, HF9⟩
      case measure => have := HJN.out; simp [intOf]; omega
    · have hjn : n = j := by omega
      subst hjn
      clear hlt hj
      go_wp2
      go_ret
      exact ⟨rfl, HF.out⟩

set_option maxHeartbeats 4000000 in
theorem tombs_eq (A B : Option Addr) (n d d' : Nat) (l m : List Wtb) (w : World) (hl : Lst 2 Wtb.cells (fun w v => v.Li w []) w A n l) (hm : Lst 2 Wtb.cells (fun w v => v.Li w []) w B n m) (hlm : l.map Wtb.con = m.map Wtb.con) (hn : n ≤ 1000) :
    Calls Try.prog 56 #[.slice A n d, .slice B n d'] w fun e w' => e = .returned (.bool true) ∧ Fr [] w w' := by
  have HL := Lib.hid hl
  have HM := Lib.hid hm
  have HLM := Lib.hid hlm
  have HN := Lib.hid hn
  have hn1 : (n : Int) ≤ 9223372036854775807 := by omega
  have hnn : ((n : Int) != (n : Int)) = false := by simp
  clear hl hm hn hlm
  go_enter Try.func56, Try.ntmps56
  go_wp2_with fail
  clear hnn
  go_loopw [13] (fun i wr => ∃ j : Nat, j ≤ n ∧ i = .int .i64 j ∧ Hid (Fr [] w wr)) (fun i _ => n - (intOf i).toNat)
  case atStart => exact ⟨0, by omega, rfl, Lib.hid (Fr.refl _ _)⟩
  case round =>
    obtain ⟨j, hj, rfl, HF⟩ := hrel
    by_cases hlt : j < n
    · obtain ⟨ad, v, hA, hv, hcl, hok, hcells⟩ := HL.out.at (i := j) hlt
      obtain ⟨bd, u, hB, hu, hclu, hoku, hcellu⟩ := HM.out.at (i := j) hlt
      subst hA
      subst hB
      have HVU := Lib.hid (map_at HLM.out hv hu)
      have HCELLS : Hid (∀ i c, (Wtb.cells v)[i]? = some c → wr.cell? ((ad.add (j * 2)).add i) = some c) := Lib.hid (fun i c hc => HF.out.cell (hcells i c hc) (by simp))
      have HCELLU : Hid (∀ i c, (Wtb.cells u)[i]? = some c → wr.cell? ((bd.add (j * 2)).add i) = some c) := Lib.hid (fun i c hc => HF.out.cell (hcellu i c hc) (by simp))
      have HCL := Lib.hid hcl
      have HCLU := Lib.hid hclu
      have HOK := Lib.hid hok
      have HOKU := Lib.hid hoku
      have HJN := Lib.hid hlt
      have hj0 : (0 : Int) ≤ j := by omega
      clear hcells hcl hok hv hcellu hclu hoku hu
      have HC0 : Hid (wr.cell? (ad.add (j * 2)) = some (.int .i64 v.i)) := Lib.hid (by have h := HCELLS.out 0 _ rfl; simpa [Addr.add] using h)
      have HC1 : Hid (wr.cell? ⟨(ad.add (j * 2)).block, (ad.add (j * 2)).off + 1, none⟩ = some (.slice v.A v.n v.d)) := Lib.hid (by have h := HCELLS.out 1 _ rfl; rw [fld_add] at h; exact h)
      have HVI : Hid (v.i = u.i ∧ v.l = u.l) := Lib.hid (by have h := HVU.out; unfold Wtb.con at h; simpa using h)
      have HD0 : Hid (wr.cell? (bd.add (j * 2)) = some (.int .i64 v.i)) := Lib.hid (by rw [HVI.out.1]; have h := HCELLU.out 0 _ rfl; simpa [Addr.add] using h)
      have HNN : Hid (u.n = v.n) := Lib.hid (by rw [← HOKU.out.l.1, ← HOK.out.l.1, HVI.out.2])
      have HD1 : Hid (wr.cell? ⟨(bd.add (j * 2)).block, (bd.add (j * 2)).off + 1, none⟩ = some (.slice u.A v.n u.d)) := Lib.hid (by rw [← HNN.out]; have h := HCELLU.out 1 _ rfl; rw [fld_add] at h; exact h)
      have HII : Hid ((v.i != v.i) = false) := Lib.hid (by simp)
      go_upto_region 6 with (fail)
      refine wp_region_held_drew (S := Fr [] wr) (by kernel_rfl) (Fr.drew (Fr.refl _ wr)) (fun hHeld => ?_)
      generalize wr.drew = wd at *
      refine run_at (i := 0) (v := ?_) rfl (by kernel_rfl) (by rfl) (fun _ _ _ h => h) hHeld (fun w1 hw1 => ?_) ?_
      rotate_left 1
      · skip
        go_simp
        (try (first | with_reducible rfl | (apply And.intro <;> rfl)))
      simp only [Act.put, List.setIfInBounds_toArray, List.set_cons_zero, List.set_cons_succ]
      refine run_at (i := 1) (v := ?_) rfl (by kernel_rfl) (by rfl) (fun _ _ _ h => h) hHeld (fun w1 hw1 => ?_) ?_
      rotate_left 1
      · skip
        go_simp
        (try (first | with_reducible rfl | (apply And.intro <;> rfl)))
      simp only [Act.put, List.setIfInBounds_toArray, List.set_cons_zero, List.set_cons_succ]
      refine run_at (i := 2) (v := ?_) rfl (by kernel_rfl) (by rfl) (fun _ _ _ h => h) hHeld (fun w1 hw1 => ?_) ?_
      rotate_left 1
      · skip
        go_simp
        (try (first | with_reducible rfl | (apply And.intro <;> rfl)))
      simp only [Act.put, List.setIfInBounds_toArray, List.set_cons_zero, List.set_cons_succ]
      refine run_at (i := 3) (v := ?_) rfl (by kernel_rfl) (by rfl) (fun _ _ _ h => h) hHeld (fun w1 hw1 => ?_) ?_
      rotate_left 1
      · skip
        go_simp
        (try (first | with_reducible rfl | (apply And.intro <;> rfl)))
      simp only [Act.put, List.setIfInBounds_toArray, List.set_cons_zero, List.set_cons_succ]
      refine run_at (i := 4) (v := ?_) rfl (by kernel_rfl) (by rfl) (fun _ _ _ h => h) hHeld (fun w1 hw1 => ?_) ?_
      rotate_left 1
      · skip
        have hcw0 := hw1.cell (HC0.out) (by first | (simp; done) | exact HNS.out | exact HNW.out | (intro hm; have hlt := HSB.out _ hm; (try dsimp only at hlt); omega))
        go_simp
        (try (first | with_reducible rfl | (apply And.intro <;> rfl)))
      simp only [Act.put, List.setIfInBounds_toArray, List.set_cons_zero, List.set_cons_succ]
      refine run_at (i := 5) (v := ?_) rfl (by kernel_rfl) (by rfl) (fun _ _ _ h => h) hHeld (fun w1 hw1 => ?_) ?_
      rotate_left 1
      · skip
        go_simp
        (try (first | with_reducible rfl | (apply And.intro <;> rfl)))
      simp only [Act.put, List.setIfInBounds_toArray, List.set_cons_zero, List.set_cons_succ]
      refine run_at (i := 6) (v := ?_) rfl (by kernel_rfl) (by rfl) (fun _ _ _ h => h) hHeld (fun w1 hw1 => ?_) ?_
      rotate_left 1
      · skip
        go_simp
        (try (first | with_reducible rfl | (apply And.intro <;> rfl)))
      simp only [Act.put, List.setIfInBounds_toArray, List.set_cons_zero, List.set_cons_succ]
      refine run_at (i := 7) (v := ?_) rfl (by kernel_rfl) (by rfl) (fun _ _ _ h => h) hHeld (fun w1 hw1 => ?_) ?_
      rotate_left 1
      · skip
        go_simp
        (try (first | with_reducible rfl | (apply And.intro <;> rfl)))
      simp only [Act.put, List.setIfInBounds_toArray, List.set_cons_zero, List.set_cons_succ]
      refine run_at (i := 8) (v := ?_) rfl (by kernel_rfl) (by rfl) (fun _ _ _ h => h) hHeld (fun w1 hw1 => ?_) ?_
      rotate_left 1
      · skip
        go_simp
        (try (first | with_reducible rfl | (apply And.intro <;> rfl)))
      simp only [Act.put, List.setIfInBounds_toArray, List.set_cons_zero, List.set_cons_succ]
      refine run_at (i := 9) (v := ?_) rfl (by kernel_rfl) (by rfl) (fun _ _ _ h => h) hHeld (fun w1 hw1 => ?_) ?_
      rotate_left 1
      · skip
        have hcw0 := hw1.cell (HD0.out) (by first | (simp; done) | exact HNS.out | exact HNW.out | (intro hm; have hlt := HSB.out _ hm; (try dsimp only at hlt); omega))
        go_simp
        (try (first | with_reducible rfl | (apply And.intro <;> rfl)))
      simp only [Act.put, List.setIfInBounds_toArray, List.set_cons_zero, List.set_cons_succ]
      refine run_at (i := 10) (v := ?_) rfl (by kernel_rfl) (by rfl) (fun _ _ _ h => h) hHeld (fun w1 hw1 => ?_) ?_
      rotate_left 1
      · skip
        go_simp
        (try (first | with_reducible rfl | (apply And.intro <;> rfl)))
      simp only [Act.put, List.setIfInBounds_toArray, List.set_cons_zero, List.set_cons_succ]
      try rw [HII.out]
      refine run_at (i := 11) (v := ?_) rfl (by kernel_rfl) (by rfl) (fun _ _ _ h => h) hHeld (fun w1 hw1 => ?_) ?_
      rotate_left 1
      · skip
        go_simp
        (try (first | with_reducible rfl | (apply And.intro <;> rfl)))
      simp only [Act.put, List.setIfInBounds_toArray, List.set_cons_zero, List.set_cons_succ]
      refine run_at (i := 12) (v := ?_) rfl (by kernel_rfl) (by rfl) (fun _ _ _ h => h) hHeld (fun w1 hw1 => ?_) ?_
      rotate_left 1
      · skip
        go_simp
        (try (first | with_reducible rfl | (apply And.intro <;> rfl)))
      simp only [Act.put, List.setIfInBounds_toArray, List.set_cons_zero, List.set_cons_succ]
      refine run_at (i := 13) (v := ?_) rfl (by kernel_rfl) (by rfl) (fun _ _ _ h => h) hHeld (fun w1 hw1 => ?_) ?_
      rotate_left 1
      · skip
        go_simp
        (try (first | with_reducible rfl | (apply And.intro <;> rfl)))
      simp only [Act.put, List.setIfInBounds_toArray, List.set_cons_zero, List.set_cons_succ]
      refine run_at (i := 14) (v := ?_) rfl (by kernel_rfl) (by rfl) (fun _ _ _ h => h) hHeld (fun w1 hw1 => ?_) ?_
      rotate_left 1
      · skip
        go_simp
        (try (first | with_reducible rfl | (apply And.intro <;> rfl)))
      simp only [Act.put, List.setIfInBounds_toArray, List.set_cons_zero, List.set_cons_succ]
      refine run_at (i := 15) (v := ?_) rfl (by kernel_rfl) (by rfl) (fun _ _ _ h => h) hHeld (fun w1 hw1 => ?_) ?_
      rotate_left 1
      · skip
        go_simp
        (try (first | with_reducible rfl | (apply And.intro <;> rfl)))
      simp only [Act.put, List.setIfInBounds_toArray, List.set_cons_zero, List.set_cons_succ]
      refine run_at (i := 16) (v := ?_) rfl (by kernel_rfl) (by rfl) (fun _ _ _ h => h) hHeld (fun w1 hw1 => ?_) ?_
      rotate_left 1
      · skip
        have hcw0 := hw1.cell (HC1.out) (by first | (simp; done) | exact HNS.out | exact HNW.out | (intro hm; have hlt := HSB.out _ hm; (try dsimp only at hlt); omega))
        go_simp
        (try (first | with_reducible rfl | (apply And.intro <;> rfl)))
      simp only [Act.put, List.setIfInBounds_toArray, List.set_cons_zero, List.set_cons_succ]
      refine run_at (i := 17) (v := ?_) rfl (by kernel_rfl) (by rfl) (fun _ _ _ h => h) hHeld (fun w1 hw1 => ?_) ?_
      rotate_left 1
      · skip
        go_simp
        (try (first | with_reducible rfl | (apply And.intro <;> rfl)))
      simp only [Act.put, List.setIfInBounds_toArray, List.set_cons_zero, List.set_cons_succ]
      refine run_at (i := 18) (v := ?_) rfl (by kernel_rfl) (by rfl) (fun _ _ _ h => h) hHeld (fun w1 hw1 => ?_) ?_
      rotate_left 1
      · skip
        go_simp
        (try (first | with_reducible rfl | (apply And.intro <;> rfl)))
      simp only [Act.put, List.setIfInBounds_toArray, List.set_cons_zero, List.set_cons_succ]
      refine run_at (i := 19) (v := ?_) rfl (by kernel_rfl) (by rfl) (fun _ _ _ h => h) hHeld (fun w1 hw1 => ?_) ?_
      rotate_left 1
      · skip
        go_simp
        (try (first | with_reducible rfl | (apply And.intro <;> rfl)))
      simp only [Act.put, List.setIfInBounds_toArray, List.set_cons_zero, List.set_cons_succ]
      refine run_at (i := 20) (v := ?_) rfl (by kernel_rfl) (by rfl) (fun _ _ _ h => h) hHeld (fun w1 hw1 => ?_) ?_
      rotate_left 1
      · skip
        go_simp
        (try (first | with_reducible rfl | (apply And.intro <;> rfl)))
      simp only [Act.put, List.setIfInBounds_toArray, List.set_cons_zero, List.set_cons_succ]
      refine run_at (i := 21) (v := ?_) rfl (by kernel_rfl) (by rfl) (fun _ _ _ h => h) hHeld (fun w1 hw1 => ?_) ?_
      rotate_left 1
      · skip
        have hcw0 := hw1.cell (HD1.out) (by first | (simp; done) | exact HNS.out | exact HNW.out | (intro hm; have hlt := HSB.out _ hm; (try dsimp only at hlt); omega))
        go_simp
        (try (first | with_reducible rfl | (apply And.intro <;> rfl)))
      simp only [Act.put, List.setIfInBounds_toArray, List.set_cons_zero, List.set_cons_succ]
      refine call_at (i := 22) (f := ?_) (args := ?_) rfl (by kernel_rfl) (by rfl) ?_ ?_
      rotate_left 2
      · go_simp
        (try (first | with_reducible rfl | (apply And.intro <;> rfl)))
      refine (denies_eq v.A u.A v.n v.d u.d v.l u.l wd (HOK.out.l.keep' (HF.out.and hHeld (by simp)) (by simp) (fun _ _ h => h)) (by rw [← HNN.out]; exact HOKU.out.l.keep' (HF.out.and hHeld (by simp)) (by simp) (fun _ _ h => h)) (by rw [HVI.out.2]) (by have := HOK.out.n; omega)).mono ?_
      rintro e_ w9 ⟨rfl, hf⟩
      refine ⟨_, rfl, hHeld.and hf (by simp), fun hHeld => ?_⟩
      clear hf
      simp only [Act.put, List.setIfInBounds_toArray, List.set_cons_zero, List.set_cons_succ]
      refine run_at (i := 23) (v := ?_) rfl (by kernel_rfl) (by rfl) (fun _ _ _ h => h) hHeld (fun w1 hw1 => ?_) ?_
      rotate_left 1
      · skip
        go_simp
        (try (first | with_reducible rfl | (apply And.intro <;> rfl)))
      simp only [Act.put, List.setIfInBounds_toArray, List.set_cons_zero, List.set_cons_succ]
      refine run_at (i := 24) (v := ?_) rfl (by kernel_rfl) (by rfl) (fun _ _ _ h => h) hHeld (fun w1 hw1 => ?_) ?_
      rotate_left 1
      · skip
        go_simp
        (try (first | with_reducible rfl | (apply And.intro <;> rfl)))
      simp only [Act.put, List.setIfInBounds_toArray, List.set_cons_zero, List.set_cons_succ]
      refine wpAnyH_done (by kernel_rfl) ?_ _
      have HF9 : Hid (Fr [] w w9) := Lib.hid (HF.out.and hHeld (by simp))
      clear hHeld HCELLS HCL HC0 HC1 HCELLU HCLU HD0 HD1 HVU HVI HNN
      clear HOK HOKU
      go_wp2
      go_roundw
      case rel => exact ⟨j + 1, by have := HJN.out; omega, by go_num, HF9⟩
      case measure => have := HJN.out; simp [intOf]; omega
    · have hjn : n = j := by omega
      subst hjn
      clear hlt hj
      go_wp2
      go_ret
      exact ⟨rfl, HF.out⟩

set_option maxHeartbeats 2000000 in
theorem cert_eq (x y : Wce) (w : World) (hx : x.Li w []) (hy : y.Li w []) (he : x.con = y.con) (C D : List Value) (hC : x.cells = C) (hD : y.cells = D) :
    Calls Try.prog 17 #[.agg C.toArray, .agg D.toArray] w fun e w' => e = .returned (.bool true) ∧ Fr [] w w' := by
  obtain ⟨wa, hwa⟩ : ∃ wa, wa = (w.alloc (Obj.cells C.toArray 32)).alloc (Obj.cells D.toArray 32) := ⟨_, rfl⟩
  have hf0 : Fr [] w wa := by rw [hwa]; exact ((Fr.refl [] w).alloc _).alloc _
  have hb0 : Blk wa w.heap.size 32 x.cells.toArray := by rw [hwa, hC]; exact blk_alloc (Blk.new _ _ _)
  have hb1 : Blk wa (w.heap.size + 1) 32 y.cells.toArray := by
    have := Blk.new (w.alloc (Obj.cells C.toArray 32)) 32 D.toArray
    rw [hwa, hD]
    simpa using this
  obtain ⟨k, A, n, d, l⟩ := x
  obtain ⟨k', B, m, d', l'⟩ := y
  unfold Wce.con at he
  simp only [Prod.mk.injEq] at he
  obtain ⟨rfl, rfl⟩ := he
  have hnm : m = n := hy.l.1.symm.trans hx.l.1
  subst hnm
  have hr0 := hb0.range
  have hr1 := hb1.range
  have HKL : Hid (k.cells.length = 37) := Lib.hid (Wcm.len hx.k.h)
  have h01 : wa.cell? ⟨w.heap.size, 37, none⟩ = some (.slice A m d) := by have h := hr0 37 (.slice A m d) (by simp [Wce.cells, HKL.out]); simpa using h
  have h11 : wa.cell? ⟨w.heap.size + 1, 37, none⟩ = some (.slice B m d') := by have h := hr1 37 (.slice B m d') (by simp [Wce.cells, HKL.out]); simpa using h
  have HH0 : Hid (wa.rangeAt w.heap.size 0 k.cells) := Lib.hid (rangeAt_sub (o := 0) (xs := []) (ys := k.cells) (zs := [.slice A m d]) hr0)
  have HH1 : Hid (wa.rangeAt (w.heap.size + 1) 0 k.cells) := Lib.hid (rangeAt_sub (o := 0) (xs := []) (ys := k.cells) (zs := [.slice B m d']) hr1)
  have HEQ : Hid ((Op.equalIn 10000 29 (.agg k.cells.toArray) (.agg k.cells.toArray)).run Try.prog wa = .ok true wa) := Lib.hid (eq_Wcm k hx.k.h wa)
  have HF0 := Lib.hid hf0
  have HWA := Lib.hid hwa
  have HX := Lib.hid hx
  have HY := Lib.hid hy
  clear hwa hf0 hb0 hb1 hr0 hr1 hx hy hC hD
  generalize hKC : k.cells = KC at *
  clear hKC
  go_enter Try.func17, Try.ntmps17
  go_upto_region 1 with (fail)
  change Code.wp _ _ _ _ ((w.alloc (Obj.cells C.toArray 32)).alloc (Obj.cells D.toArray 32))
  rw [← HWA.out]
  go_wp2_with (first
    | (refine wpList_midg rfl 29 _ rfl w.heap.size 0 rfl KC HH0.out (row_cmt.of HKL.out) ?_)
    | (refine wpList_midg rfl 29 _ rfl (w.heap.size + 1) 0 rfl KC HH1.out (row_cmt.of HKL.out) ?_)
    | (refine wpList_eqlg rfl 29 _ _ _ rfl KC.toArray KC.toArray rfl rfl true (by kernel_rfl) HEQ.out ?_))
  refine (stamps_eq A B m d d' l l wa (HX.out.l.keep' HF0.out (by simp) (fun _ _ h => h)) (HY.out.l.keep' HF0.out (by simp) (fun _ _ h => h)) rfl (by have h1 : m ≤ 100 := HX.out.n; omega)).mono ?_
  rintro e w1 ⟨rfl, hf1⟩
  have HF1 : Hid (Fr [] w w1) := Lib.hid (HF0.out.and hf1 (by simp))
  clear hf1 h01 h11
  go_wp2
  go_ret
  exact ⟨rfl, HF1.out⟩

set_option maxHeartbeats 4000000 in
theorem certs_eq (A B : Option Addr) (n d d' : Nat) (l m : List Wce) (w : World) (hl : Lst 38 Wce.cells (fun w v => v.Li w []) w A n l) (hm : Lst 38 Wce.cells (fun w v => v.Li w []) w B n m) (hlm : l.map Wce.con = m.map Wce.con) (hn : n ≤ 1000) :
    Calls Try.prog 51 #[.slice A n d, .slice B n d'] w fun e w' => e = .returned (.bool true) ∧ Fr [] w w' := by
  have HL := Lib.hid hl
  have HM := Lib.hid hm
  have HLM := Lib.hid hlm
  have HN := Lib.hid hn
  have hn1 : (n : Int) ≤ 9223372036854775807 := by omega
  have hnn : ((n : Int) != (n : Int)) = false := by simp
  clear hl hm hn hlm
  go_enter Try.func51, Try.ntmps51
  go_wp2_with fail
  clear hnn
  go_loopw [13] (fun i wr => ∃ j : Nat, j ≤ n ∧ i = .int .i64 j ∧ Hid (Fr [] w wr)) (fun i _ => n - (intOf i).toNat)
  case atStart => exact ⟨0, by omega, rfl, Lib.hid (Fr.refl _ _)⟩
  case round =>
    obtain ⟨j, hj, rfl, HF⟩ := hrel
    by_cases hlt : j < n
    · obtain ⟨ad, v, hA, hv, hcl, hok, hcells⟩ := HL.out.at (i := j) hlt
      obtain ⟨bd, u, hB, hu, hclu, hoku, hcellu⟩ := HM.out.at (i := j) hlt
      subst hA
      subst hB
      have HVU := Lib.hid (map_at HLM.out hv hu)
      have HCELLS : Hid (∀ i c, (Wce.cells v)[i]? = some c → wr.cell? ((ad.add (j * 38)).add i) = some c) := Lib.hid (fun i c hc => HF.out.cell (hcells i c hc) (by simp))
      have HCELLU : Hid (∀ i c, (Wce.cells u)[i]? = some c → wr.cell? ((bd.add (j * 38)).add i) = some c) := Lib.hid (fun i c hc => HF.out.cell (hcellu i c hc) (by simp))
      have HCL := Lib.hid hcl
      have HCLU := Lib.hid hclu
      have HOK := Lib.hid hok
      have HOKU := Lib.hid hoku
      have HJN := Lib.hid hlt
      have hj0 : (0 : Int) ≤ j := by omega
      clear hcells hcl hok hv hcellu hclu hoku hu
      go_upto_region 6 with (fail)
      refine wp_region_held_drew (S := Fr [] wr) (by kernel_rfl) (Fr.drew (Fr.refl _ wr)) (fun hHeld => ?_)
      generalize wr.drew = wd at *
      refine run_at (i := 0) (v := ?_) rfl (by kernel_rfl) (by rfl) (fun _ _ _ h => h) hHeld (fun w1 hw1 => ?_) ?_
      rotate_left 1
      · skip
        go_simp
        (try (first | with_reducible rfl | (apply And.intro <;> rfl)))
      simp only [Act.put, List.setIfInBounds_toArray, List.set_cons_zero, List.set_cons_succ]
      refine run_at (i := 1) (v := ?_) rfl (by kernel_rfl) (by rfl) (fun _ _ _ h => h) hHeld (fun w1 hw1 => ?_) ?_
      rotate_left 1
      · skip
        go_simp
        (try (first | with_reducible rfl | (apply And.intro <;> rfl)))
      simp only [Act.put, List.setIfInBounds_toArray, List.set_cons_zero, List.set_cons_succ]
      refine run_at (i := 2) (v := ?_) rfl (by kernel_rfl) (by rfl) (fun _ _ _ h => h) hHeld (fun w1 hw1 => ?_) ?_
      rotate_left 1
      · skip
        go_simp
        (try (first | with_reducible rfl | (apply And.intro <;> rfl)))
      simp only [Act.put, List.setIfInBounds_toArray, List.set_cons_zero, List.set_cons_succ]
      refine crow_at (i := 3) rfl (by kernel_rfl) (by rfl) _ _ rfl _ rfl _ (fun w1 hw1 j v hv => hw1.cell ((HCELLS.out) j v hv) (by simp)) (row_crt.of HCL.out) (fun _ _ _ h => h) hHeld ?_
      simp only [Act.put, List.setIfInBounds_toArray, List.set_cons_zero, List.set_cons_succ]
      refine run_at (i := 4) (v := ?_) rfl (by kernel_rfl) (by rfl) (fun _ _ _ h => h) hHeld (fun w1 hw1 => ?_) ?_
      rotate_left 1
      · skip
        go_simp
        (try (first | with_reducible rfl | (apply And.intro <;> rfl)))
      simp only [Act.put, List.setIfInBounds_toArray, List.set_cons_zero, List.set_cons_succ]
      refine run_at (i := 5) (v := ?_) rfl (by kernel_rfl) (by rfl) (fun _ _ _ h => h) hHeld (fun w1 hw1 => ?_) ?_
      rotate_left 1
      · skip
        go_simp
        (try (first | with_reducible rfl | (apply And.intro <;> rfl)))
      simp only [Act.put, List.setIfInBounds_toArray, List.set_cons_zero, List.set_cons_succ]
      refine run_at (i := 6) (v := ?_) rfl (by kernel_rfl) (by rfl) (fun _ _ _ h => h) hHeld (fun w1 hw1 => ?_) ?_
      rotate_left 1
      · skip
        go_simp
        (try (first | with_reducible rfl | (apply And.intro <;> rfl)))
      simp only [Act.put, List.setIfInBounds_toArray, List.set_cons_zero, List.set_cons_succ]
      refine crow_at (i := 7) rfl (by kernel_rfl) (by rfl) _ _ rfl _ rfl _ (fun w1 hw1 j v hv => hw1.cell ((HCELLU.out) j v hv) (by simp)) (row_crt.of HCLU.out) (fun _ _ _ h => h) hHeld ?_
      simp only [Act.put, List.setIfInBounds_toArray, List.set_cons_zero, List.set_cons_succ]
      refine call_at (i := 8) (f := ?_) (args := ?_) rfl (by kernel_rfl) (by rfl) ?_ ?_
      rotate_left 2
      · go_simp
        (try (first | with_reducible rfl | (apply And.intro <;> rfl)))
      refine (cert_eq v u wd (Wce.Li.keep HOK.out (HF.out.and hHeld (by simp)) (by simp)) (Wce.Li.keep HOKU.out (HF.out.and hHeld (by simp)) (by simp)) HVU.out _ _ rfl rfl).mono ?_
      rintro e_ w9 ⟨rfl, hf⟩
      refine ⟨_, rfl, hHeld.and hf (by simp), fun hHeld => ?_⟩
      clear hf
      simp only [Act.put, List.setIfInBounds_toArray, List.set_cons_zero, List.set_cons_succ]
      refine run_at (i := 9) (v := ?_) rfl (by kernel_rfl) (by rfl) (fun _ _ _ h => h) hHeld (fun w1 hw1 => ?_) ?_
      rotate_left 1
      · skip
        go_simp
        (try (first | with_reducible rfl | (apply And.intro <;> rfl)))
      simp only [Act.put, List.setIfInBounds_toArray, List.set_cons_zero, List.set_cons_succ]
      refine wpAnyH_done (by kernel_rfl) ?_ _
      have HF9 : Hid (Fr [] w w9) := Lib.hid (HF.out.and hHeld (by simp))
      clear hHeld HCELLS HCL HCELLU HCLU HVU
      clear HOK HOKU
      go_wp2
      go_roundw
      case rel => exact ⟨j + 1, by have := HJN.out; omega, by go_num, HF9⟩
      case measure => have := HJN.out; simp [intOf]; omega
    · have hjn : n = j := by omega
      subst hjn
      clear hlt hj
      go_wp2
      go_ret
      exact ⟨rfl, HF.out⟩

set_option maxHeartbeats 2000000 in
theorem promise_eq (x y : Wpr) (w : World) (hx : x.Li w []) (hy : y.Li w []) (he : x.con = y.con) (C D : List Value) (hC : x.cells = C) (hD : y.cells = D) :
    Calls Try.prog 20 #[.agg C.toArray, .agg D.toArray] w fun e w' => e = .returned (.bool true) ∧ Fr [] w w' := by
  obtain ⟨wa, hwa⟩ : ∃ wa, wa = (w.alloc (Obj.cells C.toArray 36)).alloc (Obj.cells D.toArray 36) := ⟨_, rfl⟩
  have hf0 : Fr [] w wa := by rw [hwa]; exact ((Fr.refl [] w).alloc _).alloc _
  have hb0 : Blk wa w.heap.size 36 x.cells.toArray := by rw [hwa, hC]; exact blk_alloc (Blk.new _ _ _)
  have hb1 : Blk wa (w.heap.size + 1) 36 y.cells.toArray := by
    have := Blk.new (w.alloc (Obj.cells C.toArray 36)) 36 D.toArray
    rw [hwa, hD]
    simpa using this
  obtain ⟨r, e, t, A, n, d, l, b, mm⟩ := x
  obtain ⟨r', e', t', B, m, d', l', b', mm'⟩ := y
  unfold Wpr.con at he
  simp only [Cpr.mk.injEq] at he
  obtain ⟨rfl, rfl, rfl, hll, rfl, rfl⟩ := he
  have hnm : m = n := hy.l.1.symm.trans ((by have := congrArg List.length hll; simpa using this.symm : l'.length = l.length).trans hx.l.1)
  subst hnm
  have hr0 := hb0.range
  have hr1 := hb1.range
  have h00 : wa.cell? ⟨w.heap.size, 0, none⟩ = some (.int .i64 r) := by have h := hr0 0 _ rfl; simpa using h
  have h10 : wa.cell? ⟨w.heap.size + 1, 0, none⟩ = some (.int .i64 r) := by have h := hr1 0 _ rfl; simpa using h
  have h01 : wa.cell? ⟨w.heap.size, 1, none⟩ = some (.int .i64 e) := by have h := hr0 1 _ rfl; simpa using h
  have h11 : wa.cell? ⟨w.heap.size + 1, 1, none⟩ = some (.int .i64 e) := by have h := hr1 1 _ rfl; simpa using h
  have h02 : wa.cell? ⟨w.heap.size, 2, none⟩ = some (.int .u64 (t : Int)) := by have h := hr0 2 _ rfl; simpa using h
  have h12 : wa.cell? ⟨w.heap.size + 1, 2, none⟩ = some (.int .u64 (t : Int)) := by have h := hr1 2 _ rfl; simpa using h
  have h03 : wa.cell? ⟨w.heap.size, 3, none⟩ = some (.slice A m d) := by have h := hr0 3 _ rfl; simpa using h
  have h13 : wa.cell? ⟨w.heap.size + 1, 3, none⟩ = some (.slice B m d') := by have h := hr1 3 _ rfl; simpa using h
  have HH0 : Hid (wa.rangeAt w.heap.size 4 [.int .i64 b, .int .i64 mm]) := Lib.hid (rangeAt_sub (o := 0) (xs := [.int .i64 r, .int .i64 e, .int .u64 (t : Int), .slice A m d]) (ys := [.int .i64 b, .int .i64 mm]) (zs := []) hr0)
  have HH1 : Hid (wa.rangeAt (w.heap.size + 1) 4 [.int .i64 b, .int .i64 mm]) := Lib.hid (rangeAt_sub (o := 0) (xs := [.int .i64 r, .int .i64 e, .int .u64 (t : Int), .slice B m d']) (ys := [.int .i64 b, .int .i64 mm]) (zs := []) hr1)
  have HEQ : Hid ((Op.equalIn 10000 27 (.agg #[.int .i64 b, .int .i64 mm]) (.agg #[.int .i64 b, .int .i64 mm])).run Try.prog wa = .ok true wa) := Lib.hid (sig_selfd b mm 9998 wa)
  have HF0 := Lib.hid hf0
  have HWA := Lib.hid hwa
  have HX := Lib.hid hx
  have HY := Lib.hid hy
  have HLL := Lib.hid hll
  have hrr : (r == r) = true := by simp
  have hee : (e == e) = true := by simp
  have htt : (((t : Nat) : Int) == (t : Int)) = true := by simp
  clear hwa hf0 hb0 hb1 hr0 hr1 hx hy hC hD hll
  go_enter Try.func20, Try.ntmps20
  go_upto_region 1 with (fail)
  change Code.wp _ _ _ _ ((w.alloc (Obj.cells C.toArray 36)).alloc (Obj.cells D.toArray 36))
  rw [← HWA.out]
  go_wp2_with (first
    | (refine wpList_midg rfl 27 _ rfl w.heap.size 4 rfl [.int .i64 b, .int .i64 mm] HH0.out row_sg2 ?_)
    | (refine wpList_midg rfl 27 _ rfl (w.heap.size + 1) 4 rfl [.int .i64 b, .int .i64 mm] HH1.out row_sg2 ?_)
    | (refine wpList_eqlg rfl 27 _ _ _ rfl #[.int .i64 b, .int .i64 mm] #[.int .i64 b, .int .i64 mm] rfl rfl true (by kernel_rfl) HEQ.out ?_))
  refine (certs_eq A B m d d' l l' wa (HX.out.l.keep' HF0.out (by simp) (fun _ _ h => Wce.Li.keep (S' := []) h HF0.out (by simp))) (HY.out.l.keep' HF0.out (by simp) (fun _ _ h => Wce.Li.keep (S' := []) h HF0.out (by simp))) HLL.out (by have h1 : m ≤ 100 := HX.out.n; omega)).mono ?_
  rintro e_ w1 ⟨rfl, hf1⟩
  have HF1 : Hid (Fr [] w w1) := Lib.hid (HF0.out.and hf1 (by simp))
  clear hf1 h00 h10 h01 h11 h02 h12 h03 h13 hrr hee htt
  go_wp2
  go_ret
  exact ⟨rfl, HF1.out⟩

set_option maxHeartbeats 2000000 in
theorem batch_eq (x y : Wba) (w : World) (hx : x.Li w []) (hy : y.Li w []) (he : x.con = y.con) (C D : List Value) (hC : x.cells = C) (hD : y.cells = D) :
    Calls Try.prog 23 #[.agg C.toArray, .agg D.toArray] w fun e w' => e = .returned (.bool true) ∧ Fr [] w w' := by
  obtain ⟨wa, hwa⟩ : ∃ wa, wa = (w.alloc (Obj.cells C.toArray 41)).alloc (Obj.cells D.toArray 41) := ⟨_, rfl⟩
  have hf0 : Fr [] w wa := by rw [hwa]; exact ((Fr.refl [] w).alloc _).alloc _
  have hb0 : Blk wa w.heap.size 41 x.cells.toArray := by rw [hwa, hC]; exact blk_alloc (Blk.new _ _ _)
  have hb1 : Blk wa (w.heap.size + 1) 41 y.cells.toArray := by
    have := Blk.new (w.alloc (Obj.cells C.toArray 41)) 41 D.toArray
    rw [hwa, hD]
    simpa using this
  obtain ⟨e, t, A, n, d, l, A2, n2, d2, l2, A3, n3, d3, l3⟩ := x
  obtain ⟨e', t', B, m, d', l', B2, m2, d2', l2', B3, m3, d3', l3'⟩ := y
  unfold Wba.con at he
  simp only [Cba.mk.injEq] at he
  obtain ⟨rfl, rfl, hl1, hl2, hl3⟩ := he
  have hnm : m = n := hy.l.1.symm.trans ((by have := congrArg List.length hl1; simpa using this.symm : l'.length = l.length).trans hx.l.1)
  have hnm2 : m2 = n2 := hy.l2.1.symm.trans ((by have := congrArg List.length hl2; simpa using this.symm : l2'.length = l2.length).trans hx.l2.1)
  have hnm3 : m3 = n3 := hy.l3.1.symm.trans ((by have := congrArg List.length hl3; simpa using this.symm : l3'.length = l3.length).trans hx.l3.1)
  subst hnm
  subst hnm2
  subst hnm3
  have hr0 := hb0.range
  have hr1 := hb1.range
  have h00 : wa.cell? ⟨w.heap.size, 0, none⟩ = some (.int .i64 e) := by have h := hr0 0 _ rfl; simpa using h
  have h10 : wa.cell? ⟨w.heap.size + 1, 0, none⟩ = some (.int .i64 e) := by have h := hr1 0 _ rfl; simpa using h
  have h01 : wa.cell? ⟨w.heap.size, 1, none⟩ = some (.int .u64 (t : Int)) := by have h := hr0 1 _ rfl; simpa using h
  have h11 : wa.cell? ⟨w.heap.size + 1, 1, none⟩ = some (.int .u64 (t : Int)) := by have h := hr1 1 _ rfl; simpa using h
  have h02 : wa.cell? ⟨w.heap.size, 2, none⟩ = some (.slice A m d) := by have h := hr0 2 _ rfl; simpa using h
  have h12 : wa.cell? ⟨w.heap.size + 1, 2, none⟩ = some (.slice B m d') := by have h := hr1 2 _ rfl; simpa using h
  have h03 : wa.cell? ⟨w.heap.size, 3, none⟩ = some (.slice A2 m2 d2) := by have h := hr0 3 _ rfl; simpa using h
  have h13 : wa.cell? ⟨w.heap.size + 1, 3, none⟩ = some (.slice B2 m2 d2') := by have h := hr1 3 _ rfl; simpa using h
  have h04 : wa.cell? ⟨w.heap.size, 4, none⟩ = some (.slice A3 m3 d3) := by have h := hr0 4 _ rfl; simpa using h
  have h14 : wa.cell? ⟨w.heap.size + 1, 4, none⟩ = some (.slice B3 m3 d3') := by have h := hr1 4 _ rfl; simpa using h
  have HF0 := Lib.hid hf0
  have HWA := Lib.hid hwa
  have HX := Lib.hid hx
  have HY := Lib.hid hy
  have HL1 := Lib.hid hl1
  have HL2 := Lib.hid hl2
  have HL3 := Lib.hid hl3
  have HN : Hid (m ≤ 100) := Lib.hid hx.n
  have hee : (e != e) = false := by simp
  have htt : (((t : Nat) : Int) != (t : Int)) = false := by simp
  have hnn : (((m : Nat) : Int) != (m : Int)) = false := by simp
  clear hwa hf0 hb0 hb1 hr0 hr1 hx hy hC hD hl1 hl2 hl3
  go_enter Try.func23, Try.ntmps23
  go_upto_region 1 with (fail)
  change Code.wp _ _ _ _ ((w.alloc (Obj.cells C.toArray 41)).alloc (Obj.cells D.toArray 41))
  rw [← HWA.out]
  go_wp2_with fail
  refine (openings_eq A2 B2 m2 d2 d2' l2 l2' wa (HX.out.l2.keep' HF0.out (by simp) (fun _ _ h => Wop.Ok.keep (S' := []) h HF0.out (by simp))) (HY.out.l2.keep' HF0.out (by simp) (fun _ _ h => Wop.Ok.keep (S' := []) h HF0.out (by simp))) HL2.out (by have h1 : m2 ≤ 100 := HX.out.n2; omega)).mono ?_
  rintro e_ w1 ⟨rfl, hf1⟩
  have k04 := hf1.cell h04 (by simp)
  have k14 := hf1.cell h14 (by simp)
  have k02 := hf1.cell h02 (by simp)
  have k12 := hf1.cell h12 (by simp)
  have HF1 : Hid (Fr [] w w1) := Lib.hid (HF0.out.and hf1 (by simp))
  clear hf1 h00 h10 h01 h11 h02 h12 h03 h13 h04 h14 hee htt hnn
  go_wp2_with fail
  refine (tombs_eq A3 B3 m3 d3 d3' l3 l3' w1 (HX.out.l3.keep' HF1.out (by simp) (fun _ _ h => Wtb.Li.keep (S' := []) h HF1.out (by simp))) (HY.out.l3.keep' HF1.out (by simp) (fun _ _ h => Wtb.Li.keep (S' := []) h HF1.out (by simp))) HL3.out (by have h1 : m3 ≤ 100 := HX.out.n3; omega)).mono ?_
  rintro e_ w2 ⟨rfl, hf2⟩
  have m02 := hf2.cell k02 (by simp)
  have HC02 := Lib.hid m02
  have HC12 := Lib.hid (hf2.cell k12 (by simp))
  have HF2 : Hid (Fr [] w w2) := Lib.hid (HF1.out.and hf2 (by simp))
  clear hf2 k04 k14 k02 k12
  have hn1 : (m : Int) ≤ 9223372036854775807 := by have := HN.out; omega
  go_wp2_with fail
  clear m02
  go_loopw [46] (fun i wr => ∃ j : Nat, j ≤ m ∧ i = .int .i64 j ∧ Hid (Fr [] w2 wr)) (fun i _ => m - (intOf i).toNat)
  case atStart => exact ⟨0, by omega, rfl, Lib.hid (Fr.refl _ _)⟩
  case round =>
    obtain ⟨j, hj, rfl, HF⟩ := hrel
    by_cases hlt : j < m
    · obtain ⟨ad, v, hA, hv, hcl, hok, hcells⟩ := HX.out.l.at (i := j) hlt
      obtain ⟨bd, u, hB, hu, hclu, hoku, hcellu⟩ := HY.out.l.at (i := j) hlt
      have hA : A = some ad := hA
      have hB : B = some bd := hB
      subst hA
      subst hB
      have HVU := Lib.hid (map_at HL1.out hv hu)
      have HFW : Hid (Fr [] w wr) := Lib.hid (HF2.out.and HF.out (by simp))
      have HCELLS : Hid (∀ i c, (Wpr.cells v)[i]? = some c → wr.cell? ((ad.add (j * 6)).add i) = some c) := Lib.hid (fun i c hc => HFW.out.cell (hcells i c hc) (by simp))
      have HCELLU : Hid (∀ i c, (Wpr.cells u)[i]? = some c → wr.cell? ((bd.add (j * 6)).add i) = some c) := Lib.hid (fun i c hc => HFW.out.cell (hcellu i c hc) (by simp))
      have HCR0 := Lib.hid (HF.out.cell HC02.out (by simp))
      have HCR1 := Lib.hid (HF.out.cell HC12.out (by simp))
      have HOK := Lib.hid hok
      have HOKU := Lib.hid hoku
      have HJN := Lib.hid hlt
      have hj0 : (0 : Int) ≤ j := by omega
      clear hcells hcl hok hv hcellu hclu hoku hu
      go_upto_region 6 with (fail)
      refine wp_region_held_drew (S := Fr [] wr) (by kernel_rfl) (Fr.drew (Fr.refl _ wr)) (fun hHeld => ?_)
      generalize wr.drew = wd at *
      refine run_at (i := 0) (v := ?_) rfl (by kernel_rfl) (by rfl) (fun _ _ _ h => h) hHeld (fun w1 hw1 => ?_) ?_
      rotate_left 1
      · skip
        go_simp
        (try (first | with_reducible rfl | (apply And.intro <;> rfl)))
      simp only [Act.put, List.setIfInBounds_toArray, List.set_cons_zero, List.set_cons_succ]
      refine run_at (i := 1) (v := ?_) rfl (by kernel_rfl) (by rfl) (fun _ _ _ h => h) hHeld (fun w1 hw1 => ?_) ?_
      rotate_left 1
      · skip
        have hcw0 := hw1.cell (HCR0.out) (by first | (simp; done) | exact HNS.out | exact HNW.out | (intro hm; have hlt := HSB.out _ hm; (try dsimp only at hlt); omega))
        go_simp
        (try (first | with_reducible rfl | (apply And.intro <;> rfl)))
      simp only [Act.put, List.setIfInBounds_toArray, List.set_cons_zero, List.set_cons_succ]
      refine run_at (i := 2) (v := ?_) rfl (by kernel_rfl) (by rfl) (fun _ _ _ h => h) hHeld (fun w1 hw1 => ?_) ?_
      rotate_left 1
      · skip
        go_simp
        (try (first | with_reducible rfl | (apply And.intro <;> rfl)))
      simp only [Act.put, List.setIfInBounds_toArray, List.set_cons_zero, List.set_cons_succ]
      refine run_at (i := 3) (v := ?_) rfl (by kernel_rfl) (by rfl) (fun _ _ _ h => h) hHeld (fun w1 hw1 => ?_) ?_
      rotate_left 1
      · skip
        go_simp
        (try (first | with_reducible rfl | (apply And.intro <;> rfl)))
      simp only [Act.put, List.setIfInBounds_toArray, List.set_cons_zero, List.set_cons_succ]
      refine crow_at (i := 4) rfl (by kernel_rfl) (by rfl) _ _ rfl _ rfl _ (fun w1 hw1 j v hv => hw1.cell ((HCELLS.out) j v hv) (by simp)) (row_prm) (fun _ _ _ h => h) hHeld ?_
      simp only [Act.put, List.setIfInBounds_toArray, List.set_cons_zero, List.set_cons_succ]
      refine run_at (i := 5) (v := ?_) rfl (by kernel_rfl) (by rfl) (fun _ _ _ h => h) hHeld (fun w1 hw1 => ?_) ?_
      rotate_left 1
      · skip
        go_simp
        (try (first | with_reducible rfl | (apply And.intro <;> rfl)))
      simp only [Act.put, List.setIfInBounds_toArray, List.set_cons_zero, List.set_cons_succ]
      refine run_at (i := 6) (v := ?_) rfl (by kernel_rfl) (by rfl) (fun _ _ _ h => h) hHeld (fun w1 hw1 => ?_) ?_
      rotate_left 1
      · skip
        have hcw0 := hw1.cell (HCR1.out) (by first | (simp; done) | exact HNS.out | exact HNW.out | (intro hm; have hlt := HSB.out _ hm; (try dsimp only at hlt); omega))
        go_simp
        (try (first | with_reducible rfl | (apply And.intro <;> rfl)))
      simp only [Act.put, List.setIfInBounds_toArray, List.set_cons_zero, List.set_cons_succ]
      refine run_at (i := 7) (v := ?_) rfl (by kernel_rfl) (by rfl) (fun _ _ _ h => h) hHeld (fun w1 hw1 => ?_) ?_
      rotate_left 1
      · skip
        go_simp
        (try (first | with_reducible rfl | (apply And.intro <;> rfl)))
      simp only [Act.put, List.setIfInBounds_toArray, List.set_cons_zero, List.set_cons_succ]
      refine run_at (i := 8) (v := ?_) rfl (by kernel_rfl) (by rfl) (fun _ _ _ h => h) hHeld (fun w1 hw1 => ?_) ?_
      rotate_left 1
      · skip
        go_simp
        (try (first | with_reducible rfl | (apply And.intro <;> rfl)))
      simp only [Act.put, List.setIfInBounds_toArray, List.set_cons_zero, List.set_cons_succ]
      refine crow_at (i := 9) rfl (by kernel_rfl) (by rfl) _ _ rfl _ rfl _ (fun w1 hw1 j v hv => hw1.cell ((HCELLU.out) j v hv) (by simp)) (row_prm) (fun _ _ _ h => h) hHeld ?_
      simp only [Act.put, List.setIfInBounds_toArray, List.set_cons_zero, List.set_cons_succ]
      refine call_at (i := 10) (f := ?_) (args := ?_) rfl (by kernel_rfl) (by rfl) ?_ ?_
      rotate_left 2
      · go_simp
        (try (first | with_reducible rfl | (apply And.intro <;> rfl)))
      refine (promise_eq v u wd (Wpr.Li.keep HOK.out (HFW.out.and hHeld (by simp)) (by simp)) (Wpr.Li.keep HOKU.out (HFW.out.and hHeld (by simp)) (by simp)) HVU.out _ _ rfl rfl).mono ?_
      rintro e_ w9 ⟨rfl, hf⟩
      refine ⟨_, rfl, hHeld.and hf (by simp), fun hHeld => ?_⟩
      clear hf
      simp only [Act.put, List.setIfInBounds_toArray, List.set_cons_zero, List.set_cons_succ]
      refine run_at (i := 11) (v := ?_) rfl (by kernel_rfl) (by rfl) (fun _ _ _ h => h) hHeld (fun w1 hw1 => ?_) ?_
      rotate_left 1
      · skip
        go_simp
        (try (first | with_reducible rfl | (apply And.intro <;> rfl)))
      simp only [Act.put, List.setIfInBounds_toArray, List.set_cons_zero, List.set_cons_succ]
      refine wpAnyH_done (by kernel_rfl) ?_ _
      have HF9 : Hid (Fr [] w2 w9) := Lib.hid (HF.out.and hHeld (by simp))
      clear hHeld HCELLS HCELLU HVU HOK HOKU HCR0 HCR1 HFW
      go_wp2
      go_roundw
      case rel => exact ⟨j + 1, by have := HJN.out; omega, by go_num, HF9⟩
      case measure => have := HJN.out; simp [intOf]; omega
    · have hjn : m = j := by omega
      subst hjn
      clear hlt hj
      go_wp2
      go_ret
      exact ⟨rfl, HF2.out.and HF.out (by simp)⟩
end Go.Proofs.Ytkofmefnlppoaaa

namespace Go.Proofs.Ytkofmefnlppoaaa
open Go.RowKit
set_option maxRecDepth 100000

theorem wireN_any (f k : Int) (hf : -1000 ≤ f ∧ f ≤ 1000) (w : World) : Calls Try.prog 60 #[.agg #[.int .i64 f, .int .i64 k]] w fun e w' => e = .returned (.int .i64 (3 * f + 1)) ∧ Fr [] w w' := by
  go_enter Try.func60, Try.ntmps60
  go_wp2
  go_ret
  exact ⟨rfl, (Fr.refl [] w).alloc _⟩
theorem wireQ_any (f k : Int) (hf : -1000 ≤ f ∧ f ≤ 1000) (w : World) : Calls Try.prog 61 #[.agg #[.int .i64 f, .int .i64 k]] w fun e w' => e = .returned (.int .i64 (2 * f + 1)) ∧ Fr [] w w' := by
  go_enter Try.func61, Try.ntmps61
  go_wp2
  go_ret
  exact ⟨rfl, (Fr.refl [] w).alloc _⟩
def confB (f k : Int) : Bool := decide (1 ≤ f ∧ f ≤ 21 ∧ 1 ≤ k ∧ k ≤ 100)
theorem wwakes_any (w : World) : Calls Try.prog 28 #[] w fun e w' => e = .returned (.bool true) ∧ Fr [] w w' := by
  go_enter Try.func28, Try.ntmps28
  go_wp2_with fail
  refine (wireN_any 1 0 (by omega) w).mono ?_
  rintro e w1 ⟨rfl, hf1⟩
  have HF1 := Lib.hid hf1
  clear hf1
  go_wp2_with fail
  refine (wireQ_any 1 0 (by omega) w1).mono ?_
  rintro e w2 ⟨rfl, hf2⟩
  have HF2 := Lib.hid (HF1.out.and hf2 (by simp))
  clear hf2
  go_wp2
  go_ret
  exact ⟨rfl, HF2.out⟩
theorem row_cf : RowTy Try.prog 122 2 := ⟨by kernel_rfl, by kernel_rfl⟩
end Go.Proofs.Ytkofmefnlppoaaa

namespace Go.Proofs.Ytkofmefnlppoaaa
open Go.RowKit

/-- the document's reader at block g: what is left, and whether it has failed -/
def Rq (w : World) (g : Nat) (F : List Nat) (l : List UInt8) (bad : Bool) : Prop :=
  ∃ A n c, (∀ k ∈ bk A, k ∈ F ∧ k ≠ g) ∧ Blk w g 57 #[.slice A n c, .bool bad] ∧ By w A n l ∧ n ≤ c
theorem Rq.keep {w w' : World} {g : Nat} {F T : List Nat} {l : List UInt8} {bad : Bool} (h : Rq w g F l bad) (hf : Fr T w w') (hg : ¬ g ∈ T) (hF : ∀ k ∈ F, ¬ k ∈ T) : Rq w' g F l bad := by
  obtain ⟨A, n, c, hA, hb, hy, hc⟩ := h
  exact ⟨A, n, c, hA, hb.keep hf hg, hy.keep hf (fun a ha => hF _ (hA a.block (by simp [bk, ha])).1), hc⟩
theorem Rq.lt {w : World} {g : Nat} {F : List Nat} {l : List UInt8} {bad : Bool} (h : Rq w g F l bad) : g < w.heap.size := by
  obtain ⟨A, n, c, hA, hb, hy, hc⟩ := h
  exact hb.lt

theorem qfail_any (w : World) (g : Nat) (F : List Nat) (l : List UInt8) (bad : Bool) (hr : Rq w g F l bad) :
    Calls Try.prog 120 #[.pointer (some ⟨g, 0, none⟩)] w fun e w' => e = .returned (.tuple #[]) ∧ Rq w' g F [] true ∧ Fr [g] w w' := by
  obtain ⟨A, n, c, hA, hb, hy, hc⟩ := hr
  have hc0 := hb.cell 0
  have hc1 := hb.cell 1
  simp at hc0 hc1
  have hz0 := hb.frozen 0
  have hz1 := hb.frozen 1
  go_enter Try.func120, Try.ntmps120
  go_wp2
  go_end0
  refine ⟨rfl, ⟨none, 0, 0, by simp [bk], ?_, By.nil _ _, Nat.le_refl _⟩, ?_⟩
  · have := (hb.set 0 (.slice none 0 0)).set 1 (.bool true)
    simpa using this
  · exact ((Fr.refl [g] w).setCell _ (fun _ => by simp) _).setCell _ (fun _ => by simp) _
theorem Rq.set {w : World} {g : Nat} {F : List Nat} {l' : List UInt8} {bad : Bool} {A' : Option Addr} {n' c' : Nat} {v : Value} (hb : Blk w g 57 #[v, .bool bad]) (hA : ∀ k ∈ bk A', k ∈ F ∧ k ≠ g) (hy : By w A' n' l') (hc : n' ≤ c') :
    Rq (w.setCell ⟨g, 0, none⟩ (.slice A' n' c')) g F l' bad ∧ Fr [g] w (w.setCell ⟨g, 0, none⟩ (.slice A' n' c')) := by
  have hf : Fr [g] w (w.setCell ⟨g, 0, none⟩ (.slice A' n' c')) := (Fr.refl [g] w).setCell _ (fun _ => by simp) _
  refine ⟨⟨A', n', c', hA, by simpa using hb.set 0 (.slice A' n' c'), hy.keep hf (fun a ha => ?_), hc⟩, hf⟩
  have := (hA a.block (by simp [bk, ha])).2
  simpa using this

set_option maxRecDepth 100000 in
set_option maxHeartbeats 1000000 in
theorem qnum_any (w : World) (g : Nat) (F : List Nat) (l : List UInt8) (bad : Bool) (hr : Rq w g F l bad) (hl : l.length ≤ 1073741824) :
    Calls Try.prog 85 #[.pointer (some ⟨g, 0, none⟩)] w fun e w' => e = .returned (.int .u64 (decN l)) ∧ Fr [g] w w' ∧
      (dec l = none ∧ Rq w' g F [] true ∨ ∃ v s, dec l = some (v, s) ∧ Rq w' g F (l.drop s) bad) := by
  have HRQ := Lib.hid hr
  obtain ⟨A, n, c, hA, hb, hy, hc⟩ := hr
  have hc0 := hb.cell 0
  simp at hc0
  have hz0 := hb.frozen 0
  have hn : n ≤ 1073741824 := by rw [← hy.1]; exact hl
  have HY := Lib.hid hy
  have HB := Lib.hid hb
  have HA := Lib.hid hA
  clear hy hb hA hl
  go_enter Try.func85, Try.ntmps85
  go_wp2
  go_loop [3, 4] (fun a i => ∃ (k acc : Nat), k ≤ n ∧ k ≤ 10 ∧ i = .int .i64 k ∧ a = .int .u64 acc ∧ dec l = decF k acc (l.drop k) ∧ acc < 2 ^ (7 * k)) (fun _ i => 10 - (intOf i).toNat)
  case atStart => exact ⟨0, 0, by omega, by omega, rfl, rfl, by simp [dec], by simp⟩
  case round =>
    obtain ⟨k, acc, hk, hk10, rfl, rfl, hd, hacc⟩ := hrel
    have HD := Lib.hid hd
    have HACC := Lib.hid hacc
    clear hd hacc
    by_cases hlt : k < n ∧ k < 10
    · obtain ⟨hltn, hlt10⟩ := hlt
      obtain ⟨a1, b1, rfl, hg1, hc1⟩ := HY.out.at hltn
      have HD1 := Lib.hid (HD.out.trans (decF_at hg1 acc))
      clear hg1
      have hk0 : (0 : Int) ≤ k := by omega
      have hb1 : (b1.toNat : Int) < 256 := by have := b1.toNat_lt; omega
      have hs1 : (7 : Int) * k ≤ 64 := by omega
      have hp : b1.toNat % 128 < 128 := by omega
      by_cases hov : k = 9 ∧ b1.toNat % 128 > 1
      · have HD2 := Lib.hid (HD1.out.trans (decF_over hov.1 hov.2))
        have h9 : ((k : Int) == 9) = true := by simp; omega
        have hov2 : (1 : Int) < (b1.toNat : Int) % 128 := by omega
        clear hov
        go_wp2_with fail
        refine (qfail_any w g F l bad HRQ.out).mono ?_
        rintro e w1 ⟨rfl, h1, h2⟩
        have H1 := Lib.hid h1
        have H2 := Lib.hid h2
        clear h1 h2
        go_wp2
        go_ret
        exact ⟨by simp [decN, HD2.out], H2.out, .inl ⟨HD2.out, H1.out⟩⟩
      · obtain ⟨hsh, hne, hor, hs, hb64⟩ := shift_fits k (b1.toNat % 128) acc hlt10 hp hov HACC.out
        have HS := Lib.hid hs
        have HBB := Lib.hid hb64
        have HOV := Lib.hid hov
        have hov9 : ((k : Int) == 9) = false ∨ ((k : Int) == 9) = true ∧ ¬ (1 : Int) < (b1.toNat : Int) % 128 := by
          by_cases h : k = 9
          · right; exact ⟨by simp; omega, by omega⟩
          · left; simp; omega
        clear hs hb64 hne
        have hcast : ((b1.toNat % 128 : Nat) : Int) = (b1.toNat : Int) % 128 := by omega
        rw [hcast] at hsh
        generalize hqd : b1.toNat % 128 * 2 ^ (7 * k) = q at *
        have HQ := Lib.hid hqd
        clear hqd
        have hkn1 : k + 1 ≤ n := by omega
        have HC := Lib.hid (HY.out.cut' hkn1 hc)
        by_cases hb : b1.toNat < 128
        · have hbI : (b1.toNat : Int) < 128 := by omega
          by_cases h0 : b1.toNat = 0 ∧ 0 < k
          · have HD2 := Lib.hid (HD1.out.trans (decF_long h0.1 h0.2 hlt10))
            have h0b : ((b1.toNat : Int) % 128 == 0) = true := by simp; omega
            have h0k : (0 : Int) < k := by omega
            clear h0 hov hkn1
            rcases hov9 with h9 | ⟨h9, hov2⟩
            all_goals
              go_wp2_with fail
              refine (qfail_any w g F l bad HRQ.out).mono ?_
              rintro e w1 ⟨rfl, h1, h2⟩
              have H1 := Lib.hid h1
              have H2 := Lib.hid h2
              clear h1 h2
              go_wp2
              go_ret
              exact ⟨by simp [decN, HD2.out], H2.out, .inl ⟨HD2.out, H1.out⟩⟩
          · have HD2 := Lib.hid (HD1.out.trans (decF_last hlt10 HOV.out h0 hb))
            have hor2 : ((b1.toNat : Int) % 128 == 0) = false ∨ (k : Int) ≤ 0 := by simp; omega
            rw [HQ.out] at HD2
            clear h0 hov
            by_cases hcs : c = k + 1
            · subst hcs
              have hcc := HC.out.1 rfl
              rw [show n - (k + 1) = 0 by omega] at hcc
              obtain ⟨h1, h2⟩ := Rq.set HB.out HA.out hcc (c' := 0) (by omega)
              clear hcc
              have H1 := Lib.hid h1
              have H2 := Lib.hid h2
              clear h1 h2 hkn1
              rcases hov9 with h9 | ⟨h9, hov2⟩ <;> rcases hor2 with h0b | h0k
              all_goals
                go_wp2
                all_goals
                  go_ret
                  exact ⟨by simp [decN, HD2.out], H2.out, .inr ⟨_, _, HD2.out, H1.out⟩⟩
            · obtain ⟨h1, h2⟩ := Rq.set HB.out (by rw [bk_map]; exact HA.out) (HC.out.2 hcs) (c' := c - (k + 1)) (by omega)
              have H1 := Lib.hid h1
              have H2 := Lib.hid h2
              clear h1 h2 hkn1
              rcases hov9 with h9 | ⟨h9, hov2⟩ <;> rcases hor2 with h0b | h0k
              all_goals
                go_wp2
                all_goals
                  go_ret
                  exact ⟨by simp [decN, HD2.out], H2.out, .inr ⟨_, _, HD2.out, H1.out⟩⟩
        · have HD2 := Lib.hid (HD1.out.trans (decF_more hlt10 HOV.out hb))
          rw [HQ.out] at HD2
          have hbI : (128 : Int) ≤ (b1.toNat : Int) := by omega
          clear hov hkn1
          rcases hov9 with h9 | ⟨h9, hov2⟩
          all_goals
            go_wp2
            go_round
            case rel => exact ⟨k + 1, acc + q, by omega, by omega, by go_num, by go_num, HD2.out, HS.out⟩
            case measure => simp [intOf]; omega
    · have HD2 := Lib.hid (HD.out.trans (decF_end l k acc (by have := HY.out.1; omega)))
      have hkx : (n : Int) ≤ k ∨ ((k : Int) < n ∧ (10 : Int) ≤ k) := by omega
      rcases hkx with hkx | ⟨hkx0, hkx⟩
      all_goals
        go_wp2_with fail
        refine (qfail_any w g F l bad HRQ.out).mono ?_
        rintro e w1 ⟨rfl, h1, h2⟩
        have H1 := Lib.hid h1
        have H2 := Lib.hid h2
        clear h1 h2
        go_wp2
        go_ret
        exact ⟨by simp [decN, HD2.out], H2.out, .inl ⟨HD2.out, H1.out⟩⟩
end Go.Proofs.Ytkofmefnlppoaaa

namespace Go.Proofs.Ytkofmefnlppoaaa
open Go.RowKit

theorem rw_in (R : List UInt8) (m : Int) (bad : Bool) :
    rwV R m = (if (inL R m).length < inN R m then [] else (inL R m).take (inN R m)) ∧ rwL R m = (if (inL R m).length < inN R m then [] else (inL R m).drop (inN R m)) ∧
      rwB R m bad = (if (inL R m).length < inN R m then true else inB R m bad) := by
  unfold rwV rwL rwB inL inN inB
  cases hd : dec R with
  | none => simp
  | some p =>
    obtain ⟨v, s⟩ := p
    have hs := (dec_some hd).2.1
    by_cases hv : (v : Int) ≤ m
    · by_cases hl : s + v ≤ R.length
      · have h2 : ¬ (R.drop s).length < v := by rw [List.length_drop]; omega
        simp only [hv, hl, and_self, if_true, h2, if_false, List.drop_drop]
      · have h2 : (R.drop s).length < v := by rw [List.length_drop]; omega
        simp only [hv, hl, and_false, if_true, h2, if_false]
        exact ⟨trivial, trivial, trivial⟩
    · simp [hv]

section
variable {w : World} {g : Nat} {F : List Nat} {R : List UInt8} {bad : Bool}
/-! ### code's reader, with its blocks named -/
theorem rnum_f (hr : Rd w g F R bad) (hl : R.length ≤ 1073741824) :
    Calls Try.prog 82 #[.pointer (some ⟨g, 0, none⟩)] w fun e w' => e = .returned (.int .u64 (rdN R)) ∧ Rd w' g F (rdL R) (rdB R bad) ∧ Fr [g] w w' := by
  unfold rdN rdL rdB
  cases hd : dec R with
  | none => exact rnum_bad w g F R bad hr hl hd
  | some p => exact rnum_ok w g F R bad hr hl p.1 p.2 hd
theorem rint_f (m : Int) (hm2 : m < 9223372036854775808) (hr : Rd w g F R bad) (hl : R.length ≤ 1073741824) :
    Calls Try.prog 108 #[.pointer (some ⟨g, 0, none⟩), .int .i64 m] w fun e w' => e = .returned (.int .i64 (inN R m)) ∧ Rd w' g F (inL R m) (inB R m bad) ∧ Fr [g] w w' := by
  unfold inN inL inB
  cases hd : dec R with
  | none => exact rint_bad w g F R bad hr hl m (intBad_none hd) hm2
  | some p =>
    by_cases hv : (p.1 : Int) ≤ m
    · simp only [if_pos hv]
      exact rint_ok w g F R bad hr hl p.1 p.2 hd m hv hm2
    · simp only [if_neg hv]
      exact rint_bad w g F R bad hr hl m (intBad_lt hd (by omega)) hm2
theorem inL_len (R : List UInt8) (m : Int) : (inL R m).length ≤ R.length := by
  unfold inL
  split
  · split
    · rw [List.length_drop]; omega
    · simp
  · simp
theorem rdL_len (R : List UInt8) : (rdL R).length ≤ R.length := by
  unfold rdL
  split
  · rw [List.length_drop]; omega
  · simp
theorem inN_max (R : List UInt8) (m : Int) (h : m < 9223372036854775808) : inN R m < 9223372036854775808 := by
  unfold inN
  split
  · split
    · omega
    · omega
  · omega
set_option maxHeartbeats 400000 in
theorem rrow_f (m : Int) (hm2 : m < 9223372036854775808) (hr : Rd w g F R bad) (hl : R.length ≤ 1073741824) :
    Calls Try.prog 114 #[.pointer (some ⟨g, 0, none⟩), .int .i64 m] w fun e w' =>
      ∃ A c s, e = .returned (.slice A (rwV R m).length c) ∧ FullB w' A (rwV R m).length c (rwV R m) s ∧ (∀ x ∈ bk A, w.heap.size ≤ x) ∧ c ≤ maxLen ∧ Rd w' g F (rwL R m) (rwB R m bad) ∧ Fr [g] w w' := by
  have HR := Lib.hid hr
  have HM := Lib.hid hm2
  have HW := Lib.hid (rw_in R m bad)
  have HLL := Lib.hid (inL_len R m)
  clear hr hm2
  go_enter Try.func114, Try.ntmps114
  go_wp2_with fail
  refine (rint_f m HM.out HR.out hl).mono ?_
  rintro e w1 ⟨rfl, h1, h2⟩
  have H1 := Lib.hid h1
  have H2 := Lib.hid h2
  clear h1 h2
  generalize inL R m = L at *
  generalize inN R m = k at *
  generalize inB R m bad = bad1 at *
  by_cases hk : L.length < k
  · rw [if_pos hk, if_pos hk, if_pos hk] at HW
    go_wp2_with fail
    refine (take_bad w1 g F L bad1 H1.out k hk).mono ?_
    rintro e w2 ⟨rfl, h6, h7⟩
    have H6 := Lib.hid h6
    have H7 := Lib.hid (H2.out.trans h7 (fun _ h _ => h))
    clear h6 h7
    go_wp2_with fail
    refine (clone_full none 0 0 [] w2 (By.nil _ _) (by omega)).mono ?_
    rintro e w3 ⟨A3, c3, s3, rfl, hF, hf, hn, hm⟩
    have HF := Lib.hid hF
    have HFR := Lib.hid hf
    have HN := Lib.hid hn
    have HMM := Lib.hid hm
    clear hF hf hn hm
    go_wp2
    go_ret
    rw [HW.out.1, HW.out.2.1, HW.out.2.2]
    exact ⟨A3, c3, s3, rfl, HF.out, fun x hx => Nat.le_trans H7.out.size (HN.out x hx), HMM.out, H6.out.keep HFR.out (by simp) (by simp), H7.out.trans HFR.out (by simp)⟩
  · rw [if_neg hk, if_neg hk, if_neg hk] at HW
    have hkl : k ≤ L.length := by omega
    have HLE := Lib.hid hkl
    have hLR := HLL.out
    clear hk hkl
    go_wp2_with fail
    refine (take_ok w1 g F L bad1 H1.out (by omega) k HLE.out).mono ?_
    rintro e w2 ⟨A2, c2, rfl, h3, h4, h5, h6, h7⟩
    have H3 := Lib.hid h3
    have H6 := Lib.hid h6
    have H7 := Lib.hid (H2.out.trans h7 (fun _ h _ => h))
    clear h3 h5 h6 h7
    go_wp2_with fail
    refine (clone_full A2 k c2 _ w2 H3.out (by have := HLE.out; omega)).mono ?_
    rintro e w3 ⟨A3, c3, s3, rfl, hF, hf, hn, hm⟩
    have HF := Lib.hid hF
    have HFR := Lib.hid hf
    have HN := Lib.hid hn
    have HMM := Lib.hid hm
    clear hF hf hn hm
    go_wp2
    go_ret
    rw [HW.out.1, HW.out.2.1, HW.out.2.2]
    have hlen : (L.take k).length = k := by rw [List.length_take]; have := HLE.out; omega
    rw [hlen]
    exact ⟨A3, c3, s3, rfl, HF.out, fun x hx => Nat.le_trans H7.out.size (HN.out x hx), HMM.out, H6.out.keep HFR.out (by simp) (by simp), H7.out.trans HFR.out (by simp)⟩

/-! ### the document's reader -/
theorem qnum_f (hr : Rq w g F R bad) (hl : R.length ≤ 1073741824) :
    Calls Try.prog 85 #[.pointer (some ⟨g, 0, none⟩)] w fun e w' => e = .returned (.int .u64 (rdN R)) ∧ Rq w' g F (rdL R) (rdB R bad) ∧ Fr [g] w w' := by
  refine (qnum_any w g F R bad hr hl).mono ?_
  rintro e w' ⟨rfl, hf, h⟩
  unfold rdN rdL rdB decN
  rcases h with ⟨hd, hq⟩ | ⟨v, s, hd, hq⟩
  · rw [hd]; exact ⟨rfl, hq, hf⟩
  · rw [hd]; exact ⟨rfl, hq, hf⟩
set_option maxHeartbeats 400000 in
theorem qint_f (m : Int) (hm2 : m < 9223372036854775808) (hr : Rq w g F R bad) (hl : R.length ≤ 1073741824) :
    Calls Try.prog 80 #[.pointer (some ⟨g, 0, none⟩), .int .i64 m] w fun e w' => e = .returned (.int .i64 (inN R m)) ∧ Rq w' g F (inL R m) (inB R m bad) ∧ Fr [g] w w' := by
  have HR := Lib.hid hr
  have HM := Lib.hid hm2
  have hrd : inN R m = (if (rdN R : Int) ≤ m then rdN R else 0) ∧ inL R m = (if (rdN R : Int) ≤ m then rdL R else []) ∧ inB R m bad = (if (rdN R : Int) ≤ m then rdB R bad else true) := by
    unfold inN inL inB rdN rdL rdB
    cases hd : dec R with
    | none => simp
    | some p => simp
  have hV : rdN R < 18446744073709551616 := by
    unfold rdN
    cases hd : dec R with
    | none => simp
    | some p => exact (dec_some hd).2.2.2
  have HRD := Lib.hid hrd
  clear hr hm2 hrd
  go_enter Try.func80, Try.ntmps80
  go_wp2_with fail
  refine (qnum_f HR.out hl).mono ?_
  rintro e w1 ⟨rfl, h1, h2⟩
  have H1 := Lib.hid h1
  have H2 := Lib.hid h2
  clear h1 h2
  generalize rdN R = v at *
  generalize rdL R = L at *
  generalize rdB R bad = bad1 at *
  by_cases hvm : (v : Int) ≤ m
  · rw [if_pos hvm, if_pos hvm, if_pos hvm] at HRD
    have hw : IntKind.u64.wrap m = m := IntWalk.u64_in m ⟨by omega, by have := HM.out; omega⟩
    have hw2 : IntKind.i64.wrap (v : Int) = v := IntWalk.i64_in v ⟨by omega, by have := HM.out; omega⟩
    have hm0 : ¬ m < 0 := by omega
    go_wp2
    go_ret
    rw [HRD.out.1, HRD.out.2.1, HRD.out.2.2]
    exact ⟨rfl, H1.out, H2.out⟩
  · rw [if_neg hvm, if_neg hvm, if_neg hvm] at HRD
    have hw : m < 0 ∨ (0 ≤ m ∧ IntKind.u64.wrap m = m) := by
      by_cases h : m < 0
      · exact .inl h
      · exact .inr ⟨by omega, IntWalk.u64_in m ⟨by omega, by have := HM.out; omega⟩⟩
    rcases hw with hw | ⟨hw0, hw⟩
    all_goals
      go_wp2_with fail
      refine (qfail_any w1 g F _ _ H1.out).mono ?_
      rintro e w2 ⟨rfl, h3, h4⟩
      have H3 := Lib.hid h3
      have H4 := Lib.hid (H2.out.trans h4 (fun _ h _ => h))
      clear h3 h4
      go_wp2
      go_ret
      rw [HRD.out.1, HRD.out.2.1, HRD.out.2.2]
      exact ⟨rfl, H3.out, H4.out⟩
/-- what a row that was read leaves -/
def RowPost (w : World) (g : Nat) (F : List Nat) (V L : List UInt8) (b : Bool) (e : Ending) (w' : World) : Prop :=
  ∃ A c, e = .returned (.slice A V.length c) ∧ By w' A V.length V ∧ (∀ x ∈ bk A, w.heap.size ≤ x ∧ x < w'.heap.size) ∧ Rq w' g F L b ∧ Fr [g] w w'
theorem RowPost.mk {w w' : World} {g : Nat} {F : List Nat} {V L : List UInt8} {b : Bool} {e : Ending} (h : ∃ A c, e = .returned (.slice A V.length c) ∧ By w' A V.length V ∧ (∀ x ∈ bk A, w.heap.size ≤ x ∧ x < w'.heap.size) ∧ Rq w' g F L b ∧ Fr [g] w w') : RowPost w g F V L b e w' := h
set_option maxHeartbeats 800000 in
theorem qrow_f (m : Int) (hm2 : m < 9223372036854775808) (hr : Rq w g F R bad) (hl : R.length ≤ 1073741824) :
    Calls Try.prog 124 #[.pointer (some ⟨g, 0, none⟩), .int .i64 m] w (RowPost w g F (rwV R m) (rwL R m) (rwB R m bad)) := by
  have HR := Lib.hid hr
  have HM := Lib.hid hm2
  have HW := Lib.hid (rw_in R m bad)
  have HLL := Lib.hid (inL_len R m)
  clear hr hm2
  go_enter Try.func124, Try.ntmps124
  go_wp2_with fail
  refine (qint_f m HM.out HR.out hl).mono ?_
  rintro e w1 ⟨rfl, h1, h2⟩
  have hq := h1
  have H1 := Lib.hid h1
  have H2 := Lib.hid h2
  have hLR := HLL.out
  clear h1 h2
  generalize inL R m = L at *
  generalize inN R m = k at *
  generalize inB R m bad = bad1 at *
  obtain ⟨A1, n1, c1, hA1, hb1, hy1, hnc1⟩ := hq
  have hc0 := hb1.cell 0
  simp at hc0
  have hz0 := hb1.frozen 0
  have hn1 : n1 = L.length := hy1.1.symm
  subst hn1
  have HA1 := Lib.hid hA1
  have HB1 := Lib.hid hb1
  have HY1 := Lib.hid hy1
  clear hA1 hb1 hy1
  by_cases hk : L.length < k
  · rw [if_pos hk, if_pos hk, if_pos hk] at HW
    go_wp2_with fail
    refine (qfail_any w1 g F L bad1 H1.out).mono ?_
    rintro e w2 ⟨rfl, h6, h7⟩
    have H6 := Lib.hid h6
    have H7 := Lib.hid (H2.out.trans h7 (fun _ h _ => h))
    clear h6 h7
    go_wp2
    go_ret
    rw [HW.out.1, HW.out.2.1, HW.out.2.2]
    exact RowPost.mk ⟨none, 0, rfl, By.nil _ _, by simp [bk], H6.out, H7.out⟩
  · rw [if_neg hk, if_neg hk, if_neg hk] at HW
    have hkl : k ≤ L.length := by omega
    have HLE := Lib.hid hkl
    clear hk
    have HT := Lib.hid (HY1.out.take hkl)
    have hlen : (L.take k).length = k := by rw [List.length_take]; omega
    have HLEN := Lib.hid hlen
    clear hlen
    go_wp2_with (at_builtin; refine Stop.mk ?_)
    refine Stop.go ?_
    refine wpList_append_bytes _ rfl (.const (.slice none 0 0)) (.tmp 24) _ rfl 5 Try.underlying42 info_u8 (.slice none 0 0) 0 [] rfl
      ⟨rfl, .inl ⟨rfl, rfl⟩⟩ A1 k c1 (L.take k) rfl HT.out ?_ ?_
    · have := HLE.out; omega
    intro A2 c2 w2 ho2 hg2 hat2
    have hf2 : Fr [] w1 w2 := (Fr.refl [] w1).grown hg2 (by intro k hk hl; simp [Value.ownBlock] at hk)
    have hnew : ∀ x ∈ bk A2, w1.heap.size ≤ x := by
      intro x hx
      rcases hat2 with h | h <;> rw [h] at hx <;> simp [Value.ownBlock] at hx <;> omega
    have hlt2 : ∀ x ∈ bk A2, x < w2.heap.size := fun x hx => own_lt ho2 x (by rw [bk_mem]; exact hx)
    have hgl : g < w1.heap.size := HB1.out.lt
    have HO2 := Lib.hid ho2
    have HF2 := Lib.hid hf2
    have HNEW := Lib.hid hnew
    have HLT2 := Lib.hid hlt2
    have HB2 := Lib.hid (HB1.out.keep hf2 (by simp))
    have HY2 := Lib.hid (HY1.out.keep hf2 (by simp))
    have hc02 := HB2.out.cell 0
    simp at hc02
    have hz02 := HB2.out.frozen 0
    have HGL := Lib.hid hgl
    have hge : g ∉ bk A2 := fun h => by have := hnew g h; omega
    have HGE := Lib.hid hge
    clear ho2 hf2 hg2 hat2 hnew hlt2 hc0 hz0 hgl hge
    have HC := Lib.hid (HY2.out.cut' HLE.out hnc1)
    rw [Nat.zero_add]
    by_cases hcs : c1 = k
    · subst hcs
      have hcc := HC.out.1 rfl
      rw [show L.length - c1 = 0 by have := HLE.out; omega] at hcc
      obtain ⟨h1, h2⟩ := Rq.set HB2.out HA1.out hcc (c' := 0) (by omega)
      have HS1 := Lib.hid h1
      have HS2 := Lib.hid h2
      clear h1 h2 hcc
      go_wp2
      go_ret
      rw [HW.out.1, HW.out.2.1, HW.out.2.2]
      refine RowPost.mk ⟨A2, c2, by rw [HLEN.out]; rfl, by rw [HLEN.out]; exact (By.of_own (by have := HO2.out; rwa [Nat.zero_add, List.nil_append] at this)).keep HS2.out (fun a ha => by
        subst ha
        have := HGE.out
        simp [bk] at this ⊢
        omega), fun x hx => ⟨Nat.le_trans H2.out.size (HNEW.out x hx), Nat.lt_of_lt_of_le (HLT2.out x hx) HS2.out.size⟩, HS1.out, (H2.out.trans HF2.out (by simp)).trans HS2.out (fun _ h _ => h)⟩
    · obtain ⟨h1, h2⟩ := Rq.set HB2.out (by rw [bk_map]; exact HA1.out) (HC.out.2 hcs) (c' := c1 - k) (by omega)
      have HS1 := Lib.hid h1
      have HS2 := Lib.hid h2
      clear h1 h2
      go_wp2
      go_ret
      rw [HW.out.1, HW.out.2.1, HW.out.2.2]
      refine RowPost.mk ⟨A2, c2, by rw [HLEN.out]; rfl, by rw [HLEN.out]; exact (By.of_own (by have := HO2.out; rwa [Nat.zero_add, List.nil_append] at this)).keep HS2.out (fun a ha => by
        subst ha
        have := HGE.out
        simp [bk] at this ⊢
        omega), fun x hx => ⟨Nat.le_trans H2.out.size (HNEW.out x hx), Nat.lt_of_lt_of_le (HLT2.out x hx) HS2.out.size⟩, HS1.out, (H2.out.trans HF2.out (by simp)).trans HS2.out (fun _ h _ => h)⟩
end
end Go.Proofs.Ytkofmefnlppoaaa

namespace Go.Proofs.Ytkofmefnlppoaaa
open Go.RowKit

theorem hashOf_short {R : List UInt8} (h : R.length < 32) : ((hashOf R).map by8).toArray = zero32 := by
  unfold hashOf took zero32
  rw [if_pos h]
  rfl
theorem zero32_size : zero32.size = 32 := by simp [zero32]
theorem zero32_one : zero32.all (·.oneCell') = true := by
  rw [Array.all_eq_true_iff_forall_mem]
  intro u hu
  unfold zero32 at hu
  exact by8_one (List.replicate 32 (0 : UInt8)) u (by simpa using hu)
theorem hashOf_long {R : List UInt8} (h : 32 ≤ R.length) : hashOf R = R.take 32 := by
  unfold hashOf took
  rw [if_neg (by omega), List.length_take, Nat.min_eq_left h]
  simp

set_option maxRecDepth 100000 in
set_option maxHeartbeats 1000000 in
theorem qhash_f (w : World) (g : Nat) (F : List Nat) (R : List UInt8) (bad : Bool) (hr : Rq w g F R bad) (hF : ∀ k ∈ F, k < w.heap.size) (hl : R.length ≤ 1073741824) :
    Calls Try.prog 119 #[.pointer (some ⟨g, 0, none⟩)] w fun e w' => e = .returned (.agg ((hashOf R).map by8).toArray) ∧ Rq w' g F (tookL R) (tookB R bad) ∧ Fr [g] w w' := by
  have HR := Lib.hid hr
  have HL := Lib.hid hl
  have HF := Lib.hid hF
  have hgl := hr.lt
  clear hr hl hF
  have hwa : ∃ wa, wa = (w.alloc (Obj.cells zero32 25)).alloc (Obj.cells zero32 25) := ⟨_, rfl⟩
  obtain ⟨wa, hwa⟩ := hwa
  have hf0 : Fr [] w wa := by rw [hwa]; exact ((Fr.refl [] w).alloc _).alloc _
  have hbr : Blk wa w.heap.size 25 zero32 := by rw [hwa]; exact (Blk.new _ _ _).keep ((Fr.refl [] _).alloc _) (by simp)
  have hbv : Blk wa (w.heap.size + 1) 25 zero32 := by
    have := Blk.new (w.alloc (Obj.cells zero32 25)) 25 zero32
    rw [hwa]
    simpa using this
  have HR0 := Lib.hid (HR.out.keep hf0 (by simp) (by simp))
  have hq := HR.out.keep hf0 (by simp) (by simp)
  have HF0 := Lib.hid hf0
  have HBR := Lib.hid hbr
  have HBV := Lib.hid hbv
  have HWA := Lib.hid hwa
  clear hf0 hbr hbv hwa
  obtain ⟨A1, n1, c1, hA1, hb1, hy1, hnc1⟩ := hq
  have hn1 : n1 = R.length := hy1.1.symm
  subst hn1
  have HA1 := Lib.hid hA1
  have HB1 := Lib.hid hb1
  have HY1 := Lib.hid hy1
  have hc0 := hb1.cell 0
  simp at hc0
  have hz0 := hb1.frozen 0
  clear hA1 hb1 hy1
  have hgv1 : g ≠ w.heap.size := by omega
  have hgv2 : g ≠ w.heap.size + 1 := by omega
  have hn2 := HL.out
  go_enter Try.func119, Try.ntmps119
  go_upto_region 2 with (fail)
  change Code.wp _ _ _ _ ((w.alloc (Obj.cells zero32 25)).alloc (Obj.cells zero32 25))
  rw [← HWA.out]
  by_cases h32 : R.length < 32
  · have HH := Lib.hid (hashOf_short h32)
    have HTL := Lib.hid (show tookL R = [] ∧ tookB R bad = true by unfold tookL tookB; rw [if_pos h32, if_pos h32]; exact ⟨rfl, rfl⟩)
    go_wp2_with fail
    refine (qfail_any wa g F R bad HR0.out).mono ?_
    rintro e w2 ⟨rfl, h6, h7⟩
    have H6 := Lib.hid h6
    have H7 := Lib.hid h7
    have HBR2 := Lib.hid (HBR.out.keep h7 (by simp; omega))
    have HBV2 := Lib.hid (HBV.out.keep h7 (by simp; omega))
    clear h6 h7
    go_wp2_with (first
      | (refine wpList_load_row rfl 25 _ rfl (w.heap.size + 1) rfl 25 zero32 _ _ HBV2.out Try.underlying25 rfl (by rw [hash_size, zero32_size]) ?_)
      | (refine wpList_store_row rfl 25 _ _ rfl w.heap.size zero32 rfl rfl 25 zero32 HBR2.out (by rw [hash_size, zero32_size]) rfl zero32_one ?_))
    have hgr : Blk (w2.setRow w.heap.size zero32) w.heap.size 25 zero32 := setRow_blk HBR2.out zero32
    refine bodyPost_ret (v := .agg zero32) (results_cell_row Try.results119 _ _ w.heap.size 25 zero32 _ _ rfl hgr Try.underlying25 rfl (by rw [hash_size, zero32_size])) rfl ⟨?_, ?_, ?_⟩
    · rw [HH.out]
    · rw [HTL.out.1, HTL.out.2]
      exact H6.out.keep (setRow_fr w2 w.heap.size zero32) (by simp; omega) (fun k hk => by have := HF.out k hk; simp; omega)
    · exact ((HF0.out.mono (T := [g]) (by simp)).trans H7.out (fun _ h _ => h)).trans (setRow_fr w2 w.heap.size zero32) (fun x hx hl => by simp at hx; omega)
  · have h32' : 32 ≤ R.length := by omega
    have HH := Lib.hid (hashOf_long h32')
    have HTL := Lib.hid (show tookL R = R.drop 32 ∧ tookB R bad = bad by unfold tookL tookB; rw [if_neg h32, if_neg h32]; exact ⟨rfl, rfl⟩)
    clear h32
    have hnl : (R.length : Int) ≤ 1073741824 := by omega
    go_wp2
    go_loopw [14] (fun i wr => ∃ (k : Nat) (M : List UInt8), k ≤ 32 ∧ i = .int .i64 k ∧ M.length = 32 ∧ M.take k = R.take k ∧ Blk wr (w.heap.size + 1) 25 (M.map by8).toArray ∧ Fr [w.heap.size + 1] wa wr) (fun i _ => 32 - (intOf i).toNat)
    case atStart => exact ⟨0, List.replicate 32 0, by omega, rfl, by simp, by simp, HBV.out, Fr.refl _ _⟩
    case round =>
      obtain ⟨k, M, hk, rfl, hM, hT, hbm, hfm⟩ := hrel
      clear hc0 hz0
      have hb2 := HB1.out.keep hfm (by simp; omega)
      have hc0 := hb2.cell 0
      simp at hc0
      have hz0 := hb2.frozen 0
      have HB2 := Lib.hid hb2
      have HBM := Lib.hid hbm
      have HFM := Lib.hid hfm
      have HM := Lib.hid hM
      have HT := Lib.hid hT
      have hA3 : ∀ a, A1 = some a → ¬ a.block ∈ [w.heap.size + 1] := fun a ha => by
        have := HA1.out a.block (by simp [bk, ha])
        have := HF.out a.block this.1
        simp
        omega
      have HY2 := Lib.hid (HY1.out.keep hfm hA3)
      clear hb2 hbm hfm hM hT hA3
      by_cases hlt : k < 32
      · have hkM : k < M.length := by have := HM.out; omega
        obtain ⟨a1, b1, rfl, hg1, hc1⟩ := HY2.out.at (show k < R.length by omega)
        have HG1 := Lib.hid hg1
        have hcm := HBM.out.cell k
        have hzm := HBM.out.frozen k
        rw [show ((M.map by8).toArray)[k]? = some (.int .u8 (M[k].toNat : Int)) from by simp [List.getElem?_eq_getElem hkM, by8]] at hcm
        generalize M[k] = mk at hcm
        have HKM := Lib.hid hkM
        clear hkM hg1
        have hk0 : (0 : Int) ≤ k := by omega
        have hkR : k < R.length := by omega
        go_wp2
        refine ⟨⟨k + 1, M.set k b1, by omega, rfl, by rw [List.length_set]; exact HM.out, set_take HT.out HKM.out HG1.out, ?_, HFM.out.setCell _ (fun _ => by simp) _⟩, by simp [intOf]; omega⟩
        have hbs := HBM.out.set k (.int .u8 (b1.toNat : Int))
        rw [show ((M.map by8).toArray.setIfInBounds k (.int .u8 (b1.toNat : Int))) = ((M.set k b1).map by8).toArray from by simp [List.map_set, by8]] at hbs
        exact hbs
      · have hk3 : k = 32 := by omega
        subst hk3
        have hMR : M = hashOf R := by
          have e := HT.out
          rw [List.take_of_length_le (by have := HM.out; omega)] at e
          rw [e, HH.out]
        have hsz : ((M.map by8).toArray).size = 32 := by simp [HM.out]
        have hone : (((M.map by8).toArray).all (·.oneCell')) = true := by
          rw [Array.all_eq_true_iff_forall_mem]
          intro u hu
          exact by8_one M u (by simpa using hu)
        have hin : ∀ a, A1 = some a → ¬ a.block ∈ [g] := fun a ha => by
          have := HA1.out a.block (by simp [bk, ha])
          simp
          omega
        have HSZ := Lib.hid hsz
        have HONE := Lib.hid hone
        clear hsz hone hlt
        have HBRR := Lib.hid (HBR.out.keep HFM.out (by simp))
        have hHM : (M.map by8).toArray = ((hashOf R).map by8).toArray := by rw [hMR]
        have HHM := Lib.hid hHM
        clear hMR hHM
        generalize (M.map by8).toArray = H at *
        have HC := Lib.hid (HY2.out.cut' h32' hnc1)
        have hx : ∃ (A' : Option Addr) (c' : Nat), Rq (wr.setCell ⟨g, 0, none⟩ (.slice A' (R.length - 32) c')) g F (R.drop 32) bad ∧ Fr [g] wr (wr.setCell ⟨g, 0, none⟩ (.slice A' (R.length - 32) c')) ∧ (c1 = 32 → A' = A1 ∧ c' = 0) ∧ (c1 ≠ 32 → A' = A1.map (·.add 32) ∧ c' = c1 - 32) := by
          by_cases hcs : c1 = 32
          · obtain ⟨h1, h2⟩ := Rq.set HB2.out HA1.out (HC.out.1 hcs) (c' := 0) (by omega)
            exact ⟨A1, 0, h1, h2, fun _ => ⟨rfl, rfl⟩, fun h => absurd hcs h⟩
          · obtain ⟨h1, h2⟩ := Rq.set HB2.out (by rw [bk_map]; exact HA1.out) (HC.out.2 hcs) (c' := c1 - 32) (by omega)
            exact ⟨_, _, h1, h2, fun h => absurd h hcs, fun _ => ⟨rfl, rfl⟩⟩
        obtain ⟨A', c', hq1, hq2, hq3, hq4⟩ := hx
        have HQ1 := Lib.hid hq1
        have HQ2 := Lib.hid hq2
        have HBV3 := Lib.hid (HBM.out.keep hq2 (by simp; omega))
        have HBR3 := Lib.hid (HBRR.out.keep hq2 (by simp; omega))
        clear hq1 hq2
        have hcc : c1 = 32 ∨ c1 ≠ 32 := by omega
        have HC3 := Lib.hid hq3
        have HC4 := Lib.hid hq4
        clear hq3 hq4
        rcases hcc with hcs | hcs
        · obtain ⟨e1, e2⟩ := HC3.out hcs
          subst e1 e2
          clear HC3 HC4
          subst hcs
          have h0 : R.length - 32 = 0 := by omega
          rw [h0] at HQ1 HQ2 HBV3 HBR3
          clear h0
          go_wp2_with (first
            | (refine wpList_load_row rfl 25 _ rfl (w.heap.size + 1) rfl 25 H _ _ HBV3.out Try.underlying25 rfl (by rw [hash_size, HSZ.out]) ?_)
            | (refine wpList_store_row rfl 25 _ _ rfl w.heap.size H rfl rfl 25 zero32 HBR3.out (by rw [hash_size, HSZ.out]) (by rw [HSZ.out, zero32_size]) HONE.out ?_))
          have hgr := setRow_blk HBR3.out H
          refine bodyPost_ret (v := .agg H) (results_cell_row Try.results119 _ _ w.heap.size 25 H _ _ rfl hgr Try.underlying25 rfl (by rw [hash_size, HSZ.out])) rfl ⟨?_, ?_, ?_⟩
          · rw [HHM.out]
          · rw [HTL.out.1, HTL.out.2]
            exact HQ1.out.keep (setRow_fr _ w.heap.size H) (by simp; omega) (fun k hk => by have := HF.out k hk; simp; omega)
          · exact (((HF0.out.mono (T := [g]) (by simp)).trans HFM.out (fun x hx hl => by simp at hx; omega)).trans HQ2.out (fun _ h _ => h)).trans (setRow_fr _ w.heap.size H) (fun x hx hl => by simp at hx; omega)
        · obtain ⟨e1, e2⟩ := HC4.out hcs
          subst e1 e2
          clear HC3 HC4
          go_wp2_with (first
            | (refine wpList_load_row rfl 25 _ rfl (w.heap.size + 1) rfl 25 H _ _ HBV3.out Try.underlying25 rfl (by rw [hash_size, HSZ.out]) ?_)
            | (refine wpList_store_row rfl 25 _ _ rfl w.heap.size H rfl rfl 25 zero32 HBR3.out (by rw [hash_size, HSZ.out]) (by rw [HSZ.out, zero32_size]) HONE.out ?_))
          have hgr := setRow_blk HBR3.out H
          refine bodyPost_ret (v := .agg H) (results_cell_row Try.results119 _ _ w.heap.size 25 H _ _ rfl hgr Try.underlying25 rfl (by rw [hash_size, HSZ.out])) rfl ⟨?_, ?_, ?_⟩
          · rw [HHM.out]
          · rw [HTL.out.1, HTL.out.2]
            exact HQ1.out.keep (setRow_fr _ w.heap.size H) (by simp; omega) (fun k hk => by have := HF.out k hk; simp; omega)
          · exact (((HF0.out.mono (T := [g]) (by simp)).trans HFM.out (fun x hx hl => by simp at hx; omega)).trans HQ2.out (fun _ h _ => h)).trans (setRow_fr _ w.heap.size H) (fun x hx hl => by simp at hx; omega)
end Go.Proofs.Ytkofmefnlppoaaa
