/- Texts that the proof stands on: Package wire: GetCert, GetPromise, GetBatch: all of it, or the zero value. (written by gen_rp4.py) | Cells in the middle of a block; gavellaw05's up, niceName, niceSig. (written by gen_nic.py) | gavellaw05's nice: a certificate of numbers from 0 on, not too great. (written by gen_nic2.py) | gavellaw05's nicePromise. (written by gen_nic3.py) | gavellaw05's niceBatch. (written by gen_nic4.py) | Package part: what its readers take off what its writers wrote. (written by gen_rpe.py) | '==' of two structs in a region that draws its order. -/
import Derived.Test.YtbkhkhippcjdgaaKC1
import Derived.Test.YtbkhkhippcjdgaaRegT
import Derived.Test.YtbkhkhippcjdgaaReg
set_option maxHeartbeats 1000000
set_option maxRecDepth 100000

namespace Go.Proofs.Ytbkhkhippcjdgaa
open Go.RowKit
set_option maxRecDepth 100000
def pW {α : Type} (z : α) (p : Ps → α × Ps) (s : Ps) : α × Ps := (if (p s).2.2 then z else (p s).1, (p s).2)
def zWce : Wce := ⟨⟨0, 0, List.replicate 32 0, 0, 0, 0⟩, none, 0, 0, []⟩
def zWpr : Wpr := ⟨0, 0, 0, none, 0, 0, [], 0, 0⟩
def zWba : Wba := ⟨0, 0, none, 0, 0, [], none, 0, 0, [], none, 0, 0, []⟩
theorem zero_in : i64In 0 := by unfold i64In; omega
theorem zWce_ok (w : World) (S : List Nat) : zWce.Li w S := ⟨⟨zero_in, zero_in, rfl, zero_in, zero_in, zero_in⟩, Lst.nil _, by decide, fun h => absurd h (by decide)⟩
theorem zWpr_ok (w : World) (S : List Nat) : zWpr.Li w S := ⟨zero_in, zero_in, by decide, Lst.nil _, by decide, fun h => absurd h (by decide), zero_in, zero_in⟩
theorem zWba_ok (w : World) (S : List Nat) : zWba.Li w S := ⟨zero_in, by decide, Lst.nil _, by decide, fun h => absurd h (by decide), Lst.nil _, by decide, fun h => absurd h (by decide), Lst.nil _, by decide, fun h => absurd h (by decide)⟩

set_option maxHeartbeats 2000000 in
theorem wholeCert_any (w : World) (F : List Nat) (g : Nat) (s : Ps) (hr : Rs w F g s) : Calls Try.prog 48 #[.pointer (some ⟨g, 0, none⟩), fnV 49] w fun e w' =>
    ∃ v : Wce, e = .returned (.agg v.cells.toArray) ∧ v.con = (pW zWce.con pCe s).1 ∧ (∀ S0 : List Nat, (∀ q ∈ S0, q < w.heap.size) → v.Li w' S0) ∧ Rs w' F g (pW zWce.con pCe s).2 ∧ Fr [g] w w' := by
  unfold fnV
  obtain ⟨Z, hZ⟩ : ∃ Z, Z = zWce.cells := ⟨_, rfl⟩
  have hzl : Z.length = 38 := by rw [hZ]; rfl
  obtain ⟨wa, hwa⟩ : ∃ wa, wa = w.alloc (Obj.cells zWce.cells.toArray 32) := ⟨_, rfl⟩
  have hf0 : Fr [] w wa := by rw [hwa]; exact (Fr.refl [] w).alloc _
  have HB : Hid (Blk wa w.heap.size 32 Z.toArray) := Lib.hid (by rw [hwa, hZ]; exact Blk.new _ _ _)
  have HR := Lib.hid (hr.fr hf0 (by simp) (by simp))
  have HNF : Hid (∀ k ∈ F, k < w.heap.size) := Lib.hid (fun k hm => hr.lt _ hm)
  have HG : Hid (g < w.heap.size) := Lib.hid hr.gt
  have HF0 := Lib.hid hf0
  have HWA := Lib.hid hwa
  have HZL := Lib.hid hzl
  have HZ1 : Hid (Z.toArray.all (·.oneCell') = true) := Lib.hid (by rw [hZ]; exact all_oneCell_toArray (Wce.one _))
  have HZ := Lib.hid hZ
  clear hwa hf0 hr hZ hzl
  go_enter Try.func48, Try.ntmps48
  go_upto_region 1 with (fail)
  change Code.wp _ _ _ _ (w.alloc (Obj.cells zWce.cells.toArray 32))
  rw [← HWA.out]
  go_wp2_with fail
  refine (getCert_any wa F g s HR.out).mono ?_
  rintro e_ w1 ⟨v, rfl, hc, hok, h1, h2⟩
  have HVS : Hid (v.cells.length = 38) := Lib.hid (Wce.len (hok [] (by simp)).k.h)
  have HAL : Hid (v.cells.toArray.all (·.oneCell') = true) := Lib.hid (all_oneCell_toArray (Wce.one _))
  have HC := Lib.hid hc
  have HOK : Hid (∀ W, Fr [g, w.heap.size] w1 W → ∀ S0 : List Nat, (∀ q ∈ S0, q < w.heap.size) → v.Li W S0) := Lib.hid (fun W hW S0 h0 => (hok (g :: w.heap.size :: S0) (fun q hq => by
    have h3 := HB.out.lt
    have h4 := HG.out
    rcases List.mem_cons.1 hq with rfl | hq
    · omega
    · rcases List.mem_cons.1 hq with rfl | hq
      · exact h3
      · have := h0 q hq; omega)).keep (hW.mono (fun k hk _ => by simp at hk; simp; omega)) (fun k hk _ => by simp [hk]))
  have HF1 := Lib.hid h2
  have HB1 := Lib.hid (HB.out.keep h2 (by have := HG.out; simp; omega))
  have HSZ : Hid (w.heap.size < w1.heap.size) := Lib.hid (by have := HB.out.lt; have := h2.size; omega)
  have HP : Hid (pW zWce.con pCe s = (if (pCe s).2.2 then zWce.con else (pCe s).1, (pCe s).2)) := Lib.hid rfl
  generalize (pCe s).2 = s2 at *
  obtain ⟨R, bad⟩ := s2
  have HR1 := Lib.hid h1
  obtain ⟨V, hV⟩ : ∃ V, V = v.cells := ⟨_, rfl⟩
  rw [← hV] at HVS HAL ⊢
  have HV := Lib.hid hV
  have HVT : Hid ((Try.prog.info? 32).map (·.size) = some V.toArray.size) := Lib.hid (by rw [List.size_toArray, HVS.out]; kernel_rfl)
  have HZT : Hid ((Try.prog.info? 32).map (·.size) = some Z.toArray.size) := Lib.hid (by rw [List.size_toArray, HZL.out]; kernel_rfl)
  have HBN : Hid (Blk (w1.alloc (Obj.cells zWce.cells.toArray 32)) w1.heap.size 32 Z.toArray) := Lib.hid (by rw [HZ.out]; exact Blk.new _ _ _)
  clear hc hok h1 h2 hV
  go_wp2_with (first
    | (refine wpList_store_blk rfl 32 _ _ rfl w1.heap.size V.toArray rfl rfl 32 Z.toArray HBN.out HVT.out (by rw [List.size_toArray, List.size_toArray, HVS.out, HZL.out]) HAL.out ?_
       intro w2 hb2 hf2
       have HB2 := Lib.hid hb2
       have HF2 := Lib.hid ((((Fr.refl [w1.heap.size] w1).alloc _)).trans hf2 (fun x hx _ => hx))
       clear hb2 hf2))
  have HR2 := Lib.hid (HR1.out.fr HF2.out (by have := HG.out; have := HSZ.out; simp; omega) (fun k hk hm => by have := HNF.out k hk; have := HSZ.out; simp at hm; omega))
  have HBW := Lib.hid (HB1.out.keep HF2.out (by have := HSZ.out; simp; omega))
  have HS2 : Hid (w1.heap.size < w2.heap.size) := Lib.hid HB2.out.lt
  go_wp2_with fail
  refine (ok_any w2 g F R bad HR2.out.rd).mono ?_
  rintro e_ w3 ⟨rfl, rfl⟩
  cases bad
  · go_wp2_with (first
      | (refine wpList_row rfl 32 _ rfl _ _ rfl _ HB2.out.range (row_crt.of HVS.out) ?_)
      | (refine wpList_store_blk rfl 32 _ _ rfl w.heap.size V.toArray rfl rfl 32 Z.toArray HBW.out HVT.out (by rw [List.size_toArray, List.size_toArray, HVS.out, HZL.out]) HAL.out ?_
         intro w9 hb9 hf9
         have HB9 := Lib.hid hb9
         have HF9 := Lib.hid hf9
         clear hb9 hf9))
    have hq9 : Fr [g, w.heap.size] w1 w9 := (HF2.out.mono (T := [g, w.heap.size]) (fun x hx hl => by simp at hx; omega)).trans (HF9.out.mono (fun x hx _ => by simp at hx; simp [hx])) (fun x hx _ => hx)
    refine bodyPost_ret (v := .agg V.toArray) (results_cell_row Try.results48 _ _ w.heap.size 32 V.toArray _ _ rfl HB9.out Try.underlying32 rfl HVT.out) rfl ⟨v, by rw [HV.out], ?_, fun S0 h0 => HOK.out w9 hq9 S0 h0, ?_, ?_⟩
    · rw [HP.out, HC.out]; rfl
    · rw [HP.out]; exact HR2.out.fr HF9.out (by have := HG.out; simp; omega) (fun k hk hm => by have := HNF.out k hk; simp at hm; omega)
    · exact (((HF0.out.mono (T := [g]) (by simp)).trans HF1.out (fun x hx _ => hx)).trans HF2.out (fun x hx hl => by have := HSZ.out; simp at hx; omega)).trans HF9.out (fun x hx hl => by simp at hx; omega)
  · have HBM : Hid (Blk (w2.alloc (Obj.cells zWce.cells.toArray 32)) w2.heap.size 32 Z.toArray) := Lib.hid (by rw [HZ.out]; exact Blk.new _ _ _)
    have HBV := Lib.hid (HBW.out.keep ((Fr.refl [] w2).alloc (Obj.cells zWce.cells.toArray 32)) (by simp))
    go_wp2_with (first
      | (refine wpList_row rfl 32 _ rfl _ _ rfl _ HBM.out.range (row_crt.of HZL.out) ?_)
      | (refine wpList_store_blk rfl 32 _ _ rfl w.heap.size Z.toArray rfl rfl 32 Z.toArray HBV.out HZT.out rfl HZ1.out ?_
         intro w9 hb9 hf9
         have HB9 := Lib.hid hb9
         have HF9 := Lib.hid (((Fr.refl [w.heap.size] w2).alloc _).trans hf9 (fun x hx _ => hx))
         clear hb9 hf9))
    refine bodyPost_ret (v := .agg Z.toArray) (results_cell_row Try.results48 _ _ w.heap.size 32 Z.toArray _ _ rfl HB9.out Try.underlying32 rfl HZT.out) rfl ⟨zWce, by rw [HZ.out], ?_, fun S0 h0 => zWce_ok w9 S0, ?_, ?_⟩
    · rw [HP.out]; rfl
    · rw [HP.out]; exact HR2.out.fr HF9.out (by have := HG.out; simp; omega) (fun k hk hm => by have := HNF.out k hk; simp at hm; omega)
    · exact (((HF0.out.mono (T := [g]) (by simp)).trans HF1.out (fun x hx _ => hx)).trans HF2.out (fun x hx hl => by have := HSZ.out; simp at hx; omega)).trans HF9.out (fun x hx hl => by simp at hx; omega)
set_option maxHeartbeats 2000000 in
theorem wireCert_any (w : World) (F : List Nat) (g : Nat) (s : Ps) (hr : Rs w F g s) : Calls Try.prog 19 #[.pointer (some ⟨g, 0, none⟩)] w fun e w' =>
    ∃ v : Wce, e = .returned (.agg v.cells.toArray) ∧ v.con = (pW zWce.con pCe s).1 ∧ (∀ S0 : List Nat, (∀ q ∈ S0, q < w.heap.size) → v.Li w' S0) ∧ Rs w' F g (pW zWce.con pCe s).2 ∧ Fr [g] w w' := by
  obtain ⟨Z, hZ⟩ : ∃ Z, Z = zWce.cells := ⟨_, rfl⟩
  have hzl : Z.length = 38 := by rw [hZ]; rfl
  obtain ⟨wa, hwa⟩ : ∃ wa, wa = w.alloc (Obj.cells zWce.cells.toArray 32) := ⟨_, rfl⟩
  have hf0 : Fr [] w wa := by rw [hwa]; exact (Fr.refl [] w).alloc _
  have HB : Hid (Blk wa w.heap.size 32 Z.toArray) := Lib.hid (by rw [hwa, hZ]; exact Blk.new _ _ _)
  have HR := Lib.hid (hr.fr hf0 (by simp) (by simp))
  have HNF : Hid (∀ k ∈ F, k < w.heap.size) := Lib.hid (fun k hm => hr.lt _ hm)
  have HG : Hid (g < w.heap.size) := Lib.hid hr.gt
  have HF0 := Lib.hid hf0
  have HWA := Lib.hid hwa
  have HZL := Lib.hid hzl
  clear hwa hf0 hr hZ hzl
  go_enter Try.func19, Try.ntmps19
  go_upto_region 1 with (fail)
  change Code.wp _ _ _ _ (w.alloc (Obj.cells zWce.cells.toArray 32))
  rw [← HWA.out]
  go_wp2_with fail
  refine (wholeCert_any wa F g s HR.out).mono ?_
  rintro e_ w1 ⟨v, rfl, hc, hok, h1, h2⟩
  have HVS : Hid (v.cells.length = 38) := Lib.hid (Wce.len (hok [] (by simp)).k.h)
  have HAL : Hid (v.cells.toArray.all (·.oneCell') = true) := Lib.hid (all_oneCell_toArray (Wce.one _))
  have HC := Lib.hid hc
  have HOK : Hid (∀ W, Fr [w.heap.size] w1 W → ∀ S0 : List Nat, (∀ q ∈ S0, q < w.heap.size) → v.Li W S0) := Lib.hid (fun W hW S0 h0 => (hok (w.heap.size :: S0) (fun q hq => by
    have h3 := HB.out.lt
    rcases List.mem_cons.1 hq with rfl | hq
    · exact h3
    · have := h0 q hq; omega)).keep (hW.mono (fun k hk _ => by simp at hk; simp [hk])) (fun k hk _ => by simp [hk]))
  have HF1 := Lib.hid h2
  have HB1 := Lib.hid (HB.out.keep h2 (by have := HG.out; simp; omega))
  have HR1 := Lib.hid h1
  obtain ⟨V, hV⟩ : ∃ V, V = v.cells := ⟨_, rfl⟩
  rw [← hV] at HVS HAL ⊢
  have HV := Lib.hid hV
  have HVT : Hid ((Try.prog.info? 32).map (·.size) = some V.toArray.size) := Lib.hid (by rw [List.size_toArray, HVS.out]; kernel_rfl)
  clear hc hok h1 h2 hV
  go_wp2_with (first
    | (refine wpList_store_blk rfl 32 _ _ rfl w.heap.size V.toArray rfl rfl 32 Z.toArray HB1.out HVT.out (by rw [List.size_toArray, List.size_toArray, HVS.out, HZL.out]) HAL.out ?_
       intro w9 hb9 hf9
       have HB9 := Lib.hid hb9
       have HF9 := Lib.hid hf9
       clear hb9 hf9))
  refine bodyPost_ret (v := .agg V.toArray) (results_cell_row Try.results19 _ _ w.heap.size 32 V.toArray _ _ rfl HB9.out Try.underlying32 rfl HVT.out) rfl ⟨v, by rw [HV.out], HC.out, fun S0 h0 => HOK.out w9 HF9.out S0 h0, ?_, ?_⟩
  · exact HR1.out.fr HF9.out (by have := HG.out; simp; omega) (fun k hk hm => by have := HNF.out k hk; simp at hm; omega)
  · exact Fr.unbox HF0.out HF1.out HF9.out (Nat.le_refl _)

set_option maxHeartbeats 2000000 in
theorem wholePromise_any (w : World) (F : List Nat) (g : Nat) (s : Ps) (hr : Rs w F g s) : Calls Try.prog 50 #[.pointer (some ⟨g, 0, none⟩), fnV 51] w fun e w' =>
    ∃ v : Wpr, e = .returned (.agg v.cells.toArray) ∧ v.con = (pW zWpr.con pPr s).1 ∧ (∀ S0 : List Nat, (∀ q ∈ S0, q < w.heap.size) → v.Li w' S0) ∧ Rs w' F g (pW zWpr.con pPr s).2 ∧ Fr [g] w w' := by
  unfold fnV
  obtain ⟨Z, hZ⟩ : ∃ Z, Z = zWpr.cells := ⟨_, rfl⟩
  have hzl : Z.length = 6 := by rw [hZ]; rfl
  obtain ⟨wa, hwa⟩ : ∃ wa, wa = w.alloc (Obj.cells zWpr.cells.toArray 36) := ⟨_, rfl⟩
  have hf0 : Fr [] w wa := by rw [hwa]; exact (Fr.refl [] w).alloc _
  have HB : Hid (Blk wa w.heap.size 36 Z.toArray) := Lib.hid (by rw [hwa, hZ]; exact Blk.new _ _ _)
  have HR := Lib.hid (hr.fr hf0 (by simp) (by simp))
  have HNF : Hid (∀ k ∈ F, k < w.heap.size) := Lib.hid (fun k hm => hr.lt _ hm)
  have HG : Hid (g < w.heap.size) := Lib.hid hr.gt
  have HF0 := Lib.hid hf0
  have HWA := Lib.hid hwa
  have HZL := Lib.hid hzl
  have HZ1 : Hid (Z.toArray.all (·.oneCell') = true) := Lib.hid (by rw [hZ]; exact all_oneCell_toArray (Wpr.one _))
  have HZ := Lib.hid hZ
  clear hwa hf0 hr hZ hzl
  go_enter Try.func50, Try.ntmps50
  go_upto_region 1 with (fail)
  change Code.wp _ _ _ _ (w.alloc (Obj.cells zWpr.cells.toArray 36))
  rw [← HWA.out]
  go_wp2_with fail
  refine (getPromise_any wa F g s HR.out).mono ?_
  rintro e_ w1 ⟨v, rfl, hc, hok, h1, h2⟩
  have HVS : Hid (v.cells.length = 6) := Lib.hid (rfl)
  have HAL : Hid (v.cells.toArray.all (·.oneCell') = true) := Lib.hid (all_oneCell_toArray (Wpr.one _))
  have HC := Lib.hid hc
  have HOK : Hid (∀ W, Fr [g, w.heap.size] w1 W → ∀ S0 : List Nat, (∀ q ∈ S0, q < w.heap.size) → v.Li W S0) := Lib.hid (fun W hW S0 h0 => (hok (g :: w.heap.size :: S0) (fun q hq => by
    have h3 := HB.out.lt
    have h4 := HG.out
    rcases List.mem_cons.1 hq with rfl | hq
    · omega
    · rcases List.mem_cons.1 hq with rfl | hq
      · exact h3
      · have := h0 q hq; omega)).keep (hW.mono (fun k hk _ => by simp at hk; simp; omega)) (fun k hk _ => by simp [hk]))
  have HF1 := Lib.hid h2
  have HB1 := Lib.hid (HB.out.keep h2 (by have := HG.out; simp; omega))
  have HSZ : Hid (w.heap.size < w1.heap.size) := Lib.hid (by have := HB.out.lt; have := h2.size; omega)
  have HP : Hid (pW zWpr.con pPr s = (if (pPr s).2.2 then zWpr.con else (pPr s).1, (pPr s).2)) := Lib.hid rfl
  generalize (pPr s).2 = s2 at *
  obtain ⟨R, bad⟩ := s2
  have HR1 := Lib.hid h1
  obtain ⟨V, hV⟩ : ∃ V, V = v.cells := ⟨_, rfl⟩
  rw [← hV] at HVS HAL ⊢
  have HV := Lib.hid hV
  have HVT : Hid ((Try.prog.info? 36).map (·.size) = some V.toArray.size) := Lib.hid (by rw [List.size_toArray, HVS.out]; kernel_rfl)
  have HZT : Hid ((Try.prog.info? 36).map (·.size) = some Z.toArray.size) := Lib.hid (by rw [List.size_toArray, HZL.out]; kernel_rfl)
  have HBN : Hid (Blk (w1.alloc (Obj.cells zWpr.cells.toArray 36)) w1.heap.size 36 Z.toArray) := Lib.hid (by rw [HZ.out]; exact Blk.new _ _ _)
  clear hc hok h1 h2 hV
  go_wp2_with (first
    | (refine wpList_store_blk rfl 36 _ _ rfl w1.heap.size V.toArray rfl rfl 36 Z.toArray HBN.out HVT.out (by rw [List.size_toArray, List.size_toArray, HVS.out, HZL.out]) HAL.out ?_
       intro w2 hb2 hf2
       have HB2 := Lib.hid hb2
       have HF2 := Lib.hid ((((Fr.refl [w1.heap.size] w1).alloc _)).trans hf2 (fun x hx _ => hx))
       clear hb2 hf2))
  have HR2 := Lib.hid (HR1.out.fr HF2.out (by have := HG.out; have := HSZ.out; simp; omega) (fun k hk hm => by have := HNF.out k hk; have := HSZ.out; simp at hm; omega))
  have HBW := Lib.hid (HB1.out.keep HF2.out (by have := HSZ.out; simp; omega))
  have HS2 : Hid (w1.heap.size < w2.heap.size) := Lib.hid HB2.out.lt
  go_wp2_with fail
  refine (ok_any w2 g F R bad HR2.out.rd).mono ?_
  rintro e_ w3 ⟨rfl, rfl⟩
  cases bad
  · go_wp2_with (first
      | (refine wpList_row rfl 36 _ rfl _ _ rfl _ HB2.out.range (row_prm.of HVS.out) ?_)
      | (refine wpList_store_blk rfl 36 _ _ rfl w.heap.size V.toArray rfl rfl 36 Z.toArray HBW.out HVT.out (by rw [List.size_toArray, List.size_toArray, HVS.out, HZL.out]) HAL.out ?_
         intro w9 hb9 hf9
         have HB9 := Lib.hid hb9
         have HF9 := Lib.hid hf9
         clear hb9 hf9))
    have hq9 : Fr [g, w.heap.size] w1 w9 := (HF2.out.mono (T := [g, w.heap.size]) (fun x hx hl => by simp at hx; omega)).trans (HF9.out.mono (fun x hx _ => by simp at hx; simp [hx])) (fun x hx _ => hx)
    refine bodyPost_ret (v := .agg V.toArray) (results_cell_row Try.results50 _ _ w.heap.size 36 V.toArray _ _ rfl HB9.out Try.underlying36 rfl HVT.out) rfl ⟨v, by rw [HV.out], ?_, fun S0 h0 => HOK.out w9 hq9 S0 h0, ?_, ?_⟩
    · rw [HP.out, HC.out]; rfl
    · rw [HP.out]; exact HR2.out.fr HF9.out (by have := HG.out; simp; omega) (fun k hk hm => by have := HNF.out k hk; simp at hm; omega)
    · exact (((HF0.out.mono (T := [g]) (by simp)).trans HF1.out (fun x hx _ => hx)).trans HF2.out (fun x hx hl => by have := HSZ.out; simp at hx; omega)).trans HF9.out (fun x hx hl => by simp at hx; omega)
  · have HBM : Hid (Blk (w2.alloc (Obj.cells zWpr.cells.toArray 36)) w2.heap.size 36 Z.toArray) := Lib.hid (by rw [HZ.out]; exact Blk.new _ _ _)
    have HBV := Lib.hid (HBW.out.keep ((Fr.refl [] w2).alloc (Obj.cells zWpr.cells.toArray 36)) (by simp))
    go_wp2_with (first
      | (refine wpList_row rfl 36 _ rfl _ _ rfl _ HBM.out.range (row_prm.of HZL.out) ?_)
      | (refine wpList_store_blk rfl 36 _ _ rfl w.heap.size Z.toArray rfl rfl 36 Z.toArray HBV.out HZT.out rfl HZ1.out ?_
         intro w9 hb9 hf9
         have HB9 := Lib.hid hb9
         have HF9 := Lib.hid (((Fr.refl [w.heap.size] w2).alloc _).trans hf9 (fun x hx _ => hx))
         clear hb9 hf9))
    refine bodyPost_ret (v := .agg Z.toArray) (results_cell_row Try.results50 _ _ w.heap.size 36 Z.toArray _ _ rfl HB9.out Try.underlying36 rfl HZT.out) rfl ⟨zWpr, by rw [HZ.out], ?_, fun S0 h0 => zWpr_ok w9 S0, ?_, ?_⟩
    · rw [HP.out]; rfl
    · rw [HP.out]; exact HR2.out.fr HF9.out (by have := HG.out; simp; omega) (fun k hk hm => by have := HNF.out k hk; simp at hm; omega)
    · exact (((HF0.out.mono (T := [g]) (by simp)).trans HF1.out (fun x hx _ => hx)).trans HF2.out (fun x hx hl => by have := HSZ.out; simp at hx; omega)).trans HF9.out (fun x hx hl => by simp at hx; omega)
set_option maxHeartbeats 2000000 in
theorem wirePromise_any (w : World) (F : List Nat) (g : Nat) (s : Ps) (hr : Rs w F g s) : Calls Try.prog 20 #[.pointer (some ⟨g, 0, none⟩)] w fun e w' =>
    ∃ v : Wpr, e = .returned (.agg v.cells.toArray) ∧ v.con = (pW zWpr.con pPr s).1 ∧ (∀ S0 : List Nat, (∀ q ∈ S0, q < w.heap.size) → v.Li w' S0) ∧ Rs w' F g (pW zWpr.con pPr s).2 ∧ Fr [g] w w' := by
  obtain ⟨Z, hZ⟩ : ∃ Z, Z = zWpr.cells := ⟨_, rfl⟩
  have hzl : Z.length = 6 := by rw [hZ]; rfl
  obtain ⟨wa, hwa⟩ : ∃ wa, wa = w.alloc (Obj.cells zWpr.cells.toArray 36) := ⟨_, rfl⟩
  have hf0 : Fr [] w wa := by rw [hwa]; exact (Fr.refl [] w).alloc _
  have HB : Hid (Blk wa w.heap.size 36 Z.toArray) := Lib.hid (by rw [hwa, hZ]; exact Blk.new _ _ _)
  have HR := Lib.hid (hr.fr hf0 (by simp) (by simp))
  have HNF : Hid (∀ k ∈ F, k < w.heap.size) := Lib.hid (fun k hm => hr.lt _ hm)
  have HG : Hid (g < w.heap.size) := Lib.hid hr.gt
  have HF0 := Lib.hid hf0
  have HWA := Lib.hid hwa
  have HZL := Lib.hid hzl
  clear hwa hf0 hr hZ hzl
  go_enter Try.func20, Try.ntmps20
  go_upto_region 1 with (fail)
  change Code.wp _ _ _ _ (w.alloc (Obj.cells zWpr.cells.toArray 36))
  rw [← HWA.out]
  go_wp2_with fail
  refine (wholePromise_any wa F g s HR.out).mono ?_
  rintro e_ w1 ⟨v, rfl, hc, hok, h1, h2⟩
  have HVS : Hid (v.cells.length = 6) := Lib.hid (rfl)
  have HAL : Hid (v.cells.toArray.all (·.oneCell') = true) := Lib.hid (all_oneCell_toArray (Wpr.one _))
  have HC := Lib.hid hc
  have HOK : Hid (∀ W, Fr [w.heap.size] w1 W → ∀ S0 : List Nat, (∀ q ∈ S0, q < w.heap.size) → v.Li W S0) := Lib.hid (fun W hW S0 h0 => (hok (w.heap.size :: S0) (fun q hq => by
    have h3 := HB.out.lt
    rcases List.mem_cons.1 hq with rfl | hq
    · exact h3
    · have := h0 q hq; omega)).keep (hW.mono (fun k hk _ => by simp at hk; simp [hk])) (fun k hk _ => by simp [hk]))
  have HF1 := Lib.hid h2
  have HB1 := Lib.hid (HB.out.keep h2 (by have := HG.out; simp; omega))
  have HR1 := Lib.hid h1
  obtain ⟨V, hV⟩ : ∃ V, V = v.cells := ⟨_, rfl⟩
  rw [← hV] at HVS HAL ⊢
  have HV := Lib.hid hV
  have HVT : Hid ((Try.prog.info? 36).map (·.size) = some V.toArray.size) := Lib.hid (by rw [List.size_toArray, HVS.out]; kernel_rfl)
  clear hc hok h1 h2 hV
  go_wp2_with (first
    | (refine wpList_store_blk rfl 36 _ _ rfl w.heap.size V.toArray rfl rfl 36 Z.toArray HB1.out HVT.out (by rw [List.size_toArray, List.size_toArray, HVS.out, HZL.out]) HAL.out ?_
       intro w9 hb9 hf9
       have HB9 := Lib.hid hb9
       have HF9 := Lib.hid hf9
       clear hb9 hf9))
  refine bodyPost_ret (v := .agg V.toArray) (results_cell_row Try.results20 _ _ w.heap.size 36 V.toArray _ _ rfl HB9.out Try.underlying36 rfl HVT.out) rfl ⟨v, by rw [HV.out], HC.out, fun S0 h0 => HOK.out w9 HF9.out S0 h0, ?_, ?_⟩
  · exact HR1.out.fr HF9.out (by have := HG.out; simp; omega) (fun k hk hm => by have := HNF.out k hk; simp at hm; omega)
  · exact Fr.unbox HF0.out HF1.out HF9.out (Nat.le_refl _)

set_option maxHeartbeats 2000000 in
theorem wholeBatch_any (w : World) (F : List Nat) (g : Nat) (s : Ps) (hr : Rs w F g s) : Calls Try.prog 52 #[.pointer (some ⟨g, 0, none⟩), fnV 53] w fun e w' =>
    ∃ v : Wba, e = .returned (.agg v.cells.toArray) ∧ v.con = (pW zWba.con pBa s).1 ∧ (∀ S0 : List Nat, (∀ q ∈ S0, q < w.heap.size) → v.Li w' S0) ∧ Rs w' F g (pW zWba.con pBa s).2 ∧ Fr [g] w w' := by
  unfold fnV
  obtain ⟨Z, hZ⟩ : ∃ Z, Z = zWba.cells := ⟨_, rfl⟩
  have hzl : Z.length = 5 := by rw [hZ]; rfl
  obtain ⟨wa, hwa⟩ : ∃ wa, wa = w.alloc (Obj.cells zWba.cells.toArray 41) := ⟨_, rfl⟩
  have hf0 : Fr [] w wa := by rw [hwa]; exact (Fr.refl [] w).alloc _
  have HB : Hid (Blk wa w.heap.size 41 Z.toArray) := Lib.hid (by rw [hwa, hZ]; exact Blk.new _ _ _)
  have HR := Lib.hid (hr.fr hf0 (by simp) (by simp))
  have HNF : Hid (∀ k ∈ F, k < w.heap.size) := Lib.hid (fun k hm => hr.lt _ hm)
  have HG : Hid (g < w.heap.size) := Lib.hid hr.gt
  have HF0 := Lib.hid hf0
  have HWA := Lib.hid hwa
  have HZL := Lib.hid hzl
  have HZ1 : Hid (Z.toArray.all (·.oneCell') = true) := Lib.hid (by rw [hZ]; exact all_oneCell_toArray (Wba.one _))
  have HZ := Lib.hid hZ
  clear hwa hf0 hr hZ hzl
  go_enter Try.func52, Try.ntmps52
  go_upto_region 1 with (fail)
  change Code.wp _ _ _ _ (w.alloc (Obj.cells zWba.cells.toArray 41))
  rw [← HWA.out]
  go_wp2_with fail
  refine (getBatch_any wa F g s HR.out).mono ?_
  rintro e_ w1 ⟨v, rfl, hc, hok, h1, h2⟩
  have HVS : Hid (v.cells.length = 5) := Lib.hid (rfl)
  have HAL : Hid (v.cells.toArray.all (·.oneCell') = true) := Lib.hid (all_oneCell_toArray (Wba.one _))
  have HC := Lib.hid hc
  have HOK : Hid (∀ W, Fr [g, w.heap.size] w1 W → ∀ S0 : List Nat, (∀ q ∈ S0, q < w.heap.size) → v.Li W S0) := Lib.hid (fun W hW S0 h0 => (hok (g :: w.heap.size :: S0) (fun q hq => by
    have h3 := HB.out.lt
    have h4 := HG.out
    rcases List.mem_cons.1 hq with rfl | hq
    · omega
    · rcases List.mem_cons.1 hq with rfl | hq
      · exact h3
      · have := h0 q hq; omega)).keep (hW.mono (fun k hk _ => by simp at hk; simp; omega)) (fun k hk _ => by simp [hk]))
  have HF1 := Lib.hid h2
  have HB1 := Lib.hid (HB.out.keep h2 (by have := HG.out; simp; omega))
  have HSZ : Hid (w.heap.size < w1.heap.size) := Lib.hid (by have := HB.out.lt; have := h2.size; omega)
  have HP : Hid (pW zWba.con pBa s = (if (pBa s).2.2 then zWba.con else (pBa s).1, (pBa s).2)) := Lib.hid rfl
  generalize (pBa s).2 = s2 at *
  obtain ⟨R, bad⟩ := s2
  have HR1 := Lib.hid h1
  obtain ⟨V, hV⟩ : ∃ V, V = v.cells := ⟨_, rfl⟩
  rw [← hV] at HVS HAL ⊢
  have HV := Lib.hid hV
  have HVT : Hid ((Try.prog.info? 41).map (·.size) = some V.toArray.size) := Lib.hid (by rw [List.size_toArray, HVS.out]; kernel_rfl)
  have HZT : Hid ((Try.prog.info? 41).map (·.size) = some Z.toArray.size) := Lib.hid (by rw [List.size_toArray, HZL.out]; kernel_rfl)
  have HBN : Hid (Blk (w1.alloc (Obj.cells zWba.cells.toArray 41)) w1.heap.size 41 Z.toArray) := Lib.hid (by rw [HZ.out]; exact Blk.new _ _ _)
  clear hc hok h1 h2 hV
  go_wp2_with (first
    | (refine wpList_store_blk rfl 41 _ _ rfl w1.heap.size V.toArray rfl rfl 41 Z.toArray HBN.out HVT.out (by rw [List.size_toArray, List.size_toArray, HVS.out, HZL.out]) HAL.out ?_
       intro w2 hb2 hf2
       have HB2 := Lib.hid hb2
       have HF2 := Lib.hid ((((Fr.refl [w1.heap.size] w1).alloc _)).trans hf2 (fun x hx _ => hx))
       clear hb2 hf2))
  have HR2 := Lib.hid (HR1.out.fr HF2.out (by have := HG.out; have := HSZ.out; simp; omega) (fun k hk hm => by have := HNF.out k hk; have := HSZ.out; simp at hm; omega))
  have HBW := Lib.hid (HB1.out.keep HF2.out (by have := HSZ.out; simp; omega))
  have HS2 : Hid (w1.heap.size < w2.heap.size) := Lib.hid HB2.out.lt
  go_wp2_with fail
  refine (ok_any w2 g F R bad HR2.out.rd).mono ?_
  rintro e_ w3 ⟨rfl, rfl⟩
  cases bad
  · go_wp2_with (first
      | (refine wpList_row rfl 41 _ rfl _ _ rfl _ HB2.out.range (row_bat.of HVS.out) ?_)
      | (refine wpList_store_blk rfl 41 _ _ rfl w.heap.size V.toArray rfl rfl 41 Z.toArray HBW.out HVT.out (by rw [List.size_toArray, List.size_toArray, HVS.out, HZL.out]) HAL.out ?_
         intro w9 hb9 hf9
         have HB9 := Lib.hid hb9
         have HF9 := Lib.hid hf9
         clear hb9 hf9))
    have hq9 : Fr [g, w.heap.size] w1 w9 := (HF2.out.mono (T := [g, w.heap.size]) (fun x hx hl => by simp at hx; omega)).trans (HF9.out.mono (fun x hx _ => by simp at hx; simp [hx])) (fun x hx _ => hx)
    refine bodyPost_ret (v := .agg V.toArray) (results_cell_row Try.results52 _ _ w.heap.size 41 V.toArray _ _ rfl HB9.out Try.underlying41 rfl HVT.out) rfl ⟨v, by rw [HV.out], ?_, fun S0 h0 => HOK.out w9 hq9 S0 h0, ?_, ?_⟩
    · rw [HP.out, HC.out]; rfl
    · rw [HP.out]; exact HR2.out.fr HF9.out (by have := HG.out; simp; omega) (fun k hk hm => by have := HNF.out k hk; simp at hm; omega)
    · exact (((HF0.out.mono (T := [g]) (by simp)).trans HF1.out (fun x hx _ => hx)).trans HF2.out (fun x hx hl => by have := HSZ.out; simp at hx; omega)).trans HF9.out (fun x hx hl => by simp at hx; omega)
  · have HBM : Hid (Blk (w2.alloc (Obj.cells zWba.cells.toArray 41)) w2.heap.size 41 Z.toArray) := Lib.hid (by rw [HZ.out]; exact Blk.new _ _ _)
    have HBV := Lib.hid (HBW.out.keep ((Fr.refl [] w2).alloc (Obj.cells zWba.cells.toArray 41)) (by simp))
    go_wp2_with (first
      | (refine wpList_row rfl 41 _ rfl _ _ rfl _ HBM.out.range (row_bat.of HZL.out) ?_)
      | (refine wpList_store_blk rfl 41 _ _ rfl w.heap.size Z.toArray rfl rfl 41 Z.toArray HBV.out HZT.out rfl HZ1.out ?_
         intro w9 hb9 hf9
         have HB9 := Lib.hid hb9
         have HF9 := Lib.hid (((Fr.refl [w.heap.size] w2).alloc _).trans hf9 (fun x hx _ => hx))
         clear hb9 hf9))
    refine bodyPost_ret (v := .agg Z.toArray) (results_cell_row Try.results52 _ _ w.heap.size 41 Z.toArray _ _ rfl HB9.out Try.underlying41 rfl HZT.out) rfl ⟨zWba, by rw [HZ.out], ?_, fun S0 h0 => zWba_ok w9 S0, ?_, ?_⟩
    · rw [HP.out]; rfl
    · rw [HP.out]; exact HR2.out.fr HF9.out (by have := HG.out; simp; omega) (fun k hk hm => by have := HNF.out k hk; simp at hm; omega)
    · exact (((HF0.out.mono (T := [g]) (by simp)).trans HF1.out (fun x hx _ => hx)).trans HF2.out (fun x hx hl => by have := HSZ.out; simp at hx; omega)).trans HF9.out (fun x hx hl => by simp at hx; omega)
set_option maxHeartbeats 2000000 in
theorem wireBatch_any (w : World) (F : List Nat) (g : Nat) (s : Ps) (hr : Rs w F g s) : Calls Try.prog 21 #[.pointer (some ⟨g, 0, none⟩)] w fun e w' =>
    ∃ v : Wba, e = .returned (.agg v.cells.toArray) ∧ v.con = (pW zWba.con pBa s).1 ∧ (∀ S0 : List Nat, (∀ q ∈ S0, q < w.heap.size) → v.Li w' S0) ∧ Rs w' F g (pW zWba.con pBa s).2 ∧ Fr [g] w w' := by
  obtain ⟨Z, hZ⟩ : ∃ Z, Z = zWba.cells := ⟨_, rfl⟩
  have hzl : Z.length = 5 := by rw [hZ]; rfl
  obtain ⟨wa, hwa⟩ : ∃ wa, wa = w.alloc (Obj.cells zWba.cells.toArray 41) := ⟨_, rfl⟩
  have hf0 : Fr [] w wa := by rw [hwa]; exact (Fr.refl [] w).alloc _
  have HB : Hid (Blk wa w.heap.size 41 Z.toArray) := Lib.hid (by rw [hwa, hZ]; exact Blk.new _ _ _)
  have HR := Lib.hid (hr.fr hf0 (by simp) (by simp))
  have HNF : Hid (∀ k ∈ F, k < w.heap.size) := Lib.hid (fun k hm => hr.lt _ hm)
  have HG : Hid (g < w.heap.size) := Lib.hid hr.gt
  have HF0 := Lib.hid hf0
  have HWA := Lib.hid hwa
  have HZL := Lib.hid hzl
  clear hwa hf0 hr hZ hzl
  go_enter Try.func21, Try.ntmps21
  go_upto_region 1 with (fail)
  change Code.wp _ _ _ _ (w.alloc (Obj.cells zWba.cells.toArray 41))
  rw [← HWA.out]
  go_wp2_with fail
  refine (wholeBatch_any wa F g s HR.out).mono ?_
  rintro e_ w1 ⟨v, rfl, hc, hok, h1, h2⟩
  have HVS : Hid (v.cells.length = 5) := Lib.hid (rfl)
  have HAL : Hid (v.cells.toArray.all (·.oneCell') = true) := Lib.hid (all_oneCell_toArray (Wba.one _))
  have HC := Lib.hid hc
  have HOK : Hid (∀ W, Fr [w.heap.size] w1 W → ∀ S0 : List Nat, (∀ q ∈ S0, q < w.heap.size) → v.Li W S0) := Lib.hid (fun W hW S0 h0 => (hok (w.heap.size :: S0) (fun q hq => by
    have h3 := HB.out.lt
    rcases List.mem_cons.1 hq with rfl | hq
    · exact h3
    · have := h0 q hq; omega)).keep (hW.mono (fun k hk _ => by simp at hk; simp [hk])) (fun k hk _ => by simp [hk]))
  have HF1 := Lib.hid h2
  have HB1 := Lib.hid (HB.out.keep h2 (by have := HG.out; simp; omega))
  have HR1 := Lib.hid h1
  obtain ⟨V, hV⟩ : ∃ V, V = v.cells := ⟨_, rfl⟩
  rw [← hV] at HVS HAL ⊢
  have HV := Lib.hid hV
  have HVT : Hid ((Try.prog.info? 41).map (·.size) = some V.toArray.size) := Lib.hid (by rw [List.size_toArray, HVS.out]; kernel_rfl)
  clear hc hok h1 h2 hV
  go_wp2_with (first
    | (refine wpList_store_blk rfl 41 _ _ rfl w.heap.size V.toArray rfl rfl 41 Z.toArray HB1.out HVT.out (by rw [List.size_toArray, List.size_toArray, HVS.out, HZL.out]) HAL.out ?_
       intro w9 hb9 hf9
       have HB9 := Lib.hid hb9
       have HF9 := Lib.hid hf9
       clear hb9 hf9))
  refine bodyPost_ret (v := .agg V.toArray) (results_cell_row Try.results21 _ _ w.heap.size 41 V.toArray _ _ rfl HB9.out Try.underlying41 rfl HVT.out) rfl ⟨v, by rw [HV.out], HC.out, fun S0 h0 => HOK.out w9 HF9.out S0 h0, ?_, ?_⟩
  · exact HR1.out.fr HF9.out (by have := HG.out; simp; omega) (fun k hk hm => by have := HNF.out k hk; simp at hm; omega)
  · exact Fr.unbox HF0.out HF1.out HF9.out (Nat.le_refl _)
end Go.Proofs.Ytbkhkhippcjdgaa

namespace Go.Proofs.Ytbkhkhippcjdgaa
open Go.RowKit
set_option maxRecDepth 100000

theorem Blk.mid {g : Nat} {t : TypeId} : ∀ (V M P Z : List Value) (w : World), V.length = M.length → Blk w g t (P ++ (M ++ Z)).toArray → Blk (w.setCells g P.length V) g t (P ++ (V ++ Z)).toArray
  | [], M, P, Z, w, h, hb => by
    have : M = [] := List.eq_nil_of_length_eq_zero (by simpa using h.symm)
    subst this
    exact hb
  | v :: V, [], P, Z, w, h, hb => by simp at h
  | v :: V, m :: M, P, Z, w, h, hb => by
    have h1 := hb.set P.length v
    rw [List.setIfInBounds_toArray, List.set_append_right _ _ (Nat.le_refl _), Nat.sub_self] at h1
    have h2 := Blk.mid V M (P ++ [v]) Z (w.setCell ⟨g, P.length, none⟩ v) (by simpa using h) (by simpa using h1)
    have e : (P ++ [v]).length = P.length + 1 := by simp
    rw [e] at h2
    simpa [World.setCells] using h2
theorem Blk.mid_at {g : Nat} {t : TypeId} {w : World} (V M P Z : List Value) (o : Nat) (ho : P.length = o) (h : V.length = M.length) (cs cs' : List Value) (hc : cs = P ++ (M ++ Z)) (hc' : cs' = P ++ (V ++ Z)) (hb : Blk w g t cs.toArray) : Blk (w.setCells g o V) g t cs'.toArray := by
  subst ho
  subst hc
  subst hc'
  exact Blk.mid V M P Z w h hb
theorem Fr.setCells {S : List Nat} {a : World} {g : Nat} (hg : g < a.heap.size → g ∈ S) : ∀ (V : List Value) (o : Nat) (w : World), Fr S a w → Fr S a (w.setCells g o V)
  | [], _, _, h => h
  | v :: V, o, w, h => Fr.setCells hg V (o + 1) _ (h.setCell ⟨g, o, none⟩ hg v)
theorem own_blk {w : World} {base : Nat} {e : TypeId} {k n c g : Nat} {xs : List Value} (h : w.ownsRow base e k (.slice (some ⟨g, 0, none⟩) n c) n xs) : ∃ R : List Value, Blk w g e (xs ++ R).toArray ∧ (xs ++ R).length = c * k ∧ n ≤ c ∧ c ≤ maxLen ∧ base ≤ g := by
  rcases h.2 with ⟨hv, _⟩ | ⟨g', cap, cur, hv, hb, hh, hnc, hcm, hcs, htk⟩
  · injection hv with h1
    cases h1
  · injection hv with h1 h2 h3
    injection h1 with h1
    injection h1 with h1
    subst h1
    subst h3
    refine ⟨cur.toList.drop (n * k), ?_, ?_, hnc, hcm, hb⟩
    · have e : (xs ++ cur.toList.drop (n * k)).toArray = cur := by rw [← htk, List.take_append_drop]
      unfold Blk
      rw [e]
      exact hh
    · rw [← htk, List.take_append_drop]
      simpa using hcs
/-- an element of a row that the call owns is stored -/
theorem own_put {α : Type} {cells : α → List Value} {w : World} {base : Nat} {e : TypeId} {k n c g : Nat} {l : List α} (h : w.ownsRow base e k (.slice (some ⟨g, 0, none⟩) n c) n (l.flatMap cells)) (hk : ∀ v ∈ l, (cells v).length = k) {i : Nat} (hi : i < l.length) (v : α) (hv : (cells v).length = k) :
    (w.setCells g (i * k) (cells v)).ownsRow base e k (.slice (some ⟨g, 0, none⟩) n c) n ((l.set i v).flatMap cells) ∧ w.there g (i * k) k := by
  obtain ⟨P, x, Q, rfl, hP⟩ : ∃ P x Q, l = P ++ x :: Q ∧ P.length = i := ⟨l.take i, l[i], l.drop (i + 1), by simp, by simp; omega⟩
  obtain ⟨R, hb, hl, hnc, hcm, hbase⟩ := own_blk h
  have hp : (P.flatMap cells).length = i * k := by rw [cells_flat_len (fun u hu => hk u (by simp [hu])), hP]
  have hx : (cells x).length = k := hk x (by simp)
  have hs : (P ++ x :: Q).set i v = P ++ v :: Q := by rw [← hP, List.set_append_right _ _ (Nat.le_refl _), Nat.sub_self]; rfl
  rw [hs]
  have hc : (P ++ x :: Q).flatMap cells ++ R = P.flatMap cells ++ (cells x ++ (Q.flatMap cells ++ R)) := by simp
  have hc' : (P ++ v :: Q).flatMap cells ++ R = P.flatMap cells ++ (cells v ++ (Q.flatMap cells ++ R)) := by simp
  have hb2 := Blk.mid_at (cells v) (cells x) (P.flatMap cells) (Q.flatMap cells ++ R) (i * k) hp (by rw [hv, hx]) _ _ hc hc' hb
  have hlen : ((P ++ v :: Q).flatMap cells).length = ((P ++ x :: Q).flatMap cells).length := by simp [hv, hx]
  have h1 := h.1
  refine ⟨⟨by rw [hlen]; exact h1, .inr ⟨g, c, _, rfl, hbase, hb2, hnc, hcm, ?_, ?_⟩⟩, hb.there _ _ ?_⟩
  · rw [List.size_toArray, ← hl, List.length_append, List.length_append, hlen]
  · rw [← h1, ← hlen]
    exact List.take_left
  · rw [List.size_toArray, hc]
    simp only [List.length_append]
    omega
theorem add_at (g o : Nat) : (⟨g, 0, none⟩ : Addr).add o = ⟨g, o, none⟩ := by unfold Addr.add; split <;> simp_all

def upI (v : Int) : Int := v % 1099511627776
theorem upI_in (v : Int) : i64In (upI v) := by unfold i64In upI; omega
theorem upI_idem (v : Int) : upI (upI v) = upI v := by unfold upI; omega
theorem up_any (v : Int) (hv : i64In v) (w : World) : Calls Try.prog 38 #[.int .i64 v] w fun e w' => e = .returned (.int .i64 (upI v)) ∧ w = w' := by
  go_enter Try.func38, Try.ntmps38
  go_wp2_with fail
  refine (within_pos v 1099511627776 hv.1 hv.2 (by omega) (by omega) _).mono ?_
  rintro e w1 ⟨rfl, rfl⟩
  go_wp2
  go_ret
  exact ⟨rfl, rfl⟩
theorem row_nm2 : RowTy Try.prog 23 2 := ⟨by kernel_rfl, by kernel_rfl⟩
theorem row_sg2 : RowTy Try.prog 27 2 := ⟨by kernel_rfl, by kernel_rfl⟩
theorem built_nm3 (c s : Int) : Try.prog.built 23 [(0, .int .i64 c), (1, .int .i64 s)] = some #[.int .i64 c, .int .i64 s] := by kernel_rfl
theorem built_sg3 (c s : Int) : Try.prog.built 27 [(0, .int .i64 c), (1, .int .i64 s)] = some #[.int .i64 c, .int .i64 s] := by kernel_rfl

set_option maxHeartbeats 1000000 in
theorem niceName_any (c s : Int) (hc : i64In c) (hs : i64In s) (w : World) : Calls Try.prog 37 #[.agg #[.int .i64 c, .int .i64 s]] w fun e w' => e = .returned (.agg #[.int .i64 (upI c), .int .i64 (upI s)]) ∧ Fr [] w w' := by
  obtain ⟨wa, hwa⟩ : ∃ wa, wa = (w.alloc (Obj.cells #[.int .i64 c, .int .i64 s] 23)).alloc (Obj.cells #[.int .i64 0, .int .i64 0] 23) := ⟨_, rfl⟩
  have hf0 : Fr [] w wa := by rw [hwa]; exact ((Fr.refl [] w).alloc _).alloc _
  have hb0 : Blk wa w.heap.size 23 #[.int .i64 c, .int .i64 s] := by rw [hwa]; exact blk_alloc (Blk.new _ _ _)
  have hb1 : Blk wa (w.heap.size + 1) 23 #[.int .i64 0, .int .i64 0] := by
    have := Blk.new (w.alloc (Obj.cells #[.int .i64 c, .int .i64 s] 23)) 23 #[.int .i64 0, .int .i64 0]
    rw [hwa]
    simpa using this
  have hc0 := hb0.cell 0
  have hc1 := hb0.cell 1
  simp at hc0 hc1
  have H0 := Lib.hid hc0
  have H1 := Lib.hid hc1
  have HB1 := Lib.hid hb1
  have HF0 := Lib.hid hf0
  have HWA := Lib.hid hwa
  have HC := Lib.hid hc
  have HS := Lib.hid hs
  clear hwa hf0 hb0 hb1 hc0 hc1 hc hs
  go_enter Try.func37, Try.ntmps37
  go_upto_region 1 with (fail)
  change Code.wp _ _ _ _ ((w.alloc (Obj.cells #[.int .i64 c, .int .i64 s] 23)).alloc (Obj.cells #[.int .i64 0, .int .i64 0] 23))
  rw [← HWA.out]
  refine wp_region_held_drew (S := Fr [w.heap.size + 1] wa) (by kernel_rfl) (Fr.drew (Fr.refl _ wa)) (fun hHeld => ?_)
  refine run_at (i := 0) (v := ?_) rfl (by kernel_rfl) (by rfl) (fun _ _ _ h => h) hHeld (fun w1 hw1 => ?_) ?_
  rotate_left 1
  · skip
    go_simp
    (try (first | with_reducible rfl | (apply And.intro <;> rfl)))
  simp only [Act.put, List.setIfInBounds_toArray, List.set_cons_zero, List.set_cons_succ]
  refine run_at (i := 1) (v := ?_) rfl (by kernel_rfl) (by rfl) (fun _ _ _ h => h) hHeld (fun w1 hw1 => ?_) ?_
  rotate_left 1
  · skip
    have hcw0 := hw1.cell (H0.out) (by first | (simp; done) | exact HNS.out | exact HNW.out | (intro hm; have hlt := HSB.out _ hm; (try dsimp only at hlt); omega))
    go_simp
    (try (first | with_reducible rfl | (apply And.intro <;> rfl)))
  simp only [Act.put, List.setIfInBounds_toArray, List.set_cons_zero, List.set_cons_succ]
  refine run_at (i := 3) (v := ?_) rfl (by kernel_rfl) (by rfl) (fun _ _ _ h => h) hHeld (fun w1 hw1 => ?_) ?_
  rotate_left 1
  · skip
    go_simp
    (try (first | with_reducible rfl | (apply And.intro <;> rfl)))
  simp only [Act.put, List.setIfInBounds_toArray, List.set_cons_zero, List.set_cons_succ]
  refine run_at (i := 4) (v := ?_) rfl (by kernel_rfl) (by rfl) (fun _ _ _ h => h) hHeld (fun w1 hw1 => ?_) ?_
  rotate_left 1
  · skip
    have hcw0 := hw1.cell (H1.out) (by first | (simp; done) | exact HNS.out | exact HNW.out | (intro hm; have hlt := HSB.out _ hm; (try dsimp only at hlt); omega))
    go_simp
    (try (first | with_reducible rfl | (apply And.intro <;> rfl)))
  simp only [Act.put, List.setIfInBounds_toArray, List.set_cons_zero, List.set_cons_succ]
  refine call_at (i := 2) (f := ?_) (args := ?_) rfl (by kernel_rfl) (by rfl) ?_ ?_
  rotate_left 2
  · go_simp
    (try (first | with_reducible rfl | (apply And.intro <;> rfl)))
  refine (up_any c HC.out _).mono ?_
  rintro e w1 ⟨rfl, rfl⟩
  refine ⟨_, rfl, hHeld, fun hHeld => ?_⟩
  simp only [Act.put, List.setIfInBounds_toArray, List.set_cons_zero, List.set_cons_succ]
  refine call_at (i := 5) (f := ?_) (args := ?_) rfl (by kernel_rfl) (by rfl) ?_ ?_
  rotate_left 2
  · go_simp
    (try (first | with_reducible rfl | (apply And.intro <;> rfl)))
  refine (up_any s HS.out _).mono ?_
  rintro e w1 ⟨rfl, rfl⟩
  refine ⟨_, rfl, hHeld, fun hHeld => ?_⟩
  simp only [Act.put, List.setIfInBounds_toArray, List.set_cons_zero, List.set_cons_succ]
  refine build_at (i := 6) rfl (by kernel_rfl) (by rfl) _ _ rfl _ _ (built_nm3 (upI c) (upI s)) rfl (fun _ _ _ h => h) hHeld ?_
  simp only [Act.put, List.setIfInBounds_toArray, List.set_cons_zero, List.set_cons_succ]
  refine step_at (i := 7) rfl (by kernel_rfl) (by rfl) (fun K hK => ?_)
  refine wp_store_blk 23 _ _ rfl (w.heap.size + 1) #[.int .i64 (upI c), .int .i64 (upI s)] rfl rfl 23 _ (HB1.out.drew) (by kernel_rfl) rfl (by kernel_rfl) ?_
  intro w6 hb6 hf6
  have hf7 : Fr [w.heap.size + 1] wa w6 := hHeld.trans hf6 (fun x hx _ => hx)
  refine hK.out _ _ hf7 (fun hHeld => ?_)
  clear hK K hf7
  simp only [Act.put, List.setIfInBounds_toArray, List.set_cons_zero, List.set_cons_succ]
  have HB6 := Lib.hid hb6
  have HF6 := Lib.hid (HF0.out.go hHeld (by simp))
  clear hb6 hf6
  refine wpAnyH_done (by kernel_rfl) ?_ _
  go_wp2
  exact bodyPost_ret (v := .agg #[.int .i64 (upI c), .int .i64 (upI s)]) (results_cell_row Try.results37 _ _ (w.heap.size + 1) 23 #[.int .i64 (upI c), .int .i64 (upI s)] _ _ rfl HB6.out Try.underlying23 rfl (by kernel_rfl)) rfl ⟨rfl, HF6.out⟩

set_option maxHeartbeats 1000000 in
theorem niceSig_any (c s : Int) (hc : i64In c) (hs : i64In s) (w : World) : Calls Try.prog 39 #[.agg #[.int .i64 c, .int .i64 s]] w fun e w' => e = .returned (.agg #[.int .i64 (upI c), .int .i64 (upI s)]) ∧ Fr [] w w' := by
  obtain ⟨wa, hwa⟩ : ∃ wa, wa = (w.alloc (Obj.cells #[.int .i64 c, .int .i64 s] 27)).alloc (Obj.cells #[.int .i64 0, .int .i64 0] 27) := ⟨_, rfl⟩
  have hf0 : Fr [] w wa := by rw [hwa]; exact ((Fr.refl [] w).alloc _).alloc _
  have hb0 : Blk wa w.heap.size 27 #[.int .i64 c, .int .i64 s] := by rw [hwa]; exact blk_alloc (Blk.new _ _ _)
  have hb1 : Blk wa (w.heap.size + 1) 27 #[.int .i64 0, .int .i64 0] := by
    have := Blk.new (w.alloc (Obj.cells #[.int .i64 c, .int .i64 s] 27)) 27 #[.int .i64 0, .int .i64 0]
    rw [hwa]
    simpa using this
  have hc0 := hb0.cell 0
  have hc1 := hb0.cell 1
  simp at hc0 hc1
  have H0 := Lib.hid hc0
  have H1 := Lib.hid hc1
  have HB1 := Lib.hid hb1
  have HF0 := Lib.hid hf0
  have HWA := Lib.hid hwa
  have HC := Lib.hid hc
  have HS := Lib.hid hs
  clear hwa hf0 hb0 hb1 hc0 hc1 hc hs
  go_enter Try.func39, Try.ntmps39
  go_upto_region 1 with (fail)
  change Code.wp _ _ _ _ ((w.alloc (Obj.cells #[.int .i64 c, .int .i64 s] 27)).alloc (Obj.cells #[.int .i64 0, .int .i64 0] 27))
  rw [← HWA.out]
  refine wp_region_held_drew (S := Fr [w.heap.size + 1] wa) (by kernel_rfl) (Fr.drew (Fr.refl _ wa)) (fun hHeld => ?_)
  refine run_at (i := 0) (v := ?_) rfl (by kernel_rfl) (by rfl) (fun _ _ _ h => h) hHeld (fun w1 hw1 => ?_) ?_
  rotate_left 1
  · skip
    go_simp
    (try (first | with_reducible rfl | (apply And.intro <;> rfl)))
  simp only [Act.put, List.setIfInBounds_toArray, List.set_cons_zero, List.set_cons_succ]
  refine run_at (i := 1) (v := ?_) rfl (by kernel_rfl) (by rfl) (fun _ _ _ h => h) hHeld (fun w1 hw1 => ?_) ?_
  rotate_left 1
  · skip
    have hcw0 := hw1.cell (H0.out) (by first | (simp; done) | exact HNS.out | exact HNW.out | (intro hm; have hlt := HSB.out _ hm; (try dsimp only at hlt); omega))
    go_simp
    (try (first | with_reducible rfl | (apply And.intro <;> rfl)))
  simp only [Act.put, List.setIfInBounds_toArray, List.set_cons_zero, List.set_cons_succ]
  refine run_at (i := 3) (v := ?_) rfl (by kernel_rfl) (by rfl) (fun _ _ _ h => h) hHeld (fun w1 hw1 => ?_) ?_
  rotate_left 1
  · skip
    go_simp
    (try (first | with_reducible rfl | (apply And.intro <;> rfl)))
  simp only [Act.put, List.setIfInBounds_toArray, List.set_cons_zero, List.set_cons_succ]
  refine run_at (i := 4) (v := ?_) rfl (by kernel_rfl) (by rfl) (fun _ _ _ h => h) hHeld (fun w1 hw1 => ?_) ?_
  rotate_left 1
  · skip
    have hcw0 := hw1.cell (H1.out) (by first | (simp; done) | exact HNS.out | exact HNW.out | (intro hm; have hlt := HSB.out _ hm; (try dsimp only at hlt); omega))
    go_simp
    (try (first | with_reducible rfl | (apply And.intro <;> rfl)))
  simp only [Act.put, List.setIfInBounds_toArray, List.set_cons_zero, List.set_cons_succ]
  refine call_at (i := 2) (f := ?_) (args := ?_) rfl (by kernel_rfl) (by rfl) ?_ ?_
  rotate_left 2
  · go_simp
    (try (first | with_reducible rfl | (apply And.intro <;> rfl)))
  refine (up_any c HC.out _).mono ?_
  rintro e w1 ⟨rfl, rfl⟩
  refine ⟨_, rfl, hHeld, fun hHeld => ?_⟩
  simp only [Act.put, List.setIfInBounds_toArray, List.set_cons_zero, List.set_cons_succ]
  refine call_at (i := 5) (f := ?_) (args := ?_) rfl (by kernel_rfl) (by rfl) ?_ ?_
  rotate_left 2
  · go_simp
    (try (first | with_reducible rfl | (apply And.intro <;> rfl)))
  refine (up_any s HS.out _).mono ?_
  rintro e w1 ⟨rfl, rfl⟩
  refine ⟨_, rfl, hHeld, fun hHeld => ?_⟩
  simp only [Act.put, List.setIfInBounds_toArray, List.set_cons_zero, List.set_cons_succ]
  refine build_at (i := 6) rfl (by kernel_rfl) (by rfl) _ _ rfl _ _ (built_sg3 (upI c) (upI s)) rfl (fun _ _ _ h => h) hHeld ?_
  simp only [Act.put, List.setIfInBounds_toArray, List.set_cons_zero, List.set_cons_succ]
  refine step_at (i := 7) rfl (by kernel_rfl) (by rfl) (fun K hK => ?_)
  refine wp_store_blk 27 _ _ rfl (w.heap.size + 1) #[.int .i64 (upI c), .int .i64 (upI s)] rfl rfl 27 _ (HB1.out.drew) (by kernel_rfl) rfl (by kernel_rfl) ?_
  intro w6 hb6 hf6
  have hf7 : Fr [w.heap.size + 1] wa w6 := hHeld.trans hf6 (fun x hx _ => hx)
  refine hK.out _ _ hf7 (fun hHeld => ?_)
  clear hK K hf7
  simp only [Act.put, List.setIfInBounds_toArray, List.set_cons_zero, List.set_cons_succ]
  have HB6 := Lib.hid hb6
  have HF6 := Lib.hid (HF0.out.go hHeld (by simp))
  clear hb6 hf6
  refine wpAnyH_done (by kernel_rfl) ?_ _
  go_wp2
  exact bodyPost_ret (v := .agg #[.int .i64 (upI c), .int .i64 (upI s)]) (results_cell_row Try.results39 _ _ (w.heap.size + 1) 27 #[.int .i64 (upI c), .int .i64 (upI s)] _ _ rfl HB6.out Try.underlying27 rfl (by kernel_rfl)) rfl ⟨rfl, HF6.out⟩
end Go.Proofs.Ytbkhkhippcjdgaa

namespace Go.Proofs.Ytbkhkhippcjdgaa
open Go.RowKit
set_option maxRecDepth 100000
def nst (x : Wst) : Wst := ⟨upI x.r, upI x.c, upI x.s, x.h, x.t, upI x.b, upI x.m⟩
def ncm (x : Wcm) : Wcm := ⟨upI x.c, upI x.s, x.h, upI x.n, upI x.b, upI x.m⟩
theorem nst_idem (x : Wst) : nst (nst x) = nst x := by simp [nst, upI_idem]
theorem ncm_idem (x : Wcm) : ncm (ncm x) = ncm x := by simp [ncm, upI_idem]
theorem nst_ok {x : Wst} (h : x.Ok) : (nst x).Ok := ⟨upI_in _, upI_in _, upI_in _, h.h, h.t, upI_in _, upI_in _⟩
theorem ncm_ok {x : Wcm} (h : x.Ok) : (ncm x).Ok := ⟨upI_in _, upI_in _, h.h, upI_in _, upI_in _, upI_in _⟩
theorem mix_set {α : Type} (f : α → α) (l : List α) {k : Nat} (hk : k < l.length) : ((l.take k).map f ++ l.drop k).set k (f l[k]) = (l.take (k + 1)).map f ++ l.drop (k + 1) := by
  have h1 : ((l.take k).map f).length = k := by simp; omega
  rw [List.set_append_right _ _ (by omega), h1, Nat.sub_self, List.drop_eq_getElem_cons hk, List.set_cons_zero, List.take_succ_eq_append_getElem hk, List.map_append, List.append_assoc]
  rfl
theorem mix_get {α : Type} (f : α → α) (l : List α) {k : Nat} (hk : k < l.length) : ((l.take k).map f ++ l.drop k)[k]? = some l[k] := by
  have h1 : ((l.take k).map f).length = k := by simp; omega
  rw [List.getElem?_append_right (by omega), h1, Nat.sub_self, List.drop_eq_getElem_cons hk]
  rfl
theorem mix_len {α : Type} (f : α → α) (l : List α) (k : Nat) : ((l.take k).map f ++ l.drop k).length = l.length := by simp; omega
theorem mix_mem {α : Type} (f : α → α) (l : List α) (k : Nat) {v : α} (hv : v ∈ (l.take k).map f ++ l.drop k) : v ∈ l ∨ ∃ u ∈ l, v = f u := by
  rcases List.mem_append.1 hv with h | h
  · obtain ⟨u, hu, rfl⟩ := List.mem_map.1 h
    exact .inr ⟨u, List.mem_of_mem_take hu, rfl⟩
  · exact .inl (List.mem_of_mem_drop h)
theorem row_stm : RowTy Try.prog 90 38 := ⟨by kernel_rfl, by kernel_rfl⟩
/-- one cell of a block that is known whole is stored -/
theorem wp_store_at {P : Program} {op : Oper} {a : Act} {w : World} {K : Act → World → Prop} {Q : Exit → Act → World → Prop} (ty : TypeId) (x y : Operand) (ho : op.op = .store ty x y)
    (g i : Nat) (v : Value) (hx : a.eval x = .pointer (some ⟨g, i, none⟩)) (hy : a.eval y = v) (h1 : v.oneCell' = true) (t : TypeId) (cs : Array Value) (hb : Blk w g t cs) (hi : i < cs.size) (hsz : (P.info? ty).map (·.size) = some 1)
    (h : K (a.put op.dst undef) (w.setCells g i [v])) : op.wp P a w K Q := by
  subst hy
  have hc := hb.cell i
  rw [Array.getElem?_eq_getElem hi] at hc
  have := run_storeCells_cells (P := P) g i [a.eval y] 0 w (fun j hj => by simp at hj; subst hj; simpa using (by rw [hc]; rfl : (w.cell? ⟨g, i, none⟩).isSome = true)) (fun j hj => by simp at hj; subst hj; simpa using hb.frozen i) (fun u hu => by simp at hu; subst hu; exact h1)
  have hcl : (a.eval y).cells = #[a.eval y] := by cases hv : a.eval y <;> first | rfl | (rw [hv] at h1; cases h1)
  have hrun : (storeVar ty ⟨g, i, none⟩ (a.eval y)).run P w = .ok () (w.setCells g i [a.eval y]) := by
    cases hq : P.info? ty with
    | none => simp [hq] at hsz
    | some j =>
      have hs : j.size = 1 := by simpa [hq] using hsz
      simp only [Nat.add_zero] at this
      simp [storeVar, sizeOf, typeInfo, hq, hcl, hs, this]
  unfold Oper.wp execOp
  simp only [ho, hx, Instr.storeAt, Instr.sureAddr, Sem.run_bind, Sem.run_pure, Result.andThen_ok, hrun]
  exact h
/-- a whole element is stored into a row that the call owns -/
theorem wp_store_el {P : Program} {op : Oper} {a : Act} {w : World} {K : Act → World → Prop} {Q : Exit → Act → World → Prop} (ty : TypeId) (x y : Operand) (ho : op.op = .store ty x y)
    (b o : Nat) (cs : List Value) (hx : a.eval x = .pointer (some ((⟨b, 0, none⟩ : Addr).add o))) (hy : a.eval y = .agg cs.toArray)
    (ht : w.there b o cs.length) (hi : (P.info? ty).map (·.size) = some cs.length) (h1 : cs.toArray.all (·.oneCell') = true)
    (h : K (a.put op.dst undef) (w.setCells b o cs)) : op.wp P a w K Q :=
  wp_store_mid ty x y ho b o cs.toArray (by rw [hx, add_at]) hy (by simpa using ht) (by simpa using hi) h1 (by simpa using h)
theorem wpList_store_el {P : Program} {ops : Array Oper} {rest : List Oper} {op : Oper} {a : Act} {w : World} {Q : Exit → Act → World → Prop} (hg : op.guard = none) (ty : TypeId) (x y : Operand) (ho : op.op = .store ty x y)
    (b o : Nat) (cs : List Value) (hx : a.eval x = .pointer (some ((⟨b, 0, none⟩ : Addr).add o))) (hy : a.eval y = .agg cs.toArray)
    (ht : w.there b o cs.length) (hi : (P.info? ty).map (·.size) = some cs.length) (h1 : cs.toArray.all (·.oneCell') = true)
    (h : wpList P ops Q rest (a.put op.dst undef) (w.setCells b o cs)) : wpList P ops Q (op :: rest) a w :=
  wpList_plain hg fun _ hK => wp_store_el ty x y ho b o cs hx hy ht hi h1 (hK _ _ h)
theorem blk_ce1 {w : World} {g : Nat} {t : TypeId} {k : Wcm} {c s : Int} {u : Value} (hb : Blk w g t (k.cells ++ [u]).toArray) :
    Blk (w.setCells g 0 [.int .i64 c, .int .i64 s]) g t ((⟨c, s, k.h, k.n, k.b, k.m⟩ : Wcm).cells ++ [u]).toArray :=
  Blk.mid_at [.int .i64 c, .int .i64 s] [.int .i64 k.c, .int .i64 k.s] [] (k.h.map by8 ++ [.int .i64 k.n, .int .i64 k.b, .int .i64 k.m] ++ [u]) 0 rfl rfl _ _ (by simp [Wcm.cells]) (by simp [Wcm.cells]) hb
theorem blk_ce2 {w : World} {g : Nat} {t : TypeId} {k : Wcm} (hh : k.h.length = 32) {n : Int} {u : Value} (hb : Blk w g t (k.cells ++ [u]).toArray) :
    Blk (w.setCells g 34 [.int .i64 n]) g t ((⟨k.c, k.s, k.h, n, k.b, k.m⟩ : Wcm).cells ++ [u]).toArray :=
  Blk.mid_at [.int .i64 n] [.int .i64 k.n] ([.int .i64 k.c, .int .i64 k.s] ++ k.h.map by8) ([.int .i64 k.b, .int .i64 k.m] ++ [u]) 34 (by simp [hh]) rfl _ _ (by simp [Wcm.cells]) (by simp [Wcm.cells]) hb
theorem blk_ce3 {w : World} {g : Nat} {t : TypeId} {k : Wcm} (hh : k.h.length = 32) {b m : Int} {u : Value} (hb : Blk w g t (k.cells ++ [u]).toArray) :
    Blk (w.setCells g 35 [.int .i64 b, .int .i64 m]) g t ((⟨k.c, k.s, k.h, k.n, b, m⟩ : Wcm).cells ++ [u]).toArray :=
  Blk.mid_at [.int .i64 b, .int .i64 m] [.int .i64 k.b, .int .i64 k.m] ([.int .i64 k.c, .int .i64 k.s] ++ k.h.map by8 ++ [.int .i64 k.n]) [u] 35 (by simp [hh]) rfl _ _ (by simp [Wcm.cells]) (by simp [Wcm.cells]) hb
theorem blk_st1 {w : World} {g : Nat} {t : TypeId} {x : Wst} {r : Int} (hb : Blk w g t x.cells.toArray) : Blk (w.setCells g 0 [.int .i64 r]) g t (⟨r, x.c, x.s, x.h, x.t, x.b, x.m⟩ : Wst).cells.toArray :=
  Blk.mid_at [.int .i64 r] [.int .i64 x.r] [] ([.int .i64 x.c, .int .i64 x.s] ++ (x.h.map by8 ++ [.int .u64 (x.t : Int), .int .i64 x.b, .int .i64 x.m])) 0 rfl rfl _ _ (by simp [Wst.cells]) (by simp [Wst.cells]) hb
theorem blk_st2 {w : World} {g : Nat} {t : TypeId} {x : Wst} {c s : Int} (hb : Blk w g t x.cells.toArray) : Blk (w.setCells g 1 [.int .i64 c, .int .i64 s]) g t (⟨x.r, c, s, x.h, x.t, x.b, x.m⟩ : Wst).cells.toArray :=
  Blk.mid_at [.int .i64 c, .int .i64 s] [.int .i64 x.c, .int .i64 x.s] [.int .i64 x.r] (x.h.map by8 ++ [.int .u64 (x.t : Int), .int .i64 x.b, .int .i64 x.m]) 1 rfl rfl _ _ (by simp [Wst.cells]) (by simp [Wst.cells]) hb
theorem blk_st3 {w : World} {g : Nat} {t : TypeId} {x : Wst} (hh : x.h.length = 32) {b m : Int} (hb : Blk w g t x.cells.toArray) : Blk (w.setCells g 36 [.int .i64 b, .int .i64 m]) g t (⟨x.r, x.c, x.s, x.h, x.t, b, m⟩ : Wst).cells.toArray :=
  Blk.mid_at [.int .i64 b, .int .i64 m] [.int .i64 x.b, .int .i64 x.m] ([.int .i64 x.r, .int .i64 x.c, .int .i64 x.s] ++ x.h.map by8 ++ [.int .u64 (x.t : Int)]) [] 36 (by simp [hh]) rfl _ _ (by simp [Wst.cells]) (by simp [Wst.cells]) hb

set_option maxHeartbeats 8000000 in
theorem nice_any (x : Wce) (w : World) (hx : x.Ok w []) (C : List Value) (hC : x.cells = C) :
    Calls Try.prog 6 #[.agg C.toArray] w fun e w' => ∃ y : Wce, e = .returned y.val ∧ (∀ S0 : List Nat, (∀ q ∈ S0, q < w.heap.size) → y.Ok w' S0) ∧ y.k = ncm x.k ∧ y.l = x.l.map nst ∧ Fr [] w w' := by
  subst hC
  obtain ⟨wa, hwa⟩ : ∃ wa, wa = (w.alloc (Obj.cells x.cells.toArray 32)).alloc (Obj.cells zeroCe 32) := ⟨_, rfl⟩
  have hf0 : Fr [] w wa := by rw [hwa]; exact ((Fr.refl [] w).alloc _).alloc _
  have hb0 : Blk wa w.heap.size 32 x.cells.toArray := by rw [hwa]; exact blk_alloc (Blk.new _ _ _)
  have hb1 : Blk wa (w.heap.size + 1) 32 zeroCe := by
    have := Blk.new (w.alloc (Obj.cells x.cells.toArray 32)) 32 zeroCe
    rw [hwa]
    simpa using this
  obtain ⟨k, A, n, d, l⟩ := x
  have hat : k.At wa w.heap.size 0 := Wcm.at_of (by
    have h := hb0.range
    exact rangeAt_sub (xs := []) (ys := k.cells) (zs := [Value.slice A n d]) h) hx.k.h
  have HKO : Hid (k.Ok) := Lib.hid hx.k
  have HL : Hid (Lst 38 Wst.cells (fun _ v => v.Ok) w A n l) := Lib.hid hx.l
  have HN : Hid (n ≤ 5) := Lib.hid hx.n
  have HAT := Lib.hid hat
  have HB0 : Hid (Blk wa w.heap.size 32 (k.cells ++ [Value.slice A n d]).toArray) := Lib.hid hb0
  have HB1 := Lib.hid hb1
  have HF0 := Lib.hid hf0
  have HWA := Lib.hid hwa
  have HSZ : Hid (w.heap.size + 2 ≤ wa.heap.size) := Lib.hid (by have := hb1.lt; omega)
  clear hwa hf0 hb0 hb1 hat hx
  have hcells : (⟨k, A, n, d, l⟩ : Wce).cells = k.cells ++ [Value.slice A n d] := rfl
  rw [hcells] at HWA ⊢
  clear hcells
  obtain ⟨CV, hCV⟩ : ∃ CV, CV = k.cells ++ [Value.slice A n d] := ⟨_, rfl⟩
  have HCV := Lib.hid hCV
  rw [← hCV] at HWA HB0 ⊢
  clear hCV
  go_enter Try.func6, Try.ntmps6
  go_upto_region 1 with (fail)
  change Code.wp _ _ _ _ ((w.alloc (Obj.cells CV.toArray 32)).alloc (Obj.cells zeroCe 32))
  rw [← HWA.out]
  refine wp_region_till 14 (Fr [w.heap.size] wa) (Fr [] wa) (by kernel_rfl) (Fr.drew (Fr.refl _ wa)) (Fr.drew (Fr.refl _ wa)) (fun hA hB => ?_)
  generalize wa.drew = wd at *
  refine till_run (i := 0) (v := ?_) rfl (by kernel_rfl) (by rfl) (fun _ _ _ h => h) hA hB (fun w1 hw1 => ?_) ?_
  rotate_left 1
  · skip
    go_simp
    (try (first | with_reducible rfl | (apply And.intro <;> rfl)))
  simp only [Act.put, List.setIfInBounds_toArray, List.set_cons_zero, List.set_cons_succ]
  refine till_run (i := 1) (v := ?_) rfl (by kernel_rfl) (by rfl) (fun _ _ _ h => h) hA hB (fun w1 hw1 => ?_) ?_
  rotate_left 1
  · skip
    go_simp
    (try (first | with_reducible rfl | (apply And.intro <;> rfl)))
  simp only [Act.put, List.setIfInBounds_toArray, List.set_cons_zero, List.set_cons_succ]
  refine till_row (i := 2) rfl (by kernel_rfl) (by rfl) _ _ rfl _ _ rfl _ (fun w1 hw1 => hw1.range (HAT.out.name) (by first | (simp; done) | exact HNS.out | exact HNW.out | (intro hm; have hlt := HSB.out _ hm; (try dsimp only at hlt); omega))) (row_nm2) (fun _ _ _ h => h) hA hB ?_
  simp only [Act.put, List.setIfInBounds_toArray, List.set_cons_zero, List.set_cons_succ]
  refine till_run (i := 4) (v := ?_) rfl (by kernel_rfl) (by rfl) (fun _ _ _ h => h) hA hB (fun w1 hw1 => ?_) ?_
  rotate_left 1
  · skip
    go_simp
    (try (first | with_reducible rfl | (apply And.intro <;> rfl)))
  simp only [Act.put, List.setIfInBounds_toArray, List.set_cons_zero, List.set_cons_succ]
  refine till_run (i := 5) (v := ?_) rfl (by kernel_rfl) (by rfl) (fun _ _ _ h => h) hA hB (fun w1 hw1 => ?_) ?_
  rotate_left 1
  · skip
    go_simp
    (try (first | with_reducible rfl | (apply And.intro <;> rfl)))
  simp only [Act.put, List.setIfInBounds_toArray, List.set_cons_zero, List.set_cons_succ]
  refine till_run (i := 6) (v := ?_) rfl (by kernel_rfl) (by rfl) (fun _ _ _ h => h) hA hB (fun w1 hw1 => ?_) ?_
  rotate_left 1
  · skip
    have hcw0 := hw1.cell (HAT.out.n) (by first | (simp; done) | exact HNS.out | exact HNW.out | (intro hm; have hlt := HSB.out _ hm; (try dsimp only at hlt); omega))
    go_simp
    (try (first | with_reducible rfl | (apply And.intro <;> rfl)))
  simp only [Act.put, List.setIfInBounds_toArray, List.set_cons_zero, List.set_cons_succ]
  refine till_run (i := 8) (v := ?_) rfl (by kernel_rfl) (by rfl) (fun _ _ _ h => h) hA hB (fun w1 hw1 => ?_) ?_
  rotate_left 1
  · skip
    go_simp
    (try (first | with_reducible rfl | (apply And.intro <;> rfl)))
  simp only [Act.put, List.setIfInBounds_toArray, List.set_cons_zero, List.set_cons_succ]
  refine till_run (i := 9) (v := ?_) rfl (by kernel_rfl) (by rfl) (fun _ _ _ h => h) hA hB (fun w1 hw1 => ?_) ?_
  rotate_left 1
  · skip
    go_simp
    (try (first | with_reducible rfl | (apply And.intro <;> rfl)))
  simp only [Act.put, List.setIfInBounds_toArray, List.set_cons_zero, List.set_cons_succ]
  refine till_row (i := 10) rfl (by kernel_rfl) (by rfl) _ _ rfl _ _ rfl _ (fun w1 hw1 => hw1.range (HAT.out.sig) (by first | (simp; done) | exact HNS.out | exact HNW.out | (intro hm; have hlt := HSB.out _ hm; (try dsimp only at hlt); omega))) (row_sg2) (fun _ _ _ h => h) hA hB ?_
  simp only [Act.put, List.setIfInBounds_toArray, List.set_cons_zero, List.set_cons_succ]
  refine till_call (i := 3) (f := ?_) (args := ?_) rfl (by kernel_rfl) (by rfl) ?_ ?_
  rotate_left 2
  · go_simp
    (try (first | with_reducible rfl | (apply And.intro <;> rfl)))
  refine (niceName_any k.c k.s HKO.out.c HKO.out.s wd).mono ?_
  rintro e_ w1 ⟨rfl, hf⟩
  refine ⟨_, rfl, ⟨hA.go hf (by simp), hB.and hf (by simp)⟩, fun hB => ?_⟩
  replace hA := hA.go hf (by simp)
  clear hf
  simp only [Act.put, List.setIfInBounds_toArray, List.set_cons_zero, List.set_cons_succ]
  refine till_run (i := 12) (v := ?_) rfl (by kernel_rfl) (by rfl) (fun _ _ _ h => h) hA hB (fun w1 hw1 => ?_) ?_
  rotate_left 1
  · skip
    go_simp
    (try (first | with_reducible rfl | (apply And.intro <;> rfl)))
  simp only [Act.put, List.setIfInBounds_toArray, List.set_cons_zero, List.set_cons_succ]
  refine till_run (i := 13) (v := ?_) rfl (by kernel_rfl) (by rfl) (fun _ _ _ h => h) hA hB (fun w1 hw1 => ?_) ?_
  rotate_left 1
  · skip
    go_simp
    (try (first | with_reducible rfl | (apply And.intro <;> rfl)))
  simp only [Act.put, List.setIfInBounds_toArray, List.set_cons_zero, List.set_cons_succ]
  refine till_call (i := 7) (f := ?_) (args := ?_) rfl (by kernel_rfl) (by rfl) ?_ ?_
  rotate_left 2
  · go_simp
    (try (first | with_reducible rfl | (apply And.intro <;> rfl)))
  refine (up_any k.n HKO.out.n w1).mono ?_
  rintro e_ w2 ⟨rfl, rfl⟩
  refine ⟨_, rfl, ⟨hA, hB⟩, fun hB => ?_⟩
  simp only [Act.put, List.setIfInBounds_toArray, List.set_cons_zero, List.set_cons_succ]
  refine till_call (i := 11) (f := ?_) (args := ?_) rfl (by kernel_rfl) (by rfl) ?_ ?_
  rotate_left 2
  · go_simp
    (try (first | with_reducible rfl | (apply And.intro <;> rfl)))
  refine (niceSig_any k.b k.m HKO.out.b HKO.out.m w1).mono ?_
  rintro e_ w2 ⟨rfl, hf⟩
  refine ⟨_, rfl, ⟨hA.go hf (by simp), hB.and hf (by simp)⟩, fun hB => ?_⟩
  replace hA := hA.go hf (by simp)
  clear hf
  simp only [Act.put, List.setIfInBounds_toArray, List.set_cons_zero, List.set_cons_succ]
  have hbx := HB0.out.keep hB (by simp)
  rw [HCV.out] at hbx
  have HCL : Hid ((k.cells ++ [Value.slice A n d]).toArray.size = 38) := Lib.hid (by simp [Wcm.len HKO.out.h])
  refine till_step (i := 14) rfl (by kernel_rfl) (by kernel_rfl) (by rfl) (fun K hK => ?_)
  refine wp_store_mid 23 _ _ rfl w.heap.size 0 #[.int .i64 (upI k.c), .int .i64 (upI k.s)] rfl rfl (hbx.there 0 2 (by rw [HCL.out]; omega)) (by kernel_rfl) (by kernel_rfl) ?_
  have hby := blk_ce1 (c := upI k.c) (s := upI k.s) hbx
  refine hK.out _ _ (Fr.setCells (fun _ => by simp) _ _ _ hA) (fun hA => ?_)
  clear hK K hbx
  rw [show (#[Value.int .i64 (upI k.c), .int .i64 (upI k.s)] : Array Value).toList = [.int .i64 (upI k.c), .int .i64 (upI k.s)] from rfl] at *
  generalize w2.setCells w.heap.size 0 [.int .i64 (upI k.c), .int .i64 (upI k.s)] = w3 at *
  simp only [Act.put, List.setIfInBounds_toArray, List.set_cons_zero, List.set_cons_succ]
  refine till_step (i := 15) rfl (by kernel_rfl) (by kernel_rfl) (by rfl) (fun K hK => ?_)
  refine wp_run (v := ?_) (w' := ?_) ?_ ?_
  rotate_left 2
  · go_simp
    (try (first | with_reducible rfl | (apply And.intro <;> rfl)))
  refine hK.out _ _ hA (fun hA => ?_)
  clear hK K
  simp only [Act.put, List.setIfInBounds_toArray, List.set_cons_zero, List.set_cons_succ]
  refine till_step (i := 16) rfl (by kernel_rfl) (by kernel_rfl) (by rfl) (fun K hK => ?_)
  refine wp_run (v := ?_) (w' := ?_) ?_ ?_
  rotate_left 2
  · go_simp
    (try (first | with_reducible rfl | (apply And.intro <;> rfl)))
  refine hK.out _ _ hA (fun hA => ?_)
  clear hK K
  simp only [Act.put, List.setIfInBounds_toArray, List.set_cons_zero, List.set_cons_succ]
  have HCL2 : Hid (((⟨upI k.c, upI k.s, k.h, k.n, k.b, k.m⟩ : Wcm).cells ++ [Value.slice A n d]).toArray.size = 38) := Lib.hid (by rw [List.size_toArray, List.length_append, Wcm.len (x := ⟨upI k.c, upI k.s, k.h, k.n, k.b, k.m⟩) HKO.out.h]; rfl)
  refine till_step (i := 17) rfl (by kernel_rfl) (by kernel_rfl) (by rfl) (fun K hK => ?_)
  refine wp_store_at 3 _ _ rfl w.heap.size 34 (.int .i64 (upI k.n)) rfl rfl rfl 32 _ hby (by rw [HCL2.out]; omega) (by kernel_rfl) ?_
  have hbz := blk_ce2 (k := ⟨upI k.c, upI k.s, k.h, k.n, k.b, k.m⟩) HKO.out.h (n := upI k.n) hby
  refine hK.out _ _ (Fr.setCells (fun _ => by simp) _ _ _ hA) (fun hA => ?_)
  clear hK K hby
  generalize w3.setCells w.heap.size 34 [.int .i64 (upI k.n)] = w4 at *
  simp only [Act.put, List.setIfInBounds_toArray, List.set_cons_zero, List.set_cons_succ]
  refine till_step (i := 18) rfl (by kernel_rfl) (by kernel_rfl) (by rfl) (fun K hK => ?_)
  refine wp_run (v := ?_) (w' := ?_) ?_ ?_
  rotate_left 2
  · go_simp
    (try (first | with_reducible rfl | (apply And.intro <;> rfl)))
  refine hK.out _ _ hA (fun hA => ?_)
  clear hK K
  simp only [Act.put, List.setIfInBounds_toArray, List.set_cons_zero, List.set_cons_succ]
  refine till_step (i := 19) rfl (by kernel_rfl) (by kernel_rfl) (by rfl) (fun K hK => ?_)
  refine wp_run (v := ?_) (w' := ?_) ?_ ?_
  rotate_left 2
  · go_simp
    (try (first | with_reducible rfl | (apply And.intro <;> rfl)))
  refine hK.out _ _ hA (fun hA => ?_)
  clear hK K
  simp only [Act.put, List.setIfInBounds_toArray, List.set_cons_zero, List.set_cons_succ]
  have HCL3 : Hid (((⟨upI k.c, upI k.s, k.h, upI k.n, k.b, k.m⟩ : Wcm).cells ++ [Value.slice A n d]).toArray.size = 38) := Lib.hid (by rw [List.size_toArray, List.length_append, Wcm.len (x := ⟨upI k.c, upI k.s, k.h, upI k.n, k.b, k.m⟩) HKO.out.h]; rfl)
  refine till_step (i := 20) rfl (by kernel_rfl) (by kernel_rfl) (by rfl) (fun K hK => ?_)
  refine wp_store_mid 27 _ _ rfl w.heap.size 35 #[.int .i64 (upI k.b), .int .i64 (upI k.m)] rfl rfl (hbz.there 35 2 (by rw [HCL3.out]; omega)) (by kernel_rfl) (by kernel_rfl) ?_
  have hbw := blk_ce3 (k := ⟨upI k.c, upI k.s, k.h, upI k.n, k.b, k.m⟩) (b := upI k.b) (m := upI k.m) HKO.out.h hbz
  refine hK.out _ _ (Fr.setCells (fun _ => by simp) _ _ _ hA) (fun hA => ?_)
  clear hK K hbz
  rw [show (#[Value.int .i64 (upI k.b), .int .i64 (upI k.m)] : Array Value).toList = [.int .i64 (upI k.b), .int .i64 (upI k.m)] from rfl] at *
  generalize w4.setCells w.heap.size 35 [.int .i64 (upI k.b), .int .i64 (upI k.m)] = w5 at *
  simp only [Act.put, List.setIfInBounds_toArray, List.set_cons_zero, List.set_cons_succ]
  refine till_done (by kernel_rfl) ?_ _
  have HBW : Hid (Blk w5 w.heap.size 32 ((ncm k).cells ++ [Value.slice A n d]).toArray) := Lib.hid hbw
  have HB15 := Lib.hid (HB1.out.keep hA (by simp))
  have HFA : Hid (Fr [w.heap.size] wa w5) := Lib.hid hA
  have HF5 : Hid (Fr [] w w5) := Lib.hid (HF0.out.trans hA (fun x hx hl => by simp at hx; omega))
  have HCK : Hid ((ncm k).cells.length = 37) := Lib.hid (Wcm.len HKO.out.h)
  have hc5 : w5.cell? ⟨w.heap.size, 37, none⟩ = some (.slice A n d) := by
    have h := HBW.out.range 37 (.slice A n d) (by rw [List.getElem?_append_right (by rw [HCK.out]; omega), HCK.out]; rfl)
    simpa using h
  clear hA hB hbw HAT HB0 HB1 HCL HCL2 HCL3
  go_wp2_with fail
  refine (copyStamps_any A n d l w5 (HL.out.keep' HF5.out (by simp) (fun _ _ h => h)) (by have := HN.out; omega)).mono ?_
  rintro e w6 ⟨A1, c1, rfl, hN⟩
  have hb6 := HBW.out.keep hN.2.1 (by simp)
  have hc6 := hN.2.1.cell hc5 (by simp)
  have hz6 := hb6.frozen 37
  have hb7 := hb6.set 37 (Value.slice A1 n c1)
  rw [set_last (ncm k).cells HCK.out] at hb7
  have hne := own_ne hN.1 hb6 (by decide)
  have HO7 := Lib.hid (own_setCell hN.1 ⟨w.heap.size, 37, none⟩ hne (Value.slice A1 n c1))
  have HB7 := Lib.hid hb7
  have HZ7 := Lib.hid ((HB15.out.keep hN.2.1 (by simp)).keep ((Fr.refl [w.heap.size] w6).setCell ⟨w.heap.size, 37, none⟩ (fun _ => by simp) (Value.slice A1 n c1)) (by simp))
  have HF7 : Hid (Fr [] w (w6.setCell ⟨w.heap.size, 37, none⟩ (Value.slice A1 n c1))) := Lib.hid ((HF5.out.and hN.2.1 (by simp)).trans ((Fr.refl [w.heap.size] w6).setCell ⟨w.heap.size, 37, none⟩ (fun _ => by simp) (Value.slice A1 n c1)) (fun x hx hl => by simp at hx; omega))
  have HNA : Hid (∀ q ∈ bk A1, w.heap.size + 2 ≤ q) := Lib.hid (fun q hq => by have h1 := hN.2.2 q hq; have h2 := HFA.out.size; have h3 := HSZ.out; omega)
  clear hN hb6 hb7 hne hc5
  go_upto_region 3 with (fail)
  clear hc6 hz6
  generalize w6.setCell ⟨w.heap.size, 37, none⟩ (Value.slice A1 n c1) = w7 at *
  obtain ⟨YC, hYC⟩ : ∃ YC, YC = (ncm k).cells ++ [Value.slice A1 n c1] := ⟨_, rfl⟩
  have HYC := Lib.hid hYC
  rw [← hYC] at HB7
  clear hYC
  have HY37 : Hid (YC[37]? = some (.slice A1 n c1)) := Lib.hid (by rw [HYC.out, List.getElem?_append_right (by rw [HCK.out]; omega), HCK.out]; rfl)
  have hc7 : w7.cell? ⟨w.heap.size, 37, none⟩ = some (.slice A1 n c1) := by
    have h := HB7.out.range 37 _ HY37.out
    simpa using h
  have hn1 : (n : Int) ≤ 9223372036854775807 := by have := HN.out; omega
  go_wp2_with fail
  clear hc7
  go_loopw [30] (fun i wr => ∃ j : Nat, j ≤ n ∧ i = .int .i64 j ∧ Hid (wr.ownsRow 0 90 38 (.slice A1 n c1) n (((l.take j).map nst ++ l.drop j).flatMap Wst.cells)) ∧ Hid (Blk wr w.heap.size 32 YC.toArray) ∧ Hid (Blk wr (w.heap.size + 1) 32 zeroCe) ∧ Hid (Fr [] w wr)) (fun i _ => n - (intOf i).toNat)
  case atStart => exact ⟨0, by omega, rfl, Lib.hid (by simpa using HO7.out), HB7, HZ7, HF7⟩
  case round =>
    obtain ⟨j, hj, rfl, HO, HB, HBZ, HF⟩ := hrel
    have hc : wr.cell? ⟨w.heap.size, 37, none⟩ = some (.slice A1 n c1) := by
      have h := HB.out.range 37 _ HY37.out
      simpa using h
    by_cases hlt : j < n
    · obtain ⟨gA, rfl⟩ : ∃ gA, A1 = some ⟨gA, 0, none⟩ := by
        obtain ⟨g', cap, hv, _⟩ := HO.out.form (by omega)
        injection hv with h1
        exact ⟨g', h1⟩
      have hlj : j < l.length := by rw [HL.out.1]; exact hlt
      obtain ⟨v, hv⟩ : ∃ v, v = l[j] := ⟨_, rfl⟩
      have hvm : v ∈ l := by rw [hv]; exact List.getElem_mem hlj
      have hvok : v.Ok := (HL.out.2.1 v hvm).2
      have HVOK := Lib.hid hvok
      have HMIX : Hid (∀ u ∈ (l.take j).map nst ++ l.drop j, u.Ok) := Lib.hid (fun u hu => by
        rcases mix_mem nst l j hu with h | ⟨y, h, rfl⟩
        · exact (HL.out.2.1 u h).2
        · exact nst_ok (HL.out.2.1 y h).2)
      have HLEN : Hid (∀ u ∈ (l.take j).map nst ++ l.drop j, (Wst.cells u).length = 38) := Lib.hid (fun u hu => Wst.len (HMIX.out u hu).h)
      have HRNG : Hid (wr.rangeAt gA (j * 38) v.cells) := Lib.hid (fun i u hu => by
        have h := HO.out.cells (g := gA) rfl _ _ (flat_at HLEN.out (by rw [mix_get nst l hlj, hv]) hu)
        rw [add_at] at h
        exact h)
      have HVJ : Hid (v = l[j]) := Lib.hid hv
      have hcl : v.cells.length = 38 := Wst.len hvok.h
      have HCL := Lib.hid hcl
      have HONE := Lib.hid (Wst.one v)
      have HJN : Hid (j < n) := Lib.hid hlt
      have hj0 : (0 : Int) ≤ j := by omega
      have HSZ0 : Hid ((Try.prog.info? 90).map (·.size) = some v.cells.toArray.size) := Lib.hid (by rw [List.size_toArray, hcl]; kernel_rfl)
      have HCS : Hid (v.cells.toArray.size = 38) := Lib.hid (by rw [List.size_toArray]; exact hcl)
      clear hvok hvm hv hcl
      go_upto_region 7 with (first
        | (refine wpList_load_mid rfl 90 _ rfl gA (j * 38) rfl v.cells _ HRNG.out Try.underlying90 rfl (row_stm.of HCL.out).2 ?_)
        | (refine wpList_store_blk rfl 90 _ _ rfl wr.heap.size v.cells.toArray rfl rfl 90 _ (Blk.new wr _ _) HSZ0.out (by rw [HCS.out]; rfl) (all_oneCell_toArray HONE.out) ?_
           intro w8 hb8 hf8
           have HB8 := Lib.hid hb8
           have HF8 : Hid (Fr [] wr w8) := Lib.hid (((Fr.refl [] wr).alloc _).and hf8 (by simp))
           clear hb8 hf8))
      have hat : v.At w8 wr.heap.size 0 := Wst.at_of HB8.out.range HVOK.out.h
      have HAT := Lib.hid hat
      have HGB : Hid (wr.heap.size < w8.heap.size ∧ gA < wr.heap.size) := Lib.hid ⟨HB8.out.lt, own_lt HO.out gA rfl⟩
      have HO8 := Lib.hid (own_keep HO.out HF8.out (by simp))
      clear hat
      generalize hgb : wr.heap.size = gb at *
      refine wp_region_till 10 (Fr [gb] w8) (Fr [] w8) (by kernel_rfl) (Fr.drew (Fr.refl _ w8)) (Fr.drew (Fr.refl _ w8)) (fun hA hB => ?_)
      generalize w8.drew = wd at *
      refine till_run (i := 0) (v := ?_) rfl (by kernel_rfl) (by rfl) (fun _ _ _ h => h) hA hB (fun w1 hw1 => ?_) ?_
      rotate_left 1
      · skip
        go_simp
        (try (first | with_reducible rfl | (apply And.intro <;> rfl)))
      simp only [Act.put, List.setIfInBounds_toArray, List.set_cons_zero, List.set_cons_succ]
      refine till_run (i := 1) (v := ?_) rfl (by kernel_rfl) (by rfl) (fun _ _ _ h => h) hA hB (fun w1 hw1 => ?_) ?_
      rotate_left 1
      · skip
        have hcw0 := hw1.cell (HAT.out.r) (by first | (simp; done) | exact HNS.out | exact HNW.out | (intro hm; have hlt := HSB.out _ hm; (try dsimp only at hlt); omega))
        go_simp
        (try (first | with_reducible rfl | (apply And.intro <;> rfl)))
      simp only [Act.put, List.setIfInBounds_toArray, List.set_cons_zero, List.set_cons_succ]
      refine till_run (i := 3) (v := ?_) rfl (by kernel_rfl) (by rfl) (fun _ _ _ h => h) hA hB (fun w1 hw1 => ?_) ?_
      rotate_left 1
      · skip
        go_simp
        (try (first | with_reducible rfl | (apply And.intro <;> rfl)))
      simp only [Act.put, List.setIfInBounds_toArray, List.set_cons_zero, List.set_cons_succ]
      refine till_row (i := 4) rfl (by kernel_rfl) (by rfl) _ _ rfl _ _ rfl _ (fun w1 hw1 => hw1.range (HAT.out.name) (by first | (simp; done) | exact HNS.out | exact HNW.out | (intro hm; have hlt := HSB.out _ hm; (try dsimp only at hlt); omega))) (row_nm2) (fun _ _ _ h => h) hA hB ?_
      simp only [Act.put, List.setIfInBounds_toArray, List.set_cons_zero, List.set_cons_succ]
      refine till_run (i := 6) (v := ?_) rfl (by kernel_rfl) (by rfl) (fun _ _ _ h => h) hA hB (fun w1 hw1 => ?_) ?_
      rotate_left 1
      · skip
        go_simp
        (try (first | with_reducible rfl | (apply And.intro <;> rfl)))
      simp only [Act.put, List.setIfInBounds_toArray, List.set_cons_zero, List.set_cons_succ]
      refine till_row (i := 7) rfl (by kernel_rfl) (by rfl) _ _ rfl _ _ rfl _ (fun w1 hw1 => hw1.range (HAT.out.sig) (by first | (simp; done) | exact HNS.out | exact HNW.out | (intro hm; have hlt := HSB.out _ hm; (try dsimp only at hlt); omega))) (row_sg2) (fun _ _ _ h => h) hA hB ?_
      simp only [Act.put, List.setIfInBounds_toArray, List.set_cons_zero, List.set_cons_succ]
      refine till_call (i := 2) (f := ?_) (args := ?_) rfl (by kernel_rfl) (by rfl) ?_ ?_
      rotate_left 2
      · go_simp
        (try (first | with_reducible rfl | (apply And.intro <;> rfl)))
      refine (up_any v.r HVOK.out.r wd).mono ?_
      rintro e_ w9 ⟨rfl, rfl⟩
      refine ⟨_, rfl, ⟨hA, hB⟩, fun hB => ?_⟩
      simp only [Act.put, List.setIfInBounds_toArray, List.set_cons_zero, List.set_cons_succ]
      refine till_run (i := 9) (v := ?_) rfl (by kernel_rfl) (by rfl) (fun _ _ _ h => h) hA hB (fun w1 hw1 => ?_) ?_
      rotate_left 1
      · skip
        go_simp
        (try (first | with_reducible rfl | (apply And.intro <;> rfl)))
      simp only [Act.put, List.setIfInBounds_toArray, List.set_cons_zero, List.set_cons_succ]
      refine till_call (i := 5) (f := ?_) (args := ?_) rfl (by kernel_rfl) (by rfl) ?_ ?_
      rotate_left 2
      · go_simp
        (try (first | with_reducible rfl | (apply And.intro <;> rfl)))
      refine (niceName_any v.c v.s HVOK.out.c HVOK.out.s wd).mono ?_
      rintro e_ w9 ⟨rfl, hf⟩
      refine ⟨_, rfl, ⟨hA.go hf (by simp), hB.and hf (by simp)⟩, fun hB => ?_⟩
      replace hA := hA.go hf (by simp)
      clear hf
      simp only [Act.put, List.setIfInBounds_toArray, List.set_cons_zero, List.set_cons_succ]
      refine till_call (i := 8) (f := ?_) (args := ?_) rfl (by kernel_rfl) (by rfl) ?_ ?_
      rotate_left 2
      · go_simp
        (try (first | with_reducible rfl | (apply And.intro <;> rfl)))
      refine (niceSig_any v.b v.m HVOK.out.b HVOK.out.m w9).mono ?_
      rintro e_ w10 ⟨rfl, hf⟩
      refine ⟨_, rfl, ⟨hA.go hf (by simp), hB.and hf (by simp)⟩, fun hB => ?_⟩
      replace hA := hA.go hf (by simp)
      clear hf
      simp only [Act.put, List.setIfInBounds_toArray, List.set_cons_zero, List.set_cons_succ]
      have hbx := HB8.out.keep hB (by simp)
      have HCB1 : Hid ((⟨upI v.r, v.c, v.s, v.h, v.t, v.b, v.m⟩ : Wst).cells.length = 38) := Lib.hid (Wst.len HVOK.out.h)
      have HCB2 : Hid ((⟨upI v.r, upI v.c, upI v.s, v.h, v.t, v.b, v.m⟩ : Wst).cells.length = 38) := Lib.hid (Wst.len HVOK.out.h)
      refine till_step (i := 10) rfl (by kernel_rfl) (by kernel_rfl) (by rfl) (fun K hK => ?_)
      refine wp_store_at 3 _ _ rfl gb 0 (.int .i64 (upI v.r)) rfl rfl rfl 90 _ hbx (by rw [HCS.out]; omega) (by kernel_rfl) ?_
      have hby := blk_st1 (r := upI v.r) hbx
      refine hK.out _ _ (Fr.setCells (fun _ => by simp) _ _ _ hA) (fun hA => ?_)
      clear hK K hbx
      generalize w10.setCells gb 0 [.int .i64 (upI v.r)] = w11 at *
      simp only [Act.put, List.setIfInBounds_toArray, List.set_cons_zero, List.set_cons_succ]
      refine till_step (i := 11) rfl (by kernel_rfl) (by kernel_rfl) (by rfl) (fun K hK => ?_)
      refine wp_run (v := ?_) (w' := ?_) ?_ ?_
      rotate_left 2
      · go_simp
        (try (first | with_reducible rfl | (apply And.intro <;> rfl)))
      refine hK.out _ _ hA (fun hA => ?_)
      clear hK K
      simp only [Act.put, List.setIfInBounds_toArray, List.set_cons_zero, List.set_cons_succ]
      refine till_step (i := 12) rfl (by kernel_rfl) (by kernel_rfl) (by rfl) (fun K hK => ?_)
      refine wp_store_mid 23 _ _ rfl gb 1 #[.int .i64 (upI v.c), .int .i64 (upI v.s)] rfl rfl (hby.there 1 2 (by rw [List.size_toArray, HCB1.out]; decide)) (by kernel_rfl) (by kernel_rfl) ?_
      have hbz := blk_st2 (c := upI v.c) (s := upI v.s) hby
      refine hK.out _ _ (Fr.setCells (fun _ => by simp) _ _ _ hA) (fun hA => ?_)
      clear hK K hby
      rw [show (#[Value.int .i64 (upI v.c), .int .i64 (upI v.s)] : Array Value).toList = [.int .i64 (upI v.c), .int .i64 (upI v.s)] from rfl] at *
      generalize w11.setCells gb 1 [.int .i64 (upI v.c), .int .i64 (upI v.s)] = w12 at *
      simp only [Act.put, List.setIfInBounds_toArray, List.set_cons_zero, List.set_cons_succ]
      refine till_step (i := 13) rfl (by kernel_rfl) (by kernel_rfl) (by rfl) (fun K hK => ?_)
      refine wp_run (v := ?_) (w' := ?_) ?_ ?_
      rotate_left 2
      · go_simp
        (try (first | with_reducible rfl | (apply And.intro <;> rfl)))
      refine hK.out _ _ hA (fun hA => ?_)
      clear hK K
      simp only [Act.put, List.setIfInBounds_toArray, List.set_cons_zero, List.set_cons_succ]
      refine till_step (i := 14) rfl (by kernel_rfl) (by kernel_rfl) (by rfl) (fun K hK => ?_)
      refine wp_store_mid 27 _ _ rfl gb 36 #[.int .i64 (upI v.b), .int .i64 (upI v.m)] rfl rfl (hbz.there 36 2 (by rw [List.size_toArray, HCB2.out]; decide)) (by kernel_rfl) (by kernel_rfl) ?_
      have hbw := blk_st3 (x := ⟨upI v.r, upI v.c, upI v.s, v.h, v.t, v.b, v.m⟩) HVOK.out.h (b := upI v.b) (m := upI v.m) hbz
      refine hK.out _ _ (Fr.setCells (fun _ => by simp) _ _ _ hA) (fun hA => ?_)
      clear hK K hbz
      rw [show (#[Value.int .i64 (upI v.b), .int .i64 (upI v.m)] : Array Value).toList = [.int .i64 (upI v.b), .int .i64 (upI v.m)] from rfl] at *
      generalize w12.setCells gb 36 [.int .i64 (upI v.b), .int .i64 (upI v.m)] = w13 at *
      simp only [Act.put, List.setIfInBounds_toArray, List.set_cons_zero, List.set_cons_succ]
      refine till_done (by kernel_rfl) ?_ _
      have HFX : Hid (Fr [] wr w13) := Lib.hid (HF8.out.trans hA (fun x hx hl => by simp at hx; omega))
      have HBN : Hid (Blk w13 gb 90 (nst v).cells.toArray) := Lib.hid hbw
      have HO13 := Lib.hid (own_keep HO8.out hA (fun q hq hm => by have h1 : gA = q := Option.some.inj hq; have := HGB.out; simp at hm; omega))
      have hc13 := HFX.out.cell hc (by simp)
      have HB13 := Lib.hid (HB.out.keep HFX.out (by simp))
      have HZ13 := Lib.hid (HBZ.out.keep HFX.out (by simp))
      have HF13 : Hid (Fr [] w w13) := Lib.hid (HF.out.and HFX.out (by simp))
      clear hA hB hbw HAT HCB1 HCB2 hc
      have HNL : Hid ((nst v).cells.length = 38) := Lib.hid (Wst.len HVOK.out.h)
      have HNS : Hid ((Try.prog.info? 90).map (·.size) = some (nst v).cells.length) := Lib.hid (by rw [HNL.out]; kernel_rfl)
      have HN1 := Lib.hid (all_oneCell_toArray (Wst.one (nst v)))
      have HPUT := Lib.hid (own_put (cells := Wst.cells) HO13.out HLEN.out (i := j) (by rw [mix_len]; exact hlj) (nst v) HNL.out)
      have HSET : Hid (((l.take j).map nst ++ l.drop j).set j (nst v) = (l.take (j + 1)).map nst ++ l.drop (j + 1)) := Lib.hid (by rw [HVJ.out]; exact mix_set nst l hlj)
      obtain ⟨CN, hCN⟩ : ∃ CN, CN = (nst v).cells := ⟨_, rfl⟩
      rw [← hCN] at HBN HNL HNS HN1 HPUT
      clear hCN HO13
      have HRN : Hid (w13.rangeAt gb 0 CN) := Lib.hid HBN.out.range
      have HTH : Hid (w13.there gA (j * 38) CN.toArray.size) := Lib.hid (by rw [List.size_toArray, HNL.out]; exact HPUT.out.2)
      have HNS2 : Hid ((Try.prog.info? 90).map (·.size) = some CN.toArray.size) := Lib.hid (by rw [List.size_toArray]; exact HNS.out)
      go_wp2_with (first
        | (refine wpList_load_mid rfl 90 _ rfl gb 0 rfl CN _ HRN.out Try.underlying90 rfl HNS.out ?_)
        | (refine wpList_store_mid rfl 90 _ _ rfl gA (j * 38) CN.toArray rfl rfl HTH.out HNS2.out HN1.out ?_))
      have hfs : Fr [gA] w13 (w13.setCells gA (j * 38) CN) := Fr.setCells (fun _ => by simp) _ _ _ (Fr.refl _ _)
      have HFS : Hid (Fr [gA] w13 (w13.setCells gA (j * 38) CN.toArray.toList)) := Lib.hid (by simpa using hfs)
      have HO14 : Hid ((w13.setCells gA (j * 38) CN.toArray.toList).ownsRow 0 90 38 (.slice (some ⟨gA, 0, none⟩) n c1) n (((l.take (j + 1)).map nst ++ l.drop (j + 1)).flatMap Wst.cells)) := Lib.hid (by have h := HPUT.out.1; rw [HSET.out] at h; simpa using h)
      have HGN : Hid (w.heap.size + 2 ≤ gA) := Lib.hid (HNA.out gA (by simp [bk]))
      clear hfs hc13
      generalize w13.setCells gA (j * 38) CN.toArray.toList = w14 at *
      go_roundw
      case rel => exact ⟨j + 1, by have := HJN.out; omega, by go_num, HO14, Lib.hid (HB13.out.keep HFS.out (by simp; have := HGN.out; omega)), Lib.hid (HZ13.out.keep HFS.out (by simp; have := HGN.out; omega)), Lib.hid (HF13.out.and HFS.out (by have := HGN.out; simp; omega))⟩
      case measure => have := HJN.out; simp [intOf]; omega
    · skip
      have hjn : j = n := by omega
      subst hjn
      have HOE : Hid (wr.ownsRow 0 90 38 (.slice A1 j c1) j ((l.map nst).flatMap Wst.cells)) := Lib.hid (by
        have h := HO.out
        have hl := HL.out.1
        rw [List.take_of_length_le (by omega), List.drop_of_length_le (by omega), List.append_nil] at h
        exact h)
      have HYL : Hid (YC.length = 38) := Lib.hid (by rw [HYC.out, List.length_append, HCK.out]; rfl)
      have HYS : Hid ((Try.prog.info? 32).map (·.size) = some YC.toArray.size) := Lib.hid (by rw [List.size_toArray, HYL.out]; kernel_rfl)
      have HZC : Hid (zeroCe.size = YC.toArray.size) := Lib.hid ((show zeroCe.size = 38 from rfl).trans (by rw [List.size_toArray, HYL.out]))
      have HALL : Hid (YC.toArray.all (·.oneCell') = true) := Lib.hid (all_oneCell_toArray (by rw [HYC.out]; intro u hu; rcases List.mem_append.1 hu with h | h; exact Wcm.one _ u h; rw [List.mem_singleton.1 h]; rfl))
      clear hlt hj hc
      go_wp2_with (first
        | (refine wpList_load_row rfl 32 _ rfl w.heap.size rfl 32 YC.toArray _ _ HB.out Try.underlying32 rfl HYS.out ?_)
        | (refine wpList_store_blk rfl 32 _ _ rfl (w.heap.size + 1) YC.toArray rfl rfl 32 zeroCe HBZ.out HYS.out HZC.out HALL.out ?_
           intro w9 hb9 hf9
           have HB9 := Lib.hid hb9
           have HF9 := Lib.hid hf9
           clear hb9 hf9))
      have hoe := own_keep HOE.out HF9.out (fun q hq hm => by have h1 := HNA.out q ((bk_mem A1 j c1 q).1 hq); simp at hm; omega)
      refine bodyPost_ret (v := .agg YC.toArray) (results_cell_row Try.results6 _ _ (w.heap.size + 1) 32 YC.toArray _ _ rfl HB9.out Try.underlying32 rfl HYS.out) rfl ⟨⟨ncm k, A1, j, c1, l.map nst⟩, by rw [HYC.out]; rfl, fun S0 h0 => ⟨ncm_ok HKO.out, ?_, HN.out, fun _ a ha hin => ?_⟩, rfl, rfl, ?_⟩
      · refine Lst.of_own hoe (by rw [List.length_map]; exact HL.out.1) (fun u hu => ?_)
        obtain ⟨y, hy, rfl⟩ := List.mem_map.1 hu
        have hyo := nst_ok (HL.out.2.1 y hy).2
        exact ⟨Wst.len hyo.h, hyo⟩
      · have h1 := HNA.out a.block (by have ha' : A1 = some a := ha; rw [ha']; simp [bk])
        have h2 := h0 _ hin
        omega
      · exact HF.out.and HF9.out (by simp)
end Go.Proofs.Ytbkhkhippcjdgaa

namespace Go.Proofs.Ytbkhkhippcjdgaa
open Go.RowKit
set_option maxRecDepth 100000
def All2 {α β : Type} (R : α → β → Prop) : List α → List β → Prop
  | [], [] => True
  | a :: xs, b :: ys => R a b ∧ All2 R xs ys
  | _, _ => False
theorem forall2_snoc {α β : Type} {R : α → β → Prop} : ∀ {xs : List α} {ys : List β} {a : α} {b : β}, All2 R xs ys → R a b → All2 R (xs ++ [a]) (ys ++ [b])
  | [], [], _, _, _, h => ⟨h, trivial⟩
  | [], _ :: _, _, _, h, _ => h.elim
  | _ :: _, [], _, _, h, _ => h.elim
  | _ :: _, _ :: _, _, _, h, k => ⟨h.1, forall2_snoc h.2 k⟩
theorem All2.len {α β : Type} {R : α → β → Prop} : ∀ {xs : List α} {ys : List β}, All2 R xs ys → xs.length = ys.length
  | [], [], _ => rfl
  | [], _ :: _, h => h.elim
  | _ :: _, [], h => h.elim
  | _ :: _, _ :: _, h => by simp [All2.len h.2]
def nceR (x y : Wce) : Prop := y.k = ncm x.k ∧ y.l = x.l.map nst
def nprR (x y : Wpr) : Prop := y.r = upI x.r ∧ y.e = upI x.e ∧ y.t = x.t ∧ y.b = upI x.b ∧ y.m = upI x.m ∧ All2 nceR x.l y.l
theorem nice_any' (x : Wce) (w : World) (hx : x.Ok w []) (C : List Value) (hC : x.cells = C) :
    Calls Try.prog 6 #[.agg C.toArray] w fun e w' => ∃ y : Wce, e = .returned y.val ∧ (∀ S0 : List Nat, (∀ q ∈ S0, q < w.heap.size) → y.Ok w' S0) ∧ nceR x y ∧ Fr [] w w' :=
  (nice_any x w hx C hC).mono fun _ _ ⟨y, h1, h2, h3, h4, h5⟩ => ⟨y, h1, h2, ⟨h3, h4⟩, h5⟩
theorem blk_pr1 {w : World} {g : Nat} {t : TypeId} {x : Wpr} {r : Int} (hb : Blk w g t x.cells.toArray) : Blk (w.setCells g 0 [.int .i64 r]) g t (Wpr.cells ⟨r, x.e, x.t, x.A, x.n, x.d, x.l, x.b, x.m⟩).toArray :=
  Blk.mid_at [.int .i64 r] [.int .i64 x.r] [] [.int .i64 x.e, .int .u64 (x.t : Int), .slice x.A x.n x.d, .int .i64 x.b, .int .i64 x.m] 0 rfl rfl _ _ rfl rfl hb
theorem blk_pr2 {w : World} {g : Nat} {t : TypeId} {x : Wpr} {e : Int} (hb : Blk w g t x.cells.toArray) : Blk (w.setCells g 1 [.int .i64 e]) g t (Wpr.cells ⟨x.r, e, x.t, x.A, x.n, x.d, x.l, x.b, x.m⟩).toArray :=
  Blk.mid_at [.int .i64 e] [.int .i64 x.e] [.int .i64 x.r] [.int .u64 (x.t : Int), .slice x.A x.n x.d, .int .i64 x.b, .int .i64 x.m] 1 rfl rfl _ _ rfl rfl hb
theorem blk_pr3 {w : World} {g : Nat} {t : TypeId} {x : Wpr} {b m : Int} (hb : Blk w g t x.cells.toArray) : Blk (w.setCells g 4 [.int .i64 b, .int .i64 m]) g t (Wpr.cells ⟨x.r, x.e, x.t, x.A, x.n, x.d, x.l, b, m⟩).toArray :=
  Blk.mid_at [.int .i64 b, .int .i64 m] [.int .i64 x.b, .int .i64 x.m] [.int .i64 x.r, .int .i64 x.e, .int .u64 (x.t : Int), .slice x.A x.n x.d] [] 4 rfl rfl _ _ rfl rfl hb

set_option maxHeartbeats 8000000 in
theorem nicePromise_any (x : Wpr) (w : World) (hx : x.Ok w []) (C : List Value) (hC : x.cells = C) :
    Calls Try.prog 8 #[.agg C.toArray] w fun e w' => ∃ y : Wpr, e = .returned y.val ∧ (∀ S0 : List Nat, (∀ q ∈ S0, q < w.heap.size) → y.Ok w' S0) ∧ nprR x y ∧ Fr [] w w' := by
  subst hC
  obtain ⟨wa, hwa⟩ : ∃ wa, wa = (w.alloc (Obj.cells x.cells.toArray 36)).alloc (Obj.cells zeroPr 36) := ⟨_, rfl⟩
  have hf0 : Fr [] w wa := by rw [hwa]; exact ((Fr.refl [] w).alloc _).alloc _
  have hb0 : Blk wa w.heap.size 36 x.cells.toArray := by rw [hwa]; exact blk_alloc (Blk.new _ _ _)
  have hb1 : Blk wa (w.heap.size + 1) 36 zeroPr := by
    have := Blk.new (w.alloc (Obj.cells x.cells.toArray 36)) 36 zeroPr
    rw [hwa]
    simpa using this
  obtain ⟨r, e, t, A, n, d, l, b, m⟩ := x
  have hr0 := hb0.range
  have HR0 : Hid (wa.cell? ⟨w.heap.size, 0, none⟩ = some (.int .i64 r)) := Lib.hid (by have h := hr0 0 _ rfl; simpa using h)
  have HR1 : Hid (wa.cell? ⟨w.heap.size, 1, none⟩ = some (.int .i64 e)) := Lib.hid (by have h := hr0 1 _ rfl; simpa using h)
  have HR4 : Hid (wa.rangeAt w.heap.size 4 [.int .i64 b, .int .i64 m]) := Lib.hid (rangeAt_sub (o := 0) (xs := [.int .i64 r, .int .i64 e, .int .u64 (t : Int), .slice A n d]) (ys := [.int .i64 b, .int .i64 m]) (zs := []) hr0)
  have HXO : Hid (i64In r ∧ i64In e ∧ t < 18446744073709551616 ∧ i64In b ∧ i64In m) := Lib.hid ⟨hx.r, hx.e, hx.t, hx.b, hx.m⟩
  have HL : Hid (Lst 38 Wce.cells (fun w v => v.Ok w []) w A n l) := Lib.hid hx.l
  have HN : Hid (n ≤ 3) := Lib.hid hx.n
  have HB0 := Lib.hid hb0
  have HB1 := Lib.hid hb1
  have HF0 := Lib.hid hf0
  have HWA := Lib.hid hwa
  have HSZ : Hid (w.heap.size + 2 ≤ wa.heap.size) := Lib.hid (by have := hb1.lt; omega)
  clear hwa hf0 hb0 hb1 hr0 hx
  obtain ⟨CV, hCV⟩ : ∃ CV, CV = Wpr.cells ⟨r, e, t, A, n, d, l, b, m⟩ := ⟨_, rfl⟩
  have HCV := Lib.hid hCV
  rw [← hCV] at HWA HB0 ⊢
  clear hCV
  go_enter Try.func8, Try.ntmps8
  go_upto_region 1 with (fail)
  change Code.wp _ _ _ _ ((w.alloc (Obj.cells CV.toArray 36)).alloc (Obj.cells zeroPr 36))
  rw [← HWA.out]
  refine wp_region_till 10 (Fr [w.heap.size] wa) (Fr [] wa) (by kernel_rfl) (Fr.drew (Fr.refl _ wa)) (Fr.drew (Fr.refl _ wa)) (fun hA hB => ?_)
  generalize wa.drew = wd at *
  refine till_run (i := 0) (v := ?_) rfl (by kernel_rfl) (by rfl) (fun _ _ _ h => h) hA hB (fun w1 hw1 => ?_) ?_
  rotate_left 1
  · skip
    go_simp
    (try (first | with_reducible rfl | (apply And.intro <;> rfl)))
  simp only [Act.put, List.setIfInBounds_toArray, List.set_cons_zero, List.set_cons_succ]
  refine till_run (i := 1) (v := ?_) rfl (by kernel_rfl) (by rfl) (fun _ _ _ h => h) hA hB (fun w1 hw1 => ?_) ?_
  rotate_left 1
  · skip
    have hcw0 := hw1.cell (HR0.out) (by first | (simp; done) | exact HNS.out | exact HNW.out | (intro hm; have hlt := HSB.out _ hm; (try dsimp only at hlt); omega))
    go_simp
    (try (first | with_reducible rfl | (apply And.intro <;> rfl)))
  simp only [Act.put, List.setIfInBounds_toArray, List.set_cons_zero, List.set_cons_succ]
  refine till_run (i := 3) (v := ?_) rfl (by kernel_rfl) (by rfl) (fun _ _ _ h => h) hA hB (fun w1 hw1 => ?_) ?_
  rotate_left 1
  · skip
    go_simp
    (try (first | with_reducible rfl | (apply And.intro <;> rfl)))
  simp only [Act.put, List.setIfInBounds_toArray, List.set_cons_zero, List.set_cons_succ]
  refine till_run (i := 4) (v := ?_) rfl (by kernel_rfl) (by rfl) (fun _ _ _ h => h) hA hB (fun w1 hw1 => ?_) ?_
  rotate_left 1
  · skip
    have hcw0 := hw1.cell (HR1.out) (by first | (simp; done) | exact HNS.out | exact HNW.out | (intro hm; have hlt := HSB.out _ hm; (try dsimp only at hlt); omega))
    go_simp
    (try (first | with_reducible rfl | (apply And.intro <;> rfl)))
  simp only [Act.put, List.setIfInBounds_toArray, List.set_cons_zero, List.set_cons_succ]
  refine till_run (i := 6) (v := ?_) rfl (by kernel_rfl) (by rfl) (fun _ _ _ h => h) hA hB (fun w1 hw1 => ?_) ?_
  rotate_left 1
  · skip
    go_simp
    (try (first | with_reducible rfl | (apply And.intro <;> rfl)))
  simp only [Act.put, List.setIfInBounds_toArray, List.set_cons_zero, List.set_cons_succ]
  refine till_row (i := 7) rfl (by kernel_rfl) (by rfl) _ _ rfl _ _ rfl _ (fun w1 hw1 => hw1.range (HR4.out) (by first | (simp; done) | exact HNS.out | exact HNW.out | (intro hm; have hlt := HSB.out _ hm; (try dsimp only at hlt); omega))) (row_sg2) (fun _ _ _ h => h) hA hB ?_
  simp only [Act.put, List.setIfInBounds_toArray, List.set_cons_zero, List.set_cons_succ]
  refine till_call (i := 2) (f := ?_) (args := ?_) rfl (by kernel_rfl) (by rfl) ?_ ?_
  rotate_left 2
  · go_simp
    (try (first | with_reducible rfl | (apply And.intro <;> rfl)))
  refine (up_any r HXO.out.1 wd).mono ?_
  rintro e_ w1 ⟨rfl, rfl⟩
  refine ⟨_, rfl, ⟨hA, hB⟩, fun hB => ?_⟩
  simp only [Act.put, List.setIfInBounds_toArray, List.set_cons_zero, List.set_cons_succ]
  refine till_run (i := 9) (v := ?_) rfl (by kernel_rfl) (by rfl) (fun _ _ _ h => h) hA hB (fun w1 hw1 => ?_) ?_
  rotate_left 1
  · skip
    go_simp
    (try (first | with_reducible rfl | (apply And.intro <;> rfl)))
  simp only [Act.put, List.setIfInBounds_toArray, List.set_cons_zero, List.set_cons_succ]
  refine till_call (i := 5) (f := ?_) (args := ?_) rfl (by kernel_rfl) (by rfl) ?_ ?_
  rotate_left 2
  · go_simp
    (try (first | with_reducible rfl | (apply And.intro <;> rfl)))
  refine (up_any e HXO.out.2.1 wd).mono ?_
  rintro e_ w1 ⟨rfl, rfl⟩
  refine ⟨_, rfl, ⟨hA, hB⟩, fun hB => ?_⟩
  simp only [Act.put, List.setIfInBounds_toArray, List.set_cons_zero, List.set_cons_succ]
  refine till_call (i := 8) (f := ?_) (args := ?_) rfl (by kernel_rfl) (by rfl) ?_ ?_
  rotate_left 2
  · go_simp
    (try (first | with_reducible rfl | (apply And.intro <;> rfl)))
  refine (niceSig_any b m HXO.out.2.2.2.1 HXO.out.2.2.2.2 wd).mono ?_
  rintro e_ w2 ⟨rfl, hf⟩
  refine ⟨_, rfl, ⟨hA.go hf (by simp), hB.and hf (by simp)⟩, fun hB => ?_⟩
  replace hA := hA.go hf (by simp)
  clear hf
  simp only [Act.put, List.setIfInBounds_toArray, List.set_cons_zero, List.set_cons_succ]
  have hbx := HB0.out.keep hB (by simp)
  rw [HCV.out] at hbx
  refine till_step (i := 10) rfl (by kernel_rfl) (by kernel_rfl) (by rfl) (fun K hK => ?_)
  refine wp_store_at 3 _ _ rfl w.heap.size 0 (.int .i64 (upI r)) rfl rfl rfl 36 _ hbx (by rw [List.size_toArray]; exact (by decide : 0 < 6)) (by kernel_rfl) ?_
  have hby := blk_pr1 (r := upI r) hbx
  refine hK.out _ _ (Fr.setCells (fun _ => by simp) _ _ _ hA) (fun hA => ?_)
  clear hK K hbx
  generalize w2.setCells w.heap.size 0 [.int .i64 (upI r)] = w3 at *
  simp only [Act.put, List.setIfInBounds_toArray, List.set_cons_zero, List.set_cons_succ]
  refine till_step (i := 11) rfl (by kernel_rfl) (by kernel_rfl) (by rfl) (fun K hK => ?_)
  refine wp_run (v := ?_) (w' := ?_) ?_ ?_
  rotate_left 2
  · go_simp
    (try (first | with_reducible rfl | (apply And.intro <;> rfl)))
  refine hK.out _ _ hA (fun hA => ?_)
  clear hK K
  simp only [Act.put, List.setIfInBounds_toArray, List.set_cons_zero, List.set_cons_succ]
  refine till_step (i := 12) rfl (by kernel_rfl) (by kernel_rfl) (by rfl) (fun K hK => ?_)
  refine wp_store_at 3 _ _ rfl w.heap.size 1 (.int .i64 (upI e)) rfl rfl rfl 36 _ hby (by rw [List.size_toArray]; exact (by decide : 1 < 6)) (by kernel_rfl) ?_
  have hbz := blk_pr2 (e := upI e) hby
  refine hK.out _ _ (Fr.setCells (fun _ => by simp) _ _ _ hA) (fun hA => ?_)
  clear hK K hby
  generalize w3.setCells w.heap.size 1 [.int .i64 (upI e)] = w4 at *
  simp only [Act.put, List.setIfInBounds_toArray, List.set_cons_zero, List.set_cons_succ]
  refine till_step (i := 13) rfl (by kernel_rfl) (by kernel_rfl) (by rfl) (fun K hK => ?_)
  refine wp_run (v := ?_) (w' := ?_) ?_ ?_
  rotate_left 2
  · go_simp
    (try (first | with_reducible rfl | (apply And.intro <;> rfl)))
  refine hK.out _ _ hA (fun hA => ?_)
  clear hK K
  simp only [Act.put, List.setIfInBounds_toArray, List.set_cons_zero, List.set_cons_succ]
  refine till_step (i := 14) rfl (by kernel_rfl) (by kernel_rfl) (by rfl) (fun K hK => ?_)
  refine wp_store_mid 27 _ _ rfl w.heap.size 4 #[.int .i64 (upI b), .int .i64 (upI m)] rfl rfl (hbz.there 4 2 (by rw [List.size_toArray]; exact (by decide : 4 + 2 ≤ 6))) (by kernel_rfl) (by kernel_rfl) ?_
  have hbw := blk_pr3 (b := upI b) (m := upI m) hbz
  refine hK.out _ _ (Fr.setCells (fun _ => by simp) _ _ _ hA) (fun hA => ?_)
  clear hK K hbz
  rw [show (#[Value.int .i64 (upI b), .int .i64 (upI m)] : Array Value).toList = [.int .i64 (upI b), .int .i64 (upI m)] from rfl] at *
  generalize w4.setCells w.heap.size 4 [.int .i64 (upI b), .int .i64 (upI m)] = w5 at *
  simp only [Act.put, List.setIfInBounds_toArray, List.set_cons_zero, List.set_cons_succ]
  refine till_done (by kernel_rfl) ?_ _
  have HBW : Hid (Blk w5 w.heap.size 36 (Wpr.cells ⟨upI r, upI e, t, A, n, d, l, upI b, upI m⟩).toArray) := Lib.hid hbw
  have HB15 := Lib.hid (HB1.out.keep hA (by simp))
  have HFA : Hid (Fr [w.heap.size] wa w5) := Lib.hid hA
  have HF5 : Hid (Fr [] w w5) := Lib.hid (HF0.out.trans hA (fun x hx hl => by simp at hx; omega))
  have hc5 : w5.cell? ⟨w.heap.size, 3, none⟩ = some (.slice A n d) := by
    have h := HBW.out.range 3 _ rfl
    simpa using h
  clear hA hB hbw HB0 HB1
  go_wp2_with (at_builtin; refine Stop.mk ?_)
  refine Stop.go ?_
  refine wpList_append_lst (ok := fun w v => Wce.Ok w [] v) _ rfl (.const (.slice none 0 0)) (.tmp 17) _ rfl 32 38 96 Try.underlying34 el_cert (by decide) (by decide) Wce.one rfl A n d l rfl (HL.out.keep' HF5.out (by simp) (fun _ _ h => Wce.Ok.keep (S' := []) h HF5.out (by simp))) (by have := HN.out; omega) ?_
  intro A1 c1 w6 hN
  have hb6 := HBW.out.keep hN.2.1 (by simp)
  have hc6 := hN.2.1.cell hc5 (by simp)
  have hz6 := hb6.frozen 3
  have hb7 : Blk (w6.setCell ⟨w.heap.size, 3, none⟩ (Value.slice A1 n c1)) w.heap.size 36 (Wpr.cells ⟨upI r, upI e, t, A1, n, c1, l, upI b, upI m⟩).toArray := hb6.set 3 (Value.slice A1 n c1)
  have hne := own_ne hN.1 hb6 (by decide)
  have HO7 := Lib.hid (own_setCell hN.1 ⟨w.heap.size, 3, none⟩ hne (Value.slice A1 n c1))
  have HB7 := Lib.hid hb7
  have HZ7 := Lib.hid ((HB15.out.keep hN.2.1 (by simp)).keep ((Fr.refl [w.heap.size] w6).setCell ⟨w.heap.size, 3, none⟩ (fun _ => by simp) (Value.slice A1 n c1)) (by simp))
  have HF7 : Hid (Fr [] w (w6.setCell ⟨w.heap.size, 3, none⟩ (Value.slice A1 n c1))) := Lib.hid ((HF5.out.and hN.2.1 (by simp)).trans ((Fr.refl [w.heap.size] w6).setCell ⟨w.heap.size, 3, none⟩ (fun _ => by simp) (Value.slice A1 n c1)) (fun x hx hl => by simp at hx; omega))
  have HNA : Hid (∀ q ∈ bk A1, w.heap.size + 2 ≤ q) := Lib.hid (fun q hq => by have h1 := hN.2.2 q hq; have h2 := HFA.out.size; have h3 := HSZ.out; omega)
  clear hN hb6 hb7 hne hc5
  go_upto_region 3 with (fail)
  clear hc6 hz6
  generalize w6.setCell ⟨w.heap.size, 3, none⟩ (Value.slice A1 n c1) = w7 at *
  obtain ⟨YC, hYC⟩ : ∃ YC, YC = Wpr.cells ⟨upI r, upI e, t, A1, n, c1, l, upI b, upI m⟩ := ⟨_, rfl⟩
  have HYC := Lib.hid hYC
  rw [← hYC] at HB7
  clear hYC
  have HY37 : Hid (YC[3]? = some (.slice A1 n c1)) := Lib.hid (by rw [HYC.out]; rfl)
  have hc7 : w7.cell? ⟨w.heap.size, 3, none⟩ = some (.slice A1 n c1) := by
    have h := HB7.out.range 3 _ HY37.out
    simpa using h
  have hn1 : (n : Int) ≤ 9223372036854775807 := by have := HN.out; omega
  go_wp2_with fail
  clear hc7
  go_loopw [23] (fun i wr => ∃ (j : Nat) (ys : List Wce), j ≤ n ∧ i = .int .i64 j ∧ ys.length = j ∧ Hid (wr.ownsRow 0 32 38 (.slice A1 n c1) n ((ys ++ l.drop j).flatMap Wce.cells)) ∧ Hid (All2 nceR (l.take j) ys) ∧ Hid (∀ y ∈ ys, ∀ S0 : List Nat, (∀ q ∈ S0, q < w.heap.size + 2 ∨ q ∈ bk A1) → y.Ok wr S0) ∧ Hid (Blk wr w.heap.size 36 YC.toArray ∧ Blk wr (w.heap.size + 1) 36 zeroPr) ∧ Hid (Fr [] w wr)) (fun i _ => n - (intOf i).toNat)
  case atStart => exact ⟨0, [], by omega, rfl, rfl, Lib.hid (by simpa using HO7.out), Lib.hid trivial, Lib.hid (by simp), Lib.hid ⟨HB7.out, HZ7.out⟩, HF7⟩
  case round =>
    obtain ⟨j, ys, hj, rfl, hyl, HO, HREL, HYS, HBB, HF⟩ := hrel
    have hc : wr.cell? ⟨w.heap.size, 3, none⟩ = some (.slice A1 n c1) := by
      have h := HBB.out.1.range 3 _ HY37.out
      simpa using h
    by_cases hlt : j < n
    · skip
      obtain ⟨gA, rfl⟩ : ∃ gA, A1 = some ⟨gA, 0, none⟩ := by
        obtain ⟨g', cap, hv, _⟩ := HO.out.form (by omega)
        injection hv with h1
        exact ⟨g', h1⟩
      have hlj : j < l.length := by rw [HL.out.1]; exact hlt
      obtain ⟨v, hv⟩ : ∃ v, v = l[j] := ⟨_, rfl⟩
      have hvm : v ∈ l := by rw [hv]; exact List.getElem_mem hlj
      have HVOK : Hid (v.Ok wr []) := Lib.hid ((HL.out.2.1 v hvm).2.keep HF.out (by simp))
      have HLEN : Hid (∀ u ∈ ys ++ l.drop j, (Wce.cells u).length = 38) := Lib.hid (fun u hu => by
        rcases List.mem_append.1 hu with h | h
        · exact Wce.len ((HYS.out u h [] (by simp)).k.h)
        · exact (HL.out.2.1 u (List.mem_of_mem_drop h)).1)
      have HGET : Hid ((ys ++ l.drop j)[j]? = some v) := Lib.hid (by rw [List.getElem?_append_right (by omega), hyl, Nat.sub_self, List.drop_eq_getElem_cons hlj, hv]; rfl)
      have HRNG : Hid (wr.rangeAt gA (j * 38) (Wce.cells v)) := Lib.hid (fun i u hu => by
        have h := HO.out.cells (g := gA) rfl _ _ (flat_at HLEN.out HGET.out hu)
        rw [add_at] at h
        exact h)
      have HCL : Hid ((Wce.cells v).length = 38) := Lib.hid ((HL.out.2.1 v hvm).1)
      have HJN : Hid (j < n) := Lib.hid hlt
      have HHC := Lib.hid hc
      have hj0 : (0 : Int) ≤ j := by omega
      have HGA : Hid (gA < wr.heap.size ∧ w.heap.size + 2 ≤ gA) := Lib.hid ⟨own_lt HO.out gA rfl, HNA.out gA (by simp [bk])⟩
      have HSET : Hid (∀ y, (ys ++ l.drop j).set j y = (ys ++ [y]) ++ l.drop (j + 1)) := Lib.hid (fun y => by
        rw [List.set_append_right _ _ (by omega), hyl, Nat.sub_self, List.drop_eq_getElem_cons hlj, List.set_cons_zero, List.append_assoc]
        rfl)
      have HTK : Hid (l.take (j + 1) = l.take j ++ [v]) := Lib.hid (by rw [List.take_succ_eq_append_getElem hlj, hv])
      clear hvm hv
      go_upto_region 6 with (fail)
      clear hc
      refine wp_region_till 10 (Fr [gA] wr) (Fr [] wr) (by kernel_rfl) (Fr.drew (Fr.refl _ wr)) (Fr.drew (Fr.refl _ wr)) (fun hA hB => ?_)
      have hwd : Hid (wr.heap.size ≤ wr.drew.heap.size) := Lib.hid (Nat.le_refl _)
      generalize wr.drew = wd at *
      refine till_run (i := 0) (v := ?_) rfl (by kernel_rfl) (by rfl) (fun _ _ _ h => h) hA hB (fun w1 hw1 => ?_) ?_
      rotate_left 1
      · skip
        go_simp
        (try (first | with_reducible rfl | (apply And.intro <;> rfl)))
      simp only [Act.put, List.setIfInBounds_toArray, List.set_cons_zero, List.set_cons_succ]
      refine till_run (i := 1) (v := ?_) rfl (by kernel_rfl) (by rfl) (fun _ _ _ h => h) hA hB (fun w1 hw1 => ?_) ?_
      rotate_left 1
      · skip
        have hcw0 := hw1.cell (HHC.out) (by first | (simp; done) | exact HNS.out | exact HNW.out | (intro hm; have hlt := HSB.out _ hm; (try dsimp only at hlt); omega))
        go_simp
        (try (first | with_reducible rfl | (apply And.intro <;> rfl)))
      simp only [Act.put, List.setIfInBounds_toArray, List.set_cons_zero, List.set_cons_succ]
      refine till_run (i := 2) (v := ?_) rfl (by kernel_rfl) (by rfl) (fun _ _ _ h => h) hA hB (fun w1 hw1 => ?_) ?_
      rotate_left 1
      · skip
        go_simp
        (try (first | with_reducible rfl | (apply And.intro <;> rfl)))
      simp only [Act.put, List.setIfInBounds_toArray, List.set_cons_zero, List.set_cons_succ]
      refine till_run (i := 3) (v := ?_) rfl (by kernel_rfl) (by rfl) (fun _ _ _ h => h) hA hB (fun w1 hw1 => ?_) ?_
      rotate_left 1
      · skip
        go_simp
        (try (first | with_reducible rfl | (apply And.intro <;> rfl)))
      simp only [Act.put, List.setIfInBounds_toArray, List.set_cons_zero, List.set_cons_succ]
      refine till_run (i := 4) (v := ?_) rfl (by kernel_rfl) (by rfl) (fun _ _ _ h => h) hA hB (fun w1 hw1 => ?_) ?_
      rotate_left 1
      · skip
        have hcw0 := hw1.cell (HHC.out) (by first | (simp; done) | exact HNS.out | exact HNW.out | (intro hm; have hlt := HSB.out _ hm; (try dsimp only at hlt); omega))
        go_simp
        (try (first | with_reducible rfl | (apply And.intro <;> rfl)))
      simp only [Act.put, List.setIfInBounds_toArray, List.set_cons_zero, List.set_cons_succ]
      refine till_run (i := 5) (v := ?_) rfl (by kernel_rfl) (by rfl) (fun _ _ _ h => h) hA hB (fun w1 hw1 => ?_) ?_
      rotate_left 1
      · skip
        go_simp
        (try (first | with_reducible rfl | (apply And.intro <;> rfl)))
      simp only [Act.put, List.setIfInBounds_toArray, List.set_cons_zero, List.set_cons_succ]
      refine till_run (i := 6) (v := ?_) rfl (by kernel_rfl) (by rfl) (fun _ _ _ h => h) hA hB (fun w1 hw1 => ?_) ?_
      rotate_left 1
      · skip
        go_simp
        (try (first | with_reducible rfl | (apply And.intro <;> rfl)))
      simp only [Act.put, List.setIfInBounds_toArray, List.set_cons_zero, List.set_cons_succ]
      refine till_row (i := 7) rfl (by kernel_rfl) (by rfl) _ _ rfl _ _ rfl _ (fun w1 hw1 => hw1.range (HRNG.out) (by first | (simp; done) | exact HNS.out | exact HNW.out | (intro hm; have hlt := HSB.out _ hm; (try dsimp only at hlt); omega))) (row_crt.of HCL.out) (fun _ _ _ h => h) hA hB ?_
      simp only [Act.put, List.setIfInBounds_toArray, List.set_cons_zero, List.set_cons_succ]
      refine till_call (i := 8) (f := ?_) (args := ?_) rfl (by kernel_rfl) (by rfl) ?_ ?_
      rotate_left 2
      · go_simp
        (try (first | with_reducible rfl | (apply And.intro <;> rfl)))
      refine (nice_any' v wd (HVOK.out.keep hB (by simp)) _ rfl).mono ?_
      rintro e_ w9 ⟨y, rfl, hyok, hyr, hf⟩
      refine ⟨_, rfl, ⟨hA.go hf (by simp), hB.and hf (by simp)⟩, fun hB => ?_⟩
      replace hA := hA.go hf (by simp)
      have HYN : Hid (∀ S0 : List Nat, (∀ q ∈ S0, q < w.heap.size + 2 ∨ q ∈ [gA]) → y.Ok w9 S0) := Lib.hid (fun S0 h0 => hyok S0 (fun q hq => by
        have h1 := hB.size
        have h2 := hf.size
        have h3 := HGA.out
        rcases h0 q hq with h | h
        · have := hwd.out; omega
        · simp at h; have := hwd.out; omega))
      have HYR := Lib.hid hyr
      have hyl38 : (Wce.cells y).length = 38 := Wce.len (hyok [] (by simp)).k.h
      have HO9 := Lib.hid (own_keep HO.out hB (by simp))
      have HFX : Hid (Fr [] wr w9) := Lib.hid hB
      have HPUT := Lib.hid (own_put (cells := Wce.cells) HO9.out HLEN.out (i := j) (by simp; omega) y hyl38)
      have HN1 := Lib.hid (all_oneCell_toArray (Wce.one y))
      have HTH : Hid (w9.there gA (j * 38) (Wce.cells y).toArray.size) := Lib.hid (by rw [List.size_toArray, hyl38]; exact HPUT.out.2)
      have HNS2 : Hid ((Try.prog.info? 32).map (·.size) = some (Wce.cells y).toArray.size) := Lib.hid (by rw [List.size_toArray, hyl38]; kernel_rfl)
      clear hf hyok hyr hyl38
      unfold Wce.val
      generalize hCN : (Wce.cells y) = CN at *
      clear hCN
      simp only [Act.put, List.setIfInBounds_toArray, List.set_cons_zero, List.set_cons_succ]
      refine till_run (i := 9) (v := ?_) rfl (by kernel_rfl) (by rfl) (fun _ _ _ h => h) hA hB (fun w1 hw1 => ?_) ?_
      rotate_left 1
      · skip
        go_simp
        (try (first | with_reducible rfl | (apply And.intro <;> rfl)))
      simp only [Act.put, List.setIfInBounds_toArray, List.set_cons_zero, List.set_cons_succ]
      refine till_step (i := 10) rfl (by kernel_rfl) (by kernel_rfl) (by rfl) (fun K hK => ?_)
      refine wp_store_mid 32 _ _ rfl gA (j * 38) CN.toArray rfl rfl HTH.out HNS2.out HN1.out ?_
      rw [show CN.toArray.toList = CN from rfl]
      have HFS : Hid (Fr [gA] w9 (w9.setCells gA (j * 38) CN)) := Lib.hid (Fr.setCells (fun _ => by simp) _ _ _ (Fr.refl _ _))
      have HO10 : Hid ((w9.setCells gA (j * 38) CN).ownsRow 0 32 38 (.slice (some ⟨gA, 0, none⟩) n c1) n (((ys ++ [y]) ++ l.drop (j + 1)).flatMap Wce.cells)) := Lib.hid (by have h := HPUT.out.1; rw [HSET.out] at h; exact h)
      generalize w9.setCells gA (j * 38) CN = w10 at *
      refine hK.out _ _ (hA.trans HFS.out (fun x hx _ => hx)) (fun hA => ?_)
      clear hK K
      simp only [Act.put, List.setIfInBounds_toArray, List.set_cons_zero, List.set_cons_succ]
      refine till_done (by kernel_rfl) ?_ _
      have HFW : Hid (Fr [gA] wr w10) := Lib.hid hA
      clear hA hB
      go_wp2
      go_roundw
      case rel =>
        refine ⟨j + 1, ys ++ [y], by have := HJN.out; omega, by go_num, by simp [hyl], HO10, ?_, ?_, Lib.hid ⟨HBB.out.1.keep HFW.out (by simp; have := HGA.out; omega), HBB.out.2.keep HFW.out (by simp; have := HGA.out; omega)⟩, Lib.hid (HF.out.trans HFW.out (fun x hx hl => by simp at hx; have := HGA.out; omega))⟩
        · refine Lib.hid ?_
          rw [HTK.out]
          exact forall2_snoc HREL.out HYR.out
        · refine Lib.hid (fun u hu => ?_)
          rcases List.mem_append.1 hu with hu | hu
          · exact keepAll (ok := fun w S x => Wce.Ok w S x) (fun h f s => h.keep f s) (w := wr) (B4 := [gA]) (B9 := [gA]) HFW.out (fun q hq => .inl hq) (HYS.out u hu)
          · rw [List.mem_singleton.1 hu]
            exact keepAll (ok := fun w S x => Wce.Ok w S x) (fun h f s => h.keep f s) (w := w9) (B4 := [gA]) (B9 := [gA]) HFS.out (fun q hq => .inl hq) HYN.out
      case measure => have := HJN.out; simp [intOf]; omega
    · skip
      have hjn : j = n := by omega
      subst hjn
      have HOE : Hid (wr.ownsRow 0 32 38 (.slice A1 j c1) j (ys.flatMap Wce.cells)) := Lib.hid (by
        have h := HO.out
        have hl := HL.out.1
        rw [List.drop_of_length_le (by omega), List.append_nil] at h
        exact h)
      have HREL2 : Hid (All2 nceR l ys) := Lib.hid (by
        have h := HREL.out
        have hl := HL.out.1
        rw [List.take_of_length_le (by omega)] at h
        exact h)
      have HYL : Hid (YC.length = 6) := Lib.hid (by rw [HYC.out]; rfl)
      have HYSZ : Hid ((Try.prog.info? 36).map (·.size) = some YC.toArray.size) := Lib.hid (by rw [List.size_toArray, HYL.out]; kernel_rfl)
      have HZC : Hid (zeroPr.size = YC.toArray.size) := Lib.hid ((show zeroPr.size = 6 from rfl).trans (by rw [List.size_toArray, HYL.out]))
      have HALL : Hid (YC.toArray.all (·.oneCell') = true) := Lib.hid (all_oneCell_toArray (by rw [HYC.out]; exact Wpr.one _))
      clear hlt hj hc
      go_wp2_with (first
        | (refine wpList_load_row rfl 36 _ rfl w.heap.size rfl 36 YC.toArray _ _ HBB.out.1 Try.underlying36 rfl HYSZ.out ?_)
        | (refine wpList_store_blk rfl 36 _ _ rfl (w.heap.size + 1) YC.toArray rfl rfl 36 zeroPr HBB.out.2 HYSZ.out HZC.out HALL.out ?_
           intro w9 hb9 hf9
           have HB9 := Lib.hid hb9
           have HF9 := Lib.hid hf9
           clear hb9 hf9))
      have hoe := own_keep HOE.out HF9.out (fun q hq hm => by have h1 := HNA.out q ((bk_mem A1 j c1 q).1 hq); simp at hm; omega)
      refine bodyPost_ret (v := .agg YC.toArray) (results_cell_row Try.results8 _ _ (w.heap.size + 1) 36 YC.toArray _ _ rfl HB9.out Try.underlying36 rfl HYSZ.out) rfl ⟨⟨upI r, upI e, t, A1, j, c1, ys, upI b, upI m⟩, by rw [HYC.out]; rfl, fun S0 h0 => ⟨upI_in _, upI_in _, HXO.out.2.2.1, ?_, HN.out, fun _ a ha hin => ?_, upI_in _, upI_in _⟩, ⟨rfl, rfl, rfl, rfl, rfl, HREL2.out⟩, ?_⟩
      · refine Lst.of_own hoe hyl (fun u hu => ?_)
        have hyo := (HYS.out u hu ((w.heap.size + 1) :: S0) (fun q hq => by rcases List.mem_cons.1 hq with h | h; exact .inl (by omega); exact .inl (by have := h0 q h; omega))).keep (S' := S0) (HF9.out.mono (by intro k hk _; simp at hk; simp [hk])) (fun q hq _ => by simp [hq])
        exact ⟨Wce.len hyo.k.h, hyo⟩
      · have h1 := HNA.out a.block (by have ha' : A1 = some a := ha; rw [ha']; simp [bk])
        have h2 := h0 _ hin
        omega
      · exact HF.out.and HF9.out (by simp)
end Go.Proofs.Ytbkhkhippcjdgaa

namespace Go.Proofs.Ytbkhkhippcjdgaa
open Go.RowKit
set_option maxRecDepth 100000
def ndn (x : Wdn) : Wdn := ⟨upI x.r, upI x.i, upI x.b, upI x.m⟩
theorem ndn_ok (x : Wdn) : (ndn x).Ok := ⟨upI_in _, upI_in _, upI_in _, upI_in _⟩
theorem ndn_idem (x : Wdn) : ndn (ndn x) = ndn x := by simp [ndn, upI_idem]
def nopR (x y : Wop) : Prop := y.i = upI x.i ∧ y.p = x.p.take 256 ∧ y.h = x.h
def ntbR (x y : Wtb) : Prop := y.i = upI x.i ∧ y.l = x.l.map ndn
def nbaR (x y : Wba) : Prop := y.e = upI x.e ∧ y.t = x.t ∧ All2 nprR x.l y.l ∧ All2 nopR x.l2 y.l2 ∧ All2 ntbR x.l3 y.l3
theorem own_cap {w : World} {base : Nat} {e : TypeId} {k n c : Nat} {A : Option Addr} {xs : List Value} (h : w.ownsRow base e k (.slice A n c) n xs) : n ≤ c := by
  rcases h.2 with ⟨h1, h2⟩ | ⟨g, cap, cur, hv, _, _, hc, _⟩
  · omega
  · injection hv; omega
theorem row_dny : RowTy Try.prog 83 4 := ⟨by kernel_rfl, by kernel_rfl⟩
theorem row_opg : RowTy Try.prog 78 34 := ⟨by kernel_rfl, by kernel_rfl⟩
theorem row_tmg : RowTy Try.prog 81 2 := ⟨by kernel_rfl, by kernel_rfl⟩
theorem built_dn (r i b m : Int) : Try.prog.built 83 [(0, .int .i64 r), (1, .int .i64 i), (2, .agg #[.int .i64 b, .int .i64 m])] = some (Wdn.cells ⟨r, i, b, m⟩).toArray := by kernel_rfl
theorem blk_op1 {w : World} {g : Nat} {t : TypeId} {x : Wop} {i : Int} (hb : Blk w g t x.cells.toArray) : Blk (w.setCells g 0 [.int .i64 i]) g t (Wop.cells ⟨i, x.A, x.n, x.d, x.p, x.h⟩).toArray :=
  Blk.mid_at [.int .i64 i] [.int .i64 x.i] [] ([.slice x.A x.n x.d] ++ (x.h.map by8 ++ [])) 0 rfl rfl _ _ rfl rfl hb
theorem blk_op2 {w : World} {g : Nat} {t : TypeId} {x : Wop} {A : Option Addr} {n d : Nat} (p : List UInt8) (hb : Blk w g t x.cells.toArray) : Blk (w.setCells g 1 [.slice A n d]) g t (Wop.cells ⟨x.i, A, n, d, p, x.h⟩).toArray :=
  Blk.mid_at [.slice A n d] [.slice x.A x.n x.d] [.int .i64 x.i] (x.h.map by8 ++ []) 1 rfl rfl _ _ rfl rfl hb

set_option maxHeartbeats 16000000 in
theorem niceBatch_any (x : Wba) (w : World) (hx : x.Ok w []) (C : List Value) (hC : x.cells = C) :
    Calls Try.prog 10 #[.agg C.toArray] w fun e w' => ∃ y : Wba, e = .returned y.val ∧ (∀ S0 : List Nat, (∀ q ∈ S0, q < w.heap.size) → y.Ok w' S0) ∧ nbaR x y ∧ (y.n = x.n ∧ y.n2 = x.n2 ∧ y.n3 = x.n3 ∧ y.n ≤ y.d) ∧ Fr [] w w' := by
  subst hC
  obtain ⟨wa, hwa⟩ : ∃ wa, wa = (w.alloc (Obj.cells x.cells.toArray 41)).alloc (Obj.cells zeroBa 41) := ⟨_, rfl⟩
  have hf0 : Fr [] w wa := by rw [hwa]; exact ((Fr.refl [] w).alloc _).alloc _
  have hb0 : Blk wa w.heap.size 41 x.cells.toArray := by rw [hwa]; exact blk_alloc (Blk.new _ _ _)
  have hb1 : Blk wa (w.heap.size + 1) 41 zeroBa := by
    have := Blk.new (w.alloc (Obj.cells x.cells.toArray 41)) 41 zeroBa
    rw [hwa]
    simpa using this
  obtain ⟨e, t, A, n, d, l, A2, n2, d2, l2, A3, n3, d3, l3⟩ := x
  have HXE : Hid (i64In e) := Lib.hid hx.e
  have HXT : Hid (t < 18446744073709551616) := Lib.hid hx.t
  have HLP : Hid (Lst 6 Wpr.cells (fun w v => v.Ok w []) w A n l) := Lib.hid hx.l
  have HLO : Hid (Lst 34 Wop.cells (fun w v => v.Ok w []) w A2 n2 l2) := Lib.hid hx.l2
  have HLT : Hid (Lst 2 Wtb.cells (fun w v => v.Ok w []) w A3 n3 l3) := Lib.hid hx.l3
  have HNN : Hid (n ≤ 4 ∧ n2 ≤ 5 ∧ n3 ≤ 5) := Lib.hid ⟨hx.n, hx.n2, hx.n3⟩
  have hc0 := hb0.cell 0
  have hz0 := hb0.frozen 0
  simp [Wba.cells] at hc0
  have HB1 := Lib.hid hb1
  have HF0 := Lib.hid hf0
  have HWA := Lib.hid hwa
  have HSZ : Hid (w.heap.size + 2 ≤ wa.heap.size) := Lib.hid (by have := hb1.lt; omega)
  have HBU : Hid (Blk (wa.setCell ⟨w.heap.size, 0, none⟩ (.int .i64 (upI e))) w.heap.size 41 (Wba.cells ⟨upI e, t, A, n, d, l, A2, n2, d2, l2, A3, n3, d3, l3⟩).toArray) := Lib.hid (hb0.set 0 (.int .i64 (upI e)))
  clear hwa hf0 hb0 hb1 hx
  obtain ⟨CV, hCV⟩ : ∃ CV, CV = Wba.cells ⟨e, t, A, n, d, l, A2, n2, d2, l2, A3, n3, d3, l3⟩ := ⟨_, rfl⟩
  rw [← hCV] at HWA ⊢
  clear hCV
  go_enter Try.func10, Try.ntmps10
  go_upto_region 1 with (fail)
  change Code.wp _ _ _ _ ((w.alloc (Obj.cells CV.toArray 41)).alloc (Obj.cells zeroBa 41))
  rw [← HWA.out]
  go_wp2_with fail
  refine (up_any e HXE.out wa).mono ?_
  rintro e_ w1 ⟨rfl, rfl⟩
  go_upto_region 2 with (fail)
  clear hc0 hz0
  have HFU : Hid (Fr [w.heap.size] wa (wa.setCell ⟨w.heap.size, 0, none⟩ (.int .i64 (upI e)))) := Lib.hid ((Fr.refl _ wa).setCell _ (fun _ => by simp) _)
  generalize wa.setCell ⟨w.heap.size, 0, none⟩ (.int .i64 (upI e)) = wp0 at *
  have HBZ := Lib.hid (HB1.out.keep HFU.out (by simp))
  have HF : Hid (Fr [] w wp0) := Lib.hid (HF0.out.trans HFU.out (fun x hx hl => by simp at hx; omega))
  have HSW : Hid (w.heap.size + 2 ≤ wp0.heap.size) := Lib.hid (by have := HSZ.out; have := HFU.out.size; omega)
  have HBX := Lib.hid HBU.out
  have HSW0 : Hid (w.heap.size + 2 ≤ wp0.heap.size) := Lib.hid HSW.out
  clear HFU HF0 HB1 HBU HWA
  have hc : wp0.cell? ⟨w.heap.size, 2, none⟩ = some (.slice A n d) := by
    have h := HBX.out.range 2 _ rfl
    simpa using h
  go_wp2_with (at_builtin; refine Stop.mk ?_)
  refine Stop.go ?_
  refine wpList_append_lst (ok := fun w v => Wpr.Ok w [] v) _ rfl (.const (.slice none 0 0)) (.tmp 15) _ rfl 36 6 64 (Try.underlying37) el_prm (by decide) (by decide) Wpr.one rfl A n d l rfl (HLP.out.keep' HF.out (by simp) (fun _ _ h => Wpr.Ok.keep (S' := []) h HF.out (by simp))) (by have := HNN.out; omega) ?_
  intro A1 c1 w6 hN
  have hb6 := HBX.out.keep hN.2.1 (by simp)
  have hc6 := hN.2.1.cell hc (by simp)
  have hz6 := hb6.frozen 2
  have hb7 : Blk (w6.setCell ⟨w.heap.size, 2, none⟩ (Value.slice A1 n c1)) w.heap.size 41 (Wba.cells ⟨upI e, t, A1, n, c1, l, A2, n2, d2, l2, A3, n3, d3, l3⟩).toArray := hb6.set 2 (Value.slice A1 n c1)
  have hne := own_ne hN.1 hb6 (by decide)
  have HO7 := Lib.hid (own_setCell hN.1 ⟨w.heap.size, 2, none⟩ hne (Value.slice A1 n c1))
  have hfs : Fr [w.heap.size] w6 (w6.setCell ⟨w.heap.size, 2, none⟩ (Value.slice A1 n c1)) := (Fr.refl _ w6).setCell ⟨w.heap.size, 2, none⟩ (fun _ => by simp) (Value.slice A1 n c1)
  have HB7 := Lib.hid hb7
  have HZ7 := Lib.hid ((HBZ.out.keep hN.2.1 (by simp)).keep hfs (by simp))
  have HFP7 : Hid (Fr [w.heap.size] wp0 (w6.setCell ⟨w.heap.size, 2, none⟩ (Value.slice A1 n c1))) := Lib.hid ((hN.2.1.mono (by simp)).trans hfs (fun x hx _ => hx))
  have HNA1 : Hid (∀ q ∈ bk A1, wp0.heap.size ≤ q) := Lib.hid (fun q hq => hN.2.2 q hq)
  clear hN hb6 hb7 hne hfs hc
  go_upto_region 3 with (fail)
  clear hc6 hz6
  generalize w6.setCell ⟨w.heap.size, 2, none⟩ (Value.slice A1 n c1) = w7 at *
  have hc7 : w7.cell? ⟨w.heap.size, 2, none⟩ = some (.slice A1 n c1) := by
    have h := HB7.out.range 2 _ rfl
    simpa using h
  have hn1 : (n : Int) ≤ 9223372036854775807 := by have := HNN.out; omega
  go_wp2_with fail
  clear hc7
  go_loopw [21] (fun i wr => ∃ (j : Nat) (ys : List Wpr), j ≤ n ∧ i = .int .i64 j ∧ ys.length = j ∧ Hid (wr.ownsRow 0 36 6 (.slice A1 n c1) n ((ys ++ l.drop j).flatMap Wpr.cells)) ∧ Hid (All2 nprR (l.take j) ys) ∧ Hid (∀ y ∈ ys, ∀ S0 : List Nat, (∀ q ∈ S0, q < w.heap.size + 2 ∨ q ∈ bk A1) → y.Ok wr S0) ∧ Hid (Blk wr w.heap.size 41 (Wba.cells ⟨upI e, t, A1, n, c1, l, A2, n2, d2, l2, A3, n3, d3, l3⟩).toArray ∧ Blk wr (w.heap.size + 1) 41 zeroBa) ∧ Hid (Fr [w.heap.size] wp0 wr)) (fun i _ => n - (intOf i).toNat)
  case atStart => exact ⟨0, [], by omega, rfl, rfl, Lib.hid (by simpa using HO7.out), Lib.hid trivial, Lib.hid (by simp), Lib.hid ⟨HB7.out, HZ7.out⟩, HFP7⟩
  case round =>
    obtain ⟨j, ys, hj, rfl, hyl, HO, HREL, HYS, HBB, HFP⟩ := hrel
    have HFW0 : Hid (Fr [] w wp0) := HF
    have HF : Hid (Fr [] w wr) := Lib.hid (HFW0.out.trans HFP.out (fun x hx hl => by simp at hx; omega))
    have HNA : Hid (∀ q ∈ bk A1, w.heap.size + 2 ≤ q ∧ wp0.heap.size ≤ q) := Lib.hid (fun q hq => by have h1 := HNA1.out q hq; have h2 := HSW.out; omega)
    have hc : wr.cell? ⟨w.heap.size, 2, none⟩ = some (.slice A1 n c1) := by
      have h := HBB.out.1.range 2 _ rfl
      simpa using h
    by_cases hlt : j < n
    · skip
      obtain ⟨gA, rfl⟩ : ∃ gA, A1 = some ⟨gA, 0, none⟩ := by
        obtain ⟨g', cap, hv, _⟩ := HO.out.form (by omega)
        injection hv with h1
        exact ⟨g', h1⟩
      have hlj : j < l.length := by rw [HLP.out.1]; exact hlt
      obtain ⟨v, hv⟩ : ∃ v, v = l[j] := ⟨_, rfl⟩
      have hvm : v ∈ l := by rw [hv]; exact List.getElem_mem hlj
      have HVOK : Hid (v.Ok wr []) := Lib.hid ((HLP.out.2.1 v hvm).2.keep HF.out (by simp))
      have HLEN : Hid (∀ u ∈ ys ++ l.drop j, (Wpr.cells u).length = 6) := Lib.hid (fun u hu => by
        rcases List.mem_append.1 hu with h | h
        · exact rfl
        · exact (HLP.out.2.1 u (List.mem_of_mem_drop h)).1)
      have HGET : Hid ((ys ++ l.drop j)[j]? = some v) := Lib.hid (by rw [List.getElem?_append_right (by omega), hyl, Nat.sub_self, List.drop_eq_getElem_cons hlj, hv]; rfl)
      have HRNG : Hid (wr.rangeAt gA (j * 6) (Wpr.cells v)) := Lib.hid (fun i u hu => by
        have h := HO.out.cells (g := gA) rfl _ _ (flat_at HLEN.out HGET.out hu)
        rw [add_at] at h
        exact h)
      have HCL : Hid ((Wpr.cells v).length = 6) := Lib.hid ((HLP.out.2.1 v hvm).1)
      have HJN : Hid (j < n) := Lib.hid hlt
      have HHC := Lib.hid hc
      have hj0 : (0 : Int) ≤ j := by omega
      have HGB : Hid (wp0.heap.size ≤ gA) := Lib.hid (HNA.out gA (by simp [bk])).2
      have HGA : Hid (gA < wr.heap.size ∧ w.heap.size + 2 ≤ gA) := Lib.hid ⟨own_lt HO.out gA rfl, (HNA.out gA (by simp [bk])).1⟩
      have HSET : Hid (∀ y, (ys ++ l.drop j).set j y = (ys ++ [y]) ++ l.drop (j + 1)) := Lib.hid (fun y => by
        rw [List.set_append_right _ _ (by omega), hyl, Nat.sub_self, List.drop_eq_getElem_cons hlj, List.set_cons_zero, List.append_assoc]
        rfl)
      have HTK : Hid (l.take (j + 1) = l.take j ++ [v]) := Lib.hid (by rw [List.take_succ_eq_append_getElem hlj, hv])
      clear hvm hv
      go_upto_region 6 with (fail)
      clear hc
      refine wp_region_till 10 (Fr [gA] wr) (Fr [] wr) (by kernel_rfl) (Fr.drew (Fr.refl _ wr)) (Fr.drew (Fr.refl _ wr)) (fun hA hB => ?_)
      have hwd : Hid (wr.heap.size ≤ wr.drew.heap.size) := Lib.hid (Nat.le_refl _)
      generalize wr.drew = wd at *
      refine till_run (i := 0) (v := ?_) rfl (by kernel_rfl) (by rfl) (fun _ _ _ h => h) hA hB (fun w1 hw1 => ?_) ?_
      rotate_left 1
      · skip
        go_simp
        (try (first | with_reducible rfl | (apply And.intro <;> rfl)))
      simp only [Act.put, List.setIfInBounds_toArray, List.set_cons_zero, List.set_cons_succ]
      refine till_run (i := 1) (v := ?_) rfl (by kernel_rfl) (by rfl) (fun _ _ _ h => h) hA hB (fun w1 hw1 => ?_) ?_
      rotate_left 1
      · skip
        have hcw0 := hw1.cell (HHC.out) (by first | (simp; done) | exact HNS.out | exact HNW.out | (intro hm; have hlt := HSB.out _ hm; (try dsimp only at hlt); omega))
        go_simp
        (try (first | with_reducible rfl | (apply And.intro <;> rfl)))
      simp only [Act.put, List.setIfInBounds_toArray, List.set_cons_zero, List.set_cons_succ]
      refine till_run (i := 2) (v := ?_) rfl (by kernel_rfl) (by rfl) (fun _ _ _ h => h) hA hB (fun w1 hw1 => ?_) ?_
      rotate_left 1
      · skip
        go_simp
        (try (first | with_reducible rfl | (apply And.intro <;> rfl)))
      simp only [Act.put, List.setIfInBounds_toArray, List.set_cons_zero, List.set_cons_succ]
      refine till_run (i := 3) (v := ?_) rfl (by kernel_rfl) (by rfl) (fun _ _ _ h => h) hA hB (fun w1 hw1 => ?_) ?_
      rotate_left 1
      · skip
        go_simp
        (try (first | with_reducible rfl | (apply And.intro <;> rfl)))
      simp only [Act.put, List.setIfInBounds_toArray, List.set_cons_zero, List.set_cons_succ]
      refine till_run (i := 4) (v := ?_) rfl (by kernel_rfl) (by rfl) (fun _ _ _ h => h) hA hB (fun w1 hw1 => ?_) ?_
      rotate_left 1
      · skip
        have hcw0 := hw1.cell (HHC.out) (by first | (simp; done) | exact HNS.out | exact HNW.out | (intro hm; have hlt := HSB.out _ hm; (try dsimp only at hlt); omega))
        go_simp
        (try (first | with_reducible rfl | (apply And.intro <;> rfl)))
      simp only [Act.put, List.setIfInBounds_toArray, List.set_cons_zero, List.set_cons_succ]
      refine till_run (i := 5) (v := ?_) rfl (by kernel_rfl) (by rfl) (fun _ _ _ h => h) hA hB (fun w1 hw1 => ?_) ?_
      rotate_left 1
      · skip
        go_simp
        (try (first | with_reducible rfl | (apply And.intro <;> rfl)))
      simp only [Act.put, List.setIfInBounds_toArray, List.set_cons_zero, List.set_cons_succ]
      refine till_run (i := 6) (v := ?_) rfl (by kernel_rfl) (by rfl) (fun _ _ _ h => h) hA hB (fun w1 hw1 => ?_) ?_
      rotate_left 1
      · skip
        go_simp
        (try (first | with_reducible rfl | (apply And.intro <;> rfl)))
      simp only [Act.put, List.setIfInBounds_toArray, List.set_cons_zero, List.set_cons_succ]
      refine till_row (i := 7) rfl (by kernel_rfl) (by rfl) _ _ rfl _ _ rfl _ (fun w1 hw1 => hw1.range (HRNG.out) (by first | (simp; done) | exact HNS.out | exact HNW.out | (intro hm; have hlt := HSB.out _ hm; (try dsimp only at hlt); omega))) (row_prm.of HCL.out) (fun _ _ _ h => h) hA hB ?_
      simp only [Act.put, List.setIfInBounds_toArray, List.set_cons_zero, List.set_cons_succ]
      refine till_call (i := 8) (f := ?_) (args := ?_) rfl (by kernel_rfl) (by rfl) ?_ ?_
      rotate_left 2
      · go_simp
        (try (first | with_reducible rfl | (apply And.intro <;> rfl)))
      refine (nicePromise_any v wd (HVOK.out.keep hB (by simp)) _ rfl).mono ?_
      rintro e_ w9 ⟨y, rfl, hyok, hyr, hf⟩
      refine ⟨_, rfl, ⟨hA.go hf (by simp), hB.and hf (by simp)⟩, fun hB => ?_⟩
      replace hA := hA.go hf (by simp)
      have HYN : Hid (∀ S0 : List Nat, (∀ q ∈ S0, q < w.heap.size + 2 ∨ q ∈ [gA]) → y.Ok w9 S0) := Lib.hid (fun S0 h0 => hyok S0 (fun q hq => by
        have h1 := hB.size
        have h2 := hf.size
        have h3 := HGA.out
        rcases h0 q hq with h | h
        · have := hwd.out; omega
        · simp at h; have := hwd.out; omega))
      have HYR := Lib.hid hyr
      have hyl38 : (Wpr.cells y).length = 6 := rfl
      have HO9 := Lib.hid (own_keep HO.out hB (by simp))
      have HFX : Hid (Fr [] wr w9) := Lib.hid hB
      have HPUT := Lib.hid (own_put (cells := Wpr.cells) HO9.out HLEN.out (i := j) (by simp; omega) y hyl38)
      have HN1 := Lib.hid (all_oneCell_toArray (Wpr.one y))
      have HTH : Hid (w9.there gA (j * 6) (Wpr.cells y).toArray.size) := Lib.hid (by rw [List.size_toArray, hyl38]; exact HPUT.out.2)
      have HNS2 : Hid ((Try.prog.info? 36).map (·.size) = some (Wpr.cells y).toArray.size) := Lib.hid (by rw [List.size_toArray, hyl38]; kernel_rfl)
      clear hf hyok hyr hyl38
      unfold Wpr.val
      generalize hCN : (Wpr.cells y) = CN at *
      clear hCN
      simp only [Act.put, List.setIfInBounds_toArray, List.set_cons_zero, List.set_cons_succ]
      refine till_run (i := 9) (v := ?_) rfl (by kernel_rfl) (by rfl) (fun _ _ _ h => h) hA hB (fun w1 hw1 => ?_) ?_
      rotate_left 1
      · skip
        go_simp
        (try (first | with_reducible rfl | (apply And.intro <;> rfl)))
      simp only [Act.put, List.setIfInBounds_toArray, List.set_cons_zero, List.set_cons_succ]
      refine till_step (i := 10) rfl (by kernel_rfl) (by kernel_rfl) (by rfl) (fun K hK => ?_)
      refine wp_store_mid 36 _ _ rfl gA (j * 6) CN.toArray rfl rfl HTH.out HNS2.out HN1.out ?_
      rw [show CN.toArray.toList = CN from rfl]
      have HFS : Hid (Fr [gA] w9 (w9.setCells gA (j * 6) CN)) := Lib.hid (Fr.setCells (fun _ => by simp) _ _ _ (Fr.refl _ _))
      have HO10 : Hid ((w9.setCells gA (j * 6) CN).ownsRow 0 36 6 (.slice (some ⟨gA, 0, none⟩) n c1) n (((ys ++ [y]) ++ l.drop (j + 1)).flatMap Wpr.cells)) := Lib.hid (by have h := HPUT.out.1; rw [HSET.out] at h; exact h)
      generalize w9.setCells gA (j * 6) CN = w10 at *
      refine hK.out _ _ (hA.trans HFS.out (fun x hx _ => hx)) (fun hA => ?_)
      clear hK K
      simp only [Act.put, List.setIfInBounds_toArray, List.set_cons_zero, List.set_cons_succ]
      refine till_done (by kernel_rfl) ?_ _
      have HFW : Hid (Fr [gA] wr w10) := Lib.hid hA
      clear hA hB
      go_wp2
      go_roundw
      case rel =>
        refine ⟨j + 1, ys ++ [y], by have := HJN.out; omega, by go_num, by simp [hyl], HO10, ?_, ?_, Lib.hid ⟨HBB.out.1.keep HFW.out (by simp; have := HGA.out; omega), HBB.out.2.keep HFW.out (by simp; have := HGA.out; omega)⟩, Lib.hid (HFP.out.trans HFW.out (fun x hx hl => by simp at hx; have := HGB.out; omega))⟩
        · refine Lib.hid ?_
          rw [HTK.out]
          exact forall2_snoc HREL.out HYR.out
        · refine Lib.hid (fun u hu => ?_)
          rcases List.mem_append.1 hu with hu | hu
          · exact keepAll (ok := fun w S x => Wpr.Ok w S x) (fun h f s => h.keep f s) (w := wr) (B4 := [gA]) (B9 := [gA]) HFW.out (fun q hq => .inl hq) (HYS.out u hu)
          · rw [List.mem_singleton.1 hu]
            exact keepAll (ok := fun w S x => Wpr.Ok w S x) (fun h f s => h.keep f s) (w := w9) (B4 := [gA]) (B9 := [gA]) HFS.out (fun q hq => .inl hq) HYN.out
      case measure => have := HJN.out; simp [intOf]; omega
    · skip
      have hjn : n = j := by omega
      subst hjn
      have HO1 : Hid (wr.ownsRow 0 36 6 (.slice A1 n c1) n (ys.flatMap Wpr.cells)) := Lib.hid (by
        have h := HO.out
        have hl := HLP.out.1
        rw [List.drop_of_length_le (by omega), List.append_nil] at h
        exact h)
      have HREL1 : Hid (All2 nprR l ys) := Lib.hid (by
        have h := HREL.out
        have hl := HLP.out.1
        rw [List.take_of_length_le (by omega)] at h
        exact h)
      have HYS1 := Lib.hid HYS.out
      have HFP1 := Lib.hid HFP.out
      have HYL1 : Hid (ys.length = n) := Lib.hid (by omega)
      have HBX := Lib.hid HBB.out.1
      have HBZ := Lib.hid HBB.out.2
      have HSW : Hid (w.heap.size + 2 ≤ wr.heap.size) := Lib.hid (by have h1 := HSW.out; have h2 := HFP.out.size; omega)
      have HNX1 : Hid (∀ q ∈ bk A1, q < wr.heap.size) := Lib.hid (fun q hq => own_lt HO.out q ((bk_mem A1 n c1 q).2 hq))
      clear hlt hj hc HO HREL HYS HFP HBB HNA HB7 HZ7 HFP7 HO7 hn1 HFW0
      obtain ⟨zs1, hzs1⟩ : ∃ z, z = ys := ⟨_, rfl⟩
      rw [← hzs1] at HO1 HREL1 HYS1 HYL1
      clear hzs1 hyl
      clear ys
      rename World => wb1
      go_upto_region 8 with (fail)
      have hc : wb1.cell? ⟨w.heap.size, 3, none⟩ = some (.slice A2 n2 d2) := by
        have h := HBX.out.range 3 _ rfl
        simpa using h
      go_wp2_with (at_builtin; refine Stop.mk ?_)
      refine Stop.go ?_
      refine wpList_append_lst (ok := fun w v => Wop.Ok w [] v) _ rfl (.const (.slice none 0 0)) (.tmp 36) _ rfl 78 34 64 (Try.underlying38) el_opn (by decide) (by decide) Wop.one rfl A2 n2 d2 l2 rfl (HLO.out.keep' HF.out (by simp) (fun _ _ h => Wop.Ok.keep (S' := []) h HF.out (by simp))) (by have := HNN.out; omega) ?_
      intro A4 c4 w6 hN
      have hb6 := HBX.out.keep hN.2.1 (by simp)
      have hc6 := hN.2.1.cell hc (by simp)
      have hz6 := hb6.frozen 3
      have hb7 : Blk (w6.setCell ⟨w.heap.size, 3, none⟩ (Value.slice A4 n2 c4)) w.heap.size 41 (Wba.cells ⟨upI e, t, A1, n, c1, l, A4, n2, c4, l2, A3, n3, d3, l3⟩).toArray := hb6.set 3 (Value.slice A4 n2 c4)
      have hne := own_ne hN.1 hb6 (by decide)
      have HO7 := Lib.hid (own_setCell hN.1 ⟨w.heap.size, 3, none⟩ hne (Value.slice A4 n2 c4))
      have hfs : Fr [w.heap.size] w6 (w6.setCell ⟨w.heap.size, 3, none⟩ (Value.slice A4 n2 c4)) := (Fr.refl _ w6).setCell ⟨w.heap.size, 3, none⟩ (fun _ => by simp) (Value.slice A4 n2 c4)
      have HB7 := Lib.hid hb7
      have HZ7 := Lib.hid ((HBZ.out.keep hN.2.1 (by simp)).keep hfs (by simp))
      have HFP7 : Hid (Fr [w.heap.size] wb1 (w6.setCell ⟨w.heap.size, 3, none⟩ (Value.slice A4 n2 c4))) := Lib.hid ((hN.2.1.mono (by simp)).trans hfs (fun x hx _ => hx))
      have HNA2 : Hid (∀ q ∈ bk A4, wb1.heap.size ≤ q) := Lib.hid (fun q hq => hN.2.2 q hq)
      clear hN hb6 hb7 hne hfs hc
      go_upto_region 9 with (fail)
      clear hc6 hz6
      generalize w6.setCell ⟨w.heap.size, 3, none⟩ (Value.slice A4 n2 c4) = w7 at *
      have hc7 : w7.cell? ⟨w.heap.size, 3, none⟩ = some (.slice A4 n2 c4) := by
        have h := HB7.out.range 3 _ rfl
        simpa using h
      have hn1 : (n2 : Int) ≤ 9223372036854775807 := by have := HNN.out; omega
      go_wp2_with fail
      clear hc7
      go_loopw [42] (fun i wr => ∃ (j : Nat) (ys : List Wop), j ≤ n2 ∧ i = .int .i64 j ∧ ys.length = j ∧ Hid (wr.ownsRow 0 78 34 (.slice A4 n2 c4) n2 ((ys ++ l2.drop j).flatMap Wop.cells)) ∧ Hid (All2 nopR (l2.take j) ys) ∧ Hid (∀ y ∈ ys, ∀ S0 : List Nat, (∀ q ∈ S0, q < w.heap.size + 2 ∨ q ∈ bk A4) → y.Ok wr S0) ∧ Hid (Blk wr w.heap.size 41 (Wba.cells ⟨upI e, t, A1, n, c1, l, A4, n2, c4, l2, A3, n3, d3, l3⟩).toArray ∧ Blk wr (w.heap.size + 1) 41 zeroBa) ∧ Hid (Fr [w.heap.size] wb1 wr)) (fun i _ => n2 - (intOf i).toNat)
      case atStart => exact ⟨0, [], by omega, rfl, rfl, Lib.hid (by simpa using HO7.out), Lib.hid trivial, Lib.hid (by simp), Lib.hid ⟨HB7.out, HZ7.out⟩, HFP7⟩
      case round =>
        obtain ⟨j, ys, hj, rfl, hyl, HO, HREL, HYS, HBB, HFP⟩ := hrel
        have HFW0 : Hid (Fr [] w wb1) := HF
        have HF : Hid (Fr [] w wr) := Lib.hid (HFW0.out.trans HFP.out (fun x hx hl => by simp at hx; omega))
        have HNA : Hid (∀ q ∈ bk A4, w.heap.size + 2 ≤ q ∧ wb1.heap.size ≤ q) := Lib.hid (fun q hq => by have h1 := HNA2.out q hq; have h2 := HSW.out; omega)
        have hc : wr.cell? ⟨w.heap.size, 3, none⟩ = some (.slice A4 n2 c4) := by
          have h := HBB.out.1.range 3 _ rfl
          simpa using h
        by_cases hlt : j < n2
        · skip
          obtain ⟨gA, rfl⟩ : ∃ gA, A4 = some ⟨gA, 0, none⟩ := by
            obtain ⟨g', cap, hv, _⟩ := HO.out.form (by omega)
            injection hv with h1
            exact ⟨g', h1⟩
          have hlj : j < l2.length := by rw [HLO.out.1]; exact hlt
          obtain ⟨v, hv⟩ : ∃ v, v = l2[j] := ⟨_, rfl⟩
          have hvm : v ∈ l2 := by rw [hv]; exact List.getElem_mem hlj
          have HVOK : Hid (v.Ok wr []) := Lib.hid ((HLO.out.2.1 v hvm).2.keep HF.out (by simp))
          have HLEN : Hid (∀ u ∈ ys ++ l2.drop j, (Wop.cells u).length = 34) := Lib.hid (fun u hu => by
            rcases List.mem_append.1 hu with h | h
            · exact Wop.len ((HYS.out u h [] (by simp)).h)
            · exact (HLO.out.2.1 u (List.mem_of_mem_drop h)).1)
          have HGET : Hid ((ys ++ l2.drop j)[j]? = some v) := Lib.hid (by rw [List.getElem?_append_right (by omega), hyl, Nat.sub_self, List.drop_eq_getElem_cons hlj, hv]; rfl)
          have HRNG : Hid (wr.rangeAt gA (j * 34) (Wop.cells v)) := Lib.hid (fun i u hu => by
            have h := HO.out.cells (g := gA) rfl _ _ (flat_at HLEN.out HGET.out hu)
            rw [add_at] at h
            exact h)
          have HCL : Hid ((Wop.cells v).length = 34) := Lib.hid ((HLO.out.2.1 v hvm).1)
          have HJN : Hid (j < n2) := Lib.hid hlt
          have HHC := Lib.hid hc
          have HSWR : Hid (w.heap.size + 2 ≤ wr.heap.size) := Lib.hid (by have h1 := HSW.out; have h2 := HFP.out.size; omega)
          have hj0 : (0 : Int) ≤ j := by omega
          have HGB : Hid (wb1.heap.size ≤ gA) := Lib.hid (HNA.out gA (by simp [bk])).2
          have HGA : Hid (gA < wr.heap.size ∧ w.heap.size + 2 ≤ gA) := Lib.hid ⟨own_lt HO.out gA rfl, (HNA.out gA (by simp [bk])).1⟩
          have HSET : Hid (∀ y, (ys ++ l2.drop j).set j y = (ys ++ [y]) ++ l2.drop (j + 1)) := Lib.hid (fun y => by
            rw [List.set_append_right _ _ (by omega), hyl, Nat.sub_self, List.drop_eq_getElem_cons hlj, List.set_cons_zero, List.append_assoc]
            rfl)
          have HTK : Hid (l2.take (j + 1) = l2.take j ++ [v]) := Lib.hid (by rw [List.take_succ_eq_append_getElem hlj, hv])
          clear hvm hv
          have HONEV := Lib.hid (Wop.one v)
          have HSZ0 : Hid ((Try.prog.info? 78).map (·.size) = some v.cells.toArray.size) := Lib.hid (by rw [List.size_toArray, HCL.out]; kernel_rfl)
          have HCS : Hid (v.cells.toArray.size = 34) := Lib.hid (by rw [List.size_toArray]; exact HCL.out)
          go_upto_region 13 with (first
            | (refine wpList_load_mid rfl 78 _ rfl gA (j * 34) rfl v.cells _ HRNG.out Try.underlying78 rfl (row_opg.of HCL.out).2 ?_)
            | (refine wpList_store_blk rfl 78 _ _ rfl wr.heap.size v.cells.toArray rfl rfl 78 _ (Blk.new wr _ _) HSZ0.out (by rw [HCS.out]; rfl) (all_oneCell_toArray HONEV.out) ?_
               intro w8 hb8 hf8
               have HB8 := Lib.hid hb8
               have HF8 : Hid (Fr [] wr w8) := Lib.hid (((Fr.refl [] wr).alloc _).and hf8 (by simp))
               clear hb8 hf8))
          clear hc
          have HR0 : Hid (w8.cell? ⟨wr.heap.size, 0, none⟩ = some (.int .i64 v.i)) := Lib.hid (by have h := HB8.out.range (cs := v.cells) 0 _ rfl; simpa using h)
          have HR1 : Hid (w8.cell? ⟨wr.heap.size, 1, none⟩ = some (.slice v.A v.n v.d)) := Lib.hid (by have h := HB8.out.range (cs := v.cells) 1 _ rfl; simpa using h)
          have HGB8 : Hid (wr.heap.size < w8.heap.size) := Lib.hid HB8.out.lt
          generalize hgb : wr.heap.size = gb at *
          have HGBE := Lib.hid hgb
          refine wp_region_till 7 (Fr [gb] w8) (Fr [] w8) (by kernel_rfl) (Fr.drew (Fr.refl _ w8)) (Fr.drew (Fr.refl _ w8)) (fun hA hB => ?_)
          have hwd : Hid (w8.heap.size ≤ w8.drew.heap.size) := Lib.hid (Nat.le_refl _)
          generalize w8.drew = wd at *
          refine till_run (i := 0) (v := ?_) rfl (by kernel_rfl) (by rfl) (fun _ _ _ h => h) hA hB (fun w1 hw1 => ?_) ?_
          rotate_left 1
          · skip
            go_simp
            (try (first | with_reducible rfl | (apply And.intro <;> rfl)))
          simp only [Act.put, List.setIfInBounds_toArray, List.set_cons_zero, List.set_cons_succ]
          refine till_run (i := 1) (v := ?_) rfl (by kernel_rfl) (by rfl) (fun _ _ _ h => h) hA hB (fun w1 hw1 => ?_) ?_
          rotate_left 1
          · skip
            have hcw0 := hw1.cell (HR0.out) (by first | (simp; done) | exact HNS.out | exact HNW.out | (intro hm; have hlt := HSB.out _ hm; (try dsimp only at hlt); omega))
            go_simp
            (try (first | with_reducible rfl | (apply And.intro <;> rfl)))
          simp only [Act.put, List.setIfInBounds_toArray, List.set_cons_zero, List.set_cons_succ]
          refine till_run (i := 3) (v := ?_) rfl (by kernel_rfl) (by rfl) (fun _ _ _ h => h) hA hB (fun w1 hw1 => ?_) ?_
          rotate_left 1
          · skip
            go_simp
            (try (first | with_reducible rfl | (apply And.intro <;> rfl)))
          simp only [Act.put, List.setIfInBounds_toArray, List.set_cons_zero, List.set_cons_succ]
          refine till_run (i := 4) (v := ?_) rfl (by kernel_rfl) (by rfl) (fun _ _ _ h => h) hA hB (fun w1 hw1 => ?_) ?_
          rotate_left 1
          · skip
            have hcw0 := hw1.cell (HR1.out) (by first | (simp; done) | exact HNS.out | exact HNW.out | (intro hm; have hlt := HSB.out _ hm; (try dsimp only at hlt); omega))
            go_simp
            (try (first | with_reducible rfl | (apply And.intro <;> rfl)))
          simp only [Act.put, List.setIfInBounds_toArray, List.set_cons_zero, List.set_cons_succ]
          refine till_call (i := 2) (f := ?_) (args := ?_) rfl (by kernel_rfl) (by rfl) ?_ ?_
          rotate_left 2
          · go_simp
            (try (first | with_reducible rfl | (apply And.intro <;> rfl)))
          refine (up_any v.i HVOK.out.i wd).mono ?_
          rintro e_ w9 ⟨rfl, rfl⟩
          refine ⟨_, rfl, ⟨hA, hB⟩, fun hB => ?_⟩
          simp only [Act.put, List.setIfInBounds_toArray, List.set_cons_zero, List.set_cons_succ]
          refine till_run (i := 6) (v := ?_) rfl (by kernel_rfl) (by rfl) (fun _ _ _ h => h) hA hB (fun w1 hw1 => ?_) ?_
          rotate_left 1
          · skip
            go_simp
            (try (first | with_reducible rfl | (apply And.intro <;> rfl)))
          simp only [Act.put, List.setIfInBounds_toArray, List.set_cons_zero, List.set_cons_succ]
          refine till_call (i := 5) (f := ?_) (args := ?_) rfl (by kernel_rfl) (by rfl) ?_ ?_
          rotate_left 2
          · go_simp
            (try (first | with_reducible rfl | (apply And.intro <;> rfl)))
          rw [show (256 : Int) = ((256 : Nat) : Int) from rfl]
          refine (cut_any v.A v.n v.d 256 v.p wd ((HVOK.out.p.keep HF8.out (by simp)).keep hB (by simp)) (by have := HVOK.out.n; unfold maxLen; omega) HVOK.out.d (by decide)).mono ?_
          rintro e_ w9 ⟨A9, d9, rfl, hN9⟩
          refine ⟨_, rfl, ⟨hA.go hN9.2.1 (by simp), hB.and hN9.2.1 (by simp)⟩, fun hB => ?_⟩
          replace hA := hA.go hN9.2.1 (by simp)
          have hpl : (v.p.take 256).length ≤ 256 := List.length_take_le _ _
          have hcap9 := hN9.cap
          generalize hpn : (v.p.take 256).length = pn at *
          simp only [Act.put, List.setIfInBounds_toArray, List.set_cons_zero, List.set_cons_succ]
          have hbx := HB8.out.keep hB (by simp)
          refine till_step (i := 7) rfl (by kernel_rfl) (by kernel_rfl) (by rfl) (fun K hK => ?_)
          refine wp_store_at 3 _ _ rfl gb 0 (.int .i64 (upI v.i)) rfl rfl rfl 78 _ hbx (by rw [HCS.out]; omega) (by kernel_rfl) ?_
          have hby := blk_op1 (i := upI v.i) hbx
          refine hK.out _ _ (Fr.setCells (fun _ => by simp) _ _ _ hA) (fun hA => ?_)
          clear hK K hbx
          have hf9 : Fr [gb] w9 (w9.setCells gb 0 [.int .i64 (upI v.i)]) := Fr.setCells (fun _ => by simp) _ _ _ (Fr.refl _ _)
          generalize w9.setCells gb 0 [.int .i64 (upI v.i)] = w10 at *
          simp only [Act.put, List.setIfInBounds_toArray, List.set_cons_zero, List.set_cons_succ]
          refine till_step (i := 8) rfl (by kernel_rfl) (by kernel_rfl) (by rfl) (fun K hK => ?_)
          refine wp_run (v := ?_) (w' := ?_) ?_ ?_
          rotate_left 2
          · go_simp
            (try (first | with_reducible rfl | (apply And.intro <;> rfl)))
          refine hK.out _ _ hA (fun hA => ?_)
          clear hK K
          simp only [Act.put, List.setIfInBounds_toArray, List.set_cons_zero, List.set_cons_succ]
          refine till_step (i := 9) rfl (by kernel_rfl) (by kernel_rfl) (by rfl) (fun K hK => ?_)
          refine wp_store_at 42 _ _ rfl gb 1 (.slice A9 pn d9) rfl rfl rfl 78 _ hby (by rw [List.size_toArray, show (Wop.cells ⟨upI v.i, v.A, v.n, v.d, v.p, v.h⟩).length = 34 from Wop.len HVOK.out.h]; omega) (by kernel_rfl) ?_
          have hbz := blk_op2 (A := A9) (n := pn) (d := d9) (v.p.take 256) hby
          refine hK.out _ _ (Fr.setCells (fun _ => by simp) _ _ _ hA) (fun hA => ?_)
          clear hK K hby
          have hf10 : Fr [gb] w9 (w10.setCells gb 1 [.slice A9 pn d9]) := Fr.setCells (fun _ => by simp) _ _ _ hf9
          generalize w10.setCells gb 1 [.slice A9 pn d9] = w11 at *
          simp only [Act.put, List.setIfInBounds_toArray, List.set_cons_zero, List.set_cons_succ]
          refine till_done (by kernel_rfl) ?_ _
          have HFX : Hid (Fr [] wr w11) := Lib.hid (HF8.out.trans hA (fun x hx hl => by simp at hx; omega))
          have HNL9 : Hid (∀ q ∈ bk A9, gb < q ∧ q < w9.heap.size) := Lib.hid (fun q hq => by have h1 := hN9.2.2 q hq; have h2 := HGB8.out; have h3 := hwd.out; exact ⟨by omega, hN9.lt q hq⟩)
          have HBY9 : Hid (By w11 A9 pn (v.p.take 256)) := Lib.hid (hN9.by.keep hf10 (fun a ha hm => by have h1 := HNL9.out a.block (by rw [ha]; simp [bk]); simp at hm; omega))
          have HSZ11 : Hid (w9.heap.size ≤ w11.heap.size) := Lib.hid hf10.size
          obtain ⟨y, hy⟩ : ∃ y : Wop, y = ⟨upI v.i, A9, pn, d9, v.p.take 256, v.h⟩ := ⟨_, rfl⟩
          rw [← hy] at hbz
          have HBN := Lib.hid hbz
          have HYN : Hid (∀ S0 : List Nat, (∀ q ∈ S0, q < w.heap.size + 2 ∨ q ∈ [gA]) → y.Ok w11 S0) := Lib.hid (fun S0 h0 => by
            rw [hy]
            refine ⟨upI_in _, HBY9.out, by show pn ≤ 260; omega, fun q hq hin => ?_, fun q hq => by have h1 := (HNL9.out q hq).2; have h2 := HSZ11.out; omega, HVOK.out.h, hcap9⟩
            have h1 := (HNL9.out q hq).1
            have h3 := HGA.out
            have h4 := HSWR.out
            rcases h0 q hin with h | h
            · omega
            · simp at h; omega)
          have HYR : Hid (nopR v y) := Lib.hid (by rw [hy]; exact ⟨rfl, rfl, rfl⟩)
          have hyl38 : y.cells.length = 34 := by rw [hy]; exact Wop.len HVOK.out.h
          have HO9 := Lib.hid (own_keep HO.out HFX.out (by simp))
          clear hA hB hbz hf9 hf10 hN9 hpn hpl hy hcap9
          have HPUT := Lib.hid (own_put (cells := Wop.cells) HO9.out HLEN.out (i := j) (by simp; omega) y hyl38)
          have HN1 := Lib.hid (all_oneCell_toArray (Wop.one y))
          have HTH : Hid (w11.there gA (j * 34) y.cells.toArray.size) := Lib.hid (by rw [List.size_toArray, hyl38]; exact HPUT.out.2)
          have HNS2 : Hid ((Try.prog.info? 78).map (·.size) = some y.cells.toArray.size) := Lib.hid (by rw [List.size_toArray, hyl38]; kernel_rfl)
          have HNS1 : Hid ((Try.prog.info? 78).map (·.size) = some y.cells.length) := Lib.hid (by rw [hyl38]; kernel_rfl)
          have hc11 := HFX.out.cell HHC.out (by simp)
          clear hyl38
          generalize hCN : y.cells = CN at *
          clear hCN
          have HRN : Hid (w11.rangeAt gb 0 CN) := Lib.hid HBN.out.range
          go_wp2_with (first
            | (refine wpList_load_mid rfl 78 _ rfl gb 0 rfl CN _ HRN.out Try.underlying78 rfl HNS1.out ?_)
            | (refine wpList_store_mid rfl 78 _ _ rfl gA (j * 34) CN.toArray rfl rfl HTH.out HNS2.out HN1.out ?_))
          try rw [show CN.toArray.toList = CN from rfl]
          clear hc11
          have HFS : Hid (Fr [gA] w11 (w11.setCells gA (j * 34) CN)) := Lib.hid (Fr.setCells (fun _ => by simp) _ _ _ (Fr.refl _ _))
          have HO10 : Hid ((w11.setCells gA (j * 34) CN).ownsRow 0 78 34 (.slice (some ⟨gA, 0, none⟩) n2 c4) n2 (((ys ++ [y]) ++ l2.drop (j + 1)).flatMap Wop.cells)) := Lib.hid (by have h := HPUT.out.1; rw [HSET.out] at h; exact h)
          generalize w11.setCells gA (j * 34) CN = w10 at *
          have HFW : Hid (Fr [gA] wr w10) := Lib.hid ((HFX.out.mono (by simp)).trans HFS.out (fun x hx _ => hx))
          go_roundw
          case rel =>
            refine ⟨j + 1, ys ++ [y], by have := HJN.out; omega, by go_num, by simp [hyl], HO10, ?_, ?_, Lib.hid ⟨HBB.out.1.keep HFW.out (by simp; have := HGA.out; omega), HBB.out.2.keep HFW.out (by simp; have := HGA.out; omega)⟩, Lib.hid (HFP.out.trans HFW.out (fun x hx hl => by simp at hx; have := HGB.out; omega))⟩
            · refine Lib.hid ?_
              rw [HTK.out]
              exact forall2_snoc HREL.out HYR.out
            · refine Lib.hid (fun u hu => ?_)
              rcases List.mem_append.1 hu with hu | hu
              · exact keepAll (ok := fun w S x => Wop.Ok w S x) (fun h f s => h.keep f s) (w := wr) (B4 := [gA]) (B9 := [gA]) HFW.out (fun q hq => .inl hq) (HYS.out u hu)
              · rw [List.mem_singleton.1 hu]
                exact keepAll (ok := fun w S x => Wop.Ok w S x) (fun h f s => h.keep f s) (w := w11) (B4 := [gA]) (B9 := [gA]) HFS.out (fun q hq => .inl hq) HYN.out
          case measure => have := HJN.out; simp [intOf]; omega
        · skip
          have hjn : n2 = j := by omega
          subst hjn
          have HO2 : Hid (wr.ownsRow 0 78 34 (.slice A4 n2 c4) n2 (ys.flatMap Wop.cells)) := Lib.hid (by
            have h := HO.out
            have hl := HLO.out.1
            rw [List.drop_of_length_le (by omega), List.append_nil] at h
            exact h)
          have HREL2 : Hid (All2 nopR l2 ys) := Lib.hid (by
            have h := HREL.out
            have hl := HLO.out.1
            rw [List.take_of_length_le (by omega)] at h
            exact h)
          have HYS2 := Lib.hid HYS.out
          have HFP2 := Lib.hid HFP.out
          have HYL2 : Hid (ys.length = n2) := Lib.hid (by omega)
          have HBX := Lib.hid HBB.out.1
          have HBZ := Lib.hid HBB.out.2
          have HSW : Hid (w.heap.size + 2 ≤ wr.heap.size) := Lib.hid (by have h1 := HSW.out; have h2 := HFP.out.size; omega)
          have HNX2 : Hid (∀ q ∈ bk A4, q < wr.heap.size) := Lib.hid (fun q hq => own_lt HO.out q ((bk_mem A4 n2 c4 q).2 hq))
          clear hlt hj hc HO HREL HYS HFP HBB HNA HB7 HZ7 HFP7 HO7 hn1 HFW0
          obtain ⟨zs2, hzs2⟩ : ∃ z, z = ys := ⟨_, rfl⟩
          rw [← hzs2] at HO2 HREL2 HYS2 HYL2
          clear hzs2 hyl
          clear ys
          rename World => wb2
          go_upto_region 16 with (fail)
          have hc : wb2.cell? ⟨w.heap.size, 4, none⟩ = some (.slice A3 n3 d3) := by
            have h := HBX.out.range 4 _ rfl
            simpa using h
          go_wp2_with (at_builtin; refine Stop.mk ?_)
          refine Stop.go ?_
          refine wpList_append_lst (ok := fun w v => Wtb.Ok w [] v) _ rfl (.const (.slice none 0 0)) (.tmp 65) _ rfl 81 2 32 (Try.underlying39) el_tomb (by decide) (by decide) Wtb.one rfl A3 n3 d3 l3 rfl (HLT.out.keep' HF.out (by simp) (fun _ _ h => Wtb.Ok.keep (S' := []) h HF.out (by simp))) (by have := HNN.out; omega) ?_
          intro A5 c5 w6 hN
          have hb6 := HBX.out.keep hN.2.1 (by simp)
          have hc6 := hN.2.1.cell hc (by simp)
          have hz6 := hb6.frozen 4
          have hb7 : Blk (w6.setCell ⟨w.heap.size, 4, none⟩ (Value.slice A5 n3 c5)) w.heap.size 41 (Wba.cells ⟨upI e, t, A1, n, c1, l, A4, n2, c4, l2, A5, n3, c5, l3⟩).toArray := hb6.set 4 (Value.slice A5 n3 c5)
          have hne := own_ne hN.1 hb6 (by decide)
          have HO7 := Lib.hid (own_setCell hN.1 ⟨w.heap.size, 4, none⟩ hne (Value.slice A5 n3 c5))
          have hfs : Fr [w.heap.size] w6 (w6.setCell ⟨w.heap.size, 4, none⟩ (Value.slice A5 n3 c5)) := (Fr.refl _ w6).setCell ⟨w.heap.size, 4, none⟩ (fun _ => by simp) (Value.slice A5 n3 c5)
          have HB7 := Lib.hid hb7
          have HZ7 := Lib.hid ((HBZ.out.keep hN.2.1 (by simp)).keep hfs (by simp))
          have HFP7 : Hid (Fr [w.heap.size] wb2 (w6.setCell ⟨w.heap.size, 4, none⟩ (Value.slice A5 n3 c5))) := Lib.hid ((hN.2.1.mono (by simp)).trans hfs (fun x hx _ => hx))
          have HNA3 : Hid (∀ q ∈ bk A5, wb2.heap.size ≤ q) := Lib.hid (fun q hq => hN.2.2 q hq)
          clear hN hb6 hb7 hne hfs hc
          go_upto_region 17 with (fail)
          clear hc6 hz6
          generalize w6.setCell ⟨w.heap.size, 4, none⟩ (Value.slice A5 n3 c5) = w7 at *
          have hc7 : w7.cell? ⟨w.heap.size, 4, none⟩ = some (.slice A5 n3 c5) := by
            have h := HB7.out.range 4 _ rfl
            simpa using h
          have hn1 : (n3 : Int) ≤ 9223372036854775807 := by have := HNN.out; omega
          go_wp2_with fail
          clear hc7
          go_loopw [71] (fun i wr => ∃ (j : Nat) (ys : List Wtb), j ≤ n3 ∧ i = .int .i64 j ∧ ys.length = j ∧ Hid (wr.ownsRow 0 81 2 (.slice A5 n3 c5) n3 ((ys ++ l3.drop j).flatMap Wtb.cells)) ∧ Hid (All2 ntbR (l3.take j) ys) ∧ Hid (∀ y ∈ ys, ∀ S0 : List Nat, (∀ q ∈ S0, q < w.heap.size + 2 ∨ q ∈ bk A5) → y.Ok wr S0) ∧ Hid (Blk wr w.heap.size 41 (Wba.cells ⟨upI e, t, A1, n, c1, l, A4, n2, c4, l2, A5, n3, c5, l3⟩).toArray ∧ Blk wr (w.heap.size + 1) 41 zeroBa) ∧ Hid (Fr [w.heap.size] wb2 wr)) (fun i _ => n3 - (intOf i).toNat)
          case atStart => exact ⟨0, [], by omega, rfl, rfl, Lib.hid (by simpa using HO7.out), Lib.hid trivial, Lib.hid (by simp), Lib.hid ⟨HB7.out, HZ7.out⟩, HFP7⟩
          case round =>
            obtain ⟨j, ys, hj, rfl, hyl, HO, HREL, HYS, HBB, HFP⟩ := hrel
            have HFW0 : Hid (Fr [] w wb2) := HF
            have HF : Hid (Fr [] w wr) := Lib.hid (HFW0.out.trans HFP.out (fun x hx hl => by simp at hx; omega))
            have HNA : Hid (∀ q ∈ bk A5, w.heap.size + 2 ≤ q ∧ wb2.heap.size ≤ q) := Lib.hid (fun q hq => by have h1 := HNA3.out q hq; have h2 := HSW.out; omega)
            have hc : wr.cell? ⟨w.heap.size, 4, none⟩ = some (.slice A5 n3 c5) := by
              have h := HBB.out.1.range 4 _ rfl
              simpa using h
            by_cases hlt : j < n3
            · skip
              obtain ⟨gA, rfl⟩ : ∃ gA, A5 = some ⟨gA, 0, none⟩ := by
                obtain ⟨g', cap, hv, _⟩ := HO.out.form (by omega)
                injection hv with h1
                exact ⟨g', h1⟩
              have hlj : j < l3.length := by rw [HLT.out.1]; exact hlt
              obtain ⟨v, hv⟩ : ∃ v, v = l3[j] := ⟨_, rfl⟩
              have hvm : v ∈ l3 := by rw [hv]; exact List.getElem_mem hlj
              have HVOK : Hid (v.Ok wr []) := Lib.hid ((HLT.out.2.1 v hvm).2.keep HF.out (by simp))
              have HLEN : Hid (∀ u ∈ ys ++ l3.drop j, (Wtb.cells u).length = 2) := Lib.hid (fun u hu => by
                rcases List.mem_append.1 hu with h | h
                · exact rfl
                · exact (HLT.out.2.1 u (List.mem_of_mem_drop h)).1)
              have HGET : Hid ((ys ++ l3.drop j)[j]? = some v) := Lib.hid (by rw [List.getElem?_append_right (by omega), hyl, Nat.sub_self, List.drop_eq_getElem_cons hlj, hv]; rfl)
              have HRNG : Hid (wr.rangeAt gA (j * 2) (Wtb.cells v)) := Lib.hid (fun i u hu => by
                have h := HO.out.cells (g := gA) rfl _ _ (flat_at HLEN.out HGET.out hu)
                rw [add_at] at h
                exact h)
              have HCL : Hid ((Wtb.cells v).length = 2) := Lib.hid ((HLT.out.2.1 v hvm).1)
              have HJN : Hid (j < n3) := Lib.hid hlt
              have HHC := Lib.hid hc
              have HSWR : Hid (w.heap.size + 2 ≤ wr.heap.size) := Lib.hid (by have h1 := HSW.out; have h2 := HFP.out.size; omega)
              have hj0 : (0 : Int) ≤ j := by omega
              have HGB : Hid (wb2.heap.size ≤ gA) := Lib.hid (HNA.out gA (by simp [bk])).2
              have HGA : Hid (gA < wr.heap.size ∧ w.heap.size + 2 ≤ gA) := Lib.hid ⟨own_lt HO.out gA rfl, (HNA.out gA (by simp [bk])).1⟩
              have HSET : Hid (∀ y, (ys ++ l3.drop j).set j y = (ys ++ [y]) ++ l3.drop (j + 1)) := Lib.hid (fun y => by
                rw [List.set_append_right _ _ (by omega), hyl, Nat.sub_self, List.drop_eq_getElem_cons hlj, List.set_cons_zero, List.append_assoc]
                rfl)
              have HTK : Hid (l3.take (j + 1) = l3.take j ++ [v]) := Lib.hid (by rw [List.take_succ_eq_append_getElem hlj, hv])
              clear hvm hv
              have HONEV := Lib.hid (Wtb.one v)
              have HSZ0 : Hid ((Try.prog.info? 81).map (·.size) = some v.cells.toArray.size) := Lib.hid (by rw [List.size_toArray, HCL.out]; kernel_rfl)
              have HCS : Hid (v.cells.toArray.size = 2) := Lib.hid (by rw [List.size_toArray]; exact HCL.out)
              go_upto_region 21 with (first
                | (refine wpList_load_mid rfl 81 _ rfl gA (j * 2) rfl v.cells _ HRNG.out Try.underlying81 rfl (row_tmg.of HCL.out).2 ?_)
                | (refine wpList_store_blk rfl 81 _ _ rfl wr.heap.size v.cells.toArray rfl rfl 81 _ (Blk.new wr _ _) HSZ0.out (by rw [HCS.out]; rfl) (all_oneCell_toArray HONEV.out) ?_
                   intro w8 hb8 hf8
                   have HB8 := Lib.hid hb8
                   have HF8 : Hid (Fr [] wr w8) := Lib.hid (((Fr.refl [] wr).alloc _).and hf8 (by simp))
                   clear hb8 hf8))
              clear hc
              have HGB8 : Hid (wr.heap.size < w8.heap.size) := Lib.hid HB8.out.lt
              generalize hgb : wr.heap.size = gb at *
              have HGBE := Lib.hid hgb
              have hr0 : w8.cell? ⟨gb, 0, none⟩ = some (.int .i64 v.i) := by have h := HB8.out.range (cs := v.cells) 0 _ rfl; simpa using h
              have hzr0 := HB8.out.frozen 0
              have hb9 : Blk (w8.setCell ⟨gb, 0, none⟩ (.int .i64 (upI v.i))) gb 81 (Wtb.cells ⟨upI v.i, v.A, v.n, v.d, v.l⟩).toArray := HB8.out.set 0 (.int .i64 (upI v.i))
              have HB9 := Lib.hid hb9
              have HF9 : Hid (Fr [] wr (w8.setCell ⟨gb, 0, none⟩ (.int .i64 (upI v.i)))) := Lib.hid (HF8.out.trans ((Fr.refl [gb] w8).setCell _ (fun _ => by simp) _) (fun x hx hl => by simp at hx; omega))
              clear hb9
              go_wp2_with fail
              refine (up_any v.i HVOK.out.i w8).mono ?_
              rintro e_ w9 ⟨rfl, rfl⟩
              go_upto_region 22 with (fail)
              clear hr0 hzr0
              generalize w8.setCell ⟨gb, 0, none⟩ (.int .i64 (upI v.i)) = w9 at *
              have hr1 : w9.cell? ⟨gb, 1, none⟩ = some (.slice v.A v.n v.d) := by have h := HB9.out.range 1 _ rfl; simpa using h
              go_wp2_with fail
              refine (copyDenies_any v.A v.n v.d v.l w9 (HVOK.out.l.keep' HF9.out (by simp) (fun _ _ h => h)) (by have := HVOK.out.n; omega)).mono ?_
              rintro e_ w10 ⟨A6, c6, rfl, hN⟩
              have hb10 := HB9.out.keep hN.2.1 (by simp)
              have hc10 := hN.2.1.cell hr1 (by simp)
              have hz10 := hb10.frozen 1
              have hb11 : Blk (w10.setCell ⟨gb, 1, none⟩ (Value.slice A6 v.n c6)) gb 81 (Wtb.cells ⟨upI v.i, A6, v.n, c6, v.l⟩).toArray := hb10.set 1 (Value.slice A6 v.n c6)
              have hne := own_ne hN.1 hb10 (by decide)
              have HO11 := Lib.hid (own_setCell hN.1 ⟨gb, 1, none⟩ hne (Value.slice A6 v.n c6))
              have HB11 := Lib.hid hb11
              have HF11 : Hid (Fr [] wr (w10.setCell ⟨gb, 1, none⟩ (Value.slice A6 v.n c6))) := Lib.hid ((HF9.out.and hN.2.1 (by simp)).trans ((Fr.refl [gb] w10).setCell _ (fun _ => by simp) _) (fun x hx hl => by simp at hx; omega))
              have HND : Hid (∀ q ∈ bk A6, gb < q) := Lib.hid (fun q hq => by have h1 := hN.2.2 q hq; have h2 := HB9.out.lt; omega)
              clear hN hb10 hb11 hne hr1
              go_upto_region 23 with (fail)
              clear hc10 hz10
              generalize w10.setCell ⟨gb, 1, none⟩ (Value.slice A6 v.n c6) = w11 at *
              have hc11 : w11.cell? ⟨gb, 1, none⟩ = some (.slice A6 v.n c6) := by have h := HB11.out.range 1 _ rfl; simpa using h
              obtain ⟨vn, hvn⟩ : ∃ vn, v.n = vn := ⟨_, rfl⟩
              have HVN : Hid (v.n = vn ∧ v.l.length = vn ∧ vn ≤ 5) := Lib.hid ⟨hvn, by have := HVOK.out.l.1; omega, by have := HVOK.out.n; omega⟩
              rw [hvn] at HO11 HB11 hc11 ⊢
              clear hvn
              have hn2 : (vn : Int) ≤ 9223372036854775807 := by have := HVN.out; omega
              go_wp2_with fail
              clear hc11
              go_loopw [90] (fun i wq => ∃ k : Nat, k ≤ vn ∧ i = .int .i64 k ∧ Hid (wq.ownsRow 0 83 4 (.slice A6 vn c6) vn (((v.l.take k).map ndn ++ v.l.drop k).flatMap Wdn.cells)) ∧ Hid (Blk wq gb 81 (Wtb.cells ⟨upI v.i, A6, vn, c6, v.l⟩).toArray) ∧ Hid (Fr [] wr wq)) (fun i _ => vn - (intOf i).toNat)
              case atStart => exact ⟨0, by omega, rfl, Lib.hid (by simpa using HO11.out), HB11, HF11⟩
              case round =>
                rename World => wq
                obtain ⟨k, hk, rfl, HOD, HBD, HFD⟩ := hrel
                have hcq : wq.cell? ⟨gb, 1, none⟩ = some (.slice A6 vn c6) := by have h := HBD.out.range 1 _ rfl; simpa using h
                by_cases hkt : k < vn
                · obtain ⟨gD, rfl⟩ : ∃ gD, A6 = some ⟨gD, 0, none⟩ := by
                    obtain ⟨g', cap, hv, _⟩ := HOD.out.form (by omega)
                    injection hv with h1
                    exact ⟨g', h1⟩
                  have hlk : k < v.l.length := by rw [HVN.out.2.1]; exact hkt
                  obtain ⟨u, hu⟩ : ∃ u, u = v.l[k] := ⟨_, rfl⟩
                  have HUOK : Hid (u.Ok) := Lib.hid (HVOK.out.l.2.1 u (by rw [hu]; exact List.getElem_mem hlk)).2
                  have HRND : Hid (wq.rangeAt gD (k * 4) u.cells) := Lib.hid (fun i x hx => by
                    have h := HOD.out.cells (g := gD) rfl _ _ (flat_at (cells := Wdn.cells) (k := 4) (fun _ _ => rfl) (by rw [mix_get ndn v.l hlk, ← hu]) hx)
                    rw [add_at] at h
                    exact h)
                  have HUK : Hid (u = v.l[k]) := Lib.hid hu
                  have HKN : Hid (k < vn) := Lib.hid hkt
                  have HHQ := Lib.hid hcq
                  have hk0 : (0 : Int) ≤ k := by omega
                  have HGD : Hid (gD < wq.heap.size ∧ gb < gD) := Lib.hid ⟨own_lt HOD.out gD rfl, HND.out gD (by simp [bk])⟩
                  have HCU : Hid (u.cells.length = 4) := Lib.hid rfl
                  have HONU := Lib.hid (Wdn.one u)
                  have HSU : Hid ((Try.prog.info? 83).map (·.size) = some u.cells.toArray.size) := Lib.hid (by rw [List.size_toArray, HCU.out]; kernel_rfl)
                  clear hu
                  go_upto_region 27 with (first
                    | (refine wpList_load_mid rfl 83 _ rfl gD (k * 4) rfl u.cells _ HRND.out Try.underlying83 rfl (row_dny.of HCU.out).2 ?_)
                    | (refine wpList_store_blk rfl 83 _ _ rfl wq.heap.size u.cells.toArray rfl rfl 83 _ (Blk.new wq _ _) HSU.out rfl (all_oneCell_toArray HONU.out) ?_
                       intro w12 hb12 hf12
                       have HB12 := Lib.hid hb12
                       have HF12 : Hid (Fr [] wq w12) := Lib.hid (((Fr.refl [] wq).alloc _).and hf12 (by simp))
                       clear hb12 hf12))
                  clear hcq
                  have hat : u.At w12 wq.heap.size 0 := Wdn.at_of HB12.out.range
                  have HAT := Lib.hid hat
                  have HHQ12 := Lib.hid (HF12.out.cell HHQ.out (by simp))
                  have HOD12 := Lib.hid (own_keep HOD.out HF12.out (by simp))
                  clear hat
                  generalize hgq : wq.heap.size = gq at *
                  refine wp_region_till 14 (Fr [gD] w12) (Fr [] w12) (by kernel_rfl) (Fr.drew (Fr.refl _ w12)) (Fr.drew (Fr.refl _ w12)) (fun hA hB => ?_)
                  generalize w12.drew = wd at *
                  refine till_run (i := 0) (v := ?_) rfl (by kernel_rfl) (by rfl) (fun _ _ _ h => h) hA hB (fun w1 hw1 => ?_) ?_
                  rotate_left 1
                  · skip
                    go_simp
                    (try (first | with_reducible rfl | (apply And.intro <;> rfl)))
                  simp only [Act.put, List.setIfInBounds_toArray, List.set_cons_zero, List.set_cons_succ]
                  refine till_run (i := 1) (v := ?_) rfl (by kernel_rfl) (by rfl) (fun _ _ _ h => h) hA hB (fun w1 hw1 => ?_) ?_
                  rotate_left 1
                  · skip
                    have hcw0 := hw1.cell (HHQ12.out) (by first | (simp; done) | exact HNS.out | exact HNW.out | (intro hm; have hlt := HSB.out _ hm; (try dsimp only at hlt); omega))
                    go_simp
                    (try (first | with_reducible rfl | (apply And.intro <;> rfl)))
                  simp only [Act.put, List.setIfInBounds_toArray, List.set_cons_zero, List.set_cons_succ]
                  refine till_run (i := 2) (v := ?_) rfl (by kernel_rfl) (by rfl) (fun _ _ _ h => h) hA hB (fun w1 hw1 => ?_) ?_
                  rotate_left 1
                  · skip
                    go_simp
                    (try (first | with_reducible rfl | (apply And.intro <;> rfl)))
                  simp only [Act.put, List.setIfInBounds_toArray, List.set_cons_zero, List.set_cons_succ]
                  refine till_run (i := 3) (v := ?_) rfl (by kernel_rfl) (by rfl) (fun _ _ _ h => h) hA hB (fun w1 hw1 => ?_) ?_
                  rotate_left 1
                  · skip
                    go_simp
                    (try (first | with_reducible rfl | (apply And.intro <;> rfl)))
                  simp only [Act.put, List.setIfInBounds_toArray, List.set_cons_zero, List.set_cons_succ]
                  refine till_run (i := 4) (v := ?_) rfl (by kernel_rfl) (by rfl) (fun _ _ _ h => h) hA hB (fun w1 hw1 => ?_) ?_
                  rotate_left 1
                  · skip
                    have hcw0 := hw1.cell (HAT.out.r) (by first | (simp; done) | exact HNS.out | exact HNW.out | (intro hm; have hlt := HSB.out _ hm; (try dsimp only at hlt); omega))
                    go_simp
                    (try (first | with_reducible rfl | (apply And.intro <;> rfl)))
                  simp only [Act.put, List.setIfInBounds_toArray, List.set_cons_zero, List.set_cons_succ]
                  refine till_run (i := 6) (v := ?_) rfl (by kernel_rfl) (by rfl) (fun _ _ _ h => h) hA hB (fun w1 hw1 => ?_) ?_
                  rotate_left 1
                  · skip
                    go_simp
                    (try (first | with_reducible rfl | (apply And.intro <;> rfl)))
                  simp only [Act.put, List.setIfInBounds_toArray, List.set_cons_zero, List.set_cons_succ]
                  refine till_run (i := 7) (v := ?_) rfl (by kernel_rfl) (by rfl) (fun _ _ _ h => h) hA hB (fun w1 hw1 => ?_) ?_
                  rotate_left 1
                  · skip
                    have hcw0 := hw1.cell (HAT.out.i) (by first | (simp; done) | exact HNS.out | exact HNW.out | (intro hm; have hlt := HSB.out _ hm; (try dsimp only at hlt); omega))
                    go_simp
                    (try (first | with_reducible rfl | (apply And.intro <;> rfl)))
                  simp only [Act.put, List.setIfInBounds_toArray, List.set_cons_zero, List.set_cons_succ]
                  refine till_run (i := 9) (v := ?_) rfl (by kernel_rfl) (by rfl) (fun _ _ _ h => h) hA hB (fun w1 hw1 => ?_) ?_
                  rotate_left 1
                  · skip
                    go_simp
                    (try (first | with_reducible rfl | (apply And.intro <;> rfl)))
                  simp only [Act.put, List.setIfInBounds_toArray, List.set_cons_zero, List.set_cons_succ]
                  refine till_row (i := 10) rfl (by kernel_rfl) (by rfl) _ _ rfl _ _ rfl _ (fun w1 hw1 => hw1.range (HAT.out.sig) (by first | (simp; done) | exact HNS.out | exact HNW.out | (intro hm; have hlt := HSB.out _ hm; (try dsimp only at hlt); omega))) (row_sg2) (fun _ _ _ h => h) hA hB ?_
                  simp only [Act.put, List.setIfInBounds_toArray, List.set_cons_zero, List.set_cons_succ]
                  refine till_call (i := 5) (f := ?_) (args := ?_) rfl (by kernel_rfl) (by rfl) ?_ ?_
                  rotate_left 2
                  · go_simp
                    (try (first | with_reducible rfl | (apply And.intro <;> rfl)))
                  refine (up_any u.r HUOK.out.r wd).mono ?_
                  rintro e_ w13 ⟨rfl, rfl⟩
                  refine ⟨_, rfl, ⟨hA, hB⟩, fun hB => ?_⟩
                  simp only [Act.put, List.setIfInBounds_toArray, List.set_cons_zero, List.set_cons_succ]
                  refine till_call (i := 8) (f := ?_) (args := ?_) rfl (by kernel_rfl) (by rfl) ?_ ?_
                  rotate_left 2
                  · go_simp
                    (try (first | with_reducible rfl | (apply And.intro <;> rfl)))
                  refine (up_any u.i HUOK.out.i wd).mono ?_
                  rintro e_ w13 ⟨rfl, rfl⟩
                  refine ⟨_, rfl, ⟨hA, hB⟩, fun hB => ?_⟩
                  simp only [Act.put, List.setIfInBounds_toArray, List.set_cons_zero, List.set_cons_succ]
                  refine till_call (i := 11) (f := ?_) (args := ?_) rfl (by kernel_rfl) (by rfl) ?_ ?_
                  rotate_left 2
                  · go_simp
                    (try (first | with_reducible rfl | (apply And.intro <;> rfl)))
                  refine (niceSig_any u.b u.m HUOK.out.b HUOK.out.m wd).mono ?_
                  rintro e_ w13 ⟨rfl, hf⟩
                  refine ⟨_, rfl, ⟨hA.go hf (by simp), hB.and hf (by simp)⟩, fun hB => ?_⟩
                  replace hA := hA.go hf (by simp)
                  clear hf
                  simp only [Act.put, List.setIfInBounds_toArray, List.set_cons_zero, List.set_cons_succ]
                  refine till_build (i := 12) rfl (by kernel_rfl) (by rfl) _ _ rfl _ _ (built_dn (upI u.r) (upI u.i) (upI u.b) (upI u.m)) rfl (fun _ _ _ h => h) hA hB ?_
                  simp only [Act.put, List.setIfInBounds_toArray, List.set_cons_zero, List.set_cons_succ]
                  refine till_run (i := 13) (v := ?_) rfl (by kernel_rfl) (by rfl) (fun _ _ _ h => h) hA hB (fun w1 hw1 => ?_) ?_
                  rotate_left 1
                  · skip
                    go_simp
                    (try (first | with_reducible rfl | (apply And.intro <;> rfl)))
                  simp only [Act.put, List.setIfInBounds_toArray, List.set_cons_zero, List.set_cons_succ]
                  have HO13 := Lib.hid (own_keep HOD12.out hB (by simp))
                  have HFX13 : Hid (Fr [] wq w13) := Lib.hid (HF12.out.and hB (by simp))
                  have HPUTD := Lib.hid (own_put (cells := Wdn.cells) HO13.out (fun _ _ => rfl) (i := k) (by rw [mix_len]; exact hlk) (ndn u) rfl)
                  have HSETD : Hid (((v.l.take k).map ndn ++ v.l.drop k).set k (ndn u) = (v.l.take (k + 1)).map ndn ++ v.l.drop (k + 1)) := Lib.hid (by rw [HUK.out]; exact mix_set ndn v.l hlk)
                  refine till_step (i := 14) rfl (by kernel_rfl) (by kernel_rfl) (by rfl) (fun K hK => ?_)
                  refine wp_store_mid 83 _ _ rfl gD (k * 4) (Wdn.cells (ndn u)).toArray rfl rfl HPUTD.out.2 (by kernel_rfl) (all_oneCell_toArray (Wdn.one _)) ?_
                  rw [show (Wdn.cells (ndn u)).toArray.toList = Wdn.cells (ndn u) from rfl]
                  have HFSD : Hid (Fr [gD] w13 (w13.setCells gD (k * 4) (Wdn.cells (ndn u)))) := Lib.hid (Fr.setCells (fun _ => by simp) _ _ _ (Fr.refl _ _))
                  have HOD14 : Hid ((w13.setCells gD (k * 4) (Wdn.cells (ndn u))).ownsRow 0 83 4 (.slice (some ⟨gD, 0, none⟩) vn c6) vn (((v.l.take (k + 1)).map ndn ++ v.l.drop (k + 1)).flatMap Wdn.cells)) := Lib.hid (by have h := HPUTD.out.1; rw [HSETD.out] at h; exact h)
                  generalize w13.setCells gD (k * 4) (Wdn.cells (ndn u)) = w14 at *
                  refine hK.out _ _ (hA.trans HFSD.out (fun x hx _ => hx)) (fun hA => ?_)
                  clear hK K
                  simp only [Act.put, List.setIfInBounds_toArray, List.set_cons_zero, List.set_cons_succ]
                  refine till_done (by kernel_rfl) ?_ _
                  have HFWD : Hid (Fr [gD] wq w14) := Lib.hid ((HFX13.out.mono (by simp)).trans HFSD.out (fun x hx _ => hx))
                  clear hA hB
                  go_wp2
                  go_roundw
                  case rel => exact ⟨k + 1, by have := HKN.out; omega, by go_num, HOD14, Lib.hid (HBD.out.keep HFWD.out (by simp; have := HGD.out; omega)), Lib.hid (HFD.out.trans HFWD.out (fun x hx hl => by simp at hx; have := HGD.out; omega))⟩
                  case measure => have := HKN.out; simp [intOf]; omega
                · have hkn : vn = k := by omega
                  subst hkn
                  have HODE : Hid (wq.ownsRow 0 83 4 (.slice A6 vn c6) vn ((v.l.map ndn).flatMap Wdn.cells)) := Lib.hid (by
                    have h := HOD.out
                    have hl := HVN.out.2.1
                    rw [List.take_of_length_le (by omega), List.drop_of_length_le (by omega), List.append_nil] at h
                    exact h)
                  have HFX : Hid (Fr [] wr wq) := Lib.hid HFD.out
                  obtain ⟨y, hy⟩ : ∃ y : Wtb, y = ⟨upI v.i, A6, vn, c6, v.l.map ndn⟩ := ⟨_, rfl⟩
                  have HBN : Hid (Blk wq gb 81 y.cells.toArray) := Lib.hid (by rw [hy]; exact HBD.out)
                  have HYN : Hid (∀ S0 : List Nat, (∀ q ∈ S0, q < w.heap.size + 2 ∨ q ∈ [gA]) → y.Ok wq S0) := Lib.hid (fun S0 h0 => by
                    rw [hy]
                    refine ⟨upI_in _, Lst.of_own HODE.out (by rw [List.length_map]; exact HVN.out.2.1) (fun z hz => ⟨rfl, ?_⟩), HVN.out.2.2, fun _ a ha hin => ?_⟩
                    · obtain ⟨z', _, rfl⟩ := List.mem_map.1 hz
                      exact ndn_ok z'
                    · have h1 := HND.out a.block (by have ha' : A6 = some a := ha; rw [ha']; simp [bk])
                      have h3 := HGA.out
                      have h4 := HSWR.out
                      rcases h0 _ hin with h | h
                      · omega
                      · simp at h; omega)
                  have HYR : Hid (ntbR v y) := Lib.hid (by rw [hy]; exact ⟨rfl, rfl⟩)
                  have HO9 := Lib.hid (own_keep HO.out HFX.out (by simp))
                  clear hkt hk hcq hy
                  have HPUT := Lib.hid (own_put (cells := Wtb.cells) HO9.out HLEN.out (i := j) (by simp; omega) y (show y.cells.length = 2 from rfl))
                  have HN1 := Lib.hid (all_oneCell_toArray (Wtb.one y))
                  have HTH : Hid (wq.there gA (j * 2) y.cells.toArray.size) := Lib.hid HPUT.out.2
                  have HNS2 : Hid ((Try.prog.info? 81).map (·.size) = some y.cells.toArray.size) := Lib.hid (by kernel_rfl)
                  have HNS1 : Hid ((Try.prog.info? 81).map (·.size) = some y.cells.length) := Lib.hid (by kernel_rfl)
                  have hc11 := HFX.out.cell HHC.out (by simp)
                  generalize hCN : y.cells = CN at *
                  clear hCN
                  have HRN : Hid (wq.rangeAt gb 0 CN) := Lib.hid HBN.out.range
                  go_wp2_with (first
                    | (refine wpList_load_mid rfl 81 _ rfl gb 0 rfl CN _ HRN.out Try.underlying81 rfl HNS1.out ?_)
                    | (refine wpList_store_mid rfl 81 _ _ rfl gA (j * 2) CN.toArray rfl rfl HTH.out HNS2.out HN1.out ?_))
                  try rw [show CN.toArray.toList = CN from rfl]
                  clear hc11
                  have HFS : Hid (Fr [gA] wq (wq.setCells gA (j * 2) CN)) := Lib.hid (Fr.setCells (fun _ => by simp) _ _ _ (Fr.refl _ _))
                  have HO10 : Hid ((wq.setCells gA (j * 2) CN).ownsRow 0 81 2 (.slice (some ⟨gA, 0, none⟩) n3 c5) n3 (((ys ++ [y]) ++ l3.drop (j + 1)).flatMap Wtb.cells)) := Lib.hid (by have h := HPUT.out.1; rw [HSET.out] at h; exact h)
                  generalize wq.setCells gA (j * 2) CN = w10 at *
                  have HFW : Hid (Fr [gA] wr w10) := Lib.hid ((HFX.out.mono (by simp)).trans HFS.out (fun x hx _ => hx))
                  go_roundw
                  case rel =>
                    refine ⟨j + 1, ys ++ [y], by have := HJN.out; omega, by go_num, by simp [hyl], HO10, ?_, ?_, Lib.hid ⟨HBB.out.1.keep HFW.out (by simp; have := HGA.out; omega), HBB.out.2.keep HFW.out (by simp; have := HGA.out; omega)⟩, Lib.hid (HFP.out.trans HFW.out (fun x hx hl => by simp at hx; have := HGB.out; omega))⟩
                    · refine Lib.hid ?_
                      rw [HTK.out]
                      exact forall2_snoc HREL.out HYR.out
                    · refine Lib.hid (fun u hu => ?_)
                      rcases List.mem_append.1 hu with hu | hu
                      · exact keepAll (ok := fun w S x => Wtb.Ok w S x) (fun h f s => h.keep f s) (w := wr) (B4 := [gA]) (B9 := [gA]) HFW.out (fun q hq => .inl hq) (HYS.out u hu)
                      · rw [List.mem_singleton.1 hu]
                        exact keepAll (ok := fun w S x => Wtb.Ok w S x) (fun h f s => h.keep f s) (w := wq) (B4 := [gA]) (B9 := [gA]) HFS.out (fun q hq => .inl hq) HYN.out
                  case measure => have := HJN.out; simp [intOf]; omega
            · skip
              have hjn : n3 = j := by omega
              subst hjn
              have HO3 : Hid (wr.ownsRow 0 81 2 (.slice A5 n3 c5) n3 (ys.flatMap Wtb.cells)) := Lib.hid (by
                have h := HO.out
                have hl := HLT.out.1
                rw [List.drop_of_length_le (by omega), List.append_nil] at h
                exact h)
              have HREL3 : Hid (All2 ntbR l3 ys) := Lib.hid (by
                have h := HREL.out
                have hl := HLT.out.1
                rw [List.take_of_length_le (by omega)] at h
                exact h)
              have HYS3 := Lib.hid HYS.out
              have HFP3 := Lib.hid HFP.out
              have HYL3 : Hid (ys.length = n3) := Lib.hid (by omega)
              have HBX := Lib.hid HBB.out.1
              have HBZ := Lib.hid HBB.out.2
              have HSW : Hid (w.heap.size + 2 ≤ wr.heap.size) := Lib.hid (by have h1 := HSW.out; have h2 := HFP.out.size; omega)
              have HNX3 : Hid (∀ q ∈ bk A5, q < wr.heap.size) := Lib.hid (fun q hq => own_lt HO.out q ((bk_mem A5 n3 c5 q).2 hq))
              clear hlt hj hc HO HREL HYS HFP HBB HNA HB7 HZ7 HFP7 HO7 hn1 HFW0
              obtain ⟨zs3, hzs3⟩ : ∃ z, z = ys := ⟨_, rfl⟩
              rw [← hzs3] at HO3 HREL3 HYS3 HYL3
              clear hzs3 hyl
              clear ys
              have HYSZ : Hid ((Try.prog.info? 41).map (·.size) = some (Wba.cells ⟨upI e, t, A1, n, c1, l, A4, n2, c4, l2, A5, n3, c5, l3⟩).toArray.size) := Lib.hid (by kernel_rfl)
              have HZC : Hid (zeroBa.size = (Wba.cells ⟨upI e, t, A1, n, c1, l, A4, n2, c4, l2, A5, n3, c5, l3⟩).toArray.size) := Lib.hid rfl
              have HALL : Hid ((Wba.cells ⟨upI e, t, A1, n, c1, l, A4, n2, c4, l2, A5, n3, c5, l3⟩).toArray.all (·.oneCell') = true) := Lib.hid (all_oneCell_toArray (Wba.one _))
              have HCE : Hid (Wba.cells ⟨upI e, t, A1, n, c1, l, A4, n2, c4, l2, A5, n3, c5, l3⟩ = Wba.cells ⟨upI e, t, A1, n, c1, zs1, A4, n2, c4, zs2, A5, n3, c5, zs3⟩) := Lib.hid rfl
              obtain ⟨YC, hYC⟩ : ∃ YC, YC = Wba.cells ⟨upI e, t, A1, n, c1, l, A4, n2, c4, l2, A5, n3, c5, l3⟩ := ⟨_, rfl⟩
              rw [← hYC] at HYSZ HZC HALL HCE HBX
              clear hYC
              go_wp2_with (first
                | (refine wpList_load_row rfl 41 _ rfl w.heap.size rfl 41 YC.toArray _ _ HBX.out Try.underlying41 rfl HYSZ.out ?_)
                | (refine wpList_store_blk rfl 41 _ _ rfl (w.heap.size + 1) YC.toArray rfl rfl 41 zeroBa HBZ.out HYSZ.out HZC.out HALL.out ?_
                   intro w9 hb9 hf9
                   have HB9 := Lib.hid hb9
                   have HF9 := Lib.hid hf9
                   clear hb9 hf9))
              have hz1 := HFP1.out.size
              have hz2 := HFP2.out.size
              have hz0 := HSW0.out
              have hfa3 : Fr [w.heap.size, w.heap.size + 1] wr w9 := HF9.out.mono (by intro k hk _; simp at hk; simp [hk])
              have hfa2 : Fr [w.heap.size, w.heap.size + 1] wb2 w9 := (HFP3.out.mono (by intro k hk _; simp at hk; simp [hk])).trans hfa3 (fun x hx _ => hx)
              have hfa1 : Fr [w.heap.size, w.heap.size + 1] wb1 w9 := (HFP2.out.mono (by intro k hk _; simp at hk; simp [hk])).trans hfa2 (fun x hx _ => hx)
              have ho1 := own_keep HO1.out hfa1 (fun q hq hm => by have h1 := HNA1.out q ((bk_mem A1 n c1 q).1 hq); simp at hm; omega)
              have ho2 := own_keep HO2.out hfa2 (fun q hq hm => by have h1 := HNA2.out q ((bk_mem A4 n2 c4 q).1 hq); simp at hm; omega)
              have ho3 := own_keep HO3.out hfa3 (fun q hq hm => by have h1 := HNA3.out q ((bk_mem A5 n3 c5 q).1 hq); simp at hm; omega)
              refine bodyPost_ret (v := .agg YC.toArray) (results_cell_row Try.results10 _ _ (w.heap.size + 1) 41 YC.toArray _ _ rfl HB9.out Try.underlying41 rfl HYSZ.out) rfl ⟨⟨upI e, t, A1, n, c1, zs1, A4, n2, c4, zs2, A5, n3, c5, zs3⟩, by rw [HCE.out]; rfl, fun S0 h0 => ⟨upI_in _, HXT.out, ?_, HNN.out.1, ?_, ?_, HNN.out.2.1, ?_, ?_, HNN.out.2.2, ?_⟩, ⟨rfl, rfl, HREL1.out, HREL2.out, HREL3.out⟩, ⟨rfl, rfl, rfl, own_cap HO1.out⟩, ?_⟩
              · exact Lst.of_own ho1 HYL1.out (fun u hu => ⟨rfl, (HYS1.out u hu (w.heap.size :: (w.heap.size + 1) :: S0) (fun q hq => by simp at hq; rcases hq with h | h | h; exact .inl (by omega); exact .inl (by omega); exact .inl (by have := h0 q h; omega))).keep (S' := S0) (hfa1.mono (by intro k hk _; simp at hk; rcases hk with h | h <;> simp [h])) (fun q hq _ => by simp [hq])⟩)
              · intro _ a ha hin
                have h1 := HNA1.out a.block (by have ha' : A1 = some a := ha; rw [ha']; simp [bk])
                have h2 := h0 _ hin
                omega
              · refine Lst.of_own ho2 HYL2.out (fun u hu => ?_)
                have hyo := (HYS2.out u hu (w.heap.size :: (w.heap.size + 1) :: S0) (fun q hq => by simp at hq; rcases hq with h | h | h; exact .inl (by omega); exact .inl (by omega); exact .inl (by have := h0 q h; omega))).keep (S' := S0) (hfa2.mono (by intro k hk _; simp at hk; rcases hk with h | h <;> simp [h])) (fun q hq _ => by simp [hq])
                exact ⟨Wop.len hyo.h, hyo⟩
              · intro _ a ha hin
                have h1 := HNA2.out a.block (by have ha' : A4 = some a := ha; rw [ha']; simp [bk])
                have h2 := h0 _ hin
                omega
              · exact Lst.of_own ho3 HYL3.out (fun u hu => ⟨rfl, (HYS3.out u hu (w.heap.size :: (w.heap.size + 1) :: S0) (fun q hq => by simp at hq; rcases hq with h | h | h; exact .inl (by omega); exact .inl (by omega); exact .inl (by have := h0 q h; omega))).keep (S' := S0) (hfa3.mono (by intro k hk _; simp at hk; rcases hk with h | h <;> simp [h])) (fun q hq _ => by simp [hq])⟩)
              · intro _ a ha hin
                have h1 := HNA3.out a.block (by have ha' : A5 = some a := ha; rw [ha']; simp [bk])
                have h2 := h0 _ hin
                omega
              · exact HF.out.and HF9.out (by simp)
end Go.Proofs.Ytbkhkhippcjdgaa

namespace Go.Proofs.Ytbkhkhippcjdgaa
set_option maxRecDepth 100000
def Ui (v : Int) : Prop := 0 ≤ v ∧ v < 1099511627776
theorem upI_U (v : Int) : Ui (upI v) := by unfold Ui upI; omega
theorem pI_enc {v : Int} (h : Ui v) (R : List UInt8) (b : Bool) : pI (encI v ++ R, b) = (v, (R, b)) := by
  obtain ⟨h1, h2⟩ := h
  obtain ⟨e1, e2, e3⟩ := in_enc (n := v.toNat) (m := 1099511627776) (by omega) (by omega) R
  unfold pI encI
  simp only [e1, e2, e3]
  rw [Int.toNat_of_nonneg h1]
theorem pC_enc {n : Nat} (h : n ≤ 100) (R : List UInt8) (b : Bool) : pC (encI (n : Int) ++ R, b) = (n, (R, b)) := by
  obtain ⟨e1, e2, e3⟩ := in_enc (n := n) (m := 100) (by omega) (by omega) R
  unfold pC encI
  simp only [Int.toNat_natCast, e1, e2, e3]
theorem pN_enc {t : Nat} (h : t < 18446744073709551616) (R : List UInt8) (b : Bool) : pN (enc t ++ R, b) = (t, (R, b)) := by
  obtain ⟨e1, e2, e3⟩ := rd_enc h R
  unfold pN
  simp only [e1, e2, e3]
theorem pH_enc {l : List UInt8} (h : l.length = 32) (R : List UInt8) (b : Bool) : pH (l ++ R, b) = (l, (R, b)) := by
  have h1 : ¬ (l ++ R).length < 32 := by rw [List.length_append]; omega
  have h2 : (l ++ R).take 32 = l := by rw [← h]; exact List.take_left
  have h3 : (l ++ R).drop 32 = R := by rw [← h]; exact List.drop_left
  unfold pH hashOf took tookL tookB
  simp only [if_neg h1, h2, h3]
  rw [h, List.drop_of_length_le (by simp), List.append_nil]
theorem pR_enc {p : List UInt8} (h : p.length ≤ 256) (R : List UInt8) (b : Bool) : pR (enc p.length ++ (p ++ R), b) = (p, (R, b)) := by
  obtain ⟨e1, e2, e3⟩ := rw_enc (b := p) (m := 256) (by omega) (by omega) R
  rw [List.append_assoc] at e1 e2 e3
  unfold pR
  simp only [e1, e2, e3]
theorem p2_enc {c s : Int} (hc : Ui c) (hs : Ui s) (R : List UInt8) (b : Bool) : p2 (encI c ++ (encI s ++ R), b) = ((c, s), (R, b)) := by
  unfold p2
  simp only [pI_enc hc, pI_enc hs]
theorem pRep_enc {α β : Type} {p : Ps → β × Ps} {full : α → List UInt8} {con : α → β} {l : List α} {b : Bool} (h : ∀ v ∈ l, ∀ R : List UInt8, p (full v ++ R, b) = (con v, (R, b))) (R : List UInt8) :
    ∀ k, k ≤ l.length → pRep p k (l.flatMap full ++ R, b) = ((l.take k).map con, ((l.drop k).flatMap full ++ R, b)) := by
  intro k
  induction k with
  | zero => intro _; simp [pRep]
  | succ k ih =>
    intro hk
    unfold pRep
    rw [ih (by omega)]
    have hd : l.drop k = l[k] :: l.drop (k + 1) := List.drop_eq_getElem_cons (by omega)
    have hc : p ((l.drop k).flatMap full ++ R, b) = (con l[k], ((l.drop (k + 1)).flatMap full ++ R, b)) := by
      rw [hd, List.flatMap_cons, List.append_assoc]
      exact h _ (List.getElem_mem _) _
    simp only [hc]
    rw [List.take_succ_eq_append_getElem (by omega), List.map_append]
    rfl
theorem pL_enc {α β : Type} {p : Ps → β × Ps} {full : α → List UInt8} {con : α → β} {l : List α} {b : Bool} (hl : l.length ≤ 100) (h : ∀ v ∈ l, ∀ R : List UInt8, p (full v ++ R, b) = (con v, (R, b))) (R : List UInt8) :
    pL p (listL full l ++ R, b) = (l.map con, (R, b)) := by
  unfold pL listL
  rw [List.append_assoc, pC_enc hl]
  simp only
  rw [pRep_enc h R l.length (Nat.le_refl _)]
  simp
structure Wst.U (x : Wst) : Prop where
  r : Ui x.r
  c : Ui x.c
  s : Ui x.s
  h : x.h.length = 32
  t : x.t < 18446744073709551616
  b : Ui x.b
  m : Ui x.m
structure Wcm.U (x : Wcm) : Prop where
  c : Ui x.c
  s : Ui x.s
  h : x.h.length = 32
  n : Ui x.n
  b : Ui x.b
  m : Ui x.m
structure Wdn.U (x : Wdn) : Prop where
  r : Ui x.r
  i : Ui x.i
  b : Ui x.b
  m : Ui x.m
structure Wce.U (x : Wce) : Prop where
  k : x.k.U
  n : x.l.length ≤ 100
  l : ∀ v ∈ x.l, v.U
structure Wpr.U (x : Wpr) : Prop where
  r : Ui x.r
  e : Ui x.e
  t : x.t < 18446744073709551616
  n : x.l.length ≤ 100
  l : ∀ v ∈ x.l, v.U
  b : Ui x.b
  m : Ui x.m
structure Wop.U (x : Wop) : Prop where
  i : Ui x.i
  n : x.n = x.p.length
  p : x.p.length ≤ 256
  h : x.h.length = 32
structure Wtb.U (x : Wtb) : Prop where
  i : Ui x.i
  n : x.l.length ≤ 100
  l : ∀ v ∈ x.l, v.U
structure Wba.U (x : Wba) : Prop where
  e : Ui x.e
  t : x.t < 18446744073709551616
  n : x.l.length ≤ 100
  l : ∀ v ∈ x.l, v.U
  n2 : x.l2.length ≤ 100
  l2 : ∀ v ∈ x.l2, v.U
  n3 : x.l3.length ≤ 100
  l3 : ∀ v ∈ x.l3, v.U
theorem pSt_enc {x : Wst} (h : x.U) (R : List UInt8) (b : Bool) : pSt (x.full ++ R, b) = (x, (R, b)) := by
  obtain ⟨r, c, s, hh, t, sb, m⟩ := x
  unfold pSt Wst.full Wst.bare nmL sgL
  simp only [List.append_assoc, pI_enc h.r, p2_enc h.c h.s, pH_enc h.h, pN_enc h.t, p2_enc h.b h.m]
theorem pCm_enc {x : Wcm} (h : x.U) (R : List UInt8) (b : Bool) : pCm (x.full ++ R, b) = (x, (R, b)) := by
  obtain ⟨c, s, hh, n, sb, m⟩ := x
  unfold pCm Wcm.full nmL sgL
  simp only [List.append_assoc, p2_enc h.c h.s, pH_enc h.h, pI_enc h.n, p2_enc h.b h.m]
theorem pDn_enc {x : Wdn} (h : x.U) (R : List UInt8) (b : Bool) : pDn (x.full ++ R, b) = (x, (R, b)) := by
  obtain ⟨r, i, sb, m⟩ := x
  unfold pDn Wdn.full Wdn.bare sgL
  simp only [List.append_assoc, pI_enc h.r, pI_enc h.i, p2_enc h.b h.m]
theorem pCe_enc {x : Wce} (h : x.U) (R : List UInt8) (b : Bool) : pCe (x.full ++ R, b) = (x.con, (R, b)) := by
  have hl := pL_enc (con := id) (b := b) h.n (fun v hv R => pSt_enc (h.l v hv) R b)
  unfold pCe Wce.full Wce.con
  simp only [List.append_assoc, pCm_enc h.k, hl, List.map_id]
theorem pPr_enc {x : Wpr} (h : x.U) (R : List UInt8) (b : Bool) : pPr (x.full ++ R, b) = (x.con, (R, b)) := by
  have hl := pL_enc (con := Wce.con) (b := b) h.n (fun v hv R => pCe_enc (h.l v hv) R b)
  unfold pPr Wpr.full Wpr.bare Wpr.con sgL
  simp only [List.append_assoc, pI_enc h.r, pI_enc h.e, pN_enc h.t, hl, p2_enc h.b h.m]
theorem pOp_enc {x : Wop} (h : x.U) (R : List UInt8) (b : Bool) : pOp (x.full ++ R, b) = (x.con, (R, b)) := by
  unfold pOp Wop.full Wop.con
  rw [h.n]
  simp only [List.append_assoc, pI_enc h.i, pR_enc h.p, pH_enc h.h]
theorem pTb_enc {x : Wtb} (h : x.U) (R : List UInt8) (b : Bool) : pTb (x.full ++ R, b) = (x.con, (R, b)) := by
  have hl := pL_enc (con := id) (b := b) h.n (fun v hv R => pDn_enc (h.l v hv) R b)
  unfold pTb Wtb.full Wtb.con
  simp only [List.append_assoc, pI_enc h.i, hl, List.map_id]
theorem pBa_enc {x : Wba} (h : x.U) (R : List UInt8) (b : Bool) : pBa (x.full ++ R, b) = (x.con, (R, b)) := by
  have hl := pL_enc (con := Wpr.con) (b := b) h.n (fun v hv R => pPr_enc (h.l v hv) R b)
  have hl2 := pL_enc (con := Wop.con) (b := b) h.n2 (fun v hv R => pOp_enc (h.l2 v hv) R b)
  have hl3 := pL_enc (con := Wtb.con) (b := b) h.n3 (fun v hv R => pTb_enc (h.l3 v hv) R b)
  unfold pBa Wba.full Wba.con
  simp only [List.append_assoc, pI_enc h.e, pN_enc h.t, hl, hl2, hl3]
theorem pW_ok {α : Type} {z : α} {p : Ps → α × Ps} {s : Ps} {x : α} {R : List UInt8} (h : p s = (x, (R, false))) : pW z p s = (x, (R, false)) := by
  unfold pW
  rw [h]
  rfl
theorem nst_U {x : Wst} (h : x.Ok) : (nst x).U := ⟨upI_U _, upI_U _, upI_U _, h.h, h.t, upI_U _, upI_U _⟩
theorem ncm_U {x : Wcm} (h : x.Ok) : (ncm x).U := ⟨upI_U _, upI_U _, h.h, upI_U _, upI_U _, upI_U _⟩
theorem ndn_U (x : Wdn) : (ndn x).U := ⟨upI_U _, upI_U _, upI_U _, upI_U _⟩
theorem nce_U {x y : Wce} {w wy : World} {S : List Nat} (hx : x.Ok w S) (h : nceR x y) : y.U :=
  ⟨by rw [h.1]; exact ncm_U hx.k, by rw [h.2, List.length_map, hx.l.1]; have := hx.n; omega, fun v hv => by
    rw [h.2] at hv
    obtain ⟨u, hu, rfl⟩ := List.mem_map.1 hv
    exact nst_U (hx.l.2.1 u hu).2⟩
end Go.Proofs.Ytbkhkhippcjdgaa

namespace Go.Proofs.Ytbkhkhippcjdgaa
open Go.RowKit
set_option maxRecDepth 100000
theorem exec_eql {P : Program} {ev : Operand → Value} {o : Oper} {w : World} (ty r : TypeId) (x y : Operand) (ho : o.op = .binOp .eql ty x y r) (C D : Array Value) (hx : ev x = .agg C) (hy : ev y = .agg D) (b : Bool)
    (hg : P.eqGuardType P.depth ty = false) (hq : (Op.equalIn 10000 ty (.agg C) (.agg D)).run P w = .ok b w) : (execOp ev o).run P w = .ok (.value (.bool b)) w := by
  have hq' : (Op.equal ty (.agg C) (.agg D)).run P w = .ok b w := hq
  unfold execOp
  simp only [ho, hx, hy]
  simp [eqGuard, binOp, hg, hq', Result.andThen]
theorem eql_at {P : Program} {l : List Oper} {Q : Exit → Act → World → Prop} {md : Region.Mode} {S : World → Prop} {fuel : Nat} {listed : Array Bool} {a : Act} {w : World}
    {i : Nat} {oi : Oper} (hi : nthOp l i = some oi) (ht : takeOk md l.toArray listed i = true) (hw : Region.wanted oi (yielded l.toArray a.tmps) = true)
    (ty r : TypeId) (x y : Operand) (ho : oi.op = .binOp .eql ty x y r) (C D : Array Value) (hx : a.eval x = .agg C) (hy : a.eval y = .agg D) (b : Bool) (hg : P.eqGuardType P.depth ty = false)
    (hq : ∀ w, (Op.equalIn 10000 ty (.agg C) (.agg D)).run P w = .ok b w)
    (hQ : ∀ c a w, Q (.panic c) (a.put oi.dst (.bool b)) w → Q (.panic c) a w) (hS : S w)
    (h : wpAnyH P md l.toArray Q S fuel (listed.setIfInBounds i true) (a.put oi.dst (.bool b)) w) : wpAnyH P md l.toArray Q S (fuel + 1) listed a w :=
  run_at hi ht hw hQ hS (fun _ _ => exec_eql ty r x y ho C D hx hy b hg (hq _)) h
theorem exec_neq {P : Program} {ev : Operand → Value} {o : Oper} {w : World} (ty r : TypeId) (x y : Operand) (ho : o.op = .binOp .neq ty x y r) (C D : Array Value) (hx : ev x = .agg C) (hy : ev y = .agg D) (b : Bool)
    (hg : P.eqGuardType P.depth ty = false) (hq : (Op.equalIn 10000 ty (.agg C) (.agg D)).run P w = .ok b w) : (execOp ev o).run P w = .ok (.value (.bool (!b))) w := by
  have hq' : (Op.equal ty (.agg C) (.agg D)).run P w = .ok b w := hq
  unfold execOp
  simp only [ho, hx, hy]
  simp [eqGuard, binOp, hg, hq', Result.andThen]
theorem neq_at {P : Program} {l : List Oper} {Q : Exit → Act → World → Prop} {md : Region.Mode} {S : World → Prop} {fuel : Nat} {listed : Array Bool} {a : Act} {w : World}
    {i : Nat} {oi : Oper} (hi : nthOp l i = some oi) (ht : takeOk md l.toArray listed i = true) (hw : Region.wanted oi (yielded l.toArray a.tmps) = true)
    (ty r : TypeId) (x y : Operand) (ho : oi.op = .binOp .neq ty x y r) (C D : Array Value) (hx : a.eval x = .agg C) (hy : a.eval y = .agg D) (b : Bool) (hg : P.eqGuardType P.depth ty = false)
    (hq : ∀ w, (Op.equalIn 10000 ty (.agg C) (.agg D)).run P w = .ok b w)
    (hQ : ∀ c a w, Q (.panic c) (a.put oi.dst (.bool (!b))) w → Q (.panic c) a w) (hS : S w)
    (h : wpAnyH P md l.toArray Q S fuel (listed.setIfInBounds i true) (a.put oi.dst (.bool (!b))) w) : wpAnyH P md l.toArray Q S (fuel + 1) listed a w :=
  run_at hi ht hw hQ hS (fun _ _ => exec_neq ty r x y ho C D hx hy b hg (hq _)) h
end Go.Proofs.Ytbkhkhippcjdgaa
