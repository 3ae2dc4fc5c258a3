/- Texts that the proof stands on: gavelref01's Reader: promises. (written by gen_rq3.py) | gavelref01's Reader: batches. (written by gen_rq4.py) | gavelref01's reader: a vote. | The writers and the text of an ack: they are a stamp's (written by gen_ack.py out of XPut). | Package part: its writers of votes, places, proposals, what was decided. (written by gen_mp.py) | A message as a value; what msgs.put writes of each kind. (written by gen_mg.py) | msgs.Pack of any message. | A message of nothing but its kind; msgs.Unpack of bytes of no kind. | msgs.get, kind by kind. (written by gen_mh.py) | msgs.get of the kinds that store more than a part. (written by gen_mi.py) | A message as it is read; msgs.get of any kind. (written by gen_mj.py) -/
import Derived.Test.YtdenpfcgghangaaGreatKQ2
import Derived.Laws.ResultCell
set_option linter.unusedSimpArgs false
set_option linter.unusedVariables false
set_option maxRecDepth 100000

namespace Go.Proofs.YtdenpfcgghangaaGreat
open Go.RowKit
set_option maxRecDepth 100000
structure GQ {α β : Type} (e : TypeId) (K : Nat) (cells : α → List Value) (ok : World → List Nat → α → Prop) (con : α → β) (N0 : Nat) (w : World) (A : Option Addr) (n c : Nat) (l : List α) (r : List β) (bad : Bool) : Prop where
 own : w.ownsRow 0 e K (.slice A n c) n (l.flatMap cells)
 len : l.length = n
 con : bad = false → l.map con = r
 few : n ≤ 100
 new : ∀ q ∈ bk A, N0 ≤ q
 ok : ∀ v ∈ l, ∀ S0 : List Nat, (∀ q ∈ S0, q < N0 ∨ q ∈ bk A) → ok w S0 v
section
variable {α β : Type} {e : TypeId} {K : Nat} {cells : α → List Value} {ok : World → List Nat → α → Prop} {con : α → β} {N0 : Nat} {w W : World} {A : Option Addr} {n c : Nat} {l : List α} {r : List β} {bad : Bool}
theorem GQ.nil (w : World) : GQ e K cells ok con N0 w none 0 0 [] [] bad := ⟨⟨by simp, .inl ⟨rfl, rfl⟩⟩, rfl, fun _ => rfl, by omega, by simp [bk], by simp⟩
theorem GQ.lt (h : GQ e K cells ok con N0 w A n c l r bad) : ∀ q ∈ bk A, q < w.heap.size := fun q hq => own_lt h.own q ((bk_mem A n c q).2 hq)
theorem GQ.keep {S : List Nat} (h : GQ e K cells ok con N0 w A n c l r bad) (hkeep : ∀ {w W : World} {S S' : List Nat} {x : α}, ok w S x → Fr S w W → (∀ k ∈ S', k < w.heap.size → k ∈ S) → ok W S' x)
  (hf : Fr S w W) (hS : ∀ q ∈ S, q < N0) : GQ e K cells ok con N0 W A n c l r bad :=
 ⟨own_keep h.own hf (fun q hq hm => by have h1 := h.new q ((bk_mem A n c q).1 hq); have h2 := hS q hm; omega), h.len, h.con, h.few, h.new, fun v hv S0 h0 =>
  hkeep (h.ok v hv (S ++ S0) (fun q hq => by
   rcases List.mem_append.1 hq with hq | hq
   · exact .inl (hS q hq)
   · exact h0 q hq)) (hf.mono (fun k hk _ => by simp [hk])) (fun k hk _ => by simp [hk])⟩
theorem GQ.fail {r' : List β} (h : GQ e K cells ok con N0 w A n c l r bad) : GQ e K cells ok con N0 w A n c l r' true := ⟨h.own, h.len, (fun h => by cases h), h.few, h.new, h.ok⟩
theorem GQ.step {w5 w9 : World} {g c9 : Nat} {A9 : Option Addr} {y : α} {y' : β} {bad' : Bool} (h : GQ e K cells ok con N0 w A n c l r bad) (hkeep : ∀ {w W : World} {S S' : List Nat} {x : α}, ok w S x → Fr S w W → (∀ k ∈ S', k < w.heap.size → k ∈ S) → ok W S' x)
  (hn : n < 100) (hg : g < N0) (hN : N0 ≤ w.heap.size) (hf5 : Fr [g] w w5)
  (hy : ∀ S0 : List Nat, (∀ q ∈ S0, q < w.heap.size) → ok w5 S0 y) (hc : bad' = false → bad = false ∧ con y = y')
  (ho9 : w9.ownsRow 0 e K (.slice A9 (n + 1) c9) (n + 1) (l.flatMap cells ++ cells y)) (hf9 : Fr (bk A) w5 w9) (hb9 : ∀ q ∈ bk A9, q ∈ bk A ∨ w5.heap.size ≤ q) :
  GQ e K cells ok con N0 w9 A9 (n + 1) c9 (l ++ [y]) (r ++ [y']) bad' := by
 have hs := hf5.size
 have hfg : Fr (g :: bk A) w5 w9 := hf9.mono (fun q hq _ => by simp [hq])
 have hfr : Fr (g :: bk A) w w9 := (hf5.mono (fun q hq _ => by simp at hq; simp [hq])).trans hfg (fun q hq _ => hq)
 refine ⟨by rw [List.flatMap_append, List.flatMap_singleton]; exact ho9, by rw [List.length_append, h.len]; rfl, fun hb => ?_, by omega, fun q hq => ?_, fun u hu S0 h0 => ?_⟩
 · obtain ⟨h1, h2⟩ := hc hb
   rw [List.map_append, h.con h1, ← h2]; rfl
 · rcases hb9 q hq with h1 | h1
   · exact h.new q h1
   · omega
 · have h0' : ∀ q ∈ S0, q < N0 ∨ q ∈ g :: bk A9 := fun q hq => (h0 q hq).imp id (fun h => by simp [h])
   rcases List.mem_append.1 hu with hu | hu
   · refine keepAll (ok := ok) (fun h f s => hkeep h f s) (w := w) (B4 := g :: bk A) (B9 := g :: bk A9) hfr (fun q hq => ?_) (fun S1 h1 => h.ok u hu S1 (fun q hq => ?_)) S0 h0'
     · rcases List.mem_cons.1 hq with h | h
       · exact .inl (by simp [h])
       · exact (hb9 q h).imp (fun h => by simp [h]) (fun h => by omega)
     · rcases h1 q hq with h | h
       · exact .inl h
       · rcases List.mem_cons.1 h with h | h
         · exact .inl (by omega)
         · exact .inr h
   · rw [List.mem_singleton.1 hu]
     refine keepAll (ok := ok) (fun h f s => hkeep h f s) (w := w5) (B4 := g :: bk A) (B9 := g :: bk A9) hfg (fun q hq => ?_) (fun S1 h1 => hy S1 (fun q hq => ?_)) S0 h0'
     · rcases List.mem_cons.1 hq with h | h
       · exact .inl (by simp [h])
       · exact (hb9 q h).imp (fun h => by simp [h]) id
     · rcases h1 q hq with h2 | h2
       · omega
       · rcases List.mem_cons.1 h2 with h3 | h3
         · omega
         · exact h.lt q h3
theorem GQ.lst (h : GQ e K cells ok con N0 w A n c l r bad) (hlen : ∀ w S v, ok w S v → (cells v).length = K) {S0 : List Nat} (h0 : ∀ q ∈ S0, q < N0) : Lst K cells (fun w v => ok w S0 v) w A n l ∧ (0 < n → ∀ a, A = some a → ¬ a.block ∈ S0) :=
 ⟨Lst.of_own h.own h.len (fun v hv => by have h1 := h.ok v hv S0 (fun q hq => .inl (h0 q hq)); exact ⟨hlen _ _ _ h1, h1⟩), fun _ a ha hin => by
  have h1 := h.new a.block (by simp [bk, ha])
  have h2 := h0 _ hin
  omega⟩
end
theorem qitem_of {α : Type} {f : FuncId} {cells : α → List Value} {p : Ps → α × Ps} {ok : α → Prop} (h : ∀ (w : World) (F : List Nat) (g : Nat) (s : Ps), Qs w F g s → Calls Tryz.prog f #[.pointer (some ⟨g, 0, none⟩)] w fun e w' => e = .returned (.agg (cells (p s).1).toArray) ∧ Qs w' F g (p s).2 ∧ Fr [g] w w') (ho : ∀ s, ok (p s).1) :
  QItem f cells (fun _ _ v => ok v) id p := fun w F g s hr => (h w F g s hr).mono fun _ _ ⟨h1, h2, h3⟩ => ⟨_, h1, fun _ => rfl, fun _ _ => ho s, h2, h3⟩
theorem pCe_stop : (pCe ([], true)).2 = ([], true) := rfl
theorem pDn_stop : (pDn ([], true)).2 = ([], true) := rfl
theorem pOp_stop : (pOp ([], true)).2 = ([], true) := rfl
theorem pTb_stop : (pTb ([], true)).2 = ([], true) := rfl
theorem pPr_stop : (pPr ([], true)).2 = ([], true) := rfl
theorem built_prQ (r e : Int) (t : Nat) : Tryz.prog.built 40 [(0, .int .i64 r), (1, .int .i64 e), (2, .int .u64 (t : Int))] = some #[.int .i64 r, .int .i64 e, .int .u64 (t : Int), .slice none 0 0, .int .i64 0, .int .i64 0] := by kernel_rfl
theorem inB_bad (R : List UInt8) (m : Int) : inB R m true = true := by
 unfold inB
 cases dec R with
 | none => rfl
 | some p => simp only; split <;> rfl
theorem pI_bad {s : Ps} (h : (pI s).2.2 = false) : s.2 = false := by
 obtain ⟨R, b⟩ := s
 cases b
 · rfl
 · have h1 : inB R 1099511627776 true = false := h
   rw [inB_bad] at h1
   cases h1
theorem p2_bad {s : Ps} (h : (p2 s).2.2 = false) : s.2 = false := pI_bad (pI_bad h)
set_option maxHeartbeats 4000000 in
theorem qPromise_any : QItem 51 Wpr.cells (fun w S v => v.Li w S) Wpr.con pPr := by
 intro w F g s hr
 obtain ⟨wa, hwa⟩ : ∃ wa, wa = w.alloc (Obj.cells (Wpr.cells ⟨0, 0, 0, none, 0, 0, [], 0, 0⟩).toArray 40) := ⟨_, rfl⟩
 have hf0 : Fr [] w wa := by rw [hwa]; exact (Fr.refl [] w).alloc _
 have HB : Hid (Blk wa w.heap.size 40 (Wpr.cells ⟨0, 0, 0, none, 0, 0, [], 0, 0⟩).toArray) := Lib.hid (by rw [hwa]; exact Blk.new _ _ _)
 have HR := Lib.hid (hr.fr hf0 (by simp) (by simp))
 have HFL : Hid (∀ k ∈ F, k < w.heap.size) := Lib.hid hr.lt
 have HG : Hid (g < w.heap.size) := Lib.hid hr.gt
 have HF0 := Lib.hid hf0
 have HWA := Lib.hid hwa
 clear hwa hf0 hr
 go_enter Tryz.func51, Tryz.ntmps51
 go_upto_region 1 with (fail)
 change Code.wp _ _ _ _ (w.alloc (Obj.cells (Wpr.cells ⟨0, 0, 0, none, 0, 0, [], 0, 0⟩).toArray 40))
 rw [← HWA.out]
 go_wp2_with fail
 refine (qInt_any HR.out).mono ?_
 rintro e_ w1 ⟨rfl, h1, h2⟩
 have HR1 := Lib.hid h1
 have HF1 : Hid (Fr [g] wa w1) := Lib.hid h2
 clear h1 h2
 go_wp2_with fail
 refine (qInt_any HR1.out).mono ?_
 rintro e_ w2 ⟨rfl, h1, h2⟩
 have HR2 := Lib.hid h1
 have HF2 : Hid (Fr [g] wa w2) := Lib.hid (HF1.out.trans h2 (fun x hx _ => hx))
 clear h1 h2
 go_wp2_with fail
 refine (qNum_any HR2.out).mono ?_
 rintro e_ w3 ⟨rfl, h1, h2⟩
 have HR3 := Lib.hid h1
 have HF3 : Hid (Fr [g] wa w3) := Lib.hid (HF2.out.trans h2 (fun x hx _ => hx))
 clear h1 h2
 have HPC : Hid (pPr s = (⟨(pI s).1, (pI (pI s).2).1, (pN (pI (pI s).2).2).1, (pL pCe (pN (pI (pI s).2).2).2).1, (p2 (pL pCe (pN (pI (pI s).2).2).2).2).1.1, (p2 (pL pCe (pN (pI (pI s).2).2).2).2).1.2⟩, (p2 (pL pCe (pN (pI (pI s).2).2).2).2).2)) := Lib.hid rfl
 have HIN : Hid (i64In (pI s).1 ∧ i64In (pI (pI s).2).1 ∧ (pN (pI (pI s).2).2).1 < 18446744073709551616) := Lib.hid ⟨pI_in _, pI_in _, pN_lt _⟩
 have HB3 := Lib.hid (HB.out.keep HF3.out (by have := HG.out; simp; omega))
 clear HR1 HR2
 generalize (pN (pI (pI s).2).2).2 = s0 at *
 generalize (pN (pI (pI s).2).2).1 = t0 at *
 generalize (pI (pI s).2).1 = e0 at *
 generalize (pI s).1 = r0 at *
 have HBU := Lib.hid (built_prQ r0 e0 t0)
 have HBN : Hid (Blk (w3.alloc (Obj.cells (Wpr.cells ⟨0, 0, 0, none, 0, 0, [], 0, 0⟩).toArray 40)) w3.heap.size 40 (Wpr.cells ⟨0, 0, 0, none, 0, 0, [], 0, 0⟩).toArray) := Lib.hid (Blk.new _ _ _)
 obtain ⟨CV, hCV⟩ : ∃ CV, (#[.int .i64 r0, .int .i64 e0, .int .u64 (t0 : Int), .slice none 0 0, .int .i64 0, .int .i64 0] : Array Value) = CV := ⟨_, rfl⟩
 have HC0 : Hid (CV.size = 6) := Lib.hid (by rw [← hCV]; rfl)
 have HC1 : Hid (CV.all (·.oneCell') = true) := Lib.hid (by rw [← hCV]; exact all_oneCell_toArray (Wpr.one ⟨r0, e0, t0, none, 0, 0, [], 0, 0⟩))
 have HCT : Hid ((Tryz.prog.info? 40).map (·.size) = some CV.size) := Lib.hid (by rw [HC0.out]; kernel_rfl)
 rw [hCV] at HBU
 have HCV := Lib.hid hCV
 clear hCV
 go_upto_region 2 with (first
  | (refine wpList_builtg rfl 40 _ rfl _ _ HBU.out rfl ?_)
  | (refine wpList_store_blk rfl 40 _ _ rfl w3.heap.size CV rfl rfl 40 (Wpr.cells ⟨0, 0, 0, none, 0, 0, [], 0, 0⟩).toArray HBN.out HCT.out (by rw [HC0.out]; rfl) HC1.out ?_
     intro w4 hb hf
     have HX4 := Lib.hid hb
     have HF34 : Hid (Fr [] w3 w4) := Lib.hid (((Fr.refl [] w3).alloc _).and hf (by simp))
     clear hb hf))
 obtain ⟨gx, hgx⟩ : ∃ gx, gx = w3.heap.size := ⟨_, rfl⟩
 rw [← hgx] at HX4 ⊢
 have HGX : Hid (w.heap.size < gx ∧ gx < w4.heap.size ∧ w3.heap.size ≤ gx) := Lib.hid (by have h1 := HB.out.lt; have h2 := HF3.out.size; have h3 := HX4.out.lt; omega)
 have HR4 := Lib.hid (HR3.out.fr HF34.out (by simp) (by simp))
 have HB4 := Lib.hid (HB3.out.keep HF34.out (by simp))
 have HF4 : Hid (Fr [g] w w4) := Lib.hid (((HF0.out.mono (T := [g]) (by simp)).trans HF3.out (fun x hx _ => hx)).trans (HF34.out.mono (by simp)) (fun x hx _ => hx))
 rw [← HCV.out] at HX4
 clear hgx HBN HBU HC0 HC1 HCT HCV HF34 HF1 HF2 HF3 HF0 HR HR3 HB HB3 HWA
 go_wp2_with fail
 refine (qCount_any HR4.out).mono ?_
 rintro e_ wN ⟨rfl, h1, h2⟩
 have HRn := Lib.hid h1
 have HFn : Hid (Fr [g] w4 wN) := Lib.hid h2
 have HXn := Lib.hid (HX4.out.keep h2 (by have h1 := HGX.out; have h2 := HG.out; simp; omega))
 have HPL : Hid (pL pCe s0 = pRep pCe (pC s0).1 (pC s0).2) := Lib.hid rfl
 have hn := pC_le s0
 clear h1 h2
 generalize (pC s0).1 = n at *
 generalize (pC s0).2 = s1 at *
 have HN := Lib.hid hn
 have HSZ : Hid (w.heap.size ≤ wN.heap.size ∧ gx < wN.heap.size) := Lib.hid (by have h1 := HGX.out; have h2 := HFn.out.size; omega)
 clear hn HR4 HX4
 go_upto_block 0 with (fail)
 go_cut [5] (fun s_ wx => ∃ (A : Option Addr) (m c : Nat) (ys : List Wce), Hid (GQ 35 38 Wce.cells (fun w S v => v.Li w S) Wce.con wN.heap.size wx A m c ys (pL pCe s0).1 (pL pCe s0).2.2) ∧ Hid (Blk wx gx 40 #[.int .i64 r0, .int .i64 e0, .int .u64 (t0 : Int), .slice A m c, .int .i64 0, .int .i64 0]) ∧ Hid (Qs wx F g (pL pCe s0).2) ∧ Hid (Fr [g, gx] wN wx))
 case first =>
  go_wp2_with fail
  go_loopw [5] (fun i wr => ∃ (k : Nat) (A : Option Addr) (c : Nat) (ys : List Wce), k ≤ n ∧ i = .int .i64 k ∧ Hid (GQ 35 38 Wce.cells (fun w S v => v.Li w S) Wce.con wN.heap.size wr A k c ys (pRep pCe k s1).1 (pRep pCe k s1).2.2) ∧ Hid (Blk wr gx 40 #[.int .i64 r0, .int .i64 e0, .int .u64 (t0 : Int), .slice A k c, .int .i64 0, .int .i64 0]) ∧ Hid (Qs wr F g (pRep pCe k s1).2) ∧ Hid (Fr [g, gx] wN wr)) (fun i _ => n - (intOf i).toNat)
  case atStart => exact ⟨0, none, 0, [], by omega, rfl, Lib.hid (GQ.nil _), HXn, HRn, Lib.hid (Fr.refl _ _)⟩
  case round =>
   obtain ⟨k, A4, c4, ys, hk, rfl, HQQ, HX, HQ, HF⟩ := hrel
   have hkS : (k : Int) + 1 ≤ 1000 := by have := HN.out; omega
   have hk0 : (0 : Int) ≤ k := by omega
   obtain ⟨R, bd, hst⟩ : ∃ R bd, (pRep pCe k s1).2 = (R, bd) := ⟨_, _, rfl⟩
   have HST := Lib.hid hst
   rw [hst] at HQ HQQ
   by_cases hlt : k < n
   · have HKN : Hid (k ≤ n) := Lib.hid (by omega)
     have HKL : Hid (k < n) := Lib.hid hlt
     obtain ⟨A', n', c', hA', hb', hy', hnc'⟩ := HQ.out.rd
     have hbc := hb'.cell 1
     simp at hbc
     clear hA' hb' hy' hnc' hst
     cases bd
     · have hkn : (k : Int) < n := by omega
       have HXC : Hid (wr.cell? ⟨gx, 3, none⟩ = some (.slice A4 k c4)) := Lib.hid (by have h := HX.out.cell 3; simpa using h)
       have HNS : Hid (¬ gx ∈ g :: bk A4) := Lib.hid (by have h1 := HGX.out; have h2 := HG.out; have h3 := HSZ.out; intro hm; rcases List.mem_cons.1 hm with h | h; omega; have := HQQ.out.new _ h; omega)
       have HPE : Hid (pRep pCe (k + 1) s1 = ((pRep pCe k s1).1 ++ [(pCe (R, false)).1], (pCe (R, false)).2)) := Lib.hid (by
        show ((pRep pCe k s1).1 ++ [(pCe (pRep pCe k s1).2).1], (pCe (pRep pCe k s1).2).2) = _
        rw [HST.out])
       clear hlt
       go_upto_region 6 with (fail)
       clear hbc
       refine wp_region_till 7 (Fr (g :: gx :: bk A4) wr) (Fr (g :: bk A4) wr) (by kernel_rfl) (Fr.drew (Fr.refl _ wr)) (Fr.drew (Fr.refl _ wr)) (fun hA hB => ?_)
       have HWD : Hid (Fr [] wr wr.drew) := Lib.hid (Fr.drew (Fr.refl [] wr))
       have HQd := Lib.hid (HQ.out.fr (Fr.drew (Fr.refl [] wr)) (by simp) (by simp))
       have HQQd := Lib.hid (HQQ.out.keep Wce.Li.keep (Fr.drew (Fr.refl [] wr)) (by simp))
       have HSd : Hid (wr.drew.heap.size = wr.heap.size ∧ wN.heap.size ≤ wr.heap.size) := Lib.hid ⟨rfl, HF.out.size⟩
       have HXd := Lib.hid (HX.out.keep (Fr.drew (Fr.refl [] wr)) (by simp))
       have HFd : Hid (Fr [g, gx] wN wr.drew) := Lib.hid (Fr.drew HF.out)
       generalize wr.drew = wd at *
       refine till_run (i := 0) (v := ?_) rfl (by kernel_rfl) (by rfl) (fun _ _ _ h => h) hA hB (fun w1 hw1 => ?_) ?_
       rotate_left 1
       · skip
         go_simp
         try first | with_reducible rfl | apply And.intro <;> rfl
       simp only [xPa, xPb, xPc, xPd, xPe]
       refine till_run (i := 1) (v := ?_) rfl (by kernel_rfl) (by rfl) (fun _ _ _ h => h) hA hB (fun w1 hw1 => ?_) ?_
       rotate_left 1
       · skip
         have hcw0 := hw1.cell (HXC.out) (by first | (simp; done) | exact HNS.out)
         go_simp
         try first | with_reducible rfl | apply And.intro <;> rfl
       simp only [xPa, xPb, xPc, xPd, xPe]
       refine till_run (i := 2) (v := ?_) rfl (by kernel_rfl) (by rfl) (fun _ _ _ h => h) hA hB (fun w1 hw1 => ?_) ?_
       rotate_left 1
       · skip
         go_simp
         try first | with_reducible rfl | apply And.intro <;> rfl
       simp only [xPa, xPb, xPc, xPd, xPe]
       refine till_call (i := 3) (f := ?_) (args := ?_) rfl (by kernel_rfl) (by rfl) ?_ ?_
       rotate_left 2
       · go_simp
         try first | with_reducible rfl | apply And.intro <;> rfl
       refine (qCert_any wd F g _ HQd.out).mono ?_
       rintro e_ w5 ⟨y, rfl, hyc, hyok, h1, h2⟩
       have HQ5 := Lib.hid h1
       have HF5 : Hid (Fr [g] wd w5) := Lib.hid h2
       have HYC := Lib.hid hyc
       have HYOK := Lib.hid hyok
       refine ⟨_, rfl, ⟨hA.trans h2 (fun x hx _ => by simp at hx; simp [hx]), hB.trans h2 (fun x hx _ => by simp at hx; simp [hx])⟩, fun hB => ?_⟩
       replace hA := hA.trans h2 (fun x hx _ => by simp at hx; simp [hx])
       have HD : Hid ((Wce.cells y).length = 38) := Lib.hid (Wce.len (hyok [] (by simp)).k.h)
       have HD1 : Hid (∀ u ∈ Wce.cells y, u.oneCell' = true) := Lib.hid (Wce.one y)
       have HO5 := Lib.hid (own_keep HQQd.out.own h2 (fun q hq hm => by have h1 := HQQd.out.new q ((bk_mem A4 k c4 q).1 hq); have h2 := HG.out; have h3 := HSZ.out; simp at hm; omega))
       have HX5 := Lib.hid (HXd.out.keep h2 (by have h1 := HGX.out; have h2 := HG.out; simp; omega))
       clear h1 h2 hyc hyok
       obtain ⟨D, hD⟩ : ∃ D, Wce.cells y = D := ⟨_, rfl⟩
       have HDY := Lib.hid hD
       rw [hD] at HD HD1 ⊢
       clear hD
       simp only [xPa, xPb, xPc, xPd, xPe]
       refine till_stepQ (i := 4) rfl (by kernel_rfl) (by rfl) (fun K hK => ?_)
       refine wp_build_one 38 35 _ rfl Tryz.underlying38 D 96 (by rw [HD.out]; exact el_cert) rfl (by rw [HD.out]; decide) (by rw [HD.out]; decide) ?_
       refine hK.out _ _ (hA.alloc _) (hB.alloc _) (fun hA hB => ?_)
       clear hK K
       simp only [xPa, xPb, xPc, xPd, xPe]
       refine till_stepQ (i := 5) rfl (by kernel_rfl) (by rfl) (fun K hK => ?_)
       refine wp_append_oneq _ _ 38 35 rfl Tryz.underlying38 38 96 el_cert (by decide) 0 (.slice A4 k c4) k _ D rfl (HO5.out.alloc _) (Nat.zero_le _) HD.out HD1.out w5.heap.size 35 rfl (Blk.new _ _ _) (by have := HKL.out; have := HN.out; omega) (by decide) ?_
       intro A9 c9 w9 ho9 hf9 hb9
       rw [bk_own] at hf9
       have HF9 : Hid (Fr (bk A4) w5 w9) := Lib.hid ((((Fr.refl [] w5).alloc _).mono (by simp)).trans hf9 (fun x hx _ => hx))
       have HB9 : Hid (∀ q ∈ bk A9, q ∈ bk A4 ∨ w5.heap.size ≤ q) := Lib.hid (by
        intro q hq
        rw [← bk_own A9 (k + 1) c9] at hq
        rcases hb9 with h | h
        · rw [h, bk_own] at hq; exact .inl hq
        · rw [h] at hq; simp at hq; exact .inr (by omega))
       have HO9 := Lib.hid ho9
       refine hK.out _ _ (hA.trans hf9 (fun x hx _ => by simp [hx])) (hB.trans hf9 (fun x hx _ => by simp [hx])) (fun hA hB => ?_)
       clear hK K ho9 hf9 hb9
       have HX9 := Lib.hid (HX5.out.keep HF9.out (fun hm => HNS.out (by simp [hm])))
       have HGS := Lib.hid (HQQd.out.step Wce.Li.keep (y' := (pCe (R, false)).1) (bad' := (pCe (R, false)).2.2) (by have := HKL.out; have := HN.out; omega) (by have := HSZ.out; have := HG.out; omega) (by have := HSd.out; omega) HF5.out HYOK.out (fun hb => ⟨rfl, HYC.out hb⟩) (by have h := HO9.out; rw [← HDY.out] at h; exact h) HF9.out HB9.out)
       simp only [xPa, xPb, xPc, xPd, xPe]
       refine till_stepQ (i := 6) rfl (by kernel_rfl) (by rfl) (fun K hK => ?_)
       refine wp_run (v := ?_) (w' := ?_) ?_ ?_
       rotate_left 2
       · go_simp
         try first | with_reducible rfl | apply And.intro <;> rfl
       refine hK.out _ _ hA hB (fun hA hB => ?_)
       clear hK K
       simp only [xPa, xPb, xPc, xPd, xPe]
       refine till_step (i := 7) rfl (by kernel_rfl) (by kernel_rfl) (by rfl) (fun K hK => ?_)
       refine wp_store_at 38 _ _ rfl gx 3 (.slice A9 (k + 1) c9) rfl rfl rfl 40 _ HX9.out (by simp) (by kernel_rfl) ?_
       have hb7 : Blk (w9.setCells gx 3 [.slice A9 (k + 1) c9]) gx 40 #[.int .i64 r0, .int .i64 e0, .int .u64 (t0 : Int), .slice A9 (k + 1) c9, .int .i64 0, .int .i64 0] := Blk.mid_at [.slice A9 (k + 1) c9] [.slice A4 k c4] [.int .i64 r0, .int .i64 e0, .int .u64 (t0 : Int)] [.int .i64 0, .int .i64 0] 3 rfl rfl _ _ rfl rfl HX9.out
       have HB7 := Lib.hid hb7
       have HF7 : Hid (Fr [gx] w9 (w9.setCells gx 3 [.slice A9 (k + 1) c9])) := Lib.hid (Fr.setCells (fun _ => by simp) _ _ _ (Fr.refl _ _))
       refine hK.out _ _ (hA.trans HF7.out (fun q hq _ => by simp at hq; simp [hq])) (fun hA => ?_)
       clear hK K hb7
       generalize w9.setCells gx 3 [.slice A9 (k + 1) c9] = w10 at *
       simp only [xPa, xPb, xPc, xPd, xPe]
       refine till_done (by kernel_rfl) ?_ _
       have HG10 := Lib.hid (HGS.out.keep Wce.Li.keep HF7.out (by intro q hq; simp at hq; subst hq; exact HSZ.out.2))
       have HFF : Hid (Fr [g, gx] wN w10) := Lib.hid (((HFd.out.trans HF5.out (fun x hx _ => by simp at hx; simp [hx])).trans HF9.out (fun x hx hl => by have := HQQd.out.new x hx; omega)).trans HF7.out (fun x hx _ => by simp at hx; simp [hx]))
       have HQ10 := Lib.hid ((HQ5.out.fr HF9.out (fun hm => by have h1 := HQQd.out.new _ hm; have h2 := HG.out; have h3 := HSZ.out; omega) (fun q hq hm => by have h1 := HQQd.out.new q hm; have h2 := HFL.out q hq; have h3 := HSZ.out; omega)).fr HF7.out (by have h1 := HGX.out; have h2 := HG.out; simp; omega) (fun q hq hm => by have h1 := HGX.out; have h2 := HFL.out q hq; simp at hm; omega))
       clear hA
       go_wp2
       go_roundw
       case rel => exact ⟨k + 1, A9, c9, ys ++ [y], by have := HKL.out; omega, by go_num, by rw [HPE.out]; exact HG10, HB7, by rw [HPE.out]; exact HQ10, HFF⟩
       case measure => have := HKL.out; simp [intOf]; omega
     · skip
       have HEND : Hid (pRep pCe n s1 = ((pRep pCe n s1).1, ([], true))) := Lib.hid (by
        have h3 : R = [] := HQ.out.bz rfl
        have h2 := HST.out
        rw [h3] at h2
        have h4 := pRep_stop pCe_stop h2 (n - k)
        rw [show k + (n - k) = n by have := HKL.out; omega] at h4
        rw [← h4])
       have HRE : Hid (R = []) := Lib.hid (HQ.out.bz rfl)
       rw [HRE.out] at HQ
       have HGF : Hid (GQ 35 38 Wce.cells (fun w S v => v.Li w S) Wce.con wN.heap.size wr A4 k c4 ys (pL pCe s0).1 (pL pCe s0).2.2) := Lib.hid (by rw [HPL.out, HEND.out]; exact HQQ.out.fail)
       have HQF : Hid (Qs wr F g (pL pCe s0).2) := Lib.hid (by rw [HPL.out, HEND.out]; exact HQ.out)
       have hkn : (k : Int) < n := by omega
       clear hlt
       go_wp2_with fail
       all_goals
        go_meet
        exact ⟨A4, k, c4, ys, HGF, HX, HQF, HF⟩
   · have hkn : n = k := by omega
     subst hkn
     have HGF : Hid (GQ 35 38 Wce.cells (fun w S v => v.Li w S) Wce.con wN.heap.size wr A4 n c4 ys (pL pCe s0).1 (pL pCe s0).2.2) := Lib.hid (by rw [HPL.out, HST.out]; exact HQQ.out)
     have HQF : Hid (Qs wr F g (pL pCe s0).2) := Lib.hid (by rw [HPL.out, HST.out]; exact HQ.out)
     clear hlt hk hst
     go_wp2_with fail
     all_goals
      go_meet
      exact ⟨A4, n, c4, ys, HGF, HX, HQF, HF⟩
 case rest =>
  obtain ⟨A4, m4, c4, ys, HGQ, HX, HQ, HF⟩ := hcut
  rename World => wx
  have HBx : Hid (Blk wx w.heap.size 40 (Wpr.cells ⟨0, 0, 0, none, 0, 0, [], 0, 0⟩).toArray) := Lib.hid ((HB4.out.keep HFn.out (by have := HG.out; simp; omega)).keep HF.out (by have := HG.out; have := HGX.out; simp; omega))
  clear HPL HN HRn HXn
  go_wp2_with fail
  refine (qSig_any HQ.out).mono ?_
  rintro e_ w6 ⟨rfl, h1, h2⟩
  have HR6 := Lib.hid h1
  have HF6 : Hid (Fr [g] wx w6) := Lib.hid h2
  have HX6 := Lib.hid (HX.out.keep h2 (by have h1 := HGX.out; have h2 := HG.out; simp; omega))
  have HB6 := Lib.hid (HBx.out.keep h2 (by have h2 := HG.out; simp; omega))
  have HGQ6 := Lib.hid (HGQ.out.keep Wce.Li.keep h2 (by intro q hq; simp at hq; subst hq; have := HSZ.out; have := HG.out; omega))
  have HIB : Hid (i64In (p2 (pL pCe s0).2).1.1 ∧ i64In (p2 (pL pCe s0).2).1.2) := Lib.hid ⟨pI_in _, pI_in _⟩
  have HBD : Hid ((p2 (pL pCe s0).2).2.2 = false → (pL pCe s0).2.2 = false) := Lib.hid p2_bad
  clear h1 h2 HQ HX HGQ HBx
  generalize (p2 (pL pCe s0).2).1.1 = b0 at *
  generalize (p2 (pL pCe s0).2).1.2 = mk0 at *
  generalize (p2 (pL pCe s0).2).2 = s9 at *
  have hb7 : Blk (w6.setCells gx 4 [.int .i64 b0, .int .i64 mk0]) gx 40 (Wpr.cells ⟨r0, e0, t0, A4, m4, c4, ys, b0, mk0⟩).toArray := Blk.mid_at [.int .i64 b0, .int .i64 mk0] [.int .i64 0, .int .i64 0] [.int .i64 r0, .int .i64 e0, .int .u64 (t0 : Int), .slice A4 m4 c4] [] 4 rfl rfl _ _ rfl rfl HX6.out
  have HF7 : Hid (Fr [gx] w6 (w6.setCells gx 4 [.int .i64 b0, .int .i64 mk0])) := Lib.hid (Fr.setCells (fun _ => by simp) _ _ _ (Fr.refl _ _))
  obtain ⟨V, hV⟩ : ∃ V, Wpr.cells ⟨r0, e0, t0, A4, m4, c4, ys, b0, mk0⟩ = V := ⟨_, rfl⟩
  have HVL : Hid (V.length = 6) := Lib.hid (by rw [← hV]; rfl)
  have HVO : Hid (V.toArray.all (·.oneCell') = true) := Lib.hid (by rw [← hV]; exact all_oneCell_toArray (Wpr.one _))
  rw [hV] at hb7
  have HB7 := Lib.hid hb7
  have HVV := Lib.hid hV
  have HVT : Hid ((Tryz.prog.info? 40).map (·.size) = some V.toArray.size) := Lib.hid (by rw [List.size_toArray, HVL.out]; kernel_rfl)
  have HBW := Lib.hid (HB6.out.keep HF7.out (by have h1 := HGX.out; simp; omega))
  have HR7 := Lib.hid (HR6.out.fr HF7.out (by have h1 := HGX.out; have h2 := HG.out; simp; omega) (fun q hq hm => by have h1 := HGX.out; have h2 := HFL.out q hq; simp at hm; omega))
  have HGQ7 := Lib.hid (HGQ6.out.keep Wce.Li.keep HF7.out (by intro q hq; simp at hq; subst hq; exact HSZ.out.2))
  have HTH : Hid (w6.there gx 4 2) := Lib.hid (HX6.out.there 4 2 (by simp))
  clear hb7 hV HB6 HR6 HGQ6
  go_wp2_with (first
   | (refine wpList_store_mid rfl 27 _ _ rfl gx 4 #[.int .i64 b0, .int .i64 mk0] rfl rfl HTH.out (by kernel_rfl) (by kernel_rfl) ?_
      rw [show (#[Value.int .i64 b0, .int .i64 mk0] : Array Value).toList = [.int .i64 b0, .int .i64 mk0] from rfl])
   | (refine wpList_row rfl 40 _ rfl _ _ rfl _ HB7.out.range (row_prm.of HVL.out) ?_)
   | (refine wpList_store_blk rfl 40 _ _ rfl w.heap.size V.toArray rfl rfl 40 (Wpr.cells ⟨0, 0, 0, none, 0, 0, [], 0, 0⟩).toArray HBW.out HVT.out (by simp only [List.size_toArray]; rw [HVL.out]; rfl) HVO.out ?_
      intro w9 hb hf
      have HB9 := Lib.hid hb
      have HF9 := Lib.hid hf
      clear hb hf))
  have HGQ9 := Lib.hid (HGQ7.out.keep Wce.Li.keep HF9.out (by intro q hq; simp at hq; subst hq; have := HSZ.out; have := HGX.out; omega))
  refine bodyPost_ret (v := .agg V.toArray) (results_cell_row Tryz.results51 _ _ w.heap.size 40 V.toArray _ _ rfl HB9.out Tryz.underlying40 rfl HVT.out) rfl ⟨⟨r0, e0, t0, A4, m4, c4, ys, b0, mk0⟩, by rw [HVV.out], ?_, fun S0 h0 => ?_, ?_, ?_⟩
  · rw [HPC.out]
    intro hbad
    have h1 := HGQ9.out.con (HBD.out hbad)
    unfold Wpr.con
    simp only [h1]
  · obtain ⟨h1, h2⟩ := HGQ9.out.lst (fun _ _ _ h => Wce.len h.k.h) (S0 := S0) (fun q hq => by have h1 := h0 q hq; have h2 := HSZ.out; omega)
    exact ⟨HIN.out.1, HIN.out.2.1, HIN.out.2.2, h1, HGQ9.out.few, h2, HIB.out.1, HIB.out.2⟩
  · rw [HPC.out]
    exact HR7.out.fr HF9.out (by have := HG.out; simp; omega) (fun q hq hm => by have := HFL.out q hq; simp at hm; omega)
  · exact ((((HF4.out.trans HFn.out (fun x hx _ => hx)).trans HF.out (fun x hx hl => by have h1 := HGX.out; simp at hx; simp; omega)).trans HF6.out (fun x hx _ => hx)).trans HF7.out (fun x hx hl => by have h1 := HGX.out; simp at hx; omega)).trans HF9.out (fun x hx hl => by simp at hx; omega)
end Go.Proofs.YtdenpfcgghangaaGreat

namespace Go.Proofs.YtdenpfcgghangaaGreat
open Go.RowKit
set_option maxRecDepth 100000
theorem pC_badQ {s : Ps} (h : (pC s).2.2 = false) : s.2 = false := by
 obtain ⟨R, b⟩ := s
 cases b
 · rfl
 · have h1 : inB R 100 true = false := h
   rw [inB_bad] at h1
   cases h1
theorem pH_badQ {s : Ps} (h : (pH s).2.2 = false) : s.2 = false := by
 obtain ⟨R, b⟩ := s
 cases b
 · rfl
 · have h1 : tookB R true = false := h
   unfold tookB at h1
   split at h1 <;> cases h1
theorem pR_badQ {s : Ps} (h : (pR s).2.2 = false) : s.2 = false := by
 obtain ⟨R, b⟩ := s
 cases b
 · rfl
 · have h1 : rwB R 256 true = false := h
   unfold rwB at h1
   cases hd : dec R with
   | none => rw [hd] at h1; cases h1
   | some p => rw [hd] at h1; simp only at h1; split at h1 <;> cases h1
theorem pRep_badQ {α : Type} {p : Ps → α × Ps} (hp : ∀ {s}, (p s).2.2 = false → s.2 = false) : ∀ (n : Nat) {s : Ps}, (pRep p n s).2.2 = false → s.2 = false
 | 0, _, h => h
 | n + 1, _, h => pRep_badQ hp n (hp h)
theorem pL_badQ {α : Type} {p : Ps → α × Ps} (hp : ∀ {s}, (p s).2.2 = false → s.2 = false) {s : Ps} (h : (pL p s).2.2 = false) : s.2 = false := pC_badQ (pRep_badQ hp _ h)
theorem pOp_badQ {s : Ps} (h : (pOp s).2.2 = false) : s.2 = false := pI_bad (pR_badQ (pH_badQ h))
theorem pDn_badQ {s : Ps} (h : (pDn s).2.2 = false) : s.2 = false := pI_bad (pI_bad (p2_bad h))
theorem pTb_badQ {s : Ps} (h : (pTb s).2.2 = false) : s.2 = false := pI_bad (pL_badQ pDn_badQ h)
theorem qOpeningI_any : QItem 54 Wop.cells (fun w S v => v.Ok w S) Wop.con pOp := fun w F g s hr => (qOpening_any w F g s hr).mono fun _ _ ⟨v, h1, h2, h3, h4, h5⟩ => ⟨v, h1, fun _ => h2, h3, h4, h5⟩
theorem qDenyI_any : QItem 55 Wdn.cells (fun _ _ v => v.Ok) id pDn := qitem_of (fun _ _ _ _ hr => qDeny_any hr) pDn_ok
theorem built_baQ (e : Int) (t : Nat) : Tryz.prog.built 45 [(0, .int .i64 e), (1, .int .u64 (t : Int))] = some #[.int .i64 e, .int .u64 (t : Int), .slice none 0 0, .slice none 0 0, .slice none 0 0] := by kernel_rfl
theorem built_tbQ (i : Int) : Tryz.prog.built 132 [(0, .int .i64 i)] = some #[.int .i64 i, .slice none 0 0] := by kernel_rfl
theorem row_tmQ : RowTy Tryz.prog 132 2 := ⟨by kernel_rfl, by kernel_rfl⟩
def zBaL : List Value := [.int .i64 0, .int .u64 0, .slice none 0 0, .slice none 0 0, .slice none 0 0]
def zTbL : List Value := [.int .i64 0, .slice none 0 0]
set_option maxHeartbeats 8000000 in
theorem qBatch_any : QItem 52 Wba.cells (fun w S v => v.Li w S) Wba.con pBa := by
 intro w F g s hr
 obtain ⟨wa, hwa⟩ : ∃ wa, wa = w.alloc (Obj.cells zBaL.toArray 45) := ⟨_, rfl⟩
 have hf0 : Fr [] w wa := by rw [hwa]; exact (Fr.refl [] w).alloc _
 have HB : Hid (Blk wa w.heap.size 45 zBaL.toArray) := Lib.hid (by rw [hwa]; exact Blk.new _ _ _)
 have HR := Lib.hid (hr.fr hf0 (by simp) (by simp))
 have HFL : Hid (∀ k ∈ F, k < w.heap.size) := Lib.hid hr.lt
 have HG : Hid (g < w.heap.size) := Lib.hid hr.gt
 have HF0 := Lib.hid hf0
 have HWA := Lib.hid hwa
 clear hwa hf0 hr
 go_enter Tryz.func52, Tryz.ntmps52
 go_upto_region 1 with (fail)
 change Code.wp _ _ _ _ (w.alloc (Obj.cells zBaL.toArray 45))
 rw [← HWA.out]
 go_wp2_with fail
 refine (qInt_any HR.out).mono ?_
 rintro e_ w1 ⟨rfl, h1, h2⟩
 have HR1 := Lib.hid h1
 have HF1 : Hid (Fr [g] wa w1) := Lib.hid h2
 clear h1 h2
 go_wp2_with fail
 refine (qNum_any HR1.out).mono ?_
 rintro e_ w3 ⟨rfl, h1, h2⟩
 have HR3 := Lib.hid h1
 have HF3 : Hid (Fr [g] wa w3) := Lib.hid (HF1.out.trans h2 (fun x hx _ => hx))
 clear h1 h2
 have HPC : Hid (pBa s = (⟨(pI s).1, (pN (pI s).2).1, (pL pPr (pN (pI s).2).2).1, (pL pOp (pL pPr (pN (pI s).2).2).2).1, (pL pTb (pL pOp (pL pPr (pN (pI s).2).2).2).2).1⟩, (pL pTb (pL pOp (pL pPr (pN (pI s).2).2).2).2).2)) := Lib.hid rfl
 have HIN : Hid (i64In (pI s).1 ∧ (pN (pI s).2).1 < 18446744073709551616) := Lib.hid ⟨pI_in _, pN_lt _⟩
 have HB3 := Lib.hid (HB.out.keep HF3.out (by have := HG.out; simp; omega))
 clear HR1
 generalize (pN (pI s).2).2 = s0 at *
 generalize (pN (pI s).2).1 = t0 at *
 generalize (pI s).1 = e0 at *
 have HBU := Lib.hid (built_baQ e0 t0)
 have HBN : Hid (Blk (w3.alloc (Obj.cells zBaL.toArray 45)) w3.heap.size 45 zBaL.toArray) := Lib.hid (Blk.new _ _ _)
 obtain ⟨CV, hCV⟩ : ∃ CV, (#[.int .i64 e0, .int .u64 (t0 : Int), .slice none 0 0, .slice none 0 0, .slice none 0 0] : Array Value) = CV := ⟨_, rfl⟩
 have HC0 : Hid (CV.size = 5) := Lib.hid (by rw [← hCV]; rfl)
 have HC1 : Hid (CV.all (·.oneCell') = true) := Lib.hid (by rw [← hCV]; exact all_oneCell_toArray (Wba.one ⟨e0, t0, none, 0, 0, [], none, 0, 0, [], none, 0, 0, []⟩))
 have HCT : Hid ((Tryz.prog.info? 45).map (·.size) = some CV.size) := Lib.hid (by rw [HC0.out]; kernel_rfl)
 rw [hCV] at HBU
 have HCV := Lib.hid hCV
 clear hCV
 go_upto_region 2 with (first
  | (refine wpList_builtg rfl 45 _ rfl _ _ HBU.out rfl ?_)
  | (refine wpList_store_blk rfl 45 _ _ rfl w3.heap.size CV rfl rfl 45 zBaL.toArray HBN.out HCT.out (by rw [HC0.out]; rfl) HC1.out ?_
     intro w4 hb hf
     have HX4 := Lib.hid hb
     have HF34 : Hid (Fr [] w3 w4) := Lib.hid (((Fr.refl [] w3).alloc _).and hf (by simp))
     clear hb hf))
 obtain ⟨gx, hgx⟩ : ∃ gx, gx = w3.heap.size := ⟨_, rfl⟩
 rw [← hgx] at HX4 ⊢
 have HGX : Hid (w.heap.size < gx ∧ gx < w4.heap.size ∧ w3.heap.size ≤ gx) := Lib.hid (by have h1 := HB.out.lt; have h2 := HF3.out.size; have h3 := HX4.out.lt; omega)
 have HR4 := Lib.hid (HR3.out.fr HF34.out (by simp) (by simp))
 have HB4 := Lib.hid (HB3.out.keep HF34.out (by simp))
 have HF4 : Hid (Fr [g] w w4) := Lib.hid (((HF0.out.mono (T := [g]) (by simp)).trans HF3.out (fun x hx _ => hx)).trans (HF34.out.mono (by simp)) (fun x hx _ => hx))
 rw [← HCV.out] at HX4
 clear hgx HBN HBU HC0 HC1 HCT HCV HF34 HF1 HF3 HF0 HR HR3 HB HB3 HWA
 go_wp2_with fail
 refine (qCount_any HR4.out).mono ?_
 rintro e_ wN1 ⟨rfl, h1, h2⟩
 have HRn1 := Lib.hid h1
 have HFn1 : Hid (Fr [g] w4 wN1) := Lib.hid h2
 have HXn1 := Lib.hid (HX4.out.keep h2 (by have h1 := HGX.out; have h2 := HG.out; simp; omega))
 have HPL1 : Hid (pL pPr s0 = pRep pPr (pC s0).1 (pC s0).2) := Lib.hid rfl
 have hn := pC_le s0
 clear h1 h2
 generalize (pC s0).1 = n1 at *
 generalize (pC s0).2 = s11 at *
 have HN1 := Lib.hid hn
 have HSZ1 : Hid (w.heap.size ≤ wN1.heap.size ∧ gx < wN1.heap.size) := Lib.hid (by have h1 := HGX.out; have h2 := HFn1.out.size; omega)
 clear hn HR4 HX4
 go_upto_block 0 with (fail)
 go_cut [5] (fun s_ wx => ∃ (A : Option Addr) (m c : Nat) (ys : List Wpr), Hid (GQ 40 6 Wpr.cells (fun w S v => v.Li w S) Wpr.con wN1.heap.size wx A m c ys (pL pPr s0).1 (pL pPr s0).2.2) ∧ Hid (Blk wx gx 45 #[.int .i64 e0, .int .u64 (t0 : Int), .slice A m c, .slice none 0 0, .slice none 0 0]) ∧ Hid (Qs wx F g (pL pPr s0).2) ∧ Hid (Fr [g, gx] wN1 wx))
 case first =>
  go_wp2_with fail
  go_loopw [5] (fun i wr => ∃ (k : Nat) (A : Option Addr) (c : Nat) (ys : List Wpr), k ≤ n1 ∧ i = .int .i64 k ∧ Hid (GQ 40 6 Wpr.cells (fun w S v => v.Li w S) Wpr.con wN1.heap.size wr A k c ys (pRep pPr k s11).1 (pRep pPr k s11).2.2) ∧ Hid (Blk wr gx 45 #[.int .i64 e0, .int .u64 (t0 : Int), .slice A k c, .slice none 0 0, .slice none 0 0]) ∧ Hid (Qs wr F g (pRep pPr k s11).2) ∧ Hid (Fr [g, gx] wN1 wr)) (fun i _ => n1 - (intOf i).toNat)
  case atStart => exact ⟨0, none, 0, [], by omega, rfl, Lib.hid (GQ.nil _), HXn1, HRn1, Lib.hid (Fr.refl _ _)⟩
  case round =>
   obtain ⟨k, A4, c4, ys, hk, rfl, HQQ, HX, HQ, HF⟩ := hrel
   have hkS : (k : Int) + 1 ≤ 1000 := by have := HN1.out; omega
   have hk0 : (0 : Int) ≤ k := by omega
   obtain ⟨R, bd, hst⟩ : ∃ R bd, (pRep pPr k s11).2 = (R, bd) := ⟨_, _, rfl⟩
   have HST := Lib.hid hst
   rw [hst] at HQ HQQ
   by_cases hlt : k < n1
   · have HKN : Hid (k ≤ n1) := Lib.hid (by omega)
     have HKL : Hid (k < n1) := Lib.hid hlt
     obtain ⟨A', n', c', hA', hb', hy', hnc'⟩ := HQ.out.rd
     have hbc := hb'.cell 1
     simp at hbc
     clear hA' hb' hy' hnc' hst
     cases bd
     · have hkn : (k : Int) < n1 := by omega
       have HXC : Hid (wr.cell? ⟨gx, 2, none⟩ = some (.slice A4 k c4)) := Lib.hid (by have h := HX.out.cell 2; simpa using h)
       have HNS : Hid (¬ gx ∈ g :: bk A4) := Lib.hid (by have h1 := HGX.out; have h2 := HG.out; have h3 := HSZ1.out; intro hm; rcases List.mem_cons.1 hm with h | h; omega; have := HQQ.out.new _ h; omega)
       have HPE : Hid (pRep pPr (k + 1) s11 = ((pRep pPr k s11).1 ++ [(pPr (R, false)).1], (pPr (R, false)).2)) := Lib.hid (by
        show ((pRep pPr k s11).1 ++ [(pPr (pRep pPr k s11).2).1], (pPr (pRep pPr k s11).2).2) = _
        rw [HST.out])
       clear hlt
       go_upto_region 6 with (fail)
       clear hbc
       refine wp_region_till 7 (Fr (g :: gx :: bk A4) wr) (Fr (g :: bk A4) wr) (by kernel_rfl) (Fr.drew (Fr.refl _ wr)) (Fr.drew (Fr.refl _ wr)) (fun hA hB => ?_)
       have HWD : Hid (Fr [] wr wr.drew) := Lib.hid (Fr.drew (Fr.refl [] wr))
       have HQd := Lib.hid (HQ.out.fr (Fr.drew (Fr.refl [] wr)) (by simp) (by simp))
       have HQQd := Lib.hid (HQQ.out.keep Wpr.Li.keep (Fr.drew (Fr.refl [] wr)) (by simp))
       have HSd : Hid (wr.drew.heap.size = wr.heap.size ∧ wN1.heap.size ≤ wr.heap.size) := Lib.hid ⟨rfl, HF.out.size⟩
       have HXd := Lib.hid (HX.out.keep (Fr.drew (Fr.refl [] wr)) (by simp))
       have HFd : Hid (Fr [g, gx] wN1 wr.drew) := Lib.hid (Fr.drew HF.out)
       generalize wr.drew = wd at *
       refine till_run (i := 0) (v := ?_) rfl (by kernel_rfl) (by rfl) (fun _ _ _ h => h) hA hB (fun w1 hw1 => ?_) ?_
       rotate_left 1
       · skip
         go_simp
         try first | with_reducible rfl | apply And.intro <;> rfl
       simp only [xPa, xPb, xPc, xPd, xPe]
       refine till_run (i := 1) (v := ?_) rfl (by kernel_rfl) (by rfl) (fun _ _ _ h => h) hA hB (fun w1 hw1 => ?_) ?_
       rotate_left 1
       · skip
         have hcw0 := hw1.cell (HXC.out) (by first | (simp; done) | exact HNS.out | exact HNW.out)
         go_simp
         try first | with_reducible rfl | apply And.intro <;> rfl
       simp only [xPa, xPb, xPc, xPd, xPe]
       refine till_run (i := 2) (v := ?_) rfl (by kernel_rfl) (by rfl) (fun _ _ _ h => h) hA hB (fun w1 hw1 => ?_) ?_
       rotate_left 1
       · skip
         go_simp
         try first | with_reducible rfl | apply And.intro <;> rfl
       simp only [xPa, xPb, xPc, xPd, xPe]
       refine till_call (i := 3) (f := ?_) (args := ?_) rfl (by kernel_rfl) (by rfl) ?_ ?_
       rotate_left 2
       · go_simp
         try first | with_reducible rfl | apply And.intro <;> rfl
       refine (qPromise_any wd F g _ HQd.out).mono ?_
       rintro e_ w5 ⟨y, rfl, hyc, hyok, h1, h2⟩
       have HQ5 := Lib.hid h1
       have HF5 : Hid (Fr [g] wd w5) := Lib.hid h2
       have HYC := Lib.hid hyc
       have HYOK := Lib.hid hyok
       refine ⟨_, rfl, ⟨hA.trans h2 (fun x hx _ => by simp at hx; simp [hx]), hB.trans h2 (fun x hx _ => by simp at hx; simp [hx])⟩, fun hB => ?_⟩
       replace hA := hA.trans h2 (fun x hx _ => by simp at hx; simp [hx])
       have HD : Hid ((Wpr.cells y).length = 6) := Lib.hid (rfl)
       have HD1 : Hid (∀ u ∈ Wpr.cells y, u.oneCell' = true) := Lib.hid (Wpr.one y)
       have HO5 := Lib.hid (own_keep HQQd.out.own h2 (fun q hq hm => by have h1 := HQQd.out.new q ((bk_mem A4 k c4 q).1 hq); have h2 := HG.out; have h3 := HSZ1.out; simp at hm; omega))
       have HX5 := Lib.hid (HXd.out.keep h2 (by have h1 := HGX.out; have h2 := HG.out; simp; omega))
       clear h1 h2 hyc hyok
       obtain ⟨D, hD⟩ : ∃ D, Wpr.cells y = D := ⟨_, rfl⟩
       have HDY := Lib.hid hD
       rw [hD] at HD HD1 ⊢
       clear hD
       simp only [xPa, xPb, xPc, xPd, xPe]
       refine till_stepQ (i := 4) rfl (by kernel_rfl) (by rfl) (fun K hK => ?_)
       refine wp_build_one 41 40 _ rfl Tryz.underlying41 D 64 (by rw [HD.out]; exact el_prm) rfl (by rw [HD.out]; decide) (by rw [HD.out]; decide) ?_
       refine hK.out _ _ (hA.alloc _) (hB.alloc _) (fun hA hB => ?_)
       clear hK K
       simp only [xPa, xPb, xPc, xPd, xPe]
       refine till_stepQ (i := 5) rfl (by kernel_rfl) (by rfl) (fun K hK => ?_)
       refine wp_append_oneq _ _ 41 40 rfl Tryz.underlying41 6 64 el_prm (by decide) 0 (.slice A4 k c4) k _ D rfl (HO5.out.alloc _) (Nat.zero_le _) HD.out HD1.out w5.heap.size 40 rfl (Blk.new _ _ _) (by have := HKL.out; have := HN1.out; omega) (by decide) ?_
       intro A9 c9 w9 ho9 hf9 hb9
       rw [bk_own] at hf9
       have HF9 : Hid (Fr (bk A4) w5 w9) := Lib.hid ((((Fr.refl [] w5).alloc _).mono (by simp)).trans hf9 (fun x hx _ => hx))
       have HB9 : Hid (∀ q ∈ bk A9, q ∈ bk A4 ∨ w5.heap.size ≤ q) := Lib.hid (by
        intro q hq
        rw [← bk_own A9 (k + 1) c9] at hq
        rcases hb9 with h | h
        · rw [h, bk_own] at hq; exact .inl hq
        · rw [h] at hq; simp at hq; exact .inr (by omega))
       have HO9 := Lib.hid ho9
       refine hK.out _ _ (hA.trans hf9 (fun x hx _ => by simp [hx])) (hB.trans hf9 (fun x hx _ => by simp [hx])) (fun hA hB => ?_)
       clear hK K ho9 hf9 hb9
       have HX9 := Lib.hid (HX5.out.keep HF9.out (fun hm => HNS.out (by simp [hm])))
       have HGS := Lib.hid (HQQd.out.step Wpr.Li.keep (y' := (pPr (R, false)).1) (bad' := (pPr (R, false)).2.2) (by have := HKL.out; have := HN1.out; omega) (by have := HSZ1.out; have := HG.out; omega) (by have := HSd.out; omega) HF5.out HYOK.out (fun hb => ⟨rfl, HYC.out hb⟩) (by have h := HO9.out; rw [← HDY.out] at h; exact h) HF9.out HB9.out)
       simp only [xPa, xPb, xPc, xPd, xPe]
       refine till_stepQ (i := 6) rfl (by kernel_rfl) (by rfl) (fun K hK => ?_)
       refine wp_run (v := ?_) (w' := ?_) ?_ ?_
       rotate_left 2
       · go_simp
         try first | with_reducible rfl | apply And.intro <;> rfl
       refine hK.out _ _ hA hB (fun hA hB => ?_)
       clear hK K
       simp only [xPa, xPb, xPc, xPd, xPe]
       refine till_step (i := 7) rfl (by kernel_rfl) (by kernel_rfl) (by rfl) (fun K hK => ?_)
       refine wp_store_at 41 _ _ rfl gx 2 (.slice A9 (k + 1) c9) rfl rfl rfl 45 _ HX9.out (by simp) (by kernel_rfl) ?_
       have hb7 : Blk (w9.setCells gx 2 [.slice A9 (k + 1) c9]) gx 45 #[.int .i64 e0, .int .u64 (t0 : Int), .slice A9 (k + 1) c9, .slice none 0 0, .slice none 0 0] := Blk.mid_at [.slice A9 (k + 1) c9] [.slice A4 k c4] [.int .i64 e0, .int .u64 (t0 : Int)] [.slice none 0 0, .slice none 0 0] 2 rfl rfl _ _ rfl rfl HX9.out
       have HB7 := Lib.hid hb7
       have HF7 : Hid (Fr [gx] w9 (w9.setCells gx 2 [.slice A9 (k + 1) c9])) := Lib.hid (Fr.setCells (fun _ => by simp) _ _ _ (Fr.refl _ _))
       refine hK.out _ _ (hA.trans HF7.out (fun q hq _ => by simp at hq; simp [hq])) (fun hA => ?_)
       clear hK K hb7
       generalize w9.setCells gx 2 [.slice A9 (k + 1) c9] = w10 at *
       simp only [xPa, xPb, xPc, xPd, xPe]
       refine till_done (by kernel_rfl) ?_ _
       have HG10 := Lib.hid (HGS.out.keep Wpr.Li.keep HF7.out (by intro q hq; simp at hq; subst hq; exact HSZ1.out.2))
       have HFF : Hid (Fr [g, gx] wN1 w10) := Lib.hid (((HFd.out.trans HF5.out (fun x hx _ => by simp at hx; simp [hx])).trans HF9.out (fun x hx hl => by have := HQQd.out.new x hx; omega)).trans HF7.out (fun x hx _ => by simp at hx; simp [hx]))
       have HQ10 := Lib.hid ((HQ5.out.fr HF9.out (fun hm => by have h1 := HQQd.out.new _ hm; have h2 := HG.out; have h3 := HSZ1.out; omega) (fun q hq hm => by have h1 := HQQd.out.new q hm; have h2 := HFL.out q hq; have h3 := HSZ1.out; omega)).fr HF7.out (by have h1 := HGX.out; have h2 := HG.out; simp; omega) (fun q hq hm => by have h1 := HGX.out; have h2 := HFL.out q hq; simp at hm; omega))
       clear hA
       go_wp2
       go_roundw
       case rel => exact ⟨k + 1, A9, c9, ys ++ [y], by have := HKL.out; omega, by go_num, by rw [HPE.out]; exact HG10, HB7, by rw [HPE.out]; exact HQ10, HFF⟩
       case measure => have := HKL.out; simp [intOf]; omega
     · skip
       have HEND : Hid (pRep pPr n1 s11 = ((pRep pPr n1 s11).1, ([], true))) := Lib.hid (by
        have h3 : R = [] := HQ.out.bz rfl
        have h2 := HST.out
        rw [h3] at h2
        have h4 := pRep_stop pPr_stop h2 (n1 - k)
        rw [show k + (n1 - k) = n1 by have := HKL.out; omega] at h4
        rw [← h4])
       have HRE : Hid (R = []) := Lib.hid (HQ.out.bz rfl)
       rw [HRE.out] at HQ
       have HGF : Hid (GQ 40 6 Wpr.cells (fun w S v => v.Li w S) Wpr.con wN1.heap.size wr A4 k c4 ys (pL pPr s0).1 (pL pPr s0).2.2) := Lib.hid (by rw [HPL1.out, HEND.out]; exact HQQ.out.fail)
       have HQF : Hid (Qs wr F g (pL pPr s0).2) := Lib.hid (by rw [HPL1.out, HEND.out]; exact HQ.out)
       have hkn : (k : Int) < n1 := by omega
       clear hlt
       go_wp2_with fail
       all_goals
        go_meet
        exact ⟨A4, k, c4, ys, HGF, HX, HQF, HF⟩
   · have hkn : n1 = k := by omega
     subst hkn
     have HGF : Hid (GQ 40 6 Wpr.cells (fun w S v => v.Li w S) Wpr.con wN1.heap.size wr A4 n1 c4 ys (pL pPr s0).1 (pL pPr s0).2.2) := Lib.hid (by rw [HPL1.out, HST.out]; exact HQQ.out)
     have HQF : Hid (Qs wr F g (pL pPr s0).2) := Lib.hid (by rw [HPL1.out, HST.out]; exact HQ.out)
     clear hlt hk hst
     go_wp2_with fail
     all_goals
      go_meet
      exact ⟨A4, n1, c4, ys, HGF, HX, HQF, HF⟩
 case rest =>
  obtain ⟨A1, m1, c1, ys1, HGQ1, HX1, HQ1, HFa⟩ := hcut
  rename World => wx1
  have HBx1 : Hid (Blk wx1 w.heap.size 45 zBaL.toArray) := Lib.hid ((HB4.out.keep HFn1.out (by have := HG.out; simp; omega)).keep HFa.out (by have := HG.out; have := HGX.out; simp; omega))
  have HW1 : Hid (Fr [g] w wx1) := Lib.hid ((HF4.out.trans HFn1.out (fun x hx _ => hx)).trans HFa.out (fun x hx hl => by have h1 := HGX.out; simp at hx; simp; omega))
  have HZ1 : Hid (wN1.heap.size ≤ wx1.heap.size ∧ gx < wx1.heap.size) := Lib.hid (by have h1 := HFa.out.size; have h2 := HSZ1.out; omega)
  have HGX1 : Hid (w.heap.size < gx ∧ gx < wx1.heap.size ∧ w3.heap.size ≤ gx) := Lib.hid (by have h1 := HZ1.out; have h2 := HGX.out; omega)
  clear HPL1 HN1 HRn1 HXn1 HGX HB4 HF4
  have HGX := HGX1
  generalize (pL pPr s0).1 = q1 at *
  generalize (pL pPr s0).2 = z1 at *
  go_wp2_with fail
  refine (qCount_any HQ1.out).mono ?_
  rintro e_ wN2 ⟨rfl, h1, h2⟩
  have HRn2 := Lib.hid h1
  have HFn2 : Hid (Fr [g] wx1 wN2) := Lib.hid h2
  have HXn2 := Lib.hid (HX1.out.keep h2 (by have h1 := HGX.out; have h2 := HG.out; simp; omega))
  have HPL2 : Hid (pL pOp z1 = pRep pOp (pC z1).1 (pC z1).2) := Lib.hid rfl
  have hn := pC_le z1
  clear h1 h2
  generalize (pC z1).1 = n2 at *
  generalize (pC z1).2 = s12 at *
  have HN2 := Lib.hid hn
  have HSZ2 : Hid (w.heap.size ≤ wN2.heap.size ∧ gx < wN2.heap.size) := Lib.hid (by have h1 := HGX.out; have h2 := HFn2.out.size; omega)
  clear hn HQ1 HX1
  go_upto_block 2 with (fail)
  go_cut [6] (fun s_ wx => ∃ (A : Option Addr) (m c : Nat) (ys : List Wop), Hid (GQ 54 34 Wop.cells (fun w S v => v.Ok w S) Wop.con wN2.heap.size wx A m c ys (pL pOp z1).1 (pL pOp z1).2.2) ∧ Hid (Blk wx gx 45 #[.int .i64 e0, .int .u64 (t0 : Int), .slice A1 m1 c1, .slice A m c, .slice none 0 0]) ∧ Hid (Qs wx F g (pL pOp z1).2) ∧ Hid (Fr [g, gx] wN2 wx))
  case first =>
   go_wp2_with fail
   go_loopw [6] (fun i wr => ∃ (k : Nat) (A : Option Addr) (c : Nat) (ys : List Wop), k ≤ n2 ∧ i = .int .i64 k ∧ Hid (GQ 54 34 Wop.cells (fun w S v => v.Ok w S) Wop.con wN2.heap.size wr A k c ys (pRep pOp k s12).1 (pRep pOp k s12).2.2) ∧ Hid (Blk wr gx 45 #[.int .i64 e0, .int .u64 (t0 : Int), .slice A1 m1 c1, .slice A k c, .slice none 0 0]) ∧ Hid (Qs wr F g (pRep pOp k s12).2) ∧ Hid (Fr [g, gx] wN2 wr)) (fun i _ => n2 - (intOf i).toNat)
   case atStart => exact ⟨0, none, 0, [], by omega, rfl, Lib.hid (GQ.nil _), HXn2, HRn2, Lib.hid (Fr.refl _ _)⟩
   case round =>
    obtain ⟨k, A4, c4, ys, hk, rfl, HQQ, HX, HQ, HF⟩ := hrel
    have hkS : (k : Int) + 1 ≤ 1000 := by have := HN2.out; omega
    have hk0 : (0 : Int) ≤ k := by omega
    obtain ⟨R, bd, hst⟩ : ∃ R bd, (pRep pOp k s12).2 = (R, bd) := ⟨_, _, rfl⟩
    have HST := Lib.hid hst
    rw [hst] at HQ HQQ
    by_cases hlt : k < n2
    · have HKN : Hid (k ≤ n2) := Lib.hid (by omega)
      have HKL : Hid (k < n2) := Lib.hid hlt
      obtain ⟨A', n', c', hA', hb', hy', hnc'⟩ := HQ.out.rd
      have hbc := hb'.cell 1
      simp at hbc
      clear hA' hb' hy' hnc' hst
      cases bd
      · have hkn : (k : Int) < n2 := by omega
        have HXC : Hid (wr.cell? ⟨gx, 3, none⟩ = some (.slice A4 k c4)) := Lib.hid (by have h := HX.out.cell 3; simpa using h)
        have HNS : Hid (¬ gx ∈ g :: bk A4) := Lib.hid (by have h1 := HGX.out; have h2 := HG.out; have h3 := HSZ2.out; intro hm; rcases List.mem_cons.1 hm with h | h; omega; have := HQQ.out.new _ h; omega)
        have HPE : Hid (pRep pOp (k + 1) s12 = ((pRep pOp k s12).1 ++ [(pOp (R, false)).1], (pOp (R, false)).2)) := Lib.hid (by
         show ((pRep pOp k s12).1 ++ [(pOp (pRep pOp k s12).2).1], (pOp (pRep pOp k s12).2).2) = _
         rw [HST.out])
        clear hlt
        go_upto_region 11 with (fail)
        clear hbc
        refine wp_region_till 7 (Fr (g :: gx :: bk A4) wr) (Fr (g :: bk A4) wr) (by kernel_rfl) (Fr.drew (Fr.refl _ wr)) (Fr.drew (Fr.refl _ wr)) (fun hA hB => ?_)
        have HWD : Hid (Fr [] wr wr.drew) := Lib.hid (Fr.drew (Fr.refl [] wr))
        have HQd := Lib.hid (HQ.out.fr (Fr.drew (Fr.refl [] wr)) (by simp) (by simp))
        have HQQd := Lib.hid (HQQ.out.keep Wop.Ok.keep (Fr.drew (Fr.refl [] wr)) (by simp))
        have HSd : Hid (wr.drew.heap.size = wr.heap.size ∧ wN2.heap.size ≤ wr.heap.size) := Lib.hid ⟨rfl, HF.out.size⟩
        have HXd := Lib.hid (HX.out.keep (Fr.drew (Fr.refl [] wr)) (by simp))
        have HFd : Hid (Fr [g, gx] wN2 wr.drew) := Lib.hid (Fr.drew HF.out)
        generalize wr.drew = wd at *
        refine till_run (i := 0) (v := ?_) rfl (by kernel_rfl) (by rfl) (fun _ _ _ h => h) hA hB (fun w1 hw1 => ?_) ?_
        rotate_left 1
        · skip
          go_simp
          try first | with_reducible rfl | apply And.intro <;> rfl
        simp only [xPa, xPb, xPc, xPd, xPe]
        refine till_run (i := 1) (v := ?_) rfl (by kernel_rfl) (by rfl) (fun _ _ _ h => h) hA hB (fun w1 hw1 => ?_) ?_
        rotate_left 1
        · skip
          have hcw0 := hw1.cell (HXC.out) (by first | (simp; done) | exact HNS.out | exact HNW.out)
          go_simp
          try first | with_reducible rfl | apply And.intro <;> rfl
        simp only [xPa, xPb, xPc, xPd, xPe]
        refine till_run (i := 2) (v := ?_) rfl (by kernel_rfl) (by rfl) (fun _ _ _ h => h) hA hB (fun w1 hw1 => ?_) ?_
        rotate_left 1
        · skip
          go_simp
          try first | with_reducible rfl | apply And.intro <;> rfl
        simp only [xPa, xPb, xPc, xPd, xPe]
        refine till_call (i := 3) (f := ?_) (args := ?_) rfl (by kernel_rfl) (by rfl) ?_ ?_
        rotate_left 2
        · go_simp
          try first | with_reducible rfl | apply And.intro <;> rfl
        refine (qOpeningI_any wd F g _ HQd.out).mono ?_
        rintro e_ w5 ⟨y, rfl, hyc, hyok, h1, h2⟩
        have HQ5 := Lib.hid h1
        have HF5 : Hid (Fr [g] wd w5) := Lib.hid h2
        have HYC := Lib.hid hyc
        have HYOK := Lib.hid hyok
        refine ⟨_, rfl, ⟨hA.trans h2 (fun x hx _ => by simp at hx; simp [hx]), hB.trans h2 (fun x hx _ => by simp at hx; simp [hx])⟩, fun hB => ?_⟩
        replace hA := hA.trans h2 (fun x hx _ => by simp at hx; simp [hx])
        have HD : Hid ((Wop.cells y).length = 34) := Lib.hid (Wop.len (hyok [] (by simp)).h)
        have HD1 : Hid (∀ u ∈ Wop.cells y, u.oneCell' = true) := Lib.hid (Wop.one y)
        have HO5 := Lib.hid (own_keep HQQd.out.own h2 (fun q hq hm => by have h1 := HQQd.out.new q ((bk_mem A4 k c4 q).1 hq); have h2 := HG.out; have h3 := HSZ2.out; simp at hm; omega))
        have HX5 := Lib.hid (HXd.out.keep h2 (by have h1 := HGX.out; have h2 := HG.out; simp; omega))
        clear h1 h2 hyc hyok
        obtain ⟨D, hD⟩ : ∃ D, Wop.cells y = D := ⟨_, rfl⟩
        have HDY := Lib.hid hD
        rw [hD] at HD HD1 ⊢
        clear hD
        simp only [xPa, xPb, xPc, xPd, xPe]
        refine till_stepQ (i := 4) rfl (by kernel_rfl) (by rfl) (fun K hK => ?_)
        refine wp_build_one 42 54 _ rfl Tryz.underlying42 D 64 (by rw [HD.out]; exact el_opn) rfl (by rw [HD.out]; decide) (by rw [HD.out]; decide) ?_
        refine hK.out _ _ (hA.alloc _) (hB.alloc _) (fun hA hB => ?_)
        clear hK K
        simp only [xPa, xPb, xPc, xPd, xPe]
        refine till_stepQ (i := 5) rfl (by kernel_rfl) (by rfl) (fun K hK => ?_)
        refine wp_append_oneq _ _ 42 54 rfl Tryz.underlying42 34 64 el_opn (by decide) 0 (.slice A4 k c4) k _ D rfl (HO5.out.alloc _) (Nat.zero_le _) HD.out HD1.out w5.heap.size 54 rfl (Blk.new _ _ _) (by have := HKL.out; have := HN2.out; omega) (by decide) ?_
        intro A9 c9 w9 ho9 hf9 hb9
        rw [bk_own] at hf9
        have HF9 : Hid (Fr (bk A4) w5 w9) := Lib.hid ((((Fr.refl [] w5).alloc _).mono (by simp)).trans hf9 (fun x hx _ => hx))
        have HB9 : Hid (∀ q ∈ bk A9, q ∈ bk A4 ∨ w5.heap.size ≤ q) := Lib.hid (by
         intro q hq
         rw [← bk_own A9 (k + 1) c9] at hq
         rcases hb9 with h | h
         · rw [h, bk_own] at hq; exact .inl hq
         · rw [h] at hq; simp at hq; exact .inr (by omega))
        have HO9 := Lib.hid ho9
        refine hK.out _ _ (hA.trans hf9 (fun x hx _ => by simp [hx])) (hB.trans hf9 (fun x hx _ => by simp [hx])) (fun hA hB => ?_)
        clear hK K ho9 hf9 hb9
        have HX9 := Lib.hid (HX5.out.keep HF9.out (fun hm => HNS.out (by simp [hm])))
        have HGS := Lib.hid (HQQd.out.step Wop.Ok.keep (y' := (pOp (R, false)).1) (bad' := (pOp (R, false)).2.2) (by have := HKL.out; have := HN2.out; omega) (by have := HSZ2.out; have := HG.out; omega) (by have := HSd.out; omega) HF5.out HYOK.out (fun hb => ⟨rfl, HYC.out hb⟩) (by have h := HO9.out; rw [← HDY.out] at h; exact h) HF9.out HB9.out)
        simp only [xPa, xPb, xPc, xPd, xPe]
        refine till_stepQ (i := 6) rfl (by kernel_rfl) (by rfl) (fun K hK => ?_)
        refine wp_run (v := ?_) (w' := ?_) ?_ ?_
        rotate_left 2
        · go_simp
          try first | with_reducible rfl | apply And.intro <;> rfl
        refine hK.out _ _ hA hB (fun hA hB => ?_)
        clear hK K
        simp only [xPa, xPb, xPc, xPd, xPe]
        refine till_step (i := 7) rfl (by kernel_rfl) (by kernel_rfl) (by rfl) (fun K hK => ?_)
        refine wp_store_at 42 _ _ rfl gx 3 (.slice A9 (k + 1) c9) rfl rfl rfl 45 _ HX9.out (by simp) (by kernel_rfl) ?_
        have hb7 : Blk (w9.setCells gx 3 [.slice A9 (k + 1) c9]) gx 45 #[.int .i64 e0, .int .u64 (t0 : Int), .slice A1 m1 c1, .slice A9 (k + 1) c9, .slice none 0 0] := Blk.mid_at [.slice A9 (k + 1) c9] [.slice A4 k c4] [.int .i64 e0, .int .u64 (t0 : Int), .slice A1 m1 c1] [.slice none 0 0] 3 rfl rfl _ _ rfl rfl HX9.out
        have HB7 := Lib.hid hb7
        have HF7 : Hid (Fr [gx] w9 (w9.setCells gx 3 [.slice A9 (k + 1) c9])) := Lib.hid (Fr.setCells (fun _ => by simp) _ _ _ (Fr.refl _ _))
        refine hK.out _ _ (hA.trans HF7.out (fun q hq _ => by simp at hq; simp [hq])) (fun hA => ?_)
        clear hK K hb7
        generalize w9.setCells gx 3 [.slice A9 (k + 1) c9] = w10 at *
        simp only [xPa, xPb, xPc, xPd, xPe]
        refine till_done (by kernel_rfl) ?_ _
        have HG10 := Lib.hid (HGS.out.keep Wop.Ok.keep HF7.out (by intro q hq; simp at hq; subst hq; exact HSZ2.out.2))
        have HFF : Hid (Fr [g, gx] wN2 w10) := Lib.hid (((HFd.out.trans HF5.out (fun x hx _ => by simp at hx; simp [hx])).trans HF9.out (fun x hx hl => by have := HQQd.out.new x hx; omega)).trans HF7.out (fun x hx _ => by simp at hx; simp [hx]))
        have HQ10 := Lib.hid ((HQ5.out.fr HF9.out (fun hm => by have h1 := HQQd.out.new _ hm; have h2 := HG.out; have h3 := HSZ2.out; omega) (fun q hq hm => by have h1 := HQQd.out.new q hm; have h2 := HFL.out q hq; have h3 := HSZ2.out; omega)).fr HF7.out (by have h1 := HGX.out; have h2 := HG.out; simp; omega) (fun q hq hm => by have h1 := HGX.out; have h2 := HFL.out q hq; simp at hm; omega))
        clear hA
        go_wp2
        go_roundw
        case rel => exact ⟨k + 1, A9, c9, ys ++ [y], by have := HKL.out; omega, by go_num, by rw [HPE.out]; exact HG10, HB7, by rw [HPE.out]; exact HQ10, HFF⟩
        case measure => have := HKL.out; simp [intOf]; omega
      · skip
        have HEND : Hid (pRep pOp n2 s12 = ((pRep pOp n2 s12).1, ([], true))) := Lib.hid (by
         have h3 : R = [] := HQ.out.bz rfl
         have h2 := HST.out
         rw [h3] at h2
         have h4 := pRep_stop pOp_stop h2 (n2 - k)
         rw [show k + (n2 - k) = n2 by have := HKL.out; omega] at h4
         rw [← h4])
        have HRE : Hid (R = []) := Lib.hid (HQ.out.bz rfl)
        rw [HRE.out] at HQ
        have HGF : Hid (GQ 54 34 Wop.cells (fun w S v => v.Ok w S) Wop.con wN2.heap.size wr A4 k c4 ys (pL pOp z1).1 (pL pOp z1).2.2) := Lib.hid (by rw [HPL2.out, HEND.out]; exact HQQ.out.fail)
        have HQF : Hid (Qs wr F g (pL pOp z1).2) := Lib.hid (by rw [HPL2.out, HEND.out]; exact HQ.out)
        have hkn : (k : Int) < n2 := by omega
        clear hlt
        go_wp2_with fail
        all_goals
         go_meet
         exact ⟨A4, k, c4, ys, HGF, HX, HQF, HF⟩
    · have hkn : n2 = k := by omega
      subst hkn
      have HGF : Hid (GQ 54 34 Wop.cells (fun w S v => v.Ok w S) Wop.con wN2.heap.size wr A4 n2 c4 ys (pL pOp z1).1 (pL pOp z1).2.2) := Lib.hid (by rw [HPL2.out, HST.out]; exact HQQ.out)
      have HQF : Hid (Qs wr F g (pL pOp z1).2) := Lib.hid (by rw [HPL2.out, HST.out]; exact HQ.out)
      clear hlt hk hst
      go_wp2_with fail
      all_goals
       go_meet
       exact ⟨A4, n2, c4, ys, HGF, HX, HQF, HF⟩
  case rest =>
   obtain ⟨A2, m2, c2, ys2, HGQ2, HX2, HQ2, HFb⟩ := hcut
   rename World => wx2
   have HGA : Hid (GQ 40 6 Wpr.cells (fun w S v => v.Li w S) Wpr.con wN1.heap.size wx2 A1 m1 c1 ys1 q1 z1.2) := Lib.hid ((HGQ1.out.keep Wpr.Li.keep HFn2.out (by intro q hq; simp at hq; subst hq; have := HSZ1.out; have := HG.out; omega)).keep Wpr.Li.keep HFb.out (by intro q hq; simp at hq; have := HSZ1.out; have := HG.out; omega))
   have HBx2 : Hid (Blk wx2 w.heap.size 45 zBaL.toArray) := Lib.hid ((HBx1.out.keep HFn2.out (by have := HG.out; simp; omega)).keep HFb.out (by have := HG.out; have := HGX.out; simp; omega))
   have HW2 : Hid (Fr [g] w wx2) := Lib.hid ((HW1.out.trans HFn2.out (fun x hx _ => hx)).trans HFb.out (fun x hx hl => by have h1 := HGX.out; simp at hx; simp; omega))
   have HZ2 : Hid (wN2.heap.size ≤ wx2.heap.size ∧ gx < wx2.heap.size) := Lib.hid (by have h1 := HFb.out.size; have h2 := HSZ2.out; omega)
   have HBD2 : Hid ((pL pOp z1).2.2 = false → z1.2 = false) := Lib.hid (pL_badQ pOp_badQ)
   have HGX2 : Hid (w.heap.size < gx ∧ gx < wx2.heap.size ∧ w3.heap.size ≤ gx) := Lib.hid (by have h1 := HZ2.out; have h2 := HGX.out; omega)
   clear HPL2 HN2 HRn2 HXn2 HGQ1 HBx1 HW1 HGX HGX1
   have HGX := HGX2
   generalize (pL pOp z1).1 = q2 at *
   generalize (pL pOp z1).2 = z2 at *
   go_wp2_with fail
   refine (qCount_any HQ2.out).mono ?_
   rintro e_ wN3 ⟨rfl, h1, h2⟩
   have HRn3 := Lib.hid h1
   have HFn3 : Hid (Fr [g] wx2 wN3) := Lib.hid h2
   have HXn3 := Lib.hid (HX2.out.keep h2 (by have h1 := HGX.out; have h2 := HG.out; simp; omega))
   have HPL3 : Hid (pL pTb z2 = pRep pTb (pC z2).1 (pC z2).2) := Lib.hid rfl
   have hn := pC_le z2
   clear h1 h2
   generalize (pC z2).1 = n3 at *
   generalize (pC z2).2 = s13 at *
   have HN3 := Lib.hid hn
   have HSZ3 : Hid (w.heap.size ≤ wN3.heap.size ∧ gx < wN3.heap.size) := Lib.hid (by have h1 := HGX.out; have h2 := HFn3.out.size; omega)
   clear hn HQ2 HX2
   go_upto_block 4 with (fail)
   go_cut [7] (fun s_ wx => ∃ (A : Option Addr) (m c : Nat) (ys : List Wtb), Hid (GQ 132 2 Wtb.cells (fun w S v => v.Li w S) Wtb.con wN3.heap.size wx A m c ys (pL pTb z2).1 (pL pTb z2).2.2) ∧ Hid (Blk wx gx 45 #[.int .i64 e0, .int .u64 (t0 : Int), .slice A1 m1 c1, .slice A2 m2 c2, .slice A m c]) ∧ Hid (Qs wx F g (pL pTb z2).2) ∧ Hid (Fr [g, gx] wN3 wx))
   case first =>
    go_wp2_with fail
    go_loopw [7] (fun i wr => ∃ (k : Nat) (A : Option Addr) (c : Nat) (ys : List Wtb), k ≤ n3 ∧ i = .int .i64 k ∧ Hid (GQ 132 2 Wtb.cells (fun w S v => v.Li w S) Wtb.con wN3.heap.size wr A k c ys (pRep pTb k s13).1 (pRep pTb k s13).2.2) ∧ Hid (Blk wr gx 45 #[.int .i64 e0, .int .u64 (t0 : Int), .slice A1 m1 c1, .slice A2 m2 c2, .slice A k c]) ∧ Hid (Qs wr F g (pRep pTb k s13).2) ∧ Hid (Fr [g, gx] wN3 wr)) (fun i _ => n3 - (intOf i).toNat)
    case atStart => exact ⟨0, none, 0, [], by omega, rfl, Lib.hid (GQ.nil _), HXn3, HRn3, Lib.hid (Fr.refl _ _)⟩
    case round =>
     obtain ⟨k, A4, c4, ys, hk, rfl, HQQ, HX, HQ, HF⟩ := hrel
     have hkS : (k : Int) + 1 ≤ 1000 := by have := HN3.out; omega
     have hk0 : (0 : Int) ≤ k := by omega
     obtain ⟨R, bd, hst⟩ : ∃ R bd, (pRep pTb k s13).2 = (R, bd) := ⟨_, _, rfl⟩
     have HST := Lib.hid hst
     rw [hst] at HQ HQQ
     by_cases hlt : k < n3
     · have HKN : Hid (k ≤ n3) := Lib.hid (by omega)
       have HKL : Hid (k < n3) := Lib.hid hlt
       obtain ⟨A', n', c', hA', hb', hy', hnc'⟩ := HQ.out.rd
       have hbc := hb'.cell 1
       simp at hbc
       clear hA' hb' hy' hnc' hst
       cases bd
       · have hkn : (k : Int) < n3 := by omega
         have HXC : Hid (wr.cell? ⟨gx, 4, none⟩ = some (.slice A4 k c4)) := Lib.hid (by have h := HX.out.cell 4; simpa using h)
         have HNS : Hid (¬ gx ∈ g :: bk A4) := Lib.hid (by have h1 := HGX.out; have h2 := HG.out; have h3 := HSZ3.out; intro hm; rcases List.mem_cons.1 hm with h | h; omega; have := HQQ.out.new _ h; omega)
         have HPE : Hid (pRep pTb (k + 1) s13 = ((pRep pTb k s13).1 ++ [(pTb (R, false)).1], (pTb (R, false)).2)) := Lib.hid (by
          show ((pRep pTb k s13).1 ++ [(pTb (pRep pTb k s13).2).1], (pTb (pRep pTb k s13).2).2) = _
          rw [HST.out])
         clear hlt
         go_wp2_with fail
         clear hbc
         refine (qInt_any HQ.out).mono ?_
         rintro e_ w5 ⟨rfl, h1, h2⟩
         have HQ5 := Lib.hid h1
         have HF5 : Hid (Fr [g] wr w5) := Lib.hid h2
         have HPT : Hid (pTb (R, false) = (⟨(pI (R, false)).1, (pL pDn (pI (R, false)).2).1⟩, (pL pDn (pI (R, false)).2).2)) := Lib.hid rfl
         have HI0 : Hid (i64In (pI (R, false)).1) := Lib.hid (pI_in _)
         clear h1 h2
         generalize (pI (R, false)).1 = i0 at *
         generalize (pI (R, false)).2 = zi at *
         have HBU := Lib.hid (built_tbQ i0)
         have HC1t : Hid ((#[Value.int .i64 i0, .slice none 0 0] : Array Value).all (·.oneCell') = true) := Lib.hid (all_oneCell_toArray (Wtb.one ⟨i0, none, 0, 0, []⟩))
         have HBN : Hid (Blk (w5.alloc (Obj.cells zTbL.toArray 132)) w5.heap.size 132 zTbL.toArray) := Lib.hid (Blk.new _ _ _)
         go_upto_region 17 with (first
          | (refine wpList_builtg rfl 132 _ rfl _ _ HBU.out rfl ?_)
          | (refine wpList_store_blk rfl 132 _ _ rfl w5.heap.size #[.int .i64 i0, .slice none 0 0] rfl rfl 132 zTbL.toArray HBN.out (by kernel_rfl) rfl HC1t.out ?_
             intro w6 hb hf
             have HX6t := Lib.hid hb
             have HF56 : Hid (Fr [] w5 w6) := Lib.hid (((Fr.refl [] w5).alloc _).and hf (by simp))
             clear hb hf))
         obtain ⟨gt, hgt⟩ : ∃ gt, gt = w5.heap.size := ⟨_, rfl⟩
         rw [← hgt] at HX6t ⊢
         have HGT : Hid (w.heap.size < gt ∧ gt < w6.heap.size ∧ wr.heap.size ≤ gt ∧ wN3.heap.size ≤ wr.heap.size) := Lib.hid (by have h2 := HF5.out.size; have h3 := HX6t.out.lt; have h4 := HF.out.size; have h5 := HSZ3.out; have h6 := HGX.out; have h7 := HX.out.lt; omega)
         have HR6t := Lib.hid (HQ5.out.fr HF56.out (by simp) (by simp))
         have HW6 : Hid (Fr [g] wr w6) := Lib.hid (HF5.out.trans HF56.out (by simp))
         clear hgt HBN HBU HQ5 HF56 HF5
         go_wp2_with fail
         refine (qCount_any HR6t.out).mono ?_
         rintro e_ wNt ⟨rfl, h1, h2⟩
         have HRnt := Lib.hid h1
         have HFnt : Hid (Fr [g] w6 wNt) := Lib.hid h2
         have HXnt := Lib.hid (HX6t.out.keep h2 (by have h1 := HGT.out; have h2 := HG.out; simp; omega))
         have HPLt : Hid (pL pDn zi = pRep pDn (pC zi).1 (pC zi).2) := Lib.hid rfl
         have hn := pC_le zi
         clear h1 h2
         generalize (pC zi).1 = nt at *
         generalize (pC zi).2 = s1t at *
         have HNt := Lib.hid hn
         have HSZt : Hid (w.heap.size ≤ wNt.heap.size ∧ gt < wNt.heap.size) := Lib.hid (by have h1 := HGT.out; have h2 := HFnt.out.size; omega)
         clear hn HR6t HX6t
         go_upto_block 6 with (fail)
         go_cut [10] (fun s_ wx => ∃ (A : Option Addr) (m c : Nat) (yst : List Wdn), Hid (GQ 56 4 Wdn.cells (fun _ _ v => v.Ok) id wNt.heap.size wx A m c yst (pL pDn zi).1 (pL pDn zi).2.2) ∧ Hid (Blk wx gt 132 #[.int .i64 i0, .slice A m c]) ∧ Hid (Qs wx F g (pL pDn zi).2) ∧ Hid (Fr [g, gt] wNt wx))
         case first =>
          go_wp2_with fail
          go_loopw [10] (fun i wr => ∃ (kt : Nat) (A : Option Addr) (c : Nat) (yst : List Wdn), kt ≤ nt ∧ i = .int .i64 kt ∧ Hid (GQ 56 4 Wdn.cells (fun _ _ v => v.Ok) id wNt.heap.size wr A kt c yst (pRep pDn kt s1t).1 (pRep pDn kt s1t).2.2) ∧ Hid (Blk wr gt 132 #[.int .i64 i0, .slice A kt c]) ∧ Hid (Qs wr F g (pRep pDn kt s1t).2) ∧ Hid (Fr [g, gt] wNt wr)) (fun i _ => nt - (intOf i).toNat)
          case atStart => exact ⟨0, none, 0, [], by omega, rfl, Lib.hid (GQ.nil _), HXnt, HRnt, Lib.hid (Fr.refl _ _)⟩
          case round =>
           obtain ⟨kt, A4t, c4t, yst, hkt, rfl, HQQt, HXt, HQt, HFt⟩ := hrel
           have hkSt : (kt : Int) + 1 ≤ 1000 := by have := HNt.out; omega
           have hk0t : (0 : Int) ≤ kt := by omega
           obtain ⟨Rt, bdt, hstt⟩ : ∃ Rt bdt, (pRep pDn kt s1t).2 = (Rt, bdt) := ⟨_, _, rfl⟩
           have HSTt := Lib.hid hstt
           rw [hstt] at HQt HQQt
           by_cases hlt : kt < nt
           · have HKNt : Hid (kt ≤ nt) := Lib.hid (by omega)
             have HKLt : Hid (kt < nt) := Lib.hid hlt
             obtain ⟨A', n', c', hA', hb', hy', hnc'⟩ := HQt.out.rd
             have hbc := hb'.cell 1
             simp at hbc
             clear hA' hb' hy' hnc' hstt
             cases bdt
             · have hknt : (kt : Int) < nt := by omega
               have HXCt : Hid (wr.cell? ⟨gt, 1, none⟩ = some (.slice A4t kt c4t)) := Lib.hid (by have h := HXt.out.cell 1; simpa using h)
               have HNW : Hid (¬ gt ∈ g :: bk A4t) := Lib.hid (by have h1 := HGT.out; have h2 := HG.out; have h3 := HSZt.out; intro hm; rcases List.mem_cons.1 hm with h | h; omega; have := HQQt.out.new _ h; omega)
               have HPEt : Hid (pRep pDn (kt + 1) s1t = ((pRep pDn kt s1t).1 ++ [(pDn (Rt, false)).1], (pDn (Rt, false)).2)) := Lib.hid (by
                show ((pRep pDn kt s1t).1 ++ [(pDn (pRep pDn kt s1t).2).1], (pDn (pRep pDn kt s1t).2).2) = _
                rw [HSTt.out])
               clear hlt
               go_upto_region 21 with (fail)
               clear hbc
               refine wp_region_till 7 (Fr (g :: gt :: bk A4t) wr) (Fr (g :: bk A4t) wr) (by kernel_rfl) (Fr.drew (Fr.refl _ wr)) (Fr.drew (Fr.refl _ wr)) (fun hA hB => ?_)
               have HWD : Hid (Fr [] wr wr.drew) := Lib.hid (Fr.drew (Fr.refl [] wr))
               have HQd := Lib.hid (HQt.out.fr (Fr.drew (Fr.refl [] wr)) (by simp) (by simp))
               have HQQd := Lib.hid (HQQt.out.keep (fun h _ _ => h) (Fr.drew (Fr.refl [] wr)) (by simp))
               have HSd : Hid (wr.drew.heap.size = wr.heap.size ∧ wNt.heap.size ≤ wr.heap.size) := Lib.hid ⟨rfl, HFt.out.size⟩
               have HXd := Lib.hid (HXt.out.keep (Fr.drew (Fr.refl [] wr)) (by simp))
               have HFd : Hid (Fr [g, gt] wNt wr.drew) := Lib.hid (Fr.drew HFt.out)
               generalize wr.drew = wd at *
               refine till_run (i := 0) (v := ?_) rfl (by kernel_rfl) (by rfl) (fun _ _ _ h => h) hA hB (fun w1 hw1 => ?_) ?_
               rotate_left 1
               · skip
                 go_simp
                 try first | with_reducible rfl | apply And.intro <;> rfl
               simp only [xPa, xPb, xPc, xPd, xPe]
               refine till_run (i := 1) (v := ?_) rfl (by kernel_rfl) (by rfl) (fun _ _ _ h => h) hA hB (fun w1 hw1 => ?_) ?_
               rotate_left 1
               · skip
                 have hcw0 := hw1.cell (HXCt.out) (by first | (simp; done) | exact HNS.out | exact HNW.out)
                 go_simp
                 try first | with_reducible rfl | apply And.intro <;> rfl
               simp only [xPa, xPb, xPc, xPd, xPe]
               refine till_run (i := 2) (v := ?_) rfl (by kernel_rfl) (by rfl) (fun _ _ _ h => h) hA hB (fun w1 hw1 => ?_) ?_
               rotate_left 1
               · skip
                 go_simp
                 try first | with_reducible rfl | apply And.intro <;> rfl
               simp only [xPa, xPb, xPc, xPd, xPe]
               refine till_call (i := 3) (f := ?_) (args := ?_) rfl (by kernel_rfl) (by rfl) ?_ ?_
               rotate_left 2
               · go_simp
                 try first | with_reducible rfl | apply And.intro <;> rfl
               refine (qDenyI_any wd F g _ HQd.out).mono ?_
               rintro e_ w5 ⟨y, rfl, hyc, hyok, h1, h2⟩
               have HQ5 := Lib.hid h1
               have HF5 : Hid (Fr [g] wd w5) := Lib.hid h2
               have HYC := Lib.hid hyc
               have HYOK := Lib.hid hyok
               refine ⟨_, rfl, ⟨hA.trans h2 (fun x hx _ => by simp at hx; simp [hx]), hB.trans h2 (fun x hx _ => by simp at hx; simp [hx])⟩, fun hB => ?_⟩
               replace hA := hA.trans h2 (fun x hx _ => by simp at hx; simp [hx])
               have HD : Hid ((Wdn.cells y).length = 4) := Lib.hid (Wdn.len y)
               have HD1 : Hid (∀ u ∈ Wdn.cells y, u.oneCell' = true) := Lib.hid (Wdn.one y)
               have HO5 := Lib.hid (own_keep HQQd.out.own h2 (fun q hq hm => by have h1 := HQQd.out.new q ((bk_mem A4t kt c4t q).1 hq); have h2 := HG.out; have h3 := HSZt.out; simp at hm; omega))
               have HX5 := Lib.hid (HXd.out.keep h2 (by have h1 := HGT.out; have h2 := HG.out; simp; omega))
               clear h1 h2 hyc hyok
               obtain ⟨D, hD⟩ : ∃ D, Wdn.cells y = D := ⟨_, rfl⟩
               have HDY := Lib.hid hD
               rw [hD] at HD HD1 ⊢
               clear hD
               simp only [xPa, xPb, xPc, xPd, xPe]
               refine till_stepQ (i := 4) rfl (by kernel_rfl) (by rfl) (fun K hK => ?_)
               refine wp_build_one 130 56 _ rfl Tryz.underlying130 D 32 (by rw [HD.out]; exact el_deny) rfl (by rw [HD.out]; decide) (by rw [HD.out]; decide) ?_
               refine hK.out _ _ (hA.alloc _) (hB.alloc _) (fun hA hB => ?_)
               clear hK K
               simp only [xPa, xPb, xPc, xPd, xPe]
               refine till_stepQ (i := 5) rfl (by kernel_rfl) (by rfl) (fun K hK => ?_)
               refine wp_append_oneq _ _ 130 56 rfl Tryz.underlying130 4 32 el_deny (by decide) 0 (.slice A4t kt c4t) kt _ D rfl (HO5.out.alloc _) (Nat.zero_le _) HD.out HD1.out w5.heap.size 56 rfl (Blk.new _ _ _) (by have := HKLt.out; have := HNt.out; omega) (by decide) ?_
               intro A9 c9 w9 ho9 hf9 hb9
               rw [bk_own] at hf9
               have HF9 : Hid (Fr (bk A4t) w5 w9) := Lib.hid ((((Fr.refl [] w5).alloc _).mono (by simp)).trans hf9 (fun x hx _ => hx))
               have HB9 : Hid (∀ q ∈ bk A9, q ∈ bk A4t ∨ w5.heap.size ≤ q) := Lib.hid (by
                intro q hq
                rw [← bk_own A9 (kt + 1) c9] at hq
                rcases hb9 with h | h
                · rw [h, bk_own] at hq; exact .inl hq
                · rw [h] at hq; simp at hq; exact .inr (by omega))
               have HO9 := Lib.hid ho9
               refine hK.out _ _ (hA.trans hf9 (fun x hx _ => by simp [hx])) (hB.trans hf9 (fun x hx _ => by simp [hx])) (fun hA hB => ?_)
               clear hK K ho9 hf9 hb9
               have HX9 := Lib.hid (HX5.out.keep HF9.out (fun hm => HNW.out (by simp [hm])))
               have HGS := Lib.hid (HQQd.out.step (fun h _ _ => h) (y' := (pDn (Rt, false)).1) (bad' := (pDn (Rt, false)).2.2) (by have := HKLt.out; have := HNt.out; omega) (by have := HSZt.out; have := HG.out; omega) (by have := HSd.out; omega) HF5.out HYOK.out (fun hb => ⟨rfl, HYC.out hb⟩) (by have h := HO9.out; rw [← HDY.out] at h; exact h) HF9.out HB9.out)
               simp only [xPa, xPb, xPc, xPd, xPe]
               refine till_stepQ (i := 6) rfl (by kernel_rfl) (by rfl) (fun K hK => ?_)
               refine wp_run (v := ?_) (w' := ?_) ?_ ?_
               rotate_left 2
               · go_simp
                 try first | with_reducible rfl | apply And.intro <;> rfl
               refine hK.out _ _ hA hB (fun hA hB => ?_)
               clear hK K
               simp only [xPa, xPb, xPc, xPd, xPe]
               refine till_step (i := 7) rfl (by kernel_rfl) (by kernel_rfl) (by rfl) (fun K hK => ?_)
               refine wp_store_at 130 _ _ rfl gt 1 (.slice A9 (kt + 1) c9) rfl rfl rfl 132 _ HX9.out (by simp) (by kernel_rfl) ?_
               have hb7 : Blk (w9.setCells gt 1 [.slice A9 (kt + 1) c9]) gt 132 #[.int .i64 i0, .slice A9 (kt + 1) c9] := Blk.mid_at [.slice A9 (kt + 1) c9] [.slice A4t kt c4t] [.int .i64 i0] [] 1 rfl rfl _ _ rfl rfl HX9.out
               have HB7 := Lib.hid hb7
               have HF7 : Hid (Fr [gt] w9 (w9.setCells gt 1 [.slice A9 (kt + 1) c9])) := Lib.hid (Fr.setCells (fun _ => by simp) _ _ _ (Fr.refl _ _))
               refine hK.out _ _ (hA.trans HF7.out (fun q hq _ => by simp at hq; simp [hq])) (fun hA => ?_)
               clear hK K hb7
               generalize w9.setCells gt 1 [.slice A9 (kt + 1) c9] = w10 at *
               simp only [xPa, xPb, xPc, xPd, xPe]
               refine till_done (by kernel_rfl) ?_ _
               have HG10 := Lib.hid (HGS.out.keep (fun h _ _ => h) HF7.out (by intro q hq; simp at hq; subst hq; exact HSZt.out.2))
               have HFF : Hid (Fr [g, gt] wNt w10) := Lib.hid (((HFd.out.trans HF5.out (fun x hx _ => by simp at hx; simp [hx])).trans HF9.out (fun x hx hl => by have := HQQd.out.new x hx; omega)).trans HF7.out (fun x hx _ => by simp at hx; simp [hx]))
               have HQ10 := Lib.hid ((HQ5.out.fr HF9.out (fun hm => by have h1 := HQQd.out.new _ hm; have h2 := HG.out; have h3 := HSZt.out; omega) (fun q hq hm => by have h1 := HQQd.out.new q hm; have h2 := HFL.out q hq; have h3 := HSZt.out; omega)).fr HF7.out (by have h1 := HGT.out; have h2 := HG.out; simp; omega) (fun q hq hm => by have h1 := HGT.out; have h2 := HFL.out q hq; simp at hm; omega))
               clear hA
               go_wp2
               go_roundw
               case rel => exact ⟨kt + 1, A9, c9, yst ++ [y], by have := HKLt.out; omega, by go_num, by rw [HPEt.out]; exact HG10, HB7, by rw [HPEt.out]; exact HQ10, HFF⟩
               case measure => have := HKLt.out; simp [intOf]; omega
             · skip
               have HENDt : Hid (pRep pDn nt s1t = ((pRep pDn nt s1t).1, ([], true))) := Lib.hid (by
                have h3 : Rt = [] := HQt.out.bz rfl
                have h2 := HSTt.out
                rw [h3] at h2
                have h4 := pRep_stop pDn_stop h2 (nt - kt)
                rw [show kt + (nt - kt) = nt by have := HKLt.out; omega] at h4
                rw [← h4])
               have HREt : Hid (Rt = []) := Lib.hid (HQt.out.bz rfl)
               rw [HREt.out] at HQt
               have HGFt : Hid (GQ 56 4 Wdn.cells (fun _ _ v => v.Ok) id wNt.heap.size wr A4t kt c4t yst (pL pDn zi).1 (pL pDn zi).2.2) := Lib.hid (by rw [HPLt.out, HENDt.out]; exact HQQt.out.fail)
               have HQFt : Hid (Qs wr F g (pL pDn zi).2) := Lib.hid (by rw [HPLt.out, HENDt.out]; exact HQt.out)
               have hknt : (kt : Int) < nt := by omega
               clear hlt
               go_wp2_with fail
               all_goals
                go_meet
                exact ⟨A4t, kt, c4t, yst, HGFt, HXt, HQFt, HFt⟩
           · have hknt : nt = kt := by omega
             subst hknt
             have HGFt : Hid (GQ 56 4 Wdn.cells (fun _ _ v => v.Ok) id wNt.heap.size wr A4t nt c4t yst (pL pDn zi).1 (pL pDn zi).2.2) := Lib.hid (by rw [HPLt.out, HSTt.out]; exact HQQt.out)
             have HQFt : Hid (Qs wr F g (pL pDn zi).2) := Lib.hid (by rw [HPLt.out, HSTt.out]; exact HQt.out)
             clear hlt hkt hstt
             go_wp2_with fail
             all_goals
              go_meet
              exact ⟨A4t, nt, c4t, yst, HGFt, HXt, HQFt, HFt⟩
         case rest =>
          obtain ⟨A6, m6, c6, zs, HGQt, HXt, HQt, HFt⟩ := hcut
          rename World => w7
          have HW7 : Hid (Fr [g] wr w7) := Lib.hid ((HW6.out.trans HFnt.out (fun x hx _ => hx)).trans HFt.out (fun x hx hl => by have h1 := HGT.out; simp at hx; simp; omega))
          have HX7 := Lib.hid (HX.out.keep HW7.out (by have h1 := HGX.out; have h2 := HG.out; simp; omega))
          have HO7 := Lib.hid (own_keep HQQ.out.own HW7.out (fun q hq hm => by have h1 := HQQ.out.new q ((bk_mem A4 k c4 q).1 hq); have h2 := HG.out; have h3 := HSZ3.out; simp at hm; omega))
          have HPTE : Hid (pTb (R, false) = (⟨i0, (pL pDn zi).1⟩, (pL pDn zi).2)) := HPT
          have HYOK : Hid (∀ S0 : List Nat, (∀ q ∈ S0, q < wr.heap.size) → Wtb.Li w7 S0 ⟨i0, A6, m6, c6, zs⟩) := Lib.hid (fun S0 h0 => by
           obtain ⟨h1, h2⟩ := HGQt.out.lst (fun _ _ v _ => Wdn.len v) (S0 := S0) (fun q hq => by have h1 := h0 q hq; have h2 := HW6.out.size; have h3 := HFnt.out.size; omega)
           exact ⟨HI0.out, h1, HGQt.out.few, h2⟩)
          have HYC : Hid ((pL pDn zi).2.2 = false → Wtb.con ⟨i0, A6, m6, c6, zs⟩ = (⟨i0, (pL pDn zi).1⟩ : Ctb)) := Lib.hid (fun hb => by
           have h1 := HGQt.out.con hb
           rw [List.map_id] at h1
           unfold Wtb.con
           simp only [h1])
          clear HPLt HNt HRnt HXnt HGQt HW6 HFt HFnt
          generalize (pL pDn zi).1 = lt at *
          generalize (pL pDn zi).2 = zt at *
          obtain ⟨D, hD⟩ : ∃ D : List Value, [.int .i64 i0, .slice A6 m6 c6] = D := ⟨_, rfl⟩
          have HD : Hid (D.length = 2) := Lib.hid (by rw [← hD]; rfl)
          have HD1 : Hid (∀ u ∈ D, u.oneCell' = true) := Lib.hid (by rw [← hD]; exact Wtb.one ⟨i0, A6, m6, c6, zs⟩)
          have HXD : Hid (Blk w7 gt 132 D.toArray) := Lib.hid (by rw [← hD]; exact HXt.out)
          have HDY : Hid (Wtb.cells ⟨i0, A6, m6, c6, zs⟩ = D) := Lib.hid hD
          have hc4 := HX7.out.cell 4
          simp at hc4
          clear hD
          go_wp2_with (first
           | (refine wpList_row rfl 132 _ rfl _ _ rfl _ HXD.out.range (row_tmQ.of HD.out) ?_)
           | (refine wpList_build_one rfl 43 132 _ rfl Tryz.underlying43 D 32 (by rw [HD.out]; exact el_tomb) rfl (by rw [HD.out]; decide) (by rw [HD.out]; decide) ?_)
           | (at_builtin; refine Stop.mk ?_))
          refine Stop.go ?_
          refine wpList_append_one2 rfl _ _ 43 132 rfl Tryz.underlying43 2 32 el_tomb (by decide) 0 (.slice A4 k c4) k _ D rfl (HO7.out.alloc _) (Nat.zero_le _) HD.out HD1.out w7.heap.size 132 rfl (Blk.new _ _ _) (by have := HKL.out; have := HN3.out; omega) (by decide) ?_
          intro A9 c9 w9 ho9 hf9 hb9
          rw [bk_own] at hf9
          have HF9 : Hid (Fr (bk A4) w7 w9) := Lib.hid ((((Fr.refl [] w7).alloc _).mono (by simp)).trans hf9 (fun x hx _ => hx))
          have HB9 : Hid (∀ q ∈ bk A9, q ∈ bk A4 ∨ w7.heap.size ≤ q) := Lib.hid (by
           intro q hq
           rw [← bk_own A9 (k + 1) c9] at hq
           rcases hb9 with h | h
           · rw [h, bk_own] at hq; exact .inl hq
           · rw [h] at hq; simp at hq; exact .inr (by omega))
          have HO9 := Lib.hid ho9
          have HX9 := Lib.hid (HX7.out.keep HF9.out (fun hm => HNS.out (by simp [hm])))
          have HGS := Lib.hid (HQQ.out.step Wtb.Li.keep (y := ⟨i0, A6, m6, c6, zs⟩) (y' := (pTb (R, false)).1) (bad' := (pTb (R, false)).2.2) (by have := HKL.out; have := HN3.out; omega) (by have := HSZ3.out; have := HG.out; omega) (by have := HGT.out; omega) HW7.out HYOK.out (fun hb => ⟨rfl, by rw [HPTE.out] at hb ⊢; exact HYC.out hb⟩) (by have h := HO9.out; rw [← HDY.out] at h; exact h) HF9.out HB9.out)
          have hc49 := HX9.out.cell 4
          simp at hc49
          have hz49 := HX9.out.frozen 4
          have hb7 : Blk (w9.setCell ⟨gx, 4, none⟩ (.slice A9 (k + 1) c9)) gx 45 #[.int .i64 e0, .int .u64 (t0 : Int), .slice A1 m1 c1, .slice A2 m2 c2, .slice A9 (k + 1) c9] := HX9.out.set 4 (.slice A9 (k + 1) c9)
          have HB7 := Lib.hid hb7
          have HF7 : Hid (Fr [gx] w9 (w9.setCell ⟨gx, 4, none⟩ (.slice A9 (k + 1) c9))) := Lib.hid ((Fr.refl [gx] w9).setCell _ (fun _ => by simp) _)
          have HG10 := Lib.hid (HGS.out.keep Wtb.Li.keep HF7.out (by intro q hq; simp at hq; subst hq; exact HSZ3.out.2))
          have HFF : Hid (Fr [g, gx] wN3 (w9.setCell ⟨gx, 4, none⟩ (.slice A9 (k + 1) c9))) := Lib.hid (((HF.out.trans HW7.out (fun x hx _ => by simp at hx; simp [hx])).trans HF9.out (fun x hx hl => by have := HQQ.out.new x hx; omega)).trans HF7.out (fun x hx _ => by simp at hx; simp [hx]))
          have HQ10 := Lib.hid ((HQt.out.fr HF9.out (fun hm => by have h1 := HQQ.out.new _ hm; have h2 := HG.out; have h3 := HSZ3.out; omega) (fun q hq hm => by have h1 := HQQ.out.new q hm; have h2 := HFL.out q hq; have h3 := HSZ3.out; omega)).fr HF7.out (by have h1 := HGX.out; have h2 := HG.out; simp; omega) (fun q hq hm => by have h1 := HGX.out; have h2 := HFL.out q hq; simp at hm; omega))
          clear ho9 hf9 hb9 hb7 hc4
          go_wp2
          go_roundw
          case rel => exact ⟨k + 1, A9, c9, ys ++ [⟨i0, A6, m6, c6, zs⟩], by have := HKL.out; omega, by go_num, by rw [HPE.out]; exact HG10, HB7, by rw [HPE.out, HPTE.out]; exact HQ10, HFF⟩
          case measure => have := HKL.out; simp [intOf]; omega
       · skip
         have HEND : Hid (pRep pTb n3 s13 = ((pRep pTb n3 s13).1, ([], true))) := Lib.hid (by
          have h3 : R = [] := HQ.out.bz rfl
          have h2 := HST.out
          rw [h3] at h2
          have h4 := pRep_stop pTb_stop h2 (n3 - k)
          rw [show k + (n3 - k) = n3 by have := HKL.out; omega] at h4
          rw [← h4])
         have HRE : Hid (R = []) := Lib.hid (HQ.out.bz rfl)
         rw [HRE.out] at HQ
         have HGF : Hid (GQ 132 2 Wtb.cells (fun w S v => v.Li w S) Wtb.con wN3.heap.size wr A4 k c4 ys (pL pTb z2).1 (pL pTb z2).2.2) := Lib.hid (by rw [HPL3.out, HEND.out]; exact HQQ.out.fail)
         have HQF : Hid (Qs wr F g (pL pTb z2).2) := Lib.hid (by rw [HPL3.out, HEND.out]; exact HQ.out)
         have hkn : (k : Int) < n3 := by omega
         clear hlt
         go_wp2_with fail
         all_goals
          go_meet
          exact ⟨A4, k, c4, ys, HGF, HX, HQF, HF⟩
     · have hkn : n3 = k := by omega
       subst hkn
       have HGF : Hid (GQ 132 2 Wtb.cells (fun w S v => v.Li w S) Wtb.con wN3.heap.size wr A4 n3 c4 ys (pL pTb z2).1 (pL pTb z2).2.2) := Lib.hid (by rw [HPL3.out, HST.out]; exact HQQ.out)
       have HQF : Hid (Qs wr F g (pL pTb z2).2) := Lib.hid (by rw [HPL3.out, HST.out]; exact HQ.out)
       clear hlt hk hst
       go_wp2_with fail
       all_goals
        go_meet
        exact ⟨A4, n3, c4, ys, HGF, HX, HQF, HF⟩
   case rest =>
    obtain ⟨A3, m3, c3, ys3, HGQ3, HX3, HQ3, HFc⟩ := hcut
    rename World => wx3
    have HGA3 := Lib.hid ((HGA.out.keep Wpr.Li.keep HFn3.out (by intro q hq; simp at hq; subst hq; have := HSZ1.out; have := HG.out; omega)).keep Wpr.Li.keep HFc.out (by intro q hq; simp at hq; have := HSZ1.out; have := HG.out; omega))
    have HGB3 := Lib.hid ((HGQ2.out.keep Wop.Ok.keep HFn3.out (by intro q hq; simp at hq; subst hq; have := HSZ2.out; have := HG.out; omega)).keep Wop.Ok.keep HFc.out (by intro q hq; simp at hq; have := HSZ2.out; have := HG.out; omega))
    have HBx3 : Hid (Blk wx3 w.heap.size 45 zBaL.toArray) := Lib.hid ((HBx2.out.keep HFn3.out (by have := HG.out; simp; omega)).keep HFc.out (by have := HG.out; have := HGX.out; simp; omega))
    have HW3 : Hid (Fr [g] w wx3) := Lib.hid ((HW2.out.trans HFn3.out (fun x hx _ => hx)).trans HFc.out (fun x hx hl => by have h1 := HGX.out; simp at hx; simp; omega))
    have HBD3 : Hid ((pL pTb z2).2.2 = false → z2.2 = false) := Lib.hid (pL_badQ pTb_badQ)
    have HSZ3' : Hid (w.heap.size ≤ wN1.heap.size ∧ w.heap.size ≤ wN2.heap.size ∧ w.heap.size < wN3.heap.size ∧ w.heap.size < wN1.heap.size ∧ w.heap.size < wN2.heap.size) := Lib.hid (by have h1 := HSZ1.out; have h2 := HSZ2.out; have h3 := HSZ3.out; have h4 := HGX.out; omega)
    clear HPL3 HN3 HRn3 HXn3 HGA HGQ2 HBx2 HW2
    generalize (pL pTb z2).1 = q3 at *
    generalize (pL pTb z2).2 = z3 at *
    obtain ⟨V, hV⟩ : ∃ V, Wba.cells ⟨e0, t0, A1, m1, c1, ys1, A2, m2, c2, ys2, A3, m3, c3, ys3⟩ = V := ⟨_, rfl⟩
    have HVL : Hid (V.length = 5) := Lib.hid (by rw [← hV]; rfl)
    have HVO : Hid (V.toArray.all (·.oneCell') = true) := Lib.hid (by rw [← hV]; exact all_oneCell_toArray (Wba.one _))
    have HXV : Hid (Blk wx3 gx 45 V.toArray) := Lib.hid (by rw [← hV]; exact HX3.out)
    have HVV := Lib.hid hV
    have HVT : Hid ((Tryz.prog.info? 45).map (·.size) = some V.toArray.size) := Lib.hid (by rw [List.size_toArray, HVL.out]; kernel_rfl)
    clear hV
    go_wp2_with (first
     | (refine wpList_row rfl 45 _ rfl _ _ rfl _ HXV.out.range (row_bat.of HVL.out) ?_)
     | (refine wpList_store_blk rfl 45 _ _ rfl w.heap.size V.toArray rfl rfl 45 zBaL.toArray HBx3.out HVT.out (by simp only [List.size_toArray]; rw [HVL.out]; rfl) HVO.out ?_
        intro w9 hb hf
        have HB9 := Lib.hid hb
        have HF9 := Lib.hid hf
        clear hb hf))
    have HGA9 := Lib.hid (HGA3.out.keep Wpr.Li.keep HF9.out (by intro q hq; simp at hq; subst hq; have := HSZ3'.out; omega))
    have HGB9 := Lib.hid (HGB3.out.keep Wop.Ok.keep HF9.out (by intro q hq; simp at hq; subst hq; have := HSZ3'.out; omega))
    have HGC9 := Lib.hid (HGQ3.out.keep Wtb.Li.keep HF9.out (by intro q hq; simp at hq; subst hq; have := HSZ3'.out; omega))
    refine bodyPost_ret (v := .agg V.toArray) (results_cell_row Tryz.results52 _ _ w.heap.size 45 V.toArray _ _ rfl HB9.out Tryz.underlying45 rfl HVT.out) rfl ⟨⟨e0, t0, A1, m1, c1, ys1, A2, m2, c2, ys2, A3, m3, c3, ys3⟩, by rw [HVV.out], ?_, fun S0 h0 => ?_, ?_, ?_⟩
    · rw [HPC.out]
      intro hbad
      have hb2 := HBD3.out hbad
      have h1 := HGA9.out.con (HBD2.out hb2)
      have h2 := HGB9.out.con hb2
      have h3 := HGC9.out.con hbad
      unfold Wba.con
      simp only [h1, h2, h3]
    · obtain ⟨a1, a2⟩ := HGA9.out.lst (fun _ _ _ _ => rfl) (S0 := S0) (fun q hq => by have h1 := h0 q hq; have h2 := HSZ3'.out; omega)
      obtain ⟨b1, b2⟩ := HGB9.out.lst (fun _ _ _ h => Wop.len h.h) (S0 := S0) (fun q hq => by have h1 := h0 q hq; have h2 := HSZ3'.out; omega)
      obtain ⟨d1, d2⟩ := HGC9.out.lst (fun _ _ _ _ => rfl) (S0 := S0) (fun q hq => by have h1 := h0 q hq; have h2 := HSZ3'.out; omega)
      exact ⟨HIN.out.1, HIN.out.2, a1, HGA9.out.few, a2, b1, HGB9.out.few, b2, d1, HGC9.out.few, d2⟩
    · rw [HPC.out]
      exact HQ3.out.fr HF9.out (by have := HG.out; simp; omega) (fun q hq hm => by have := HFL.out q hq; simp at hm; omega)
    · exact HW3.out.trans HF9.out (fun x hx hl => by simp at hx; omega)
end Go.Proofs.YtdenpfcgghangaaGreat

namespace Go.Proofs.YtdenpfcgghangaaGreat
set_option maxRecDepth 100000
open Go.RowKit
set_option maxHeartbeats 1000000 in
theorem qVote_any {w : World} {F : List Nat} {g : Nat} {s : Ps} (hr : Qs w F g s) : Calls Tryz.prog 53 #[.pointer (some ⟨g, 0, none⟩)] w fun e w' => e = .returned (.agg (pVt s).1.cells.toArray) ∧ Qs w' F g (pVt s).2 ∧ Fr [g] w w' := by
 obtain ⟨wa, hwa⟩ : ∃ wa, wa = w.alloc (Obj.cells zVt 49) := ⟨_, rfl⟩
 have hf0 : Fr [] w wa := by rw [hwa]; exact (Fr.refl [] w).alloc _
 have HB : Hid (Blk wa w.heap.size 49 zVt) := Lib.hid (by rw [hwa]; exact Blk.new _ _ _)
 have HR := Lib.hid (hr.fr hf0 (by simp) (by simp))
 have HNF : Hid (¬ w.heap.size ∈ F) := Lib.hid (fun hm => by have := hr.lt _ hm; omega)
 have HG : Hid (g < w.heap.size) := Lib.hid hr.gt
 have HF0 := Lib.hid hf0
 have HWA := Lib.hid hwa
 clear hwa hf0 hr
 go_enter Tryz.func53, Tryz.ntmps53
 go_upto_region 1 with (fail)
 change Code.wp _ _ _ _ (w.alloc (Obj.cells zVt 49))
 rw [← HWA.out]
 go_wp2_with fail
 refine (qInt_any HR.out).mono ?_
 rintro e_ w1 ⟨rfl, h1, h2⟩
 have HR0 := Lib.hid h1
 have HF1 : Hid (Fr [g] wa w1) := Lib.hid h2
 clear h1 h2
 go_wp2_with fail
 refine (qInt_any HR0.out).mono ?_
 rintro e_ w2 ⟨rfl, h1, h2⟩
 have HR1 := Lib.hid h1
 have HF2 : Hid (Fr [g] wa w2) := Lib.hid (HF1.out.trans h2 (fun x hx _ => hx))
 clear h1 h2
 go_wp2_with fail
 refine (qInt_any HR1.out).mono ?_
 rintro e_ w3 ⟨rfl, h1, h2⟩
 have HR2 := Lib.hid h1
 have HF3 : Hid (Fr [g] wa w3) := Lib.hid (HF2.out.trans h2 (fun x hx _ => hx))
 clear h1 h2
 go_wp2_with fail
 refine (qInt_any HR2.out).mono ?_
 rintro e_ w4 ⟨rfl, h1, h2⟩
 have HR3 := Lib.hid h1
 have HF4 : Hid (Fr [g] wa w4) := Lib.hid (HF3.out.trans h2 (fun x hx _ => hx))
 clear h1 h2
 go_wp2_with fail
 refine (qHash_any HR3.out).mono ?_
 rintro e_ w5 ⟨rfl, h1, h2⟩
 have HR4 := Lib.hid h1
 have HF5 : Hid (Fr [g] wa w5) := Lib.hid (HF4.out.trans h2 (fun x hx _ => hx))
 clear h1 h2
 go_wp2_with fail
 refine (qSig_any HR4.out).mono ?_
 rintro e_ w6 ⟨rfl, h1, h2⟩
 have HR5 := Lib.hid h1
 have HF6 : Hid (Fr [g] wa w6) := Lib.hid (HF5.out.trans h2 (fun x hx _ => hx))
 clear h1 h2
 have HBE := Lib.hid (HB.out.keep HF6.out (by have := HG.out; simp; omega))
 have HBU : Hid (Tryz.prog.built 49 [(0, .int .i64 (pVt s).1.k), (1, .int .i64 (pVt s).1.e), (2, .int .i64 (pVt s).1.r), (3, .int .i64 (pVt s).1.p), (4, .agg ((pVt s).1.h.map by8).toArray), (5, .agg #[.int .i64 (pVt s).1.b, .int .i64 (pVt s).1.m])] = some (pVt s).1.cells.toArray) := Lib.hid (built_vtR _ _ _ _ _ _ _ (pVt_ok s).h)
 have HAL : Hid (((pVt s).1.cells.toArray : Array Value).all (·.oneCell') = true) := Lib.hid (all_oneCell_toArray (Wvt.one _))
 have HVS : Hid (((pVt s).1.cells.toArray : Array Value).size = 38) := Lib.hid (by rw [List.size_toArray]; exact Wvt.len (pVt_ok s).h)
 have HTS : Hid ((Tryz.prog.info? 49).map (·.size) = some ((pVt s).1.cells.toArray : Array Value).size) := Lib.hid (by rw [HVS.out]; kernel_rfl)
 obtain ⟨V, hV⟩ : ∃ V, V = ((pVt s).1.cells.toArray : Array Value) := ⟨_, rfl⟩
 have HV := Lib.hid hV
 rw [← hV] at HBU HAL HVS HTS
 clear hV
 go_wp2_with (first
  | (refine wpList_builtg rfl 49 _ rfl _ _ HBU.out rfl ?_)
  | (refine wpList_store_blk rfl 49 _ _ rfl w.heap.size V rfl rfl 49 zVt HBE.out HTS.out (by rw [HVS.out]; rfl) HAL.out ?_
     intro w9 hb9 hf9
     have HB9 := Lib.hid hb9
     have HF9 := Lib.hid hf9
     clear hb9 hf9))
 refine bodyPost_ret (v := .agg V) (results_cell_row Tryz.results53 _ _ w.heap.size 49 V _ _ rfl HB9.out Tryz.underlying49 rfl HTS.out) rfl ⟨by rw [HV.out], ?_, ?_⟩
 · exact HR5.out.fr HF9.out (by have := HG.out; simp; omega) (fun k hk hm => HNF.out (by simp at hm; exact hm ▸ hk))
 · exact Fr.unbox HF0.out HF6.out HF9.out (Nat.le_refl _)
end Go.Proofs.YtdenpfcgghangaaGreat

namespace Go.Proofs.YtdenpfcgghangaaGreat
open Go.RowKit
set_option maxRecDepth 100000
def wAck : List UInt8 := [97, 99, 107]
def Wst.ack (x : Wst) : List UInt8 := enc wAck.length ++ wAck ++ x.bare
end Go.Proofs.YtdenpfcgghangaaGreat

namespace Go.Proofs.YtdenpfcgghangaaGreat
open Go.RowKit
set_option maxRecDepth 100000
theorem Wvt.full_len {x : Wvt} (hx : x.Ok) : x.full.length ≤ 100 := by
 have b0 := Wvt.bare_len hx
 have b1 := encI_len x.b hx.b.2
 have b2 := encI_len x.m hx.m.2
 simp only [Wvt.full, sgL, List.length_append]
 omega
def Wen.val (x : Wen) : Value := .agg x.cells.toArray
def Wen.full (x : Wen) : List UInt8 := nmL x.c x.s ++ x.h ++ enc x.t
theorem Wen.full_len {x : Wen} (hx : x.Ok) : x.full.length ≤ 62 := by
 have b1 := encI_len x.c hx.c.2
 have b2 := encI_len x.s hx.s.2
 have b3 := hx.h
 have b4 := enc_ten hx.t
 simp only [Wen.full, nmL, List.length_append]
 omega
def Wpo.full (x : Wpo) : List UInt8 := x.head ++ x.k.full ++ sgL x.b x.m
structure Wpo.OkS (w : World) (S : List Nat) (x : Wpo) : Prop where
 e : i64In x.e
 r : i64In x.r
 v : i64In x.v
 p : i64In x.p
 k : x.k.Ok w S
 b : i64In x.b
 m : i64In x.m
theorem Wpo.full_len {w : World} {S : List Nat} {x : Wpo} (hx : x.OkS w S) : x.full.length ≤ 14100 := by
 have b0 := Wpo.head_len hx.e hx.r hx.v hx.p
 have b1 := Wba.full_len hx.k
 have b2 := encI_len x.b hx.b.2
 have b3 := encI_len x.m hx.m.2
 simp only [Wpo.full, sgL, List.length_append]
 omega
def Wdc.val (x : Wdc) : Value := .agg x.cells.toArray
def Wdc.full (x : Wdc) : List UInt8 := encI x.e ++ encI x.r ++ x.k.full ++ listL Wvt.full x.l
structure Wdc.Ok (w : World) (S : List Nat) (x : Wdc) : Prop where
 e : i64In x.e
 r : i64In x.r
 k : x.k.Ok w S
 l : Lst 38 Wvt.cells (fun _ v => v.Ok) w x.A x.n x.l
 n : x.n ≤ 5
 ap : 0 < x.n → ∀ a, x.A = some a → ¬ a.block ∈ S
theorem Wdc.len (x : Wdc) : x.cells.length = 8 := rfl
theorem row_dec : RowTy Tryz.prog 59 8 := ⟨by kernel_rfl, by kernel_rfl⟩
theorem Wdc.full_len {w : World} {S : List Nat} {x : Wdc} (hx : x.Ok w S) : x.full.length ≤ 14600 := by
 have b0 := encI_len x.e hx.e.2
 have b1 := encI_len x.r hx.r.2
 have b2 := Wba.full_len hx.k
 have b3 := encI_len (x.l.length : Int) (by have := hx.n; have := hx.l.1; omega)
 have b4 : (x.l.flatMap Wvt.full).length ≤ 5 * 100 := flat_len (fun v hv => Wvt.full_len (hx.l.2.1 v hv).2) (by have := hx.n; have := hx.l.1; omega)
 simp only [Wdc.full, listL, List.length_append]
 omega
end Go.Proofs.YtdenpfcgghangaaGreat

namespace Go.Proofs.YtdenpfcgghangaaGreat
open Go.RowKit
set_option maxRecDepth 100000
structure Wmg where
 q : Int
 f : Int
 t : Int
 cm : Wcm
 st : Wst
 ce : Wce
 ak : Wst
 e : Int
 r : Int
 tm : Nat
 pr : Wpr
 po : Wpo
 vt : Wvt
 i : Int
 en : Wen
 op : Wop
 dn : Wdn
 rp : List UInt8
 de : Wdc
def Wmg.cells (x : Wmg) : List Value := [.int .i64 x.q] ++ ([.int .i64 x.f] ++ ([.int .i64 x.t] ++ (x.cm.cells ++ (x.st.cells ++ (x.ce.cells ++ (x.ak.cells ++ ([.int .i64 x.e] ++ ([.int .i64 x.r] ++ ([.int .u64 (x.tm : Int)] ++ (x.pr.cells ++ (x.po.cells ++ (x.vt.cells ++ ([.int .i64 x.i] ++ (x.en.cells ++ (x.op.cells ++ (x.dn.cells ++ ([.string ⟨x.rp.toArray⟩] ++ (x.de.cells))))))))))))))))))
structure Wmg.Ok (w : World) (S : List Nat) (x : Wmg) : Prop where
 q : i64In x.q
 f : i64In x.f
 t : i64In x.t
 cm : x.cm.Ok
 st : x.st.Ok
 ce : x.ce.Ok w S
 ak : x.ak.Ok
 e : i64In x.e
 r : i64In x.r
 tm : x.tm < 18446744073709551616
 pr : x.pr.Ok w S
 po : x.po.OkS w S
 vt : x.vt.Ok
 i : i64In x.i
 en : x.en.Ok
 op : x.op.Ok w S
 dn : x.dn.Ok
 rp : x.rp.length ≤ 260
 de : x.de.Ok w S
theorem ra_head {w : World} {g o : Nat} {a b : List Value} (h : w.rangeAt g o (a ++ b)) : w.rangeAt g o a := fun j v hv => h j v (by rw [List.getElem?_append_left (List.getElem?_eq_some_iff.1 hv).1]; exact hv)
theorem ra_tail {w : World} {g o k : Nat} {a b : List Value} (h : w.rangeAt g o (a ++ b)) (hk : a.length = k) : w.rangeAt g (o + k) b := by
 intro j v hv
 have := h (k + j) v (by rw [List.getElem?_append_right (by omega), hk]; simpa using hv)
 rw [← Nat.add_assoc] at this
 exact this
structure Wmg.At (w : World) (g : Nat) (x : Wmg) : Prop where
 q : w.rangeAt g 0 ([.int .i64 x.q] : List Value)
 f : w.rangeAt g 1 ([.int .i64 x.f] : List Value)
 t : w.rangeAt g 2 ([.int .i64 x.t] : List Value)
 cm : w.rangeAt g 3 x.cm.cells
 st : w.rangeAt g 40 x.st.cells
 ce : w.rangeAt g 78 x.ce.cells
 ak : w.rangeAt g 116 x.ak.cells
 e : w.rangeAt g 154 ([.int .i64 x.e] : List Value)
 r : w.rangeAt g 155 ([.int .i64 x.r] : List Value)
 tm : w.rangeAt g 156 ([.int .u64 (x.tm : Int)] : List Value)
 pr : w.rangeAt g 157 x.pr.cells
 po : w.rangeAt g 163 x.po.cells
 vt : w.rangeAt g 174 x.vt.cells
 i : w.rangeAt g 212 ([.int .i64 x.i] : List Value)
 en : w.rangeAt g 213 x.en.cells
 op : w.rangeAt g 248 x.op.cells
 dn : w.rangeAt g 282 x.dn.cells
 rp : w.rangeAt g 286 ([.string ⟨x.rp.toArray⟩] : List Value)
 de : w.rangeAt g 287 x.de.cells
theorem Wmg.at_of {w W : World} {S : List Nat} {g : Nat} {x : Wmg} (hr : w.rangeAt g 0 x.cells) (hx : x.Ok W S) : x.At w g := by
 unfold Wmg.cells at hr
 have t0 := ra_tail hr (k := 1) (rfl)
 have t1 := ra_tail t0 (k := 1) (rfl)
 have t2 := ra_tail t1 (k := 1) (rfl)
 have t3 := ra_tail t2 (k := 37) (Wcm.len hx.cm.h)
 have t4 := ra_tail t3 (k := 38) (Wst.len hx.st.h)
 have t5 := ra_tail t4 (k := 38) (Wce.len hx.ce.k.h)
 have t6 := ra_tail t5 (k := 38) (Wst.len hx.ak.h)
 have t7 := ra_tail t6 (k := 1) (rfl)
 have t8 := ra_tail t7 (k := 1) (rfl)
 have t9 := ra_tail t8 (k := 1) (rfl)
 have t10 := ra_tail t9 (k := 6) (Wpr.len x.pr)
 have t11 := ra_tail t10 (k := 11) (Wpo.len x.po)
 have t12 := ra_tail t11 (k := 38) (Wvt.len hx.vt.h)
 have t13 := ra_tail t12 (k := 1) (rfl)
 have t14 := ra_tail t13 (k := 35) (Wen.len hx.en.h)
 have t15 := ra_tail t14 (k := 34) (Wop.len hx.op.h)
 have t16 := ra_tail t15 (k := 4) (Wdn.len x.dn)
 have t17 := ra_tail t16 (k := 1) (rfl)
 exact ⟨ra_head hr, ra_head t0, ra_head t1, ra_head t2, ra_head t3, ra_head t4, ra_head t5, ra_head t6, ra_head t7, ra_head t8, ra_head t9, ra_head t10, ra_head t11, ra_head t12, ra_head t13, ra_head t14, ra_head t15, ra_head t16, t17⟩
theorem Wpo.OkS.keep {w W : World} {S S' : List Nat} {x : Wpo} (h : x.OkS w S) (hf : Fr S w W) (hs : ∀ k ∈ S', k < w.heap.size → k ∈ S) : x.OkS W S' :=
 ⟨h.e, h.r, h.v, h.p, h.k.keep hf hs, h.b, h.m⟩
theorem Wdc.Ok.keep {w W : World} {S S' : List Nat} {x : Wdc} (h : x.Ok w S) (hf : Fr S w W) (hs : ∀ k ∈ S', k < w.heap.size → k ∈ S) : x.Ok W S' :=
 ⟨h.e, h.r, h.k.keep hf hs, h.l.keep' hf h.ap (fun _ _ h => h), h.n, fun hn a ha hin => h.ap hn a ha (hs _ hin (h.l.lt hn (by decide) (fun v hv => Wvt.len (h.l.2.1 v hv).2.h) a ha))⟩
theorem Wmg.Ok.keep {w W : World} {S S' : List Nat} {x : Wmg} (h : x.Ok w S) (hf : Fr S w W) (hs : ∀ k ∈ S', k < w.heap.size → k ∈ S) : x.Ok W S' :=
 ⟨h.q, h.f, h.t, h.cm, h.st, h.ce.keep hf hs, h.ak, h.e, h.r, h.tm, h.pr.keep hf hs, h.po.keep hf hs, h.vt, h.i, h.en, h.op.keep hf hs, h.dn, h.rp, h.de.keep hf hs⟩
set_option maxHeartbeats 2000000 in
theorem mput_i (x : Wmg) (hq : x.q = 11) (w : World) (S : List Nat) (g : Nat) (l : List UInt8) (hw : Wr w S g l) (hl : l.length + 70000 ≤ 1073741000) (hx : x.Ok w S) (C : List Value) (hC : x.cells = C) :
  Calls Tryz.prog 65 #[.pointer (some ⟨g, 0, none⟩), .agg C.toArray] w fun e w' => e = .returned (.bool true) ∧ Gr w S g (l ++ encI x.i) w' := by
 obtain ⟨wa, hwa⟩ : ∃ wa, wa = w.alloc (Obj.cells C.toArray 61) := ⟨_, rfl⟩
 have hf0 : Fr [] w wa := by rw [hwa]; exact (Fr.refl [] w).alloc _
 have hb0 : Blk wa w.heap.size 61 x.cells.toArray := by rw [hwa, hC]; exact Blk.new _ _ _
 have HNS : Hid (¬ w.heap.size ∈ S) := Lib.hid (fun h => by have := hw.lt _ h; omega)
 have HG0 := Lib.hid (Gr.refl (hw.keep hf0 (by simp)))
 have hat : x.At wa w.heap.size := Wmg.at_of hb0.range hx
 have hq0 : wa.cell? ⟨w.heap.size, 0, none⟩ = some (.int .i64 11) := by have h := hat.q 0 _ rfl; rw [hq] at h; exact h
 have HXA : Hid (x.Ok wa S) := Lib.hid (hx.keep (hf0.mono (T := S) (by simp)) (fun k hk _ => hk))
 have hi0 : wa.cell? ⟨w.heap.size, 212, none⟩ = some (.int .i64 x.i) := hat.i 0 _ rfl
 have HF0 := Lib.hid hf0
 have HWA := Lib.hid hwa
 have HL := Lib.hid hl
 have HX := Lib.hid hx
 clear hwa hf0 hb0 hat hl hw hx hC hq
 go_enter Tryz.func65, Tryz.ntmps65
 go_upto_region 1 with (fail)
 change Code.wp _ _ _ _ (w.alloc (Obj.cells C.toArray 61))
 rw [← HWA.out]
 go_wp2_with fail
 refine (HG0.out.call fun S1 k1 => int_any x.i HX.out.i.1 HX.out.i.2 _ S1 g _ k1 (by have h0 := HL.out; omega)).mono ?_
 rintro e w1 ⟨rfl, hg1⟩
 have HG1 := Lib.hid hg1
 clear hg1 HG0
 go_wp2_with fail
 go_ret
 exact ⟨rfl, (HG1.out.from_ HF0.out).eq rfl⟩
theorem row_ent : RowTy Tryz.prog 51 35 := ⟨by kernel_rfl, by kernel_rfl⟩
def Wmg.body (x : Wmg) : List UInt8 := if x.q = 1 then x.cm.full else if x.q = 2 then x.st.full else if x.q = 3 then x.ce.full else if x.q = 4 then x.ak.full else if x.q = 5 then encI x.e ++ encI x.r ++ enc x.tm else if x.q = 6 then x.pr.full else if x.q = 7 then x.po.full else if x.q = 8 then x.vt.full else if x.q = 9 then encI x.i ++ x.en.full else if x.q = 10 then x.op.full else if x.q = 11 then encI x.i else if x.q = 12 then x.dn.full else if x.q = 13 then encI x.i ++ (enc x.rp.length ++ x.rp) else if x.q = 14 then x.de.full else []
def Wmg.bytes (x : Wmg) : List UInt8 := encI x.q ++ encI x.f ++ encI x.t ++ x.body
theorem Wmg.body_1 {x : Wmg} (h : x.q = 1) : x.body = x.cm.full := by simp [Wmg.body, h]
theorem Wmg.body_2 {x : Wmg} (h : x.q = 2) : x.body = x.st.full := by simp [Wmg.body, h]
theorem Wmg.body_3 {x : Wmg} (h : x.q = 3) : x.body = x.ce.full := by simp [Wmg.body, h]
theorem Wmg.body_4 {x : Wmg} (h : x.q = 4) : x.body = x.ak.full := by simp [Wmg.body, h]
theorem Wmg.body_5 {x : Wmg} (h : x.q = 5) : x.body = encI x.e ++ encI x.r ++ enc x.tm := by simp [Wmg.body, h]
theorem Wmg.body_6 {x : Wmg} (h : x.q = 6) : x.body = x.pr.full := by simp [Wmg.body, h]
theorem Wmg.body_7 {x : Wmg} (h : x.q = 7) : x.body = x.po.full := by simp [Wmg.body, h]
theorem Wmg.body_8 {x : Wmg} (h : x.q = 8) : x.body = x.vt.full := by simp [Wmg.body, h]
theorem Wmg.body_9 {x : Wmg} (h : x.q = 9) : x.body = encI x.i ++ x.en.full := by simp [Wmg.body, h]
theorem Wmg.body_10 {x : Wmg} (h : x.q = 10) : x.body = x.op.full := by simp [Wmg.body, h]
theorem Wmg.body_11 {x : Wmg} (h : x.q = 11) : x.body = encI x.i := by simp [Wmg.body, h]
theorem Wmg.body_12 {x : Wmg} (h : x.q = 12) : x.body = x.dn.full := by simp [Wmg.body, h]
theorem Wmg.body_13 {x : Wmg} (h : x.q = 13) : x.body = encI x.i ++ (enc x.rp.length ++ x.rp) := by simp [Wmg.body, h]
theorem Wmg.body_14 {x : Wmg} (h : x.q = 14) : x.body = x.de.full := by simp [Wmg.body, h]
theorem Wmg.body_none {x : Wmg} (h : ¬ (1 ≤ x.q ∧ x.q ≤ 14)) : x.body = [] := by
 unfold Wmg.body
 rw [if_neg (by omega)]
 rw [if_neg (by omega)]
 rw [if_neg (by omega)]
 rw [if_neg (by omega)]
 rw [if_neg (by omega)]
 rw [if_neg (by omega)]
 rw [if_neg (by omega)]
 rw [if_neg (by omega)]
 rw [if_neg (by omega)]
 rw [if_neg (by omega)]
 rw [if_neg (by omega)]
 rw [if_neg (by omega)]
 rw [if_neg (by omega)]
 rw [if_neg (by omega)]
theorem Wmg.body_len {w : World} {S : List Nat} {x : Wmg} (hx : x.Ok w S) : x.body.length ≤ 15000 := by
 by_cases hm : 1 ≤ x.q ∧ x.q ≤ 14
 · have hs : x.q = 1 ∨ x.q = 2 ∨ x.q = 3 ∨ x.q = 4 ∨ x.q = 5 ∨ x.q = 6 ∨ x.q = 7 ∨ x.q = 8 ∨ x.q = 9 ∨ x.q = 10 ∨ x.q = 11 ∨ x.q = 12 ∨ x.q = 13 ∨ x.q = 14 := by omega
   rcases hs with h | h | h | h | h | h | h | h | h | h | h | h | h | h
   · rw [Wmg.body_1 h]
     have b0 := Wcm.full_len hx.cm
     omega
   · rw [Wmg.body_2 h]
     have b0 := Wst.full_len hx.st
     omega
   · rw [Wmg.body_3 h]
     have b0 := Wce.full_len hx.ce
     omega
   · rw [Wmg.body_4 h]
     have b0 := Wst.full_len hx.ak
     omega
   · rw [Wmg.body_5 h]
     have b0 := encI_len x.e hx.e.2
     have b1 := encI_len x.r hx.r.2
     have b2 := enc_ten hx.tm
     simp only [List.length_append]
     omega
   · rw [Wmg.body_6 h]
     have b0 := Wpr.full_len hx.pr
     omega
   · rw [Wmg.body_7 h]
     have b0 := Wpo.full_len hx.po
     omega
   · rw [Wmg.body_8 h]
     have b0 := Wvt.full_len hx.vt
     omega
   · rw [Wmg.body_9 h]
     have b0 := encI_len x.i hx.i.2
     have b1 := Wen.full_len hx.en
     simp only [List.length_append]
     omega
   · rw [Wmg.body_10 h]
     have b0 := Wop.full_len hx.op
     omega
   · rw [Wmg.body_11 h]
     have b0 := encI_len x.i hx.i.2
     omega
   · rw [Wmg.body_12 h]
     have b0 := Wdn.full_len hx.dn
     omega
   · rw [Wmg.body_13 h]
     have b0 := encI_len x.i hx.i.2
     have b1 := enc_ten (m := x.rp.length) (by have := hx.rp; omega)
     have b2 := hx.rp
     simp only [List.length_append]
     omega
   · rw [Wmg.body_14 h]
     have b0 := Wdc.full_len hx.de
     omega
 · rw [Wmg.body_none hm]
   exact Nat.zero_le _
end Go.Proofs.YtdenpfcgghangaaGreat

namespace Go.Proofs.YtdenpfcgghangaaGreat
open Go.RowKit
set_option maxRecDepth 100000
theorem row_msg : RowTy Tryz.prog 61 295 := ⟨by kernel_rfl, by kernel_rfl⟩
theorem Wmg.len {w : World} {S : List Nat} {x : Wmg} (hx : x.Ok w S) : x.cells.length = 295 := by
 simp only [Wmg.cells, List.length_append, List.length_cons, List.length_nil, Wcm.len hx.cm.h, Wst.len hx.st.h, Wce.len hx.ce.k.h, Wst.len hx.ak.h, Wpr.len, Wpo.len, Wvt.len hx.vt.h, Wen.len hx.en.h, Wop.len hx.op.h, Wdn.len, Wdc.len]
theorem Wmg.bytes_len {w : World} {S : List Nat} {x : Wmg} (hx : x.Ok w S) : x.bytes.length ≤ 15030 := by
 have b0 := encI_len x.q hx.q.2
 have b1 := encI_len x.f hx.f.2
 have b2 := encI_len x.t hx.t.2
 have b3 := Wmg.body_len hx
 simp only [Wmg.bytes, List.length_append]
 omega
def PackPost (w : World) (x : Wmg) (e : Ending) (w' : World) : Prop :=
 if 1 ≤ x.q ∧ x.q ≤ 14 then ∃ A c, e = .returned (.tuple #[.slice A x.bytes.length c, .bool true]) ∧ NewB w w' A x.bytes.length c x.bytes
 else e = .returned (.tuple #[.slice none 0 0, .bool false]) ∧ Fr [] w w'
end Go.Proofs.YtdenpfcgghangaaGreat

namespace Go.Proofs.YtdenpfcgghangaaGreat
open Go.RowKit
set_option maxRecDepth 100000
structure Wmg.Len (x : Wmg) : Prop where
 cm : x.cm.h.length = 32
 st : x.st.h.length = 32
 ce : x.ce.k.h.length = 32
 ak : x.ak.h.length = 32
 vt : x.vt.h.length = 32
 en : x.en.h.length = 32
 op : x.op.h.length = 32
def mh0 : List UInt8 := List.replicate 32 0
def mb0 : Wba := ⟨0, 0, none, 0, 0, [], none, 0, 0, [], none, 0, 0, []⟩
def mz (q f t : Int) : Wmg := ⟨q, f, t, ⟨0, 0, mh0, 0, 0, 0⟩, ⟨0, 0, 0, mh0, 0, 0, 0⟩, ⟨⟨0, 0, mh0, 0, 0, 0⟩, none, 0, 0, []⟩, ⟨0, 0, 0, mh0, 0, 0, 0⟩, 0, 0, 0, ⟨0, 0, 0, none, 0, 0, [], 0, 0⟩, ⟨0, 0, 0, 0, mb0, 0, 0⟩, ⟨0, 0, 0, 0, mh0, 0, 0⟩, 0, ⟨0, 0, mh0, 0⟩, ⟨0, none, 0, 0, [], mh0⟩, ⟨0, 0, 0, 0⟩, [], ⟨0, 0, mb0, none, 0, 0, []⟩⟩
theorem mz_len (q f t : Int) : (mz q f t).Len := ⟨rfl, rfl, rfl, rfl, rfl, rfl, rfl⟩
theorem Wmg.lenz {x : Wmg} (hx : x.Len) : x.cells.length = 295 := by
 simp only [Wmg.cells, List.length_append, List.length_cons, List.length_nil, Wcm.len hx.cm, Wst.len hx.st, Wce.len hx.ce, Wst.len hx.ak, Wpr.len, Wpo.len, Wvt.len hx.vt, Wen.len hx.en, Wop.len hx.op, Wdn.len, Wdc.len]
set_option maxHeartbeats 2000000 in
theorem mget_none (x : Wmg) (hq : ¬ (1 ≤ x.q ∧ x.q ≤ 14)) (w : World) (g gm : Nat) (hb : Blk w gm 61 x.cells.toArray) :
  Calls Tryz.prog 40 #[.pointer (some ⟨g, 0, none⟩), .pointer (some ⟨gm, 0, none⟩)] w fun e w' => e = .returned (.bool false) ∧ w = w' := by
 have hq0 : w.cell? ⟨gm, 0, none⟩ = some (.int .i64 x.q) := hb.range (cs := x.cells) 0 (.int .i64 x.q) rfl
 have HQ := Lib.hid hq
 clear hb hq
 go_enter Tryz.func40, Tryz.ntmps40
 have n1 : (x.q == (1 : Int)) = false := by have := HQ.out; simp; omega
 have n2 : (x.q == (2 : Int)) = false := by have := HQ.out; simp; omega
 have n3 : (x.q == (3 : Int)) = false := by have := HQ.out; simp; omega
 have n4 : (x.q == (4 : Int)) = false := by have := HQ.out; simp; omega
 have n5 : (x.q == (5 : Int)) = false := by have := HQ.out; simp; omega
 have n6 : (x.q == (6 : Int)) = false := by have := HQ.out; simp; omega
 have n7 : (x.q == (7 : Int)) = false := by have := HQ.out; simp; omega
 have n8 : (x.q == (8 : Int)) = false := by have := HQ.out; simp; omega
 have n9 : (x.q == (9 : Int)) = false := by have := HQ.out; simp; omega
 have n10 : (x.q == (10 : Int)) = false := by have := HQ.out; simp; omega
 have n11 : (x.q == (11 : Int)) = false := by have := HQ.out; simp; omega
 have n12 : (x.q == (12 : Int)) = false := by have := HQ.out; simp; omega
 have n13 : (x.q == (13 : Int)) = false := by have := HQ.out; simp; omega
 have n14 : (x.q == (14 : Int)) = false := by have := HQ.out; simp; omega
 go_wp2_with fail
 go_ret
 exact ⟨rfl, rfl⟩
theorem results_row_tmp {P : Program} {fn : Func} {p u : Tmp} {ty : TypeId} (h : fn.results = #[.cell p ty, .tmp u]) (tmps : Array Value) (w : World) (g : Nat) (t : TypeId) (cs : Array Value) (fr : Nat × Nat) (d : TypeDesc) (b : Value)
  (hp : tmps.getD p undef = .pointer (some ⟨g, 0, none⟩)) (hb : tmps.getD u undef = b) (hg : w.heap[g]? = some (.cells cs t fr))
  (hu : P.underlying ty = some d) (hd : (match d with | .struct _ | .array _ _ => true | _ => false) = true) (hi : (P.info? ty).map (·.size) = some cs.size) :
  (results fn tmps).run P w = .ok (.tuple #[.agg cs, b]) w := by
 rw [results_cell_tmp h, hp, hb]
 simp [asAddr, Result.andThen, run_loadVar_row w g t ty cs fr d hg hu hd hi]
theorem built_mg0 : Tryz.prog.built 61 [] = some (mz 0 0 0).cells.toArray := by kernel_rfl
theorem built_mg3 (q f t : Int) : Tryz.prog.built 61 [(0, .int .i64 q), (1, .int .i64 f), (2, .int .i64 t)] = some (mz q f t).cells.toArray := by kernel_rfl
theorem msg_size {x : Wmg} (hx : x.Len) : (Tryz.prog.info? 61).map (·.size) = some x.cells.toArray.size := by rw [List.size_toArray, Wmg.lenz hx]; kernel_rfl
theorem Wmg.one (x : Wmg) : ∀ v ∈ x.cells, v.oneCell' = true := by
 intro v hv
 simp only [Wmg.cells, List.mem_append, List.mem_singleton] at hv
 rcases hv with rfl | rfl | rfl | hv | hv | hv | hv | rfl | rfl | rfl | hv | hv | hv | rfl | hv | hv | hv | rfl | hv
 · rfl
 · rfl
 · rfl
 · exact Wcm.one _ v hv
 · exact Wst.one _ v hv
 · exact Wce.one _ v hv
 · exact Wst.one _ v hv
 · rfl
 · rfl
 · rfl
 · exact Wpr.one _ v hv
 · exact Wpo.one _ v hv
 · exact Wvt.one _ v hv
 · rfl
 · exact Wen.one _ v hv
 · exact Wop.one _ v hv
 · exact Wdn.one _ v hv
 · rfl
 · exact Wdc.one _ v hv
set_option maxHeartbeats 4000000 in
theorem munpack_bad (A : Option Addr) (n c : Nat) (l : List UInt8) (w : World) (hy : By w A n l) (hn : n ≤ 65536) (hq : ¬ (1 ≤ (pI (l, false)).1 ∧ (pI (l, false)).1 ≤ 14)) :
  Calls Tryz.prog 10 #[.slice A n c] w fun e w' => e = .returned (.tuple #[.agg (mz 0 0 0).cells.toArray, .bool false]) ∧ Fr [] w w' := by
 obtain ⟨Z, hZ⟩ : ∃ Z, Z = (mz 0 0 0).cells.toArray := ⟨_, rfl⟩
 obtain ⟨wa, hwa⟩ : ∃ wa, wa = w.alloc (Obj.cells Z 61) := ⟨_, rfl⟩
 have hf0 : Fr [] w wa := by rw [hwa]; exact (Fr.refl [] w).alloc _
 have HBZ : Hid (Blk wa w.heap.size 61 Z) := Lib.hid (by rw [hwa]; exact Blk.new _ _ _)
 have HWS : Hid (wa.heap.size = w.heap.size + 1) := Lib.hid (by rw [hwa]; simp)
 have HY := Lib.hid (hy.keep hf0 (by simp))
 have HN := Lib.hid hn
 have HLN := Lib.hid hy.1
 have HF0 := Lib.hid hf0
 have HWA := Lib.hid hwa
 have HZ := Lib.hid hZ
 have HZT : Hid ((Tryz.prog.info? 61).map (·.size) = some Z.size) := Lib.hid (by rw [hZ]; exact msg_size (mz_len 0 0 0))
 have HZO : Hid (Z.all (·.oneCell') = true) := Lib.hid (by rw [hZ]; exact all_oneCell_toArray (Wmg.one _))
 have HB0 : Hid (Tryz.prog.built 61 [] = some Z) := Lib.hid (by rw [hZ]; exact built_mg0)
 have hbig : ¬ (65536 < (n : Int)) := by omega
 have hbig2 : ¬ (65536 < n) := by omega
 have HQQ := Lib.hid hq
 clear hwa hf0 hy hn hZ hq
 go_enter Tryz.func10, Tryz.ntmps10
 go_upto_region 1 with (fail)
 change Code.wp _ _ _ _ (w.alloc (Obj.cells (mz 0 0 0).cells.toArray 61))
 rw [← HZ.out, ← HWA.out]
 go_wp2_with fail
 refine (newReader_any A n c l wa HY.out (by have := HN.out; omega)).mono ?_
 rintro e_ w1 ⟨g, F, rfl, h1, h2, h3, h4⟩
 have HR1 : Hid (Rs w1 F g (l, false)) := Lib.hid ⟨h1, by have := HLN.out; have := HN.out; simp only; omega, fun k hk => (h4 k hk).2⟩
 have HG : Hid (w.heap.size < g ∧ g < w1.heap.size) := Lib.hid ⟨by have := HWS.out; omega, h1.lt⟩
 have HNF : Hid (∀ k ∈ F, w.heap.size < k ∧ k < w1.heap.size) := Lib.hid (fun k hk => by have h := h4 k hk; have := HWS.out; omega)
 have HF1 : Hid (Fr [] w w1) := Lib.hid (HF0.out.and h2 (by simp))
 have HB1 := Lib.hid (HBZ.out.keep h2 (by simp))
 clear h1 h2 h3 h4 hbig hbig2
 go_wp2_with fail
 refine (getInt_any HR1.out).mono ?_
 rintro e_ w2 ⟨rfl, h1, h2⟩
 have HR2 := Lib.hid h1
 have HF2 : Hid (Fr [g] w1 w2) := Lib.hid h2
 clear h1 h2
 go_wp2_with fail
 refine (getInt_any HR2.out).mono ?_
 rintro e_ w3 ⟨rfl, h1, h2⟩
 have HR3 := Lib.hid h1
 have HF3 : Hid (Fr [g] w1 w3) := Lib.hid (HF2.out.trans h2 (fun x hx _ => hx))
 clear h1 h2
 go_wp2_with fail
 refine (getInt_any HR3.out).mono ?_
 rintro e_ w4 ⟨rfl, h1, h2⟩
 have HR4 := Lib.hid h1
 have HF4 : Hid (Fr [g] w1 w4) := Lib.hid (HF3.out.trans h2 (fun x hx _ => hx))
 clear h1 h2
 have HB4 := Lib.hid (HB1.out.keep HF4.out (by have := HG.out; simp; omega))
 have HS4 : Hid (w1.heap.size ≤ w4.heap.size) := Lib.hid HF4.out.size
 have HBN : Hid (Blk (w4.alloc (Obj.cells (mz 0 0 0).cells.toArray 61)) w4.heap.size 61 Z) := Lib.hid (by rw [HZ.out]; exact Blk.new _ _ _)
 obtain ⟨V, hV⟩ : ∃ V, V = (mz (pI (l, false)).1 (pI (pI (l, false)).2).1 (pI (pI (pI (l, false)).2).2).1).cells.toArray := ⟨_, rfl⟩
 have HBU : Hid (Tryz.prog.built 61 [(0, .int .i64 (pI (l, false)).1), (1, .int .i64 (pI (pI (l, false)).2).1), (2, .int .i64 (pI (pI (pI (l, false)).2).2).1)] = some V) := Lib.hid (by rw [hV]; exact built_mg3 _ _ _)
 have HVT : Hid ((Tryz.prog.info? 61).map (·.size) = some V.size) := Lib.hid (by rw [hV]; exact msg_size (mz_len _ _ _))
 have HVO : Hid (V.all (·.oneCell') = true) := Lib.hid (by rw [hV]; exact all_oneCell_toArray (Wmg.one _))
 have HVZ : Hid (Z.size = V.size) := Lib.hid (by rw [hV, HZ.out, List.size_toArray, List.size_toArray, Wmg.lenz (mz_len _ _ _), Wmg.lenz (mz_len _ _ _)])
 have HV := Lib.hid hV
 clear hV
 go_wp2_with (first
  | (refine wpList_builtg rfl 61 _ rfl _ _ HBU.out rfl ?_)
  | (refine wpList_store_blk rfl 61 _ _ rfl w4.heap.size V rfl rfl 61 Z HBN.out HVT.out HVZ.out HVO.out ?_
     intro w5 hb5 hf5
     have HB5 := Lib.hid hb5
     have HF5 := Lib.hid ((((Fr.refl [w4.heap.size] w4).alloc _)).trans hf5 (fun x hx _ => hx))
     clear hb5 hf5))
 have HR5 := Lib.hid (HR4.out.fr HF5.out (by have := HG.out; have := HS4.out; simp; omega) (fun k hk hm => by have := HNF.out k hk; have := HS4.out; simp at hm; omega))
 have HBZ5 := Lib.hid (HB4.out.keep HF5.out (by have := HG.out; have := HS4.out; simp; omega))
 refine (mget_none (mz (pI (l, false)).1 (pI (pI (l, false)).2).1 (pI (pI (pI (l, false)).2).2).1) HQQ.out w5 g w4.heap.size (by rw [← HV.out]; exact HB5.out)).mono ?_
 rintro e_ w6 ⟨rfl, rfl⟩
 have HFF6 : Hid (Fr [] w w5) := Lib.hid (HF1.out.trans ((HF4.out.mono (T := [g, w4.heap.size]) (fun q hq _ => by simp at hq; simp [hq])).trans HF5.out (fun q hq _ => by simp at hq; simp [hq])) (fun q hq hl => by have := HG.out; have := HS4.out; have := HF1.out.size; simp at hq; omega))
 go_wp2_with (first
  | (refine wpList_builtg rfl 61 _ rfl _ _ HB0.out rfl ?_)
  | (refine wpList_store_blk rfl 61 _ _ rfl w.heap.size Z rfl rfl 61 Z HBZ5.out HZT.out rfl HZO.out ?_
     intro w9 hb9 hf9
     have HB9 := Lib.hid hb9
     have HF9 := Lib.hid hf9
     clear hb9 hf9))
 refine bodyPost_ret (v := .tuple #[.agg Z, .bool false]) (results_row_tmp Tryz.results10 _ _ w.heap.size 61 Z _ _ (.bool false) rfl rfl HB9.out Tryz.underlying61 rfl HZT.out) rfl ⟨by rw [HZ.out], ?_⟩
 exact HFF6.out.trans HF9.out (fun q hq hl => by simp at hq; omega)
theorem munpack_nil (w : World) : Calls Tryz.prog 10 #[.slice none 0 0] w fun e w' => e = .returned (.tuple #[.agg (mz 0 0 0).cells.toArray, .bool false]) ∧ Fr [] w w' := munpack_bad none 0 0 [] w (By.nil w none) (by omega) (by decide)
end Go.Proofs.YtdenpfcgghangaaGreat

namespace Go.Proofs.YtdenpfcgghangaaGreat
open Go.RowKit
set_option maxRecDepth 100000
theorem Wpo.Li.keep {w W : World} {S S' : List Nat} {x : Wpo} (h : x.Li w S) (hf : Fr S w W) (hs : ∀ k ∈ S', k < w.heap.size → k ∈ S) : x.Li W S' :=
 ⟨h.e, h.r, h.v, h.p, h.k.keep hf hs, h.b, h.m⟩
theorem Wdc.Li.keep {w W : World} {S S' : List Nat} {x : Wdc} (h : x.Li w S) (hf : Fr S w W) (hs : ∀ k ∈ S', k < w.heap.size → k ∈ S) : x.Li W S' :=
 ⟨h.e, h.r, h.k.keep hf hs, h.l.keep' hf h.ap (fun _ _ h => h), h.n, fun hn a ha hin => h.ap hn a ha (hs _ hin (h.l.lt hn (by decide) (fun v hv => Wvt.len (h.l.2.1 v hv).2.h) a ha))⟩
theorem Blk.thereM {w : World} {g : Nat} {t : TypeId} {cs : Array Value} (h : Blk w g t cs) (o n : Nat) (hn : o + n ≤ cs.size) : w.there g o n := fun j hj => by
 have hc := h.cell (o + j)
 rw [Array.getElem?_eq_getElem (by omega)] at hc
 exact ⟨by rw [hc]; rfl, h.frozen (o + j)⟩
theorem Wmg.blk_cm {w : World} {g : Nat} {t : TypeId} {x : Wmg} (hx : x.Len) (v : Wcm) (hv : v.cells.length = 37) (hb : Blk w g t x.cells.toArray) : Blk (w.setCells g 3 v.cells) g t ({x with cm := v} : Wmg).cells.toArray :=
 Blk.mid_at v.cells x.cm.cells ([.int .i64 x.q] ++ ([.int .i64 x.f] ++ ([.int .i64 x.t]))) (x.st.cells ++ (x.ce.cells ++ (x.ak.cells ++ ([.int .i64 x.e] ++ ([.int .i64 x.r] ++ ([.int .u64 (x.tm : Int)] ++ (x.pr.cells ++ (x.po.cells ++ (x.vt.cells ++ ([.int .i64 x.i] ++ (x.en.cells ++ (x.op.cells ++ (x.dn.cells ++ ([.string ⟨x.rp.toArray⟩] ++ (x.de.cells))))))))))))))) 3 (by simp only [List.length_append, List.length_cons, List.length_nil]) (by rw [hv, Wcm.len hx.cm]) _ _ (by simp only [Wmg.cells, List.append_assoc, List.append_nil]) (by simp only [Wmg.cells, List.append_assoc, List.append_nil]) hb
set_option maxHeartbeats 2000000 in
theorem mget_cm (x : Wmg) (hz : x.Len) (hq : x.q = 1) (w : World) (F : List Nat) (g gm : Nat) (s : Ps) (hr : Rs w F g s) (hb : Blk w gm 61 x.cells.toArray) (hgm : gm ≠ g) (hF : ¬ gm ∈ F) :
  Calls Tryz.prog 40 #[.pointer (some ⟨g, 0, none⟩), .pointer (some ⟨gm, 0, none⟩)] w fun e w' => ∃ v : Wcm, e = .returned (.bool true) ∧ v = (pCm s).1 ∧ (∀ S0 : List Nat, (∀ q ∈ S0, q < w.heap.size) → v.Ok) ∧ Blk w' gm 61 ({x with cm := v} : Wmg).cells.toArray ∧ Rs w' F g (pCm s).2 ∧ Fr [g, gm] w w' := by
 have hq0 : w.cell? ⟨gm, 0, none⟩ = some (.int .i64 1) := by have h := hb.range (cs := x.cells) 0 (.int .i64 x.q) rfl; rw [hq] at h; exact h
 have HR := Lib.hid hr
 have HB := Lib.hid hb
 have HGM := Lib.hid hgm
 have HNF := Lib.hid hF
 have HZ := Lib.hid hz
 have HBS : Hid (x.cells.toArray.size = 295) := Lib.hid (by rw [List.size_toArray]; exact Wmg.lenz hz)
 clear hr hb hgm hF hq hz
 go_enter Tryz.func40, Tryz.ntmps40
 go_wp2_with fail
 refine ((gets_of (fun _ _ _ _ hr => getCommit_any hr) pCm_ok) w F g s HR.out).mono ?_
 rintro e w1 ⟨v, rfl, hcv, hok, h1, h2⟩
 have HB1 := Lib.hid (HB.out.keep h2 (by have := HGM.out; simpa using this))
 have HCV := Lib.hid hcv
 have HOK := Lib.hid hok
 have HR1 := Lib.hid h1
 have HF1 := Lib.hid h2
 have HVL : Hid (v.cells.length = 37) := Lib.hid (by have hok_ := hok [] (by simp); exact Wcm.len (hok_.h))
 have HONE : Hid (v.cells.toArray.all (·.oneCell') = true) := Lib.hid (all_oneCell_toArray (Wcm.one v))
 have HB2 := Lib.hid (Wmg.blk_cm HZ.out v HVL.out HB1.out)
 have HTH : Hid (w1.there gm 3 v.cells.toArray.size) := Lib.hid (HB1.out.thereM _ _ (by rw [List.size_toArray, HVL.out, HBS.out]; omega))
 have HSZ : Hid ((Tryz.prog.info? 29).map (·.size) = some v.cells.toArray.size) := Lib.hid (by rw [List.size_toArray, HVL.out]; kernel_rfl)
 have HF2 : Hid (Fr [gm] w1 (w1.setCells gm 3 v.cells)) := Lib.hid (Fr.setCells (fun _ => by simp) v.cells 3 w1 (Fr.refl _ _))
 clear hcv hok h1 h2
 obtain ⟨V, hV⟩ : ∃ V : List Value, V = v.cells := ⟨_, rfl⟩
 rw [← hV] at HVL HONE HTH HSZ HF2 HB2 ⊢
 have HVV := Lib.hid hV
 clear hV
 go_wp2_with (refine wpList_store_mid rfl 29 _ _ rfl gm 3 V.toArray rfl rfl HTH.out HSZ.out HONE.out ?_)
 change bodyPost _ _ _ _ _ (w1.setCells gm 3 V)
 generalize w1.setCells gm 3 V = w2 at *
 go_ret
 exact ⟨v, rfl, HCV.out, fun S0 h0 => HOK.out S0 h0, HB2.out, HR1.out.fr HF2.out (by have := HGM.out; simp; exact fun h => this h.symm) (fun q hq hm => HNF.out (by simp at hm; exact hm ▸ hq)), (HF1.out.mono (fun q hq _ => by simp at hq; simp [hq])).trans HF2.out (fun q hq _ => by simp at hq; simp [hq])⟩
theorem Wmg.blk_st {w : World} {g : Nat} {t : TypeId} {x : Wmg} (hx : x.Len) (v : Wst) (hv : v.cells.length = 38) (hb : Blk w g t x.cells.toArray) : Blk (w.setCells g 40 v.cells) g t ({x with st := v} : Wmg).cells.toArray :=
 Blk.mid_at v.cells x.st.cells ([.int .i64 x.q] ++ ([.int .i64 x.f] ++ ([.int .i64 x.t] ++ (x.cm.cells)))) (x.ce.cells ++ (x.ak.cells ++ ([.int .i64 x.e] ++ ([.int .i64 x.r] ++ ([.int .u64 (x.tm : Int)] ++ (x.pr.cells ++ (x.po.cells ++ (x.vt.cells ++ ([.int .i64 x.i] ++ (x.en.cells ++ (x.op.cells ++ (x.dn.cells ++ ([.string ⟨x.rp.toArray⟩] ++ (x.de.cells)))))))))))))) 40 (by simp only [List.length_append, List.length_cons, List.length_nil, Wcm.len hx.cm]) (by rw [hv, Wst.len hx.st]) _ _ (by simp only [Wmg.cells, List.append_assoc, List.append_nil]) (by simp only [Wmg.cells, List.append_assoc, List.append_nil]) hb
set_option maxHeartbeats 2000000 in
theorem mget_st (x : Wmg) (hz : x.Len) (hq : x.q = 2) (w : World) (F : List Nat) (g gm : Nat) (s : Ps) (hr : Rs w F g s) (hb : Blk w gm 61 x.cells.toArray) (hgm : gm ≠ g) (hF : ¬ gm ∈ F) :
  Calls Tryz.prog 40 #[.pointer (some ⟨g, 0, none⟩), .pointer (some ⟨gm, 0, none⟩)] w fun e w' => ∃ v : Wst, e = .returned (.bool true) ∧ v = (pSt s).1 ∧ (∀ S0 : List Nat, (∀ q ∈ S0, q < w.heap.size) → v.Ok) ∧ Blk w' gm 61 ({x with st := v} : Wmg).cells.toArray ∧ Rs w' F g (pSt s).2 ∧ Fr [g, gm] w w' := by
 have hq0 : w.cell? ⟨gm, 0, none⟩ = some (.int .i64 2) := by have h := hb.range (cs := x.cells) 0 (.int .i64 x.q) rfl; rw [hq] at h; exact h
 have HR := Lib.hid hr
 have HB := Lib.hid hb
 have HGM := Lib.hid hgm
 have HNF := Lib.hid hF
 have HZ := Lib.hid hz
 have HBS : Hid (x.cells.toArray.size = 295) := Lib.hid (by rw [List.size_toArray]; exact Wmg.lenz hz)
 clear hr hb hgm hF hq hz
 go_enter Tryz.func40, Tryz.ntmps40
 go_wp2_with fail
 refine ((gets_of (fun _ _ _ _ hr => getStamp_any hr) pSt_ok) w F g s HR.out).mono ?_
 rintro e w1 ⟨v, rfl, hcv, hok, h1, h2⟩
 have HB1 := Lib.hid (HB.out.keep h2 (by have := HGM.out; simpa using this))
 have HCV := Lib.hid hcv
 have HOK := Lib.hid hok
 have HR1 := Lib.hid h1
 have HF1 := Lib.hid h2
 have HVL : Hid (v.cells.length = 38) := Lib.hid (by have hok_ := hok [] (by simp); exact Wst.len (hok_.h))
 have HONE : Hid (v.cells.toArray.all (·.oneCell') = true) := Lib.hid (all_oneCell_toArray (Wst.one v))
 have HB2 := Lib.hid (Wmg.blk_st HZ.out v HVL.out HB1.out)
 have HTH : Hid (w1.there gm 40 v.cells.toArray.size) := Lib.hid (HB1.out.thereM _ _ (by rw [List.size_toArray, HVL.out, HBS.out]; omega))
 have HSZ : Hid ((Tryz.prog.info? 32).map (·.size) = some v.cells.toArray.size) := Lib.hid (by rw [List.size_toArray, HVL.out]; kernel_rfl)
 have HF2 : Hid (Fr [gm] w1 (w1.setCells gm 40 v.cells)) := Lib.hid (Fr.setCells (fun _ => by simp) v.cells 40 w1 (Fr.refl _ _))
 clear hcv hok h1 h2
 obtain ⟨V, hV⟩ : ∃ V : List Value, V = v.cells := ⟨_, rfl⟩
 rw [← hV] at HVL HONE HTH HSZ HF2 HB2 ⊢
 have HVV := Lib.hid hV
 clear hV
 go_wp2_with (refine wpList_store_mid rfl 32 _ _ rfl gm 40 V.toArray rfl rfl HTH.out HSZ.out HONE.out ?_)
 change bodyPost _ _ _ _ _ (w1.setCells gm 40 V)
 generalize w1.setCells gm 40 V = w2 at *
 go_ret
 exact ⟨v, rfl, HCV.out, fun S0 h0 => HOK.out S0 h0, HB2.out, HR1.out.fr HF2.out (by have := HGM.out; simp; exact fun h => this h.symm) (fun q hq hm => HNF.out (by simp at hm; exact hm ▸ hq)), (HF1.out.mono (fun q hq _ => by simp at hq; simp [hq])).trans HF2.out (fun q hq _ => by simp at hq; simp [hq])⟩
theorem Wmg.blk_ce {w : World} {g : Nat} {t : TypeId} {x : Wmg} (hx : x.Len) (v : Wce) (hv : v.cells.length = 38) (hb : Blk w g t x.cells.toArray) : Blk (w.setCells g 78 v.cells) g t ({x with ce := v} : Wmg).cells.toArray :=
 Blk.mid_at v.cells x.ce.cells ([.int .i64 x.q] ++ ([.int .i64 x.f] ++ ([.int .i64 x.t] ++ (x.cm.cells ++ (x.st.cells))))) (x.ak.cells ++ ([.int .i64 x.e] ++ ([.int .i64 x.r] ++ ([.int .u64 (x.tm : Int)] ++ (x.pr.cells ++ (x.po.cells ++ (x.vt.cells ++ ([.int .i64 x.i] ++ (x.en.cells ++ (x.op.cells ++ (x.dn.cells ++ ([.string ⟨x.rp.toArray⟩] ++ (x.de.cells))))))))))))) 78 (by simp only [List.length_append, List.length_cons, List.length_nil, Wcm.len hx.cm, Wst.len hx.st]) (by rw [hv, Wce.len hx.ce]) _ _ (by simp only [Wmg.cells, List.append_assoc, List.append_nil]) (by simp only [Wmg.cells, List.append_assoc, List.append_nil]) hb
set_option maxHeartbeats 2000000 in
theorem mget_ce (x : Wmg) (hz : x.Len) (hq : x.q = 3) (w : World) (F : List Nat) (g gm : Nat) (s : Ps) (hr : Rs w F g s) (hb : Blk w gm 61 x.cells.toArray) (hgm : gm ≠ g) (hF : ¬ gm ∈ F) :
  Calls Tryz.prog 40 #[.pointer (some ⟨g, 0, none⟩), .pointer (some ⟨gm, 0, none⟩)] w fun e w' => ∃ v : Wce, e = .returned (.bool true) ∧ v.con = (pCe s).1 ∧ (∀ S0 : List Nat, (∀ q ∈ S0, q < w.heap.size) → v.Li w' S0) ∧ Blk w' gm 61 ({x with ce := v} : Wmg).cells.toArray ∧ Rs w' F g (pCe s).2 ∧ Fr [g, gm] w w' := by
 have hq0 : w.cell? ⟨gm, 0, none⟩ = some (.int .i64 3) := by have h := hb.range (cs := x.cells) 0 (.int .i64 x.q) rfl; rw [hq] at h; exact h
 have HR := Lib.hid hr
 have HB := Lib.hid hb
 have HGM := Lib.hid hgm
 have HNF := Lib.hid hF
 have HZ := Lib.hid hz
 have HBS : Hid (x.cells.toArray.size = 295) := Lib.hid (by rw [List.size_toArray]; exact Wmg.lenz hz)
 clear hr hb hgm hF hq hz
 go_enter Tryz.func40, Tryz.ntmps40
 go_wp2_with fail
 refine (getCert_any w F g s HR.out).mono ?_
 rintro e w1 ⟨v, rfl, hcv, hok, h1, h2⟩
 have HB1 := Lib.hid (HB.out.keep h2 (by have := HGM.out; simpa using this))
 have HCV := Lib.hid hcv
 have HOK := Lib.hid hok
 have HR1 := Lib.hid h1
 have HF1 := Lib.hid h2
 have HVL : Hid (v.cells.length = 38) := Lib.hid (by have hok_ := hok [] (by simp); exact Wce.len (hok_.k.h))
 have HONE : Hid (v.cells.toArray.all (·.oneCell') = true) := Lib.hid (all_oneCell_toArray (Wce.one v))
 have HB2 := Lib.hid (Wmg.blk_ce HZ.out v HVL.out HB1.out)
 have HTH : Hid (w1.there gm 78 v.cells.toArray.size) := Lib.hid (HB1.out.thereM _ _ (by rw [List.size_toArray, HVL.out, HBS.out]; omega))
 have HSZ : Hid ((Tryz.prog.info? 35).map (·.size) = some v.cells.toArray.size) := Lib.hid (by rw [List.size_toArray, HVL.out]; kernel_rfl)
 have HF2 : Hid (Fr [gm] w1 (w1.setCells gm 78 v.cells)) := Lib.hid (Fr.setCells (fun _ => by simp) v.cells 78 w1 (Fr.refl _ _))
 clear hcv hok h1 h2
 obtain ⟨V, hV⟩ : ∃ V : List Value, V = v.cells := ⟨_, rfl⟩
 rw [← hV] at HVL HONE HTH HSZ HF2 HB2 ⊢
 have HVV := Lib.hid hV
 clear hV
 go_wp2_with (refine wpList_store_mid rfl 35 _ _ rfl gm 78 V.toArray rfl rfl HTH.out HSZ.out HONE.out ?_)
 change bodyPost _ _ _ _ _ (w1.setCells gm 78 V)
 generalize w1.setCells gm 78 V = w2 at *
 go_ret
 exact ⟨v, rfl, HCV.out, fun S0 h0 => (HOK.out (gm :: S0) (fun q hq => by rcases List.mem_cons.1 hq with rfl | hq; exact HB.out.lt; exact h0 q hq)).keep (HF2.out.mono (fun q hq _ => by simp at hq; simp [hq])) (fun q hq _ => by simp [hq]), HB2.out, HR1.out.fr HF2.out (by have := HGM.out; simp; exact fun h => this h.symm) (fun q hq hm => HNF.out (by simp at hm; exact hm ▸ hq)), (HF1.out.mono (fun q hq _ => by simp at hq; simp [hq])).trans HF2.out (fun q hq _ => by simp at hq; simp [hq])⟩
theorem Wmg.blk_ak {w : World} {g : Nat} {t : TypeId} {x : Wmg} (hx : x.Len) (v : Wst) (hv : v.cells.length = 38) (hb : Blk w g t x.cells.toArray) : Blk (w.setCells g 116 v.cells) g t ({x with ak := v} : Wmg).cells.toArray :=
 Blk.mid_at v.cells x.ak.cells ([.int .i64 x.q] ++ ([.int .i64 x.f] ++ ([.int .i64 x.t] ++ (x.cm.cells ++ (x.st.cells ++ (x.ce.cells)))))) ([.int .i64 x.e] ++ ([.int .i64 x.r] ++ ([.int .u64 (x.tm : Int)] ++ (x.pr.cells ++ (x.po.cells ++ (x.vt.cells ++ ([.int .i64 x.i] ++ (x.en.cells ++ (x.op.cells ++ (x.dn.cells ++ ([.string ⟨x.rp.toArray⟩] ++ (x.de.cells)))))))))))) 116 (by simp only [List.length_append, List.length_cons, List.length_nil, Wcm.len hx.cm, Wst.len hx.st, Wce.len hx.ce]) (by rw [hv, Wst.len hx.ak]) _ _ (by simp only [Wmg.cells, List.append_assoc, List.append_nil]) (by simp only [Wmg.cells, List.append_assoc, List.append_nil]) hb
set_option maxHeartbeats 2000000 in
theorem mget_ak (x : Wmg) (hz : x.Len) (hq : x.q = 4) (w : World) (F : List Nat) (g gm : Nat) (s : Ps) (hr : Rs w F g s) (hb : Blk w gm 61 x.cells.toArray) (hgm : gm ≠ g) (hF : ¬ gm ∈ F) :
  Calls Tryz.prog 40 #[.pointer (some ⟨g, 0, none⟩), .pointer (some ⟨gm, 0, none⟩)] w fun e w' => ∃ v : Wst, e = .returned (.bool true) ∧ v = (pSt s).1 ∧ (∀ S0 : List Nat, (∀ q ∈ S0, q < w.heap.size) → v.Ok) ∧ Blk w' gm 61 ({x with ak := v} : Wmg).cells.toArray ∧ Rs w' F g (pSt s).2 ∧ Fr [g, gm] w w' := by
 have hq0 : w.cell? ⟨gm, 0, none⟩ = some (.int .i64 4) := by have h := hb.range (cs := x.cells) 0 (.int .i64 x.q) rfl; rw [hq] at h; exact h
 have HR := Lib.hid hr
 have HB := Lib.hid hb
 have HGM := Lib.hid hgm
 have HNF := Lib.hid hF
 have HZ := Lib.hid hz
 have HBS : Hid (x.cells.toArray.size = 295) := Lib.hid (by rw [List.size_toArray]; exact Wmg.lenz hz)
 clear hr hb hgm hF hq hz
 go_enter Tryz.func40, Tryz.ntmps40
 go_wp2_with fail
 refine ((gets_of (fun _ _ _ _ hr => getAck_any hr) pSt_ok) w F g s HR.out).mono ?_
 rintro e w1 ⟨v, rfl, hcv, hok, h1, h2⟩
 have HB1 := Lib.hid (HB.out.keep h2 (by have := HGM.out; simpa using this))
 have HCV := Lib.hid hcv
 have HOK := Lib.hid hok
 have HR1 := Lib.hid h1
 have HF1 := Lib.hid h2
 have HVL : Hid (v.cells.length = 38) := Lib.hid (by have hok_ := hok [] (by simp); exact Wst.len (hok_.h))
 have HONE : Hid (v.cells.toArray.all (·.oneCell') = true) := Lib.hid (all_oneCell_toArray (Wst.one v))
 have HB2 := Lib.hid (Wmg.blk_ak HZ.out v HVL.out HB1.out)
 have HTH : Hid (w1.there gm 116 v.cells.toArray.size) := Lib.hid (HB1.out.thereM _ _ (by rw [List.size_toArray, HVL.out, HBS.out]; omega))
 have HSZ : Hid ((Tryz.prog.info? 37).map (·.size) = some v.cells.toArray.size) := Lib.hid (by rw [List.size_toArray, HVL.out]; kernel_rfl)
 have HF2 : Hid (Fr [gm] w1 (w1.setCells gm 116 v.cells)) := Lib.hid (Fr.setCells (fun _ => by simp) v.cells 116 w1 (Fr.refl _ _))
 clear hcv hok h1 h2
 obtain ⟨V, hV⟩ : ∃ V : List Value, V = v.cells := ⟨_, rfl⟩
 rw [← hV] at HVL HONE HTH HSZ HF2 HB2 ⊢
 have HVV := Lib.hid hV
 clear hV
 go_wp2_with (refine wpList_store_mid rfl 37 _ _ rfl gm 116 V.toArray rfl rfl HTH.out HSZ.out HONE.out ?_)
 change bodyPost _ _ _ _ _ (w1.setCells gm 116 V)
 generalize w1.setCells gm 116 V = w2 at *
 go_ret
 exact ⟨v, rfl, HCV.out, fun S0 h0 => HOK.out S0 h0, HB2.out, HR1.out.fr HF2.out (by have := HGM.out; simp; exact fun h => this h.symm) (fun q hq hm => HNF.out (by simp at hm; exact hm ▸ hq)), (HF1.out.mono (fun q hq _ => by simp at hq; simp [hq])).trans HF2.out (fun q hq _ => by simp at hq; simp [hq])⟩
theorem Wmg.blk_pr {w : World} {g : Nat} {t : TypeId} {x : Wmg} (hx : x.Len) (v : Wpr) (hv : v.cells.length = 6) (hb : Blk w g t x.cells.toArray) : Blk (w.setCells g 157 v.cells) g t ({x with pr := v} : Wmg).cells.toArray :=
 Blk.mid_at v.cells x.pr.cells ([.int .i64 x.q] ++ ([.int .i64 x.f] ++ ([.int .i64 x.t] ++ (x.cm.cells ++ (x.st.cells ++ (x.ce.cells ++ (x.ak.cells ++ ([.int .i64 x.e] ++ ([.int .i64 x.r] ++ ([.int .u64 (x.tm : Int)])))))))))) (x.po.cells ++ (x.vt.cells ++ ([.int .i64 x.i] ++ (x.en.cells ++ (x.op.cells ++ (x.dn.cells ++ ([.string ⟨x.rp.toArray⟩] ++ (x.de.cells)))))))) 157 (by simp only [List.length_append, List.length_cons, List.length_nil, Wcm.len hx.cm, Wst.len hx.st, Wce.len hx.ce, Wst.len hx.ak]) (by rw [hv, Wpr.len x.pr]) _ _ (by simp only [Wmg.cells, List.append_assoc, List.append_nil]) (by simp only [Wmg.cells, List.append_assoc, List.append_nil]) hb
set_option maxHeartbeats 2000000 in
theorem mget_pr (x : Wmg) (hz : x.Len) (hq : x.q = 6) (w : World) (F : List Nat) (g gm : Nat) (s : Ps) (hr : Rs w F g s) (hb : Blk w gm 61 x.cells.toArray) (hgm : gm ≠ g) (hF : ¬ gm ∈ F) :
  Calls Tryz.prog 40 #[.pointer (some ⟨g, 0, none⟩), .pointer (some ⟨gm, 0, none⟩)] w fun e w' => ∃ v : Wpr, e = .returned (.bool true) ∧ v.con = (pPr s).1 ∧ (∀ S0 : List Nat, (∀ q ∈ S0, q < w.heap.size) → v.Li w' S0) ∧ Blk w' gm 61 ({x with pr := v} : Wmg).cells.toArray ∧ Rs w' F g (pPr s).2 ∧ Fr [g, gm] w w' := by
 have hq0 : w.cell? ⟨gm, 0, none⟩ = some (.int .i64 6) := by have h := hb.range (cs := x.cells) 0 (.int .i64 x.q) rfl; rw [hq] at h; exact h
 have HR := Lib.hid hr
 have HB := Lib.hid hb
 have HGM := Lib.hid hgm
 have HNF := Lib.hid hF
 have HZ := Lib.hid hz
 have HBS : Hid (x.cells.toArray.size = 295) := Lib.hid (by rw [List.size_toArray]; exact Wmg.lenz hz)
 clear hr hb hgm hF hq hz
 go_enter Tryz.func40, Tryz.ntmps40
 go_wp2_with fail
 refine (getPromise_any w F g s HR.out).mono ?_
 rintro e w1 ⟨v, rfl, hcv, hok, h1, h2⟩
 have HB1 := Lib.hid (HB.out.keep h2 (by have := HGM.out; simpa using this))
 have HCV := Lib.hid hcv
 have HOK := Lib.hid hok
 have HR1 := Lib.hid h1
 have HF1 := Lib.hid h2
 have HVL : Hid (v.cells.length = 6) := Lib.hid (by have hok_ := hok [] (by simp); exact Wpr.len v)
 have HONE : Hid (v.cells.toArray.all (·.oneCell') = true) := Lib.hid (all_oneCell_toArray (Wpr.one v))
 have HB2 := Lib.hid (Wmg.blk_pr HZ.out v HVL.out HB1.out)
 have HTH : Hid (w1.there gm 157 v.cells.toArray.size) := Lib.hid (HB1.out.thereM _ _ (by rw [List.size_toArray, HVL.out, HBS.out]; omega))
 have HSZ : Hid ((Tryz.prog.info? 40).map (·.size) = some v.cells.toArray.size) := Lib.hid (by rw [List.size_toArray, HVL.out]; kernel_rfl)
 have HF2 : Hid (Fr [gm] w1 (w1.setCells gm 157 v.cells)) := Lib.hid (Fr.setCells (fun _ => by simp) v.cells 157 w1 (Fr.refl _ _))
 clear hcv hok h1 h2
 obtain ⟨V, hV⟩ : ∃ V : List Value, V = v.cells := ⟨_, rfl⟩
 rw [← hV] at HVL HONE HTH HSZ HF2 HB2 ⊢
 have HVV := Lib.hid hV
 clear hV
 go_wp2_with (refine wpList_store_mid rfl 40 _ _ rfl gm 157 V.toArray rfl rfl HTH.out HSZ.out HONE.out ?_)
 change bodyPost _ _ _ _ _ (w1.setCells gm 157 V)
 generalize w1.setCells gm 157 V = w2 at *
 go_ret
 exact ⟨v, rfl, HCV.out, fun S0 h0 => (HOK.out (gm :: S0) (fun q hq => by rcases List.mem_cons.1 hq with rfl | hq; exact HB.out.lt; exact h0 q hq)).keep (HF2.out.mono (fun q hq _ => by simp at hq; simp [hq])) (fun q hq _ => by simp [hq]), HB2.out, HR1.out.fr HF2.out (by have := HGM.out; simp; exact fun h => this h.symm) (fun q hq hm => HNF.out (by simp at hm; exact hm ▸ hq)), (HF1.out.mono (fun q hq _ => by simp at hq; simp [hq])).trans HF2.out (fun q hq _ => by simp at hq; simp [hq])⟩
theorem Wmg.blk_po {w : World} {g : Nat} {t : TypeId} {x : Wmg} (hx : x.Len) (v : Wpo) (hv : v.cells.length = 11) (hb : Blk w g t x.cells.toArray) : Blk (w.setCells g 163 v.cells) g t ({x with po := v} : Wmg).cells.toArray :=
 Blk.mid_at v.cells x.po.cells ([.int .i64 x.q] ++ ([.int .i64 x.f] ++ ([.int .i64 x.t] ++ (x.cm.cells ++ (x.st.cells ++ (x.ce.cells ++ (x.ak.cells ++ ([.int .i64 x.e] ++ ([.int .i64 x.r] ++ ([.int .u64 (x.tm : Int)] ++ (x.pr.cells))))))))))) (x.vt.cells ++ ([.int .i64 x.i] ++ (x.en.cells ++ (x.op.cells ++ (x.dn.cells ++ ([.string ⟨x.rp.toArray⟩] ++ (x.de.cells))))))) 163 (by simp only [List.length_append, List.length_cons, List.length_nil, Wcm.len hx.cm, Wst.len hx.st, Wce.len hx.ce, Wst.len hx.ak, Wpr.len x.pr]) (by rw [hv, Wpo.len x.po]) _ _ (by simp only [Wmg.cells, List.append_assoc, List.append_nil]) (by simp only [Wmg.cells, List.append_assoc, List.append_nil]) hb
set_option maxHeartbeats 2000000 in
theorem mget_po (x : Wmg) (hz : x.Len) (hq : x.q = 7) (w : World) (F : List Nat) (g gm : Nat) (s : Ps) (hr : Rs w F g s) (hb : Blk w gm 61 x.cells.toArray) (hgm : gm ≠ g) (hF : ¬ gm ∈ F) :
  Calls Tryz.prog 40 #[.pointer (some ⟨g, 0, none⟩), .pointer (some ⟨gm, 0, none⟩)] w fun e w' => ∃ v : Wpo, e = .returned (.bool true) ∧ v.con = (pPo s).1 ∧ (∀ S0 : List Nat, (∀ q ∈ S0, q < w.heap.size) → v.Li w' S0) ∧ Blk w' gm 61 ({x with po := v} : Wmg).cells.toArray ∧ Rs w' F g (pPo s).2 ∧ Fr [g, gm] w w' := by
 have hq0 : w.cell? ⟨gm, 0, none⟩ = some (.int .i64 7) := by have h := hb.range (cs := x.cells) 0 (.int .i64 x.q) rfl; rw [hq] at h; exact h
 have HR := Lib.hid hr
 have HB := Lib.hid hb
 have HGM := Lib.hid hgm
 have HNF := Lib.hid hF
 have HZ := Lib.hid hz
 have HBS : Hid (x.cells.toArray.size = 295) := Lib.hid (by rw [List.size_toArray]; exact Wmg.lenz hz)
 clear hr hb hgm hF hq hz
 go_enter Tryz.func40, Tryz.ntmps40
 go_wp2_with fail
 refine (getProposal_any w F g s HR.out).mono ?_
 rintro e w1 ⟨v, rfl, hcv, hok, h1, h2⟩
 have HB1 := Lib.hid (HB.out.keep h2 (by have := HGM.out; simpa using this))
 have HCV := Lib.hid hcv
 have HOK := Lib.hid hok
 have HR1 := Lib.hid h1
 have HF1 := Lib.hid h2
 have HVL : Hid (v.cells.length = 11) := Lib.hid (by have hok_ := hok [] (by simp); exact Wpo.len v)
 have HONE : Hid (v.cells.toArray.all (·.oneCell') = true) := Lib.hid (all_oneCell_toArray (Wpo.one v))
 have HB2 := Lib.hid (Wmg.blk_po HZ.out v HVL.out HB1.out)
 have HTH : Hid (w1.there gm 163 v.cells.toArray.size) := Lib.hid (HB1.out.thereM _ _ (by rw [List.size_toArray, HVL.out, HBS.out]; omega))
 have HSZ : Hid ((Tryz.prog.info? 47).map (·.size) = some v.cells.toArray.size) := Lib.hid (by rw [List.size_toArray, HVL.out]; kernel_rfl)
 have HF2 : Hid (Fr [gm] w1 (w1.setCells gm 163 v.cells)) := Lib.hid (Fr.setCells (fun _ => by simp) v.cells 163 w1 (Fr.refl _ _))
 clear hcv hok h1 h2
 obtain ⟨V, hV⟩ : ∃ V : List Value, V = v.cells := ⟨_, rfl⟩
 rw [← hV] at HVL HONE HTH HSZ HF2 HB2 ⊢
 have HVV := Lib.hid hV
 clear hV
 go_wp2_with (refine wpList_store_mid rfl 47 _ _ rfl gm 163 V.toArray rfl rfl HTH.out HSZ.out HONE.out ?_)
 change bodyPost _ _ _ _ _ (w1.setCells gm 163 V)
 generalize w1.setCells gm 163 V = w2 at *
 go_ret
 exact ⟨v, rfl, HCV.out, fun S0 h0 => (HOK.out (gm :: S0) (fun q hq => by rcases List.mem_cons.1 hq with rfl | hq; exact HB.out.lt; exact h0 q hq)).keep (HF2.out.mono (fun q hq _ => by simp at hq; simp [hq])) (fun q hq _ => by simp [hq]), HB2.out, HR1.out.fr HF2.out (by have := HGM.out; simp; exact fun h => this h.symm) (fun q hq hm => HNF.out (by simp at hm; exact hm ▸ hq)), (HF1.out.mono (fun q hq _ => by simp at hq; simp [hq])).trans HF2.out (fun q hq _ => by simp at hq; simp [hq])⟩
theorem Wmg.blk_vt {w : World} {g : Nat} {t : TypeId} {x : Wmg} (hx : x.Len) (v : Wvt) (hv : v.cells.length = 38) (hb : Blk w g t x.cells.toArray) : Blk (w.setCells g 174 v.cells) g t ({x with vt := v} : Wmg).cells.toArray :=
 Blk.mid_at v.cells x.vt.cells ([.int .i64 x.q] ++ ([.int .i64 x.f] ++ ([.int .i64 x.t] ++ (x.cm.cells ++ (x.st.cells ++ (x.ce.cells ++ (x.ak.cells ++ ([.int .i64 x.e] ++ ([.int .i64 x.r] ++ ([.int .u64 (x.tm : Int)] ++ (x.pr.cells ++ (x.po.cells)))))))))))) ([.int .i64 x.i] ++ (x.en.cells ++ (x.op.cells ++ (x.dn.cells ++ ([.string ⟨x.rp.toArray⟩] ++ (x.de.cells)))))) 174 (by simp only [List.length_append, List.length_cons, List.length_nil, Wcm.len hx.cm, Wst.len hx.st, Wce.len hx.ce, Wst.len hx.ak, Wpr.len x.pr, Wpo.len x.po]) (by rw [hv, Wvt.len hx.vt]) _ _ (by simp only [Wmg.cells, List.append_assoc, List.append_nil]) (by simp only [Wmg.cells, List.append_assoc, List.append_nil]) hb
set_option maxHeartbeats 2000000 in
theorem mget_vt (x : Wmg) (hz : x.Len) (hq : x.q = 8) (w : World) (F : List Nat) (g gm : Nat) (s : Ps) (hr : Rs w F g s) (hb : Blk w gm 61 x.cells.toArray) (hgm : gm ≠ g) (hF : ¬ gm ∈ F) :
  Calls Tryz.prog 40 #[.pointer (some ⟨g, 0, none⟩), .pointer (some ⟨gm, 0, none⟩)] w fun e w' => ∃ v : Wvt, e = .returned (.bool true) ∧ v = (pVt s).1 ∧ (∀ S0 : List Nat, (∀ q ∈ S0, q < w.heap.size) → v.Ok) ∧ Blk w' gm 61 ({x with vt := v} : Wmg).cells.toArray ∧ Rs w' F g (pVt s).2 ∧ Fr [g, gm] w w' := by
 have hq0 : w.cell? ⟨gm, 0, none⟩ = some (.int .i64 8) := by have h := hb.range (cs := x.cells) 0 (.int .i64 x.q) rfl; rw [hq] at h; exact h
 have HR := Lib.hid hr
 have HB := Lib.hid hb
 have HGM := Lib.hid hgm
 have HNF := Lib.hid hF
 have HZ := Lib.hid hz
 have HBS : Hid (x.cells.toArray.size = 295) := Lib.hid (by rw [List.size_toArray]; exact Wmg.lenz hz)
 clear hr hb hgm hF hq hz
 go_enter Tryz.func40, Tryz.ntmps40
 go_wp2_with fail
 refine ((gets_of (fun _ _ _ _ hr => getVote_any hr) pVt_ok) w F g s HR.out).mono ?_
 rintro e w1 ⟨v, rfl, hcv, hok, h1, h2⟩
 have HB1 := Lib.hid (HB.out.keep h2 (by have := HGM.out; simpa using this))
 have HCV := Lib.hid hcv
 have HOK := Lib.hid hok
 have HR1 := Lib.hid h1
 have HF1 := Lib.hid h2
 have HVL : Hid (v.cells.length = 38) := Lib.hid (by have hok_ := hok [] (by simp); exact Wvt.len (hok_.h))
 have HONE : Hid (v.cells.toArray.all (·.oneCell') = true) := Lib.hid (all_oneCell_toArray (Wvt.one v))
 have HB2 := Lib.hid (Wmg.blk_vt HZ.out v HVL.out HB1.out)
 have HTH : Hid (w1.there gm 174 v.cells.toArray.size) := Lib.hid (HB1.out.thereM _ _ (by rw [List.size_toArray, HVL.out, HBS.out]; omega))
 have HSZ : Hid ((Tryz.prog.info? 49).map (·.size) = some v.cells.toArray.size) := Lib.hid (by rw [List.size_toArray, HVL.out]; kernel_rfl)
 have HF2 : Hid (Fr [gm] w1 (w1.setCells gm 174 v.cells)) := Lib.hid (Fr.setCells (fun _ => by simp) v.cells 174 w1 (Fr.refl _ _))
 clear hcv hok h1 h2
 obtain ⟨V, hV⟩ : ∃ V : List Value, V = v.cells := ⟨_, rfl⟩
 rw [← hV] at HVL HONE HTH HSZ HF2 HB2 ⊢
 have HVV := Lib.hid hV
 clear hV
 go_wp2_with (refine wpList_store_mid rfl 49 _ _ rfl gm 174 V.toArray rfl rfl HTH.out HSZ.out HONE.out ?_)
 change bodyPost _ _ _ _ _ (w1.setCells gm 174 V)
 generalize w1.setCells gm 174 V = w2 at *
 go_ret
 exact ⟨v, rfl, HCV.out, fun S0 h0 => HOK.out S0 h0, HB2.out, HR1.out.fr HF2.out (by have := HGM.out; simp; exact fun h => this h.symm) (fun q hq hm => HNF.out (by simp at hm; exact hm ▸ hq)), (HF1.out.mono (fun q hq _ => by simp at hq; simp [hq])).trans HF2.out (fun q hq _ => by simp at hq; simp [hq])⟩
theorem Wmg.blk_op {w : World} {g : Nat} {t : TypeId} {x : Wmg} (hx : x.Len) (v : Wop) (hv : v.cells.length = 34) (hb : Blk w g t x.cells.toArray) : Blk (w.setCells g 248 v.cells) g t ({x with op := v} : Wmg).cells.toArray :=
 Blk.mid_at v.cells x.op.cells ([.int .i64 x.q] ++ ([.int .i64 x.f] ++ ([.int .i64 x.t] ++ (x.cm.cells ++ (x.st.cells ++ (x.ce.cells ++ (x.ak.cells ++ ([.int .i64 x.e] ++ ([.int .i64 x.r] ++ ([.int .u64 (x.tm : Int)] ++ (x.pr.cells ++ (x.po.cells ++ (x.vt.cells ++ ([.int .i64 x.i] ++ (x.en.cells))))))))))))))) (x.dn.cells ++ ([.string ⟨x.rp.toArray⟩] ++ (x.de.cells))) 248 (by simp only [List.length_append, List.length_cons, List.length_nil, Wcm.len hx.cm, Wst.len hx.st, Wce.len hx.ce, Wst.len hx.ak, Wpr.len x.pr, Wpo.len x.po, Wvt.len hx.vt, Wen.len hx.en]) (by rw [hv, Wop.len hx.op]) _ _ (by simp only [Wmg.cells, List.append_assoc, List.append_nil]) (by simp only [Wmg.cells, List.append_assoc, List.append_nil]) hb
set_option maxHeartbeats 2000000 in
theorem mget_op (x : Wmg) (hz : x.Len) (hq : x.q = 10) (w : World) (F : List Nat) (g gm : Nat) (s : Ps) (hr : Rs w F g s) (hb : Blk w gm 61 x.cells.toArray) (hgm : gm ≠ g) (hF : ¬ gm ∈ F) :
  Calls Tryz.prog 40 #[.pointer (some ⟨g, 0, none⟩), .pointer (some ⟨gm, 0, none⟩)] w fun e w' => ∃ v : Wop, e = .returned (.bool true) ∧ v.con = (pOp s).1 ∧ (∀ S0 : List Nat, (∀ q ∈ S0, q < w.heap.size) → v.Ok w' S0) ∧ Blk w' gm 61 ({x with op := v} : Wmg).cells.toArray ∧ Rs w' F g (pOp s).2 ∧ Fr [g, gm] w w' := by
 have hq0 : w.cell? ⟨gm, 0, none⟩ = some (.int .i64 10) := by have h := hb.range (cs := x.cells) 0 (.int .i64 x.q) rfl; rw [hq] at h; exact h
 have HR := Lib.hid hr
 have HB := Lib.hid hb
 have HGM := Lib.hid hgm
 have HNF := Lib.hid hF
 have HZ := Lib.hid hz
 have HBS : Hid (x.cells.toArray.size = 295) := Lib.hid (by rw [List.size_toArray]; exact Wmg.lenz hz)
 clear hr hb hgm hF hq hz
 go_enter Tryz.func40, Tryz.ntmps40
 go_wp2_with fail
 refine (getOpening_any w F g s HR.out).mono ?_
 rintro e w1 ⟨v, rfl, hcv, hok, h1, h2⟩
 have HB1 := Lib.hid (HB.out.keep h2 (by have := HGM.out; simpa using this))
 have HCV := Lib.hid hcv
 have HOK := Lib.hid hok
 have HR1 := Lib.hid h1
 have HF1 := Lib.hid h2
 have HVL : Hid (v.cells.length = 34) := Lib.hid (by have hok_ := hok [] (by simp); exact Wop.len (hok_.h))
 have HONE : Hid (v.cells.toArray.all (·.oneCell') = true) := Lib.hid (all_oneCell_toArray (Wop.one v))
 have HB2 := Lib.hid (Wmg.blk_op HZ.out v HVL.out HB1.out)
 have HTH : Hid (w1.there gm 248 v.cells.toArray.size) := Lib.hid (HB1.out.thereM _ _ (by rw [List.size_toArray, HVL.out, HBS.out]; omega))
 have HSZ : Hid ((Tryz.prog.info? 54).map (·.size) = some v.cells.toArray.size) := Lib.hid (by rw [List.size_toArray, HVL.out]; kernel_rfl)
 have HF2 : Hid (Fr [gm] w1 (w1.setCells gm 248 v.cells)) := Lib.hid (Fr.setCells (fun _ => by simp) v.cells 248 w1 (Fr.refl _ _))
 clear hcv hok h1 h2
 obtain ⟨V, hV⟩ : ∃ V : List Value, V = v.cells := ⟨_, rfl⟩
 rw [← hV] at HVL HONE HTH HSZ HF2 HB2 ⊢
 have HVV := Lib.hid hV
 clear hV
 go_wp2_with (refine wpList_store_mid rfl 54 _ _ rfl gm 248 V.toArray rfl rfl HTH.out HSZ.out HONE.out ?_)
 change bodyPost _ _ _ _ _ (w1.setCells gm 248 V)
 generalize w1.setCells gm 248 V = w2 at *
 go_ret
 exact ⟨v, rfl, HCV.out, fun S0 h0 => (HOK.out (gm :: S0) (fun q hq => by rcases List.mem_cons.1 hq with rfl | hq; exact HB.out.lt; exact h0 q hq)).keep (HF2.out.mono (fun q hq _ => by simp at hq; simp [hq])) (fun q hq _ => by simp [hq]), HB2.out, HR1.out.fr HF2.out (by have := HGM.out; simp; exact fun h => this h.symm) (fun q hq hm => HNF.out (by simp at hm; exact hm ▸ hq)), (HF1.out.mono (fun q hq _ => by simp at hq; simp [hq])).trans HF2.out (fun q hq _ => by simp at hq; simp [hq])⟩
theorem Wmg.blk_dn {w : World} {g : Nat} {t : TypeId} {x : Wmg} (hx : x.Len) (v : Wdn) (hv : v.cells.length = 4) (hb : Blk w g t x.cells.toArray) : Blk (w.setCells g 282 v.cells) g t ({x with dn := v} : Wmg).cells.toArray :=
 Blk.mid_at v.cells x.dn.cells ([.int .i64 x.q] ++ ([.int .i64 x.f] ++ ([.int .i64 x.t] ++ (x.cm.cells ++ (x.st.cells ++ (x.ce.cells ++ (x.ak.cells ++ ([.int .i64 x.e] ++ ([.int .i64 x.r] ++ ([.int .u64 (x.tm : Int)] ++ (x.pr.cells ++ (x.po.cells ++ (x.vt.cells ++ ([.int .i64 x.i] ++ (x.en.cells ++ (x.op.cells)))))))))))))))) ([.string ⟨x.rp.toArray⟩] ++ (x.de.cells)) 282 (by simp only [List.length_append, List.length_cons, List.length_nil, Wcm.len hx.cm, Wst.len hx.st, Wce.len hx.ce, Wst.len hx.ak, Wpr.len x.pr, Wpo.len x.po, Wvt.len hx.vt, Wen.len hx.en, Wop.len hx.op]) (by rw [hv, Wdn.len x.dn]) _ _ (by simp only [Wmg.cells, List.append_assoc, List.append_nil]) (by simp only [Wmg.cells, List.append_assoc, List.append_nil]) hb
set_option maxHeartbeats 2000000 in
theorem mget_dn (x : Wmg) (hz : x.Len) (hq : x.q = 12) (w : World) (F : List Nat) (g gm : Nat) (s : Ps) (hr : Rs w F g s) (hb : Blk w gm 61 x.cells.toArray) (hgm : gm ≠ g) (hF : ¬ gm ∈ F) :
  Calls Tryz.prog 40 #[.pointer (some ⟨g, 0, none⟩), .pointer (some ⟨gm, 0, none⟩)] w fun e w' => ∃ v : Wdn, e = .returned (.bool true) ∧ v = (pDn s).1 ∧ (∀ S0 : List Nat, (∀ q ∈ S0, q < w.heap.size) → v.Ok) ∧ Blk w' gm 61 ({x with dn := v} : Wmg).cells.toArray ∧ Rs w' F g (pDn s).2 ∧ Fr [g, gm] w w' := by
 have hq0 : w.cell? ⟨gm, 0, none⟩ = some (.int .i64 12) := by have h := hb.range (cs := x.cells) 0 (.int .i64 x.q) rfl; rw [hq] at h; exact h
 have HR := Lib.hid hr
 have HB := Lib.hid hb
 have HGM := Lib.hid hgm
 have HNF := Lib.hid hF
 have HZ := Lib.hid hz
 have HBS : Hid (x.cells.toArray.size = 295) := Lib.hid (by rw [List.size_toArray]; exact Wmg.lenz hz)
 clear hr hb hgm hF hq hz
 go_enter Tryz.func40, Tryz.ntmps40
 go_wp2_with fail
 refine ((gets_of (fun _ _ _ _ hr => getDeny_any hr) pDn_ok) w F g s HR.out).mono ?_
 rintro e w1 ⟨v, rfl, hcv, hok, h1, h2⟩
 have HB1 := Lib.hid (HB.out.keep h2 (by have := HGM.out; simpa using this))
 have HCV := Lib.hid hcv
 have HOK := Lib.hid hok
 have HR1 := Lib.hid h1
 have HF1 := Lib.hid h2
 have HVL : Hid (v.cells.length = 4) := Lib.hid (by have hok_ := hok [] (by simp); exact Wdn.len v)
 have HONE : Hid (v.cells.toArray.all (·.oneCell') = true) := Lib.hid (all_oneCell_toArray (Wdn.one v))
 have HB2 := Lib.hid (Wmg.blk_dn HZ.out v HVL.out HB1.out)
 have HTH : Hid (w1.there gm 282 v.cells.toArray.size) := Lib.hid (HB1.out.thereM _ _ (by rw [List.size_toArray, HVL.out, HBS.out]; omega))
 have HSZ : Hid ((Tryz.prog.info? 56).map (·.size) = some v.cells.toArray.size) := Lib.hid (by rw [List.size_toArray, HVL.out]; kernel_rfl)
 have HF2 : Hid (Fr [gm] w1 (w1.setCells gm 282 v.cells)) := Lib.hid (Fr.setCells (fun _ => by simp) v.cells 282 w1 (Fr.refl _ _))
 clear hcv hok h1 h2
 obtain ⟨V, hV⟩ : ∃ V : List Value, V = v.cells := ⟨_, rfl⟩
 rw [← hV] at HVL HONE HTH HSZ HF2 HB2 ⊢
 have HVV := Lib.hid hV
 clear hV
 go_wp2_with (refine wpList_store_mid rfl 56 _ _ rfl gm 282 V.toArray rfl rfl HTH.out HSZ.out HONE.out ?_)
 change bodyPost _ _ _ _ _ (w1.setCells gm 282 V)
 generalize w1.setCells gm 282 V = w2 at *
 go_ret
 exact ⟨v, rfl, HCV.out, fun S0 h0 => HOK.out S0 h0, HB2.out, HR1.out.fr HF2.out (by have := HGM.out; simp; exact fun h => this h.symm) (fun q hq hm => HNF.out (by simp at hm; exact hm ▸ hq)), (HF1.out.mono (fun q hq _ => by simp at hq; simp [hq])).trans HF2.out (fun q hq _ => by simp at hq; simp [hq])⟩
theorem Wmg.blk_de {w : World} {g : Nat} {t : TypeId} {x : Wmg} (hx : x.Len) (v : Wdc) (hv : v.cells.length = 8) (hb : Blk w g t x.cells.toArray) : Blk (w.setCells g 287 v.cells) g t ({x with de := v} : Wmg).cells.toArray :=
 Blk.mid_at v.cells x.de.cells ([.int .i64 x.q] ++ ([.int .i64 x.f] ++ ([.int .i64 x.t] ++ (x.cm.cells ++ (x.st.cells ++ (x.ce.cells ++ (x.ak.cells ++ ([.int .i64 x.e] ++ ([.int .i64 x.r] ++ ([.int .u64 (x.tm : Int)] ++ (x.pr.cells ++ (x.po.cells ++ (x.vt.cells ++ ([.int .i64 x.i] ++ (x.en.cells ++ (x.op.cells ++ (x.dn.cells ++ ([.string ⟨x.rp.toArray⟩])))))))))))))))))) ([]) 287 (by simp only [List.length_append, List.length_cons, List.length_nil, Wcm.len hx.cm, Wst.len hx.st, Wce.len hx.ce, Wst.len hx.ak, Wpr.len x.pr, Wpo.len x.po, Wvt.len hx.vt, Wen.len hx.en, Wop.len hx.op, Wdn.len x.dn]) (by rw [hv, Wdc.len x.de]) _ _ (by simp only [Wmg.cells, List.append_assoc, List.append_nil]) (by simp only [Wmg.cells, List.append_assoc, List.append_nil]) hb
set_option maxHeartbeats 2000000 in
theorem mget_de (x : Wmg) (hz : x.Len) (hq : x.q = 14) (w : World) (F : List Nat) (g gm : Nat) (s : Ps) (hr : Rs w F g s) (hb : Blk w gm 61 x.cells.toArray) (hgm : gm ≠ g) (hF : ¬ gm ∈ F) :
  Calls Tryz.prog 40 #[.pointer (some ⟨g, 0, none⟩), .pointer (some ⟨gm, 0, none⟩)] w fun e w' => ∃ v : Wdc, e = .returned (.bool true) ∧ v.con = (pDc s).1 ∧ (∀ S0 : List Nat, (∀ q ∈ S0, q < w.heap.size) → v.Li w' S0) ∧ Blk w' gm 61 ({x with de := v} : Wmg).cells.toArray ∧ Rs w' F g (pDc s).2 ∧ Fr [g, gm] w w' := by
 have hq0 : w.cell? ⟨gm, 0, none⟩ = some (.int .i64 14) := by have h := hb.range (cs := x.cells) 0 (.int .i64 x.q) rfl; rw [hq] at h; exact h
 have HR := Lib.hid hr
 have HB := Lib.hid hb
 have HGM := Lib.hid hgm
 have HNF := Lib.hid hF
 have HZ := Lib.hid hz
 have HBS : Hid (x.cells.toArray.size = 295) := Lib.hid (by rw [List.size_toArray]; exact Wmg.lenz hz)
 clear hr hb hgm hF hq hz
 go_enter Tryz.func40, Tryz.ntmps40
 go_wp2_with fail
 refine (getDecided_any w F g s HR.out).mono ?_
 rintro e w1 ⟨v, rfl, hcv, hok, h1, h2⟩
 have HB1 := Lib.hid (HB.out.keep h2 (by have := HGM.out; simpa using this))
 have HCV := Lib.hid hcv
 have HOK := Lib.hid hok
 have HR1 := Lib.hid h1
 have HF1 := Lib.hid h2
 have HVL : Hid (v.cells.length = 8) := Lib.hid (by have hok_ := hok [] (by simp); exact Wdc.len v)
 have HONE : Hid (v.cells.toArray.all (·.oneCell') = true) := Lib.hid (all_oneCell_toArray (Wdc.one v))
 have HB2 := Lib.hid (Wmg.blk_de HZ.out v HVL.out HB1.out)
 have HTH : Hid (w1.there gm 287 v.cells.toArray.size) := Lib.hid (HB1.out.thereM _ _ (by rw [List.size_toArray, HVL.out, HBS.out]; omega))
 have HSZ : Hid ((Tryz.prog.info? 59).map (·.size) = some v.cells.toArray.size) := Lib.hid (by rw [List.size_toArray, HVL.out]; kernel_rfl)
 have HF2 : Hid (Fr [gm] w1 (w1.setCells gm 287 v.cells)) := Lib.hid (Fr.setCells (fun _ => by simp) v.cells 287 w1 (Fr.refl _ _))
 clear hcv hok h1 h2
 obtain ⟨V, hV⟩ : ∃ V : List Value, V = v.cells := ⟨_, rfl⟩
 rw [← hV] at HVL HONE HTH HSZ HF2 HB2 ⊢
 have HVV := Lib.hid hV
 clear hV
 go_wp2_with (refine wpList_store_mid rfl 59 _ _ rfl gm 287 V.toArray rfl rfl HTH.out HSZ.out HONE.out ?_)
 change bodyPost _ _ _ _ _ (w1.setCells gm 287 V)
 generalize w1.setCells gm 287 V = w2 at *
 go_ret
 exact ⟨v, rfl, HCV.out, fun S0 h0 => (HOK.out (gm :: S0) (fun q hq => by rcases List.mem_cons.1 hq with rfl | hq; exact HB.out.lt; exact h0 q hq)).keep (HF2.out.mono (fun q hq _ => by simp at hq; simp [hq])) (fun q hq _ => by simp [hq]), HB2.out, HR1.out.fr HF2.out (by have := HGM.out; simp; exact fun h => this h.symm) (fun q hq hm => HNF.out (by simp at hm; exact hm ▸ hq)), (HF1.out.mono (fun q hq _ => by simp at hq; simp [hq])).trans HF2.out (fun q hq _ => by simp at hq; simp [hq])⟩
end Go.Proofs.YtdenpfcgghangaaGreat

namespace Go.Proofs.YtdenpfcgghangaaGreat
open Go.RowKit
set_option maxRecDepth 100000
theorem wpList_store_at {P : Program} {ops : Array Oper} {rest : List Oper} {op : Oper} {a : Act} {w : World} {Q : Exit → Act → World → Prop} (hg : op.guard = none) (ty : TypeId) (x y : Operand) (ho : op.op = .store ty x y)
  (g i : Nat) (v : Value) (hx : a.eval x = .pointer (some ⟨g, i, none⟩)) (hy : a.eval y = v) (h1 : v.oneCell' = true) (t : TypeId) (cs : Array Value) (hb : Blk w g t cs) (hi : i < cs.size) (hsz : (P.info? ty).map (·.size) = some 1)
  (h : wpList P ops Q rest (a.put op.dst undef) (w.setCells g i [v])) : wpList P ops Q (op :: rest) a w :=
 wpList_plain hg fun _ hK => wp_store_at ty x y ho g i v hx hy h1 t cs hb hi hsz (hK _ _ h)
theorem Wmg.blk_i {w : World} {g : Nat} {t : TypeId} {x : Wmg} (hx : x.Len) (v : Int) (hb : Blk w g t x.cells.toArray) : Blk (w.setCells g 212 [.int .i64 v]) g t ({x with i := v} : Wmg).cells.toArray :=
 Blk.mid_at [.int .i64 v] [.int .i64 x.i] ([.int .i64 x.q] ++ ([.int .i64 x.f] ++ ([.int .i64 x.t] ++ (x.cm.cells ++ (x.st.cells ++ (x.ce.cells ++ (x.ak.cells ++ ([.int .i64 x.e] ++ ([.int .i64 x.r] ++ ([.int .u64 (x.tm : Int)] ++ (x.pr.cells ++ (x.po.cells ++ (x.vt.cells))))))))))))) (x.en.cells ++ (x.op.cells ++ (x.dn.cells ++ ([.string ⟨x.rp.toArray⟩] ++ (x.de.cells))))) 212 (by simp only [List.length_append, List.length_cons, List.length_nil, Wcm.len hx.cm, Wst.len hx.st, Wce.len hx.ce, Wst.len hx.ak, Wpr.len x.pr, Wpo.len x.po, Wvt.len hx.vt]) rfl _ _ (by simp only [Wmg.cells, List.append_assoc, List.append_nil]) (by simp only [Wmg.cells, List.append_assoc, List.append_nil]) hb
theorem Wmg.blk_e {w : World} {g : Nat} {t : TypeId} {x : Wmg} (hx : x.Len) (v : Int) (hb : Blk w g t x.cells.toArray) : Blk (w.setCells g 154 [.int .i64 v]) g t ({x with e := v} : Wmg).cells.toArray :=
 Blk.mid_at [.int .i64 v] [.int .i64 x.e] ([.int .i64 x.q] ++ ([.int .i64 x.f] ++ ([.int .i64 x.t] ++ (x.cm.cells ++ (x.st.cells ++ (x.ce.cells ++ (x.ak.cells))))))) ([.int .i64 x.r] ++ ([.int .u64 (x.tm : Int)] ++ (x.pr.cells ++ (x.po.cells ++ (x.vt.cells ++ ([.int .i64 x.i] ++ (x.en.cells ++ (x.op.cells ++ (x.dn.cells ++ ([.string ⟨x.rp.toArray⟩] ++ (x.de.cells))))))))))) 154 (by simp only [List.length_append, List.length_cons, List.length_nil, Wcm.len hx.cm, Wst.len hx.st, Wce.len hx.ce, Wst.len hx.ak]) rfl _ _ (by simp only [Wmg.cells, List.append_assoc, List.append_nil]) (by simp only [Wmg.cells, List.append_assoc, List.append_nil]) hb
theorem Wmg.blk_r {w : World} {g : Nat} {t : TypeId} {x : Wmg} (hx : x.Len) (v : Int) (hb : Blk w g t x.cells.toArray) : Blk (w.setCells g 155 [.int .i64 v]) g t ({x with r := v} : Wmg).cells.toArray :=
 Blk.mid_at [.int .i64 v] [.int .i64 x.r] ([.int .i64 x.q] ++ ([.int .i64 x.f] ++ ([.int .i64 x.t] ++ (x.cm.cells ++ (x.st.cells ++ (x.ce.cells ++ (x.ak.cells ++ ([.int .i64 x.e])))))))) ([.int .u64 (x.tm : Int)] ++ (x.pr.cells ++ (x.po.cells ++ (x.vt.cells ++ ([.int .i64 x.i] ++ (x.en.cells ++ (x.op.cells ++ (x.dn.cells ++ ([.string ⟨x.rp.toArray⟩] ++ (x.de.cells)))))))))) 155 (by simp only [List.length_append, List.length_cons, List.length_nil, Wcm.len hx.cm, Wst.len hx.st, Wce.len hx.ce, Wst.len hx.ak]) rfl _ _ (by simp only [Wmg.cells, List.append_assoc, List.append_nil]) (by simp only [Wmg.cells, List.append_assoc, List.append_nil]) hb
theorem Wmg.blk_tm {w : World} {g : Nat} {t : TypeId} {x : Wmg} (hx : x.Len) (v : Nat) (hb : Blk w g t x.cells.toArray) : Blk (w.setCells g 156 [.int .u64 (v : Int)]) g t ({x with tm := v} : Wmg).cells.toArray :=
 Blk.mid_at [.int .u64 (v : Int)] [.int .u64 (x.tm : Int)] ([.int .i64 x.q] ++ ([.int .i64 x.f] ++ ([.int .i64 x.t] ++ (x.cm.cells ++ (x.st.cells ++ (x.ce.cells ++ (x.ak.cells ++ ([.int .i64 x.e] ++ ([.int .i64 x.r]))))))))) (x.pr.cells ++ (x.po.cells ++ (x.vt.cells ++ ([.int .i64 x.i] ++ (x.en.cells ++ (x.op.cells ++ (x.dn.cells ++ ([.string ⟨x.rp.toArray⟩] ++ (x.de.cells))))))))) 156 (by simp only [List.length_append, List.length_cons, List.length_nil, Wcm.len hx.cm, Wst.len hx.st, Wce.len hx.ce, Wst.len hx.ak]) rfl _ _ (by simp only [Wmg.cells, List.append_assoc, List.append_nil]) (by simp only [Wmg.cells, List.append_assoc, List.append_nil]) hb
theorem Wmg.blk_rp {w : World} {g : Nat} {t : TypeId} {x : Wmg} (hx : x.Len) (v : List UInt8) (hb : Blk w g t x.cells.toArray) : Blk (w.setCells g 286 [.string ⟨(v).toArray⟩]) g t ({x with rp := v} : Wmg).cells.toArray :=
 Blk.mid_at [.string ⟨(v).toArray⟩] [.string ⟨x.rp.toArray⟩] ([.int .i64 x.q] ++ ([.int .i64 x.f] ++ ([.int .i64 x.t] ++ (x.cm.cells ++ (x.st.cells ++ (x.ce.cells ++ (x.ak.cells ++ ([.int .i64 x.e] ++ ([.int .i64 x.r] ++ ([.int .u64 (x.tm : Int)] ++ (x.pr.cells ++ (x.po.cells ++ (x.vt.cells ++ ([.int .i64 x.i] ++ (x.en.cells ++ (x.op.cells ++ (x.dn.cells))))))))))))))))) (x.de.cells) 286 (by simp only [List.length_append, List.length_cons, List.length_nil, Wcm.len hx.cm, Wst.len hx.st, Wce.len hx.ce, Wst.len hx.ak, Wpr.len x.pr, Wpo.len x.po, Wvt.len hx.vt, Wen.len hx.en, Wop.len hx.op, Wdn.len x.dn]) rfl _ _ (by simp only [Wmg.cells, List.append_assoc, List.append_nil]) (by simp only [Wmg.cells, List.append_assoc, List.append_nil]) hb
theorem Wmg.blk_en {w : World} {g : Nat} {t : TypeId} {x : Wmg} (hx : x.Len) (v : Wen) (hv : v.cells.length = 35) (hb : Blk w g t x.cells.toArray) : Blk (w.setCells g 213 v.cells) g t ({x with en := v} : Wmg).cells.toArray :=
 Blk.mid_at v.cells x.en.cells ([.int .i64 x.q] ++ ([.int .i64 x.f] ++ ([.int .i64 x.t] ++ (x.cm.cells ++ (x.st.cells ++ (x.ce.cells ++ (x.ak.cells ++ ([.int .i64 x.e] ++ ([.int .i64 x.r] ++ ([.int .u64 (x.tm : Int)] ++ (x.pr.cells ++ (x.po.cells ++ (x.vt.cells ++ ([.int .i64 x.i])))))))))))))) (x.op.cells ++ (x.dn.cells ++ ([.string ⟨x.rp.toArray⟩] ++ (x.de.cells)))) 213 (by simp only [List.length_append, List.length_cons, List.length_nil, Wcm.len hx.cm, Wst.len hx.st, Wce.len hx.ce, Wst.len hx.ak, Wpr.len x.pr, Wpo.len x.po, Wvt.len hx.vt]) (by rw [hv, Wen.len hx.en]) _ _ (by simp only [Wmg.cells, List.append_assoc, List.append_nil]) (by simp only [Wmg.cells, List.append_assoc, List.append_nil]) hb
set_option maxHeartbeats 2000000 in
theorem mget_i (x : Wmg) (hz : x.Len) (hq : x.q = 11) (w : World) (F : List Nat) (g gm : Nat) (s : Ps) (hr : Rs w F g s) (hb : Blk w gm 61 x.cells.toArray) (hgm : gm ≠ g) (hF : ¬ gm ∈ F) :
  Calls Tryz.prog 40 #[.pointer (some ⟨g, 0, none⟩), .pointer (some ⟨gm, 0, none⟩)] w fun e w' => e = .returned (.bool true) ∧ Blk w' gm 61 ({x with i := (pI s).1} : Wmg).cells.toArray ∧ Rs w' F g (pI s).2 ∧ Fr [g, gm] w w' := by
 have hq0 : w.cell? ⟨gm, 0, none⟩ = some (.int .i64 11) := by have h := hb.range (cs := x.cells) 0 (.int .i64 x.q) rfl; rw [hq] at h; exact h
 have HR := Lib.hid hr
 have HB := Lib.hid hb
 have HGM := Lib.hid hgm
 have HNF := Lib.hid hF
 have HZ := Lib.hid hz
 have HSI : Hid ((Tryz.prog.info? 3).map (·.size) = some 1) := Lib.hid (by kernel_rfl)
 have HSU : Hid ((Tryz.prog.info? 30).map (·.size) = some 1) := Lib.hid (by kernel_rfl)
 have HLT : Hid (∀ y : Wmg, y.Len → ∀ k < 295, k < y.cells.toArray.size) := Lib.hid (fun y hy k hk => by rw [List.size_toArray, Wmg.lenz hy]; exact hk)
 clear hr hb hgm hF hq hz
 go_enter Tryz.func40, Tryz.ntmps40
 go_wp2_with fail
 refine (getInt_any HR.out).mono ?_
 rintro e_ w1 ⟨rfl, h1, h2⟩
 have HB1 := Lib.hid (HB.out.keep h2 (by have := HGM.out; simpa using this))
 have HR1 := Lib.hid h1
 have HF1 : Hid (Fr [g] w w1) := Lib.hid (h2)
 clear h1 h2
 have HFS : Hid (Fr [gm] w1 (w1.setCells gm 212 [.int .i64 (pI s).1])) := Lib.hid (Fr.setCells (fun _ => by simp) [.int .i64 (pI s).1] 212 _ (Fr.refl _ _))
 have HBZ := Lib.hid (Wmg.blk_i HZ.out (pI s).1 HB1.out)
 go_wp2_with (refine wpList_store_at rfl 3 _ _ rfl gm 212 (.int .i64 (pI s).1) rfl rfl rfl 61 _ HB1.out (HLT.out _ HZ.out 212 (by omega)) HSI.out ?_)
 change bodyPost _ _ _ _ _ (w1.setCells gm 212 [.int .i64 (pI s).1])
 generalize w1.setCells gm 212 [.int .i64 (pI s).1] = wz at *
 go_ret
 exact ⟨rfl, HBZ.out, HR1.out.fr HFS.out (by have := HGM.out; simp; exact fun h => this h.symm) (fun q hq hm => HNF.out (by simp at hm; exact hm ▸ hq)), (HF1.out.mono (fun q hq _ => by simp at hq; simp [hq])).trans HFS.out (fun q hq _ => by simp at hq; simp [hq])⟩
set_option maxHeartbeats 2000000 in
theorem mget_en (x : Wmg) (hz : x.Len) (hq : x.q = 9) (w : World) (F : List Nat) (g gm : Nat) (s : Ps) (hr : Rs w F g s) (hb : Blk w gm 61 x.cells.toArray) (hgm : gm ≠ g) (hF : ¬ gm ∈ F) :
  Calls Tryz.prog 40 #[.pointer (some ⟨g, 0, none⟩), .pointer (some ⟨gm, 0, none⟩)] w fun e w' => e = .returned (.bool true) ∧ Blk w' gm 61 ({x with i := (pI s).1, en := (pEn (pI s).2).1} : Wmg).cells.toArray ∧ Rs w' F g (pEn (pI s).2).2 ∧ Fr [g, gm] w w' := by
 have hq0 : w.cell? ⟨gm, 0, none⟩ = some (.int .i64 9) := by have h := hb.range (cs := x.cells) 0 (.int .i64 x.q) rfl; rw [hq] at h; exact h
 have HR := Lib.hid hr
 have HB := Lib.hid hb
 have HGM := Lib.hid hgm
 have HNF := Lib.hid hF
 have HZ := Lib.hid hz
 have HSI : Hid ((Tryz.prog.info? 3).map (·.size) = some 1) := Lib.hid (by kernel_rfl)
 have HSU : Hid ((Tryz.prog.info? 30).map (·.size) = some 1) := Lib.hid (by kernel_rfl)
 have HLT : Hid (∀ y : Wmg, y.Len → ∀ k < 295, k < y.cells.toArray.size) := Lib.hid (fun y hy k hk => by rw [List.size_toArray, Wmg.lenz hy]; exact hk)
 clear hr hb hgm hF hq hz
 go_enter Tryz.func40, Tryz.ntmps40
 go_wp2_with fail
 refine (getInt_any HR.out).mono ?_
 rintro e_ w1 ⟨rfl, h1, h2⟩
 have HB1 := Lib.hid (HB.out.keep h2 (by have := HGM.out; simpa using this))
 have HR1 := Lib.hid h1
 have HF1 : Hid (Fr [g] w w1) := Lib.hid (h2)
 clear h1 h2
 go_wp2_with fail
 refine (getEntry_any HR1.out).mono ?_
 rintro e_ w2 ⟨rfl, h1, h2⟩
 have HB2 := Lib.hid (HB1.out.keep h2 (by have := HGM.out; simpa using this))
 have HR2 := Lib.hid h1
 have HF2 : Hid (Fr [g] w w2) := Lib.hid (HF1.out.trans h2 (fun q hq _ => hq))
 clear h1 h2
 have HVL : Hid ((pEn (pI s).2).1.cells.length = 35) := Lib.hid (Wen.len (pEn_ok _).h)
 have HONE : Hid ((pEn (pI s).2).1.cells.toArray.all (·.oneCell') = true) := Lib.hid (all_oneCell_toArray (Wen.one _))
 have HBI := Lib.hid (Wmg.blk_i HZ.out (pI s).1 HB2.out)
 have HZ1 : Hid (Wmg.Len {x with i := (pI s).1}) := Lib.hid ⟨HZ.out.cm, HZ.out.st, HZ.out.ce, HZ.out.ak, HZ.out.vt, HZ.out.en, HZ.out.op⟩
 have HBZ := Lib.hid (Wmg.blk_en HZ1.out (pEn (pI s).2).1 HVL.out HBI.out)
 have HTH : Hid ((w2.setCells gm 212 [.int .i64 (pI s).1]).there gm 213 (pEn (pI s).2).1.cells.toArray.size) := Lib.hid (HBI.out.thereM _ _ (by rw [List.size_toArray, HVL.out, List.size_toArray, Wmg.lenz HZ1.out]; omega))
 have HSZ : Hid ((Tryz.prog.info? 51).map (·.size) = some (pEn (pI s).2).1.cells.toArray.size) := Lib.hid (by rw [List.size_toArray, HVL.out]; kernel_rfl)
 obtain ⟨V, hV⟩ : ∃ V : List Value, V = (pEn (pI s).2).1.cells := ⟨_, rfl⟩
 rw [← hV] at HVL HONE HTH HSZ HBZ ⊢
 have HVV := Lib.hid hV
 clear hV
 have HFS : Hid (Fr [gm] w2 ((w2.setCells gm 212 [.int .i64 (pI s).1]).setCells gm 213 V)) := Lib.hid (Fr.setCells (fun _ => by simp) V 213 _ (Fr.setCells (fun _ => by simp) [.int .i64 (pI s).1] 212 _ (Fr.refl _ _)))
 go_wp2_with (first
  | (refine wpList_store_at rfl 3 _ _ rfl gm 212 (.int .i64 (pI s).1) rfl rfl rfl 61 _ HB2.out (HLT.out _ HZ.out 212 (by omega)) HSI.out ?_)
  | (refine wpList_store_mid rfl 51 _ _ rfl gm 213 V.toArray rfl rfl HTH.out HSZ.out HONE.out ?_))
 change bodyPost _ _ _ _ _ ((w2.setCells gm 212 [.int .i64 (pI s).1]).setCells gm 213 V)
 generalize (w2.setCells gm 212 [.int .i64 (pI s).1]).setCells gm 213 V = wz at *
 go_ret
 exact ⟨rfl, HBZ.out, HR2.out.fr HFS.out (by have := HGM.out; simp; exact fun h => this h.symm) (fun q hq hm => HNF.out (by simp at hm; exact hm ▸ hq)), (HF2.out.mono (fun q hq _ => by simp at hq; simp [hq])).trans HFS.out (fun q hq _ => by simp at hq; simp [hq])⟩
set_option maxHeartbeats 2000000 in
theorem mget_close (x : Wmg) (hz : x.Len) (hq : x.q = 5) (w : World) (F : List Nat) (g gm : Nat) (s : Ps) (hr : Rs w F g s) (hb : Blk w gm 61 x.cells.toArray) (hgm : gm ≠ g) (hF : ¬ gm ∈ F) :
  Calls Tryz.prog 40 #[.pointer (some ⟨g, 0, none⟩), .pointer (some ⟨gm, 0, none⟩)] w fun e w' => e = .returned (.bool true) ∧ Blk w' gm 61 ({x with e := (pI s).1, r := (pI (pI s).2).1, tm := (pN (pI (pI s).2).2).1} : Wmg).cells.toArray ∧ Rs w' F g (pN (pI (pI s).2).2).2 ∧ Fr [g, gm] w w' := by
 have hq0 : w.cell? ⟨gm, 0, none⟩ = some (.int .i64 5) := by have h := hb.range (cs := x.cells) 0 (.int .i64 x.q) rfl; rw [hq] at h; exact h
 have HR := Lib.hid hr
 have HB := Lib.hid hb
 have HGM := Lib.hid hgm
 have HNF := Lib.hid hF
 have HZ := Lib.hid hz
 have HSI : Hid ((Tryz.prog.info? 3).map (·.size) = some 1) := Lib.hid (by kernel_rfl)
 have HSU : Hid ((Tryz.prog.info? 30).map (·.size) = some 1) := Lib.hid (by kernel_rfl)
 have HLT : Hid (∀ y : Wmg, y.Len → ∀ k < 295, k < y.cells.toArray.size) := Lib.hid (fun y hy k hk => by rw [List.size_toArray, Wmg.lenz hy]; exact hk)
 clear hr hb hgm hF hq hz
 go_enter Tryz.func40, Tryz.ntmps40
 go_wp2_with fail
 refine (getInt_any HR.out).mono ?_
 rintro e_ w1 ⟨rfl, h1, h2⟩
 have HB1 := Lib.hid (HB.out.keep h2 (by have := HGM.out; simpa using this))
 have HR1 := Lib.hid h1
 have HF1 : Hid (Fr [g] w w1) := Lib.hid (h2)
 clear h1 h2
 go_wp2_with fail
 refine (getInt_any HR1.out).mono ?_
 rintro e_ w2 ⟨rfl, h1, h2⟩
 have HB2 := Lib.hid (HB1.out.keep h2 (by have := HGM.out; simpa using this))
 have HR2 := Lib.hid h1
 have HF2 : Hid (Fr [g] w w2) := Lib.hid (HF1.out.trans h2 (fun q hq _ => hq))
 clear h1 h2
 go_wp2_with fail
 refine (getNum_any HR2.out).mono ?_
 rintro e_ w3 ⟨rfl, h1, h2⟩
 have HB3 := Lib.hid (HB2.out.keep h2 (by have := HGM.out; simpa using this))
 have HR3 := Lib.hid h1
 have HF3 : Hid (Fr [g] w w3) := Lib.hid (HF2.out.trans h2 (fun q hq _ => hq))
 clear h1 h2
 have HZ1 : Hid (Wmg.Len {x with e := (pI s).1}) := Lib.hid ⟨HZ.out.cm, HZ.out.st, HZ.out.ce, HZ.out.ak, HZ.out.vt, HZ.out.en, HZ.out.op⟩
 have HZ2 : Hid (Wmg.Len {x with e := (pI s).1, r := (pI (pI s).2).1}) := Lib.hid ⟨HZ.out.cm, HZ.out.st, HZ.out.ce, HZ.out.ak, HZ.out.vt, HZ.out.en, HZ.out.op⟩
 have HB4 := Lib.hid (Wmg.blk_e HZ.out (pI s).1 HB3.out)
 have HB5 := Lib.hid (Wmg.blk_r HZ1.out (pI (pI s).2).1 HB4.out)
 have HBZ := Lib.hid (Wmg.blk_tm HZ2.out (pN (pI (pI s).2).2).1 HB5.out)
 have HFS : Hid (Fr [gm] w3 (((w3.setCells gm 154 [.int .i64 (pI s).1]).setCells gm 155 [.int .i64 (pI (pI s).2).1]).setCells gm 156 [.int .u64 ((pN (pI (pI s).2).2).1 : Nat)])) := Lib.hid (Fr.setCells (fun _ => by simp) [.int .u64 ((pN (pI (pI s).2).2).1 : Nat)] 156 _ (Fr.setCells (fun _ => by simp) [.int .i64 (pI (pI s).2).1] 155 _ (Fr.setCells (fun _ => by simp) [.int .i64 (pI s).1] 154 _ (Fr.refl _ _))))
 go_wp2_with (first
  | (refine wpList_store_at rfl 3 _ _ rfl gm 154 (.int .i64 (pI s).1) rfl rfl rfl 61 _ HB3.out (HLT.out _ HZ.out 154 (by omega)) HSI.out ?_)
  | (refine wpList_store_at rfl 3 _ _ rfl gm 155 (.int .i64 (pI (pI s).2).1) rfl rfl rfl 61 _ HB4.out (HLT.out _ HZ1.out 155 (by omega)) HSI.out ?_)
  | (refine wpList_store_at rfl 30 _ _ rfl gm 156 (.int .u64 ((pN (pI (pI s).2).2).1 : Nat)) rfl rfl rfl 61 _ HB5.out (HLT.out _ HZ2.out 156 (by omega)) HSU.out ?_))
 change bodyPost _ _ _ _ _ (((w3.setCells gm 154 [.int .i64 (pI s).1]).setCells gm 155 [.int .i64 (pI (pI s).2).1]).setCells gm 156 [.int .u64 ((pN (pI (pI s).2).2).1 : Nat)])
 generalize ((w3.setCells gm 154 [.int .i64 (pI s).1]).setCells gm 155 [.int .i64 (pI (pI s).2).1]).setCells gm 156 [.int .u64 ((pN (pI (pI s).2).2).1 : Nat)] = wz at *
 go_ret
 exact ⟨rfl, HBZ.out, HR3.out.fr HFS.out (by have := HGM.out; simp; exact fun h => this h.symm) (fun q hq hm => HNF.out (by simp at hm; exact hm ▸ hq)), (HF3.out.mono (fun q hq _ => by simp at hq; simp [hq])).trans HFS.out (fun q hq _ => by simp at hq; simp [hq])⟩
theorem conv_back {w : World} {A : Option Addr} {n c : Nat} {l : List UInt8} (hy : By w A n l) : (convert 52 9 (.slice A n c)).run Tryz.prog w = .ok (.string ⟨l.toArray⟩) w := by
 cases A with
 | none =>
   obtain ⟨rfl, rfl⟩ := hy.none_
   rw [run_convert_bytes_string w 52 9 5 none 0 c Tryz.underlying52 Tryz.underlying5 Tryz.underlying9]
   rfl
 | some a =>
   obtain ⟨hl, hc⟩ := hy
   subst hl
   refine run_convert_bytes_back w 52 9 5 a c l Tryz.underlying52 Tryz.underlying5 Tryz.underlying9 (fun j hj => ?_)
   obtain ⟨ad, e, hc⟩ := hc (by omega)
   injection e with e
   subst e
   exact hc j _ (by simp [List.getElem?_eq_getElem hj, by8])
set_option maxHeartbeats 2000000 in
theorem mget_reply (x : Wmg) (hz : x.Len) (hq : x.q = 13) (w : World) (F : List Nat) (g gm : Nat) (s : Ps) (hr : Rs w F g s) (hb : Blk w gm 61 x.cells.toArray) (hgm : gm ≠ g) (hF : ¬ gm ∈ F) :
  Calls Tryz.prog 40 #[.pointer (some ⟨g, 0, none⟩), .pointer (some ⟨gm, 0, none⟩)] w fun e w' => e = .returned (.bool true) ∧ Blk w' gm 61 ({x with i := (pI s).1, rp := (pR (pI s).2).1} : Wmg).cells.toArray ∧ Rs w' F g (pR (pI s).2).2 ∧ Fr [g, gm] w w' := by
 have hq0 : w.cell? ⟨gm, 0, none⟩ = some (.int .i64 13) := by have h := hb.range (cs := x.cells) 0 (.int .i64 x.q) rfl; rw [hq] at h; exact h
 have HR := Lib.hid hr
 have HB := Lib.hid hb
 have HGM := Lib.hid hgm
 have HNF := Lib.hid hF
 have HZ := Lib.hid hz
 have HSI : Hid ((Tryz.prog.info? 3).map (·.size) = some 1) := Lib.hid (by kernel_rfl)
 have HSU : Hid ((Tryz.prog.info? 30).map (·.size) = some 1) := Lib.hid (by kernel_rfl)
 have HLT : Hid (∀ y : Wmg, y.Len → ∀ k < 295, k < y.cells.toArray.size) := Lib.hid (fun y hy k hk => by rw [List.size_toArray, Wmg.lenz hy]; exact hk)
 clear hr hb hgm hF hq hz
 go_enter Tryz.func40, Tryz.ntmps40
 go_wp2_with fail
 refine (getInt_any HR.out).mono ?_
 rintro e_ w1 ⟨rfl, h1, h2⟩
 have HB1 := Lib.hid (HB.out.keep h2 (by have := HGM.out; simpa using this))
 have HR1 := Lib.hid h1
 have HF1 : Hid (Fr [g] w w1) := Lib.hid (h2)
 clear h1 h2
 go_wp2_with fail
 refine (getRow_any HR1.out).mono ?_
 rintro e_ w2 ⟨A, c, rfl, hy, hbk, hlc, h1, h2⟩
 have hconv := conv_back (c := c) hy
 clear hy hbk hlc
 have HB2 := Lib.hid (HB1.out.keep h2 (by have := HGM.out; simpa using this))
 have HR2 := Lib.hid h1
 have HF2 : Hid (Fr [g] w w2) := Lib.hid (HF1.out.trans h2 (fun q hq _ => hq))
 clear h1 h2
 have HBI := Lib.hid (Wmg.blk_i HZ.out (pI s).1 HB2.out)
 have HZ1 : Hid (Wmg.Len {x with i := (pI s).1}) := Lib.hid ⟨HZ.out.cm, HZ.out.st, HZ.out.ce, HZ.out.ak, HZ.out.vt, HZ.out.en, HZ.out.op⟩
 have HSS : Hid ((Tryz.prog.info? 9).map (·.size) = some 1) := Lib.hid (by kernel_rfl)
 have HBZ := Lib.hid (Wmg.blk_rp HZ1.out (pR (pI s).2).1 HBI.out)
 have HFS : Hid (Fr [gm] w2 ((w2.setCells gm 212 [.int .i64 (pI s).1]).setCells gm 286 [.string ⟨(pR (pI s).2).1.toArray⟩])) := Lib.hid (Fr.setCells (fun _ => by simp) [.string ⟨(pR (pI s).2).1.toArray⟩] 286 _ (Fr.setCells (fun _ => by simp) [.int .i64 (pI s).1] 212 _ (Fr.refl _ _)))
 go_wp2_with (first
  | (refine wpList_store_at rfl 3 _ _ rfl gm 212 (.int .i64 (pI s).1) rfl rfl rfl 61 _ HB2.out (HLT.out _ HZ.out 212 (by omega)) HSI.out ?_)
  | (refine wpList_store_at rfl 9 _ _ rfl gm 286 (.string ⟨(pR (pI s).2).1.toArray⟩) rfl rfl rfl 61 _ HBI.out (HLT.out _ HZ1.out 286 (by omega)) HSS.out ?_))
 change bodyPost _ _ _ _ _ ((w2.setCells gm 212 [.int .i64 (pI s).1]).setCells gm 286 [.string ⟨(pR (pI s).2).1.toArray⟩])
 generalize (w2.setCells gm 212 [.int .i64 (pI s).1]).setCells gm 286 [.string ⟨(pR (pI s).2).1.toArray⟩] = wz at *
 go_ret
 exact ⟨rfl, HBZ.out, HR2.out.fr HFS.out (by have := HGM.out; simp; exact fun h => this h.symm) (fun q hq hm => HNF.out (by simp at hm; exact hm ▸ hq)), (HF2.out.mono (fun q hq _ => by simp at hq; simp [hq])).trans HFS.out (fun q hq _ => by simp at hq; simp [hq])⟩
end Go.Proofs.YtdenpfcgghangaaGreat

namespace Go.Proofs.YtdenpfcgghangaaGreat
open Go.RowKit
set_option maxRecDepth 100000
structure Cmg where
 q : Int
 f : Int
 t : Int
 cm : Wcm
 st : Wst
 ce : Cce
 ak : Wst
 e : Int
 r : Int
 tm : Nat
 pr : Cpr
 po : Cpo
 vt : Wvt
 i : Int
 en : Wen
 op : Cop
 dn : Wdn
 rp : List UInt8
 de : Cdc
def Wmg.con (x : Wmg) : Cmg := ⟨x.q, x.f, x.t, x.cm, x.st, x.ce.con, x.ak, x.e, x.r, x.tm, x.pr.con, x.po.con, x.vt, x.i, x.en, x.op.con, x.dn, x.rp, x.de.con⟩
def pM (c : Cmg) (s : Ps) : Cmg × Ps := if c.q = 1 then ({c with cm := (pCm s).1}, (pCm s).2) else if c.q = 2 then ({c with st := (pSt s).1}, (pSt s).2) else if c.q = 3 then ({c with ce := (pCe s).1}, (pCe s).2) else if c.q = 4 then ({c with ak := (pSt s).1}, (pSt s).2) else if c.q = 5 then ({c with e := (pI s).1, r := (pI (pI s).2).1, tm := (pN (pI (pI s).2).2).1}, (pN (pI (pI s).2).2).2) else if c.q = 6 then ({c with pr := (pPr s).1}, (pPr s).2) else if c.q = 7 then ({c with po := (pPo s).1}, (pPo s).2) else if c.q = 8 then ({c with vt := (pVt s).1}, (pVt s).2) else if c.q = 9 then ({c with i := (pI s).1, en := (pEn (pI s).2).1}, (pEn (pI s).2).2) else if c.q = 10 then ({c with op := (pOp s).1}, (pOp s).2) else if c.q = 11 then ({c with i := (pI s).1}, (pI s).2) else if c.q = 12 then ({c with dn := (pDn s).1}, (pDn s).2) else if c.q = 13 then ({c with i := (pI s).1, rp := (pR (pI s).2).1}, (pR (pI s).2).2) else if c.q = 14 then ({c with de := (pDc s).1}, (pDc s).2) else (c, s)
theorem pM_1 {c : Cmg} (s : Ps) (h : c.q = 1) : pM c s = ({c with cm := (pCm s).1}, (pCm s).2) := by simp [pM, h]
theorem pM_2 {c : Cmg} (s : Ps) (h : c.q = 2) : pM c s = ({c with st := (pSt s).1}, (pSt s).2) := by simp [pM, h]
theorem pM_3 {c : Cmg} (s : Ps) (h : c.q = 3) : pM c s = ({c with ce := (pCe s).1}, (pCe s).2) := by simp [pM, h]
theorem pM_4 {c : Cmg} (s : Ps) (h : c.q = 4) : pM c s = ({c with ak := (pSt s).1}, (pSt s).2) := by simp [pM, h]
theorem pM_5 {c : Cmg} (s : Ps) (h : c.q = 5) : pM c s = ({c with e := (pI s).1, r := (pI (pI s).2).1, tm := (pN (pI (pI s).2).2).1}, (pN (pI (pI s).2).2).2) := by simp [pM, h]
theorem pM_6 {c : Cmg} (s : Ps) (h : c.q = 6) : pM c s = ({c with pr := (pPr s).1}, (pPr s).2) := by simp [pM, h]
theorem pM_7 {c : Cmg} (s : Ps) (h : c.q = 7) : pM c s = ({c with po := (pPo s).1}, (pPo s).2) := by simp [pM, h]
theorem pM_8 {c : Cmg} (s : Ps) (h : c.q = 8) : pM c s = ({c with vt := (pVt s).1}, (pVt s).2) := by simp [pM, h]
theorem pM_9 {c : Cmg} (s : Ps) (h : c.q = 9) : pM c s = ({c with i := (pI s).1, en := (pEn (pI s).2).1}, (pEn (pI s).2).2) := by simp [pM, h]
theorem pM_10 {c : Cmg} (s : Ps) (h : c.q = 10) : pM c s = ({c with op := (pOp s).1}, (pOp s).2) := by simp [pM, h]
theorem pM_11 {c : Cmg} (s : Ps) (h : c.q = 11) : pM c s = ({c with i := (pI s).1}, (pI s).2) := by simp [pM, h]
theorem pM_12 {c : Cmg} (s : Ps) (h : c.q = 12) : pM c s = ({c with dn := (pDn s).1}, (pDn s).2) := by simp [pM, h]
theorem pM_13 {c : Cmg} (s : Ps) (h : c.q = 13) : pM c s = ({c with i := (pI s).1, rp := (pR (pI s).2).1}, (pR (pI s).2).2) := by simp [pM, h]
theorem pM_14 {c : Cmg} (s : Ps) (h : c.q = 14) : pM c s = ({c with de := (pDc s).1}, (pDc s).2) := by simp [pM, h]
theorem pM_none {c : Cmg} (s : Ps) (h : ¬ (1 ≤ c.q ∧ c.q ≤ 14)) : pM c s = (c, s) := by
 unfold pM
 rw [if_neg (by omega)]
 rw [if_neg (by omega)]
 rw [if_neg (by omega)]
 rw [if_neg (by omega)]
 rw [if_neg (by omega)]
 rw [if_neg (by omega)]
 rw [if_neg (by omega)]
 rw [if_neg (by omega)]
 rw [if_neg (by omega)]
 rw [if_neg (by omega)]
 rw [if_neg (by omega)]
 rw [if_neg (by omega)]
 rw [if_neg (by omega)]
 rw [if_neg (by omega)]
structure Wmg.Li (w : World) (S : List Nat) (x : Wmg) : Prop where
 cm : x.cm.Ok
 st : x.st.Ok
 ce : x.ce.Li w S
 ak : x.ak.Ok
 pr : x.pr.Li w S
 po : x.po.Li w S
 vt : x.vt.Ok
 en : x.en.Ok
 op : x.op.Ok w S
 dn : x.dn.Ok
 de : x.de.Li w S
theorem mb0_ok (w : World) (S : List Nat) : mb0.Li w S := ⟨zero_in, by decide, Lst.nil _, by decide, fun h => absurd h (by decide), Lst.nil _, by decide, fun h => absurd h (by decide), Lst.nil _, by decide, fun h => absurd h (by decide)⟩
theorem mz_li (w : World) (S : List Nat) (q f t : Int) : (mz q f t).Li w S :=
 ⟨⟨zero_in, zero_in, rfl, zero_in, zero_in, zero_in⟩, ⟨zero_in, zero_in, zero_in, rfl, (show 0 < 18446744073709551616 by decide), zero_in, zero_in⟩, zWce_ok w S, ⟨zero_in, zero_in, zero_in, rfl, (show 0 < 18446744073709551616 by decide), zero_in, zero_in⟩,
  zWpr_ok w S, ⟨zero_in, zero_in, zero_in, zero_in, mb0_ok w S, zero_in, zero_in⟩, ⟨zero_in, zero_in, zero_in, zero_in, rfl, zero_in, zero_in⟩, ⟨zero_in, zero_in, rfl, (show 0 < 18446744073709551616 by decide)⟩,
  ⟨zero_in, By.nil _ _, (show 0 ≤ 260 by decide), fun k hk => by simp [mz, bk] at hk, fun k hk => by simp [mz, bk] at hk, rfl, (show 0 ≤ 0 by decide)⟩, ⟨zero_in, zero_in, zero_in, zero_in⟩, ⟨zero_in, zero_in, mb0_ok w S, Lst.nil _, (show 0 ≤ 100 by decide), fun h => absurd h (show ¬ 0 < 0 by decide)⟩⟩
theorem mget_any (q f t : Int) (w : World) (F : List Nat) (g gm : Nat) (s : Ps) (hr : Rs w F g s) (hb : Blk w gm 61 (mz q f t).cells.toArray) (hgm : gm ≠ g) (hF : ¬ gm ∈ F) :
  Calls Tryz.prog 40 #[.pointer (some ⟨g, 0, none⟩), .pointer (some ⟨gm, 0, none⟩)] w fun e w' => ∃ y : Wmg, e = .returned (.bool (decide (1 ≤ q ∧ q ≤ 14))) ∧ y.con = (pM (mz q f t).con s).1 ∧ y.Len ∧ (∀ S0 : List Nat, (∀ k ∈ S0, k < w.heap.size) → y.Li w' S0) ∧ Blk w' gm 61 y.cells.toArray ∧ Rs w' F g (pM (mz q f t).con s).2 ∧ Fr [g, gm] w w' := by
 by_cases hm : 1 ≤ q ∧ q ≤ 14
 · rw [decide_eq_true hm]
   have hs : q = 1 ∨ q = 2 ∨ q = 3 ∨ q = 4 ∨ q = 5 ∨ q = 6 ∨ q = 7 ∨ q = 8 ∨ q = 9 ∨ q = 10 ∨ q = 11 ∨ q = 12 ∨ q = 13 ∨ q = 14 := by omega
   rcases hs with h | h | h | h | h | h | h | h | h | h | h | h | h | h
   · rw [pM_1 s (show (mz q f t).con.q = 1 from h)]
     refine (mget_cm (mz q f t) (mz_len q f t) h w F g gm s hr hb hgm hF).mono ?_
     rintro e w' ⟨v, rfl, hc, hok, hb', hr', hf'⟩
     exact ⟨{mz q f t with cm := v}, rfl, by rw [← hc]; rfl, ⟨(hok [] (by simp)).h, rfl, rfl, rfl, rfl, rfl, rfl⟩, fun S0 h0 => ⟨hok S0 h0, (mz_li w' S0 q f t).st, (mz_li w' S0 q f t).ce, (mz_li w' S0 q f t).ak, (mz_li w' S0 q f t).pr, (mz_li w' S0 q f t).po, (mz_li w' S0 q f t).vt, (mz_li w' S0 q f t).en, (mz_li w' S0 q f t).op, (mz_li w' S0 q f t).dn, (mz_li w' S0 q f t).de⟩, hb', hr', hf'⟩
   · rw [pM_2 s (show (mz q f t).con.q = 2 from h)]
     refine (mget_st (mz q f t) (mz_len q f t) h w F g gm s hr hb hgm hF).mono ?_
     rintro e w' ⟨v, rfl, hc, hok, hb', hr', hf'⟩
     exact ⟨{mz q f t with st := v}, rfl, by rw [← hc]; rfl, ⟨rfl, (hok [] (by simp)).h, rfl, rfl, rfl, rfl, rfl⟩, fun S0 h0 => ⟨(mz_li w' S0 q f t).cm, hok S0 h0, (mz_li w' S0 q f t).ce, (mz_li w' S0 q f t).ak, (mz_li w' S0 q f t).pr, (mz_li w' S0 q f t).po, (mz_li w' S0 q f t).vt, (mz_li w' S0 q f t).en, (mz_li w' S0 q f t).op, (mz_li w' S0 q f t).dn, (mz_li w' S0 q f t).de⟩, hb', hr', hf'⟩
   · rw [pM_3 s (show (mz q f t).con.q = 3 from h)]
     refine (mget_ce (mz q f t) (mz_len q f t) h w F g gm s hr hb hgm hF).mono ?_
     rintro e w' ⟨v, rfl, hc, hok, hb', hr', hf'⟩
     exact ⟨{mz q f t with ce := v}, rfl, by rw [← hc]; rfl, ⟨rfl, rfl, (hok [] (by simp)).k.h, rfl, rfl, rfl, rfl⟩, fun S0 h0 => ⟨(mz_li w' S0 q f t).cm, (mz_li w' S0 q f t).st, hok S0 h0, (mz_li w' S0 q f t).ak, (mz_li w' S0 q f t).pr, (mz_li w' S0 q f t).po, (mz_li w' S0 q f t).vt, (mz_li w' S0 q f t).en, (mz_li w' S0 q f t).op, (mz_li w' S0 q f t).dn, (mz_li w' S0 q f t).de⟩, hb', hr', hf'⟩
   · rw [pM_4 s (show (mz q f t).con.q = 4 from h)]
     refine (mget_ak (mz q f t) (mz_len q f t) h w F g gm s hr hb hgm hF).mono ?_
     rintro e w' ⟨v, rfl, hc, hok, hb', hr', hf'⟩
     exact ⟨{mz q f t with ak := v}, rfl, by rw [← hc]; rfl, ⟨rfl, rfl, rfl, (hok [] (by simp)).h, rfl, rfl, rfl⟩, fun S0 h0 => ⟨(mz_li w' S0 q f t).cm, (mz_li w' S0 q f t).st, (mz_li w' S0 q f t).ce, hok S0 h0, (mz_li w' S0 q f t).pr, (mz_li w' S0 q f t).po, (mz_li w' S0 q f t).vt, (mz_li w' S0 q f t).en, (mz_li w' S0 q f t).op, (mz_li w' S0 q f t).dn, (mz_li w' S0 q f t).de⟩, hb', hr', hf'⟩
   · rw [pM_5 s (show (mz q f t).con.q = 5 from h)]
     refine (mget_close (mz q f t) (mz_len q f t) h w F g gm s hr hb hgm hF).mono ?_
     rintro e w' ⟨rfl, hb', hr', hf'⟩
     exact ⟨{mz q f t with e := (pI s).1, r := (pI (pI s).2).1, tm := (pN (pI (pI s).2).2).1}, rfl, rfl, ⟨rfl, rfl, rfl, rfl, rfl, rfl, rfl⟩, fun S0 _ => ⟨(mz_li w' S0 q f t).cm, (mz_li w' S0 q f t).st, (mz_li w' S0 q f t).ce, (mz_li w' S0 q f t).ak, (mz_li w' S0 q f t).pr, (mz_li w' S0 q f t).po, (mz_li w' S0 q f t).vt, (mz_li w' S0 q f t).en, (mz_li w' S0 q f t).op, (mz_li w' S0 q f t).dn, (mz_li w' S0 q f t).de⟩, hb', hr', hf'⟩
   · rw [pM_6 s (show (mz q f t).con.q = 6 from h)]
     refine (mget_pr (mz q f t) (mz_len q f t) h w F g gm s hr hb hgm hF).mono ?_
     rintro e w' ⟨v, rfl, hc, hok, hb', hr', hf'⟩
     exact ⟨{mz q f t with pr := v}, rfl, by rw [← hc]; rfl, ⟨rfl, rfl, rfl, rfl, rfl, rfl, rfl⟩, fun S0 h0 => ⟨(mz_li w' S0 q f t).cm, (mz_li w' S0 q f t).st, (mz_li w' S0 q f t).ce, (mz_li w' S0 q f t).ak, hok S0 h0, (mz_li w' S0 q f t).po, (mz_li w' S0 q f t).vt, (mz_li w' S0 q f t).en, (mz_li w' S0 q f t).op, (mz_li w' S0 q f t).dn, (mz_li w' S0 q f t).de⟩, hb', hr', hf'⟩
   · rw [pM_7 s (show (mz q f t).con.q = 7 from h)]
     refine (mget_po (mz q f t) (mz_len q f t) h w F g gm s hr hb hgm hF).mono ?_
     rintro e w' ⟨v, rfl, hc, hok, hb', hr', hf'⟩
     exact ⟨{mz q f t with po := v}, rfl, by rw [← hc]; rfl, ⟨rfl, rfl, rfl, rfl, rfl, rfl, rfl⟩, fun S0 h0 => ⟨(mz_li w' S0 q f t).cm, (mz_li w' S0 q f t).st, (mz_li w' S0 q f t).ce, (mz_li w' S0 q f t).ak, (mz_li w' S0 q f t).pr, hok S0 h0, (mz_li w' S0 q f t).vt, (mz_li w' S0 q f t).en, (mz_li w' S0 q f t).op, (mz_li w' S0 q f t).dn, (mz_li w' S0 q f t).de⟩, hb', hr', hf'⟩
   · rw [pM_8 s (show (mz q f t).con.q = 8 from h)]
     refine (mget_vt (mz q f t) (mz_len q f t) h w F g gm s hr hb hgm hF).mono ?_
     rintro e w' ⟨v, rfl, hc, hok, hb', hr', hf'⟩
     exact ⟨{mz q f t with vt := v}, rfl, by rw [← hc]; rfl, ⟨rfl, rfl, rfl, rfl, (hok [] (by simp)).h, rfl, rfl⟩, fun S0 h0 => ⟨(mz_li w' S0 q f t).cm, (mz_li w' S0 q f t).st, (mz_li w' S0 q f t).ce, (mz_li w' S0 q f t).ak, (mz_li w' S0 q f t).pr, (mz_li w' S0 q f t).po, hok S0 h0, (mz_li w' S0 q f t).en, (mz_li w' S0 q f t).op, (mz_li w' S0 q f t).dn, (mz_li w' S0 q f t).de⟩, hb', hr', hf'⟩
   · rw [pM_9 s (show (mz q f t).con.q = 9 from h)]
     refine (mget_en (mz q f t) (mz_len q f t) h w F g gm s hr hb hgm hF).mono ?_
     rintro e w' ⟨rfl, hb', hr', hf'⟩
     exact ⟨{mz q f t with i := (pI s).1, en := (pEn (pI s).2).1}, rfl, rfl, ⟨rfl, rfl, rfl, rfl, rfl, (pEn_ok _).h, rfl⟩, fun S0 _ => ⟨(mz_li w' S0 q f t).cm, (mz_li w' S0 q f t).st, (mz_li w' S0 q f t).ce, (mz_li w' S0 q f t).ak, (mz_li w' S0 q f t).pr, (mz_li w' S0 q f t).po, (mz_li w' S0 q f t).vt, pEn_ok _, (mz_li w' S0 q f t).op, (mz_li w' S0 q f t).dn, (mz_li w' S0 q f t).de⟩, hb', hr', hf'⟩
   · rw [pM_10 s (show (mz q f t).con.q = 10 from h)]
     refine (mget_op (mz q f t) (mz_len q f t) h w F g gm s hr hb hgm hF).mono ?_
     rintro e w' ⟨v, rfl, hc, hok, hb', hr', hf'⟩
     exact ⟨{mz q f t with op := v}, rfl, by rw [← hc]; rfl, ⟨rfl, rfl, rfl, rfl, rfl, rfl, (hok [] (by simp)).h⟩, fun S0 h0 => ⟨(mz_li w' S0 q f t).cm, (mz_li w' S0 q f t).st, (mz_li w' S0 q f t).ce, (mz_li w' S0 q f t).ak, (mz_li w' S0 q f t).pr, (mz_li w' S0 q f t).po, (mz_li w' S0 q f t).vt, (mz_li w' S0 q f t).en, hok S0 h0, (mz_li w' S0 q f t).dn, (mz_li w' S0 q f t).de⟩, hb', hr', hf'⟩
   · rw [pM_11 s (show (mz q f t).con.q = 11 from h)]
     refine (mget_i (mz q f t) (mz_len q f t) h w F g gm s hr hb hgm hF).mono ?_
     rintro e w' ⟨rfl, hb', hr', hf'⟩
     exact ⟨{mz q f t with i := (pI s).1}, rfl, rfl, ⟨rfl, rfl, rfl, rfl, rfl, rfl, rfl⟩, fun S0 _ => ⟨(mz_li w' S0 q f t).cm, (mz_li w' S0 q f t).st, (mz_li w' S0 q f t).ce, (mz_li w' S0 q f t).ak, (mz_li w' S0 q f t).pr, (mz_li w' S0 q f t).po, (mz_li w' S0 q f t).vt, (mz_li w' S0 q f t).en, (mz_li w' S0 q f t).op, (mz_li w' S0 q f t).dn, (mz_li w' S0 q f t).de⟩, hb', hr', hf'⟩
   · rw [pM_12 s (show (mz q f t).con.q = 12 from h)]
     refine (mget_dn (mz q f t) (mz_len q f t) h w F g gm s hr hb hgm hF).mono ?_
     rintro e w' ⟨v, rfl, hc, hok, hb', hr', hf'⟩
     exact ⟨{mz q f t with dn := v}, rfl, by rw [← hc]; rfl, ⟨rfl, rfl, rfl, rfl, rfl, rfl, rfl⟩, fun S0 h0 => ⟨(mz_li w' S0 q f t).cm, (mz_li w' S0 q f t).st, (mz_li w' S0 q f t).ce, (mz_li w' S0 q f t).ak, (mz_li w' S0 q f t).pr, (mz_li w' S0 q f t).po, (mz_li w' S0 q f t).vt, (mz_li w' S0 q f t).en, (mz_li w' S0 q f t).op, hok S0 h0, (mz_li w' S0 q f t).de⟩, hb', hr', hf'⟩
   · rw [pM_13 s (show (mz q f t).con.q = 13 from h)]
     refine (mget_reply (mz q f t) (mz_len q f t) h w F g gm s hr hb hgm hF).mono ?_
     rintro e w' ⟨rfl, hb', hr', hf'⟩
     exact ⟨{mz q f t with i := (pI s).1, rp := (pR (pI s).2).1}, rfl, rfl, ⟨rfl, rfl, rfl, rfl, rfl, rfl, rfl⟩, fun S0 _ => ⟨(mz_li w' S0 q f t).cm, (mz_li w' S0 q f t).st, (mz_li w' S0 q f t).ce, (mz_li w' S0 q f t).ak, (mz_li w' S0 q f t).pr, (mz_li w' S0 q f t).po, (mz_li w' S0 q f t).vt, (mz_li w' S0 q f t).en, (mz_li w' S0 q f t).op, (mz_li w' S0 q f t).dn, (mz_li w' S0 q f t).de⟩, hb', hr', hf'⟩
   · rw [pM_14 s (show (mz q f t).con.q = 14 from h)]
     refine (mget_de (mz q f t) (mz_len q f t) h w F g gm s hr hb hgm hF).mono ?_
     rintro e w' ⟨v, rfl, hc, hok, hb', hr', hf'⟩
     exact ⟨{mz q f t with de := v}, rfl, by rw [← hc]; rfl, ⟨rfl, rfl, rfl, rfl, rfl, rfl, rfl⟩, fun S0 h0 => ⟨(mz_li w' S0 q f t).cm, (mz_li w' S0 q f t).st, (mz_li w' S0 q f t).ce, (mz_li w' S0 q f t).ak, (mz_li w' S0 q f t).pr, (mz_li w' S0 q f t).po, (mz_li w' S0 q f t).vt, (mz_li w' S0 q f t).en, (mz_li w' S0 q f t).op, (mz_li w' S0 q f t).dn, hok S0 h0⟩, hb', hr', hf'⟩
 · rw [decide_eq_false hm, pM_none s (show ¬ (1 ≤ (mz q f t).con.q ∧ (mz q f t).con.q ≤ 14) from hm)]
   refine (mget_none (mz q f t) hm w g gm hb).mono ?_
   rintro e w' ⟨rfl, rfl⟩
   exact ⟨mz q f t, rfl, rfl, mz_len q f t, fun S0 _ => mz_li w S0 q f t, hb, hr, Fr.refl _ _⟩
end Go.Proofs.YtdenpfcgghangaaGreat
