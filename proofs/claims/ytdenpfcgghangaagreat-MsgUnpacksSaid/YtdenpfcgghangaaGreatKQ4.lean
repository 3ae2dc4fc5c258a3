/- Texts that the proof stands on: msgs.Unpack of bytes that are not too many. (written by gen_mk.py) | append onto a slice with no room behind it (s[:len(s):len(s)]): what comes is in a new block. | gavelref01.Unpack: its beginning. | '==' of two structs in a region that draws its order. | Equality of structs, field by field: names, signatures, stamps, votes, denials. | gavelkeep's Openings and Tombs of one list on both sides. (written by gen_slf.py) | Package commit: the document's example (wakes). | Package commit: an opening is built of its parts. | Package commit: a commitment is equal to itself. | gavelkeep's Cert, Promise, Batch of parts that say the same, wherever they lie. (written by gen_keq.py) | Equality of acks, entries, whatever they say. (written by gen_mq.py) | gavellaw06.wakes. | No number's bytes are the beginning of another one's. | Messages of small numbers: their bytes tell them apart. | gavellaw06.tiny: a message of small numbers. (written by gen_mtb.py) | What is behind a false '&&': operations that are not met, picks and moves, all at once. | gavelkeep's Proposal and Msg, wherever the parts lie. (written by gen_mke.py) | Promises, certificates, commitments, signatures that come in as arguments. | Openings, tombstones, batches, proposals that come in: what their reading says of cells. (written by gen_wbt.py) | Votes, acks, entries, decided, messages that come in: what their reading says of cells. (written by gen_mo.py) -/
import Derived.Test.YtdenpfcgghangaaGreatKQ3
import Derived.Laws.ResultCell
import Derived.Test.YtdenpfcgghangaaGreatVals
import Derived.Deep.CutBlock
import Derived.Test.YtdenpfcgghangaaGreatReg
import Derived.Test.YtdenpfcgghangaaGreatRead
import Derived.Laws.StructEq
import Derived.Test.YtdenpfcgghangaaGreatReg2
import Derived.Test.YtdenpfcgghangaaGreatWr
import Derived.Test.YtdenpfcgghangaaGreatMem
set_option linter.unusedSimpArgs false
set_option linter.unusedVariables false
set_option maxRecDepth 100000

namespace Go.Proofs.YtdenpfcgghangaaGreat
open Go.RowKit
set_option maxRecDepth 100000
def pU (l : List UInt8) : Cmg × Bool :=
 if 1 ≤ (pI (l, false)).1 ∧ (pI (l, false)).1 ≤ 14 ∧ (pM (mz (pI (l, false)).1 (pI (pI (l, false)).2).1 (pI (pI (pI (l, false)).2).2).1).con (pI (pI (pI (l, false)).2).2).2).2.2 = false ∧ (pM (mz (pI (l, false)).1 (pI (pI (l, false)).2).1 (pI (pI (pI (l, false)).2).2).1).con (pI (pI (pI (l, false)).2).2).2).2.1 = [] then ((pM (mz (pI (l, false)).1 (pI (pI (l, false)).2).1 (pI (pI (pI (l, false)).2).2).1).con (pI (pI (pI (l, false)).2).2).2).1, true) else ((mz 0 0 0).con, false)
theorem Wmg.Li.keep {w W : World} {S S' : List Nat} {x : Wmg} (h : x.Li w S) (hf : Fr S w W) (hs : ∀ k ∈ S', k < w.heap.size → k ∈ S) : x.Li W S' :=
 ⟨h.cm, h.st, h.ce.keep hf hs, h.ak, h.pr.keep hf hs, h.po.keep hf hs, h.vt, h.en, h.op.keep hf hs, h.dn, h.de.keep hf hs⟩
set_option maxHeartbeats 4000000 in
theorem munpack_any (A : Option Addr) (n c : Nat) (l : List UInt8) (w : World) (hy : By w A n l) (hn : n ≤ 65536) :
  Calls Tryz.prog 10 #[.slice A n c] w fun e w' => ∃ y : Wmg, e = .returned (.tuple #[.agg y.cells.toArray, .bool (pU l).2]) ∧ y.con = (pU l).1 ∧ y.Len ∧ (∀ S0 : List Nat, (∀ k ∈ S0, k < w.heap.size) → y.Li w' S0) ∧ Fr [] w w' := by
 obtain ⟨Z, hZ⟩ : ∃ Z, Z = (mz 0 0 0).cells.toArray := ⟨_, rfl⟩
 obtain ⟨wa, hwa⟩ : ∃ wa, wa = w.alloc (Obj.cells Z 61) := ⟨_, rfl⟩
 have hf0 : Fr [] w wa := by rw [hwa]; exact (Fr.refl [] w).alloc _
 have HBZ : Hid (Blk wa w.heap.size 61 Z) := Lib.hid (by rw [hwa]; exact Blk.new _ _ _)
 have HWS : Hid (wa.heap.size = w.heap.size + 1) := Lib.hid (by rw [hwa]; simp)
 have HY := Lib.hid (hy.keep hf0 (by simp))
 have HN := Lib.hid hn
 have HLN := Lib.hid hy.1
 have HF0 := Lib.hid hf0
 have HWA := Lib.hid hwa
 have HZ := Lib.hid hZ
 have HZT : Hid ((Tryz.prog.info? 61).map (·.size) = some Z.size) := Lib.hid (by rw [hZ]; exact msg_size (mz_len 0 0 0))
 have HZO : Hid (Z.all (·.oneCell') = true) := Lib.hid (by rw [hZ]; exact all_oneCell_toArray (Wmg.one _))
 have HB0 : Hid (Tryz.prog.built 61 [] = some Z) := Lib.hid (by rw [hZ]; exact built_mg0)
 have hbig : ¬ (65536 < (n : Int)) := by omega
 have hbig2 : ¬ (65536 < n) := by omega
 have HPU : Hid (pU l = if 1 ≤ (pI (l, false)).1 ∧ (pI (l, false)).1 ≤ 14 ∧ (pM (mz (pI (l, false)).1 (pI (pI (l, false)).2).1 (pI (pI (pI (l, false)).2).2).1).con (pI (pI (pI (l, false)).2).2).2).2.2 = false ∧ (pM (mz (pI (l, false)).1 (pI (pI (l, false)).2).1 (pI (pI (pI (l, false)).2).2).1).con (pI (pI (pI (l, false)).2).2).2).2.1 = [] then ((pM (mz (pI (l, false)).1 (pI (pI (l, false)).2).1 (pI (pI (pI (l, false)).2).2).1).con (pI (pI (pI (l, false)).2).2).2).1, true) else ((mz 0 0 0).con, false)) := Lib.hid rfl
 clear hwa hf0 hy hn hZ
 go_enter Tryz.func10, Tryz.ntmps10
 go_upto_region 1 with (fail)
 change Code.wp _ _ _ _ (w.alloc (Obj.cells (mz 0 0 0).cells.toArray 61))
 rw [← HZ.out, ← HWA.out]
 go_wp2_with fail
 refine (newReader_any A n c l wa HY.out (by have := HN.out; omega)).mono ?_
 rintro e_ w1 ⟨g, F, rfl, h1, h2, h3, h4⟩
 have HR1 : Hid (Rs w1 F g (l, false)) := Lib.hid ⟨h1, by have := HLN.out; have := HN.out; simp only; omega, fun k hk => (h4 k hk).2⟩
 have HG : Hid (w.heap.size < g ∧ g < w1.heap.size) := Lib.hid ⟨by have := HWS.out; omega, h1.lt⟩
 have HNF : Hid (∀ k ∈ F, w.heap.size < k ∧ k < w1.heap.size) := Lib.hid (fun k hk => by have h := h4 k hk; have := HWS.out; omega)
 have HF1 : Hid (Fr [] w w1) := Lib.hid (HF0.out.and h2 (by simp))
 have HB1 := Lib.hid (HBZ.out.keep h2 (by simp))
 clear h1 h2 h3 h4 hbig hbig2
 go_wp2_with fail
 refine (getInt_any HR1.out).mono ?_
 rintro e_ w2 ⟨rfl, h1, h2⟩
 have HR2 := Lib.hid h1
 have HF2 : Hid (Fr [g] w1 w2) := Lib.hid h2
 clear h1 h2
 go_wp2_with fail
 refine (getInt_any HR2.out).mono ?_
 rintro e_ w3 ⟨rfl, h1, h2⟩
 have HR3 := Lib.hid h1
 have HF3 : Hid (Fr [g] w1 w3) := Lib.hid (HF2.out.trans h2 (fun x hx _ => hx))
 clear h1 h2
 go_wp2_with fail
 refine (getInt_any HR3.out).mono ?_
 rintro e_ w4 ⟨rfl, h1, h2⟩
 have HR4 := Lib.hid h1
 have HF4 : Hid (Fr [g] w1 w4) := Lib.hid (HF3.out.trans h2 (fun x hx _ => hx))
 clear h1 h2
 have HB4 := Lib.hid (HB1.out.keep HF4.out (by have := HG.out; simp; omega))
 have HS4 : Hid (w1.heap.size ≤ w4.heap.size) := Lib.hid HF4.out.size
 have HBN : Hid (Blk (w4.alloc (Obj.cells (mz 0 0 0).cells.toArray 61)) w4.heap.size 61 Z) := Lib.hid (by rw [HZ.out]; exact Blk.new _ _ _)
 obtain ⟨V, hV⟩ : ∃ V, V = (mz (pI (l, false)).1 (pI (pI (l, false)).2).1 (pI (pI (pI (l, false)).2).2).1).cells.toArray := ⟨_, rfl⟩
 have HBU : Hid (Tryz.prog.built 61 [(0, .int .i64 (pI (l, false)).1), (1, .int .i64 (pI (pI (l, false)).2).1), (2, .int .i64 (pI (pI (pI (l, false)).2).2).1)] = some V) := Lib.hid (by rw [hV]; exact built_mg3 _ _ _)
 have HVT : Hid ((Tryz.prog.info? 61).map (·.size) = some V.size) := Lib.hid (by rw [hV]; exact msg_size (mz_len _ _ _))
 have HVO : Hid (V.all (·.oneCell') = true) := Lib.hid (by rw [hV]; exact all_oneCell_toArray (Wmg.one _))
 have HVZ : Hid (Z.size = V.size) := Lib.hid (by rw [hV, HZ.out, List.size_toArray, List.size_toArray, Wmg.lenz (mz_len _ _ _), Wmg.lenz (mz_len _ _ _)])
 have HV := Lib.hid hV
 clear hV
 go_wp2_with (first
  | (refine wpList_builtg rfl 61 _ rfl _ _ HBU.out rfl ?_)
  | (refine wpList_store_blk rfl 61 _ _ rfl w4.heap.size V rfl rfl 61 Z HBN.out HVT.out HVZ.out HVO.out ?_
     intro w5 hb5 hf5
     have HB5 := Lib.hid hb5
     have HF5 := Lib.hid ((((Fr.refl [w4.heap.size] w4).alloc _)).trans hf5 (fun x hx _ => hx))
     clear hb5 hf5))
 have HR5 := Lib.hid (HR4.out.fr HF5.out (by have := HG.out; have := HS4.out; simp; omega) (fun k hk hm => by have := HNF.out k hk; have := HS4.out; simp at hm; omega))
 have HBZ5 := Lib.hid (HB4.out.keep HF5.out (by have := HG.out; have := HS4.out; simp; omega))
 refine (mget_any (pI (l, false)).1 (pI (pI (l, false)).2).1 (pI (pI (pI (l, false)).2).2).1 w5 F g w4.heap.size (pI (pI (pI (l, false)).2).2).2 HR5.out (by rw [← HV.out]; exact HB5.out) (by have := HG.out; have := HS4.out; omega) (fun hm => by have := HNF.out _ hm; have := HS4.out; omega)).mono ?_
 rintro e_ w6 ⟨y, rfl, hc, hln, hli, hb6, hr6, hf6⟩
 have HCY := Lib.hid hc
 have HLY := Lib.hid hln
 have HLI := Lib.hid hli
 have HB6 := Lib.hid hb6
 have HFG6 : Hid (Fr [g, w4.heap.size] w5 w6) := Lib.hid hf6
 have HBZ6 := Lib.hid (HBZ5.out.keep hf6 (by have := HG.out; have := HS4.out; simp; omega))
 have HFF6 : Hid (Fr [] w w6) := Lib.hid ((HF1.out.trans (((HF4.out.mono (T := [g, w4.heap.size]) (fun q hq _ => by simp at hq; simp [hq])).trans HF5.out (fun q hq _ => by simp at hq; simp [hq])).trans hf6 (fun q hq _ => hq)) (fun q hq hl => by have := HG.out; have := HS4.out; have := HF1.out.size; simp at hq; omega)))
 obtain ⟨R, bad⟩ : Ps := ⟨[], false⟩
 clear R bad
 obtain ⟨s6, hs6⟩ : ∃ s6, s6 = (pM (mz (pI (l, false)).1 (pI (pI (l, false)).2).1 (pI (pI (pI (l, false)).2).2).1).con (pI (pI (pI (l, false)).2).2).2).2 := ⟨_, rfl⟩
 rw [← hs6] at hr6
 rw [← hs6] at HPU
 clear hs6
 obtain ⟨R, bad⟩ := s6
 have HR6 := Lib.hid hr6
 clear hc hln hli hb6 hr6 hf6
 obtain ⟨m, hm_⟩ : ∃ m, m = (decide (1 ≤ (pI (l, false)).1 ∧ (pI (l, false)).1 ≤ 14)) := ⟨_, rfl⟩
 rw [← hm_]
 have HM := Lib.hid hm_
 clear hm_
 cases m with
 | false =>
   go_wp2_with (first
    | (refine wpList_builtg rfl 61 _ rfl _ _ HB0.out rfl ?_)
    | (refine wpList_store_blk rfl 61 _ _ rfl w.heap.size Z rfl rfl 61 Z HBZ6.out HZT.out rfl HZO.out ?_
       intro w9 hb9 hf9
       have HB9 := Lib.hid hb9
       have HF9 := Lib.hid hf9
       clear hb9 hf9))
   have HPF : Hid (pU l = ((mz 0 0 0).con, false)) := Lib.hid (by rw [HPU.out]; exact if_neg (by intro h; have := HM.out; have h2 := (decide_eq_false_iff_not.1 this.symm); exact h2 ⟨h.1, h.2.1⟩))
   refine bodyPost_ret (v := .tuple #[.agg Z, .bool false]) (results_row_tmp Tryz.results10 _ _ w.heap.size 61 Z _ _ (.bool false) rfl rfl HB9.out Tryz.underlying61 rfl HZT.out) rfl ⟨mz 0 0 0, by rw [HPF.out, HZ.out], by rw [HPF.out], mz_len 0 0 0, fun S0 _ => mz_li w9 S0 0 0 0, ?_⟩
   exact HFF6.out.trans HF9.out (fun q hq hl => by simp at hq; omega)
 | true =>
   go_wp2_with fail
   refine (ok_any w6 g F R bad HR6.out.rd).mono ?_
   rintro e_ w7 ⟨rfl, rfl⟩
   cases bad with
   | true =>
     go_wp2_with (first
      | (refine wpList_builtg rfl 61 _ rfl _ _ HB0.out rfl ?_)
      | (refine wpList_store_blk rfl 61 _ _ rfl w.heap.size Z rfl rfl 61 Z HBZ6.out HZT.out rfl HZO.out ?_
         intro w9 hb9 hf9
         have HB9 := Lib.hid hb9
         have HF9 := Lib.hid hf9
         clear hb9 hf9))
     have HPF : Hid (pU l = ((mz 0 0 0).con, false)) := Lib.hid (by rw [HPU.out]; exact if_neg (by intro h; exact absurd h.2.2.1 (by simp)))
     refine bodyPost_ret (v := .tuple #[.agg Z, .bool false]) (results_row_tmp Tryz.results10 _ _ w.heap.size 61 Z _ _ (.bool false) rfl rfl HB9.out Tryz.underlying61 rfl HZT.out) rfl ⟨mz 0 0 0, by rw [HPF.out, HZ.out], by rw [HPF.out], mz_len 0 0 0, fun S0 _ => mz_li w9 S0 0 0 0, ?_⟩
     exact HFF6.out.trans HF9.out (fun q hq hl => by simp at hq; omega)
   | false =>
     go_wp2_with fail
     refine (left_any w6 g F R false HR6.out.rd).mono ?_
     rintro e_ w7 ⟨rfl, rfl⟩
     cases R with
     | cons a R =>
       have hpos : (0 : Int) < ((a :: R).length : Int) := by simp
       go_wp2_with (first
        | (refine wpList_builtg rfl 61 _ rfl _ _ HB0.out rfl ?_)
        | (refine wpList_store_blk rfl 61 _ _ rfl w.heap.size Z rfl rfl 61 Z HBZ6.out HZT.out rfl HZO.out ?_
           intro w9 hb9 hf9
           have HB9 := Lib.hid hb9
           have HF9 := Lib.hid hf9
           clear hb9 hf9))
       have HPF : Hid (pU l = ((mz 0 0 0).con, false)) := Lib.hid (by rw [HPU.out]; exact if_neg (by intro h; exact absurd h.2.2.2 (by simp)))
       refine bodyPost_ret (v := .tuple #[.agg Z, .bool false]) (results_row_tmp Tryz.results10 _ _ w.heap.size 61 Z _ _ (.bool false) rfl rfl HB9.out Tryz.underlying61 rfl HZT.out) rfl ⟨mz 0 0 0, by rw [HPF.out, HZ.out], by rw [HPF.out], mz_len 0 0 0, fun S0 _ => mz_li w9 S0 0 0 0, ?_⟩
       exact HFF6.out.trans HF9.out (fun q hq hl => by simp at hq; omega)
     | nil =>
       obtain ⟨Y, hY⟩ : ∃ Y : List Value, Y = y.cells := ⟨_, rfl⟩
       have HYL : Hid (Y.length = 295) := Lib.hid (by rw [hY]; exact Wmg.lenz HLY.out)
       have HYT : Hid ((Tryz.prog.info? 61).map (·.size) = some Y.toArray.size) := Lib.hid (by rw [hY]; exact msg_size HLY.out)
       have HYO : Hid (Y.toArray.all (·.oneCell') = true) := Lib.hid (by rw [hY]; exact all_oneCell_toArray (Wmg.one _))
       have HYZ : Hid (Z.size = Y.toArray.size) := Lib.hid (by rw [hY, HZ.out, List.size_toArray, List.size_toArray, Wmg.lenz (mz_len _ _ _), Wmg.lenz HLY.out])
       have HYB : Hid (Blk w6 w4.heap.size 61 Y.toArray) := Lib.hid (by rw [hY]; exact HB6.out)
       have HYY := Lib.hid hY
       clear hY
       have hz0 : ¬ ((0 : Int) < ((([] : List UInt8).length : Nat) : Int)) := by simp
       go_wp2_with (first
        | (refine wpList_load_row rfl 61 _ rfl w4.heap.size rfl 61 Y.toArray _ _ HYB.out Tryz.underlying61 rfl HYT.out ?_)
        | (refine wpList_store_blk rfl 61 _ _ rfl w.heap.size Y.toArray rfl rfl 61 Z HBZ6.out HYT.out HYZ.out HYO.out ?_
           intro w9 hb9 hf9
           have HB9 := Lib.hid hb9
           have HF9 := Lib.hid hf9
           clear hb9 hf9))
       have HPF : Hid (pU l = ((pM (mz (pI (l, false)).1 (pI (pI (l, false)).2).1 (pI (pI (pI (l, false)).2).2).1).con (pI (pI (pI (l, false)).2).2).2).1, true)) := Lib.hid (by rw [HPU.out]; exact if_pos (by have h := of_decide_eq_true HM.out.symm; exact ⟨h.1, h.2, by first | rfl | trivial, by first | rfl | trivial⟩))
       refine bodyPost_ret (v := .tuple #[.agg Y.toArray, .bool true]) (results_row_tmp Tryz.results10 _ _ w.heap.size 61 Y.toArray _ _ (.bool true) rfl rfl HB9.out Tryz.underlying61 rfl HYT.out) rfl ⟨y, by rw [HPF.out, HYY.out], by rw [HPF.out]; exact HCY.out, HLY.out, fun S0 h0 => ?_, ?_⟩
       · exact (HLI.out (w.heap.size :: S0) (fun q hq => by rcases List.mem_cons.1 hq with rfl | hq; exact HBZ5.out.lt; exact Nat.lt_trans (h0 q hq) HBZ5.out.lt)).keep (HF9.out.mono (fun q hq _ => by simp at hq; simp [hq])) (fun q hq _ => by simp [hq])
       · exact HFF6.out.trans HF9.out (fun q hq hl => by simp at hq; omega)
end Go.Proofs.YtdenpfcgghangaaGreat

namespace Go.Proofs.YtdenpfcgghangaaGreat
open Go.RowKit
section
variable {P : Program} (w : World)
theorem run_append_full (t ty e : TypeId) (z : Value) (nb : Nat) (ht : P.underlying t = some (.slice e)) (hi : (P.info? e).map (fun i => (i.zero, i.size, i.bytes)) = some (some z, 1, nb)) (hz : z.cells.size = 1)
  (A : Option Addr) (n : Nat) (xs : List Value) (hx : xs.length = n) (hold : 0 < n → ∃ a, A = some a ∧ ∀ j u, xs[j]? = some u → w.cell? (a.add j) = some u)
  (ad : Addr) (m c : Nat) (news : List Value) (hl : news.length = m) (hnews : ∀ j u, news[j]? = some u → w.cell? (ad.add j) = some u) (h0 : 0 < m) (hn : n + m ≤ 137438953472) (hnb : nb ≤ 1024) :
  ∃ c' w', (Builtin.append_ #[t, t] ty #[.slice A n n, .slice (some ad) m c]).run P w = .ok (.slice (some ⟨w.heap.size, 0, none⟩) (n + m) c') w' ∧ w'.ownsRow 0 e 1 (.slice (some ⟨w.heap.size, 0, none⟩) (n + m) c') (n + m) (xs ++ news) ∧ Fr [] w w' := by
 obtain ⟨i, hi0, hz0, hz1, hz2⟩ := info_parts hi
 have hb : (n + m) * nb ≤ 140737488355328 := Nat.le_trans (Nat.mul_le_mul hn hnb) (by decide)
 have hge := fun old => grownCap_ge w (n + m) old e
 have hcm := fun old => grownCap_le_maxLen w (n + m) old e (by simp only [maxLen]; omega)
 have grown : ∀ old, (w.drew.alloc (.cells (xs.toArray ++ news.toArray ++ Builtin.zeroCells z.cells (grownCap w (n + m) old e - (n + m))) e)).ownsRow 0 e 1
    (.slice (some ⟨w.heap.size, 0, none⟩) (n + m) (grownCap w (n + m) old e)) (n + m) (xs ++ news) ∧
   Fr [] w (w.drew.alloc (.cells (xs.toArray ++ news.toArray ++ Builtin.zeroCells z.cells (grownCap w (n + m) old e - (n + m))) e)) := by
  intro old
  have h1 := hge old
  refine ⟨⟨by rw [List.length_append, hx, hl]; omega, .inr ⟨w.heap.size, _, _, rfl, Nat.zero_le _, heap_alloc_new w.drew _, h1, hcm old, ?_, ?_⟩⟩, ((Fr.refl [] w).drew).alloc _⟩
  · simp only [Array.size_append, List.size_toArray, size_zeroCells, hz, hx, hl]
    omega
  · simp only [Array.toList_append, List.append_assoc]
    rw [← List.append_assoc, List.take_left' (by rw [List.length_append, hx, hl]; omega)]
 rcases Nat.eq_zero_or_pos n with hn0 | hn0
 · subst hn0
   have hxs : xs = [] := List.eq_nil_of_length_eq_zero hx
   subst hxs
   have hgr := grown 0
   simp only [Nat.zero_add, List.nil_append, Array.empty_append] at hgr hb ⊢
   cases A with
   | none =>
     have hr := run_append_nil (P := P) w t ty e i z ht hi0 hz0 ad m c news (by rw [hl, hz1]; omega) hnews h0 (by omega) (by rw [hz2]; omega)
     exact ⟨_, _, hr, hgr.1, hgr.2⟩
   | some b =>
     have hr := run_append_grow (P := P) w t ty e i z ht hi0 hz0 b 0 0 [] (by simp) (by simp) ad m c news (by rw [hl, hz1]; omega) hnews (by omega) (by omega) (growslice_fits (by omega) (by rw [hz2, Nat.zero_add]; exact hb))
     simp only [Nat.zero_add, Array.empty_append] at hr
     exact ⟨_, _, hr, hgr.1, hgr.2⟩
 · obtain ⟨b, rfl, hc⟩ := hold hn0
   have hr := run_append_grow (P := P) w t ty e i z ht hi0 hz0 b n n xs (by rw [hx, hz1]; omega) hc ad m c news (by rw [hl, hz1]; omega) hnews (by omega) (by omega) (growslice_fits (by omega) (by rw [hz2]; omega))
   have hgr := grown n
   exact ⟨_, _, hr, hgr.1, hgr.2⟩
theorem run_append_zero (t ty e : TypeId) (i : TypeInfo) (ht : P.underlying t = some (.slice e)) (hi : P.info? e = some i) (A : Option Addr) (n m : Nat) (hnm : n ≤ m) (B : Option Addr) (c : Nat) :
  (Builtin.append_ #[t, t] ty #[.slice A n m, .slice B 0 c]).run P w = .ok (.slice A n m) w := by
 cases B with
 | none => cases A <;> simp [Builtin.append_, run_underlying ht, sizeOf, typeInfo, hi, Builtin.lenOf, Builtin.firstCells, hnm, storeCells]
 | some b =>
   have hf := run_firstCells_some (P := P) w i.size 0 b 0 c [] (by simp) (by simp)
   cases A <;> simp [Builtin.append_, run_underlying ht, sizeOf, typeInfo, hi, Builtin.lenOf, hf, hnm, storeCells]
theorem run_append_copyv (t ty e : TypeId) (z : Value) (nb : Nat) (ht : P.underlying t = some (.slice e)) (hi : (P.info? e).map (fun i => (i.zero, i.size, i.bytes)) = some (some z, 1, nb)) (hz : z.cells.size = 1)
  (B : Option Addr) (m c : Nat) (news : List Value) (hl : news.length = m) (hnews : 0 < m → ∃ ad, B = some ad ∧ ∀ j u, news[j]? = some u → w.cell? (ad.add j) = some u) (hn : m ≤ 137438953472) (hnb : nb ≤ 1024) :
  ∃ A' c' w', (Builtin.append_ #[t, t] ty #[.slice none 0 0, .slice B m c]).run P w = .ok (.slice A' m c') w' ∧ w'.ownsRow 0 e 1 (.slice A' m c') m news ∧ Fr [] w w' ∧ ∀ x ∈ bk A', w.heap.size ≤ x := by
 rcases Nat.eq_zero_or_pos m with h0 | h0
 · subst h0
   obtain ⟨i, hi0, hz0, hz1, hz2⟩ := info_parts hi
   have hnil : news = [] := List.eq_nil_of_length_eq_zero hl
   subst hnil
   exact ⟨none, 0, w, run_append_zero w t ty e i ht hi0 none 0 0 (Nat.le_refl _) B c, ⟨rfl, .inl ⟨rfl, rfl⟩⟩, Fr.refl _ _, by simp [bk]⟩
 · obtain ⟨ad, rfl, hc⟩ := hnews h0
   obtain ⟨c', w', hrun, h2, h3⟩ := run_append_full (P := P) w t ty e z nb ht hi hz none 0 [] rfl (fun h => absurd h (by omega)) ad m c news hl hc h0 (by omega) hnb
   simp only [Nat.zero_add, List.nil_append] at hrun h2
   exact ⟨_, c', w', hrun, h2, h3, by intro x hx; simp [bk] at hx; omega⟩
theorem wpList_append_copyv {ops : Array Oper} {rest : List Oper} {o : Oper} {a : Act} {Q : Exit → Act → World → Prop} (hgd : o.guard = none) (s x : Operand) (t : TypeId)
  (ho : o.op = .call { callee := .builtin .append, args := #[s, x], argTypes := #[t, t] })
  (e : TypeId) (z : Value) (nb : Nat) (ht : P.underlying t = some (.slice e)) (hi : (P.info? e).map (fun i => (i.zero, i.size, i.bytes)) = some (some z, 1, nb)) (hz : z.cells.size = 1)
  (hs : a.eval s = .slice none 0 0) (B : Option Addr) (m c : Nat) (news : List Value) (hy : a.eval x = .slice B m c) (hl : news.length = m) (hnews : 0 < m → ∃ ad, B = some ad ∧ ∀ j u, news[j]? = some u → w.cell? (ad.add j) = some u) (hn : m ≤ 137438953472) (hnb : nb ≤ 1024)
  (h : ∀ A' c' w', w'.ownsRow 0 e 1 (.slice A' m c') m news → Fr [] w w' → (∀ x ∈ bk A', w.heap.size ≤ x) → wpList P ops Q rest (a.put o.dst (.slice A' m c')) w') : wpList P ops Q (o :: rest) a w := by
 refine wpList_plain hgd fun _ hK => ?_
 obtain ⟨A', c', w', hrun, h2, h3, h4⟩ := run_append_copyv (P := P) w t o.type e z nb ht hi hz B m c news hl hnews hn hnb
 unfold Oper.wp execOp
 simp only [ho, resolve, invoke, builtin, Sem.run_bind, Sem.run_pure, Result.andThen_ok, List.map_toArray, List.map_cons, List.map_nil, hs, hy, hrun]
 exact hK _ _ (h A' c' w' h2 h3 h4)
end
end Go.Proofs.YtdenpfcgghangaaGreat

namespace Go.Proofs.YtdenpfcgghangaaGreat
set_option maxRecDepth 100000
open Go.RowKit
theorem built_rdr (A : Option Addr) (n c : Nat) : Tryz.prog.built 101 [(0, .slice A n c)] = some #[.slice A n c, .bool false] := by kernel_rfl
theorem info_u8m : (Tryz.prog.info? 5).map (fun i => (i.zero, i.size, i.bytes)) = some (some (.int .u8 0), 1, 1) := by kernel_rfl
theorem pU_of {l : List UInt8} {x : Wmg} {z : Ps} (hx : x = mz (pI (l, false)).1 (pI (pI (l, false)).2).1 (pI (pI (pI (l, false)).2).2).1) (hz : z = (pI (pI (pI (l, false)).2).2).2) (hq : 1 ≤ x.q ∧ x.q ≤ 14) {y : Cmg} {s6 : Ps} (h : pM x.con z = (y, s6)) :
  pU l = if s6.2 = false ∧ s6.1 = [] then (y, true) else ((mz 0 0 0).con, false) := by
 subst hx hz
 have h1 : 1 ≤ (pI (l, false)).1 := hq.1
 have h2 : (pI (l, false)).1 ≤ 14 := hq.2
 unfold pU
 rw [h]
 by_cases hc : s6.2 = false ∧ s6.1 = []
 · rw [if_pos ⟨h1, h2, hc.1, hc.2⟩, if_pos hc]
 · rw [if_neg (fun k => hc ⟨k.2.2.1, k.2.2.2⟩), if_neg hc]
end Go.Proofs.YtdenpfcgghangaaGreat

namespace Go.Proofs.YtdenpfcgghangaaGreat
open Go.RowKit
set_option maxRecDepth 100000
theorem exec_eql {P : Program} {ev : Operand → Value} {o : Oper} {w : World} (ty r : TypeId) (x y : Operand) (ho : o.op = .binOp .eql ty x y r) (C D : Array Value) (hx : ev x = .agg C) (hy : ev y = .agg D) (b : Bool)
  (hg : P.eqGuardType P.depth ty = false) (hq : (Op.equalIn 10000 ty (.agg C) (.agg D)).run P w = .ok b w) : (execOp ev o).run P w = .ok (.value (.bool b)) w := by
 have hq' : (Op.equal ty (.agg C) (.agg D)).run P w = .ok b w := hq
 unfold execOp
 simp only [ho, hx, hy]
 simp [eqGuard, binOp, hg, hq', Result.andThen]
theorem exec_neq {P : Program} {ev : Operand → Value} {o : Oper} {w : World} (ty r : TypeId) (x y : Operand) (ho : o.op = .binOp .neq ty x y r) (C D : Array Value) (hx : ev x = .agg C) (hy : ev y = .agg D) (b : Bool)
  (hg : P.eqGuardType P.depth ty = false) (hq : (Op.equalIn 10000 ty (.agg C) (.agg D)).run P w = .ok b w) : (execOp ev o).run P w = .ok (.value (.bool (!b))) w := by
 have hq' : (Op.equal ty (.agg C) (.agg D)).run P w = .ok b w := hq
 unfold execOp
 simp only [ho, hx, hy]
 simp [eqGuard, binOp, hg, hq', Result.andThen]
theorem neq_at {P : Program} {l : List Oper} {Q : Exit → Act → World → Prop} {md : Region.Mode} {S : World → Prop} {fuel : Nat} {listed : Array Bool} {a : Act} {w : World}
  {i : Nat} {oi : Oper} (hi : nthOp l i = some oi) (ht : takeOk md l.toArray listed i = true) (hw : Region.wanted oi (yielded l.toArray a.tmps) = true)
  (ty r : TypeId) (x y : Operand) (ho : oi.op = .binOp .neq ty x y r) (C D : Array Value) (hx : a.eval x = .agg C) (hy : a.eval y = .agg D) (b : Bool) (hg : P.eqGuardType P.depth ty = false)
  (hq : ∀ w, (Op.equalIn 10000 ty (.agg C) (.agg D)).run P w = .ok b w)
  (hQ : ∀ c a w, Q (.panic c) (a.put oi.dst (.bool (!b))) w → Q (.panic c) a w) (hS : S w)
  (h : wpAnyH P md l.toArray Q S fuel (listed.setIfInBounds i true) (a.put oi.dst (.bool (!b))) w) : wpAnyH P md l.toArray Q S (fuel + 1) listed a w :=
 run_at hi ht hw hQ hS (fun _ _ => exec_neq ty r x y ho C D hx hy b hg (hq _)) h
end Go.Proofs.YtdenpfcgghangaaGreat

namespace Go.Proofs.YtdenpfcgghangaaGreat
open Go.RowKit
set_option maxRecDepth 100000
theorem eqFields_bool {P : Program} {d : Nat} {xs ys : Array Value} {f : Field} {fs : List Field} {u v : Value} {b : Bool} {w : World} (hn : f.name ≠ "_") (p : (part f.type xs f.offset).run P w = .ok u w) (p' : (part f.type ys f.offset).run P w = .ok v w)
  (q : (Op.equalIn d f.type u v).run P w = .ok b w) : (Op.eqFields d xs ys (f :: fs)).run P w = if b then (Op.eqFields d xs ys fs).run P w else .ok false w := by
 rw [Op.eqFields, if_pos hn]
 simp only [Sem.run_bind, p, p', Result.andThen_ok, q]
 cases b <;> simp
def FieldsEq (P : Program) (w : World) (d : Nat) (C D : Array Value) : List (TypeId × Nat) → List Bool → Prop
 | [], [] => True
 | (t, o) :: fs, b :: bs => (∃ u v, (part t C o).run P w = .ok u w ∧ (part t D o).run P w = .ok v w ∧ (Op.equalIn d t u v).run P w = .ok b w) ∧ FieldsEq P w d C D fs bs
 | _, _ => False
theorem eqFields_all {P : Program} {w : World} {d : Nat} {C D : Array Value} : ∀ (fs : List Field) (l : List (TypeId × Nat)) (bs : List Bool), fs.map (fun f => (f.type, f.offset, f.name == "_")) = l.map (fun x => (x.1, x.2, false)) →
  FieldsEq P w d C D l bs → (Op.eqFields d C D fs).run P w = .ok (bs.all id) w
 | [], [], [], _, _ => rfl
 | [], [], _ :: _, _, h => h.elim
 | [], _ :: _, _, h, _ => by simp at h
 | _ :: _, [], _, h, _ => by simp at h
 | _ :: _, _ :: _, [], _, h => h.elim
 | f :: fs, (t, o) :: l, b :: bs, h, hb => by
   simp only [List.map_cons, List.cons.injEq, Prod.mk.injEq, beq_eq_false_iff_ne] at h
   obtain ⟨⟨rfl, rfl, hn⟩, h⟩ := h
   obtain ⟨⟨u, v, p, p', q⟩, hr⟩ := hb
   rw [eqFields_bool hn p p' q, eqFields_all fs l bs h hr]
   cases b <;> simp
theorem part_rowx (ty : TypeId) (n off : Nat) (xs ys zs : List Value) (h : RowTy Tryz.prog ty n) (hx : xs.length = off) (hy : ys.length = n) (w : World) : (part ty (xs ++ (ys ++ zs)).toArray off).run Tryz.prog w = .ok (.agg ys.toArray) w := by
 obtain ⟨h1, h2⟩ := h
 cases hu : Tryz.prog.underlying ty with
 | none => rw [hu] at h1; cases h1
 | some d =>
   rw [hu] at h1
   cases hi : Tryz.prog.info? ty with
   | none => rw [hi] at h2; cases h2
   | some i =>
     have hs : i.size = n := by simpa [hi] using h2
     have hagg : (isAgg ty).run Tryz.prog w = .ok true w := by
      unfold isAgg
      rw [Sem.run_bind, run_underlying hu w]
      cases d <;> simp_all
     unfold part
     simp [hagg, sizeOf, typeInfo, hi, hs]
     subst hx
     subst hy
     simp
theorem eql_hash (a b : List UInt8) (ha : a.length = 32) (hb : b.length = 32) (d : Nat) (w : World) : (Op.equalIn (d + 2) 25 (.agg (a.map by8).toArray) (.agg (b.map by8).toArray)).run Tryz.prog w = .ok (decide (a = b)) w := by
 have h := run_equalIn_bytes (P := Tryz.prog) w d 25 5 32 Tryz.underlying25 Tryz.underlying5 u8_size1 a b ha hb
 rw [show decide (a = b) = (a == b) by rw [Bool.eq_iff_iff]; simp]
 exact h
theorem eql_int (y z : Int) (d : Nat) (w : World) : (Op.equalIn (d + 1) 3 (.int .i64 y) (.int .i64 z)).run Tryz.prog w = .ok (decide (y = z)) w := by
 have h := run_equalIn_int (P := Tryz.prog) w d 3 .i64 .i64 y z Tryz.underlying3
 rw [show decide (y = z) = (y == z) by rw [Bool.eq_iff_iff]; simp]
 exact h
theorem eql_u64 (y z : Int) (d : Nat) (w : World) : (Op.equalIn (d + 1) 30 (.int .u64 y) (.int .u64 z)).run Tryz.prog w = .ok (decide (y = z)) w := by
 have h := run_equalIn_int (P := Tryz.prog) w d 30 .u64 .u64 y z Tryz.underlying30
 rw [show decide (y = z) = (y == z) by rw [Bool.eq_iff_iff]; simp]
 exact h
theorem part_int (off : Nat) (cs : Array Value) (v : Value) (hv : cs[off]? = some v) (w : World) : (part 3 cs off).run Tryz.prog w = .ok v w := run_part_plain w (by kernel_rfl) hv
theorem part_u64 (off : Nat) (cs : Array Value) (v : Value) (hv : cs[off]? = some v) (w : World) : (part 30 cs off).run Tryz.prog w = .ok v w := run_part_plain w (by kernel_rfl) hv
theorem eql_of {ty : TypeId} {d : Nat} {C D : Array Value} {w : World} {l : List (TypeId × Nat)} {bs : List Bool} (e : (Op.equalIn (d + 1) ty (.agg C) (.agg D)).run Tryz.prog w = (Op.eqFields d C D (Tryz.prog.fieldsOf ty).toList).run Tryz.prog w)
  (hfs : (Tryz.prog.fieldsOf ty).toList.map (fun f => (f.type, f.offset, f.name == "_")) = l.map (fun x => (x.1, x.2, false))) (hb : FieldsEq Tryz.prog w d C D l bs) : (Op.equalIn (d + 1) ty (.agg C) (.agg D)).run Tryz.prog w = .ok (bs.all id) w := by
 rw [e]
 exact eqFields_all _ l bs hfs hb
theorem eql_name (a b a' b' : Int) (d : Nat) (w : World) : (Op.equalIn (d + 2) 23 (.agg #[.int .i64 a, .int .i64 b]) (.agg #[.int .i64 a', .int .i64 b'])).run Tryz.prog w = .ok (decide (a = a') && decide (b = b')) w := by
 have h := eql_of (l := [(3, 0), (3, 1)]) (run_equalIn_struct w (d + 1) 23 #[.int .i64 a, .int .i64 b] #[.int .i64 a', .int .i64 b'] (by kernel_rfl) (by kernel_rfl)) (by kernel_rfl)
  (bs := [decide (a = a'), decide (b = b')]) ⟨⟨_, _, part_int 0 _ _ rfl w, part_int 0 _ _ rfl w, eql_int a a' d w⟩, ⟨_, _, part_int 1 _ _ rfl w, part_int 1 _ _ rfl w, eql_int b b' d w⟩, trivial⟩
 rw [h]
 simp
theorem eql_sig (a b a' b' : Int) (d : Nat) (w : World) : (Op.equalIn (d + 2) 27 (.agg #[.int .i64 a, .int .i64 b]) (.agg #[.int .i64 a', .int .i64 b'])).run Tryz.prog w = .ok (decide (a = a') && decide (b = b')) w := by
 have h := eql_of (l := [(3, 0), (3, 1)]) (run_equalIn_struct w (d + 1) 27 #[.int .i64 a, .int .i64 b] #[.int .i64 a', .int .i64 b'] (by kernel_rfl) (by kernel_rfl)) (by kernel_rfl)
  (bs := [decide (a = a'), decide (b = b')]) ⟨⟨_, _, part_int 0 _ _ rfl w, part_int 0 _ _ rfl w, eql_int a a' d w⟩, ⟨_, _, part_int 1 _ _ rfl w, part_int 1 _ _ rfl w, eql_int b b' d w⟩, trivial⟩
 rw [h]
 simp
def Wst.eqB (x y : Wst) : Bool := [decide (x.r = y.r), (decide (x.c = y.c) && decide (x.s = y.s)), decide (x.h = y.h), decide ((x.t : Int) = (y.t : Int)), (decide (x.b = y.b) && decide (x.m = y.m))].all id
theorem Wst.eqB_iff (x y : Wst) : x.eqB y = true ↔ x = y := by
 obtain ⟨_, _, _, _, _, _, _⟩ := x
 obtain ⟨_, _, _, _, _, _, _⟩ := y
 simp [Wst.eqB, Wst.mk.injEq, and_assoc]
 (try omega)
set_option maxHeartbeats 1000000 in
theorem eql_Wst (x y : Wst) (hx : x.h.length = 32) (hy : y.h.length = 32) (w : World) : (Op.equalIn 10000 32 (.agg x.cells.toArray) (.agg y.cells.toArray)).run Tryz.prog w = .ok (x.eqB y) w :=
 eql_of (d := 9999) (C := x.cells.toArray) (D := y.cells.toArray) (l := [(3, 0), (23, 1), (25, 3), (30, 35), (27, 36)]) (run_equalIn_struct w 9999 32 x.cells.toArray y.cells.toArray (by kernel_rfl) (by kernel_rfl)) (by kernel_rfl)
  (bs := [decide (x.r = y.r), (decide (x.c = y.c) && decide (x.s = y.s)), decide (x.h = y.h), decide ((x.t : Int) = (y.t : Int)), (decide (x.b = y.b) && decide (x.m = y.m))])
  ⟨⟨_, _, part_int 0 _ _ (show x.cells.toArray[0]? = some (.int .i64 x.r) from rfl) w, part_int 0 _ _ (show y.cells.toArray[0]? = some (.int .i64 y.r) from rfl) w, eql_int _ _ 9998 w⟩,
   ⟨_, _, (part_rowx 23 2 1 [.int .i64 x.r] [.int .i64 x.c, .int .i64 x.s] ([] ++ (x.h.map by8 ++ [.int .u64 (x.t : Int), .int .i64 x.b, .int .i64 x.m])) row_name rfl rfl w), (part_rowx 23 2 1 [.int .i64 y.r] [.int .i64 y.c, .int .i64 y.s] ([] ++ (y.h.map by8 ++ [.int .u64 (y.t : Int), .int .i64 y.b, .int .i64 y.m])) row_name rfl rfl w), eql_name _ _ _ _ 9997 w⟩,
   ⟨_, _, (part_rowx 25 32 3 [.int .i64 x.r, .int .i64 x.c, .int .i64 x.s] (x.h.map by8) [.int .u64 (x.t : Int), .int .i64 x.b, .int .i64 x.m] row_hash rfl (by rw [List.length_map]; exact hx) w), (part_rowx 25 32 3 [.int .i64 y.r, .int .i64 y.c, .int .i64 y.s] (y.h.map by8) [.int .u64 (y.t : Int), .int .i64 y.b, .int .i64 y.m] row_hash rfl (by rw [List.length_map]; exact hy) w), eql_hash x.h y.h hx hy 9997 w⟩,
   ⟨_, _, part_u64 35 _ _ (show x.cells.toArray[35]? = some (.int .u64 (x.t : Int)) by rw [List.getElem?_toArray]; exact post_cell [.int .i64 x.r, .int .i64 x.c, .int .i64 x.s] (x.h.map by8) [.int .u64 (x.t : Int), .int .i64 x.b, .int .i64 x.m] (by rw [List.length_map]; exact hx) 0 rfl) w, part_u64 35 _ _ (show y.cells.toArray[35]? = some (.int .u64 (y.t : Int)) by rw [List.getElem?_toArray]; exact post_cell [.int .i64 y.r, .int .i64 y.c, .int .i64 y.s] (y.h.map by8) [.int .u64 (y.t : Int), .int .i64 y.b, .int .i64 y.m] (by rw [List.length_map]; exact hy) 0 rfl) w, eql_u64 _ _ 9998 w⟩,
   ⟨_, _, (show (part 27 x.cells.toArray 36).run Tryz.prog w = .ok (.agg [.int .i64 x.b, .int .i64 x.m].toArray) w by rw [show x.cells = ([.int .i64 x.r, .int .i64 x.c, .int .i64 x.s] ++ (x.h.map by8 ++ [.int .u64 (x.t : Int)])) ++ ([.int .i64 x.b, .int .i64 x.m] ++ []) by simp [Wst.cells]]; exact part_rowx 27 2 36 _ _ _ row_sig (by simp [hx]) rfl w), (show (part 27 y.cells.toArray 36).run Tryz.prog w = .ok (.agg [.int .i64 y.b, .int .i64 y.m].toArray) w by rw [show y.cells = ([.int .i64 y.r, .int .i64 y.c, .int .i64 y.s] ++ (y.h.map by8 ++ [.int .u64 (y.t : Int)])) ++ ([.int .i64 y.b, .int .i64 y.m] ++ []) by simp [Wst.cells]]; exact part_rowx 27 2 36 _ _ _ row_sig (by simp [hy]) rfl w), eql_sig _ _ _ _ 9997 w⟩, trivial⟩
def Wvt.eqB (x y : Wvt) : Bool := [decide (x.k = y.k), decide (x.e = y.e), decide (x.r = y.r), decide (x.p = y.p), decide (x.h = y.h), (decide (x.b = y.b) && decide (x.m = y.m))].all id
theorem Wvt.eqB_iff (x y : Wvt) : x.eqB y = true ↔ x = y := by
 obtain ⟨_, _, _, _, _, _, _⟩ := x
 obtain ⟨_, _, _, _, _, _, _⟩ := y
 simp [Wvt.eqB, Wvt.mk.injEq, and_assoc]
 (try omega)
set_option maxHeartbeats 1000000 in
theorem eql_Wvt (x y : Wvt) (hx : x.h.length = 32) (hy : y.h.length = 32) (w : World) : (Op.equalIn 10000 49 (.agg x.cells.toArray) (.agg y.cells.toArray)).run Tryz.prog w = .ok (x.eqB y) w :=
 eql_of (d := 9999) (C := x.cells.toArray) (D := y.cells.toArray) (l := [(3, 0), (3, 1), (3, 2), (3, 3), (25, 4), (27, 36)]) (run_equalIn_struct w 9999 49 x.cells.toArray y.cells.toArray (by kernel_rfl) (by kernel_rfl)) (by kernel_rfl)
  (bs := [decide (x.k = y.k), decide (x.e = y.e), decide (x.r = y.r), decide (x.p = y.p), decide (x.h = y.h), (decide (x.b = y.b) && decide (x.m = y.m))])
  ⟨⟨_, _, part_int 0 _ _ (show x.cells.toArray[0]? = some (.int .i64 x.k) from rfl) w, part_int 0 _ _ (show y.cells.toArray[0]? = some (.int .i64 y.k) from rfl) w, eql_int _ _ 9998 w⟩,
   ⟨_, _, part_int 1 _ _ (show x.cells.toArray[1]? = some (.int .i64 x.e) from rfl) w, part_int 1 _ _ (show y.cells.toArray[1]? = some (.int .i64 y.e) from rfl) w, eql_int _ _ 9998 w⟩,
   ⟨_, _, part_int 2 _ _ (show x.cells.toArray[2]? = some (.int .i64 x.r) from rfl) w, part_int 2 _ _ (show y.cells.toArray[2]? = some (.int .i64 y.r) from rfl) w, eql_int _ _ 9998 w⟩,
   ⟨_, _, part_int 3 _ _ (show x.cells.toArray[3]? = some (.int .i64 x.p) from rfl) w, part_int 3 _ _ (show y.cells.toArray[3]? = some (.int .i64 y.p) from rfl) w, eql_int _ _ 9998 w⟩,
   ⟨_, _, (part_rowx 25 32 4 [.int .i64 x.k, .int .i64 x.e, .int .i64 x.r, .int .i64 x.p] (x.h.map by8) [.int .i64 x.b, .int .i64 x.m] row_hash rfl (by rw [List.length_map]; exact hx) w), (part_rowx 25 32 4 [.int .i64 y.k, .int .i64 y.e, .int .i64 y.r, .int .i64 y.p] (y.h.map by8) [.int .i64 y.b, .int .i64 y.m] row_hash rfl (by rw [List.length_map]; exact hy) w), eql_hash x.h y.h hx hy 9997 w⟩,
   ⟨_, _, (show (part 27 x.cells.toArray 36).run Tryz.prog w = .ok (.agg [.int .i64 x.b, .int .i64 x.m].toArray) w by rw [show x.cells = ([.int .i64 x.k, .int .i64 x.e, .int .i64 x.r, .int .i64 x.p] ++ (x.h.map by8 ++ [])) ++ ([.int .i64 x.b, .int .i64 x.m] ++ []) by simp [Wvt.cells]]; exact part_rowx 27 2 36 _ _ _ row_sig (by simp [hx]) rfl w), (show (part 27 y.cells.toArray 36).run Tryz.prog w = .ok (.agg [.int .i64 y.b, .int .i64 y.m].toArray) w by rw [show y.cells = ([.int .i64 y.k, .int .i64 y.e, .int .i64 y.r, .int .i64 y.p] ++ (y.h.map by8 ++ [])) ++ ([.int .i64 y.b, .int .i64 y.m] ++ []) by simp [Wvt.cells]]; exact part_rowx 27 2 36 _ _ _ row_sig (by simp [hy]) rfl w), eql_sig _ _ _ _ 9997 w⟩, trivial⟩
def Wdn.eqB (x y : Wdn) : Bool := [decide (x.r = y.r), decide (x.i = y.i), (decide (x.b = y.b) && decide (x.m = y.m))].all id
theorem Wdn.eqB_iff (x y : Wdn) : x.eqB y = true ↔ x = y := by
 obtain ⟨_, _, _, _⟩ := x
 obtain ⟨_, _, _, _⟩ := y
 simp [Wdn.eqB, Wdn.mk.injEq, and_assoc]
 (try omega)
set_option maxHeartbeats 1000000 in
theorem eql_Wdn (x y : Wdn) (w : World) : (Op.equalIn 10000 56 (.agg x.cells.toArray) (.agg y.cells.toArray)).run Tryz.prog w = .ok (x.eqB y) w :=
 eql_of (d := 9999) (C := x.cells.toArray) (D := y.cells.toArray) (l := [(3, 0), (3, 1), (27, 2)]) (run_equalIn_struct w 9999 56 x.cells.toArray y.cells.toArray (by kernel_rfl) (by kernel_rfl)) (by kernel_rfl)
  (bs := [decide (x.r = y.r), decide (x.i = y.i), (decide (x.b = y.b) && decide (x.m = y.m))])
  ⟨⟨_, _, part_int 0 _ _ (show x.cells.toArray[0]? = some (.int .i64 x.r) from rfl) w, part_int 0 _ _ (show y.cells.toArray[0]? = some (.int .i64 y.r) from rfl) w, eql_int _ _ 9998 w⟩,
   ⟨_, _, part_int 1 _ _ (show x.cells.toArray[1]? = some (.int .i64 x.i) from rfl) w, part_int 1 _ _ (show y.cells.toArray[1]? = some (.int .i64 y.i) from rfl) w, eql_int _ _ 9998 w⟩,
   ⟨_, _, (part_rowx 27 2 2 [.int .i64 x.r, .int .i64 x.i] [.int .i64 x.b, .int .i64 x.m] [] row_sig rfl rfl w), (part_rowx 27 2 2 [.int .i64 y.r, .int .i64 y.i] [.int .i64 y.b, .int .i64 y.m] [] row_sig rfl rfl w), eql_sig _ _ _ _ 9997 w⟩, trivial⟩
end Go.Proofs.YtdenpfcgghangaaGreat

namespace Go.Proofs.YtdenpfcgghangaaGreat
open Go.RowKit
set_option maxRecDepth 100000
theorem add_off (g o j : Nat) : (⟨g, o, none⟩ : Addr).add j = ⟨g, o + j, none⟩ := by unfold Addr.add; split <;> simp_all
theorem wpList_eqlg {P : Program} {ops : Array Oper} {rest : List Oper} {op : Oper} {a : Act} {w : World} {Q : Exit → Act → World → Prop} (hw : Region.wanted op (yielded ops a.tmps) = true) (ty r : TypeId) (x y : Operand) (ho : op.op = .binOp .eql ty x y r) (C D : Array Value) (hx : a.eval x = .agg C) (hy : a.eval y = .agg D) (b : Bool)
  (hg : P.eqGuardType P.depth ty = false) (hq : (Op.equalIn 10000 ty (.agg C) (.agg D)).run P w = .ok b w) (h : wpList P ops Q rest (a.put op.dst (.bool b)) w) : wpList P ops Q (op :: rest) a w :=
 BigFrame.wpList_want hw fun _ hK => wp_run (exec_eql ty r x y ho C D hx hy b hg hq) (hK _ _ h)
theorem wpList_midg {P : Program} {ops : Array Oper} {rest : List Oper} {op : Oper} {a : Act} {w : World} {Q : Exit → Act → World → Prop} (hw : Region.wanted op (yielded ops a.tmps) = true) (ty : TypeId) (x : Operand) (ho : op.op = .load ty x)
  (b o : Nat) (hx : a.eval x = .pointer (some ⟨b, o, none⟩)) (cs : List Value) (hc : w.rangeAt b o cs) (hr : RowTy P ty cs.length) (h : wpList P ops Q rest (a.put op.dst (.agg cs.toArray)) w) : wpList P ops Q (op :: rest) a w :=
 wpList_cells hw ty x ho ⟨b, o, none⟩ hx cs (fun j v hv => by rw [add_off]; exact hc j v hv) hr h
section
variable {P : Program} {l : List Oper} {Q : Exit → Act → World → Prop} {md : Region.Mode} {S : World → Prop} {fuel : Nat} {listed : Array Bool} {a : Act} {w : World}
theorem crow_at {i : Nat} {oi : Oper} (hi : nthOp l i = some oi) (ht : takeOk md l.toArray listed i = true) (hw : Region.wanted oi (yielded l.toArray a.tmps) = true)
  (ty : TypeId) (x : Operand) (ho : oi.op = .load ty x) (ad : Addr) (hx : a.eval x = .pointer (some ad)) (cs : List Value) (hc : ∀ w1, S w1 → ∀ j v, cs[j]? = some v → w1.cell? (ad.add j) = some v) (hr : RowTy P ty cs.length)
  (hQ : ∀ c a w, Q (.panic c) (a.put oi.dst (.agg cs.toArray)) w → Q (.panic c) a w) (hS : S w)
  (h : wpAnyH P md l.toArray Q S fuel (listed.setIfInBounds i true) (a.put oi.dst (.agg cs.toArray)) w) : wpAnyH P md l.toArray Q S (fuel + 1) listed a w :=
 take_at hi ht hQ (.inl ⟨hw, fun w1 h1 => exec_cells ty x ho ad hx cs hr (hc w1 h1)⟩) hS h
end
theorem row_hs : RowTy Tryz.prog 25 32 := ⟨by kernel_rfl, by kernel_rfl⟩
theorem row_opS : RowTy Tryz.prog 54 34 := ⟨by kernel_rfl, by kernel_rfl⟩
theorem row_dnS : RowTy Tryz.prog 56 4 := ⟨by kernel_rfl, by kernel_rfl⟩
theorem fld_add (ad : Addr) (m j : Nat) : (ad.add m).add (j + 1) = ⟨(ad.add m).block, (ad.add m).off + (j + 1), none⟩ := rfl
end Go.Proofs.YtdenpfcgghangaaGreat

namespace Go.Proofs.YtdenpfcgghangaaGreat
open Go.RowKit
set_option maxRecDepth 100000
end Go.Proofs.YtdenpfcgghangaaGreat

namespace Go.Proofs.YtdenpfcgghangaaGreat
open Go.RowKit
set_option maxRecDepth 100000
def zeroOp : Array Value := (opnCells 0 none 0 0 (List.replicate 32 0)).toArray
end Go.Proofs.YtdenpfcgghangaaGreat

namespace Go.Proofs.YtdenpfcgghangaaGreat
open Go.RowKit
set_option maxRecDepth 100000
theorem part_row (ty : TypeId) (n off : Nat) (xs ys zs : List Value) (h : RowTy Tryz.prog ty n) (hx : xs.length = off) (hy : ys.length = n) (w : World) : (part ty (xs ++ (ys ++ zs)).toArray off).run Tryz.prog w = .ok (.agg ys.toArray) w := by
 obtain ⟨h1, h2⟩ := h
 cases hu : Tryz.prog.underlying ty with
 | none => rw [hu] at h1; cases h1
 | some d =>
   rw [hu] at h1
   cases hi : Tryz.prog.info? ty with
   | none => rw [hi] at h2; cases h2
   | some i =>
     have hs : i.size = n := by simpa [hi] using h2
     have hagg : (isAgg ty).run Tryz.prog w = .ok true w := by
      unfold isAgg
      rw [Sem.run_bind, run_underlying hu w]
      cases d <;> simp_all
     unfold part
     simp [hagg, sizeOf, typeInfo, hi, hs]
     subst hx
     subst hy
     simp
theorem hash_selfd (xs : List UInt8) (hx : xs.length = 32) (d : Nat) (w : World) :
  (Op.equalIn (d + 2) 25 (.agg (xs.map by8).toArray) (.agg (xs.map by8).toArray)).run Tryz.prog w = .ok true w := by
 have h := run_equalIn_bytes (P := Tryz.prog) w d 25 5 32 Tryz.underlying25 Tryz.underlying5 u8_size1 xs xs hx hx
 rw [show (xs == xs) = true by simp] at h
 exact h
theorem int_selfd (z : Int) (d : Nat) (w : World) : (Op.equalIn (d + 1) 3 (.int .i64 z) (.int .i64 z)).run Tryz.prog w = .ok true w := by
 have h := run_equalIn_int (P := Tryz.prog) w d 3 .i64 .i64 z z Tryz.underlying3
 rw [show (z == z) = true by simp] at h
 exact h
theorem stood (t : TypeId) (h : Tryz.prog.stoodInHeld t = false) : Tryz.prog.stoodInHeld t = false := h
set_option maxHeartbeats 1000000 in
theorem name_selfd (a b : Int) (d : Nat) (w : World) : (Op.equalIn (d + 2) 23 (.agg #[.int .i64 a, .int .i64 b]) (.agg #[.int .i64 a, .int .i64 b])).run Tryz.prog w = .ok true w := by
 have h1 := int_selfd a d w
 have h2 := int_selfd b d w
 rw [run_equalIn_struct w (d + 1) 23 _ _ (by kernel_rfl) (by kernel_rfl)]
 go_simp
theorem sig_selfd (a b : Int) (d : Nat) (w : World) : (Op.equalIn (d + 2) 27 (.agg #[.int .i64 a, .int .i64 b]) (.agg #[.int .i64 a, .int .i64 b])).run Tryz.prog w = .ok true w := by
 have h1 := int_selfd a d w
 have h2 := int_selfd b d w
 rw [run_equalIn_struct w (d + 1) 27 _ _ (by kernel_rfl) (by kernel_rfl)]
 go_simp
theorem part_one (off : Nat) (cs : Array Value) (v : Value) (hv : cs[off]? = some v) (w : World) : (part 3 cs off).run Tryz.prog w = .ok v w :=
 run_part_plain w (by kernel_rfl) hv
theorem eqFields_step {P : Program} {d : Nat} {xs : Array Value} {f : Field} {fs : List Field} {v : Value} {w : World} (hn : f.name ≠ "_") (p : (part f.type xs f.offset).run P w = .ok v w) (q : (Op.equalIn d f.type v v).run P w = .ok true w) :
  (Op.eqFields d xs xs (f :: fs)).run P w = (Op.eqFields d xs xs fs).run P w := by
 rw [Op.eqFields, if_pos hn]
 simp only [Sem.run_bind, p, Result.andThen_ok, q]
 simp
theorem commit_self (x : Cm) (hh : x.h.length = 32) (w : World) : (Op.equalIn 10000 29 (.agg x.cells.toArray) (.agg x.cells.toArray)).run Tryz.prog w = .ok true w := by
 have hl : (x.h.map by8).length = 32 := by rw [List.length_map]; exact hh
 have p0 := part_row 23 2 0 [] [.int .i64 x.c, .int .i64 x.s] (x.h.map by8 ++ [.int .i64 x.n, .int .i64 x.b, .int .i64 x.m]) row_name rfl rfl w
 have p1 := part_row 25 32 2 [.int .i64 x.c, .int .i64 x.s] (x.h.map by8) [.int .i64 x.n, .int .i64 x.b, .int .i64 x.m] row_hash rfl hl w
 have p3 := part_row 27 2 35 ([.int .i64 x.c, .int .i64 x.s] ++ x.h.map by8 ++ [.int .i64 x.n]) [.int .i64 x.b, .int .i64 x.m] [] row_sig (by simp [hh]) rfl w
 have e1 : [] ++ ([.int .i64 x.c, .int .i64 x.s] ++ (x.h.map by8 ++ [.int .i64 x.n, .int .i64 x.b, .int .i64 x.m])) = x.cells := rfl
 have e2 : [.int .i64 x.c, .int .i64 x.s] ++ (x.h.map by8 ++ [.int .i64 x.n, .int .i64 x.b, .int .i64 x.m]) = x.cells := rfl
 have e3 : ([.int .i64 x.c, .int .i64 x.s] ++ x.h.map by8 ++ [.int .i64 x.n]) ++ ([.int .i64 x.b, .int .i64 x.m] ++ []) = x.cells := by simp [Cm.cells]
 rw [e1] at p0
 rw [e2] at p1
 rw [e3] at p3
 have h4 : x.cells.toArray[34]? = some (.int .i64 x.n) := by
  rw [List.getElem?_toArray, ← e3, List.getElem?_append_left (by simp [hh]), List.getElem?_append_right (by simp [hh])]; simp [hh]
 have p2 := part_one 34 x.cells.toArray _ h4 w
 have q0 : (Op.equalIn 9999 23 (.agg #[.int .i64 x.c, .int .i64 x.s]) (.agg #[.int .i64 x.c, .int .i64 x.s])).run Tryz.prog w = .ok true w := name_selfd x.c x.s 9997 w
 have q1 : (Op.equalIn 9999 25 (.agg (x.h.map by8).toArray) (.agg (x.h.map by8).toArray)).run Tryz.prog w = .ok true w := hash_selfd x.h hh 9997 w
 have q2 : (Op.equalIn 9999 3 (.int .i64 x.n) (.int .i64 x.n)).run Tryz.prog w = .ok true w := int_selfd x.n 9998 w
 have q3 : (Op.equalIn 9999 27 (.agg #[.int .i64 x.b, .int .i64 x.m]) (.agg #[.int .i64 x.b, .int .i64 x.m])).run Tryz.prog w = .ok true w := sig_selfd x.b x.m 9997 w
 clear e1 e2 e3 h4
 generalize x.cells.toArray = C at *
 rw [run_equalIn_struct w 9999 29 _ _ (by kernel_rfl) (by kernel_rfl)]
 have hfs : (Tryz.prog.fieldsOf 29).toList.map (fun f => (f.type, f.offset, f.name == "_")) = [(23, 0, false), (25, 2, false), (3, 34, false), (27, 35, false)] := by kernel_rfl
 generalize (Tryz.prog.fieldsOf 29).toList = fs at *
 have hl4 : fs.length = 4 := by have := congrArg List.length hfs; simpa using this
 match fs, hl4, hfs with
 | [a, b, c, d], _, hfs =>
   simp only [List.map_cons, List.map_nil, List.cons.injEq, Prod.mk.injEq, beq_eq_false_iff_ne, and_true] at hfs
   obtain ⟨⟨a1, a2, a3⟩, ⟨b1, b2, b3⟩, ⟨c1, c2, c3⟩, ⟨d1, d2, d3⟩⟩ := hfs
   rw [eqFields_step a3 (by rw [a1, a2]; exact p0) (by rw [a1]; exact q0), eqFields_step b3 (by rw [b1, b2]; exact p1) (by rw [b1]; exact q1), eqFields_step c3 (by rw [c1, c2]; exact p2) (by rw [c1]; exact q2), eqFields_step d3 (by rw [d1, d2]; exact p3) (by rw [d1]; exact q3)]
   rfl
end Go.Proofs.YtdenpfcgghangaaGreat

namespace Go.Proofs.YtdenpfcgghangaaGreat
open Go.RowKit
set_option maxRecDepth 100000
theorem map_at {α β : Type} {f : α → β} {l m : List α} {j : Nat} {v u : α} (h : l.map f = m.map f) (hv : l[j]? = some v) (hu : m[j]? = some u) : f v = f u := by
 have h1 := congrArg (·[j]?) h
 simpa [hv, hu] using h1
theorem eq_Wcm (x : Wcm) (hh : x.h.length = 32) (w : World) : (Op.equalIn 10000 29 (.agg x.cells.toArray) (.agg x.cells.toArray)).run Tryz.prog w = .ok true w := commit_self ⟨x.c, x.s, x.h, x.n, x.b, x.m⟩ hh w
set_option maxHeartbeats 2000000 in
theorem opening_eq (x y : Wop) (w : World) (hx : x.Ok w []) (hy : y.Ok w []) (he : x.con = y.con) (C D : List Value) (hC : x.cells = C) (hD : y.cells = D) :
  Calls Tryz.prog 60 #[.agg C.toArray, .agg D.toArray] w fun e w' => e = .returned (.bool true) ∧ Fr [] w w' := by
 obtain ⟨wa, hwa⟩ : ∃ wa, wa = (w.alloc (Obj.cells C.toArray 54)).alloc (Obj.cells D.toArray 54) := ⟨_, rfl⟩
 have hf0 : Fr [] w wa := by rw [hwa]; exact ((Fr.refl [] w).alloc _).alloc _
 have hb0 : Blk wa w.heap.size 54 x.cells.toArray := by rw [hwa, hC]; exact blk_alloc (Blk.new _ _ _)
 have hb1 : Blk wa (w.heap.size + 1) 54 y.cells.toArray := by
  have := Blk.new (w.alloc (Obj.cells C.toArray 54)) 54 D.toArray
  rw [hwa, hD]
  simpa using this
 obtain ⟨i, A, n, d, p, h⟩ := x
 obtain ⟨i', B, m, d', p', h'⟩ := y
 unfold Wop.con at he
 simp only [Cop.mk.injEq] at he
 obtain ⟨rfl, rfl, rfl⟩ := he
 have hr0 := hb0.range
 have hr1 := hb1.range
 have h00 : wa.cell? ⟨w.heap.size, 0, none⟩ = some (.int .i64 i) := by have h := hr0 0 _ rfl; simpa using h
 have h10 : wa.cell? ⟨w.heap.size + 1, 0, none⟩ = some (.int .i64 i) := by have h := hr1 0 _ rfl; simpa using h
 have h01 : wa.cell? ⟨w.heap.size, 1, none⟩ = some (.slice A n d) := by have h := hr0 1 _ rfl; simpa using h
 have h11 : wa.cell? ⟨w.heap.size + 1, 1, none⟩ = some (.slice B m d') := by have h := hr1 1 _ rfl; simpa using h
 have HH0 : Hid (wa.rangeAt w.heap.size 2 (h.map by8)) := Lib.hid (rangeAt_sub (o := 0) (xs := [.int .i64 i, .slice A n d]) (ys := h.map by8) (zs := []) hr0)
 have HH1 : Hid (wa.rangeAt (w.heap.size + 1) 2 (h.map by8)) := Lib.hid (rangeAt_sub (o := 0) (xs := [.int .i64 i, .slice B m d']) (ys := h.map by8) (zs := []) hr1)
 have HHL : Hid ((h.map by8).length = 32) := Lib.hid (by rw [List.length_map]; exact hx.h)
 have HEQ : Hid ((Op.equalIn 10000 25 (.agg (h.map by8).toArray) (.agg (h.map by8).toArray)).run Tryz.prog wa = .ok true wa) := Lib.hid (by
  have h := eql_hash h h hx.h hx.h 9998 wa
  simpa using h)
 have HF0 := Lib.hid hf0
 have HWA := Lib.hid hwa
 have HX := Lib.hid hx
 have HY := Lib.hid hy
 have hii : (i == i) = true := by simp
 clear hwa hf0 hb0 hb1 hr0 hr1 hx hy hC hD
 generalize hHV : h.map by8 = HV at *
 clear hHV
 go_enter Tryz.func60, Tryz.ntmps60
 go_upto_region 1 with (fail)
 change Code.wp _ _ _ _ ((w.alloc (Obj.cells C.toArray 54)).alloc (Obj.cells D.toArray 54))
 rw [← HWA.out]
 go_wp2_with (first
  | (refine wpList_midg rfl 25 _ rfl w.heap.size 2 rfl HV HH0.out (row_hs.of HHL.out) ?_)
  | (refine wpList_midg rfl 25 _ rfl (w.heap.size + 1) 2 rfl HV HH1.out (row_hs.of HHL.out) ?_)
  | (refine wpList_eqlg rfl 25 _ _ _ rfl HV.toArray HV.toArray rfl rfl true (by kernel_rfl) HEQ.out ?_))
 refine (same_any A B n m d d' p p wa (HX.out.p.keep HF0.out (by simp)) (HY.out.p.keep HF0.out (by simp)) (by have h1 : n ≤ 260 := HX.out.n; omega)).mono ?_
 rintro e w1 ⟨rfl, k1, hw1⟩
 simp only [decide_true]
 have HF1 : Hid (Fr [] w w1) := Lib.hid (by rw [hw1]; exact HF0.out.drewN _)
 clear hw1 h00 h10 h01 h11 hii
 go_wp2
 go_ret
 exact ⟨rfl, HF1.out⟩
set_option maxHeartbeats 4000000 in
theorem denies_eq (A B : Option Addr) (n d d' : Nat) (l m : List Wdn) (w : World) (hl : Lst 4 Wdn.cells (fun _ v => v.Ok) w A n l) (hm : Lst 4 Wdn.cells (fun _ v => v.Ok) w B n m) (hlm : l.map id = m.map id) (hn : n ≤ 1000) :
  Calls Tryz.prog 126 #[.slice A n d, .slice B n d'] w fun e w' => e = .returned (.bool true) ∧ Fr [] w w' := by
 have HL := Lib.hid hl
 have HM := Lib.hid hm
 have HLM := Lib.hid hlm
 have HN := Lib.hid hn
 have hn1 : (n : Int) ≤ 9223372036854775807 := by omega
 have hnn : ((n : Int) != (n : Int)) = false := by simp
 clear hl hm hn hlm
 go_enter Tryz.func126, Tryz.ntmps126
 go_wp2_with fail
 clear hnn
 go_loopw [5] (fun i wr => ∃ j : Nat, j ≤ n ∧ i = .int .i64 j ∧ Hid (Fr [] w wr)) (fun i _ => n - (intOf i).toNat)
 case atStart => exact ⟨0, by omega, rfl, Lib.hid (Fr.refl _ _)⟩
 case round =>
  obtain ⟨j, hj, rfl, HF⟩ := hrel
  by_cases hlt : j < n
  · obtain ⟨ad, v, hA, hv, hcl, hok, hcells⟩ := HL.out.at (i := j) hlt
    obtain ⟨bd, u, hB, hu, hclu, hoku, hcellu⟩ := HM.out.at (i := j) hlt
    subst hA
    subst hB
    have HVU := Lib.hid (map_at HLM.out hv hu)
    have HCELLS : Hid (∀ i c, (Wdn.cells v)[i]? = some c → wr.cell? ((ad.add (j * 4)).add i) = some c) := Lib.hid (fun i c hc => HF.out.cell (hcells i c hc) (by simp))
    have HCELLU : Hid (∀ i c, (Wdn.cells u)[i]? = some c → wr.cell? ((bd.add (j * 4)).add i) = some c) := Lib.hid (fun i c hc => HF.out.cell (hcellu i c hc) (by simp))
    have HCL := Lib.hid hcl
    have HCLU := Lib.hid hclu
    have HOK := Lib.hid hok
    have HOKU := Lib.hid hoku
    have HJN := Lib.hid hlt
    have hj0 : (0 : Int) ≤ j := by omega
    clear hcells hcl hok hv hcellu hclu hoku hu
    have hvu : v = u := HVU.out
    subst hvu
    have HEQ : Hid (∀ W : World, (Op.equalIn 10000 56 (.agg v.cells.toArray) (.agg v.cells.toArray)).run Tryz.prog W = .ok true W) := Lib.hid (fun W => by have h := eql_Wdn v v W; rw [(Wdn.eqB_iff v v).2 rfl] at h; exact h)
    go_upto_region 6 with (fail)
    refine wp_region_held_drew (S := Fr [] wr) (by kernel_rfl) (Fr.drew (Fr.refl _ wr)) (fun hHeld => ?_)
    generalize wr.drew = w9 at *
    refine run_at (i := 0) (v := ?_) rfl (by kernel_rfl) (by rfl) (fun _ _ _ h => h) hHeld (fun w1 hw1 => ?_) ?_
    rotate_left 1
    · skip
      go_simp
      try first | with_reducible rfl | apply And.intro <;> rfl
    simp only [xPa, xPb, xPc, xPd, xPe]
    refine run_at (i := 1) (v := ?_) rfl (by kernel_rfl) (by rfl) (fun _ _ _ h => h) hHeld (fun w1 hw1 => ?_) ?_
    rotate_left 1
    · skip
      go_simp
      try first | with_reducible rfl | apply And.intro <;> rfl
    simp only [xPa, xPb, xPc, xPd, xPe]
    refine run_at (i := 2) (v := ?_) rfl (by kernel_rfl) (by rfl) (fun _ _ _ h => h) hHeld (fun w1 hw1 => ?_) ?_
    rotate_left 1
    · skip
      go_simp
      try first | with_reducible rfl | apply And.intro <;> rfl
    simp only [xPa, xPb, xPc, xPd, xPe]
    refine crow_at (i := 3) rfl (by kernel_rfl) (by rfl) _ _ rfl _ rfl _ (fun w1 hw1 j v hv => hw1.cell ((HCELLS.out) j v hv) (by simp)) (row_dnS.of HCL.out) (fun _ _ _ h => h) hHeld ?_
    simp only [xPa, xPb, xPc, xPd, xPe]
    refine run_at (i := 4) (v := ?_) rfl (by kernel_rfl) (by rfl) (fun _ _ _ h => h) hHeld (fun w1 hw1 => ?_) ?_
    rotate_left 1
    · skip
      go_simp
      try first | with_reducible rfl | apply And.intro <;> rfl
    simp only [xPa, xPb, xPc, xPd, xPe]
    refine run_at (i := 5) (v := ?_) rfl (by kernel_rfl) (by rfl) (fun _ _ _ h => h) hHeld (fun w1 hw1 => ?_) ?_
    rotate_left 1
    · skip
      go_simp
      try first | with_reducible rfl | apply And.intro <;> rfl
    simp only [xPa, xPb, xPc, xPd, xPe]
    refine run_at (i := 6) (v := ?_) rfl (by kernel_rfl) (by rfl) (fun _ _ _ h => h) hHeld (fun w1 hw1 => ?_) ?_
    rotate_left 1
    · skip
      go_simp
      try first | with_reducible rfl | apply And.intro <;> rfl
    simp only [xPa, xPb, xPc, xPd, xPe]
    refine crow_at (i := 7) rfl (by kernel_rfl) (by rfl) _ _ rfl _ rfl _ (fun w1 hw1 j v hv => hw1.cell ((HCELLU.out) j v hv) (by simp)) (row_dnS.of HCLU.out) (fun _ _ _ h => h) hHeld ?_
    simp only [xPa, xPb, xPc, xPd, xPe]
    refine neq_at (i := 8) rfl (by kernel_rfl) (by rfl) _ _ _ _ rfl _ _ rfl rfl _ (by kernel_rfl) (HEQ.out) (fun _ _ _ h => h) hHeld ?_
    simp only [xPa, xPb, xPc, xPd, xPe]
    refine wpAnyH_done (by kernel_rfl) ?_ _
    have HF9 : Hid (Fr [] w w9) := Lib.hid (HF.out.and hHeld (by simp))
    clear hHeld HCELLS HCL HCELLU HCLU HVU
    clear HOK HOKU
    go_wp2
    go_roundw
    case rel => exact ⟨j + 1, by have := HJN.out; omega, by go_num, HF9⟩
    case measure => have := HJN.out; simp [intOf]; omega
  · have hjn : n = j := by omega
    subst hjn
    clear hlt hj
    go_wp2
    go_ret
    exact ⟨rfl, HF.out⟩
set_option maxHeartbeats 4000000 in
theorem stamps_eq (A B : Option Addr) (n d d' : Nat) (l m : List Wst) (w : World) (hl : Lst 38 Wst.cells (fun _ v => v.Ok) w A n l) (hm : Lst 38 Wst.cells (fun _ v => v.Ok) w B n m) (hlm : l.map id = m.map id) (hn : n ≤ 1000) :
  Calls Tryz.prog 93 #[.slice A n d, .slice B n d'] w fun e w' => e = .returned (.bool true) ∧ Fr [] w w' := by
 have HL := Lib.hid hl
 have HM := Lib.hid hm
 have HLM := Lib.hid hlm
 have HN := Lib.hid hn
 have hn1 : (n : Int) ≤ 9223372036854775807 := by omega
 have hnn : ((n : Int) != (n : Int)) = false := by simp
 clear hl hm hn hlm
 go_enter Tryz.func93, Tryz.ntmps93
 go_wp2_with fail
 clear hnn
 go_loopw [5] (fun i wr => ∃ j : Nat, j ≤ n ∧ i = .int .i64 j ∧ Hid (Fr [] w wr)) (fun i _ => n - (intOf i).toNat)
 case atStart => exact ⟨0, by omega, rfl, Lib.hid (Fr.refl _ _)⟩
 case round =>
  obtain ⟨j, hj, rfl, HF⟩ := hrel
  by_cases hlt : j < n
  · obtain ⟨ad, v, hA, hv, hcl, hok, hcells⟩ := HL.out.at (i := j) hlt
    obtain ⟨bd, u, hB, hu, hclu, hoku, hcellu⟩ := HM.out.at (i := j) hlt
    subst hA
    subst hB
    have HVU := Lib.hid (map_at HLM.out hv hu)
    have HCELLS : Hid (∀ i c, (Wst.cells v)[i]? = some c → wr.cell? ((ad.add (j * 38)).add i) = some c) := Lib.hid (fun i c hc => HF.out.cell (hcells i c hc) (by simp))
    have HCELLU : Hid (∀ i c, (Wst.cells u)[i]? = some c → wr.cell? ((bd.add (j * 38)).add i) = some c) := Lib.hid (fun i c hc => HF.out.cell (hcellu i c hc) (by simp))
    have HCL := Lib.hid hcl
    have HCLU := Lib.hid hclu
    have HOK := Lib.hid hok
    have HOKU := Lib.hid hoku
    have HJN := Lib.hid hlt
    have hj0 : (0 : Int) ≤ j := by omega
    clear hcells hcl hok hv hcellu hclu hoku hu
    have hvu : v = u := HVU.out
    subst hvu
    have HEQ : Hid (∀ W : World, (Op.equalIn 10000 32 (.agg v.cells.toArray) (.agg v.cells.toArray)).run Tryz.prog W = .ok true W) := Lib.hid (fun W => by have h := eql_Wst v v HOK.out.h HOK.out.h W; rw [(Wst.eqB_iff v v).2 rfl] at h; exact h)
    go_upto_region 6 with (fail)
    refine wp_region_held_drew (S := Fr [] wr) (by kernel_rfl) (Fr.drew (Fr.refl _ wr)) (fun hHeld => ?_)
    generalize wr.drew = w9 at *
    refine run_at (i := 0) (v := ?_) rfl (by kernel_rfl) (by rfl) (fun _ _ _ h => h) hHeld (fun w1 hw1 => ?_) ?_
    rotate_left 1
    · skip
      go_simp
      try first | with_reducible rfl | apply And.intro <;> rfl
    simp only [xPa, xPb, xPc, xPd, xPe]
    refine run_at (i := 1) (v := ?_) rfl (by kernel_rfl) (by rfl) (fun _ _ _ h => h) hHeld (fun w1 hw1 => ?_) ?_
    rotate_left 1
    · skip
      go_simp
      try first | with_reducible rfl | apply And.intro <;> rfl
    simp only [xPa, xPb, xPc, xPd, xPe]
    refine run_at (i := 2) (v := ?_) rfl (by kernel_rfl) (by rfl) (fun _ _ _ h => h) hHeld (fun w1 hw1 => ?_) ?_
    rotate_left 1
    · skip
      go_simp
      try first | with_reducible rfl | apply And.intro <;> rfl
    simp only [xPa, xPb, xPc, xPd, xPe]
    refine crow_at (i := 3) rfl (by kernel_rfl) (by rfl) _ _ rfl _ rfl _ (fun w1 hw1 j v hv => hw1.cell ((HCELLS.out) j v hv) (by simp)) (row_stm.of HCL.out) (fun _ _ _ h => h) hHeld ?_
    simp only [xPa, xPb, xPc, xPd, xPe]
    refine run_at (i := 4) (v := ?_) rfl (by kernel_rfl) (by rfl) (fun _ _ _ h => h) hHeld (fun w1 hw1 => ?_) ?_
    rotate_left 1
    · skip
      go_simp
      try first | with_reducible rfl | apply And.intro <;> rfl
    simp only [xPa, xPb, xPc, xPd, xPe]
    refine run_at (i := 5) (v := ?_) rfl (by kernel_rfl) (by rfl) (fun _ _ _ h => h) hHeld (fun w1 hw1 => ?_) ?_
    rotate_left 1
    · skip
      go_simp
      try first | with_reducible rfl | apply And.intro <;> rfl
    simp only [xPa, xPb, xPc, xPd, xPe]
    refine run_at (i := 6) (v := ?_) rfl (by kernel_rfl) (by rfl) (fun _ _ _ h => h) hHeld (fun w1 hw1 => ?_) ?_
    rotate_left 1
    · skip
      go_simp
      try first | with_reducible rfl | apply And.intro <;> rfl
    simp only [xPa, xPb, xPc, xPd, xPe]
    refine crow_at (i := 7) rfl (by kernel_rfl) (by rfl) _ _ rfl _ rfl _ (fun w1 hw1 j v hv => hw1.cell ((HCELLU.out) j v hv) (by simp)) (row_stm.of HCLU.out) (fun _ _ _ h => h) hHeld ?_
    simp only [xPa, xPb, xPc, xPd, xPe]
    refine neq_at (i := 8) rfl (by kernel_rfl) (by rfl) _ _ _ _ rfl _ _ rfl rfl _ (by kernel_rfl) (HEQ.out) (fun _ _ _ h => h) hHeld ?_
    simp only [xPa, xPb, xPc, xPd, xPe]
    refine wpAnyH_done (by kernel_rfl) ?_ _
    have HF9 : Hid (Fr [] w w9) := Lib.hid (HF.out.and hHeld (by simp))
    clear hHeld HCELLS HCL HCELLU HCLU HVU
    clear HOK HOKU
    go_wp2
    go_roundw
    case rel => exact ⟨j + 1, by have := HJN.out; omega, by go_num, HF9⟩
    case measure => have := HJN.out; simp [intOf]; omega
  · have hjn : n = j := by omega
    subst hjn
    clear hlt hj
    go_wp2
    go_ret
    exact ⟨rfl, HF.out⟩
set_option maxHeartbeats 4000000 in
theorem openings_eq (A B : Option Addr) (n d d' : Nat) (l m : List Wop) (w : World) (hl : Lst 34 Wop.cells (fun w v => v.Ok w []) w A n l) (hm : Lst 34 Wop.cells (fun w v => v.Ok w []) w B n m) (hlm : l.map Wop.con = m.map Wop.con) (hn : n ≤ 1000) :
  Calls Tryz.prog 95 #[.slice A n d, .slice B n d'] w fun e w' => e = .returned (.bool true) ∧ Fr [] w w' := by
 have HL := Lib.hid hl
 have HM := Lib.hid hm
 have HLM := Lib.hid hlm
 have HN := Lib.hid hn
 have hn1 : (n : Int) ≤ 9223372036854775807 := by omega
 have hnn : ((n : Int) != (n : Int)) = false := by simp
 clear hl hm hn hlm
 go_enter Tryz.func95, Tryz.ntmps95
 go_wp2_with fail
 clear hnn
 go_loopw [13] (fun i wr => ∃ j : Nat, j ≤ n ∧ i = .int .i64 j ∧ Hid (Fr [] w wr)) (fun i _ => n - (intOf i).toNat)
 case atStart => exact ⟨0, by omega, rfl, Lib.hid (Fr.refl _ _)⟩
 case round =>
  obtain ⟨j, hj, rfl, HF⟩ := hrel
  by_cases hlt : j < n
  · obtain ⟨ad, v, hA, hv, hcl, hok, hcells⟩ := HL.out.at (i := j) hlt
    obtain ⟨bd, u, hB, hu, hclu, hoku, hcellu⟩ := HM.out.at (i := j) hlt
    subst hA
    subst hB
    have HVU := Lib.hid (map_at HLM.out hv hu)
    have HCELLS : Hid (∀ i c, (Wop.cells v)[i]? = some c → wr.cell? ((ad.add (j * 34)).add i) = some c) := Lib.hid (fun i c hc => HF.out.cell (hcells i c hc) (by simp))
    have HCELLU : Hid (∀ i c, (Wop.cells u)[i]? = some c → wr.cell? ((bd.add (j * 34)).add i) = some c) := Lib.hid (fun i c hc => HF.out.cell (hcellu i c hc) (by simp))
    have HCL := Lib.hid hcl
    have HCLU := Lib.hid hclu
    have HOK := Lib.hid hok
    have HOKU := Lib.hid hoku
    have HJN := Lib.hid hlt
    have hj0 : (0 : Int) ≤ j := by omega
    clear hcells hcl hok hv hcellu hclu hoku hu
    go_upto_region 6 with (fail)
    refine wp_region_held_drew (S := Fr [] wr) (by kernel_rfl) (Fr.drew (Fr.refl _ wr)) (fun hHeld => ?_)
    generalize wr.drew = wd at *
    refine run_at (i := 0) (v := ?_) rfl (by kernel_rfl) (by rfl) (fun _ _ _ h => h) hHeld (fun w1 hw1 => ?_) ?_
    rotate_left 1
    · skip
      go_simp
      try first | with_reducible rfl | apply And.intro <;> rfl
    simp only [xPa, xPb, xPc, xPd, xPe]
    refine run_at (i := 1) (v := ?_) rfl (by kernel_rfl) (by rfl) (fun _ _ _ h => h) hHeld (fun w1 hw1 => ?_) ?_
    rotate_left 1
    · skip
      go_simp
      try first | with_reducible rfl | apply And.intro <;> rfl
    simp only [xPa, xPb, xPc, xPd, xPe]
    refine run_at (i := 2) (v := ?_) rfl (by kernel_rfl) (by rfl) (fun _ _ _ h => h) hHeld (fun w1 hw1 => ?_) ?_
    rotate_left 1
    · skip
      go_simp
      try first | with_reducible rfl | apply And.intro <;> rfl
    simp only [xPa, xPb, xPc, xPd, xPe]
    refine crow_at (i := 3) rfl (by kernel_rfl) (by rfl) _ _ rfl _ rfl _ (fun w1 hw1 j v hv => hw1.cell ((HCELLS.out) j v hv) (by simp)) (row_opS.of HCL.out) (fun _ _ _ h => h) hHeld ?_
    simp only [xPa, xPb, xPc, xPd, xPe]
    refine run_at (i := 4) (v := ?_) rfl (by kernel_rfl) (by rfl) (fun _ _ _ h => h) hHeld (fun w1 hw1 => ?_) ?_
    rotate_left 1
    · skip
      go_simp
      try first | with_reducible rfl | apply And.intro <;> rfl
    simp only [xPa, xPb, xPc, xPd, xPe]
    refine run_at (i := 5) (v := ?_) rfl (by kernel_rfl) (by rfl) (fun _ _ _ h => h) hHeld (fun w1 hw1 => ?_) ?_
    rotate_left 1
    · skip
      go_simp
      try first | with_reducible rfl | apply And.intro <;> rfl
    simp only [xPa, xPb, xPc, xPd, xPe]
    refine run_at (i := 6) (v := ?_) rfl (by kernel_rfl) (by rfl) (fun _ _ _ h => h) hHeld (fun w1 hw1 => ?_) ?_
    rotate_left 1
    · skip
      go_simp
      try first | with_reducible rfl | apply And.intro <;> rfl
    simp only [xPa, xPb, xPc, xPd, xPe]
    refine crow_at (i := 7) rfl (by kernel_rfl) (by rfl) _ _ rfl _ rfl _ (fun w1 hw1 j v hv => hw1.cell ((HCELLU.out) j v hv) (by simp)) (row_opS.of HCLU.out) (fun _ _ _ h => h) hHeld ?_
    simp only [xPa, xPb, xPc, xPd, xPe]
    refine call_at (i := 8) (f := ?_) (args := ?_) rfl (by kernel_rfl) (by rfl) ?_ ?_
    rotate_left 2
    · go_simp
      try first | with_reducible rfl | apply And.intro <;> rfl
    refine (opening_eq v u wd (Wop.Ok.keep HOK.out (HF.out.and hHeld (by simp)) (by simp)) (Wop.Ok.keep HOKU.out (HF.out.and hHeld (by simp)) (by simp)) HVU.out _ _ rfl rfl).mono ?_
    rintro e_ w9 ⟨rfl, hf⟩
    refine ⟨_, rfl, hHeld.and hf (by simp), fun hHeld => ?_⟩
    clear hf
    simp only [xPa, xPb, xPc, xPd, xPe]
    refine run_at (i := 9) (v := ?_) rfl (by kernel_rfl) (by rfl) (fun _ _ _ h => h) hHeld (fun w1 hw1 => ?_) ?_
    rotate_left 1
    · skip
      go_simp
      try first | with_reducible rfl | apply And.intro <;> rfl
    simp only [xPa, xPb, xPc, xPd, xPe]
    refine wpAnyH_done (by kernel_rfl) ?_ _
    have HF9 : Hid (Fr [] w w9) := Lib.hid (HF.out.and hHeld (by simp))
    clear hHeld HCELLS HCL HCELLU HCLU HVU
    clear HOK HOKU
    go_wp2
    go_roundw
    case rel => exact ⟨j + 1, by have := HJN.out; omega, by go_num, HF9⟩
    case measure => have := HJN.out; simp [intOf]; omega
  · have hjn : n = j := by omega
    subst hjn
    clear hlt hj
    go_wp2
    go_ret
    exact ⟨rfl, HF.out⟩
set_option maxHeartbeats 4000000 in
theorem tombs_eq (A B : Option Addr) (n d d' : Nat) (l m : List Wtb) (w : World) (hl : Lst 2 Wtb.cells (fun w v => v.Li w []) w A n l) (hm : Lst 2 Wtb.cells (fun w v => v.Li w []) w B n m) (hlm : l.map Wtb.con = m.map Wtb.con) (hn : n ≤ 1000) :
  Calls Tryz.prog 96 #[.slice A n d, .slice B n d'] w fun e w' => e = .returned (.bool true) ∧ Fr [] w w' := by
 have HL := Lib.hid hl
 have HM := Lib.hid hm
 have HLM := Lib.hid hlm
 have HN := Lib.hid hn
 have hn1 : (n : Int) ≤ 9223372036854775807 := by omega
 have hnn : ((n : Int) != (n : Int)) = false := by simp
 clear hl hm hn hlm
 go_enter Tryz.func96, Tryz.ntmps96
 go_wp2_with fail
 clear hnn
 go_loopw [13] (fun i wr => ∃ j : Nat, j ≤ n ∧ i = .int .i64 j ∧ Hid (Fr [] w wr)) (fun i _ => n - (intOf i).toNat)
 case atStart => exact ⟨0, by omega, rfl, Lib.hid (Fr.refl _ _)⟩
 case round =>
  obtain ⟨j, hj, rfl, HF⟩ := hrel
  by_cases hlt : j < n
  · obtain ⟨ad, v, hA, hv, hcl, hok, hcells⟩ := HL.out.at (i := j) hlt
    obtain ⟨bd, u, hB, hu, hclu, hoku, hcellu⟩ := HM.out.at (i := j) hlt
    subst hA
    subst hB
    have HVU := Lib.hid (map_at HLM.out hv hu)
    have HCELLS : Hid (∀ i c, (Wtb.cells v)[i]? = some c → wr.cell? ((ad.add (j * 2)).add i) = some c) := Lib.hid (fun i c hc => HF.out.cell (hcells i c hc) (by simp))
    have HCELLU : Hid (∀ i c, (Wtb.cells u)[i]? = some c → wr.cell? ((bd.add (j * 2)).add i) = some c) := Lib.hid (fun i c hc => HF.out.cell (hcellu i c hc) (by simp))
    have HCL := Lib.hid hcl
    have HCLU := Lib.hid hclu
    have HOK := Lib.hid hok
    have HOKU := Lib.hid hoku
    have HJN := Lib.hid hlt
    have hj0 : (0 : Int) ≤ j := by omega
    clear hcells hcl hok hv hcellu hclu hoku hu
    have HC0 : Hid (wr.cell? (ad.add (j * 2)) = some (.int .i64 v.i)) := Lib.hid (by have h := HCELLS.out 0 _ rfl; simpa [Addr.add] using h)
    have HC1 : Hid (wr.cell? ⟨(ad.add (j * 2)).block, (ad.add (j * 2)).off + 1, none⟩ = some (.slice v.A v.n v.d)) := Lib.hid (by have h := HCELLS.out 1 _ rfl; rw [fld_add] at h; exact h)
    have HVI : Hid (v.i = u.i ∧ v.l = u.l) := Lib.hid (by have h := HVU.out; unfold Wtb.con at h; simpa using h)
    have HD0 : Hid (wr.cell? (bd.add (j * 2)) = some (.int .i64 v.i)) := Lib.hid (by rw [HVI.out.1]; have h := HCELLU.out 0 _ rfl; simpa [Addr.add] using h)
    have HNN : Hid (u.n = v.n) := Lib.hid (by rw [← HOKU.out.l.1, ← HOK.out.l.1, HVI.out.2])
    have HD1 : Hid (wr.cell? ⟨(bd.add (j * 2)).block, (bd.add (j * 2)).off + 1, none⟩ = some (.slice u.A v.n u.d)) := Lib.hid (by rw [← HNN.out]; have h := HCELLU.out 1 _ rfl; rw [fld_add] at h; exact h)
    have HII : Hid ((v.i != v.i) = false) := Lib.hid (by simp)
    go_upto_region 6 with (fail)
    refine wp_region_held_drew (S := Fr [] wr) (by kernel_rfl) (Fr.drew (Fr.refl _ wr)) (fun hHeld => ?_)
    generalize wr.drew = wd at *
    refine run_at (i := 0) (v := ?_) rfl (by kernel_rfl) (by rfl) (fun _ _ _ h => h) hHeld (fun w1 hw1 => ?_) ?_
    rotate_left 1
    · skip
      go_simp
      try first | with_reducible rfl | apply And.intro <;> rfl
    simp only [xPa, xPb, xPc, xPd, xPe]
    refine run_at (i := 1) (v := ?_) rfl (by kernel_rfl) (by rfl) (fun _ _ _ h => h) hHeld (fun w1 hw1 => ?_) ?_
    rotate_left 1
    · skip
      go_simp
      try first | with_reducible rfl | apply And.intro <;> rfl
    simp only [xPa, xPb, xPc, xPd, xPe]
    refine run_at (i := 2) (v := ?_) rfl (by kernel_rfl) (by rfl) (fun _ _ _ h => h) hHeld (fun w1 hw1 => ?_) ?_
    rotate_left 1
    · skip
      go_simp
      try first | with_reducible rfl | apply And.intro <;> rfl
    simp only [xPa, xPb, xPc, xPd, xPe]
    refine run_at (i := 3) (v := ?_) rfl (by kernel_rfl) (by rfl) (fun _ _ _ h => h) hHeld (fun w1 hw1 => ?_) ?_
    rotate_left 1
    · skip
      go_simp
      try first | with_reducible rfl | apply And.intro <;> rfl
    simp only [xPa, xPb, xPc, xPd, xPe]
    refine run_at (i := 4) (v := ?_) rfl (by kernel_rfl) (by rfl) (fun _ _ _ h => h) hHeld (fun w1 hw1 => ?_) ?_
    rotate_left 1
    · skip
      have hcw0 := hw1.cell (HC0.out) (by simp)
      go_simp
      try first | with_reducible rfl | apply And.intro <;> rfl
    simp only [xPa, xPb, xPc, xPd, xPe]
    refine run_at (i := 5) (v := ?_) rfl (by kernel_rfl) (by rfl) (fun _ _ _ h => h) hHeld (fun w1 hw1 => ?_) ?_
    rotate_left 1
    · skip
      go_simp
      try first | with_reducible rfl | apply And.intro <;> rfl
    simp only [xPa, xPb, xPc, xPd, xPe]
    refine run_at (i := 6) (v := ?_) rfl (by kernel_rfl) (by rfl) (fun _ _ _ h => h) hHeld (fun w1 hw1 => ?_) ?_
    rotate_left 1
    · skip
      go_simp
      try first | with_reducible rfl | apply And.intro <;> rfl
    simp only [xPa, xPb, xPc, xPd, xPe]
    refine run_at (i := 7) (v := ?_) rfl (by kernel_rfl) (by rfl) (fun _ _ _ h => h) hHeld (fun w1 hw1 => ?_) ?_
    rotate_left 1
    · skip
      go_simp
      try first | with_reducible rfl | apply And.intro <;> rfl
    simp only [xPa, xPb, xPc, xPd, xPe]
    refine run_at (i := 8) (v := ?_) rfl (by kernel_rfl) (by rfl) (fun _ _ _ h => h) hHeld (fun w1 hw1 => ?_) ?_
    rotate_left 1
    · skip
      go_simp
      try first | with_reducible rfl | apply And.intro <;> rfl
    simp only [xPa, xPb, xPc, xPd, xPe]
    refine run_at (i := 9) (v := ?_) rfl (by kernel_rfl) (by rfl) (fun _ _ _ h => h) hHeld (fun w1 hw1 => ?_) ?_
    rotate_left 1
    · skip
      have hcw0 := hw1.cell (HD0.out) (by simp)
      go_simp
      try first | with_reducible rfl | apply And.intro <;> rfl
    simp only [xPa, xPb, xPc, xPd, xPe]
    refine run_at (i := 10) (v := ?_) rfl (by kernel_rfl) (by rfl) (fun _ _ _ h => h) hHeld (fun w1 hw1 => ?_) ?_
    rotate_left 1
    · skip
      go_simp
      try first | with_reducible rfl | apply And.intro <;> rfl
    simp only [xPa, xPb, xPc, xPd, xPe]
    try rw [HII.out]
    refine run_at (i := 11) (v := ?_) rfl (by kernel_rfl) (by rfl) (fun _ _ _ h => h) hHeld (fun w1 hw1 => ?_) ?_
    rotate_left 1
    · skip
      go_simp
      try first | with_reducible rfl | apply And.intro <;> rfl
    simp only [xPa, xPb, xPc, xPd, xPe]
    refine run_at (i := 12) (v := ?_) rfl (by kernel_rfl) (by rfl) (fun _ _ _ h => h) hHeld (fun w1 hw1 => ?_) ?_
    rotate_left 1
    · skip
      go_simp
      try first | with_reducible rfl | apply And.intro <;> rfl
    simp only [xPa, xPb, xPc, xPd, xPe]
    refine run_at (i := 13) (v := ?_) rfl (by kernel_rfl) (by rfl) (fun _ _ _ h => h) hHeld (fun w1 hw1 => ?_) ?_
    rotate_left 1
    · skip
      go_simp
      try first | with_reducible rfl | apply And.intro <;> rfl
    simp only [xPa, xPb, xPc, xPd, xPe]
    refine run_at (i := 14) (v := ?_) rfl (by kernel_rfl) (by rfl) (fun _ _ _ h => h) hHeld (fun w1 hw1 => ?_) ?_
    rotate_left 1
    · skip
      go_simp
      try first | with_reducible rfl | apply And.intro <;> rfl
    simp only [xPa, xPb, xPc, xPd, xPe]
    refine run_at (i := 15) (v := ?_) rfl (by kernel_rfl) (by rfl) (fun _ _ _ h => h) hHeld (fun w1 hw1 => ?_) ?_
    rotate_left 1
    · skip
      go_simp
      try first | with_reducible rfl | apply And.intro <;> rfl
    simp only [xPa, xPb, xPc, xPd, xPe]
    refine run_at (i := 16) (v := ?_) rfl (by kernel_rfl) (by rfl) (fun _ _ _ h => h) hHeld (fun w1 hw1 => ?_) ?_
    rotate_left 1
    · skip
      have hcw0 := hw1.cell (HC1.out) (by simp)
      go_simp
      try first | with_reducible rfl | apply And.intro <;> rfl
    simp only [xPa, xPb, xPc, xPd, xPe]
    refine run_at (i := 17) (v := ?_) rfl (by kernel_rfl) (by rfl) (fun _ _ _ h => h) hHeld (fun w1 hw1 => ?_) ?_
    rotate_left 1
    · skip
      go_simp
      try first | with_reducible rfl | apply And.intro <;> rfl
    simp only [xPa, xPb, xPc, xPd, xPe]
    refine run_at (i := 18) (v := ?_) rfl (by kernel_rfl) (by rfl) (fun _ _ _ h => h) hHeld (fun w1 hw1 => ?_) ?_
    rotate_left 1
    · skip
      go_simp
      try first | with_reducible rfl | apply And.intro <;> rfl
    simp only [xPa, xPb, xPc, xPd, xPe]
    refine run_at (i := 19) (v := ?_) rfl (by kernel_rfl) (by rfl) (fun _ _ _ h => h) hHeld (fun w1 hw1 => ?_) ?_
    rotate_left 1
    · skip
      go_simp
      try first | with_reducible rfl | apply And.intro <;> rfl
    simp only [xPa, xPb, xPc, xPd, xPe]
    refine run_at (i := 20) (v := ?_) rfl (by kernel_rfl) (by rfl) (fun _ _ _ h => h) hHeld (fun w1 hw1 => ?_) ?_
    rotate_left 1
    · skip
      go_simp
      try first | with_reducible rfl | apply And.intro <;> rfl
    simp only [xPa, xPb, xPc, xPd, xPe]
    refine run_at (i := 21) (v := ?_) rfl (by kernel_rfl) (by rfl) (fun _ _ _ h => h) hHeld (fun w1 hw1 => ?_) ?_
    rotate_left 1
    · skip
      have hcw0 := hw1.cell (HD1.out) (by simp)
      go_simp
      try first | with_reducible rfl | apply And.intro <;> rfl
    simp only [xPa, xPb, xPc, xPd, xPe]
    refine call_at (i := 22) (f := ?_) (args := ?_) rfl (by kernel_rfl) (by rfl) ?_ ?_
    rotate_left 2
    · go_simp
      try first | with_reducible rfl | apply And.intro <;> rfl
    refine (denies_eq v.A u.A v.n v.d u.d v.l u.l wd (HOK.out.l.keep' (HF.out.and hHeld (by simp)) (by simp) (fun _ _ h => h)) (by rw [← HNN.out]; exact HOKU.out.l.keep' (HF.out.and hHeld (by simp)) (by simp) (fun _ _ h => h)) (by rw [HVI.out.2]) (by have := HOK.out.n; omega)).mono ?_
    rintro e_ w9 ⟨rfl, hf⟩
    refine ⟨_, rfl, hHeld.and hf (by simp), fun hHeld => ?_⟩
    clear hf
    simp only [xPa, xPb, xPc, xPd, xPe]
    refine run_at (i := 23) (v := ?_) rfl (by kernel_rfl) (by rfl) (fun _ _ _ h => h) hHeld (fun w1 hw1 => ?_) ?_
    rotate_left 1
    · skip
      go_simp
      try first | with_reducible rfl | apply And.intro <;> rfl
    simp only [xPa, xPb, xPc, xPd, xPe]
    refine run_at (i := 24) (v := ?_) rfl (by kernel_rfl) (by rfl) (fun _ _ _ h => h) hHeld (fun w1 hw1 => ?_) ?_
    rotate_left 1
    · skip
      go_simp
      try first | with_reducible rfl | apply And.intro <;> rfl
    simp only [xPa, xPb, xPc, xPd, xPe]
    refine wpAnyH_done (by kernel_rfl) ?_ _
    have HF9 : Hid (Fr [] w w9) := Lib.hid (HF.out.and hHeld (by simp))
    clear hHeld HCELLS HCL HC0 HC1 HCELLU HCLU HD0 HD1 HVU HVI HNN
    clear HOK HOKU
    go_wp2
    go_roundw
    case rel => exact ⟨j + 1, by have := HJN.out; omega, by go_num, HF9⟩
    case measure => have := HJN.out; simp [intOf]; omega
  · have hjn : n = j := by omega
    subst hjn
    clear hlt hj
    go_wp2
    go_ret
    exact ⟨rfl, HF.out⟩
set_option maxHeartbeats 2000000 in
theorem cert_eq (x y : Wce) (w : World) (hx : x.Li w []) (hy : y.Li w []) (he : x.con = y.con) (C D : List Value) (hC : x.cells = C) (hD : y.cells = D) :
  Calls Tryz.prog 57 #[.agg C.toArray, .agg D.toArray] w fun e w' => e = .returned (.bool true) ∧ Fr [] w w' := by
 obtain ⟨wa, hwa⟩ : ∃ wa, wa = (w.alloc (Obj.cells C.toArray 35)).alloc (Obj.cells D.toArray 35) := ⟨_, rfl⟩
 have hf0 : Fr [] w wa := by rw [hwa]; exact ((Fr.refl [] w).alloc _).alloc _
 have hb0 : Blk wa w.heap.size 35 x.cells.toArray := by rw [hwa, hC]; exact blk_alloc (Blk.new _ _ _)
 have hb1 : Blk wa (w.heap.size + 1) 35 y.cells.toArray := by
  have := Blk.new (w.alloc (Obj.cells C.toArray 35)) 35 D.toArray
  rw [hwa, hD]
  simpa using this
 obtain ⟨k, A, n, d, l⟩ := x
 obtain ⟨k', B, m, d', l'⟩ := y
 unfold Wce.con at he
 simp only [Prod.mk.injEq] at he
 obtain ⟨rfl, rfl⟩ := he
 have hnm : m = n := hy.l.1.symm.trans hx.l.1
 subst hnm
 have hr0 := hb0.range
 have hr1 := hb1.range
 have HKL : Hid (k.cells.length = 37) := Lib.hid (Wcm.len hx.k.h)
 have h01 : wa.cell? ⟨w.heap.size, 37, none⟩ = some (.slice A m d) := by have h := hr0 37 (.slice A m d) (by simp [Wce.cells, HKL.out]); simpa using h
 have h11 : wa.cell? ⟨w.heap.size + 1, 37, none⟩ = some (.slice B m d') := by have h := hr1 37 (.slice B m d') (by simp [Wce.cells, HKL.out]); simpa using h
 have HH0 : Hid (wa.rangeAt w.heap.size 0 k.cells) := Lib.hid (rangeAt_sub (o := 0) (xs := []) (ys := k.cells) (zs := [.slice A m d]) hr0)
 have HH1 : Hid (wa.rangeAt (w.heap.size + 1) 0 k.cells) := Lib.hid (rangeAt_sub (o := 0) (xs := []) (ys := k.cells) (zs := [.slice B m d']) hr1)
 have HEQ : Hid ((Op.equalIn 10000 29 (.agg k.cells.toArray) (.agg k.cells.toArray)).run Tryz.prog wa = .ok true wa) := Lib.hid (eq_Wcm k hx.k.h wa)
 have HF0 := Lib.hid hf0
 have HWA := Lib.hid hwa
 have HX := Lib.hid hx
 have HY := Lib.hid hy
 clear hwa hf0 hb0 hb1 hr0 hr1 hx hy hC hD
 generalize hKC : k.cells = KC at *
 clear hKC
 go_enter Tryz.func57, Tryz.ntmps57
 go_upto_region 1 with (fail)
 change Code.wp _ _ _ _ ((w.alloc (Obj.cells C.toArray 35)).alloc (Obj.cells D.toArray 35))
 rw [← HWA.out]
 go_wp2_with (first
  | (refine wpList_midg rfl 29 _ rfl w.heap.size 0 rfl KC HH0.out (row_cmt.of HKL.out) ?_)
  | (refine wpList_midg rfl 29 _ rfl (w.heap.size + 1) 0 rfl KC HH1.out (row_cmt.of HKL.out) ?_)
  | (refine wpList_eqlg rfl 29 _ _ _ rfl KC.toArray KC.toArray rfl rfl true (by kernel_rfl) HEQ.out ?_))
 refine (stamps_eq A B m d d' l l wa (HX.out.l.keep' HF0.out (by simp) (fun _ _ h => h)) (HY.out.l.keep' HF0.out (by simp) (fun _ _ h => h)) rfl (by have h1 : m ≤ 100 := HX.out.n; omega)).mono ?_
 rintro e w1 ⟨rfl, hf1⟩
 have HF1 : Hid (Fr [] w w1) := Lib.hid (HF0.out.and hf1 (by simp))
 clear hf1 h01 h11
 go_wp2
 go_ret
 exact ⟨rfl, HF1.out⟩
set_option maxHeartbeats 4000000 in
theorem certs_eq (A B : Option Addr) (n d d' : Nat) (l m : List Wce) (w : World) (hl : Lst 38 Wce.cells (fun w v => v.Li w []) w A n l) (hm : Lst 38 Wce.cells (fun w v => v.Li w []) w B n m) (hlm : l.map Wce.con = m.map Wce.con) (hn : n ≤ 1000) :
  Calls Tryz.prog 94 #[.slice A n d, .slice B n d'] w fun e w' => e = .returned (.bool true) ∧ Fr [] w w' := by
 have HL := Lib.hid hl
 have HM := Lib.hid hm
 have HLM := Lib.hid hlm
 have HN := Lib.hid hn
 have hn1 : (n : Int) ≤ 9223372036854775807 := by omega
 have hnn : ((n : Int) != (n : Int)) = false := by simp
 clear hl hm hn hlm
 go_enter Tryz.func94, Tryz.ntmps94
 go_wp2_with fail
 clear hnn
 go_loopw [13] (fun i wr => ∃ j : Nat, j ≤ n ∧ i = .int .i64 j ∧ Hid (Fr [] w wr)) (fun i _ => n - (intOf i).toNat)
 case atStart => exact ⟨0, by omega, rfl, Lib.hid (Fr.refl _ _)⟩
 case round =>
  obtain ⟨j, hj, rfl, HF⟩ := hrel
  by_cases hlt : j < n
  · obtain ⟨ad, v, hA, hv, hcl, hok, hcells⟩ := HL.out.at (i := j) hlt
    obtain ⟨bd, u, hB, hu, hclu, hoku, hcellu⟩ := HM.out.at (i := j) hlt
    subst hA
    subst hB
    have HVU := Lib.hid (map_at HLM.out hv hu)
    have HCELLS : Hid (∀ i c, (Wce.cells v)[i]? = some c → wr.cell? ((ad.add (j * 38)).add i) = some c) := Lib.hid (fun i c hc => HF.out.cell (hcells i c hc) (by simp))
    have HCELLU : Hid (∀ i c, (Wce.cells u)[i]? = some c → wr.cell? ((bd.add (j * 38)).add i) = some c) := Lib.hid (fun i c hc => HF.out.cell (hcellu i c hc) (by simp))
    have HCL := Lib.hid hcl
    have HCLU := Lib.hid hclu
    have HOK := Lib.hid hok
    have HOKU := Lib.hid hoku
    have HJN := Lib.hid hlt
    have hj0 : (0 : Int) ≤ j := by omega
    clear hcells hcl hok hv hcellu hclu hoku hu
    go_upto_region 6 with (fail)
    refine wp_region_held_drew (S := Fr [] wr) (by kernel_rfl) (Fr.drew (Fr.refl _ wr)) (fun hHeld => ?_)
    generalize wr.drew = wd at *
    refine run_at (i := 0) (v := ?_) rfl (by kernel_rfl) (by rfl) (fun _ _ _ h => h) hHeld (fun w1 hw1 => ?_) ?_
    rotate_left 1
    · skip
      go_simp
      try first | with_reducible rfl | apply And.intro <;> rfl
    simp only [xPa, xPb, xPc, xPd, xPe]
    refine run_at (i := 1) (v := ?_) rfl (by kernel_rfl) (by rfl) (fun _ _ _ h => h) hHeld (fun w1 hw1 => ?_) ?_
    rotate_left 1
    · skip
      go_simp
      try first | with_reducible rfl | apply And.intro <;> rfl
    simp only [xPa, xPb, xPc, xPd, xPe]
    refine run_at (i := 2) (v := ?_) rfl (by kernel_rfl) (by rfl) (fun _ _ _ h => h) hHeld (fun w1 hw1 => ?_) ?_
    rotate_left 1
    · skip
      go_simp
      try first | with_reducible rfl | apply And.intro <;> rfl
    simp only [xPa, xPb, xPc, xPd, xPe]
    refine crow_at (i := 3) rfl (by kernel_rfl) (by rfl) _ _ rfl _ rfl _ (fun w1 hw1 j v hv => hw1.cell ((HCELLS.out) j v hv) (by simp)) (row_crt.of HCL.out) (fun _ _ _ h => h) hHeld ?_
    simp only [xPa, xPb, xPc, xPd, xPe]
    refine run_at (i := 4) (v := ?_) rfl (by kernel_rfl) (by rfl) (fun _ _ _ h => h) hHeld (fun w1 hw1 => ?_) ?_
    rotate_left 1
    · skip
      go_simp
      try first | with_reducible rfl | apply And.intro <;> rfl
    simp only [xPa, xPb, xPc, xPd, xPe]
    refine run_at (i := 5) (v := ?_) rfl (by kernel_rfl) (by rfl) (fun _ _ _ h => h) hHeld (fun w1 hw1 => ?_) ?_
    rotate_left 1
    · skip
      go_simp
      try first | with_reducible rfl | apply And.intro <;> rfl
    simp only [xPa, xPb, xPc, xPd, xPe]
    refine run_at (i := 6) (v := ?_) rfl (by kernel_rfl) (by rfl) (fun _ _ _ h => h) hHeld (fun w1 hw1 => ?_) ?_
    rotate_left 1
    · skip
      go_simp
      try first | with_reducible rfl | apply And.intro <;> rfl
    simp only [xPa, xPb, xPc, xPd, xPe]
    refine crow_at (i := 7) rfl (by kernel_rfl) (by rfl) _ _ rfl _ rfl _ (fun w1 hw1 j v hv => hw1.cell ((HCELLU.out) j v hv) (by simp)) (row_crt.of HCLU.out) (fun _ _ _ h => h) hHeld ?_
    simp only [xPa, xPb, xPc, xPd, xPe]
    refine call_at (i := 8) (f := ?_) (args := ?_) rfl (by kernel_rfl) (by rfl) ?_ ?_
    rotate_left 2
    · go_simp
      try first | with_reducible rfl | apply And.intro <;> rfl
    refine (cert_eq v u wd (Wce.Li.keep HOK.out (HF.out.and hHeld (by simp)) (by simp)) (Wce.Li.keep HOKU.out (HF.out.and hHeld (by simp)) (by simp)) HVU.out _ _ rfl rfl).mono ?_
    rintro e_ w9 ⟨rfl, hf⟩
    refine ⟨_, rfl, hHeld.and hf (by simp), fun hHeld => ?_⟩
    clear hf
    simp only [xPa, xPb, xPc, xPd, xPe]
    refine run_at (i := 9) (v := ?_) rfl (by kernel_rfl) (by rfl) (fun _ _ _ h => h) hHeld (fun w1 hw1 => ?_) ?_
    rotate_left 1
    · skip
      go_simp
      try first | with_reducible rfl | apply And.intro <;> rfl
    simp only [xPa, xPb, xPc, xPd, xPe]
    refine wpAnyH_done (by kernel_rfl) ?_ _
    have HF9 : Hid (Fr [] w w9) := Lib.hid (HF.out.and hHeld (by simp))
    clear hHeld HCELLS HCL HCELLU HCLU HVU
    clear HOK HOKU
    go_wp2
    go_roundw
    case rel => exact ⟨j + 1, by have := HJN.out; omega, by go_num, HF9⟩
    case measure => have := HJN.out; simp [intOf]; omega
  · have hjn : n = j := by omega
    subst hjn
    clear hlt hj
    go_wp2
    go_ret
    exact ⟨rfl, HF.out⟩
set_option maxHeartbeats 2000000 in
theorem promise_eq (x y : Wpr) (w : World) (hx : x.Li w []) (hy : y.Li w []) (he : x.con = y.con) (C D : List Value) (hC : x.cells = C) (hD : y.cells = D) :
  Calls Tryz.prog 58 #[.agg C.toArray, .agg D.toArray] w fun e w' => e = .returned (.bool true) ∧ Fr [] w w' := by
 obtain ⟨wa, hwa⟩ : ∃ wa, wa = (w.alloc (Obj.cells C.toArray 40)).alloc (Obj.cells D.toArray 40) := ⟨_, rfl⟩
 have hf0 : Fr [] w wa := by rw [hwa]; exact ((Fr.refl [] w).alloc _).alloc _
 have hb0 : Blk wa w.heap.size 40 x.cells.toArray := by rw [hwa, hC]; exact blk_alloc (Blk.new _ _ _)
 have hb1 : Blk wa (w.heap.size + 1) 40 y.cells.toArray := by
  have := Blk.new (w.alloc (Obj.cells C.toArray 40)) 40 D.toArray
  rw [hwa, hD]
  simpa using this
 obtain ⟨r, e, t, A, n, d, l, b, mm⟩ := x
 obtain ⟨r', e', t', B, m, d', l', b', mm'⟩ := y
 unfold Wpr.con at he
 simp only [Cpr.mk.injEq] at he
 obtain ⟨rfl, rfl, rfl, hll, rfl, rfl⟩ := he
 have hnm : m = n := hy.l.1.symm.trans ((by have := congrArg List.length hll; simpa using this.symm : l'.length = l.length).trans hx.l.1)
 subst hnm
 have hr0 := hb0.range
 have hr1 := hb1.range
 have h00 : wa.cell? ⟨w.heap.size, 0, none⟩ = some (.int .i64 r) := by have h := hr0 0 _ rfl; simpa using h
 have h10 : wa.cell? ⟨w.heap.size + 1, 0, none⟩ = some (.int .i64 r) := by have h := hr1 0 _ rfl; simpa using h
 have h01 : wa.cell? ⟨w.heap.size, 1, none⟩ = some (.int .i64 e) := by have h := hr0 1 _ rfl; simpa using h
 have h11 : wa.cell? ⟨w.heap.size + 1, 1, none⟩ = some (.int .i64 e) := by have h := hr1 1 _ rfl; simpa using h
 have h02 : wa.cell? ⟨w.heap.size, 2, none⟩ = some (.int .u64 (t : Int)) := by have h := hr0 2 _ rfl; simpa using h
 have h12 : wa.cell? ⟨w.heap.size + 1, 2, none⟩ = some (.int .u64 (t : Int)) := by have h := hr1 2 _ rfl; simpa using h
 have h03 : wa.cell? ⟨w.heap.size, 3, none⟩ = some (.slice A m d) := by have h := hr0 3 _ rfl; simpa using h
 have h13 : wa.cell? ⟨w.heap.size + 1, 3, none⟩ = some (.slice B m d') := by have h := hr1 3 _ rfl; simpa using h
 have HH0 : Hid (wa.rangeAt w.heap.size 4 [.int .i64 b, .int .i64 mm]) := Lib.hid (rangeAt_sub (o := 0) (xs := [.int .i64 r, .int .i64 e, .int .u64 (t : Int), .slice A m d]) (ys := [.int .i64 b, .int .i64 mm]) (zs := []) hr0)
 have HH1 : Hid (wa.rangeAt (w.heap.size + 1) 4 [.int .i64 b, .int .i64 mm]) := Lib.hid (rangeAt_sub (o := 0) (xs := [.int .i64 r, .int .i64 e, .int .u64 (t : Int), .slice B m d']) (ys := [.int .i64 b, .int .i64 mm]) (zs := []) hr1)
 have HEQ : Hid ((Op.equalIn 10000 27 (.agg #[.int .i64 b, .int .i64 mm]) (.agg #[.int .i64 b, .int .i64 mm])).run Tryz.prog wa = .ok true wa) := Lib.hid (sig_selfd b mm 9998 wa)
 have HF0 := Lib.hid hf0
 have HWA := Lib.hid hwa
 have HX := Lib.hid hx
 have HY := Lib.hid hy
 have HLL := Lib.hid hll
 have hrr : (r == r) = true := by simp
 have hee : (e == e) = true := by simp
 have htt : (((t : Nat) : Int) == (t : Int)) = true := by simp
 clear hwa hf0 hb0 hb1 hr0 hr1 hx hy hC hD hll
 go_enter Tryz.func58, Tryz.ntmps58
 go_upto_region 1 with (fail)
 change Code.wp _ _ _ _ ((w.alloc (Obj.cells C.toArray 40)).alloc (Obj.cells D.toArray 40))
 rw [← HWA.out]
 go_wp2_with (first
  | (refine wpList_midg rfl 27 _ rfl w.heap.size 4 rfl [.int .i64 b, .int .i64 mm] HH0.out row_sg2 ?_)
  | (refine wpList_midg rfl 27 _ rfl (w.heap.size + 1) 4 rfl [.int .i64 b, .int .i64 mm] HH1.out row_sg2 ?_)
  | (refine wpList_eqlg rfl 27 _ _ _ rfl #[.int .i64 b, .int .i64 mm] #[.int .i64 b, .int .i64 mm] rfl rfl true (by kernel_rfl) HEQ.out ?_))
 refine (certs_eq A B m d d' l l' wa (HX.out.l.keep' HF0.out (by simp) (fun _ _ h => Wce.Li.keep (S' := []) h HF0.out (by simp))) (HY.out.l.keep' HF0.out (by simp) (fun _ _ h => Wce.Li.keep (S' := []) h HF0.out (by simp))) HLL.out (by have h1 : m ≤ 100 := HX.out.n; omega)).mono ?_
 rintro e_ w1 ⟨rfl, hf1⟩
 have HF1 : Hid (Fr [] w w1) := Lib.hid (HF0.out.and hf1 (by simp))
 clear hf1 h00 h10 h01 h11 h02 h12 h03 h13 hrr hee htt
 go_wp2
 go_ret
 exact ⟨rfl, HF1.out⟩
set_option maxHeartbeats 2000000 in
theorem batch_eq (x y : Wba) (w : World) (hx : x.Li w []) (hy : y.Li w []) (he : x.con = y.con) (C D : List Value) (hC : x.cells = C) (hD : y.cells = D) :
  Calls Tryz.prog 61 #[.agg C.toArray, .agg D.toArray] w fun e w' => e = .returned (.bool true) ∧ Fr [] w w' := by
 obtain ⟨wa, hwa⟩ : ∃ wa, wa = (w.alloc (Obj.cells C.toArray 45)).alloc (Obj.cells D.toArray 45) := ⟨_, rfl⟩
 have hf0 : Fr [] w wa := by rw [hwa]; exact ((Fr.refl [] w).alloc _).alloc _
 have hb0 : Blk wa w.heap.size 45 x.cells.toArray := by rw [hwa, hC]; exact blk_alloc (Blk.new _ _ _)
 have hb1 : Blk wa (w.heap.size + 1) 45 y.cells.toArray := by
  have := Blk.new (w.alloc (Obj.cells C.toArray 45)) 45 D.toArray
  rw [hwa, hD]
  simpa using this
 obtain ⟨e, t, A, n, d, l, A2, n2, d2, l2, A3, n3, d3, l3⟩ := x
 obtain ⟨e', t', B, m, d', l', B2, m2, d2', l2', B3, m3, d3', l3'⟩ := y
 unfold Wba.con at he
 simp only [Cba.mk.injEq] at he
 obtain ⟨rfl, rfl, hl1, hl2, hl3⟩ := he
 have hnm : m = n := hy.l.1.symm.trans ((by have := congrArg List.length hl1; simpa using this.symm : l'.length = l.length).trans hx.l.1)
 have hnm2 : m2 = n2 := hy.l2.1.symm.trans ((by have := congrArg List.length hl2; simpa using this.symm : l2'.length = l2.length).trans hx.l2.1)
 have hnm3 : m3 = n3 := hy.l3.1.symm.trans ((by have := congrArg List.length hl3; simpa using this.symm : l3'.length = l3.length).trans hx.l3.1)
 subst hnm
 subst hnm2
 subst hnm3
 have hr0 := hb0.range
 have hr1 := hb1.range
 have h00 : wa.cell? ⟨w.heap.size, 0, none⟩ = some (.int .i64 e) := by have h := hr0 0 _ rfl; simpa using h
 have h10 : wa.cell? ⟨w.heap.size + 1, 0, none⟩ = some (.int .i64 e) := by have h := hr1 0 _ rfl; simpa using h
 have h01 : wa.cell? ⟨w.heap.size, 1, none⟩ = some (.int .u64 (t : Int)) := by have h := hr0 1 _ rfl; simpa using h
 have h11 : wa.cell? ⟨w.heap.size + 1, 1, none⟩ = some (.int .u64 (t : Int)) := by have h := hr1 1 _ rfl; simpa using h
 have h02 : wa.cell? ⟨w.heap.size, 2, none⟩ = some (.slice A m d) := by have h := hr0 2 _ rfl; simpa using h
 have h12 : wa.cell? ⟨w.heap.size + 1, 2, none⟩ = some (.slice B m d') := by have h := hr1 2 _ rfl; simpa using h
 have h03 : wa.cell? ⟨w.heap.size, 3, none⟩ = some (.slice A2 m2 d2) := by have h := hr0 3 _ rfl; simpa using h
 have h13 : wa.cell? ⟨w.heap.size + 1, 3, none⟩ = some (.slice B2 m2 d2') := by have h := hr1 3 _ rfl; simpa using h
 have h04 : wa.cell? ⟨w.heap.size, 4, none⟩ = some (.slice A3 m3 d3) := by have h := hr0 4 _ rfl; simpa using h
 have h14 : wa.cell? ⟨w.heap.size + 1, 4, none⟩ = some (.slice B3 m3 d3') := by have h := hr1 4 _ rfl; simpa using h
 have HF0 := Lib.hid hf0
 have HWA := Lib.hid hwa
 have HX := Lib.hid hx
 have HY := Lib.hid hy
 have HL1 := Lib.hid hl1
 have HL2 := Lib.hid hl2
 have HL3 := Lib.hid hl3
 have HN : Hid (m ≤ 100) := Lib.hid hx.n
 have hee : (e != e) = false := by simp
 have htt : (((t : Nat) : Int) != (t : Int)) = false := by simp
 have hnn : (((m : Nat) : Int) != (m : Int)) = false := by simp
 clear hwa hf0 hb0 hb1 hr0 hr1 hx hy hC hD hl1 hl2 hl3
 go_enter Tryz.func61, Tryz.ntmps61
 go_upto_region 1 with (fail)
 change Code.wp _ _ _ _ ((w.alloc (Obj.cells C.toArray 45)).alloc (Obj.cells D.toArray 45))
 rw [← HWA.out]
 go_wp2_with fail
 refine (openings_eq A2 B2 m2 d2 d2' l2 l2' wa (HX.out.l2.keep' HF0.out (by simp) (fun _ _ h => Wop.Ok.keep (S' := []) h HF0.out (by simp))) (HY.out.l2.keep' HF0.out (by simp) (fun _ _ h => Wop.Ok.keep (S' := []) h HF0.out (by simp))) HL2.out (by have h1 : m2 ≤ 100 := HX.out.n2; omega)).mono ?_
 rintro e_ w1 ⟨rfl, hf1⟩
 have k04 := hf1.cell h04 (by simp)
 have k14 := hf1.cell h14 (by simp)
 have k02 := hf1.cell h02 (by simp)
 have k12 := hf1.cell h12 (by simp)
 have HF1 : Hid (Fr [] w w1) := Lib.hid (HF0.out.and hf1 (by simp))
 clear hf1 h00 h10 h01 h11 h02 h12 h03 h13 h04 h14 hee htt hnn
 go_wp2_with fail
 refine (tombs_eq A3 B3 m3 d3 d3' l3 l3' w1 (HX.out.l3.keep' HF1.out (by simp) (fun _ _ h => Wtb.Li.keep (S' := []) h HF1.out (by simp))) (HY.out.l3.keep' HF1.out (by simp) (fun _ _ h => Wtb.Li.keep (S' := []) h HF1.out (by simp))) HL3.out (by have h1 : m3 ≤ 100 := HX.out.n3; omega)).mono ?_
 rintro e_ w2 ⟨rfl, hf2⟩
 have m02 := hf2.cell k02 (by simp)
 have HC02 := Lib.hid m02
 have HC12 := Lib.hid (hf2.cell k12 (by simp))
 have HF2 : Hid (Fr [] w w2) := Lib.hid (HF1.out.and hf2 (by simp))
 clear hf2 k04 k14 k02 k12
 have hn1 : (m : Int) ≤ 9223372036854775807 := by have := HN.out; omega
 go_wp2_with fail
 clear m02
 go_loopw [46] (fun i wr => ∃ j : Nat, j ≤ m ∧ i = .int .i64 j ∧ Hid (Fr [] w2 wr)) (fun i _ => m - (intOf i).toNat)
 case atStart => exact ⟨0, by omega, rfl, Lib.hid (Fr.refl _ _)⟩
 case round =>
  obtain ⟨j, hj, rfl, HF⟩ := hrel
  by_cases hlt : j < m
  · obtain ⟨ad, v, hA, hv, hcl, hok, hcells⟩ := HX.out.l.at (i := j) hlt
    obtain ⟨bd, u, hB, hu, hclu, hoku, hcellu⟩ := HY.out.l.at (i := j) hlt
    have hA : A = some ad := hA
    have hB : B = some bd := hB
    subst hA
    subst hB
    have HVU := Lib.hid (map_at HL1.out hv hu)
    have HFW : Hid (Fr [] w wr) := Lib.hid (HF2.out.and HF.out (by simp))
    have HCELLS : Hid (∀ i c, (Wpr.cells v)[i]? = some c → wr.cell? ((ad.add (j * 6)).add i) = some c) := Lib.hid (fun i c hc => HFW.out.cell (hcells i c hc) (by simp))
    have HCELLU : Hid (∀ i c, (Wpr.cells u)[i]? = some c → wr.cell? ((bd.add (j * 6)).add i) = some c) := Lib.hid (fun i c hc => HFW.out.cell (hcellu i c hc) (by simp))
    have HCR0 := Lib.hid (HF.out.cell HC02.out (by simp))
    have HCR1 := Lib.hid (HF.out.cell HC12.out (by simp))
    have HOK := Lib.hid hok
    have HOKU := Lib.hid hoku
    have HJN := Lib.hid hlt
    have hj0 : (0 : Int) ≤ j := by omega
    clear hcells hcl hok hv hcellu hclu hoku hu
    go_upto_region 6 with (fail)
    refine wp_region_held_drew (S := Fr [] wr) (by kernel_rfl) (Fr.drew (Fr.refl _ wr)) (fun hHeld => ?_)
    generalize wr.drew = wd at *
    refine run_at (i := 0) (v := ?_) rfl (by kernel_rfl) (by rfl) (fun _ _ _ h => h) hHeld (fun w1 hw1 => ?_) ?_
    rotate_left 1
    · skip
      go_simp
      try first | with_reducible rfl | apply And.intro <;> rfl
    simp only [xPa, xPb, xPc, xPd, xPe]
    refine run_at (i := 1) (v := ?_) rfl (by kernel_rfl) (by rfl) (fun _ _ _ h => h) hHeld (fun w1 hw1 => ?_) ?_
    rotate_left 1
    · skip
      have hcw0 := hw1.cell (HCR0.out) (by simp)
      go_simp
      try first | with_reducible rfl | apply And.intro <;> rfl
    simp only [xPa, xPb, xPc, xPd, xPe]
    refine run_at (i := 2) (v := ?_) rfl (by kernel_rfl) (by rfl) (fun _ _ _ h => h) hHeld (fun w1 hw1 => ?_) ?_
    rotate_left 1
    · skip
      go_simp
      try first | with_reducible rfl | apply And.intro <;> rfl
    simp only [xPa, xPb, xPc, xPd, xPe]
    refine run_at (i := 3) (v := ?_) rfl (by kernel_rfl) (by rfl) (fun _ _ _ h => h) hHeld (fun w1 hw1 => ?_) ?_
    rotate_left 1
    · skip
      go_simp
      try first | with_reducible rfl | apply And.intro <;> rfl
    simp only [xPa, xPb, xPc, xPd, xPe]
    refine crow_at (i := 4) rfl (by kernel_rfl) (by rfl) _ _ rfl _ rfl _ (fun w1 hw1 j v hv => hw1.cell ((HCELLS.out) j v hv) (by simp)) (row_prm) (fun _ _ _ h => h) hHeld ?_
    simp only [xPa, xPb, xPc, xPd, xPe]
    refine run_at (i := 5) (v := ?_) rfl (by kernel_rfl) (by rfl) (fun _ _ _ h => h) hHeld (fun w1 hw1 => ?_) ?_
    rotate_left 1
    · skip
      go_simp
      try first | with_reducible rfl | apply And.intro <;> rfl
    simp only [xPa, xPb, xPc, xPd, xPe]
    refine run_at (i := 6) (v := ?_) rfl (by kernel_rfl) (by rfl) (fun _ _ _ h => h) hHeld (fun w1 hw1 => ?_) ?_
    rotate_left 1
    · skip
      have hcw0 := hw1.cell (HCR1.out) (by simp)
      go_simp
      try first | with_reducible rfl | apply And.intro <;> rfl
    simp only [xPa, xPb, xPc, xPd, xPe]
    refine run_at (i := 7) (v := ?_) rfl (by kernel_rfl) (by rfl) (fun _ _ _ h => h) hHeld (fun w1 hw1 => ?_) ?_
    rotate_left 1
    · skip
      go_simp
      try first | with_reducible rfl | apply And.intro <;> rfl
    simp only [xPa, xPb, xPc, xPd, xPe]
    refine run_at (i := 8) (v := ?_) rfl (by kernel_rfl) (by rfl) (fun _ _ _ h => h) hHeld (fun w1 hw1 => ?_) ?_
    rotate_left 1
    · skip
      go_simp
      try first | with_reducible rfl | apply And.intro <;> rfl
    simp only [xPa, xPb, xPc, xPd, xPe]
    refine crow_at (i := 9) rfl (by kernel_rfl) (by rfl) _ _ rfl _ rfl _ (fun w1 hw1 j v hv => hw1.cell ((HCELLU.out) j v hv) (by simp)) (row_prm) (fun _ _ _ h => h) hHeld ?_
    simp only [xPa, xPb, xPc, xPd, xPe]
    refine call_at (i := 10) (f := ?_) (args := ?_) rfl (by kernel_rfl) (by rfl) ?_ ?_
    rotate_left 2
    · go_simp
      try first | with_reducible rfl | apply And.intro <;> rfl
    refine (promise_eq v u wd (Wpr.Li.keep HOK.out (HFW.out.and hHeld (by simp)) (by simp)) (Wpr.Li.keep HOKU.out (HFW.out.and hHeld (by simp)) (by simp)) HVU.out _ _ rfl rfl).mono ?_
    rintro e_ w9 ⟨rfl, hf⟩
    refine ⟨_, rfl, hHeld.and hf (by simp), fun hHeld => ?_⟩
    clear hf
    simp only [xPa, xPb, xPc, xPd, xPe]
    refine run_at (i := 11) (v := ?_) rfl (by kernel_rfl) (by rfl) (fun _ _ _ h => h) hHeld (fun w1 hw1 => ?_) ?_
    rotate_left 1
    · skip
      go_simp
      try first | with_reducible rfl | apply And.intro <;> rfl
    simp only [xPa, xPb, xPc, xPd, xPe]
    refine wpAnyH_done (by kernel_rfl) ?_ _
    have HF9 : Hid (Fr [] w2 w9) := Lib.hid (HF.out.and hHeld (by simp))
    clear hHeld HCELLS HCELLU HVU HOK HOKU HCR0 HCR1 HFW
    go_wp2
    go_roundw
    case rel => exact ⟨j + 1, by have := HJN.out; omega, by go_num, HF9⟩
    case measure => have := HJN.out; simp [intOf]; omega
  · have hjn : m = j := by omega
    subst hjn
    clear hlt hj
    go_wp2
    go_ret
    exact ⟨rfl, HF2.out.and HF.out (by simp)⟩
end Go.Proofs.YtdenpfcgghangaaGreat

namespace Go.Proofs.YtdenpfcgghangaaGreat
open Go.RowKit
set_option maxRecDepth 100000
set_option maxHeartbeats 1000000 in
theorem eql_Wak (x y : Wst) (hx : x.h.length = 32) (hy : y.h.length = 32) (w : World) : (Op.equalIn 10000 37 (.agg x.cells.toArray) (.agg y.cells.toArray)).run Tryz.prog w = .ok (x.eqB y) w :=
 eql_of (d := 9999) (C := x.cells.toArray) (D := y.cells.toArray) (l := [(3, 0), (23, 1), (25, 3), (30, 35), (27, 36)]) (run_equalIn_struct w 9999 37 x.cells.toArray y.cells.toArray (by kernel_rfl) (by kernel_rfl)) (by kernel_rfl)
  (bs := [decide (x.r = y.r), (decide (x.c = y.c) && decide (x.s = y.s)), decide (x.h = y.h), decide ((x.t : Int) = (y.t : Int)), (decide (x.b = y.b) && decide (x.m = y.m))])
  ⟨⟨_, _, part_int 0 _ _ (show x.cells.toArray[0]? = some (.int .i64 x.r) from rfl) w, part_int 0 _ _ (show y.cells.toArray[0]? = some (.int .i64 y.r) from rfl) w, eql_int _ _ 9998 w⟩,
   ⟨_, _, (part_rowx 23 2 1 [.int .i64 x.r] [.int .i64 x.c, .int .i64 x.s] ([] ++ (x.h.map by8 ++ [.int .u64 (x.t : Int), .int .i64 x.b, .int .i64 x.m])) row_name rfl rfl w), (part_rowx 23 2 1 [.int .i64 y.r] [.int .i64 y.c, .int .i64 y.s] ([] ++ (y.h.map by8 ++ [.int .u64 (y.t : Int), .int .i64 y.b, .int .i64 y.m])) row_name rfl rfl w), eql_name _ _ _ _ 9997 w⟩,
   ⟨_, _, (part_rowx 25 32 3 [.int .i64 x.r, .int .i64 x.c, .int .i64 x.s] (x.h.map by8) [.int .u64 (x.t : Int), .int .i64 x.b, .int .i64 x.m] row_hash rfl (by rw [List.length_map]; exact hx) w), (part_rowx 25 32 3 [.int .i64 y.r, .int .i64 y.c, .int .i64 y.s] (y.h.map by8) [.int .u64 (y.t : Int), .int .i64 y.b, .int .i64 y.m] row_hash rfl (by rw [List.length_map]; exact hy) w), eql_hash x.h y.h hx hy 9997 w⟩,
   ⟨_, _, part_u64 35 _ _ (show x.cells.toArray[35]? = some (.int .u64 (x.t : Int)) by rw [List.getElem?_toArray]; exact post_cell [.int .i64 x.r, .int .i64 x.c, .int .i64 x.s] (x.h.map by8) [.int .u64 (x.t : Int), .int .i64 x.b, .int .i64 x.m] (by rw [List.length_map]; exact hx) 0 rfl) w, part_u64 35 _ _ (show y.cells.toArray[35]? = some (.int .u64 (y.t : Int)) by rw [List.getElem?_toArray]; exact post_cell [.int .i64 y.r, .int .i64 y.c, .int .i64 y.s] (y.h.map by8) [.int .u64 (y.t : Int), .int .i64 y.b, .int .i64 y.m] (by rw [List.length_map]; exact hy) 0 rfl) w, eql_u64 _ _ 9998 w⟩,
   ⟨_, _, (show (part 27 x.cells.toArray 36).run Tryz.prog w = .ok (.agg [.int .i64 x.b, .int .i64 x.m].toArray) w by rw [show x.cells = ([.int .i64 x.r, .int .i64 x.c, .int .i64 x.s] ++ (x.h.map by8 ++ [.int .u64 (x.t : Int)])) ++ ([.int .i64 x.b, .int .i64 x.m] ++ []) by simp [Wst.cells]]; exact part_rowx 27 2 36 _ _ _ row_sig (by simp [hx]) rfl w), (show (part 27 y.cells.toArray 36).run Tryz.prog w = .ok (.agg [.int .i64 y.b, .int .i64 y.m].toArray) w by rw [show y.cells = ([.int .i64 y.r, .int .i64 y.c, .int .i64 y.s] ++ (y.h.map by8 ++ [.int .u64 (y.t : Int)])) ++ ([.int .i64 y.b, .int .i64 y.m] ++ []) by simp [Wst.cells]]; exact part_rowx 27 2 36 _ _ _ row_sig (by simp [hy]) rfl w), eql_sig _ _ _ _ 9997 w⟩, trivial⟩
def Wen.eqB (x y : Wen) : Bool := [(decide (x.c = y.c) && decide (x.s = y.s)), decide (x.h = y.h), decide ((x.t : Int) = (y.t : Int))].all id
theorem Wen.eqB_iff (x y : Wen) : x.eqB y = true ↔ x = y := by
 obtain ⟨_, _, _, _⟩ := x
 obtain ⟨_, _, _, _⟩ := y
 simp [Wen.eqB, Wen.mk.injEq, and_assoc]
 (try omega)
set_option maxHeartbeats 1000000 in
theorem eql_Wen (x y : Wen) (hx : x.h.length = 32) (hy : y.h.length = 32) (w : World) : (Op.equalIn 10000 51 (.agg x.cells.toArray) (.agg y.cells.toArray)).run Tryz.prog w = .ok (x.eqB y) w :=
 eql_of (d := 9999) (C := x.cells.toArray) (D := y.cells.toArray) (l := [(23, 0), (25, 2), (30, 34)]) (run_equalIn_struct w 9999 51 x.cells.toArray y.cells.toArray (by kernel_rfl) (by kernel_rfl)) (by kernel_rfl)
  (bs := [(decide (x.c = y.c) && decide (x.s = y.s)), decide (x.h = y.h), decide ((x.t : Int) = (y.t : Int))])
  ⟨⟨_, _, (part_rowx 23 2 0 [] [.int .i64 x.c, .int .i64 x.s] ([] ++ (x.h.map by8 ++ [.int .u64 (x.t : Int)])) row_name rfl rfl w), (part_rowx 23 2 0 [] [.int .i64 y.c, .int .i64 y.s] ([] ++ (y.h.map by8 ++ [.int .u64 (y.t : Int)])) row_name rfl rfl w), eql_name _ _ _ _ 9997 w⟩,
   ⟨_, _, (part_rowx 25 32 2 [.int .i64 x.c, .int .i64 x.s] (x.h.map by8) [.int .u64 (x.t : Int)] row_hash rfl (by rw [List.length_map]; exact hx) w), (part_rowx 25 32 2 [.int .i64 y.c, .int .i64 y.s] (y.h.map by8) [.int .u64 (y.t : Int)] row_hash rfl (by rw [List.length_map]; exact hy) w), eql_hash x.h y.h hx hy 9997 w⟩,
   ⟨_, _, part_u64 34 _ _ (show x.cells.toArray[34]? = some (.int .u64 (x.t : Int)) by rw [List.getElem?_toArray]; exact post_cell [.int .i64 x.c, .int .i64 x.s] (x.h.map by8) [.int .u64 (x.t : Int)] (by rw [List.length_map]; exact hx) 0 rfl) w, part_u64 34 _ _ (show y.cells.toArray[34]? = some (.int .u64 (y.t : Int)) by rw [List.getElem?_toArray]; exact post_cell [.int .i64 y.c, .int .i64 y.s] (y.h.map by8) [.int .u64 (y.t : Int)] (by rw [List.length_map]; exact hy) 0 rfl) w, eql_u64 _ _ 9998 w⟩, trivial⟩
end Go.Proofs.YtdenpfcgghangaaGreat

namespace Go.Proofs.YtdenpfcgghangaaGreat
open Go.RowKit
set_option maxRecDepth 100000
theorem zi0 : i64In 0 := by unfold i64In; omega
theorem mz_ok (w : World) (S : List Nat) (q f t : Int) (hq : i64In q) (hf : i64In f) (ht : i64In t) : (mz q f t).Ok w S := by
 have b0 : mb0.Ok w S := ⟨zi0, (show 0 < 18446744073709551616 by decide), Lst.nil _, Nat.zero_le _, fun h => absurd h (show ¬ 0 < 0 by decide), Lst.nil _, Nat.zero_le _, fun h => absurd h (show ¬ 0 < 0 by decide), Lst.nil _, Nat.zero_le _, fun h => absurd h (show ¬ 0 < 0 by decide)⟩
 exact ⟨hq, hf, ht, ⟨zi0, zi0, rfl, zi0, zi0, zi0⟩, ⟨zi0, zi0, zi0, rfl, (show 0 < 18446744073709551616 by decide), zi0, zi0⟩, ⟨⟨zi0, zi0, rfl, zi0, zi0, zi0⟩, Lst.nil _, Nat.zero_le _, fun h => absurd h (show ¬ 0 < 0 by decide)⟩, ⟨zi0, zi0, zi0, rfl, (show 0 < 18446744073709551616 by decide), zi0, zi0⟩, zi0, zi0, (show 0 < 18446744073709551616 by decide),
  ⟨zi0, zi0, (show 0 < 18446744073709551616 by decide), Lst.nil _, Nat.zero_le _, fun h => absurd h (show ¬ 0 < 0 by decide), zi0, zi0⟩, ⟨zi0, zi0, zi0, zi0, b0, zi0, zi0⟩, ⟨zi0, zi0, zi0, zi0, rfl, zi0, zi0⟩, zi0, ⟨zi0, zi0, rfl, (show 0 < 18446744073709551616 by decide)⟩, ⟨zi0, By.nil _ _, (show 0 ≤ 260 by decide), fun k hk => by simp [mz, bk] at hk, fun k hk => by simp [mz, bk] at hk, rfl, (show 0 ≤ 0 by decide)⟩, ⟨zi0, zi0, zi0, zi0⟩, (show 0 ≤ 260 by decide),
  ⟨zi0, zi0, b0, Lst.nil _, Nat.zero_le _, fun h => absurd h (show ¬ 0 < 0 by decide)⟩⟩
theorem built_mgk (q : Int) : Tryz.prog.built 61 [(0, .int .i64 q)] = some (mz q 0 0).cells.toArray := by kernel_rfl
theorem mz_bytes_pos (q f t : Int) : 0 < (mz q f t).bytes.length := by
 have h : 0 < (encI (mz q f t).q).length := by unfold encI; (first | exact enc_pos _ | (split <;> first | exact enc_pos _ | simp))
 simp only [Wmg.bytes, List.length_append]
 omega
end Go.Proofs.YtdenpfcgghangaaGreat

namespace Go.Proofs.YtdenpfcgghangaaGreat
open Go.RowKit
end Go.Proofs.YtdenpfcgghangaaGreat

namespace Go.Proofs.YtdenpfcgghangaaGreat
open Go.RowKit
set_option maxRecDepth 100000
def tn0 (f t e r : Int) (tm : Nat) : Wmg := {mz 5 f t with e := e, r := r, tm := tm}
def tn1 (f t i : Int) : Wmg := {mz 11 f t with i := i}
def tn2 (f t i s : Int) (tm : Nat) : Wmg := {mz 9 f t with i := i, en := ⟨0, s, mh0, tm⟩}
def tn3 (f t r p : Int) : Wmg := {mz 8 f t with vt := ⟨1, 0, r, p, mh0, 0, 0⟩}
def tn (k : Int) (a : Wmg) : Wmg :=
 if k = 0 then tn0 (a.f % 3) (a.t % 3) (a.e % 3) (a.r % 3) (a.tm % 3)
 else if k = 1 then tn1 (a.f % 3) (a.t % 3) (a.i % 3)
 else if k = 2 then tn2 (a.f % 3) (a.t % 3) (a.i % 3) (a.en.s % 3) (a.en.t % 3)
 else tn3 (a.f % 3) (a.t % 3) (a.vt.r % 3) (a.vt.p % 3)
end Go.Proofs.YtdenpfcgghangaaGreat

namespace Go.Proofs.YtdenpfcgghangaaGreat
open Go.RowKit
set_option maxRecDepth 100000
theorem Wmg.at_len {w : World} {g : Nat} {x : Wmg} (hr : w.rangeAt g 0 x.cells) (hx : x.Len) : x.At w g := by
 unfold Wmg.cells at hr
 have t0 := ra_tail hr (k := 1) (rfl)
 have t1 := ra_tail t0 (k := 1) (rfl)
 have t2 := ra_tail t1 (k := 1) (rfl)
 have t3 := ra_tail t2 (k := 37) (Wcm.len hx.cm)
 have t4 := ra_tail t3 (k := 38) (Wst.len hx.st)
 have t5 := ra_tail t4 (k := 38) (Wce.len hx.ce)
 have t6 := ra_tail t5 (k := 38) (Wst.len hx.ak)
 have t7 := ra_tail t6 (k := 1) (rfl)
 have t8 := ra_tail t7 (k := 1) (rfl)
 have t9 := ra_tail t8 (k := 1) (rfl)
 have t10 := ra_tail t9 (k := 6) (Wpr.len x.pr)
 have t11 := ra_tail t10 (k := 11) (Wpo.len x.po)
 have t12 := ra_tail t11 (k := 38) (Wvt.len hx.vt)
 have t13 := ra_tail t12 (k := 1) (rfl)
 have t14 := ra_tail t13 (k := 35) (Wen.len hx.en)
 have t15 := ra_tail t14 (k := 34) (Wop.len hx.op)
 have t16 := ra_tail t15 (k := 4) (Wdn.len x.dn)
 have t17 := ra_tail t16 (k := 1) (rfl)
 exact ⟨ra_head hr, ra_head t0, ra_head t1, ra_head t2, ra_head t3, ra_head t4, ra_head t5, ra_head t6, ra_head t7, ra_head t8, ra_head t9, ra_head t10, ra_head t11, ra_head t12, ra_head t13, ra_head t14, ra_head t15, ra_head t16, t17⟩
structure Wmg.Tin (a : Wmg) : Prop where
 len : a.Len
 f : i64In a.f
 t : i64In a.t
 e : i64In a.e
 r : i64In a.r
 i : i64In a.i
 vr : i64In a.vt.r
 vp : i64In a.vt.p
 es : i64In a.en.s
def mz00 : Array Value := (mz 0 0 0).cells.toArray
end Go.Proofs.YtdenpfcgghangaaGreat

namespace Go.Proofs.YtdenpfcgghangaaGreat
open Go.RowKit
set_option maxRecDepth 100000
def fallsF (n : Nat) (ops : List Oper) : List Oper → List Nat → Option (List Nat)
 | [], F => some F
 | o :: r, F =>
   match o.guard with
   | some (k, true) => match (nthOp ops k).bind (·.dst) with
     | some s => match F.contains s, o.dst with
       | true, some d => match F.contains d with
         | true => none
         | false => fallsF n ops r F
       | true, none => fallsF n ops r F
       | false, _ => none
     | none => none
   | some (_, false) => none
   | none => match o.dst with
     | none => none
     | some d => match Nat.blt d n with
       | false => none
       | true => match o.op with
         | .move (.tmp c) => match F.contains c with
           | true => fallsF n ops r (d :: F)
           | false => none
         | .assign (.tmp c) => match F.contains c with
           | true => fallsF n ops r (d :: F)
           | false => none
         | .pick (.tmp c) _ (.const (.bool false)) => match F.contains c with
           | true => fallsF n ops r (d :: F)
           | false => none
         | _ => none
def AllF (T : Array Value) (F : List Nat) : Prop := ∀ s ∈ F, T[s]? = some (.bool false)
theorem AllF.mem {T : Array Value} {F : List Nat} {c : Nat} (h : AllF T F) (hc : F.contains c = true) : T[c]? = some (.bool false) := h c (by simpa using hc)
theorem AllF.out {T : Array Value} {F : List Nat} {d : Nat} {v : Value} (h : AllF T F) (hd : F.contains d = false) : AllF (T.setIfInBounds d v) F := by
 intro s hs
 have hne : d ≠ s := by
  rintro rfl
  have : F.contains d = true := by simpa using hs
  rw [this] at hd
  cases hd
 rw [Array.getElem?_setIfInBounds_ne hne]
 exact h s hs
theorem AllF.add {T : Array Value} {F : List Nat} {d : Nat} (h : AllF T F) (hd : d < T.size) : AllF (T.setIfInBounds d (.bool false)) (d :: F) := by
 intro s hs
 by_cases e : d = s
 · subst e
   rw [Array.getElem?_setIfInBounds_self_of_lt hd]
 · rw [Array.getElem?_setIfInBounds_ne e]
   rcases List.mem_cons.1 hs with rfl | hs
   · exact absurd rfl e
   · exact h s hs
theorem getD_some {T : Array Value} {c : Nat} {v : Value} (h : T[c]? = some v) : T.getD c undef = v := by
 rw [Array.getD_eq_getD_getElem?, h]; rfl
theorem wp_run' {P : Program} {o : Oper} {a : Act} {w w' : World} {K : Act → World → Prop} {Q : Exit → Act → World → Prop} {v : Value} (he : (execOp a.eval o).run P w = .ok (.value v) w') (h : K (a.put o.dst v) w') : Oper.wp P o a w K Q := by
 unfold Oper.wp
 rw [he]
 exact h
theorem wpList_fallsF {P : Program} {ops : List Oper} {Q : Exit → Act → World → Prop} {w : World} {n : Nat} {F' : List Nat} : ∀ (l : List Oper) (T : Array Value) (D : List Deferred) (F : List Nat), AllF T F → T.size = n → fallsF n ops l F = some F' →
  (∀ T', AllF T' F' → Q .normal ⟨T', D⟩ w) → wpList P ops.toArray Q l ⟨T, D⟩ w
 | [], T, D, F, hF, hn, h, hQ => by
   unfold fallsF at h
   injection h with h
   subst h
   exact hQ T hF
 | o :: r, T, D, F, hF, hn, h, hQ => by
   unfold fallsF at h
   split at h
   · rename_i k hg
     split at h
     · rename_i s hs
       have hy : ∀ b, F.contains s = b → b = true → Region.wanted o (yielded ops.toArray T) = false := by
        intro b hb hbt
        subst hbt
        have h1 := hF.mem hb
        unfold Region.wanted
        rw [hg]
        simp only
        unfold yielded
        rw [show (ops.toArray[k]?) = nthOp ops k from by rw [List.getElem?_toArray, nthOp_eq], hs]
        simp [h1]
       split at h
       · rename_i d hc hd
         split at h
         · cases h
         · rename_i hdf
           refine wpList_skip (hy _ hc rfl) ?_
           rw [hd]
           exact wpList_fallsF r _ D F (hF.out hdf) (by simpa using hn) h hQ
       · rename_i hc hd
         refine wpList_skip (hy _ hc rfl) ?_
         rw [hd]
         exact wpList_fallsF r _ D F hF hn h hQ
       · cases h
     · cases h
   · cases h
   · rename_i hg
     split at h
     · cases h
     · rename_i d hd
       split at h
       · cases h
       · rename_i hlt
         have hlt : d < T.size := by rw [hn]; simpa using hlt
         have fin : (execOp (⟨T, D⟩ : Act).eval o).run P w = .ok (.value (.bool false)) w → fallsF n ops r (d :: F) = some F' → wpList P ops.toArray Q (o :: r) ⟨T, D⟩ w := fun he h =>
          wpList_plain hg fun K hK => wp_run' he (by
           rw [hd]
           exact hK _ _ (wpList_fallsF r _ D (d :: F) (hF.add hlt) (by simpa using hn) h hQ))
         split at h
         · rename_i c ho
           split at h
           · rename_i hc
             exact fin (by simp [execOp, ho, Act.eval, hF.mem hc]) h
           · cases h
         · rename_i c ho
           split at h
           · rename_i hc
             exact fin (by simp [execOp, ho, Act.eval, hF.mem hc]) h
           · cases h
         · rename_i c x ho
           split at h
           · rename_i hc
             exact fin (by simp [execOp, ho, Act.eval, hF.mem hc, asBool]) h
           · cases h
         · cases h
theorem wpList_false {P : Program} {ops : List Oper} {Q : Exit → Act → World → Prop} {w : World} {o : Oper} {r : List Oper} {T : Array Value} {D : List Deferred} (c s n : Nat) (hw : Region.wanted o (yielded ops.toArray T) = false) (hc : T[c]? = some (.bool false)) (hn : T.size = n)
  (h : ((fallsF n ops (o :: r) [c]).map (·.contains s)) = some true)
  (hQ : ∀ T : Array Value, T.getD s undef = .bool false → Q .normal ⟨T, D⟩ w) : wpList P ops.toArray Q (o :: r) ⟨T, D⟩ w := by
 cases hr : fallsF n ops (o :: r) [c] with
 | none => rw [hr] at h; cases h
 | some F =>
   rw [hr] at h
   injection h with h
   exact wpList_fallsF _ T D [c] (fun x hx => by simp at hx; subst hx; exact hc) hn hr (fun T' hT => hQ T' (getD_some (hT.mem h)))
end Go.Proofs.YtdenpfcgghangaaGreat

namespace Go.Proofs.YtdenpfcgghangaaGreat
open Go.RowKit
set_option maxRecDepth 100000
theorem row_vtk : RowTy Tryz.prog 49 38 := ⟨by kernel_rfl, by kernel_rfl⟩
theorem row_akk : RowTy Tryz.prog 37 38 := ⟨by kernel_rfl, by kernel_rfl⟩
theorem row_pok : RowTy Tryz.prog 47 11 := ⟨by kernel_rfl, by kernel_rfl⟩
theorem row_bak : RowTy Tryz.prog 45 5 := ⟨by kernel_rfl, by kernel_rfl⟩
theorem row_stk2 : RowTy Tryz.prog 32 38 := ⟨by kernel_rfl, by kernel_rfl⟩
set_option maxHeartbeats 4000000 in
theorem votes_eq (A B : Option Addr) (n d d' : Nat) (l m : List Wvt) (w : World) (hl : Lst 38 Wvt.cells (fun _ v => v.Ok) w A n l) (hm : Lst 38 Wvt.cells (fun _ v => v.Ok) w B n m) (hlm : l.map id = m.map id) (hn : n ≤ 1000) :
  Calls Tryz.prog 62 #[.slice A n d, .slice B n d'] w fun e w' => e = .returned (.bool true) ∧ Fr [] w w' := by
 have HL := Lib.hid hl
 have HM := Lib.hid hm
 have HLM := Lib.hid hlm
 have HN := Lib.hid hn
 have hn1 : (n : Int) ≤ 9223372036854775807 := by omega
 have hnn : ((n : Int) != (n : Int)) = false := by simp
 clear hl hm hn hlm
 go_enter Tryz.func62, Tryz.ntmps62
 go_wp2_with fail
 clear hnn
 go_loopw [5] (fun i wr => ∃ j : Nat, j ≤ n ∧ i = .int .i64 j ∧ Hid (Fr [] w wr)) (fun i _ => n - (intOf i).toNat)
 case atStart => exact ⟨0, by omega, rfl, Lib.hid (Fr.refl _ _)⟩
 case round =>
  obtain ⟨j, hj, rfl, HF⟩ := hrel
  by_cases hlt : j < n
  · obtain ⟨ad, v, hA, hv, hcl, hok, hcells⟩ := HL.out.at (i := j) hlt
    obtain ⟨bd, u, hB, hu, hclu, hoku, hcellu⟩ := HM.out.at (i := j) hlt
    subst hA
    subst hB
    have HVU := Lib.hid (map_at HLM.out hv hu)
    have HCELLS : Hid (∀ i c, (Wvt.cells v)[i]? = some c → wr.cell? ((ad.add (j * 38)).add i) = some c) := Lib.hid (fun i c hc => HF.out.cell (hcells i c hc) (by simp))
    have HCELLU : Hid (∀ i c, (Wvt.cells u)[i]? = some c → wr.cell? ((bd.add (j * 38)).add i) = some c) := Lib.hid (fun i c hc => HF.out.cell (hcellu i c hc) (by simp))
    have HCL := Lib.hid hcl
    have HCLU := Lib.hid hclu
    have HOK := Lib.hid hok
    have HOKU := Lib.hid hoku
    have HJN := Lib.hid hlt
    have hj0 : (0 : Int) ≤ j := by omega
    clear hcells hcl hok hv hcellu hclu hoku hu
    have hvu : v = u := HVU.out
    subst hvu
    have HEQ : Hid (∀ W : World, (Op.equalIn 10000 49 (.agg v.cells.toArray) (.agg v.cells.toArray)).run Tryz.prog W = .ok true W) := Lib.hid (fun W => by have h := eql_Wvt v v HOK.out.h HOK.out.h W; rw [(Wvt.eqB_iff v v).2 rfl] at h; exact h)
    go_upto_region 6 with (fail)
    refine wp_region_held_drew (S := Fr [] wr) (by kernel_rfl) (Fr.drew (Fr.refl _ wr)) (fun hHeld => ?_)
    generalize wr.drew = w9 at *
    refine run_at (i := 0) (v := ?_) rfl (by kernel_rfl) (by rfl) (fun _ _ _ h => h) hHeld (fun w1 hw1 => ?_) ?_
    rotate_left 1
    · skip
      go_simp
      try first | with_reducible rfl | apply And.intro <;> rfl
    simp only [xPa, xPb, xPc, xPd, xPe]
    refine run_at (i := 1) (v := ?_) rfl (by kernel_rfl) (by rfl) (fun _ _ _ h => h) hHeld (fun w1 hw1 => ?_) ?_
    rotate_left 1
    · skip
      go_simp
      try first | with_reducible rfl | apply And.intro <;> rfl
    simp only [xPa, xPb, xPc, xPd, xPe]
    refine run_at (i := 2) (v := ?_) rfl (by kernel_rfl) (by rfl) (fun _ _ _ h => h) hHeld (fun w1 hw1 => ?_) ?_
    rotate_left 1
    · skip
      go_simp
      try first | with_reducible rfl | apply And.intro <;> rfl
    simp only [xPa, xPb, xPc, xPd, xPe]
    refine crow_at (i := 3) rfl (by kernel_rfl) (by rfl) _ _ rfl _ rfl _ (fun w1 hw1 j v hv => hw1.cell ((HCELLS.out) j v hv) (by simp)) (row_vtk.of HCL.out) (fun _ _ _ h => h) hHeld ?_
    simp only [xPa, xPb, xPc, xPd, xPe]
    refine run_at (i := 4) (v := ?_) rfl (by kernel_rfl) (by rfl) (fun _ _ _ h => h) hHeld (fun w1 hw1 => ?_) ?_
    rotate_left 1
    · skip
      go_simp
      try first | with_reducible rfl | apply And.intro <;> rfl
    simp only [xPa, xPb, xPc, xPd, xPe]
    refine run_at (i := 5) (v := ?_) rfl (by kernel_rfl) (by rfl) (fun _ _ _ h => h) hHeld (fun w1 hw1 => ?_) ?_
    rotate_left 1
    · skip
      go_simp
      try first | with_reducible rfl | apply And.intro <;> rfl
    simp only [xPa, xPb, xPc, xPd, xPe]
    refine run_at (i := 6) (v := ?_) rfl (by kernel_rfl) (by rfl) (fun _ _ _ h => h) hHeld (fun w1 hw1 => ?_) ?_
    rotate_left 1
    · skip
      go_simp
      try first | with_reducible rfl | apply And.intro <;> rfl
    simp only [xPa, xPb, xPc, xPd, xPe]
    refine crow_at (i := 7) rfl (by kernel_rfl) (by rfl) _ _ rfl _ rfl _ (fun w1 hw1 j v hv => hw1.cell ((HCELLU.out) j v hv) (by simp)) (row_vtk.of HCLU.out) (fun _ _ _ h => h) hHeld ?_
    simp only [xPa, xPb, xPc, xPd, xPe]
    refine neq_at (i := 8) rfl (by kernel_rfl) (by rfl) _ _ _ _ rfl _ _ rfl rfl _ (by kernel_rfl) (HEQ.out) (fun _ _ _ h => h) hHeld ?_
    simp only [xPa, xPb, xPc, xPd, xPe]
    refine wpAnyH_done (by kernel_rfl) ?_ _
    have HF9 : Hid (Fr [] w w9) := Lib.hid (HF.out.and hHeld (by simp))
    clear hHeld HCELLS HCL HCELLU HCLU HVU
    clear HOK HOKU
    go_wp2
    go_roundw
    case rel => exact ⟨j + 1, by have := HJN.out; omega, by go_num, HF9⟩
    case measure => have := HJN.out; simp [intOf]; omega
  · have hjn : n = j := by omega
    subst hjn
    clear hlt hj
    go_wp2
    go_ret
    exact ⟨rfl, HF.out⟩
set_option maxHeartbeats 2000000 in
theorem proposal_eq (x y : Wpo) (w : World) (hx : x.Li w []) (hy : y.Li w []) (he : x.con = y.con) (C D : List Value) (hC : x.cells = C) (hD : y.cells = D) :
  Calls Tryz.prog 59 #[.agg C.toArray, .agg D.toArray] w fun e w' => e = .returned (.bool true) ∧ Fr [] w w' := by
 obtain ⟨wa, hwa⟩ : ∃ wa, wa = (w.alloc (Obj.cells C.toArray 47)).alloc (Obj.cells D.toArray 47) := ⟨_, rfl⟩
 have hf0 : Fr [] w wa := by rw [hwa]; exact ((Fr.refl [] w).alloc _).alloc _
 have hb0 : Blk wa w.heap.size 47 x.cells.toArray := by rw [hwa, hC]; exact blk_alloc (Blk.new _ _ _)
 have hb1 : Blk wa (w.heap.size + 1) 47 y.cells.toArray := by
  have := Blk.new (w.alloc (Obj.cells C.toArray 47)) 47 D.toArray
  rw [hwa, hD]
  simpa using this
 obtain ⟨e, r, v, p, k, b, mm⟩ := x
 obtain ⟨e', r', v', p', k', b', mm'⟩ := y
 unfold Wpo.con at he
 simp only [Cpo.mk.injEq] at he
 obtain ⟨rfl, rfl, rfl, rfl, hk, rfl, rfl⟩ := he
 have hr0 := hb0.range
 have hr1 := hb1.range
 have h00 : wa.cell? ⟨w.heap.size, 0, none⟩ = some (.int .i64 e) := by have h := hr0 0 _ rfl; simpa using h
 have h10 : wa.cell? ⟨w.heap.size + 1, 0, none⟩ = some (.int .i64 e) := by have h := hr1 0 _ rfl; simpa using h
 have h01 : wa.cell? ⟨w.heap.size, 1, none⟩ = some (.int .i64 r) := by have h := hr0 1 _ rfl; simpa using h
 have h11 : wa.cell? ⟨w.heap.size + 1, 1, none⟩ = some (.int .i64 r) := by have h := hr1 1 _ rfl; simpa using h
 have h02 : wa.cell? ⟨w.heap.size, 2, none⟩ = some (.int .i64 v) := by have h := hr0 2 _ rfl; simpa using h
 have h12 : wa.cell? ⟨w.heap.size + 1, 2, none⟩ = some (.int .i64 v) := by have h := hr1 2 _ rfl; simpa using h
 have h03 : wa.cell? ⟨w.heap.size, 3, none⟩ = some (.int .i64 p) := by have h := hr0 3 _ rfl; simpa using h
 have h13 : wa.cell? ⟨w.heap.size + 1, 3, none⟩ = some (.int .i64 p) := by have h := hr1 3 _ rfl; simpa using h
 have HK0 : Hid (wa.rangeAt w.heap.size 4 k.cells) := Lib.hid (rangeAt_sub (o := 0) (xs := [.int .i64 e, .int .i64 r, .int .i64 v, .int .i64 p]) (ys := k.cells) (zs := [.int .i64 b, .int .i64 mm]) hr0)
 have HK1 : Hid (wa.rangeAt (w.heap.size + 1) 4 k'.cells) := Lib.hid (rangeAt_sub (o := 0) (xs := [.int .i64 e, .int .i64 r, .int .i64 v, .int .i64 p]) (ys := k'.cells) (zs := [.int .i64 b, .int .i64 mm]) hr1)
 have HH0 : Hid (wa.rangeAt w.heap.size 9 [.int .i64 b, .int .i64 mm]) := Lib.hid (ra_tail (o := 4) (k := 5) (ra_tail (o := 0) (k := 4) (a := [.int .i64 e, .int .i64 r, .int .i64 v, .int .i64 p]) hr0 rfl) rfl)
 have HH1 : Hid (wa.rangeAt (w.heap.size + 1) 9 [.int .i64 b, .int .i64 mm]) := Lib.hid (ra_tail (o := 4) (k := 5) (ra_tail (o := 0) (k := 4) (a := [.int .i64 e, .int .i64 r, .int .i64 v, .int .i64 p]) hr1 rfl) rfl)
 have HEQ : Hid ((Op.equalIn 10000 27 (.agg #[.int .i64 b, .int .i64 mm]) (.agg #[.int .i64 b, .int .i64 mm])).run Tryz.prog wa = .ok true wa) := Lib.hid (sig_selfd b mm 9998 wa)
 have HF0 := Lib.hid hf0
 have HWA := Lib.hid hwa
 have HX : Hid (k.Li wa []) := Lib.hid (hx.k.keep hf0 (by simp))
 have HY : Hid (k'.Li wa []) := Lib.hid (hy.k.keep hf0 (by simp))
 have HKK := Lib.hid hk
 have hee : (e == e) = true := by simp
 have hrr : (r == r) = true := by simp
 have hvv : (v == v) = true := by simp
 have hpp : (p == p) = true := by simp
 clear hwa hf0 hb0 hb1 hr0 hr1 hx hy hC hD hk
 obtain ⟨KC, hKC⟩ : ∃ KC, k.cells = KC := ⟨_, rfl⟩
 obtain ⟨KD, hKD⟩ : ∃ KD, k'.cells = KD := ⟨_, rfl⟩
 rw [hKC] at HK0
 rw [hKD] at HK1
 have HLC : Hid (KC.length = 5) := Lib.hid (by rw [← hKC]; rfl)
 have HLD : Hid (KD.length = 5) := Lib.hid (by rw [← hKD]; rfl)
 have HKC := Lib.hid hKC
 have HKD := Lib.hid hKD
 clear hKC hKD
 go_enter Tryz.func59, Tryz.ntmps59
 go_upto_region 1 with (fail)
 change Code.wp _ _ _ _ ((w.alloc (Obj.cells C.toArray 47)).alloc (Obj.cells D.toArray 47))
 rw [← HWA.out]
 go_wp2_with (first
  | (refine wpList_midg rfl 27 _ rfl w.heap.size 9 rfl [.int .i64 b, .int .i64 mm] HH0.out row_sg2 ?_)
  | (refine wpList_midg rfl 27 _ rfl (w.heap.size + 1) 9 rfl [.int .i64 b, .int .i64 mm] HH1.out row_sg2 ?_)
  | (refine wpList_midg rfl 45 _ rfl w.heap.size 4 rfl KC HK0.out (row_bak.of HLC.out) ?_)
  | (refine wpList_midg rfl 45 _ rfl (w.heap.size + 1) 4 rfl KD HK1.out (row_bak.of HLD.out) ?_)
  | (refine wpList_eqlg rfl 27 _ _ _ rfl #[.int .i64 b, .int .i64 mm] #[.int .i64 b, .int .i64 mm] rfl rfl true (by kernel_rfl) HEQ.out ?_))
 refine (batch_eq k k' wa HX.out HY.out HKK.out _ _ HKC.out HKD.out).mono ?_
 rintro e_ w1 ⟨rfl, hf1⟩
 have HF1 : Hid (Fr [] w w1) := Lib.hid (HF0.out.and hf1 (by simp))
 clear hf1 h00 h10 h01 h11 h02 h12 h03 h13 hee hrr hvv hpp
 go_wp2
 go_ret
 exact ⟨rfl, HF1.out⟩
theorem Wmg.Li.len {w : World} {S : List Nat} {x : Wmg} (h : x.Li w S) : x.Len := ⟨h.cm.h, h.st.h, h.ce.k.h, h.ak.h, h.vt.h, h.en.h, h.op.h⟩
theorem Wdc.at_k {w : World} {g o : Nat} {x : Wdc} (h : w.rangeAt g o x.cells) : w.cell? ⟨g, o, none⟩ = some (.int .i64 x.e) ∧ w.cell? ⟨g, o + 1, none⟩ = some (.int .i64 x.r) ∧ w.rangeAt g (o + 2) x.k.cells ∧ w.cell? ⟨g, o + 7, none⟩ = some (.slice x.A x.n x.d) := by
 have h2 := ra_tail (k := 2) h rfl
 exact ⟨by have h := h 0 _ rfl; simpa using h, by have h := h 1 _ rfl; simpa using h, ra_head h2, by have h := ra_tail (k := 5) h2 rfl 0 _ rfl; simpa using h⟩
def KmPost (c : Prop) (w : World) (e : Ending) (w' : World) : Prop := ∃ b : Bool, e = .returned (.bool b) ∧ (b = true ↔ c) ∧ Fr [] w w'
theorem KmPost.f {c : Prop} {w w' : World} (h : ¬ c) (hf : Fr [] w w') : KmPost c w (.returned (.bool false)) w' := ⟨false, rfl, by simp [h], hf⟩
theorem KmPost.t {c : Prop} {w w' : World} (h : c) (hf : Fr [] w w') : KmPost c w (.returned (.bool true)) w' := ⟨true, rfl, by simp [h], hf⟩
set_option maxHeartbeats 8000000 in
theorem kmsg_any (x y : Wmg) (w : World) (hx : x.Li w []) (hy : y.Li w []) (hq : x.q = y.q) (hcm : x.cm = y.cm) (hst : x.st = y.st) (hce : x.ce.con = y.ce.con) (hak : x.ak = y.ak) (hpr : x.pr.con = y.pr.con) (hpo : x.po.con = y.po.con) (hop : x.op.con = y.op.con) (hdn : x.dn = y.dn) (hrp : x.rp = y.rp) (hde : x.de.con = y.de.con)
  (C D : List Value) (hC : x.cells = C) (hD : y.cells = D) :
  Calls Tryz.prog 12 #[.agg C.toArray, .agg D.toArray] w fun e w' => KmPost (x.f = y.f ∧ x.t = y.t ∧ x.e = y.e ∧ x.r = y.r ∧ x.tm = y.tm ∧ x.vt = y.vt ∧ x.i = y.i ∧ x.en = y.en) w e w' := by
 obtain ⟨wa, hwa⟩ : ∃ wa, wa = (w.alloc (Obj.cells C.toArray 61)).alloc (Obj.cells D.toArray 61) := ⟨_, rfl⟩
 have hf0 : Fr [] w wa := by rw [hwa]; exact ((Fr.refl [] w).alloc _).alloc _
 have hb0 : Blk wa w.heap.size 61 x.cells.toArray := by rw [hwa, hC]; exact blk_alloc (Blk.new _ _ _)
 have hb1 : Blk wa (w.heap.size + 1) 61 y.cells.toArray := by
  have := Blk.new (w.alloc (Obj.cells C.toArray 61)) 61 D.toArray
  rw [hwa, hD]
  simpa using this
 obtain ⟨q, f, t, cm, st, ce, ak, e, r, tm, pr, po, vt, i, en, op, dn, rp, de⟩ := x
 obtain ⟨q', f', t', cm', st', ce', ak', e', r', tm', pr', po', vt', i', en', op', dn', rp', de'⟩ := y
 simp only at hq hcm hst hce hak hpr hpo hop hdn hrp hde
 subst hq hcm hst hak hdn hrp
 have HB0 := Lib.hid hb0
 have HB1 := Lib.hid hb1
 have HLX := Lib.hid hx.len
 have HLY := Lib.hid hy.len
 have HF0 := Lib.hid hf0
 have HWA := Lib.hid hwa
 have HX := Lib.hid hx
 have HY := Lib.hid hy
 have HCE := Lib.hid hce
 have HPR := Lib.hid hpr
 have HPO := Lib.hid hpo
 have HOP := Lib.hid hop
 have HDE := Lib.hid hde
 clear hwa hf0 hb0 hb1 hx hy hC hD hce hpr hpo hop hde
 obtain ⟨Ccm, hCcm⟩ : ∃ L, L = cm.cells := ⟨_, rfl⟩
 have HLcm : Hid (Ccm.length = 37) := Lib.hid (by rw [hCcm]; exact Wcm.len HLX.out.cm)
 have HCcm := Lib.hid hCcm
 clear hCcm
 obtain ⟨Cst, hCst⟩ : ∃ L, L = st.cells := ⟨_, rfl⟩
 have HLst : Hid (Cst.length = 38) := Lib.hid (by rw [hCst]; exact Wst.len HLX.out.st)
 have HCst := Lib.hid hCst
 clear hCst
 obtain ⟨Cce, hCce⟩ : ∃ L, L = ce.cells := ⟨_, rfl⟩
 have HLce : Hid (Cce.length = 38) := Lib.hid (by rw [hCce]; exact Wce.len HLX.out.ce)
 have HCce := Lib.hid hCce
 clear hCce
 obtain ⟨Dce, hDce⟩ : ∃ L, L = ce'.cells := ⟨_, rfl⟩
 have HMce : Hid (Dce.length = 38) := Lib.hid (by rw [hDce]; exact Wce.len HLY.out.ce)
 have HDce := Lib.hid hDce
 clear hDce
 obtain ⟨Cak, hCak⟩ : ∃ L, L = ak.cells := ⟨_, rfl⟩
 have HLak : Hid (Cak.length = 38) := Lib.hid (by rw [hCak]; exact Wst.len HLX.out.ak)
 have HCak := Lib.hid hCak
 clear hCak
 obtain ⟨Cpr, hCpr⟩ : ∃ L, L = pr.cells := ⟨_, rfl⟩
 have HLpr : Hid (Cpr.length = 6) := Lib.hid (by rw [hCpr]; exact Wpr.len _)
 have HCpr := Lib.hid hCpr
 clear hCpr
 obtain ⟨Dpr, hDpr⟩ : ∃ L, L = pr'.cells := ⟨_, rfl⟩
 have HMpr : Hid (Dpr.length = 6) := Lib.hid (by rw [hDpr]; exact Wpr.len _)
 have HDpr := Lib.hid hDpr
 clear hDpr
 obtain ⟨Cpo, hCpo⟩ : ∃ L, L = po.cells := ⟨_, rfl⟩
 have HLpo : Hid (Cpo.length = 11) := Lib.hid (by rw [hCpo]; exact Wpo.len _)
 have HCpo := Lib.hid hCpo
 clear hCpo
 obtain ⟨Dpo, hDpo⟩ : ∃ L, L = po'.cells := ⟨_, rfl⟩
 have HMpo : Hid (Dpo.length = 11) := Lib.hid (by rw [hDpo]; exact Wpo.len _)
 have HDpo := Lib.hid hDpo
 clear hDpo
 obtain ⟨Cvt, hCvt⟩ : ∃ L, L = vt.cells := ⟨_, rfl⟩
 have HLvt : Hid (Cvt.length = 38) := Lib.hid (by rw [hCvt]; exact Wvt.len HLX.out.vt)
 have HCvt := Lib.hid hCvt
 clear hCvt
 obtain ⟨Dvt, hDvt⟩ : ∃ L, L = vt'.cells := ⟨_, rfl⟩
 have HMvt : Hid (Dvt.length = 38) := Lib.hid (by rw [hDvt]; exact Wvt.len HLY.out.vt)
 have HDvt := Lib.hid hDvt
 clear hDvt
 obtain ⟨Cen, hCen⟩ : ∃ L, L = en.cells := ⟨_, rfl⟩
 have HLen : Hid (Cen.length = 35) := Lib.hid (by rw [hCen]; exact Wen.len HLX.out.en)
 have HCen := Lib.hid hCen
 clear hCen
 obtain ⟨Den, hDen⟩ : ∃ L, L = en'.cells := ⟨_, rfl⟩
 have HMen : Hid (Den.length = 35) := Lib.hid (by rw [hDen]; exact Wen.len HLY.out.en)
 have HDen := Lib.hid hDen
 clear hDen
 obtain ⟨Cop, hCop⟩ : ∃ L, L = op.cells := ⟨_, rfl⟩
 have HLop : Hid (Cop.length = 34) := Lib.hid (by rw [hCop]; exact Wop.len HLX.out.op)
 have HCop := Lib.hid hCop
 clear hCop
 obtain ⟨Dop, hDop⟩ : ∃ L, L = op'.cells := ⟨_, rfl⟩
 have HMop : Hid (Dop.length = 34) := Lib.hid (by rw [hDop]; exact Wop.len HLY.out.op)
 have HDop := Lib.hid hDop
 clear hDop
 obtain ⟨Cdn, hCdn⟩ : ∃ L, L = dn.cells := ⟨_, rfl⟩
 have HLdn : Hid (Cdn.length = 4) := Lib.hid (by rw [hCdn]; exact Wdn.len _)
 have HCdn := Lib.hid hCdn
 clear hCdn
 go_enter Tryz.func12, Tryz.ntmps12
 go_upto_region 1 with (fail)
 change Code.wp _ _ _ _ ((w.alloc (Obj.cells C.toArray 61)).alloc (Obj.cells D.toArray 61))
 rw [← HWA.out]
 have hat0 := Wmg.at_len HB0.out.range HLX.out
 have hau0 := Wmg.at_len HB1.out.range HLY.out
 have cq0 : wa.cell? ⟨w.heap.size, 0, none⟩ = some (.int .i64 (q)) := by have h := hat0.q 0 _ rfl; simpa using h
 have dq0 : wa.cell? ⟨w.heap.size + 1, 0, none⟩ = some (.int .i64 (q)) := by have h := hau0.q 0 _ rfl; simpa using h
 have cf0 : wa.cell? ⟨w.heap.size, 1, none⟩ = some (.int .i64 (f)) := by have h := hat0.f 0 _ rfl; simpa using h
 have df0 : wa.cell? ⟨w.heap.size + 1, 1, none⟩ = some (.int .i64 (f')) := by have h := hau0.f 0 _ rfl; simpa using h
 have ct0 : wa.cell? ⟨w.heap.size, 2, none⟩ = some (.int .i64 (t)) := by have h := hat0.t 0 _ rfl; simpa using h
 have dt0 : wa.cell? ⟨w.heap.size + 1, 2, none⟩ = some (.int .i64 (t')) := by have h := hau0.t 0 _ rfl; simpa using h
 have HRcm0 : Hid (wa.rangeAt w.heap.size 3 Ccm) := Lib.hid (by rw [HCcm.out]; exact hat0.cm)
 have HScm0 : Hid (wa.rangeAt (w.heap.size + 1) 3 Ccm) := Lib.hid (by rw [HCcm.out]; exact hau0.cm)
 have HRst0 : Hid (wa.rangeAt w.heap.size 40 Cst) := Lib.hid (by rw [HCst.out]; exact hat0.st)
 have HSst0 : Hid (wa.rangeAt (w.heap.size + 1) 40 Cst) := Lib.hid (by rw [HCst.out]; exact hau0.st)
 have HRce0 : Hid (wa.rangeAt w.heap.size 78 Cce) := Lib.hid (by rw [HCce.out]; exact hat0.ce)
 have HSce0 : Hid (wa.rangeAt (w.heap.size + 1) 78 Dce) := Lib.hid (by rw [HDce.out]; exact hau0.ce)
 have HQcm : Hid ((Op.equalIn 10000 29 (.agg Ccm.toArray) (.agg Ccm.toArray)).run Tryz.prog wa = .ok true wa) := Lib.hid (by rw [HCcm.out]; exact eq_Wcm cm HLX.out.cm wa)
 have HQst : Hid ((Op.equalIn 10000 32 (.agg Cst.toArray) (.agg Cst.toArray)).run Tryz.prog wa = .ok true wa) := Lib.hid (by rw [HCst.out]; have h := eql_Wst st st HLX.out.st HLX.out.st wa; rw [(Wst.eqB_iff st st).2 rfl] at h; exact h)
 clear hat0 hau0
 have gq : ((q : Int) == q) = true := by simp
 by_cases hf : f = f'
 case neg =>
  have gf : ((f : Int) == (f' : Int)) = false := by simp; omega
  iterate 27 (first
    | (show wpList _ _ _ _ _ _; refine wpList_midg (by kernel_rfl) 29 _ rfl w.heap.size 3 rfl Ccm HRcm0.out (row_cmt.of HLcm.out) ?_)
    | (show wpList _ _ _ _ _ _; refine wpList_midg (by kernel_rfl) 29 _ rfl (w.heap.size + 1) 3 rfl Ccm HScm0.out (row_cmt.of HLcm.out) ?_)
    | (show wpList _ _ _ _ _ _; refine wpList_midg (by kernel_rfl) 32 _ rfl w.heap.size 40 rfl Cst HRst0.out (row_stk2.of HLst.out) ?_)
    | (show wpList _ _ _ _ _ _; refine wpList_midg (by kernel_rfl) 32 _ rfl (w.heap.size + 1) 40 rfl Cst HSst0.out (row_stk2.of HLst.out) ?_)
    | (show wpList _ _ _ _ _ _; refine wpList_midg (by kernel_rfl) 35 _ rfl w.heap.size 78 rfl Cce HRce0.out (row_crt.of HLce.out) ?_)
    | (show wpList _ _ _ _ _ _; refine wpList_midg (by kernel_rfl) 35 _ rfl (w.heap.size + 1) 78 rfl Dce HSce0.out (row_crt.of HMce.out) ?_)
    | (show wpList _ _ _ _ _ _; refine wpList_eqlg (by kernel_rfl) 29 _ _ _ rfl Ccm.toArray Ccm.toArray rfl rfl true (by kernel_rfl) HQcm.out ?_)
    | (show wpList _ _ _ _ _ _; refine wpList_eqlg (by kernel_rfl) 32 _ _ _ rfl Cst.toArray Cst.toArray rfl rfl true (by kernel_rfl) HQst.out ?_)
    | go_values
    | go_skip
    | go_guarded
    | go_step
    | go_upon
    | go_back)
  refine wpList_false 17 4 _ (by kernel_rfl) rfl rfl (by kernel_rfl) ?_
  intro T hT
  go_wp2
  go_ret
  rw [hT]
  exact KmPost.f (by simp [hf]) HF0.out
 have gf : ((f : Int) == (f' : Int)) = true := by simp; omega
 by_cases ht : t = t'
 case neg =>
  have gt : ((t : Int) == (t' : Int)) = false := by simp; omega
  iterate 41 (first
    | (show wpList _ _ _ _ _ _; refine wpList_midg (by kernel_rfl) 29 _ rfl w.heap.size 3 rfl Ccm HRcm0.out (row_cmt.of HLcm.out) ?_)
    | (show wpList _ _ _ _ _ _; refine wpList_midg (by kernel_rfl) 29 _ rfl (w.heap.size + 1) 3 rfl Ccm HScm0.out (row_cmt.of HLcm.out) ?_)
    | (show wpList _ _ _ _ _ _; refine wpList_midg (by kernel_rfl) 32 _ rfl w.heap.size 40 rfl Cst HRst0.out (row_stk2.of HLst.out) ?_)
    | (show wpList _ _ _ _ _ _; refine wpList_midg (by kernel_rfl) 32 _ rfl (w.heap.size + 1) 40 rfl Cst HSst0.out (row_stk2.of HLst.out) ?_)
    | (show wpList _ _ _ _ _ _; refine wpList_midg (by kernel_rfl) 35 _ rfl w.heap.size 78 rfl Cce HRce0.out (row_crt.of HLce.out) ?_)
    | (show wpList _ _ _ _ _ _; refine wpList_midg (by kernel_rfl) 35 _ rfl (w.heap.size + 1) 78 rfl Dce HSce0.out (row_crt.of HMce.out) ?_)
    | (show wpList _ _ _ _ _ _; refine wpList_eqlg (by kernel_rfl) 29 _ _ _ rfl Ccm.toArray Ccm.toArray rfl rfl true (by kernel_rfl) HQcm.out ?_)
    | (show wpList _ _ _ _ _ _; refine wpList_eqlg (by kernel_rfl) 32 _ _ _ rfl Cst.toArray Cst.toArray rfl rfl true (by kernel_rfl) HQst.out ?_)
    | go_values
    | go_skip
    | go_guarded
    | go_step
    | go_upon
    | go_back)
  refine wpList_false 24 4 _ (by kernel_rfl) rfl rfl (by kernel_rfl) ?_
  intro T hT
  go_wp2
  go_ret
  rw [hT]
  exact KmPost.f (by simp [ht]) HF0.out
 have gt : ((t : Int) == (t' : Int)) = true := by simp; omega
 repeat (first
   | (show wpList _ _ _ _ _ _; refine wpList_midg (by kernel_rfl) 29 _ rfl w.heap.size 3 rfl Ccm HRcm0.out (row_cmt.of HLcm.out) ?_)
   | (show wpList _ _ _ _ _ _; refine wpList_midg (by kernel_rfl) 29 _ rfl (w.heap.size + 1) 3 rfl Ccm HScm0.out (row_cmt.of HLcm.out) ?_)
   | (show wpList _ _ _ _ _ _; refine wpList_midg (by kernel_rfl) 32 _ rfl w.heap.size 40 rfl Cst HRst0.out (row_stk2.of HLst.out) ?_)
   | (show wpList _ _ _ _ _ _; refine wpList_midg (by kernel_rfl) 32 _ rfl (w.heap.size + 1) 40 rfl Cst HSst0.out (row_stk2.of HLst.out) ?_)
   | (show wpList _ _ _ _ _ _; refine wpList_midg (by kernel_rfl) 35 _ rfl w.heap.size 78 rfl Cce HRce0.out (row_crt.of HLce.out) ?_)
   | (show wpList _ _ _ _ _ _; refine wpList_midg (by kernel_rfl) 35 _ rfl (w.heap.size + 1) 78 rfl Dce HSce0.out (row_crt.of HMce.out) ?_)
   | (show wpList _ _ _ _ _ _; refine wpList_eqlg (by kernel_rfl) 29 _ _ _ rfl Ccm.toArray Ccm.toArray rfl rfl true (by kernel_rfl) HQcm.out ?_)
   | (show wpList _ _ _ _ _ _; refine wpList_eqlg (by kernel_rfl) 32 _ _ _ rfl Cst.toArray Cst.toArray rfl rfl true (by kernel_rfl) HQst.out ?_)
   | go_values
   | go_skip
   | go_guarded
   | go_step
   | go_upon
   | go_back)
 refine (cert_eq ce ce' wa (HX.out.ce.keep HF0.out (by simp)) (HY.out.ce.keep HF0.out (by simp)) HCE.out _ _ HCce.out.symm HDce.out.symm).mono ?_
 rintro e_ w1 ⟨rfl, hf1⟩
 have HF1 : Hid (Fr [] w w1) := Lib.hid (HF0.out.and hf1 (by simp))
 have HB01 := Lib.hid (HB0.out.keep hf1 (by simp))
 have HB11 := Lib.hid (HB1.out.keep hf1 (by simp))
 clear hf1 cq0 dq0 cf0 df0 ct0 dt0 gq gf gt HRcm0 HScm0 HRst0 HSst0 HRce0 HSce0 HQcm HQst
 go_simp
 have hat1 := Wmg.at_len HB01.out.range HLX.out
 have hau1 := Wmg.at_len HB11.out.range HLY.out
 have ce1 : w1.cell? ⟨w.heap.size, 154, none⟩ = some (.int .i64 (e)) := by have h := hat1.e 0 _ rfl; simpa using h
 have de1 : w1.cell? ⟨w.heap.size + 1, 154, none⟩ = some (.int .i64 (e')) := by have h := hau1.e 0 _ rfl; simpa using h
 have cr1 : w1.cell? ⟨w.heap.size, 155, none⟩ = some (.int .i64 (r)) := by have h := hat1.r 0 _ rfl; simpa using h
 have dr1 : w1.cell? ⟨w.heap.size + 1, 155, none⟩ = some (.int .i64 (r')) := by have h := hau1.r 0 _ rfl; simpa using h
 have ctm1 : w1.cell? ⟨w.heap.size, 156, none⟩ = some (.int .u64 (tm : Int)) := by have h := hat1.tm 0 _ rfl; simpa using h
 have dtm1 : w1.cell? ⟨w.heap.size + 1, 156, none⟩ = some (.int .u64 (tm' : Int)) := by have h := hau1.tm 0 _ rfl; simpa using h
 have HRak1 : Hid (w1.rangeAt w.heap.size 116 Cak) := Lib.hid (by rw [HCak.out]; exact hat1.ak)
 have HSak1 : Hid (w1.rangeAt (w.heap.size + 1) 116 Cak) := Lib.hid (by rw [HCak.out]; exact hau1.ak)
 have HRpr1 : Hid (w1.rangeAt w.heap.size 157 Cpr) := Lib.hid (by rw [HCpr.out]; exact hat1.pr)
 have HSpr1 : Hid (w1.rangeAt (w.heap.size + 1) 157 Dpr) := Lib.hid (by rw [HDpr.out]; exact hau1.pr)
 have HQak : Hid ((Op.equalIn 10000 37 (.agg Cak.toArray) (.agg Cak.toArray)).run Tryz.prog w1 = .ok true w1) := Lib.hid (by rw [HCak.out]; have h := eql_Wak ak ak HLX.out.ak HLX.out.ak w1; rw [(Wst.eqB_iff ak ak).2 rfl] at h; exact h)
 clear hat1 hau1
 by_cases he : e = e'
 case neg =>
  have ge : ((e : Int) == (e' : Int)) = false := by simp; omega
  iterate 30 (first
    | (show wpList _ _ _ _ _ _; refine wpList_midg (by kernel_rfl) 37 _ rfl w.heap.size 116 rfl Cak HRak1.out (row_akk.of HLak.out) ?_)
    | (show wpList _ _ _ _ _ _; refine wpList_midg (by kernel_rfl) 37 _ rfl (w.heap.size + 1) 116 rfl Cak HSak1.out (row_akk.of HLak.out) ?_)
    | (show wpList _ _ _ _ _ _; refine wpList_midg (by kernel_rfl) 40 _ rfl w.heap.size 157 rfl Cpr HRpr1.out (row_prm.of HLpr.out) ?_)
    | (show wpList _ _ _ _ _ _; refine wpList_midg (by kernel_rfl) 40 _ rfl (w.heap.size + 1) 157 rfl Dpr HSpr1.out (row_prm.of HMpr.out) ?_)
    | (show wpList _ _ _ _ _ _; refine wpList_eqlg (by kernel_rfl) 37 _ _ _ rfl Cak.toArray Cak.toArray rfl rfl true (by kernel_rfl) HQak.out ?_)
    | go_values
    | go_skip
    | go_guarded
    | go_step
    | go_upon
    | go_back)
  refine wpList_false 59 4 _ (by kernel_rfl) rfl rfl (by kernel_rfl) ?_
  intro T hT
  go_wp2
  go_ret
  rw [hT]
  exact KmPost.f (by simp [he]) HF1.out
 have ge : ((e : Int) == (e' : Int)) = true := by simp; omega
 by_cases hr : r = r'
 case neg =>
  have gr : ((r : Int) == (r' : Int)) = false := by simp; omega
  iterate 44 (first
    | (show wpList _ _ _ _ _ _; refine wpList_midg (by kernel_rfl) 37 _ rfl w.heap.size 116 rfl Cak HRak1.out (row_akk.of HLak.out) ?_)
    | (show wpList _ _ _ _ _ _; refine wpList_midg (by kernel_rfl) 37 _ rfl (w.heap.size + 1) 116 rfl Cak HSak1.out (row_akk.of HLak.out) ?_)
    | (show wpList _ _ _ _ _ _; refine wpList_midg (by kernel_rfl) 40 _ rfl w.heap.size 157 rfl Cpr HRpr1.out (row_prm.of HLpr.out) ?_)
    | (show wpList _ _ _ _ _ _; refine wpList_midg (by kernel_rfl) 40 _ rfl (w.heap.size + 1) 157 rfl Dpr HSpr1.out (row_prm.of HMpr.out) ?_)
    | (show wpList _ _ _ _ _ _; refine wpList_eqlg (by kernel_rfl) 37 _ _ _ rfl Cak.toArray Cak.toArray rfl rfl true (by kernel_rfl) HQak.out ?_)
    | go_values
    | go_skip
    | go_guarded
    | go_step
    | go_upon
    | go_back)
  refine wpList_false 66 4 _ (by kernel_rfl) rfl rfl (by kernel_rfl) ?_
  intro T hT
  go_wp2
  go_ret
  rw [hT]
  exact KmPost.f (by simp [hr]) HF1.out
 have gr : ((r : Int) == (r' : Int)) = true := by simp; omega
 by_cases htm : tm = tm'
 case neg =>
  have gtm : ((tm : Int) == (tm' : Int)) = false := by simp; omega
  iterate 58 (first
    | (show wpList _ _ _ _ _ _; refine wpList_midg (by kernel_rfl) 37 _ rfl w.heap.size 116 rfl Cak HRak1.out (row_akk.of HLak.out) ?_)
    | (show wpList _ _ _ _ _ _; refine wpList_midg (by kernel_rfl) 37 _ rfl (w.heap.size + 1) 116 rfl Cak HSak1.out (row_akk.of HLak.out) ?_)
    | (show wpList _ _ _ _ _ _; refine wpList_midg (by kernel_rfl) 40 _ rfl w.heap.size 157 rfl Cpr HRpr1.out (row_prm.of HLpr.out) ?_)
    | (show wpList _ _ _ _ _ _; refine wpList_midg (by kernel_rfl) 40 _ rfl (w.heap.size + 1) 157 rfl Dpr HSpr1.out (row_prm.of HMpr.out) ?_)
    | (show wpList _ _ _ _ _ _; refine wpList_eqlg (by kernel_rfl) 37 _ _ _ rfl Cak.toArray Cak.toArray rfl rfl true (by kernel_rfl) HQak.out ?_)
    | go_values
    | go_skip
    | go_guarded
    | go_step
    | go_upon
    | go_back)
  refine wpList_false 73 4 _ (by kernel_rfl) rfl rfl (by kernel_rfl) ?_
  intro T hT
  go_wp2
  go_ret
  rw [hT]
  exact KmPost.f (by simp [htm]) HF1.out
 have gtm : ((tm : Int) == (tm' : Int)) = true := by simp; omega
 repeat (first
   | (show wpList _ _ _ _ _ _; refine wpList_midg (by kernel_rfl) 37 _ rfl w.heap.size 116 rfl Cak HRak1.out (row_akk.of HLak.out) ?_)
   | (show wpList _ _ _ _ _ _; refine wpList_midg (by kernel_rfl) 37 _ rfl (w.heap.size + 1) 116 rfl Cak HSak1.out (row_akk.of HLak.out) ?_)
   | (show wpList _ _ _ _ _ _; refine wpList_midg (by kernel_rfl) 40 _ rfl w.heap.size 157 rfl Cpr HRpr1.out (row_prm.of HLpr.out) ?_)
   | (show wpList _ _ _ _ _ _; refine wpList_midg (by kernel_rfl) 40 _ rfl (w.heap.size + 1) 157 rfl Dpr HSpr1.out (row_prm.of HMpr.out) ?_)
   | (show wpList _ _ _ _ _ _; refine wpList_eqlg (by kernel_rfl) 37 _ _ _ rfl Cak.toArray Cak.toArray rfl rfl true (by kernel_rfl) HQak.out ?_)
   | go_values
   | go_skip
   | go_guarded
   | go_step
   | go_upon
   | go_back)
 refine (promise_eq pr pr' w1 (HX.out.pr.keep HF1.out (by simp)) (HY.out.pr.keep HF1.out (by simp)) HPR.out _ _ HCpr.out.symm HDpr.out.symm).mono ?_
 rintro e_ w2 ⟨rfl, hf2⟩
 have HF2 : Hid (Fr [] w w2) := Lib.hid (HF1.out.and hf2 (by simp))
 have HB02 := Lib.hid (HB01.out.keep hf2 (by simp))
 have HB12 := Lib.hid (HB11.out.keep hf2 (by simp))
 clear hf2 ce1 de1 cr1 dr1 ctm1 dtm1 ge gr gtm HRak1 HSak1 HRpr1 HSpr1 HQak
 go_simp
 have hat2 := Wmg.at_len HB02.out.range HLX.out
 have hau2 := Wmg.at_len HB12.out.range HLY.out
 have HRpo2 : Hid (w2.rangeAt w.heap.size 163 Cpo) := Lib.hid (by rw [HCpo.out]; exact hat2.po)
 have HSpo2 : Hid (w2.rangeAt (w.heap.size + 1) 163 Dpo) := Lib.hid (by rw [HDpo.out]; exact hau2.po)
 clear hat2 hau2
 repeat (first
   | (show wpList _ _ _ _ _ _; refine wpList_midg (by kernel_rfl) 47 _ rfl w.heap.size 163 rfl Cpo HRpo2.out (row_pok.of HLpo.out) ?_)
   | (show wpList _ _ _ _ _ _; refine wpList_midg (by kernel_rfl) 47 _ rfl (w.heap.size + 1) 163 rfl Dpo HSpo2.out (row_pok.of HMpo.out) ?_)
   | go_values
   | go_skip
   | go_guarded
   | go_step
   | go_upon
   | go_back)
 refine (proposal_eq po po' w2 (HX.out.po.keep HF2.out (by simp)) (HY.out.po.keep HF2.out (by simp)) HPO.out _ _ HCpo.out.symm HDpo.out.symm).mono ?_
 rintro e_ w3 ⟨rfl, hf3⟩
 have HF3 : Hid (Fr [] w w3) := Lib.hid (HF2.out.and hf3 (by simp))
 have HB03 := Lib.hid (HB02.out.keep hf3 (by simp))
 have HB13 := Lib.hid (HB12.out.keep hf3 (by simp))
 clear hf3 HRpo2 HSpo2
 go_simp
 have hat3 := Wmg.at_len HB03.out.range HLX.out
 have hau3 := Wmg.at_len HB13.out.range HLY.out
 have ci3 : w3.cell? ⟨w.heap.size, 212, none⟩ = some (.int .i64 (i)) := by have h := hat3.i 0 _ rfl; simpa using h
 have di3 : w3.cell? ⟨w.heap.size + 1, 212, none⟩ = some (.int .i64 (i')) := by have h := hau3.i 0 _ rfl; simpa using h
 have HRvt3 : Hid (w3.rangeAt w.heap.size 174 Cvt) := Lib.hid (by rw [HCvt.out]; exact hat3.vt)
 have HSvt3 : Hid (w3.rangeAt (w.heap.size + 1) 174 Dvt) := Lib.hid (by rw [HDvt.out]; exact hau3.vt)
 have HRen3 : Hid (w3.rangeAt w.heap.size 213 Cen) := Lib.hid (by rw [HCen.out]; exact hat3.en)
 have HSen3 : Hid (w3.rangeAt (w.heap.size + 1) 213 Den) := Lib.hid (by rw [HDen.out]; exact hau3.en)
 have HRop3 : Hid (w3.rangeAt w.heap.size 248 Cop) := Lib.hid (by rw [HCop.out]; exact hat3.op)
 have HSop3 : Hid (w3.rangeAt (w.heap.size + 1) 248 Dop) := Lib.hid (by rw [HDop.out]; exact hau3.op)
 clear hat3 hau3
 have HQvt : Hid ((Op.equalIn 10000 49 (.agg Cvt.toArray) (.agg Dvt.toArray)).run Tryz.prog w3 = .ok (vt.eqB vt') w3) := Lib.hid (by rw [HCvt.out, HDvt.out]; exact eql_Wvt vt vt' HLX.out.vt HLY.out.vt w3)
 have HQen : Hid ((Op.equalIn 10000 51 (.agg Cen.toArray) (.agg Den.toArray)).run Tryz.prog w3 = .ok (en.eqB en') w3) := Lib.hid (by rw [HCen.out, HDen.out]; exact eql_Wen en en' HLX.out.en HLY.out.en w3)
 obtain ⟨bv, hbv⟩ : ∃ bv, bv = vt.eqB vt' := ⟨_, rfl⟩
 rw [← hbv] at HQvt
 have HBV : Hid (bv = true ↔ vt = vt') := Lib.hid (by rw [hbv]; exact Wvt.eqB_iff _ _)
 clear hbv
 obtain ⟨bn, hbn⟩ : ∃ bn, bn = en.eqB en' := ⟨_, rfl⟩
 rw [← hbn] at HQen
 have HBN : Hid (bn = true ↔ en = en') := Lib.hid (by rw [hbn]; exact Wen.eqB_iff _ _)
 clear hbn
 cases bv
 case false =>
  iterate 16 (first
    | (show wpList _ _ _ _ _ _; refine wpList_midg (by kernel_rfl) 49 _ rfl w.heap.size 174 rfl Cvt HRvt3.out (row_vtk.of HLvt.out) ?_)
    | (show wpList _ _ _ _ _ _; refine wpList_midg (by kernel_rfl) 49 _ rfl (w.heap.size + 1) 174 rfl Dvt HSvt3.out (row_vtk.of HMvt.out) ?_)
    | (show wpList _ _ _ _ _ _; refine wpList_midg (by kernel_rfl) 51 _ rfl w.heap.size 213 rfl Cen HRen3.out (row_ent.of HLen.out) ?_)
    | (show wpList _ _ _ _ _ _; refine wpList_midg (by kernel_rfl) 51 _ rfl (w.heap.size + 1) 213 rfl Den HSen3.out (row_ent.of HMen.out) ?_)
    | (show wpList _ _ _ _ _ _; refine wpList_midg (by kernel_rfl) 54 _ rfl w.heap.size 248 rfl Cop HRop3.out (row_opS.of HLop.out) ?_)
    | (show wpList _ _ _ _ _ _; refine wpList_midg (by kernel_rfl) 54 _ rfl (w.heap.size + 1) 248 rfl Dop HSop3.out (row_opS.of HMop.out) ?_)
    | (show wpList _ _ _ _ _ _; refine wpList_eqlg (by kernel_rfl) 49 _ _ _ rfl Cvt.toArray Dvt.toArray rfl rfl false (by kernel_rfl) HQvt.out ?_)
    | (show wpList _ _ _ _ _ _; refine wpList_eqlg (by kernel_rfl) 51 _ _ _ rfl Cen.toArray Den.toArray rfl rfl bn (by kernel_rfl) HQen.out ?_)
    | go_values
    | go_skip
    | go_guarded
    | go_step
    | go_upon
    | go_back)
  refine wpList_false 94 4 _ (by kernel_rfl) rfl rfl (by kernel_rfl) ?_
  intro T hT
  go_wp2
  go_ret
  rw [hT]
  exact KmPost.f (by have h := HBV.out; simp at h; simp [h]) HF3.out
 by_cases hi : i = i'
 case neg =>
  have gi : ((i : Int) == (i' : Int)) = false := by simp; omega
  iterate 30 (first
    | (show wpList _ _ _ _ _ _; refine wpList_midg (by kernel_rfl) 49 _ rfl w.heap.size 174 rfl Cvt HRvt3.out (row_vtk.of HLvt.out) ?_)
    | (show wpList _ _ _ _ _ _; refine wpList_midg (by kernel_rfl) 49 _ rfl (w.heap.size + 1) 174 rfl Dvt HSvt3.out (row_vtk.of HMvt.out) ?_)
    | (show wpList _ _ _ _ _ _; refine wpList_midg (by kernel_rfl) 51 _ rfl w.heap.size 213 rfl Cen HRen3.out (row_ent.of HLen.out) ?_)
    | (show wpList _ _ _ _ _ _; refine wpList_midg (by kernel_rfl) 51 _ rfl (w.heap.size + 1) 213 rfl Den HSen3.out (row_ent.of HMen.out) ?_)
    | (show wpList _ _ _ _ _ _; refine wpList_midg (by kernel_rfl) 54 _ rfl w.heap.size 248 rfl Cop HRop3.out (row_opS.of HLop.out) ?_)
    | (show wpList _ _ _ _ _ _; refine wpList_midg (by kernel_rfl) 54 _ rfl (w.heap.size + 1) 248 rfl Dop HSop3.out (row_opS.of HMop.out) ?_)
    | (show wpList _ _ _ _ _ _; refine wpList_eqlg (by kernel_rfl) 49 _ _ _ rfl Cvt.toArray Dvt.toArray rfl rfl true (by kernel_rfl) HQvt.out ?_)
    | (show wpList _ _ _ _ _ _; refine wpList_eqlg (by kernel_rfl) 51 _ _ _ rfl Cen.toArray Den.toArray rfl rfl bn (by kernel_rfl) HQen.out ?_)
    | go_values
    | go_skip
    | go_guarded
    | go_step
    | go_upon
    | go_back)
  refine wpList_false 101 4 _ (by kernel_rfl) rfl rfl (by kernel_rfl) ?_
  intro T hT
  go_wp2
  go_ret
  rw [hT]
  exact KmPost.f (by simp [hi]) HF3.out
 have gi : ((i : Int) == (i' : Int)) = true := by simp; omega
 cases bn
 case false =>
  iterate 41 (first
    | (show wpList _ _ _ _ _ _; refine wpList_midg (by kernel_rfl) 49 _ rfl w.heap.size 174 rfl Cvt HRvt3.out (row_vtk.of HLvt.out) ?_)
    | (show wpList _ _ _ _ _ _; refine wpList_midg (by kernel_rfl) 49 _ rfl (w.heap.size + 1) 174 rfl Dvt HSvt3.out (row_vtk.of HMvt.out) ?_)
    | (show wpList _ _ _ _ _ _; refine wpList_midg (by kernel_rfl) 51 _ rfl w.heap.size 213 rfl Cen HRen3.out (row_ent.of HLen.out) ?_)
    | (show wpList _ _ _ _ _ _; refine wpList_midg (by kernel_rfl) 51 _ rfl (w.heap.size + 1) 213 rfl Den HSen3.out (row_ent.of HMen.out) ?_)
    | (show wpList _ _ _ _ _ _; refine wpList_midg (by kernel_rfl) 54 _ rfl w.heap.size 248 rfl Cop HRop3.out (row_opS.of HLop.out) ?_)
    | (show wpList _ _ _ _ _ _; refine wpList_midg (by kernel_rfl) 54 _ rfl (w.heap.size + 1) 248 rfl Dop HSop3.out (row_opS.of HMop.out) ?_)
    | (show wpList _ _ _ _ _ _; refine wpList_eqlg (by kernel_rfl) 49 _ _ _ rfl Cvt.toArray Dvt.toArray rfl rfl true (by kernel_rfl) HQvt.out ?_)
    | (show wpList _ _ _ _ _ _; refine wpList_eqlg (by kernel_rfl) 51 _ _ _ rfl Cen.toArray Den.toArray rfl rfl false (by kernel_rfl) HQen.out ?_)
    | go_values
    | go_skip
    | go_guarded
    | go_step
    | go_upon
    | go_back)
  refine wpList_false 108 4 _ (by kernel_rfl) rfl rfl (by kernel_rfl) ?_
  intro T hT
  go_wp2
  go_ret
  rw [hT]
  exact KmPost.f (by have h := HBN.out; simp at h; simp [h]) HF3.out
 repeat (first
   | (show wpList _ _ _ _ _ _; refine wpList_midg (by kernel_rfl) 49 _ rfl w.heap.size 174 rfl Cvt HRvt3.out (row_vtk.of HLvt.out) ?_)
   | (show wpList _ _ _ _ _ _; refine wpList_midg (by kernel_rfl) 49 _ rfl (w.heap.size + 1) 174 rfl Dvt HSvt3.out (row_vtk.of HMvt.out) ?_)
   | (show wpList _ _ _ _ _ _; refine wpList_midg (by kernel_rfl) 51 _ rfl w.heap.size 213 rfl Cen HRen3.out (row_ent.of HLen.out) ?_)
   | (show wpList _ _ _ _ _ _; refine wpList_midg (by kernel_rfl) 51 _ rfl (w.heap.size + 1) 213 rfl Den HSen3.out (row_ent.of HMen.out) ?_)
   | (show wpList _ _ _ _ _ _; refine wpList_midg (by kernel_rfl) 54 _ rfl w.heap.size 248 rfl Cop HRop3.out (row_opS.of HLop.out) ?_)
   | (show wpList _ _ _ _ _ _; refine wpList_midg (by kernel_rfl) 54 _ rfl (w.heap.size + 1) 248 rfl Dop HSop3.out (row_opS.of HMop.out) ?_)
   | (show wpList _ _ _ _ _ _; refine wpList_eqlg (by kernel_rfl) 49 _ _ _ rfl Cvt.toArray Dvt.toArray rfl rfl true (by kernel_rfl) HQvt.out ?_)
   | (show wpList _ _ _ _ _ _; refine wpList_eqlg (by kernel_rfl) 51 _ _ _ rfl Cen.toArray Den.toArray rfl rfl true (by kernel_rfl) HQen.out ?_)
   | go_values
   | go_skip
   | go_guarded
   | go_step
   | go_upon
   | go_back)
 refine (opening_eq op op' w3 (HX.out.op.keep HF3.out (by simp)) (HY.out.op.keep HF3.out (by simp)) HOP.out _ _ HCop.out.symm HDop.out.symm).mono ?_
 rintro e_ w4 ⟨rfl, hf4⟩
 have HF4 : Hid (Fr [] w w4) := Lib.hid (HF3.out.and hf4 (by simp))
 have HB04 := Lib.hid (HB03.out.keep hf4 (by simp))
 have HB14 := Lib.hid (HB13.out.keep hf4 (by simp))
 clear hf4 ci3 di3 gi HRvt3 HSvt3 HRen3 HSen3 HRop3 HSop3 HQvt HQen
 go_simp
 have hvt := HBV.out.1 rfl
 have hen := HBN.out.1 rfl
 obtain ⟨ze, zr, zk, zA, zn, zd, zl⟩ := de
 obtain ⟨ze', zr', zk', zA', zn', zd', zl'⟩ := de'
 have hde := HDE.out
 unfold Wdc.con at hde
 simp only [Cdc.mk.injEq] at hde
 obtain ⟨rfl, rfl, hzk, rfl⟩ := hde
 have hzn : zn' = zn := HY.out.de.l.1.symm.trans HX.out.de.l.1
 subst hzn
 have HZK := Lib.hid hzk
 have HALL : Hid (f = f' ∧ t = t' ∧ e = e' ∧ r = r' ∧ tm = tm' ∧ vt = vt' ∧ i = i' ∧ en = en') := Lib.hid ⟨hf, ht, he, hr, htm, hvt, hi, hen⟩
 clear hzk hf ht he hr htm hvt hi hen
 have hat4 := Wmg.at_len HB04.out.range HLX.out
 have hau4 := Wmg.at_len HB14.out.range HLY.out
 have HRdn4 : Hid (w4.rangeAt w.heap.size 282 Cdn) := Lib.hid (by rw [HCdn.out]; exact hat4.dn)
 have HSdn4 : Hid (w4.rangeAt (w.heap.size + 1) 282 Cdn) := Lib.hid (by rw [HCdn.out]; exact hau4.dn)
 have crp4 : w4.cell? ⟨w.heap.size, 286, none⟩ = some (.string ⟨rp.toArray⟩) := by have h := hat4.rp 0 _ rfl; simpa using h
 have drp4 : w4.cell? ⟨w.heap.size + 1, 286, none⟩ = some (.string ⟨rp.toArray⟩) := by have h := hau4.rp 0 _ rfl; simpa using h
 obtain ⟨z0, z1, z2, z3⟩ := Wdc.at_k hat4.de
 obtain ⟨y0, y1, y2, y3⟩ := Wdc.at_k hau4.de
 simp only [Nat.reduceAdd] at z1 z2 z3 y1 y2 y3
 have HZ2 := Lib.hid z2
 have HY2 := Lib.hid y2
 have HZ3 := Lib.hid z3
 have HY3 := Lib.hid y3
 clear z2 z3 y2 y3
 have HQdn : Hid ((Op.equalIn 10000 56 (.agg Cdn.toArray) (.agg Cdn.toArray)).run Tryz.prog w4 = .ok true w4) := Lib.hid (by rw [HCdn.out]; have h := eql_Wdn dn dn w4; rw [(Wdn.eqB_iff dn dn).2 rfl] at h; exact h)
 have gze : (ze == ze) = true := by simp
 have gzr : (zr == zr) = true := by simp
 obtain ⟨RP, hRP⟩ : ∃ RP : ByteArray, RP = ⟨rp.toArray⟩ := ⟨_, rfl⟩
 rw [← hRP] at crp4 drp4
 clear hat4 hau4 hRP
 repeat (first
   | (show wpList _ _ _ _ _ _; refine wpList_midg (by kernel_rfl) 56 _ rfl w.heap.size 282 rfl Cdn HRdn4.out (row_dnS.of HLdn.out) ?_)
   | (show wpList _ _ _ _ _ _; refine wpList_midg (by kernel_rfl) 56 _ rfl (w.heap.size + 1) 282 rfl Cdn HSdn4.out (row_dnS.of HLdn.out) ?_)
   | (show wpList _ _ _ _ _ _; refine wpList_eqlg (by kernel_rfl) 56 _ _ _ rfl Cdn.toArray Cdn.toArray rfl rfl true (by kernel_rfl) HQdn.out ?_)
   | (show wpList _ _ _ _ _ _; refine wpList_midg (by kernel_rfl) 45 _ rfl w.heap.size 289 rfl zk.cells HZ2.out row_bak ?_)
   | (show wpList _ _ _ _ _ _; refine wpList_midg (by kernel_rfl) 45 _ rfl (w.heap.size + 1) 289 rfl zk'.cells HY2.out row_bak ?_)
   | go_values
   | go_skip
   | go_guarded
   | go_step
   | go_upon
   | go_back)
 refine (batch_eq zk zk' w4 (HX.out.de.k.keep HF4.out (by simp)) (HY.out.de.k.keep HF4.out (by simp)) HZK.out _ _ rfl rfl).mono ?_
 rintro e_ w5 ⟨rfl, hf5⟩
 have HF5 : Hid (Fr [] w w5) := Lib.hid (HF4.out.and hf5 (by simp))
 have HB05 := Lib.hid (HB04.out.keep hf5 (by simp))
 have HB15 := Lib.hid (HB14.out.keep hf5 (by simp))
 have z3 := hf5.cell HZ3.out (by simp)
 have y3 := hf5.cell HY3.out (by simp)
 clear hf5 HRdn4 HSdn4 crp4 drp4 z0 z1 y0 y1 HQdn gze gzr
 go_simp
 go_wp2_with fail
 refine (votes_eq zA zA' zn' zd zd' zl zl w5 (HX.out.de.l.keep' HF5.out (by simp) (fun _ _ h => h)) (HY.out.de.l.keep' HF5.out (by simp) (fun _ _ h => h)) rfl (by have h1 : zn' ≤ 100 := HX.out.de.n; omega)).mono ?_
 rintro e_ w6 ⟨rfl, hf6⟩
 have HF6 : Hid (Fr [] w w6) := Lib.hid (HF5.out.and hf6 (by simp))
 clear hf6 z3 y3
 go_wp2_with fail
 go_ret
 exact KmPost.t HALL.out HF6.out
end Go.Proofs.YtdenpfcgghangaaGreat

namespace Go.Proofs.YtdenpfcgghangaaGreat
open Go.ChangeShapes Go.WideShapes Go.ChangeAt Go.RowKit
set_option maxRecDepth 100000
end Go.Proofs.YtdenpfcgghangaaGreat

namespace Go.Proofs.YtdenpfcgghangaaGreat
open Go.ChangeShapes Go.WideShapes Go.ChangeAt Go.RowKit
set_option maxRecDepth 100000
instance : Inhabited Wpr := ⟨⟨0, 0, 0, none, 0, 0, [], 0, 0⟩⟩
instance : Inhabited Wop := ⟨⟨0, none, 0, 0, [], []⟩⟩
instance : Inhabited Wtb := ⟨⟨0, none, 0, 0, []⟩⟩
theorem opening_of_trod {H : Type} {enc : TypeId × Value → H} {W : World} {sp : Nat → Bool} {held : Bool} {fuel : Nat} {cs : List Value} {x0 : DataW H × List MemPlace} (h : DataW.trod enc Tryz.prog W 0 sp held fuel 54 cs = some x0) :
  ∃ x : Wop, x.In W ∧ cs = x.cells := by
 obtain ⟨xs, m, _, _, hlen, hxl, hat⟩ := DataW.trod_struct Tryz.underlying54 h
 rw [show Tryz.prog.cellsOf 54 = 34 by kernel_rfl] at hlen
 have hx : ∀ i (hi : i < 3), xs[i]? = some (xs[i]'(by rw [hxl]; exact hi)) := fun i hi => List.getElem?_eq_getElem _
 have f0 : DataW.trod enc Tryz.prog W 0 sp held m 3 ((cs.drop 0).take (Tryz.prog.cellsOf 3)) = _ := (hat 0 _ rfl).trans (hx 0 (by omega))
 rw [show Tryz.prog.cellsOf 3 = 1 by kernel_rfl] at f0
 obtain ⟨a0, e0, _, w0⟩ := DataW.trod_int Tryz.underlying3 f0
 have f1 : DataW.trod enc Tryz.prog W 0 sp held m 52 ((cs.drop 1).take (Tryz.prog.cellsOf 52)) = _ := (hat 1 _ rfl).trans (hx 1 (by omega))
 rw [show Tryz.prog.cellsOf 52 = 1 by kernel_rfl] at f1
 obtain ⟨A1, n1, d1, e1⟩ := Go.Joins.slice_form Tryz.underlying52 f1
 rw [e1] at f1
 obtain ⟨l1, w1, m1, k1⟩ := by_of_trod f1
 have f2 : DataW.trod enc Tryz.prog W 0 sp held m 25 ((cs.drop 2).take (Tryz.prog.cellsOf 25)) = _ := (hat 2 _ rfl).trans (hx 2 (by omega))
 rw [show Tryz.prog.cellsOf 25 = 32 by kernel_rfl] at f2
 obtain ⟨a2, w2, e2⟩ := hash_of_trod f2
 refine ⟨⟨a0, A1, n1, d1, l1, a2⟩, ⟨i64In_of w0, w1, Nat.le_trans m1 k1, m1, w2⟩, ?_⟩
 have z : cs.drop 34 = [] := List.drop_eq_nil_of_le (by omega)
 have s0 : cs = cs.drop 0 := rfl
 rw [s0, cut_at cs 0 1 1 rfl, e0, cut_at cs 1 1 2 rfl, e1, cut_at cs 2 32 34 rfl, e2, z]
 simp [Wop.cells]
theorem tomb_of_trod {H : Type} {enc : TypeId × Value → H} {W : World} {sp : Nat → Bool} {held : Bool} {fuel : Nat} {cs : List Value} {x0 : DataW H × List MemPlace} (h : DataW.trod enc Tryz.prog W 0 sp held fuel 132 cs = some x0) :
  ∃ x : Wtb, x.In W ∧ cs = x.cells := by
 obtain ⟨xs, m, _, _, hlen, hxl, hat⟩ := DataW.trod_struct Tryz.underlying132 h
 rw [show Tryz.prog.cellsOf 132 = 2 by kernel_rfl] at hlen
 have hx : ∀ i (hi : i < 2), xs[i]? = some (xs[i]'(by rw [hxl]; exact hi)) := fun i hi => List.getElem?_eq_getElem _
 have f0 : DataW.trod enc Tryz.prog W 0 sp held m 3 ((cs.drop 0).take (Tryz.prog.cellsOf 3)) = _ := (hat 0 _ rfl).trans (hx 0 (by omega))
 rw [show Tryz.prog.cellsOf 3 = 1 by kernel_rfl] at f0
 obtain ⟨a0, e0, _, w0⟩ := DataW.trod_int Tryz.underlying3 f0
 have f1 : DataW.trod enc Tryz.prog W 0 sp held m 130 ((cs.drop 1).take (Tryz.prog.cellsOf 130)) = _ := (hat 1 _ rfl).trans (hx 1 (by omega))
 rw [show Tryz.prog.cellsOf 130 = 1 by kernel_rfl] at f1
 obtain ⟨A1, n1, d1, l1, e1, w1, m1, k1⟩ := lst_of_cells (cells := Wdn.cells) (ok := fun w v => v.Ok) (k := 4) Tryz.underlying130 (by kernel_rfl) (fun fuel cs x h => deny_of_trod h) f1
 refine ⟨⟨a0, A1, n1, d1, l1⟩, ⟨i64In_of w0, w1, Nat.le_trans m1 k1, m1⟩, ?_⟩
 have z : cs.drop 2 = [] := List.drop_eq_nil_of_le (by omega)
 have s0 : cs = cs.drop 0 := rfl
 rw [s0, cut_at cs 0 1 1 rfl, e0, cut_at cs 1 1 2 rfl, e1, z]
 simp [Wtb.cells]
theorem batch_of_trod {H : Type} {enc : TypeId × Value → H} {W : World} {sp : Nat → Bool} {held : Bool} {fuel : Nat} {cs : List Value} {x0 : DataW H × List MemPlace} (h : DataW.trod enc Tryz.prog W 0 sp held fuel 45 cs = some x0) :
  ∃ x : Wba, x.In W ∧ cs = x.cells := by
 obtain ⟨xs, m, _, _, hlen, hxl, hat⟩ := DataW.trod_struct Tryz.underlying45 h
 rw [show Tryz.prog.cellsOf 45 = 5 by kernel_rfl] at hlen
 have hx : ∀ i (hi : i < 5), xs[i]? = some (xs[i]'(by rw [hxl]; exact hi)) := fun i hi => List.getElem?_eq_getElem _
 have f0 : DataW.trod enc Tryz.prog W 0 sp held m 3 ((cs.drop 0).take (Tryz.prog.cellsOf 3)) = _ := (hat 0 _ rfl).trans (hx 0 (by omega))
 rw [show Tryz.prog.cellsOf 3 = 1 by kernel_rfl] at f0
 obtain ⟨a0, e0, _, w0⟩ := DataW.trod_int Tryz.underlying3 f0
 have f1 : DataW.trod enc Tryz.prog W 0 sp held m 30 ((cs.drop 1).take (Tryz.prog.cellsOf 30)) = _ := (hat 1 _ rfl).trans (hx 1 (by omega))
 rw [show Tryz.prog.cellsOf 30 = 1 by kernel_rfl] at f1
 obtain ⟨u1, e1, _, w1⟩ := DataW.trod_int Tryz.underlying30 f1
 obtain ⟨a1, rfl, b1⟩ := u64_of w1
 have f2 : DataW.trod enc Tryz.prog W 0 sp held m 41 ((cs.drop 2).take (Tryz.prog.cellsOf 41)) = _ := (hat 2 _ rfl).trans (hx 2 (by omega))
 rw [show Tryz.prog.cellsOf 41 = 1 by kernel_rfl] at f2
 obtain ⟨A2, n2, d2, l2, e2, w2, m2, k2⟩ := lst_of_cells (cells := Wpr.cells) (ok := fun w v => v.In w) (k := 6) Tryz.underlying41 (by kernel_rfl) (fun fuel cs x h => promise_of_trod h) f2
 have f3 : DataW.trod enc Tryz.prog W 0 sp held m 42 ((cs.drop 3).take (Tryz.prog.cellsOf 42)) = _ := (hat 3 _ rfl).trans (hx 3 (by omega))
 rw [show Tryz.prog.cellsOf 42 = 1 by kernel_rfl] at f3
 obtain ⟨A3, n3, d3, l3, e3, w3, m3, k3⟩ := lst_of_cells (cells := Wop.cells) (ok := fun w v => v.In w) (k := 34) Tryz.underlying42 (by kernel_rfl) (fun fuel cs x h => opening_of_trod h) f3
 have f4 : DataW.trod enc Tryz.prog W 0 sp held m 43 ((cs.drop 4).take (Tryz.prog.cellsOf 43)) = _ := (hat 4 _ rfl).trans (hx 4 (by omega))
 rw [show Tryz.prog.cellsOf 43 = 1 by kernel_rfl] at f4
 obtain ⟨A4, n4, d4, l4, e4, w4, m4, k4⟩ := lst_of_cells (cells := Wtb.cells) (ok := fun w v => v.In w) (k := 2) Tryz.underlying43 (by kernel_rfl) (fun fuel cs x h => tomb_of_trod h) f4
 refine ⟨⟨a0, a1, A2, n2, d2, l2, A3, n3, d3, l3, A4, n4, d4, l4⟩, ⟨i64In_of w0, b1, w2, Nat.le_trans m2 k2, w3, Nat.le_trans m3 k3, w4, Nat.le_trans m4 k4⟩, ?_⟩
 have z : cs.drop 5 = [] := List.drop_eq_nil_of_le (by omega)
 have s0 : cs = cs.drop 0 := rfl
 rw [s0, cut_at cs 0 1 1 rfl, e0, cut_at cs 1 1 2 rfl, e1, cut_at cs 2 1 3 rfl, e2, cut_at cs 3 1 4 rfl, e3, cut_at cs 4 1 5 rfl, e4, z]
 simp [Wba.cells]
theorem proposal_of_trod {H : Type} {enc : TypeId × Value → H} {W : World} {sp : Nat → Bool} {held : Bool} {fuel : Nat} {cs : List Value} {x0 : DataW H × List MemPlace} (h : DataW.trod enc Tryz.prog W 0 sp held fuel 47 cs = some x0) :
  ∃ x : Wpo, x.In W ∧ cs = x.cells := by
 obtain ⟨xs, m, _, _, hlen, hxl, hat⟩ := DataW.trod_struct Tryz.underlying47 h
 rw [show Tryz.prog.cellsOf 47 = 11 by kernel_rfl] at hlen
 have hx : ∀ i (hi : i < 6), xs[i]? = some (xs[i]'(by rw [hxl]; exact hi)) := fun i hi => List.getElem?_eq_getElem _
 have f0 : DataW.trod enc Tryz.prog W 0 sp held m 3 ((cs.drop 0).take (Tryz.prog.cellsOf 3)) = _ := (hat 0 _ rfl).trans (hx 0 (by omega))
 rw [show Tryz.prog.cellsOf 3 = 1 by kernel_rfl] at f0
 obtain ⟨a0, e0, _, w0⟩ := DataW.trod_int Tryz.underlying3 f0
 have f1 : DataW.trod enc Tryz.prog W 0 sp held m 3 ((cs.drop 1).take (Tryz.prog.cellsOf 3)) = _ := (hat 1 _ rfl).trans (hx 1 (by omega))
 rw [show Tryz.prog.cellsOf 3 = 1 by kernel_rfl] at f1
 obtain ⟨a1, e1, _, w1⟩ := DataW.trod_int Tryz.underlying3 f1
 have f2 : DataW.trod enc Tryz.prog W 0 sp held m 3 ((cs.drop 2).take (Tryz.prog.cellsOf 3)) = _ := (hat 2 _ rfl).trans (hx 2 (by omega))
 rw [show Tryz.prog.cellsOf 3 = 1 by kernel_rfl] at f2
 obtain ⟨a2, e2, _, w2⟩ := DataW.trod_int Tryz.underlying3 f2
 have f3 : DataW.trod enc Tryz.prog W 0 sp held m 3 ((cs.drop 3).take (Tryz.prog.cellsOf 3)) = _ := (hat 3 _ rfl).trans (hx 3 (by omega))
 rw [show Tryz.prog.cellsOf 3 = 1 by kernel_rfl] at f3
 obtain ⟨a3, e3, _, w3⟩ := DataW.trod_int Tryz.underlying3 f3
 have f4 : DataW.trod enc Tryz.prog W 0 sp held m 45 ((cs.drop 4).take (Tryz.prog.cellsOf 45)) = _ := (hat 4 _ rfl).trans (hx 4 (by omega))
 rw [show Tryz.prog.cellsOf 45 = 5 by kernel_rfl] at f4
 obtain ⟨a4, w4, e4⟩ := batch_of_trod f4
 have f5 : DataW.trod enc Tryz.prog W 0 sp held m 27 ((cs.drop 9).take (Tryz.prog.cellsOf 27)) = _ := (hat 5 _ rfl).trans (hx 5 (by omega))
 rw [show Tryz.prog.cellsOf 27 = 2 by kernel_rfl] at f5
 obtain ⟨a5, c5, w5, v5, e5⟩ := pair_of_trod Tryz.underlying27 ⟨rfl, rfl⟩ ⟨rfl, rfl⟩ (by kernel_rfl) f5
 refine ⟨⟨a0, a1, a2, a3, a4, a5, c5⟩, ⟨i64In_of w0, i64In_of w1, i64In_of w2, i64In_of w3, w4, w5, v5⟩, ?_⟩
 have z : cs.drop 11 = [] := List.drop_eq_nil_of_le (by omega)
 have s0 : cs = cs.drop 0 := rfl
 rw [s0, cut_at cs 0 1 1 rfl, e0, cut_at cs 1 1 2 rfl, e1, cut_at cs 2 1 3 rfl, e2, cut_at cs 3 1 4 rfl, e3, cut_at cs 4 5 9 rfl, e4, cut_at cs 9 2 11 rfl, e5, z]
 simp [Wpo.cells]
end Go.Proofs.YtdenpfcgghangaaGreat

namespace Go.Proofs.YtdenpfcgghangaaGreat
open Go.ChangeShapes Go.WideShapes Go.ChangeAt Go.RowKit
set_option maxRecDepth 100000
instance : Inhabited Wvt := ⟨⟨0, 0, 0, 0, [], 0, 0⟩⟩
structure Wdc.In (w : World) (x : Wdc) : Prop where
 e : i64In x.e
 r : i64In x.r
 k : x.k.In w
 l : Lst 38 Wvt.cells (fun _ v => v.Ok) w x.A x.n x.l
 n : x.n ≤ maxLen
 d : x.n ≤ x.d
structure Wmg.In (w : World) (x : Wmg) : Prop where
 q : i64In x.q
 f : i64In x.f
 t : i64In x.t
 cm : x.cm.Ok
 st : x.st.Ok
 ce : x.ce.In w
 ak : x.ak.Ok
 e : i64In x.e
 r : i64In x.r
 tm : x.tm < 18446744073709551616
 pr : x.pr.In w
 po : x.po.In w
 vt : x.vt.Ok
 i : i64In x.i
 en : x.en.Ok
 op : x.op.In w
 dn : x.dn.Ok
 rp : x.rp.length ≤ maxLen
 de : x.de.In w
def Wmg.val (x : Wmg) : Value := .agg x.cells.toArray
theorem vote_of_trod {H : Type} {enc : TypeId × Value → H} {W : World} {sp : Nat → Bool} {held : Bool} {fuel : Nat} {cs : List Value} {x0 : DataW H × List MemPlace} (h : DataW.trod enc Tryz.prog W 0 sp held fuel 49 cs = some x0) :
  ∃ x : Wvt, x.Ok ∧ cs = x.cells := by
 obtain ⟨xs, m, _, _, hlen, hxl, hat⟩ := DataW.trod_struct Tryz.underlying49 h
 rw [show Tryz.prog.cellsOf 49 = 38 by kernel_rfl] at hlen
 have hx : ∀ i (hi : i < 6), xs[i]? = some (xs[i]'(by rw [hxl]; exact hi)) := fun i hi => List.getElem?_eq_getElem _
 have f0 : DataW.trod enc Tryz.prog W 0 sp held m 3 ((cs.drop 0).take (Tryz.prog.cellsOf 3)) = _ := (hat 0 _ rfl).trans (hx 0 (by omega))
 rw [show Tryz.prog.cellsOf 3 = 1 by kernel_rfl] at f0
 obtain ⟨a0, e0, _, w0⟩ := DataW.trod_int Tryz.underlying3 f0
 have f1 : DataW.trod enc Tryz.prog W 0 sp held m 3 ((cs.drop 1).take (Tryz.prog.cellsOf 3)) = _ := (hat 1 _ rfl).trans (hx 1 (by omega))
 rw [show Tryz.prog.cellsOf 3 = 1 by kernel_rfl] at f1
 obtain ⟨a1, e1, _, w1⟩ := DataW.trod_int Tryz.underlying3 f1
 have f2 : DataW.trod enc Tryz.prog W 0 sp held m 3 ((cs.drop 2).take (Tryz.prog.cellsOf 3)) = _ := (hat 2 _ rfl).trans (hx 2 (by omega))
 rw [show Tryz.prog.cellsOf 3 = 1 by kernel_rfl] at f2
 obtain ⟨a2, e2, _, w2⟩ := DataW.trod_int Tryz.underlying3 f2
 have f3 : DataW.trod enc Tryz.prog W 0 sp held m 3 ((cs.drop 3).take (Tryz.prog.cellsOf 3)) = _ := (hat 3 _ rfl).trans (hx 3 (by omega))
 rw [show Tryz.prog.cellsOf 3 = 1 by kernel_rfl] at f3
 obtain ⟨a3, e3, _, w3⟩ := DataW.trod_int Tryz.underlying3 f3
 have f4 : DataW.trod enc Tryz.prog W 0 sp held m 25 ((cs.drop 4).take (Tryz.prog.cellsOf 25)) = _ := (hat 4 _ rfl).trans (hx 4 (by omega))
 rw [show Tryz.prog.cellsOf 25 = 32 by kernel_rfl] at f4
 obtain ⟨a4, w4, e4⟩ := hash_of_trod f4
 have f5 : DataW.trod enc Tryz.prog W 0 sp held m 27 ((cs.drop 36).take (Tryz.prog.cellsOf 27)) = _ := (hat 5 _ rfl).trans (hx 5 (by omega))
 rw [show Tryz.prog.cellsOf 27 = 2 by kernel_rfl] at f5
 obtain ⟨a5, c5, w5, v5, e5⟩ := pair_of_trod Tryz.underlying27 ⟨rfl, rfl⟩ ⟨rfl, rfl⟩ (by kernel_rfl) f5
 refine ⟨⟨a0, a1, a2, a3, a4, a5, c5⟩, ⟨i64In_of w0, i64In_of w1, i64In_of w2, i64In_of w3, w4, w5, v5⟩, ?_⟩
 have z : cs.drop 38 = [] := List.drop_eq_nil_of_le (by omega)
 have s0 : cs = cs.drop 0 := rfl
 rw [s0, cut_at cs 0 1 1 rfl, e0, cut_at cs 1 1 2 rfl, e1, cut_at cs 2 1 3 rfl, e2, cut_at cs 3 1 4 rfl, e3, cut_at cs 4 32 36 rfl, e4, cut_at cs 36 2 38 rfl, e5, z]
 simp [Wvt.cells]
theorem ack_of_trod {H : Type} {enc : TypeId × Value → H} {W : World} {sp : Nat → Bool} {held : Bool} {fuel : Nat} {cs : List Value} {x0 : DataW H × List MemPlace} (h : DataW.trod enc Tryz.prog W 0 sp held fuel 37 cs = some x0) :
  ∃ x : Wst, x.Ok ∧ cs = x.cells := by
 obtain ⟨xs, m, _, _, hlen, hxl, hat⟩ := DataW.trod_struct Tryz.underlying37 h
 rw [show Tryz.prog.cellsOf 37 = 38 by kernel_rfl] at hlen
 have hx : ∀ i (hi : i < 5), xs[i]? = some (xs[i]'(by rw [hxl]; exact hi)) := fun i hi => List.getElem?_eq_getElem _
 have f0 : DataW.trod enc Tryz.prog W 0 sp held m 3 ((cs.drop 0).take (Tryz.prog.cellsOf 3)) = _ := (hat 0 _ rfl).trans (hx 0 (by omega))
 rw [show Tryz.prog.cellsOf 3 = 1 by kernel_rfl] at f0
 obtain ⟨a0, e0, _, w0⟩ := DataW.trod_int Tryz.underlying3 f0
 have f1 : DataW.trod enc Tryz.prog W 0 sp held m 23 ((cs.drop 1).take (Tryz.prog.cellsOf 23)) = _ := (hat 1 _ rfl).trans (hx 1 (by omega))
 rw [show Tryz.prog.cellsOf 23 = 2 by kernel_rfl] at f1
 obtain ⟨a1, c1, w1, v1, e1⟩ := pair_of_trod Tryz.underlying23 ⟨rfl, rfl⟩ ⟨rfl, rfl⟩ (by kernel_rfl) f1
 have f2 : DataW.trod enc Tryz.prog W 0 sp held m 25 ((cs.drop 3).take (Tryz.prog.cellsOf 25)) = _ := (hat 2 _ rfl).trans (hx 2 (by omega))
 rw [show Tryz.prog.cellsOf 25 = 32 by kernel_rfl] at f2
 obtain ⟨a2, w2, e2⟩ := hash_of_trod f2
 have f3 : DataW.trod enc Tryz.prog W 0 sp held m 30 ((cs.drop 35).take (Tryz.prog.cellsOf 30)) = _ := (hat 3 _ rfl).trans (hx 3 (by omega))
 rw [show Tryz.prog.cellsOf 30 = 1 by kernel_rfl] at f3
 obtain ⟨u3, e3, _, w3⟩ := DataW.trod_int Tryz.underlying30 f3
 obtain ⟨a3, rfl, b3⟩ := u64_of w3
 have f4 : DataW.trod enc Tryz.prog W 0 sp held m 27 ((cs.drop 36).take (Tryz.prog.cellsOf 27)) = _ := (hat 4 _ rfl).trans (hx 4 (by omega))
 rw [show Tryz.prog.cellsOf 27 = 2 by kernel_rfl] at f4
 obtain ⟨a4, c4, w4, v4, e4⟩ := pair_of_trod Tryz.underlying27 ⟨rfl, rfl⟩ ⟨rfl, rfl⟩ (by kernel_rfl) f4
 refine ⟨⟨a0, a1, c1, a2, a3, a4, c4⟩, ⟨i64In_of w0, w1, v1, w2, b3, w4, v4⟩, ?_⟩
 have z : cs.drop 38 = [] := List.drop_eq_nil_of_le (by omega)
 have s0 : cs = cs.drop 0 := rfl
 rw [s0, cut_at cs 0 1 1 rfl, e0, cut_at cs 1 2 3 rfl, e1, cut_at cs 3 32 35 rfl, e2, cut_at cs 35 1 36 rfl, e3, cut_at cs 36 2 38 rfl, e4, z]
 simp [Wst.cells]
theorem entry_of_trod {H : Type} {enc : TypeId × Value → H} {W : World} {sp : Nat → Bool} {held : Bool} {fuel : Nat} {cs : List Value} {x0 : DataW H × List MemPlace} (h : DataW.trod enc Tryz.prog W 0 sp held fuel 51 cs = some x0) :
  ∃ x : Wen, x.Ok ∧ cs = x.cells := by
 obtain ⟨xs, m, _, _, hlen, hxl, hat⟩ := DataW.trod_struct Tryz.underlying51 h
 rw [show Tryz.prog.cellsOf 51 = 35 by kernel_rfl] at hlen
 have hx : ∀ i (hi : i < 3), xs[i]? = some (xs[i]'(by rw [hxl]; exact hi)) := fun i hi => List.getElem?_eq_getElem _
 have f0 : DataW.trod enc Tryz.prog W 0 sp held m 23 ((cs.drop 0).take (Tryz.prog.cellsOf 23)) = _ := (hat 0 _ rfl).trans (hx 0 (by omega))
 rw [show Tryz.prog.cellsOf 23 = 2 by kernel_rfl] at f0
 obtain ⟨a0, c0, w0, v0, e0⟩ := pair_of_trod Tryz.underlying23 ⟨rfl, rfl⟩ ⟨rfl, rfl⟩ (by kernel_rfl) f0
 have f1 : DataW.trod enc Tryz.prog W 0 sp held m 25 ((cs.drop 2).take (Tryz.prog.cellsOf 25)) = _ := (hat 1 _ rfl).trans (hx 1 (by omega))
 rw [show Tryz.prog.cellsOf 25 = 32 by kernel_rfl] at f1
 obtain ⟨a1, w1, e1⟩ := hash_of_trod f1
 have f2 : DataW.trod enc Tryz.prog W 0 sp held m 30 ((cs.drop 34).take (Tryz.prog.cellsOf 30)) = _ := (hat 2 _ rfl).trans (hx 2 (by omega))
 rw [show Tryz.prog.cellsOf 30 = 1 by kernel_rfl] at f2
 obtain ⟨u2, e2, _, w2⟩ := DataW.trod_int Tryz.underlying30 f2
 obtain ⟨a2, rfl, b2⟩ := u64_of w2
 refine ⟨⟨a0, c0, a1, a2⟩, ⟨w0, v0, w1, b2⟩, ?_⟩
 have z : cs.drop 35 = [] := List.drop_eq_nil_of_le (by omega)
 have s0 : cs = cs.drop 0 := rfl
 rw [s0, cut_at cs 0 2 2 rfl, e0, cut_at cs 2 32 34 rfl, e1, cut_at cs 34 1 35 rfl, e2, z]
 simp [Wen.cells]
theorem decided_of_trod {H : Type} {enc : TypeId × Value → H} {W : World} {sp : Nat → Bool} {held : Bool} {fuel : Nat} {cs : List Value} {x0 : DataW H × List MemPlace} (h : DataW.trod enc Tryz.prog W 0 sp held fuel 59 cs = some x0) :
  ∃ x : Wdc, x.In W ∧ cs = x.cells := by
 obtain ⟨xs, m, _, _, hlen, hxl, hat⟩ := DataW.trod_struct Tryz.underlying59 h
 rw [show Tryz.prog.cellsOf 59 = 8 by kernel_rfl] at hlen
 have hx : ∀ i (hi : i < 4), xs[i]? = some (xs[i]'(by rw [hxl]; exact hi)) := fun i hi => List.getElem?_eq_getElem _
 have f0 : DataW.trod enc Tryz.prog W 0 sp held m 3 ((cs.drop 0).take (Tryz.prog.cellsOf 3)) = _ := (hat 0 _ rfl).trans (hx 0 (by omega))
 rw [show Tryz.prog.cellsOf 3 = 1 by kernel_rfl] at f0
 obtain ⟨a0, e0, _, w0⟩ := DataW.trod_int Tryz.underlying3 f0
 have f1 : DataW.trod enc Tryz.prog W 0 sp held m 3 ((cs.drop 1).take (Tryz.prog.cellsOf 3)) = _ := (hat 1 _ rfl).trans (hx 1 (by omega))
 rw [show Tryz.prog.cellsOf 3 = 1 by kernel_rfl] at f1
 obtain ⟨a1, e1, _, w1⟩ := DataW.trod_int Tryz.underlying3 f1
 have f2 : DataW.trod enc Tryz.prog W 0 sp held m 45 ((cs.drop 2).take (Tryz.prog.cellsOf 45)) = _ := (hat 2 _ rfl).trans (hx 2 (by omega))
 rw [show Tryz.prog.cellsOf 45 = 5 by kernel_rfl] at f2
 obtain ⟨a2, w2, e2⟩ := batch_of_trod f2
 have f3 : DataW.trod enc Tryz.prog W 0 sp held m 57 ((cs.drop 7).take (Tryz.prog.cellsOf 57)) = _ := (hat 3 _ rfl).trans (hx 3 (by omega))
 rw [show Tryz.prog.cellsOf 57 = 1 by kernel_rfl] at f3
 obtain ⟨A3, n3, d3, l3, e3, w3, m3, k3⟩ := lst_of_cells (cells := Wvt.cells) (ok := fun w v => v.Ok) (k := 38) Tryz.underlying57 (by kernel_rfl) (fun fuel cs x h => vote_of_trod h) f3
 refine ⟨⟨a0, a1, a2, A3, n3, d3, l3⟩, ⟨i64In_of w0, i64In_of w1, w2, w3, Nat.le_trans m3 k3, m3⟩, ?_⟩
 have z : cs.drop 8 = [] := List.drop_eq_nil_of_le (by omega)
 have s0 : cs = cs.drop 0 := rfl
 rw [s0, cut_at cs 0 1 1 rfl, e0, cut_at cs 1 1 2 rfl, e1, cut_at cs 2 5 7 rfl, e2, cut_at cs 7 1 8 rfl, e3, z]
 simp [Wdc.cells]
theorem msg_of_trod {H : Type} {enc : TypeId × Value → H} {W : World} {sp : Nat → Bool} {held : Bool} {fuel : Nat} {cs : List Value} {x0 : DataW H × List MemPlace} (h : DataW.trod enc Tryz.prog W 0 sp held fuel 61 cs = some x0) :
  ∃ x : Wmg, x.In W ∧ cs = x.cells := by
 obtain ⟨xs, m, _, _, hlen, hxl, hat⟩ := DataW.trod_struct Tryz.underlying61 h
 rw [show Tryz.prog.cellsOf 61 = 295 by kernel_rfl] at hlen
 have hx : ∀ i (hi : i < 19), xs[i]? = some (xs[i]'(by rw [hxl]; exact hi)) := fun i hi => List.getElem?_eq_getElem _
 have f0 : DataW.trod enc Tryz.prog W 0 sp held m 3 ((cs.drop 0).take (Tryz.prog.cellsOf 3)) = _ := (hat 0 _ rfl).trans (hx 0 (by omega))
 rw [show Tryz.prog.cellsOf 3 = 1 by kernel_rfl] at f0
 obtain ⟨a0, e0, _, w0⟩ := DataW.trod_int Tryz.underlying3 f0
 have f1 : DataW.trod enc Tryz.prog W 0 sp held m 3 ((cs.drop 1).take (Tryz.prog.cellsOf 3)) = _ := (hat 1 _ rfl).trans (hx 1 (by omega))
 rw [show Tryz.prog.cellsOf 3 = 1 by kernel_rfl] at f1
 obtain ⟨a1, e1, _, w1⟩ := DataW.trod_int Tryz.underlying3 f1
 have f2 : DataW.trod enc Tryz.prog W 0 sp held m 3 ((cs.drop 2).take (Tryz.prog.cellsOf 3)) = _ := (hat 2 _ rfl).trans (hx 2 (by omega))
 rw [show Tryz.prog.cellsOf 3 = 1 by kernel_rfl] at f2
 obtain ⟨a2, e2, _, w2⟩ := DataW.trod_int Tryz.underlying3 f2
 have f3 : DataW.trod enc Tryz.prog W 0 sp held m 29 ((cs.drop 3).take (Tryz.prog.cellsOf 29)) = _ := (hat 3 _ rfl).trans (hx 3 (by omega))
 rw [show Tryz.prog.cellsOf 29 = 37 by kernel_rfl] at f3
 obtain ⟨a3, w3, e3⟩ := commit_of_trod f3
 have f4 : DataW.trod enc Tryz.prog W 0 sp held m 32 ((cs.drop 40).take (Tryz.prog.cellsOf 32)) = _ := (hat 4 _ rfl).trans (hx 4 (by omega))
 rw [show Tryz.prog.cellsOf 32 = 38 by kernel_rfl] at f4
 obtain ⟨a4, w4, e4⟩ := stamp_of_trod f4
 have f5 : DataW.trod enc Tryz.prog W 0 sp held m 35 ((cs.drop 78).take (Tryz.prog.cellsOf 35)) = _ := (hat 5 _ rfl).trans (hx 5 (by omega))
 rw [show Tryz.prog.cellsOf 35 = 38 by kernel_rfl] at f5
 obtain ⟨a5, w5, e5⟩ := cert_of_trod f5
 have f6 : DataW.trod enc Tryz.prog W 0 sp held m 37 ((cs.drop 116).take (Tryz.prog.cellsOf 37)) = _ := (hat 6 _ rfl).trans (hx 6 (by omega))
 rw [show Tryz.prog.cellsOf 37 = 38 by kernel_rfl] at f6
 obtain ⟨a6, w6, e6⟩ := ack_of_trod f6
 have f7 : DataW.trod enc Tryz.prog W 0 sp held m 3 ((cs.drop 154).take (Tryz.prog.cellsOf 3)) = _ := (hat 7 _ rfl).trans (hx 7 (by omega))
 rw [show Tryz.prog.cellsOf 3 = 1 by kernel_rfl] at f7
 obtain ⟨a7, e7, _, w7⟩ := DataW.trod_int Tryz.underlying3 f7
 have f8 : DataW.trod enc Tryz.prog W 0 sp held m 3 ((cs.drop 155).take (Tryz.prog.cellsOf 3)) = _ := (hat 8 _ rfl).trans (hx 8 (by omega))
 rw [show Tryz.prog.cellsOf 3 = 1 by kernel_rfl] at f8
 obtain ⟨a8, e8, _, w8⟩ := DataW.trod_int Tryz.underlying3 f8
 have f9 : DataW.trod enc Tryz.prog W 0 sp held m 30 ((cs.drop 156).take (Tryz.prog.cellsOf 30)) = _ := (hat 9 _ rfl).trans (hx 9 (by omega))
 rw [show Tryz.prog.cellsOf 30 = 1 by kernel_rfl] at f9
 obtain ⟨u9, e9, _, w9⟩ := DataW.trod_int Tryz.underlying30 f9
 obtain ⟨a9, rfl, b9⟩ := u64_of w9
 have f10 : DataW.trod enc Tryz.prog W 0 sp held m 40 ((cs.drop 157).take (Tryz.prog.cellsOf 40)) = _ := (hat 10 _ rfl).trans (hx 10 (by omega))
 rw [show Tryz.prog.cellsOf 40 = 6 by kernel_rfl] at f10
 obtain ⟨a10, w10, e10⟩ := promise_of_trod f10
 have f11 : DataW.trod enc Tryz.prog W 0 sp held m 47 ((cs.drop 163).take (Tryz.prog.cellsOf 47)) = _ := (hat 11 _ rfl).trans (hx 11 (by omega))
 rw [show Tryz.prog.cellsOf 47 = 11 by kernel_rfl] at f11
 obtain ⟨a11, w11, e11⟩ := proposal_of_trod f11
 have f12 : DataW.trod enc Tryz.prog W 0 sp held m 49 ((cs.drop 174).take (Tryz.prog.cellsOf 49)) = _ := (hat 12 _ rfl).trans (hx 12 (by omega))
 rw [show Tryz.prog.cellsOf 49 = 38 by kernel_rfl] at f12
 obtain ⟨a12, w12, e12⟩ := vote_of_trod f12
 have f13 : DataW.trod enc Tryz.prog W 0 sp held m 3 ((cs.drop 212).take (Tryz.prog.cellsOf 3)) = _ := (hat 13 _ rfl).trans (hx 13 (by omega))
 rw [show Tryz.prog.cellsOf 3 = 1 by kernel_rfl] at f13
 obtain ⟨a13, e13, _, w13⟩ := DataW.trod_int Tryz.underlying3 f13
 have f14 : DataW.trod enc Tryz.prog W 0 sp held m 51 ((cs.drop 213).take (Tryz.prog.cellsOf 51)) = _ := (hat 14 _ rfl).trans (hx 14 (by omega))
 rw [show Tryz.prog.cellsOf 51 = 35 by kernel_rfl] at f14
 obtain ⟨a14, w14, e14⟩ := entry_of_trod f14
 have f15 : DataW.trod enc Tryz.prog W 0 sp held m 54 ((cs.drop 248).take (Tryz.prog.cellsOf 54)) = _ := (hat 15 _ rfl).trans (hx 15 (by omega))
 rw [show Tryz.prog.cellsOf 54 = 34 by kernel_rfl] at f15
 obtain ⟨a15, w15, e15⟩ := opening_of_trod f15
 have f16 : DataW.trod enc Tryz.prog W 0 sp held m 56 ((cs.drop 282).take (Tryz.prog.cellsOf 56)) = _ := (hat 16 _ rfl).trans (hx 16 (by omega))
 rw [show Tryz.prog.cellsOf 56 = 4 by kernel_rfl] at f16
 obtain ⟨a16, w16, e16⟩ := deny_of_trod f16
 have f17 : DataW.trod enc Tryz.prog W 0 sp held m 9 ((cs.drop 286).take (Tryz.prog.cellsOf 9)) = _ := (hat 17 _ rfl).trans (hx 17 (by omega))
 rw [show Tryz.prog.cellsOf 9 = 1 by kernel_rfl] at f17
 obtain ⟨s17, e17, _, w17⟩ := DataW.trod_string Tryz.underlying9 f17
 rw [show (Value.string s17) = Value.string ⟨s17.data.toList.toArray⟩ by simp] at e17
 have f18 : DataW.trod enc Tryz.prog W 0 sp held m 59 ((cs.drop 287).take (Tryz.prog.cellsOf 59)) = _ := (hat 18 _ rfl).trans (hx 18 (by omega))
 rw [show Tryz.prog.cellsOf 59 = 8 by kernel_rfl] at f18
 obtain ⟨a18, w18, e18⟩ := decided_of_trod f18
 refine ⟨⟨a0, a1, a2, a3, a4, a5, a6, a7, a8, a9, a10, a11, a12, a13, a14, a15, a16, s17.data.toList, a18⟩, ⟨i64In_of w0, i64In_of w1, i64In_of w2, w3, w4, w5, w6, i64In_of w7, i64In_of w8, b9, w10, w11, w12, i64In_of w13, w14, w15, w16, by rw [Array.length_toList]; exact w17, w18⟩, ?_⟩
 have z : cs.drop 295 = [] := List.drop_eq_nil_of_le (by omega)
 have s0 : cs = cs.drop 0 := rfl
 rw [s0, cut_at cs 0 1 1 rfl, e0, cut_at cs 1 1 2 rfl, e1, cut_at cs 2 1 3 rfl, e2, cut_at cs 3 37 40 rfl, e3, cut_at cs 40 38 78 rfl, e4, cut_at cs 78 38 116 rfl, e5, cut_at cs 116 38 154 rfl, e6, cut_at cs 154 1 155 rfl, e7, cut_at cs 155 1 156 rfl, e8, cut_at cs 156 1 157 rfl, e9, cut_at cs 157 6 163 rfl, e10, cut_at cs 163 11 174 rfl, e11, cut_at cs 174 38 212 rfl, e12, cut_at cs 212 1 213 rfl, e13, cut_at cs 213 35 248 rfl, e14, cut_at cs 248 34 282 rfl, e15, cut_at cs 282 4 286 rfl, e16, cut_at cs 286 1 287 rfl, e17, cut_at cs 287 8 295 rfl, e18, z]
 simp [Wmg.cells]
theorem msg_open {H : Type} {enc : TypeId × Value → H} {W : World} {r : Reach} {base b0 : Nat} {v : Value} {d : DataW H} {p : List MemPlace} {sp : Nat → Bool} {held : Bool} (hv : Value.okWide Tryz.prog W r base 61 v) (h : DataW.Trod enc Tryz.prog W b0 sp held 61 v d p) (hb : b0 = 0) :
  ∃ x : Wmg, x.In W ∧ v = x.val := by
 subst hb
 unfold Value.okWide at hv
 rw [Tryz.underlying61] at hv
 obtain ⟨cs, rfl, -⟩ := hv
 obtain ⟨fuel, hf⟩ := h
 obtain ⟨x, hx, e⟩ := msg_of_trod (show DataW.trod enc Tryz.prog W 0 sp held fuel 61 cs.toList = some (d, p) from hf)
 exact ⟨x, hx, by show Value.agg cs = Value.agg _; rw [← e, Array.toArray_toList]⟩
end Go.Proofs.YtdenpfcgghangaaGreat
