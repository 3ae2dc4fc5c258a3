/- Texts that the proof stands on: The statements' own Cert and Promise: small enough to be played. | Commitments, stamps, denials, certificates, promises that come in: what their reading says of cells. | Promises, certificates, commitments, signatures that come in as arguments. | gavellaw05's Batch: a batch that is small enough to be played. (written by gen_cutb.py) | Openings, tombstones, batches, proposals that come in: what their reading says of cells. (written by gen_wbt.py) | Package part: what its readers take off bytes. (written by gen_rp.py) | Package part: its readers of lists, of certificates, promises, openings, tombstones, batches. (written by gen_rp2.py) | Package part: its readers of a certificate, a promise, an opening, a tombstone, a batch. (written by gen_rp3.py) | Package part: its readers of acks, votes, places, proposals, what was decided. (written by gen_mr.py) | The writers and the text of an ack: they are a stamp's (written by gen_ack.py out of XPut). | Package part: its writers of votes, places, proposals, what was decided. (written by gen_mp.py) | A message as a value; what msgs.put writes of each kind. (written by gen_mg.py) -/
import Derived.Test.YtpcnedpheplofaaGreatKP1
import Derived.Test.YtpcnedpheplofaaGreatRead
import Derived.Test.YtpcnedpheplofaaGreatReg2
set_option linter.unusedSimpArgs false
set_option linter.unusedVariables false
set_option maxRecDepth 100000

namespace Go.Proofs.YtpcnedpheplofaaGreat
open Go.RowKit
set_option maxRecDepth 100000
def zeroCe : Array Value := (Wce.cells ⟨⟨0, 0, List.replicate 32 0, 0, 0, 0⟩, none, 0, 0, []⟩).toArray
theorem set_last (K : List Value) (hK : K.length = 37) (u v : Value) : (K ++ [u]).toArray.setIfInBounds 37 v = (K ++ [v]).toArray := by
 rw [List.setIfInBounds_toArray, List.set_append_right _ _ (by omega), hK]
 rfl
set_option maxHeartbeats 1000000 in
theorem certCut_any (k : Wcm) (hk : k.Ok) (A : Option Addr) (n d : Nat) (l : List Wst) (w : World) (hl : Lst 38 Wst.cells (fun _ v => v.Ok) w A n l) (hn : n ≤ maxLen) (hd : n ≤ d) :
  Calls Tryz.prog 21 #[.agg (k.cells ++ [Value.slice A n d]).toArray] w fun e w' => ∃ A' d', e = .returned (.agg (k.cells ++ [Value.slice A' (l.take 5).length d']).toArray) ∧ NewL 32 38 Wst.cells w w' A' (l.take 5).length d' (l.take 5) := by
 obtain ⟨wa, hwa⟩ : ∃ wa, wa = (w.alloc (Obj.cells (k.cells ++ [Value.slice A n d]).toArray 35)).alloc (Obj.cells zeroCe 35) := ⟨_, rfl⟩
 have hf0 : Fr [] w wa := by rw [hwa]; exact ((Fr.refl [] w).alloc _).alloc _
 have hb0 : Blk wa w.heap.size 35 (k.cells ++ [Value.slice A n d]).toArray := by rw [hwa]; exact blk_alloc (Blk.new _ _ _)
 have hb1 : Blk wa (w.heap.size + 1) 35 zeroCe := by
  have := Blk.new (w.alloc (Obj.cells (k.cells ++ [Value.slice A n d]).toArray 35)) 35 zeroCe
  rw [hwa]
  simpa using this
 have hK : k.cells.length = 37 := Wcm.len hk.h
 have hone := Wcm.one k
 have hc : wa.cell? ⟨w.heap.size, 37, none⟩ = some (.slice A n d) := by
  have := hb0.range 37 (.slice A n d) (by rw [List.getElem?_append_right (by omega), hK]; rfl)
  simpa using this
 have HB0 := Lib.hid hb0
 have HB1 := Lib.hid hb1
 have HC := Lib.hid hc
 have HF0 := Lib.hid hf0
 have HWA := Lib.hid hwa
 have HX := Lib.hid hl
 have HK := Lib.hid hK
 have HONE := Lib.hid hone
 have HSZ : Hid (w.heap.size + 2 ≤ wa.heap.size) := Lib.hid (by have := hb1.lt; omega)
 clear hwa hf0 hb0 hb1 hc hl hK hone hk
 generalize k.cells = K at *
 go_enter Tryz.func21, Tryz.ntmps21
 go_upto_region 1 with (fail)
 change Code.wp _ _ _ _ ((w.alloc (Obj.cells (K ++ [Value.slice A n d]).toArray 35)).alloc (Obj.cells zeroCe 35))
 rw [← HWA.out]
 have hc := HC.out
 go_wp2_with fail
 refine (cutStamps_any A n d 5 l wa (HX.out.keep' HF0.out (by simp) (fun _ _ h => h)) hn hd (by decide)).mono ?_
 rintro e w1 ⟨A1, d1, rfl, hN⟩
 have hb2 := HB0.out.keep hN.2.1 (by simp)
 have hc2 := hN.2.1.cell hc (by simp)
 have HB1' := Lib.hid (HB1.out.keep hN.2.1 (by simp))
 have HN := Lib.hid hN
 have HS1 := Lib.hid (show w.heap.size + 2 ≤ w1.heap.size from Nat.le_trans HSZ.out hN.2.1.size)
 have HSET := Lib.hid (set_last K HK.out (Value.slice A n d) (Value.slice A1 (l.take 5).length d1))
 have HW2 := Lib.hid (hb2.set 37 (Value.slice A1 (l.take 5).length d1))
 have hz := hb2.frozen 37
 clear hc hN HB0 HB1
 generalize hm : (l.take 5).length = m at *
 have HM := Lib.hid hm
 clear hm
 have HSZ2 : Hid ((Tryz.prog.info? 35).map (·.size) = some (K ++ [Value.slice A1 m d1]).toArray.size) := Lib.hid (by rw [show (K ++ [Value.slice A1 m d1]).toArray.size = 38 by simp [HK.out]]; kernel_rfl)
 have HZC : Hid (zeroCe.size = (K ++ [Value.slice A1 m d1]).toArray.size) := Lib.hid (by rw [show (K ++ [Value.slice A1 m d1]).toArray.size = 38 by simp [HK.out]]; rfl)
 have HALL : Hid ((K ++ [Value.slice A1 m d1]).toArray.all (·.oneCell') = true) := Lib.hid (all_oneCell_toArray (by intro u hu; rcases List.mem_append.1 hu with h | h; exact HONE.out u h; rw [List.mem_singleton.1 h]; rfl))
 have hf2 : Fr [w.heap.size] w1 (w1.setCell ⟨w.heap.size, 37, none⟩ (Value.slice A1 m d1)) := (Fr.refl _ w1).setCell ⟨w.heap.size, 37, none⟩ (fun _ => by simp) (Value.slice A1 m d1)
 have HB1S := Lib.hid (HB1'.out.keep hf2 (by simp))
 have HF2 := Lib.hid hf2
 clear hf2
 go_wp2_with (first
  | (refine wpList_load_row rfl 35 _ rfl w.heap.size rfl 35 (K ++ [Value.slice A1 m d1]).toArray _ _ (by have := HW2.out; rw [HSET.out] at this; exact this) Tryz.underlying35 rfl HSZ2.out ?_)
  | (refine wpList_store_blk rfl 35 _ _ rfl (w.heap.size + 1) (K ++ [Value.slice A1 m d1]).toArray rfl rfl 35 zeroCe HB1S.out HSZ2.out HZC.out HALL.out ?_
     intro w3 hb3 hf3
     have HB3 := Lib.hid hb3
     have HF3 := Lib.hid hf3
     clear hb3 hf3))
 have HFa : Fr [w.heap.size, w.heap.size + 1] w1 w3 := (HF2.out.mono (by intro k hk _; simp at hk; simp [hk])).trans HF3.out (by intro k hk _; simp at hk; simp [hk])
 refine bodyPost_ret (v := .agg (K ++ [Value.slice A1 m d1]).toArray) (results_cell_row Tryz.results21 _ _ (w.heap.size + 1) 35 (K ++ [Value.slice A1 m d1]).toArray _ _ rfl HB3.out Tryz.underlying35 rfl HSZ2.out) rfl ⟨A1, d1, by rw [HM.out], ?_⟩
 rw [HM.out]
 refine ⟨own_keep HN.out.1 HFa (fun k hk hin => ?_), (HF0.out.and HN.out.2.1 (by simp)).and HFa (fun k hk => by simp at hk; omega), fun k hk => Nat.le_trans HF0.out.size (HN.out.2.2 k hk)⟩
 have h1 := HN.out.2.2 k ((bk_mem A1 m d1 k).1 hk)
 have h2 := HSZ.out
 simp at hin
 omega
theorem wpList_append_one2 {P : Program} {ops : Array Oper} {rest : List Oper} {o : Oper} {a : Act} {w : World} {Q : Exit → Act → World → Prop} (hg : o.guard = none) (s x : Operand) (t e : TypeId)
  (ho : o.op = .call { callee := .builtin .append, args := #[s, x], argTypes := #[t, t] }) (ht : P.underlying t = some (.slice e)) (k bytes : Nat) (he : ElTy P e k bytes) (hk : 0 < k)
  (base : Nat) (v : Value) (n : Nat) (xs cs : List Value) (hs : a.eval s = v) (hown : w.ownsRow base e k v n xs) (hbase : base ≤ w.heap.size) (hcl : cs.length = k) (h1 : ∀ u ∈ cs, u.oneCell' = true)
  (g : Nat) (t' : TypeId) (hx : a.eval x = .slice (some ⟨g, 0, none⟩) 1 1) (hb : Blk w g t' cs.toArray) (hn : n < 1000000) (hby : bytes ≤ 1000)
  (h : ∀ A c w', w'.ownsRow base e k (.slice A (n + 1) c) (n + 1) (xs ++ cs) → Fr v.ownBlock.toList w w' → ((Value.slice A (n + 1) c).ownBlock = v.ownBlock ∨ (Value.slice A (n + 1) c).ownBlock = some w.heap.size) → wpList P ops Q rest (a.put o.dst (.slice A (n + 1) c)) w') : wpList P ops Q (o :: rest) a w := by
 obtain ⟨i, z, hi, hz, hzs, hsz, hbs⟩ := he
 refine wpList_append_lies w hg s x t ho base e i z k bytes ht hi hz hsz hbs hzs hk v n xs hs hown ⟨g, 0, none⟩ 1 1 cs hx (by omega) (fun j u hu => ?_) h1 (by omega) (by simp only [maxLen]; omega)
  (Nat.le_trans (Nat.mul_le_mul (show n + 1 ≤ 1000000 by omega) hby) (by decide)) hbase _ rfl (fun g' cap w' h2 h3 h4 _ => ?_)
 · have hadd : (⟨g, 0, none⟩ : Addr).add j = ⟨g, j, none⟩ := by unfold Addr.add; split <;> simp_all
   rw [hadd, hb.cell j]
   simpa using hu
 · exact h _ _ w' h2 ((Fr.refl _ w).grown h3 (fun y hy _ => by simp [hy])) (h4.imp (fun e => e.symm) (fun e => by rw [e]; rfl))
theorem el_cert : ElTy Tryz.prog 35 38 96 := ElTy.of (by kernel_rfl)
def Small (ys xs : List Wce) : Prop := ys.map (fun y => (y.k, y.l)) = xs.map (fun x => (x.k, x.l.take 5))
def zeroPr : Array Value := (Wpr.cells ⟨0, 0, 0, none, 0, 0, [], 0, 0⟩).toArray
structure Wce.In (w : World) (x : Wce) : Prop where
 k : x.k.Ok
 l : Lst 38 Wst.cells (fun _ v => v.Ok) w x.A x.n x.l
 n : x.n ≤ maxLen
 d : x.n ≤ x.d
theorem Wce.In.keep {w w' : World} {x : Wce} (h : x.In w) (hf : Fr [] w w') : x.In w' := ⟨h.k, h.l.keep' hf (by simp) (fun _ _ h => h), h.n, h.d⟩
set_option maxHeartbeats 2000000 in
theorem promiseCut_any (x : Wpr) (w : World) (h1 : i64In x.r) (h2 : i64In x.e) (h3 : x.t < 18446744073709551616) (h4 : i64In x.b) (h5 : i64In x.m) (hl : Lst 38 Wce.cells (fun w v => v.In w) w x.A x.n x.l) (hn : x.n ≤ maxLen) :
  Calls Tryz.prog 22 #[.agg x.cells.toArray] w fun e w' => ∃ A' d' ys, e = .returned (.agg (Wpr.cells ⟨x.r, x.e, x.t, A', (x.l.take 3).length, d', ys, x.b, x.m⟩).toArray) ∧
   (∀ S0 : List Nat, (∀ k ∈ S0, k < w.heap.size) → (⟨x.r, x.e, x.t, A', (x.l.take 3).length, d', ys, x.b, x.m⟩ : Wpr).Ok w' S0) ∧ Small ys (x.l.take 3) ∧ Fr [] w w' := by
 obtain ⟨wa, hwa⟩ : ∃ wa, wa = (w.alloc (Obj.cells x.cells.toArray 40)).alloc (Obj.cells zeroPr 40) := ⟨_, rfl⟩
 have hf0 : Fr [] w wa := by rw [hwa]; exact ((Fr.refl [] w).alloc _).alloc _
 have hb0 : Blk wa w.heap.size 40 x.cells.toArray := by rw [hwa]; exact blk_alloc (Blk.new _ _ _)
 have hb1 : Blk wa (w.heap.size + 1) 40 zeroPr := by
  have := Blk.new (w.alloc (Obj.cells x.cells.toArray 40)) 40 zeroPr
  rw [hwa]
  simpa using this
 have hc : wa.cell? ⟨w.heap.size, 3, none⟩ = some (.slice x.A x.n x.d) := by
  have := hb0.range (cs := x.cells) 3 (.slice x.A x.n x.d) rfl
  simpa using this
 have HB0 := Lib.hid hb0
 have HB1 := Lib.hid hb1
 have HC := Lib.hid hc
 have HF0 := Lib.hid hf0
 have HWA := Lib.hid hwa
 have HX := Lib.hid hl
 have H1 := Lib.hid h1
 have H2 := Lib.hid h2
 have H3 := Lib.hid h3
 have H4 := Lib.hid h4
 have H5 := Lib.hid h5
 have HSZ : Hid (w.heap.size + 2 ≤ wa.heap.size) := Lib.hid (by have := hb1.lt; omega)
 have hxn := hl.1
 clear hwa hf0 hb0 hb1 hc hl h1 h2 h3 h4 h5
 obtain ⟨n, hn'⟩ : ∃ n, n = x.n := ⟨_, rfl⟩
 rw [← hn'] at hn hxn
 unfold maxLen at hn
 go_enter Tryz.func22, Tryz.ntmps22
 go_upto_region 1 with (fail)
 change Code.wp _ _ _ _ ((w.alloc (Obj.cells x.cells.toArray 40)).alloc (Obj.cells zeroPr 40))
 rw [← HWA.out]
 go_wp2_with fail
 go_loopw [3, 4] (fun s i wr => ∃ (k : Nat) (A4 : Option Addr) (c4 : Nat) (ys : List Wce), k ≤ n ∧ k ≤ 3 ∧ i = .int .i64 k ∧ s = .slice A4 k c4 ∧ Hid (Small ys (x.l.take k)) ∧ Hid (wr.ownsRow wa.heap.size 35 38 (.slice A4 k c4) k (ys.flatMap Wce.cells)) ∧
   Hid (∀ y ∈ ys, y.Ok wr [] ∧ ∀ a, y.A = some a → a.block < wr.heap.size ∧ wa.heap.size ≤ a.block ∧ ∀ g, (Value.slice A4 k c4).ownBlock = some g → a.block ≠ g) ∧ Hid (Fr [] wa wr)) (fun _ i _ => 3 - (intOf i).toNat)
 case atStart => exact ⟨0, none, 0, [], by omega, by omega, rfl, rfl, Lib.hid (by simp [Small]), Lib.hid ⟨by simp, .inl ⟨rfl, rfl⟩⟩, Lib.hid (by simp), Lib.hid (Fr.refl _ _)⟩
 case round =>
  obtain ⟨k, A4, c4, ys, hk, hk3, rfl, rfl, HSM, HO, HYS, HF⟩ := hrel
  have hc := HF.out.cell HC.out (by simp)
  by_cases hlt : k < n
  · by_cases hlt3 : k < 3
    · obtain ⟨ad, v, hA, hv, hcl, hok, hcells⟩ := HX.out.at (i := k) (by omega)
      rw [← hn', hA] at hc
      have hcells' : ∀ j u, v.cells[j]? = some u → wr.cell? ((ad.add (k * 38)).add j) = some u := fun j u hj => HF.out.cell (HF0.out.cell (hcells j u hj) (by simp)) (by simp)
      have HCELLS := Lib.hid hcells'
      have HCL := Lib.hid hcl
      have HIN := Lib.hid ((hok.keep HF0.out).keep HF.out)
      have HV := Lib.hid hv
      have hk0 : (0 : Int) ≤ k := by omega
      have HONE := Lib.hid (Wce.one v)
      clear hcells hcells' hcl hok hv
      have hcv : v.cells = v.k.cells ++ [Value.slice v.A v.n v.d] := rfl
      have HCV := Lib.hid hcv
      clear hcv
      generalize v.cells = C at *
      go_wp2_with (first | (refine wpList_cells rfl 35 _ rfl _ rfl C HCELLS.out (row_crt.of HCL.out) ?_))
      rw [HCV.out]
      refine (certCut_any v.k HIN.out.k v.A v.n v.d v.l wr HIN.out.l HIN.out.n HIN.out.d).mono ?_
      rintro e w1 ⟨A1, d1, rfl, hN⟩
      generalize hm : (v.l.take 5).length = m at *
      have HM := Lib.hid hm
      have hm5 : m ≤ 5 := by rw [← hm, List.length_take]; omega
      have HM5 := Lib.hid hm5
      have HN := Lib.hid hN
      have hD : (v.k.cells ++ [Value.slice A1 m d1]).length = 38 := by simp [Wcm.len HIN.out.k.h]
      have hD1 : ∀ u ∈ v.k.cells ++ [Value.slice A1 m d1], u.oneCell' = true := by
       intro u hu
       rcases List.mem_append.1 hu with h | h
       · exact Wcm.one v.k u h
       · rw [List.mem_singleton.1 h]; rfl
      have hDY : (⟨v.k, A1, m, d1, v.l.take 5⟩ : Wce).cells = v.k.cells ++ [Value.slice A1 m d1] := rfl
      generalize v.k.cells ++ [Value.slice A1 m d1] = D at *
      have HD := Lib.hid hD
      have HD1 := Lib.hid hD1
      have HDY := Lib.hid hDY
      have HO1 := Lib.hid (own_keep HO.out HN.out.2.1 (by simp))
      have HF1 := Lib.hid (HF.out.and HN.out.2.1 (by simp))
      have HLT := Lib.hid (own_lt HO.out)
      clear hN hm hm5 hD hD1 hDY HO hc
      go_wp2_with (first | (refine wpList_build_one rfl 38 35 _ rfl Tryz.underlying38 D 96 (by rw [HD.out]; exact el_cert) rfl (by rw [HD.out]; decide) (by rw [HD.out]; decide) ?_) | (at_builtin; refine Stop.mk ?_))
      refine Stop.go ?_
      refine wpList_append_one2 rfl _ _ 38 35 rfl Tryz.underlying38 38 96 el_cert (by decide) wa.heap.size (.slice A4 k c4) k _ D rfl (HO1.out.alloc _) (by have := HF1.out.size; simp; omega) HD.out HD1.out w1.heap.size 35 rfl (Blk.new _ _ _) (by omega) (by decide) ?_
      intro A9 c9 w9 ho9 hf9 hb9
      have HO9 := Lib.hid ho9
      have HF9 := Lib.hid hf9
      have HB9 := Lib.hid hb9
      clear ho9 hf9 hb9
      go_wp2
      go_roundw
      case rel =>
       refine ⟨k + 1, A9, c9, ys ++ [⟨v.k, A1, m, d1, v.l.take 5⟩], by omega, by omega, by go_num, rfl, ?_, ?_, ?_, ?_⟩
       · have e1 : x.l.take (k + 1) = x.l.take k ++ [v] := by rw [List.take_add_one, HV.out]; rfl
         have h := HSM.out
         refine Lib.hid ?_
         rw [e1]
         unfold Small at *
         rw [List.map_append, List.map_append, h]
         rfl
       · refine Lib.hid ?_
         rw [List.flatMap_append, List.flatMap_singleton, HDY.out]
         exact HO9.out
       · refine Lib.hid (fun y hy => ?_)
         have hfS : Fr (Value.slice A4 k c4).ownBlock.toList wr w9 := ((HN.out.2.1.alloc _).mono (T := (Value.slice A4 k c4).ownBlock.toList) (by simp)).trans HF9.out (fun y hy _ => hy)
         have hsz : (w1.alloc (Obj.cells D.toArray 35)).heap.size = w1.heap.size + 1 := by simp
         have hs1 := HN.out.2.1.size
         have hs9 := HF9.out.size
         rcases List.mem_append.1 hy with hy | hy
         · obtain ⟨hok, hbl⟩ := HYS.out y hy
           have hok2 : y.Ok wr (Value.slice A4 k c4).ownBlock.toList := ⟨hok.k, hok.l, hok.n, fun hn a ha hin => (hbl a ha).2.2 a.block (by simpa using hin) rfl⟩
           refine ⟨hok2.keep hfS (by simp), fun a ha => ⟨by have := (hbl a ha).1; omega, (hbl a ha).2.1, fun g hg => ?_⟩⟩
           rcases HB9.out with h | h
           · exact (hbl a ha).2.2 g (by rw [← h]; exact hg)
           · rw [h] at hg
             injection hg with hg
             have := (hbl a ha).1
             omega
         · rw [List.mem_singleton.1 hy]
           have hge : ∀ a, A1 = some a → wr.heap.size ≤ a.block := fun a ha => HN.out.2.2 a.block (by rw [ha]; simp [bk])
           have hlt : ∀ a, A1 = some a → a.block < w1.heap.size := fun a ha => own_lt HN.out.1 a.block (by rw [bk_mem, ha]; simp [bk])
           have hl1 : Lst 38 Wst.cells (fun _ v => v.Ok) w1 A1 m (v.l.take 5) := Lst.of_own HN.out.1 HM.out (fun u hu => HIN.out.l.2.1 u (List.mem_of_mem_take hu))
           refine ⟨⟨HIN.out.k, hl1.keep' (S := (Value.slice A4 k c4).ownBlock.toList) ((((Fr.refl [] w1).alloc _).mono (by simp)).trans HF9.out (fun y hy _ => hy)) (fun _ a ha hin => ?_) (fun _ _ h => h), HM5.out, by simp⟩, fun a ha => ⟨by have := hlt a ha; omega, by have := hge a ha; have := HF.out.size; omega, fun g hg => ?_⟩⟩
           · have := HLT.out a.block (by simpa using hin)
             have := hge a ha
             omega
           · rcases HB9.out with h | h
             · have := HLT.out g (by rw [← h]; exact hg)
               have := hge a ha
               omega
             · rw [h] at hg
               injection hg with hg
               have := hlt a ha
               omega
       · exact Lib.hid ((HF1.out.alloc _).and HF9.out (fun y hy => (HO1.out.lt y (by simpa using hy)).1))
      case measure => simp [intOf]; omega
    · -- three are there
      have hbx := HB0.out.keep HF.out (by simp)
      have hz := hbx.frozen 3
      have HKL : Hid ((x.l.take 3).length = k) := Lib.hid (by rw [List.length_take]; omega)
      have HTK : Hid (x.l.take k = x.l.take 3) := Lib.hid (by rcases Nat.lt_or_ge k 3 with h | h; · rw [List.take_of_length_le (by omega), List.take_of_length_le (by omega)]
                                                              · rw [show k = 3 by omega])
      have hset : x.cells.toArray.setIfInBounds 3 (Value.slice A4 k c4) = (Wpr.cells ⟨x.r, x.e, x.t, A4, k, c4, ys, x.b, x.m⟩).toArray := rfl
      have HW2 := Lib.hid (hset ▸ hbx.set 3 (Value.slice A4 k c4))
      have hf2 : Fr [w.heap.size] wr (wr.setCell ⟨w.heap.size, 3, none⟩ (Value.slice A4 k c4)) := (Fr.refl _ wr).setCell ⟨w.heap.size, 3, none⟩ (fun _ => by simp) (Value.slice A4 k c4)
      have HB1S := Lib.hid ((HB1.out.keep HF.out (by simp)).keep hf2 (by simp))
      have HF2 := Lib.hid hf2
      have HCS : Hid ((Wpr.cells ⟨x.r, x.e, x.t, A4, k, c4, ys, x.b, x.m⟩).toArray = (Wpr.cells ⟨x.r, x.e, x.t, A4, k, c4, ys, x.b, x.m⟩).toArray) := Lib.hid rfl
      have HZS : Hid ((Tryz.prog.info? 40).map (·.size) = some (Wpr.cells ⟨x.r, x.e, x.t, A4, k, c4, ys, x.b, x.m⟩).toArray.size) := Lib.hid (by kernel_rfl)
      have HAL : Hid ((Wpr.cells ⟨x.r, x.e, x.t, A4, k, c4, ys, x.b, x.m⟩).toArray.all (·.oneCell') = true) := Lib.hid (all_oneCell_toArray (Wpr.one _))
      have HZP : Hid (zeroPr.size = (Wpr.cells ⟨x.r, x.e, x.t, A4, k, c4, ys, x.b, x.m⟩).toArray.size) := Lib.hid rfl
      generalize hcc : (Wpr.cells ⟨x.r, x.e, x.t, A4, k, c4, ys, x.b, x.m⟩).toArray = CC at *
      have HCC := Lib.hid hcc
      have hc := hc
      rw [← hn'] at hc
      clear hcc hset hf2 hbx
      go_wp2_with (first
       | (refine wpList_load_row rfl 40 _ rfl w.heap.size rfl 40 CC _ _ HW2.out Tryz.underlying40 rfl HZS.out ?_)
       | (refine wpList_store_blk rfl 40 _ _ rfl (w.heap.size + 1) CC rfl rfl 40 zeroPr HB1S.out HZS.out HZP.out HAL.out ?_
          intro w3 hb3 hf3
          have HB3 := Lib.hid hb3
          have HF3 := Lib.hid hf3
          clear hb3 hf3))
      have hkm : min 3 x.n = k := by omega
      rw [hkm]
      have hyl : ys.length = k := by
       have := congrArg List.length HSM.out
       simp at this
       omega
      have HFa : Fr [w.heap.size, w.heap.size + 1] wr w3 := (HF2.out.mono (by intro k hk _; simp at hk; simp [hk])).trans HF3.out (by intro k hk _; simp at hk; simp [hk])
      have hsz := HSZ.out
      refine bodyPost_ret (v := .agg CC) (results_cell_row Tryz.results22 _ _ (w.heap.size + 1) 40 CC _ _ rfl HB3.out Tryz.underlying40 rfl HZS.out) rfl ⟨A4, c4, ys, by rw [HCC.out], fun S0 hS0 => ⟨H1.out, H2.out, H3.out, ?_, by show k ≤ 3; omega, fun _ a ha hin => ?_, H4.out, H5.out⟩, HTK.out ▸ HSM.out, (HF0.out.and HF.out (by simp)).and HFa (fun k hk => by simp at hk; omega)⟩
      · have hlw : Lst 38 Wce.cells (fun w v => v.Ok w S0) wr A4 k ys := Lst.of_own HO.out hyl (fun y hy => ⟨Wce.len (HYS.out y hy).1.k.h, (HYS.out y hy).1.k, (HYS.out y hy).1.l, (HYS.out y hy).1.n, fun hn a ha hin => by
         have h1 := ((HYS.out y hy).2 a ha).2.1
         have h2 := hS0 _ hin
         omega⟩)
        refine hlw.keep' HFa (fun _ a ha hin => ?_) (fun y hy hok => ?_)
        · have := (HO.out.lt a.block (by rw [bk_mem, ha]; simp [bk])).1
          simp at hin
          omega
        · have hok2 : y.Ok wr (w.heap.size :: (w.heap.size + 1) :: S0) := ⟨hok.k, hok.l, hok.n, fun hn a ha hin => by
           have h1 := ((HYS.out y hy).2 a ha).2.1
           simp only [List.mem_cons] at hin
           rcases hin with h | h | h
           · omega
           · omega
           · have h2 := hS0 _ h
             omega⟩
          exact hok2.keep (HFa.mono (by intro k hk _; simp at hk; rcases hk with rfl | rfl <;> simp)) (fun k hk _ => by simp [hk])
      · have ha : A4 = some a := ha
        have h1 := (HO.out.lt a.block (by rw [bk_mem, ha]; simp [bk])).1
        have h2 := hS0 _ hin
        omega
  · -- no more are there
    have hbx := HB0.out.keep HF.out (by simp)
    have hz := hbx.frozen 3
    have HKL : Hid ((x.l.take 3).length = k) := Lib.hid (by rw [List.length_take]; omega)
    have HTK : Hid (x.l.take k = x.l.take 3) := Lib.hid (by rcases Nat.lt_or_ge k 3 with h | h; · rw [List.take_of_length_le (by omega), List.take_of_length_le (by omega)]
                                                            · rw [show k = 3 by omega])
    have hset : x.cells.toArray.setIfInBounds 3 (Value.slice A4 k c4) = (Wpr.cells ⟨x.r, x.e, x.t, A4, k, c4, ys, x.b, x.m⟩).toArray := rfl
    have HW2 := Lib.hid (hset ▸ hbx.set 3 (Value.slice A4 k c4))
    have hf2 : Fr [w.heap.size] wr (wr.setCell ⟨w.heap.size, 3, none⟩ (Value.slice A4 k c4)) := (Fr.refl _ wr).setCell ⟨w.heap.size, 3, none⟩ (fun _ => by simp) (Value.slice A4 k c4)
    have HB1S := Lib.hid ((HB1.out.keep HF.out (by simp)).keep hf2 (by simp))
    have HF2 := Lib.hid hf2
    have HCS : Hid ((Wpr.cells ⟨x.r, x.e, x.t, A4, k, c4, ys, x.b, x.m⟩).toArray = (Wpr.cells ⟨x.r, x.e, x.t, A4, k, c4, ys, x.b, x.m⟩).toArray) := Lib.hid rfl
    have HZS : Hid ((Tryz.prog.info? 40).map (·.size) = some (Wpr.cells ⟨x.r, x.e, x.t, A4, k, c4, ys, x.b, x.m⟩).toArray.size) := Lib.hid (by kernel_rfl)
    have HAL : Hid ((Wpr.cells ⟨x.r, x.e, x.t, A4, k, c4, ys, x.b, x.m⟩).toArray.all (·.oneCell') = true) := Lib.hid (all_oneCell_toArray (Wpr.one _))
    have HZP : Hid (zeroPr.size = (Wpr.cells ⟨x.r, x.e, x.t, A4, k, c4, ys, x.b, x.m⟩).toArray.size) := Lib.hid rfl
    generalize hcc : (Wpr.cells ⟨x.r, x.e, x.t, A4, k, c4, ys, x.b, x.m⟩).toArray = CC at *
    have HCC := Lib.hid hcc
    have hc := hc
    rw [← hn'] at hc
    clear hcc hset hf2 hbx
    go_wp2_with (first
     | (refine wpList_load_row rfl 40 _ rfl w.heap.size rfl 40 CC _ _ HW2.out Tryz.underlying40 rfl HZS.out ?_)
     | (refine wpList_store_blk rfl 40 _ _ rfl (w.heap.size + 1) CC rfl rfl 40 zeroPr HB1S.out HZS.out HZP.out HAL.out ?_
        intro w3 hb3 hf3
        have HB3 := Lib.hid hb3
        have HF3 := Lib.hid hf3
        clear hb3 hf3))
    have hkm : min 3 x.n = k := by omega
    rw [hkm]
    have hyl : ys.length = k := by
     have := congrArg List.length HSM.out
     simp at this
     omega
    have HFa : Fr [w.heap.size, w.heap.size + 1] wr w3 := (HF2.out.mono (by intro k hk _; simp at hk; simp [hk])).trans HF3.out (by intro k hk _; simp at hk; simp [hk])
    have hsz := HSZ.out
    refine bodyPost_ret (v := .agg CC) (results_cell_row Tryz.results22 _ _ (w.heap.size + 1) 40 CC _ _ rfl HB3.out Tryz.underlying40 rfl HZS.out) rfl ⟨A4, c4, ys, by rw [HCC.out], fun S0 hS0 => ⟨H1.out, H2.out, H3.out, ?_, by show k ≤ 3; omega, fun _ a ha hin => ?_, H4.out, H5.out⟩, HTK.out ▸ HSM.out, (HF0.out.and HF.out (by simp)).and HFa (fun k hk => by simp at hk; omega)⟩
    · have hlw : Lst 38 Wce.cells (fun w v => v.Ok w S0) wr A4 k ys := Lst.of_own HO.out hyl (fun y hy => ⟨Wce.len (HYS.out y hy).1.k.h, (HYS.out y hy).1.k, (HYS.out y hy).1.l, (HYS.out y hy).1.n, fun hn a ha hin => by
       have h1 := ((HYS.out y hy).2 a ha).2.1
       have h2 := hS0 _ hin
       omega⟩)
      refine hlw.keep' HFa (fun _ a ha hin => ?_) (fun y hy hok => ?_)
      · have := (HO.out.lt a.block (by rw [bk_mem, ha]; simp [bk])).1
        simp at hin
        omega
      · have hok2 : y.Ok wr (w.heap.size :: (w.heap.size + 1) :: S0) := ⟨hok.k, hok.l, hok.n, fun hn a ha hin => by
         have h1 := ((HYS.out y hy).2 a ha).2.1
         simp only [List.mem_cons] at hin
         rcases hin with h | h | h
         · omega
         · omega
         · have h2 := hS0 _ h
           omega⟩
        exact hok2.keep (HFa.mono (by intro k hk _; simp at hk; rcases hk with rfl | rfl <;> simp)) (fun k hk _ => by simp [hk])
    · have ha : A4 = some a := ha
      have h1 := (HO.out.lt a.block (by rw [bk_mem, ha]; simp [bk])).1
      have h2 := hS0 _ hin
      omega
end Go.Proofs.YtpcnedpheplofaaGreat

namespace Go.Proofs.YtpcnedpheplofaaGreat
open Go.ChangeShapes Go.WideShapes Go.ChangeAt Go.RowKit
set_option maxRecDepth 100000
theorem lst_of_cells {α : Type} [Inhabited α] {H : Type} {enc : TypeId × Value → H} {w : World} {spare : Nat → Bool} {held : Bool} {k : Nat} {cells : α → List Value} {ok : World → α → Prop} {t e : TypeId} (ht : Tryz.prog.underlying t = some (.slice e)) (hc : Tryz.prog.cellsOf e = k)
  (hel : ∀ fuel cs (x : DataW H × List MemPlace), DataW.trod enc Tryz.prog w 0 spare held fuel e cs = some x → ∃ v : α, ok w v ∧ cs = cells v) {fuel : Nat} {cs : List Value} {x : DataW H × List MemPlace} (h : DataW.trod enc Tryz.prog w 0 spare held fuel t cs = some x) :
  ∃ A n d, ∃ l : List α, cs = [.slice A n d] ∧ Lst k cells ok w A n l ∧ n ≤ d ∧ d ≤ maxLen := by
 rcases Go.Deep.open_slice ht h with ⟨rfl, _⟩ | ⟨a, len', cap', m, n, D, Pl, rfl, _⟩
 · obtain ⟨l, h1, h2, h3⟩ := lst_of_trod ht hc hel h
   exact ⟨_, _, _, l, rfl, h1, h2, h3⟩
 · obtain ⟨l, h1, h2, h3⟩ := lst_of_trod ht hc hel h
   exact ⟨_, _, _, l, rfl, h1, h2, h3⟩
theorem stamp_of_trod {H : Type} {enc : TypeId × Value → H} {W : World} {sp : Nat → Bool} {held : Bool} {fuel : Nat} {cs : List Value} {x0 : DataW H × List MemPlace} (h : DataW.trod enc Tryz.prog W 0 sp held fuel 32 cs = some x0) :
  ∃ x : Wst, x.Ok ∧ cs = x.cells := by
 obtain ⟨xs, m, _, _, hlen, hxl, hat⟩ := DataW.trod_struct Tryz.underlying32 h
 rw [show Tryz.prog.cellsOf 32 = 38 by kernel_rfl] at hlen
 have hx : ∀ i (hi : i < 5), xs[i]? = some (xs[i]'(by rw [hxl]; exact hi)) := fun i hi => List.getElem?_eq_getElem _
 have f0 : DataW.trod enc Tryz.prog W 0 sp held m 3 ((cs.drop 0).take (Tryz.prog.cellsOf 3)) = _ := (hat 0 _ rfl).trans (hx 0 (by omega))
 rw [show Tryz.prog.cellsOf 3 = 1 by kernel_rfl] at f0
 obtain ⟨r, e0, _, w0⟩ := DataW.trod_int Tryz.underlying3 f0
 have f1 : DataW.trod enc Tryz.prog W 0 sp held m 23 ((cs.drop 1).take (Tryz.prog.cellsOf 23)) = _ := (hat 1 _ rfl).trans (hx 1 (by omega))
 rw [show Tryz.prog.cellsOf 23 = 2 by kernel_rfl] at f1
 obtain ⟨c, s, w1, w1', e1⟩ := pair_of_trod Tryz.underlying23 ⟨rfl, rfl⟩ ⟨rfl, rfl⟩ (by kernel_rfl) f1
 have f2 : DataW.trod enc Tryz.prog W 0 sp held m 25 ((cs.drop 3).take (Tryz.prog.cellsOf 25)) = _ := (hat 2 _ rfl).trans (hx 2 (by omega))
 rw [show Tryz.prog.cellsOf 25 = 32 by kernel_rfl] at f2
 obtain ⟨hh, w2, e2⟩ := hash_of_trod f2
 have f3 : DataW.trod enc Tryz.prog W 0 sp held m 30 ((cs.drop 35).take (Tryz.prog.cellsOf 30)) = _ := (hat 3 _ rfl).trans (hx 3 (by omega))
 rw [show Tryz.prog.cellsOf 30 = 1 by kernel_rfl] at f3
 obtain ⟨u3, e3, _, w3⟩ := DataW.trod_int Tryz.underlying30 f3
 obtain ⟨t, rfl, b3⟩ := u64_of w3
 have f4 : DataW.trod enc Tryz.prog W 0 sp held m 27 ((cs.drop 36).take (Tryz.prog.cellsOf 27)) = _ := (hat 4 _ rfl).trans (hx 4 (by omega))
 rw [show Tryz.prog.cellsOf 27 = 2 by kernel_rfl] at f4
 obtain ⟨b, mm, w4, w4', e4⟩ := pair_of_trod Tryz.underlying27 ⟨rfl, rfl⟩ ⟨rfl, rfl⟩ (by kernel_rfl) f4
 refine ⟨⟨r, c, s, hh, t, b, mm⟩, ⟨i64In_of w0, w1, w1', w2, b3, w4, w4'⟩, ?_⟩
 have z : cs.drop 38 = [] := List.drop_eq_nil_of_le (by omega)
 have s0 : cs = cs.drop 0 := rfl
 rw [s0, cut_at cs 0 1 1 rfl, e0, cut_at cs 1 2 3 rfl, e1, cut_at cs 3 32 35 rfl, e2, cut_at cs 35 1 36 rfl, e3, cut_at cs 36 2 38 rfl, e4, z]
 simp [Wst.cells]
theorem deny_of_trod {H : Type} {enc : TypeId × Value → H} {W : World} {sp : Nat → Bool} {held : Bool} {fuel : Nat} {cs : List Value} {x0 : DataW H × List MemPlace} (h : DataW.trod enc Tryz.prog W 0 sp held fuel 56 cs = some x0) :
  ∃ x : Wdn, x.Ok ∧ cs = x.cells := by
 obtain ⟨xs, m, _, _, hlen, hxl, hat⟩ := DataW.trod_struct Tryz.underlying56 h
 rw [show Tryz.prog.cellsOf 56 = 4 by kernel_rfl] at hlen
 have hx : ∀ i (hi : i < 3), xs[i]? = some (xs[i]'(by rw [hxl]; exact hi)) := fun i hi => List.getElem?_eq_getElem _
 have f0 : DataW.trod enc Tryz.prog W 0 sp held m 3 ((cs.drop 0).take (Tryz.prog.cellsOf 3)) = _ := (hat 0 _ rfl).trans (hx 0 (by omega))
 rw [show Tryz.prog.cellsOf 3 = 1 by kernel_rfl] at f0
 obtain ⟨r, e0, _, w0⟩ := DataW.trod_int Tryz.underlying3 f0
 have f1 : DataW.trod enc Tryz.prog W 0 sp held m 3 ((cs.drop 1).take (Tryz.prog.cellsOf 3)) = _ := (hat 1 _ rfl).trans (hx 1 (by omega))
 rw [show Tryz.prog.cellsOf 3 = 1 by kernel_rfl] at f1
 obtain ⟨i, e1, _, w1⟩ := DataW.trod_int Tryz.underlying3 f1
 have f2 : DataW.trod enc Tryz.prog W 0 sp held m 27 ((cs.drop 2).take (Tryz.prog.cellsOf 27)) = _ := (hat 2 _ rfl).trans (hx 2 (by omega))
 rw [show Tryz.prog.cellsOf 27 = 2 by kernel_rfl] at f2
 obtain ⟨b, mm, w2, w2', e2⟩ := pair_of_trod Tryz.underlying27 ⟨rfl, rfl⟩ ⟨rfl, rfl⟩ (by kernel_rfl) f2
 refine ⟨⟨r, i, b, mm⟩, ⟨i64In_of w0, i64In_of w1, w2, w2'⟩, ?_⟩
 have z : cs.drop 4 = [] := List.drop_eq_nil_of_le (by omega)
 have s0 : cs = cs.drop 0 := rfl
 rw [s0, cut_at cs 0 1 1 rfl, e0, cut_at cs 1 1 2 rfl, e1, cut_at cs 2 2 4 rfl, e2, z]
 simp [Wdn.cells]
theorem commit_of_trod {H : Type} {enc : TypeId × Value → H} {W : World} {sp : Nat → Bool} {held : Bool} {fuel : Nat} {cs : List Value} {x0 : DataW H × List MemPlace} (h : DataW.trod enc Tryz.prog W 0 sp held fuel 29 cs = some x0) :
  ∃ x : Wcm, x.Ok ∧ cs = x.cells := by
 obtain ⟨xs, m, _, _, hlen, hxl, hat⟩ := DataW.trod_struct Tryz.underlying29 h
 rw [show Tryz.prog.cellsOf 29 = 37 by kernel_rfl] at hlen
 have hx : ∀ i (hi : i < 4), xs[i]? = some (xs[i]'(by rw [hxl]; exact hi)) := fun i hi => List.getElem?_eq_getElem _
 have f0 : DataW.trod enc Tryz.prog W 0 sp held m 23 ((cs.drop 0).take (Tryz.prog.cellsOf 23)) = _ := (hat 0 _ rfl).trans (hx 0 (by omega))
 rw [show Tryz.prog.cellsOf 23 = 2 by kernel_rfl] at f0
 obtain ⟨c, s, w0, w0', e0⟩ := pair_of_trod Tryz.underlying23 ⟨rfl, rfl⟩ ⟨rfl, rfl⟩ (by kernel_rfl) f0
 have f1 : DataW.trod enc Tryz.prog W 0 sp held m 25 ((cs.drop 2).take (Tryz.prog.cellsOf 25)) = _ := (hat 1 _ rfl).trans (hx 1 (by omega))
 rw [show Tryz.prog.cellsOf 25 = 32 by kernel_rfl] at f1
 obtain ⟨hh, w1, e1⟩ := hash_of_trod f1
 have f2 : DataW.trod enc Tryz.prog W 0 sp held m 3 ((cs.drop 34).take (Tryz.prog.cellsOf 3)) = _ := (hat 2 _ rfl).trans (hx 2 (by omega))
 rw [show Tryz.prog.cellsOf 3 = 1 by kernel_rfl] at f2
 obtain ⟨n, e2, _, w2⟩ := DataW.trod_int Tryz.underlying3 f2
 have f3 : DataW.trod enc Tryz.prog W 0 sp held m 27 ((cs.drop 35).take (Tryz.prog.cellsOf 27)) = _ := (hat 3 _ rfl).trans (hx 3 (by omega))
 rw [show Tryz.prog.cellsOf 27 = 2 by kernel_rfl] at f3
 obtain ⟨b, mm, w3, w3', e3⟩ := pair_of_trod Tryz.underlying27 ⟨rfl, rfl⟩ ⟨rfl, rfl⟩ (by kernel_rfl) f3
 refine ⟨⟨c, s, hh, n, b, mm⟩, ⟨w0, w0', w1, i64In_of w2, w3, w3'⟩, ?_⟩
 have z : cs.drop 37 = [] := List.drop_eq_nil_of_le (by omega)
 have s0 : cs = cs.drop 0 := rfl
 rw [s0, cut_at cs 0 2 2 rfl, e0, cut_at cs 2 32 34 rfl, e1, cut_at cs 34 1 35 rfl, e2, cut_at cs 35 2 37 rfl, e3, z]
 simp [Wcm.cells]
instance : Inhabited Wst := ⟨⟨0, 0, 0, [], 0, 0, 0⟩⟩
instance : Inhabited Wdn := ⟨⟨0, 0, 0, 0⟩⟩
instance : Inhabited Wce := ⟨⟨⟨0, 0, [], 0, 0, 0⟩, none, 0, 0, []⟩⟩
theorem cert_of_trod {H : Type} {enc : TypeId × Value → H} {W : World} {sp : Nat → Bool} {held : Bool} {fuel : Nat} {cs : List Value} {x0 : DataW H × List MemPlace} (h : DataW.trod enc Tryz.prog W 0 sp held fuel 35 cs = some x0) :
  ∃ x : Wce, x.In W ∧ cs = x.cells := by
 obtain ⟨xs, m, _, _, hlen, hxl, hat⟩ := DataW.trod_struct Tryz.underlying35 h
 rw [show Tryz.prog.cellsOf 35 = 38 by kernel_rfl] at hlen
 have hx : ∀ i (hi : i < 2), xs[i]? = some (xs[i]'(by rw [hxl]; exact hi)) := fun i hi => List.getElem?_eq_getElem _
 have f0 : DataW.trod enc Tryz.prog W 0 sp held m 29 ((cs.drop 0).take (Tryz.prog.cellsOf 29)) = _ := (hat 0 _ rfl).trans (hx 0 (by omega))
 rw [show Tryz.prog.cellsOf 29 = 37 by kernel_rfl] at f0
 obtain ⟨k, w0, e0⟩ := commit_of_trod f0
 have f1 : DataW.trod enc Tryz.prog W 0 sp held m 33 ((cs.drop 37).take (Tryz.prog.cellsOf 33)) = _ := (hat 1 _ rfl).trans (hx 1 (by omega))
 rw [show Tryz.prog.cellsOf 33 = 1 by kernel_rfl] at f1
 obtain ⟨A, n, d, l, e1, w1, w1', w1''⟩ := lst_of_cells (cells := Wst.cells) (ok := fun _ v => v.Ok) (k := 38) Tryz.underlying33 (by kernel_rfl) (fun fuel cs x h => stamp_of_trod h) f1
 refine ⟨⟨k, A, n, d, l⟩, ⟨w0, w1, Nat.le_trans w1' w1'', w1'⟩, ?_⟩
 have z : cs.drop 38 = [] := List.drop_eq_nil_of_le (by omega)
 have s0 : cs = cs.drop 0 := rfl
 rw [s0, cut_at cs 0 37 37 rfl, e0, cut_at cs 37 1 38 rfl, e1, z]
 simp [Wce.cells]
structure Wpr.In (w : World) (x : Wpr) : Prop where
 r : i64In x.r
 e : i64In x.e
 t : x.t < 18446744073709551616
 l : Lst 38 Wce.cells (fun w v => v.In w) w x.A x.n x.l
 n : x.n ≤ maxLen
 d : x.n ≤ x.d
 b : i64In x.b
 m : i64In x.m
theorem promise_of_trod {H : Type} {enc : TypeId × Value → H} {W : World} {sp : Nat → Bool} {held : Bool} {fuel : Nat} {cs : List Value} {x0 : DataW H × List MemPlace} (h : DataW.trod enc Tryz.prog W 0 sp held fuel 40 cs = some x0) :
  ∃ x : Wpr, x.In W ∧ cs = x.cells := by
 obtain ⟨xs, m, _, _, hlen, hxl, hat⟩ := DataW.trod_struct Tryz.underlying40 h
 rw [show Tryz.prog.cellsOf 40 = 6 by kernel_rfl] at hlen
 have hx : ∀ i (hi : i < 5), xs[i]? = some (xs[i]'(by rw [hxl]; exact hi)) := fun i hi => List.getElem?_eq_getElem _
 have f0 : DataW.trod enc Tryz.prog W 0 sp held m 3 ((cs.drop 0).take (Tryz.prog.cellsOf 3)) = _ := (hat 0 _ rfl).trans (hx 0 (by omega))
 rw [show Tryz.prog.cellsOf 3 = 1 by kernel_rfl] at f0
 obtain ⟨r, e0, _, w0⟩ := DataW.trod_int Tryz.underlying3 f0
 have f1 : DataW.trod enc Tryz.prog W 0 sp held m 3 ((cs.drop 1).take (Tryz.prog.cellsOf 3)) = _ := (hat 1 _ rfl).trans (hx 1 (by omega))
 rw [show Tryz.prog.cellsOf 3 = 1 by kernel_rfl] at f1
 obtain ⟨e, e1, _, w1⟩ := DataW.trod_int Tryz.underlying3 f1
 have f2 : DataW.trod enc Tryz.prog W 0 sp held m 30 ((cs.drop 2).take (Tryz.prog.cellsOf 30)) = _ := (hat 2 _ rfl).trans (hx 2 (by omega))
 rw [show Tryz.prog.cellsOf 30 = 1 by kernel_rfl] at f2
 obtain ⟨u2, e2, _, w2⟩ := DataW.trod_int Tryz.underlying30 f2
 obtain ⟨t, rfl, b2⟩ := u64_of w2
 have f3 : DataW.trod enc Tryz.prog W 0 sp held m 38 ((cs.drop 3).take (Tryz.prog.cellsOf 38)) = _ := (hat 3 _ rfl).trans (hx 3 (by omega))
 rw [show Tryz.prog.cellsOf 38 = 1 by kernel_rfl] at f3
 obtain ⟨A, n, d, l, e3, w3, w3', w3''⟩ := lst_of_cells (cells := Wce.cells) (ok := fun w v => v.In w) (k := 38) Tryz.underlying38 (by kernel_rfl) (fun fuel cs x h => cert_of_trod h) f3
 have f4 : DataW.trod enc Tryz.prog W 0 sp held m 27 ((cs.drop 4).take (Tryz.prog.cellsOf 27)) = _ := (hat 4 _ rfl).trans (hx 4 (by omega))
 rw [show Tryz.prog.cellsOf 27 = 2 by kernel_rfl] at f4
 obtain ⟨b, mm, w4, w4', e4⟩ := pair_of_trod Tryz.underlying27 ⟨rfl, rfl⟩ ⟨rfl, rfl⟩ (by kernel_rfl) f4
 refine ⟨⟨r, e, t, A, n, d, l, b, mm⟩, ⟨i64In_of w0, i64In_of w1, b2, w3, Nat.le_trans w3' w3'', w3', w4, w4'⟩, ?_⟩
 have z : cs.drop 6 = [] := List.drop_eq_nil_of_le (by omega)
 have s0 : cs = cs.drop 0 := rfl
 rw [s0, cut_at cs 0 1 1 rfl, e0, cut_at cs 1 1 2 rfl, e1, cut_at cs 2 1 3 rfl, e2, cut_at cs 3 1 4 rfl, e3, cut_at cs 4 2 6 rfl, e4, z]
 simp [Wpr.cells]
end Go.Proofs.YtpcnedpheplofaaGreat

namespace Go.Proofs.YtpcnedpheplofaaGreat
open Go.ChangeShapes Go.WideShapes Go.ChangeAt Go.RowKit
set_option maxRecDepth 100000
end Go.Proofs.YtpcnedpheplofaaGreat

namespace Go.Proofs.YtpcnedpheplofaaGreat
open Go.RowKit
set_option maxRecDepth 100000
theorem el_deny : ElTy Tryz.prog 56 4 32 := ElTy.of (by kernel_rfl)
theorem copyDenies_any (A : Option Addr) (n c : Nat) (l : List Wdn) (w : World) (hr : Lst 4 Wdn.cells (fun _ v => v.Ok) w A n l) (hn : n ≤ 1000000) :
  Calls Tryz.prog 117 #[.slice A n c] w fun e w' => ∃ A' c', e = .returned (.slice A' n c') ∧ NewL 56 4 Wdn.cells w w' A' n c' l := by
 have HR := Lib.hid hr
 have HN := Lib.hid hn
 clear hr hn
 go_enter Tryz.func117, Tryz.ntmps117
 go_wp2_with (at_builtin; refine Stop.mk ?_)
 refine Stop.go ?_
 refine wpList_append_lst _ rfl (.const (.slice none 0 0)) (.tmp 3) _ rfl 56 4 32 Tryz.underlying130 el_deny (by decide) (by decide) Wdn.one rfl A n c l rfl HR.out HN.out ?_
 intro A1 c1 w1 ho1
 have HO := Lib.hid ho1
 clear ho1
 go_wp2
 go_ret
 exact ⟨A1, c1, rfl, HO.out⟩
theorem cutDenies_any (A : Option Addr) (n c m : Nat) (l : List Wdn) (w : World) (hr : Lst 4 Wdn.cells (fun _ v => v.Ok) w A n l) (hn : n ≤ maxLen) (hc : n ≤ c) (hm : m ≤ 1000000) :
  Calls Tryz.prog 75 #[.slice A n c, .int .i64 m] w fun e w' => ∃ A' c', e = .returned (.slice A' (l.take m).length c') ∧ NewL 56 4 Wdn.cells w w' A' (l.take m).length c' (l.take m) := by
 unfold maxLen at hn
 have HR := Lib.hid hr
 have HL : Hid ((l.take m).length = min m n) := by rw [List.length_take, hr.1]; rfl
 clear hr
 by_cases hnm : n ≤ m
 · have hmin : Hid (min m n = n) := Nat.min_eq_right hnm
   go_enter Tryz.func75, Tryz.ntmps75
   go_wp2_with fail
   rw [show (min (n : Int) (m : Int)).toNat = n by omega]
   refine (copyDenies_any A n c (l.take m) w (by have h := HR.out.1; rw [List.take_of_length_le (by omega)]; exact HR.out) (by omega)).mono ?_
   rintro e w1 ⟨A1, c1, rfl, hN⟩
   have HN := Lib.hid hN
   clear hN
   go_wp2
   go_ret
   rw [HL.out, hmin.out]
   exact ⟨A1, c1, rfl, HN.out⟩
 · have hmin : Hid (min m n = m) := Nat.min_eq_left (by omega)
   have hmc : m ≤ c := by omega
   go_enter Tryz.func75, Tryz.ntmps75
   go_wp2_with fail
   rw [show (min (n : Int) (m : Int)).toNat = m by omega]
   refine (copyDenies_any A m c (l.take m) w (HR.out.take (by omega)) (by omega)).mono ?_
   rintro e w1 ⟨A1, c1, rfl, hN⟩
   have HN := Lib.hid hN
   clear hN
   go_wp2
   go_ret
   rw [HL.out, hmin.out]
   exact ⟨A1, c1, rfl, HN.out⟩
theorem el_prm : ElTy Tryz.prog 40 6 64 := ElTy.of (by kernel_rfl)
theorem el_opn : ElTy Tryz.prog 54 34 64 := ElTy.of (by kernel_rfl)
theorem el_tomb : ElTy Tryz.prog 132 2 32 := ElTy.of (by kernel_rfl)
theorem keepAll {α : Type} {ok : World → List Nat → α → Prop} (hkeep : ∀ {w W : World} {S S' : List Nat} {x : α}, ok w S x → Fr S w W → (∀ k ∈ S', k < w.heap.size → k ∈ S) → ok W S' x)
  {N : Nat} {w w9 : World} {B4 B9 : List Nat} (hf : Fr B4 w w9) (hb : ∀ q ∈ B9, q ∈ B4 ∨ w.heap.size ≤ q) {x : α} (h : ∀ S0, (∀ q ∈ S0, q < N ∨ q ∈ B4) → ok w S0 x) :
  ∀ S0, (∀ q ∈ S0, q < N ∨ q ∈ B9) → ok w9 S0 x := by
 intro S0 h0
 refine hkeep (h (B4 ++ S0.filter (fun q => decide (q < N))) (fun q hq => ?_)) (hf.mono (fun k hk _ => List.mem_append.2 (.inl hk))) (fun q hq hl => ?_)
 · rcases List.mem_append.1 hq with hq | hq
   · exact .inr hq
   · exact .inl (by simpa using (List.mem_filter.1 hq).2)
 · rcases h0 q hq with h1 | h1
   · exact List.mem_append.2 (.inr (List.mem_filter.2 ⟨hq, by simpa using h1⟩))
   · rcases hb q h1 with h2 | h2
     · exact List.mem_append.2 (.inl h2)
     · omega
structure Wop.In (w : World) (x : Wop) : Prop where
 i : i64In x.i
 p : By w x.A x.n x.p
 n : x.n ≤ maxLen
 d : x.n ≤ x.d
 h : x.h.length = 32
theorem Wop.In.keep {w w' : World} {x : Wop} (h : x.In w) (hf : Fr [] w w') : x.In w' := ⟨h.i, h.p.keep hf (by simp), h.n, h.d, h.h⟩
structure Wtb.In (w : World) (x : Wtb) : Prop where
 i : i64In x.i
 l : Lst 4 Wdn.cells (fun _ v => v.Ok) w x.A x.n x.l
 n : x.n ≤ maxLen
 d : x.n ≤ x.d
theorem Wtb.In.keep {w w' : World} {x : Wtb} (h : x.In w) (hf : Fr [] w w') : x.In w' := ⟨h.i, h.l.keep' hf (by simp) (fun _ _ h => h), h.n, h.d⟩
theorem Wpr.In.keep {w w' : World} {x : Wpr} (h : x.In w) (hf : Fr [] w w') : x.In w' := ⟨h.r, h.e, h.t, h.l.keep' hf (by simp) (fun _ _ h => h.keep hf), h.n, h.d, h.b, h.m⟩
structure Wba.In (w : World) (x : Wba) : Prop where
 e : i64In x.e
 t : x.t < 18446744073709551616
 l : Lst 6 Wpr.cells (fun w v => v.In w) w x.A x.n x.l
 n : x.n ≤ maxLen
 l2 : Lst 34 Wop.cells (fun w v => v.In w) w x.A2 x.n2 x.l2
 n2 : x.n2 ≤ maxLen
 l3 : Lst 2 Wtb.cells (fun w v => v.In w) w x.A3 x.n3 x.l3
 n3 : x.n3 ≤ maxLen
theorem Wba.In.keep {w w' : World} {x : Wba} (h : x.In w) (hf : Fr [] w w') : x.In w' :=
 ⟨h.e, h.t, h.l.keep' hf (by simp) (fun _ _ h => h.keep hf), h.n, h.l2.keep' hf (by simp) (fun _ _ h => h.keep hf), h.n2, h.l3.keep' hf (by simp) (fun _ _ h => h.keep hf), h.n3⟩
structure Wpo.In (w : World) (x : Wpo) : Prop where
 e : i64In x.e
 r : i64In x.r
 v : i64In x.v
 p : i64In x.p
 k : x.k.In w
 b : i64In x.b
 m : i64In x.m
def zeroBa : Array Value := (Wba.cells ⟨0, 0, none, 0, 0, [], none, 0, 0, [], none, 0, 0, []⟩).toArray
set_option maxHeartbeats 8000000 in
theorem batchCut4_any (x : Wba) (w : World) (hx : x.In w) (C : List Value) (hC : x.cells = C) :
  Calls Tryz.prog 23 #[.agg C.toArray] w fun e w' => ∃ y : Wba, e = .returned y.val ∧ (∀ S0 : List Nat, (∀ k ∈ S0, k < w.heap.size) → y.Ok w' S0) ∧ Fr [] w w' ∧ y.n2 ≤ 4 ∧ y.n3 ≤ 4 := by
 obtain ⟨wa, hwa⟩ : ∃ wa, wa = (w.alloc (Obj.cells C.toArray 45)).alloc (Obj.cells zeroBa 45) := ⟨_, rfl⟩
 have hf0 : Fr [] w wa := by rw [hwa]; exact ((Fr.refl [] w).alloc _).alloc _
 have hb0 : Blk wa w.heap.size 45 x.cells.toArray := by rw [hwa, hC]; exact blk_alloc (Blk.new _ _ _)
 have hb1 : Blk wa (w.heap.size + 1) 45 zeroBa := by
  have := Blk.new (w.alloc (Obj.cells C.toArray 45)) 45 zeroBa
  rw [hwa]
  simpa using this
 have HC2 : Hid (wa.cell? ⟨w.heap.size, 2, none⟩ = some (.slice x.A x.n x.d)) := Lib.hid (by have h := hb0.range (cs := x.cells) 2 _ rfl; simpa using h)
 have HC3 : Hid (wa.cell? ⟨w.heap.size, 3, none⟩ = some (.slice x.A2 x.n2 x.d2)) := Lib.hid (by have h := hb0.range (cs := x.cells) 3 _ rfl; simpa using h)
 have HC4 : Hid (wa.cell? ⟨w.heap.size, 4, none⟩ = some (.slice x.A3 x.n3 x.d3)) := Lib.hid (by have h := hb0.range (cs := x.cells) 4 _ rfl; simpa using h)
 have HB0 := Lib.hid hb0
 have HB1 := Lib.hid hb1
 have HF0 := Lib.hid hf0
 have HWA := Lib.hid hwa
 have HX := Lib.hid hx
 have HSZ : Hid (w.heap.size + 2 ≤ wa.heap.size) := Lib.hid (by have := hb1.lt; omega)
 have hn1 := hx.n
 have hn2 := hx.n2
 have hn3 := hx.n3
 unfold maxLen at hn1 hn2 hn3
 have HFA : Hid (Fr [] wa wa) := Lib.hid (Fr.refl _ _)
 clear hwa hf0 hb0 hb1 hx hC
 go_enter Tryz.func23, Tryz.ntmps23
 go_upto_region 1 with (fail)
 change Code.wp _ _ _ _ ((w.alloc (Obj.cells C.toArray 45)).alloc (Obj.cells zeroBa 45))
 rw [← HWA.out]
 go_upto_block 0 with (fail)
 go_cut [3, 4] (fun s _ wx => ∃ (m : Nat) (A4 : Option Addr) (c4 : Nat) (ys : List Wpr), m ≤ 4 ∧ s = .slice A4 m c4 ∧ ys.length = m ∧ Hid (wx.ownsRow wa.heap.size 40 6 (.slice A4 m c4) m (ys.flatMap Wpr.cells)) ∧ Hid (∀ y ∈ ys, ∀ S0, (∀ q ∈ S0, q < wa.heap.size ∨ q ∈ bk A4) → y.Ok wx S0) ∧ Hid (Fr [] wa wx))
 case first =>
  have hc := HFA.out.cell HC2.out (by simp)
  go_wp2_with fail
  clear hc
  go_loopw [3, 4] (fun s i wr => (∃ (m : Nat) (A4 : Option Addr) (c4 : Nat) (ys : List Wpr), m ≤ 4 ∧ s = .slice A4 m c4 ∧ ys.length = m ∧ Hid (wr.ownsRow wa.heap.size 40 6 (.slice A4 m c4) m (ys.flatMap Wpr.cells)) ∧ Hid (∀ y ∈ ys, ∀ S0, (∀ q ∈ S0, q < wa.heap.size ∨ q ∈ bk A4) → y.Ok wr S0) ∧ Hid (Fr [] wa wr)) ∧ ∃ k : Nat, k ≤ x.n ∧ k ≤ 4 ∧ i = .int .i64 k ∧ ∃ A c, s = .slice A k c) (fun _ i _ => 4 - (intOf i).toNat)
  case atStart => exact ⟨⟨0, none, 0, [], by omega, rfl, rfl, Lib.hid ⟨by simp, .inl ⟨rfl, rfl⟩⟩, Lib.hid (by simp), Lib.hid (Fr.refl _ _)⟩, 0, by omega, by omega, rfl, _, _, rfl⟩
  case round =>
   obtain ⟨⟨k, A4, c4, ys, -, rfl, hyl, HO, HYS, HF⟩, k', hk, hk4, rfl, A', c', he⟩ := hrel
   obtain ⟨rfl, hkk, rfl⟩ : A4 = A' ∧ k = k' ∧ c4 = c' := by injection he with h1 h2 h3; exact ⟨h1, h2, h3⟩
   subst hkk
   clear he
   have HFR : Hid (Fr [] wa wr) := Lib.hid (HFA.out.and HF.out (by simp))
   have hc := HFR.out.cell HC2.out (by simp)
   have HLT : Hid (∀ q ∈ bk A4, q < wr.heap.size) := Lib.hid (fun q hq => own_lt HO.out q (by rw [bk_mem]; exact hq))
   by_cases hlt : k < x.n ∧ k < 4
   · obtain ⟨hkn, hk2⟩ := hlt
     obtain ⟨ad, v, hA, hv, hcl, hok, hcells⟩ := HX.out.l.at (i := k) hkn
     rw [hA] at hc
     have HCELLS : Hid (∀ j u, v.cells[j]? = some u → wr.cell? ((ad.add (k * 6)).add j) = some u) := Lib.hid (fun j u hj => HFR.out.cell (HF0.out.cell (hcells j u hj) (by simp)) (by simp))
     have HCLN := Lib.hid hcl
     have HIN := Lib.hid ((hok.keep HF0.out).keep HFR.out)
     have hk0 : (0 : Int) ≤ k := by omega
     have HONE := Lib.hid (Wpr.one v)
     clear hcells hcl hok hv hA
     generalize hC : v.cells = CV at *
     have HCV := Lib.hid hC
     clear hC
     go_wp2_with (first | (refine wpList_cells rfl 40 _ rfl _ rfl CV HCELLS.out (row_prm.of HCLN.out) ?_))
     rw [← HCV.out]
     refine (promiseCut_any v wr HIN.out.r HIN.out.e HIN.out.t HIN.out.b HIN.out.m HIN.out.l HIN.out.n).mono ?_
     rintro e w4 ⟨A1, d1, zs, rfl, hokN, -, hf1⟩
     generalize hy : (⟨v.r, v.e, v.t, A1, (v.l.take 3).length, d1, zs, v.b, v.m⟩ : Wpr) = y at *
     have HFX : Hid (Fr [] wr w4) := Lib.hid hf1
     have HNW : Hid (∀ S0, (∀ q ∈ S0, q < wa.heap.size ∨ q ∈ bk A4) → y.Ok w4 S0) := Lib.hid (fun S0 h0 => hokN S0 (fun q hq => by
      rcases h0 q hq with h | h
      · have := HF.out.size; omega
      · exact HLT.out q h))
     have hD : y.cells.length = 6 := Wpr.len y
     have hD1 := Wpr.one y
     obtain ⟨D, hDY⟩ : ∃ D, D = y.cells := ⟨_, rfl⟩
     rw [← hDY] at hD hD1 ⊢
     have HD := Lib.hid hD
     have HD1 := Lib.hid hD1
     have HDY := Lib.hid hDY
     have HO4 := Lib.hid (own_keep HO.out hf1 (by simp))
     clear hokN hf1 hy hD hD1 hDY hc HO
     go_wp2_with (first | (refine wpList_build_one rfl 41 40 _ rfl Tryz.underlying41 D 64 (by rw [HD.out]; exact el_prm) rfl (by rw [HD.out]; decide) (by rw [HD.out]; decide) ?_) | (at_builtin; refine Stop.mk ?_))
     refine Stop.go ?_
     refine wpList_append_one2 rfl _ _ 41 40 rfl Tryz.underlying41 6 64 el_prm (by decide) wa.heap.size (.slice A4 k c4) k _ D rfl (HO4.out.alloc _) (by have h1 := HF.out.size; have h2 := HFX.out.size; simp; omega) HD.out HD1.out w4.heap.size 40 rfl (Blk.new _ _ _) (by omega) (by decide) ?_
     intro A9 c9 w9 ho9 hf9 hb9
     have HO9 := Lib.hid ho9
     have HF9 : Hid (Fr (bk A4) (w4.alloc (Obj.cells D.toArray 40)) w9) := Lib.hid (by rw [← bk_own A4 k c4]; exact hf9)
     have HB9 : Hid (∀ q ∈ bk A9, q ∈ bk A4 ∨ w4.heap.size ≤ q) := Lib.hid (by
      intro q hq
      rw [← bk_own A9 (k + 1) c9] at hq
      rcases hb9 with h | h
      · rw [h, bk_own] at hq; exact .inl hq
      · rw [h] at hq; simp at hq; exact .inr (by omega))
     clear ho9 hf9 hb9
     go_wp2
     go_roundw
     case rel =>
      refine ⟨⟨k + 1, A9, c9, ys ++ [y], by omega, rfl, by simp [hyl], ?_, ?_, ?_⟩, k + 1, by omega, by omega, by go_num, _, _, rfl⟩
      · refine Lib.hid ?_
        rw [List.flatMap_append, List.flatMap_singleton, ← HDY.out]
        exact HO9.out
      · refine Lib.hid (fun u hu => ?_)
        have hsz := HFX.out.size
        have hfb : Fr (bk A4) w4 w9 := (((Fr.refl [] w4).alloc _).mono (by simp)).trans HF9.out (fun y hy _ => hy)
        rcases List.mem_append.1 hu with hu | hu
        · exact keepAll (ok := fun w S x => Wpr.Ok w S x) (fun h f s => h.keep f s) ((HFX.out.mono (by simp)).trans hfb (fun y hy _ => hy)) (fun q hq => (HB9.out q hq).imp id (fun h => by omega)) (HYS.out u hu)
        · rw [List.mem_singleton.1 hu]
          exact keepAll (ok := fun w S x => Wpr.Ok w S x) (fun h f s => h.keep f s) hfb HB9.out HNW.out
      · exact Lib.hid (((HF.out.and HFX.out (by simp)).alloc _).and HF9.out (fun q hq => (HO4.out.lt q (by rw [bk_mem]; exact hq)).1))
     case measure => simp [intOf]; omega
   · have hkx : (x.n : Int) ≤ k ∨ (4 : Int) ≤ k := by omega
     rcases hkx with hkx | hkx
     all_goals
      go_wp2_with fail
      all_goals
       go_meet
       exact ⟨k, A4, c4, ys, hk4, rfl, hyl, HO, HYS, HF⟩
 case rest =>
  obtain ⟨mp, Ap, cp, ysp, hmp, rfl, hlp, HOp, HQp, HFX1⟩ := hcut
  rename World => wb
  go_upto_block 2 with (fail)
  go_cut [5, 6] (fun s _ wx => ∃ (m : Nat) (A4 : Option Addr) (c4 : Nat) (ys : List Wop), m ≤ 4 ∧ s = .slice A4 m c4 ∧ ys.length = m ∧ Hid (wx.ownsRow wb.heap.size 54 34 (.slice A4 m c4) m (ys.flatMap Wop.cells)) ∧ Hid (∀ y ∈ ys, ∀ S0, (∀ q ∈ S0, q < wb.heap.size ∨ q ∈ bk A4) → y.Ok wx S0) ∧ Hid (Fr [] wb wx))
  case first =>
   have hc := HFX1.out.cell HC3.out (by simp)
   go_wp2_with fail
   clear hc
   go_loopw [5, 6] (fun s i wr => (∃ (m : Nat) (A4 : Option Addr) (c4 : Nat) (ys : List Wop), m ≤ 4 ∧ s = .slice A4 m c4 ∧ ys.length = m ∧ Hid (wr.ownsRow wb.heap.size 54 34 (.slice A4 m c4) m (ys.flatMap Wop.cells)) ∧ Hid (∀ y ∈ ys, ∀ S0, (∀ q ∈ S0, q < wb.heap.size ∨ q ∈ bk A4) → y.Ok wr S0) ∧ Hid (Fr [] wb wr)) ∧ ∃ k : Nat, k ≤ x.n2 ∧ k ≤ 4 ∧ i = .int .i64 k ∧ ∃ A c, s = .slice A k c) (fun _ i _ => 4 - (intOf i).toNat)
   case atStart => exact ⟨⟨0, none, 0, [], by omega, rfl, rfl, Lib.hid ⟨by simp, .inl ⟨rfl, rfl⟩⟩, Lib.hid (by simp), Lib.hid (Fr.refl _ _)⟩, 0, by omega, by omega, rfl, _, _, rfl⟩
   case round =>
    obtain ⟨⟨k, A4, c4, ys, -, rfl, hyl, HO, HYS, HF⟩, k', hk, hk4, rfl, A', c', he⟩ := hrel
    obtain ⟨rfl, hkk, rfl⟩ : A4 = A' ∧ k = k' ∧ c4 = c' := by injection he with h1 h2 h3; exact ⟨h1, h2, h3⟩
    subst hkk
    clear he
    have HFR : Hid (Fr [] wa wr) := Lib.hid (HFX1.out.and HF.out (by simp))
    have hc := HFR.out.cell HC3.out (by simp)
    have HLT : Hid (∀ q ∈ bk A4, q < wr.heap.size) := Lib.hid (fun q hq => own_lt HO.out q (by rw [bk_mem]; exact hq))
    by_cases hlt : k < x.n2 ∧ k < 4
    · obtain ⟨hkn, hk2⟩ := hlt
      obtain ⟨ad, v, hA, hv, hcl, hok, hcells⟩ := HX.out.l2.at (i := k) hkn
      rw [hA] at hc
      have HCELLS : Hid (∀ j u, v.cells[j]? = some u → wr.cell? ((ad.add (k * 34)).add j) = some u) := Lib.hid (fun j u hj => HFR.out.cell (HF0.out.cell (hcells j u hj) (by simp)) (by simp))
      have HCLN := Lib.hid hcl
      have HIN := Lib.hid ((hok.keep HF0.out).keep HFR.out)
      have hk0 : (0 : Int) ≤ k := by omega
      have HONE := Lib.hid (Wop.one v)
      have HC1V : Hid (v.cells[1]? = some (.slice v.A v.n v.d)) := Lib.hid rfl
      clear hcells hcl hok hv hA
      generalize hC : v.cells = CV at *
      have HCV := Lib.hid hC
      clear hC
      have hsz0 : (Tryz.prog.info? 54).map (·.size) = some CV.toArray.size := by rw [List.size_toArray, HCLN.out]; kernel_rfl
      have HSZ0 := Lib.hid hsz0
      have HCS : Hid (CV.toArray.size = 34) := Lib.hid (by rw [List.size_toArray]; exact HCLN.out)
      clear hsz0
      go_wp2_with (first
       | (refine wpList_cells rfl 54 _ rfl _ rfl CV HCELLS.out (row_opn.of HCLN.out) ?_)
       | (refine wpList_store_blk rfl 54 _ _ rfl wr.heap.size CV.toArray rfl rfl 54 _ (Blk.new wr _ _) HSZ0.out (by rw [HCS.out]; rfl) (all_oneCell_toArray HONE.out) ?_
          intro w2 hb2 hf2
          have HB2 := Lib.hid hb2
          have HF2 : Hid (Fr [] wr w2) := Lib.hid (((Fr.refl [] wr).alloc _).and hf2 (by simp))
          have hc2 : w2.cell? ⟨wr.heap.size, 1, none⟩ = some (.slice v.A v.n v.d) := (by rw [hb2.cell 1, List.getElem?_toArray]; exact HC1V.out)
          clear hb2 hf2))
      rw [show (260 : Int) = ((260 : Nat) : Int) from rfl]
      refine (cut_any v.A v.n v.d 260 v.p w2 (HIN.out.p.keep HF2.out (by simp)) HIN.out.n HIN.out.d (by decide)).mono ?_
      rintro e w3 ⟨A1, d1, rfl, hN⟩
      have hmt : (v.p.take 260).length ≤ 260 := List.length_take_le _ _
      generalize hm : (v.p.take 260).length = m at *
      have HM := Lib.hid hmt
      have HMT : Hid ((v.p.take 260).length = m) := Lib.hid hm
      have hb3 := HB2.out.keep hN.2.1 (by simp)
      have hz := hb3.frozen 1
      have hc3 := hN.2.1.cell hc2 (by simp)
      have hset : CV.toArray.setIfInBounds 1 (.slice A1 m d1) = (⟨v.i, A1, m, d1, v.p.take 260, v.h⟩ : Wop).cells.toArray := by rw [← HCV.out]; rfl
      have hb4 := hb3.set 1 (.slice A1 m d1)
      rw [hset] at hb4
      have hf4 : Fr [wr.heap.size] w3 (w3.setCell ⟨wr.heap.size, 1, none⟩ (.slice A1 m d1)) := (Fr.refl _ w3).setCell _ (fun _ => by simp) _
      have HBLT : Hid (wr.heap.size < w2.heap.size) := Lib.hid HB2.out.lt
      have HN := Lib.hid hN
      have HF4 := Lib.hid hf4
      have HLT2 : Hid (∀ q ∈ bk A1, w2.heap.size ≤ q) := Lib.hid hN.2.2
      have hD : (⟨v.i, A1, m, d1, v.p.take 260, v.h⟩ : Wop).cells.length = 34 := Wop.len HIN.out.h
      have hD1 := Wop.one (⟨v.i, A1, m, d1, v.p.take 260, v.h⟩ : Wop)
      obtain ⟨y, hy⟩ : ∃ y, y = (⟨v.i, A1, m, d1, v.p.take 260, v.h⟩ : Wop) := ⟨_, rfl⟩
      rw [← hy] at hD hD1 hb4
      obtain ⟨D, hDY⟩ : ∃ D, D = y.cells := ⟨_, rfl⟩
      rw [← hDY] at hD hD1 hb4
      have HD := Lib.hid hD
      have HD1 := Lib.hid hD1
      have HDY := Lib.hid hDY
      have HYE := Lib.hid hy
      have HSZD : Hid ((Tryz.prog.info? 54).map (·.size) = some D.toArray.size) := Lib.hid (by rw [List.size_toArray, hD]; kernel_rfl)
      have HB4 := Lib.hid hb4
      clear hN hmt hset hb4 hf4 hD hD1 hy hDY hc2 hb3 hc hm
      go_wp2_with (first | (refine wpList_load_row rfl 54 _ rfl wr.heap.size rfl 54 D.toArray _ _ HB4.out Tryz.underlying54 rfl HSZD.out ?_) | (refine wpList_build_one rfl 42 54 _ rfl Tryz.underlying42 D 64 (by rw [HD.out]; exact el_opn) rfl (by rw [HD.out]; decide) (by rw [HD.out]; decide) ?_) | (at_builtin; refine Stop.mk ?_))
      have hs34 : (w3.setCell ⟨wr.heap.size, 1, none⟩ (.slice A1 m d1)).heap.size = w3.heap.size := by simp
      generalize w3.setCell ⟨wr.heap.size, 1, none⟩ (.slice A1 m d1) = w4 at *
      have HFX : Hid (Fr [] wr w4) := Lib.hid ((HF2.out.and HN.out.2.1 (by simp)).and HF4.out (by simp))
      have HO4 := Lib.hid (own_keep HO.out HFX.out (by simp))
      have HNW : Hid (∀ S0, (∀ q ∈ S0, q < wb.heap.size ∨ q ∈ bk A4) → y.Ok w4 S0) := Lib.hid (by
       intro S0 h0
       rw [HYE.out]
       refine ⟨HIN.out.i, (NewB.by HN.out).keep HF4.out (fun a ha hin => ?_), HM.out, fun q hq hin => ?_, fun q hq => ?_, HIN.out.h, NewB.cap HN.out⟩
       · have h1 := HLT2.out a.block (by rw [ha]; simp [bk])
         have h2 := HBLT.out
         rw [List.mem_singleton.1 hin] at h1
         omega
       · have h1 := HLT2.out q hq
         have h2 := HBLT.out
         rcases h0 q hin with h | h
         · have := HF.out.size; omega
         · have := HLT.out q h; omega
       · exact Nat.lt_of_lt_of_le (NewB.lt HN.out q hq) HF4.out.size)
      clear HO hc3 hz
      refine Stop.go ?_
      refine wpList_append_one2 rfl _ _ 42 54 rfl Tryz.underlying42 34 64 el_opn (by decide) wb.heap.size (.slice A4 k c4) k _ D rfl (HO4.out.alloc _) (by have h1 := HF.out.size; have h2 := HFX.out.size; simp; omega) HD.out HD1.out w3.heap.size 54 rfl (hs34 ▸ Blk.new w4 54 D.toArray) (by omega) (by decide) ?_
      intro A9 c9 w9 ho9 hf9 hb9
      have HO9 := Lib.hid ho9
      have HF9 : Hid (Fr (bk A4) (w4.alloc (Obj.cells D.toArray 54)) w9) := Lib.hid (by rw [← bk_own A4 k c4]; exact hf9)
      have HB9 : Hid (∀ q ∈ bk A9, q ∈ bk A4 ∨ w4.heap.size ≤ q) := Lib.hid (by
       intro q hq
       rw [← bk_own A9 (k + 1) c9] at hq
       rcases hb9 with h | h
       · rw [h, bk_own] at hq; exact .inl hq
       · rw [h] at hq; simp at hq; exact .inr (by omega))
      clear ho9 hf9 hb9
      go_wp2
      go_roundw
      case rel =>
       refine ⟨⟨k + 1, A9, c9, ys ++ [y], by omega, rfl, by simp [hyl], ?_, ?_, ?_⟩, k + 1, by omega, by omega, by go_num, _, _, rfl⟩
       · refine Lib.hid ?_
         rw [List.flatMap_append, List.flatMap_singleton, ← HDY.out]
         exact HO9.out
       · refine Lib.hid (fun u hu => ?_)
         have hsz := HFX.out.size
         have hfb : Fr (bk A4) w4 w9 := (((Fr.refl [] w4).alloc _).mono (by simp)).trans HF9.out (fun y hy _ => hy)
         rcases List.mem_append.1 hu with hu | hu
         · exact keepAll (ok := fun w S x => Wop.Ok w S x) (fun h f s => h.keep f s) ((HFX.out.mono (by simp)).trans hfb (fun y hy _ => hy)) (fun q hq => (HB9.out q hq).imp id (fun h => by omega)) (HYS.out u hu)
         · rw [List.mem_singleton.1 hu]
           exact keepAll (ok := fun w S x => Wop.Ok w S x) (fun h f s => h.keep f s) hfb HB9.out HNW.out
       · exact Lib.hid (((HF.out.and HFX.out (by simp)).alloc _).and HF9.out (fun q hq => (HO4.out.lt q (by rw [bk_mem]; exact hq)).1))
      case measure => simp [intOf]; omega
    · have hkx : (x.n2 : Int) ≤ k ∨ (4 : Int) ≤ k := by omega
      rcases hkx with hkx | hkx
      all_goals
       go_wp2_with fail
       all_goals
        go_meet
        exact ⟨k, A4, c4, ys, hk4, rfl, hyl, HO, HYS, HF⟩
  case rest =>
   obtain ⟨mq, Aq, cq, ysq, hmq, rfl, hlq, HOq, HQq, HFq⟩ := hcut
   have HFY : Hid (Fr [] wa wc) := Lib.hid (HFX1.out.and HFq.out (by simp))
   have HOp := Lib.hid (own_keep HOp.out HFq.out (by simp))
   have HQp : Hid (∀ y ∈ ysp, ∀ S0, (∀ q ∈ S0, q < wa.heap.size ∨ q ∈ bk Ap) → y.Ok wc S0) := Lib.hid (fun y hy => keepAll (ok := fun w S x => Wpr.Ok w S x) (fun h f s => h.keep f s) (HFq.out.mono (by simp)) (fun q hq => .inl hq) (HQp.out y hy))
   skip
   rename World => wd
   go_upto_block 4 with (fail)
   go_cut [8, 9] (fun s _ wx => ∃ (m : Nat) (A4 : Option Addr) (c4 : Nat) (ys : List Wtb), m ≤ 4 ∧ s = .slice A4 m c4 ∧ ys.length = m ∧ Hid (wx.ownsRow wd.heap.size 132 2 (.slice A4 m c4) m (ys.flatMap Wtb.cells)) ∧ Hid (∀ y ∈ ys, ∀ S0, (∀ q ∈ S0, q < wd.heap.size ∨ q ∈ bk A4) → y.Ok wx S0) ∧ Hid (Fr [] wd wx))
   case first =>
    have hc := HFY.out.cell HC4.out (by simp)
    go_wp2_with fail
    clear hc
    go_loopw [8, 9] (fun s i wr => (∃ (m : Nat) (A4 : Option Addr) (c4 : Nat) (ys : List Wtb), m ≤ 4 ∧ s = .slice A4 m c4 ∧ ys.length = m ∧ Hid (wr.ownsRow wd.heap.size 132 2 (.slice A4 m c4) m (ys.flatMap Wtb.cells)) ∧ Hid (∀ y ∈ ys, ∀ S0, (∀ q ∈ S0, q < wd.heap.size ∨ q ∈ bk A4) → y.Ok wr S0) ∧ Hid (Fr [] wd wr)) ∧ ∃ k : Nat, k ≤ x.n3 ∧ k ≤ 4 ∧ i = .int .i64 k ∧ ∃ A c, s = .slice A k c) (fun _ i _ => 4 - (intOf i).toNat)
    case atStart => exact ⟨⟨0, none, 0, [], by omega, rfl, rfl, Lib.hid ⟨by simp, .inl ⟨rfl, rfl⟩⟩, Lib.hid (by simp), Lib.hid (Fr.refl _ _)⟩, 0, by omega, by omega, rfl, _, _, rfl⟩
    case round =>
     obtain ⟨⟨k, A4, c4, ys, -, rfl, hyl, HO, HYS, HF⟩, k', hk, hk4, rfl, A', c', he⟩ := hrel
     obtain ⟨rfl, hkk, rfl⟩ : A4 = A' ∧ k = k' ∧ c4 = c' := by injection he with h1 h2 h3; exact ⟨h1, h2, h3⟩
     subst hkk
     clear he
     have HFR : Hid (Fr [] wa wr) := Lib.hid (HFY.out.and HF.out (by simp))
     have hc := HFR.out.cell HC4.out (by simp)
     have HLT : Hid (∀ q ∈ bk A4, q < wr.heap.size) := Lib.hid (fun q hq => own_lt HO.out q (by rw [bk_mem]; exact hq))
     by_cases hlt : k < x.n3 ∧ k < 4
     · obtain ⟨hkn, hk2⟩ := hlt
       obtain ⟨ad, v, hA, hv, hcl, hok, hcells⟩ := HX.out.l3.at (i := k) hkn
       rw [hA] at hc
       have HCELLS : Hid (∀ j u, v.cells[j]? = some u → wr.cell? ((ad.add (k * 2)).add j) = some u) := Lib.hid (fun j u hj => HFR.out.cell (HF0.out.cell (hcells j u hj) (by simp)) (by simp))
       have HCLN := Lib.hid hcl
       have HIN := Lib.hid ((hok.keep HF0.out).keep HFR.out)
       have hk0 : (0 : Int) ≤ k := by omega
       have HONE := Lib.hid (Wtb.one v)
       have HC1V : Hid (v.cells[1]? = some (.slice v.A v.n v.d)) := Lib.hid rfl
       clear hcells hcl hok hv hA
       generalize hC : v.cells = CV at *
       have HCV := Lib.hid hC
       clear hC
       have hsz0 : (Tryz.prog.info? 132).map (·.size) = some CV.toArray.size := by rw [List.size_toArray, HCLN.out]; kernel_rfl
       have HSZ0 := Lib.hid hsz0
       have HCS : Hid (CV.toArray.size = 2) := Lib.hid (by rw [List.size_toArray]; exact HCLN.out)
       clear hsz0
       go_wp2_with (first
        | (refine wpList_cells rfl 132 _ rfl _ rfl CV HCELLS.out (row_tmb.of HCLN.out) ?_)
        | (refine wpList_store_blk rfl 132 _ _ rfl wr.heap.size CV.toArray rfl rfl 132 _ (Blk.new wr _ _) HSZ0.out (by rw [HCS.out]; rfl) (all_oneCell_toArray HONE.out) ?_
           intro w2 hb2 hf2
           have HB2 := Lib.hid hb2
           have HF2 : Hid (Fr [] wr w2) := Lib.hid (((Fr.refl [] wr).alloc _).and hf2 (by simp))
           have hc2 : w2.cell? ⟨wr.heap.size, 1, none⟩ = some (.slice v.A v.n v.d) := (by rw [hb2.cell 1, List.getElem?_toArray]; exact HC1V.out)
           clear hb2 hf2))
       rw [show (5 : Int) = ((5 : Nat) : Int) from rfl]
       refine (cutDenies_any v.A v.n v.d 5 v.l w2 (HIN.out.l.keep' HF2.out (by simp) (fun _ _ h => h)) HIN.out.n HIN.out.d (by decide)).mono ?_
       rintro e w3 ⟨A1, d1, rfl, hN⟩
       have hmt : (v.l.take 5).length ≤ 5 := List.length_take_le _ _
       generalize hm : (v.l.take 5).length = m at *
       have HM := Lib.hid hmt
       have HMT : Hid ((v.l.take 5).length = m) := Lib.hid hm
       have hb3 := HB2.out.keep hN.2.1 (by simp)
       have hz := hb3.frozen 1
       have hc3 := hN.2.1.cell hc2 (by simp)
       have hset : CV.toArray.setIfInBounds 1 (.slice A1 m d1) = (⟨v.i, A1, m, d1, v.l.take 5⟩ : Wtb).cells.toArray := by rw [← HCV.out]; rfl
       have hb4 := hb3.set 1 (.slice A1 m d1)
       rw [hset] at hb4
       have hf4 : Fr [wr.heap.size] w3 (w3.setCell ⟨wr.heap.size, 1, none⟩ (.slice A1 m d1)) := (Fr.refl _ w3).setCell _ (fun _ => by simp) _
       have HBLT : Hid (wr.heap.size < w2.heap.size) := Lib.hid HB2.out.lt
       have HN := Lib.hid hN
       have HF4 := Lib.hid hf4
       have HLT2 : Hid (∀ q ∈ bk A1, w2.heap.size ≤ q) := Lib.hid hN.2.2
       have hD : (⟨v.i, A1, m, d1, v.l.take 5⟩ : Wtb).cells.length = 2 := rfl
       have hD1 := Wtb.one (⟨v.i, A1, m, d1, v.l.take 5⟩ : Wtb)
       obtain ⟨y, hy⟩ : ∃ y, y = (⟨v.i, A1, m, d1, v.l.take 5⟩ : Wtb) := ⟨_, rfl⟩
       rw [← hy] at hD hD1 hb4
       obtain ⟨D, hDY⟩ : ∃ D, D = y.cells := ⟨_, rfl⟩
       rw [← hDY] at hD hD1 hb4
       have HD := Lib.hid hD
       have HD1 := Lib.hid hD1
       have HDY := Lib.hid hDY
       have HYE := Lib.hid hy
       have HSZD : Hid ((Tryz.prog.info? 132).map (·.size) = some D.toArray.size) := Lib.hid (by rw [List.size_toArray, hD]; kernel_rfl)
       have HB4 := Lib.hid hb4
       clear hN hmt hset hb4 hf4 hD hD1 hy hDY hc2 hb3 hc hm
       go_wp2_with (first | (refine wpList_load_row rfl 132 _ rfl wr.heap.size rfl 132 D.toArray _ _ HB4.out Tryz.underlying132 rfl HSZD.out ?_) | (refine wpList_build_one rfl 43 132 _ rfl Tryz.underlying43 D 32 (by rw [HD.out]; exact el_tomb) rfl (by rw [HD.out]; decide) (by rw [HD.out]; decide) ?_) | (at_builtin; refine Stop.mk ?_))
       have hs34 : (w3.setCell ⟨wr.heap.size, 1, none⟩ (.slice A1 m d1)).heap.size = w3.heap.size := by simp
       generalize w3.setCell ⟨wr.heap.size, 1, none⟩ (.slice A1 m d1) = w4 at *
       have HFX : Hid (Fr [] wr w4) := Lib.hid ((HF2.out.and HN.out.2.1 (by simp)).and HF4.out (by simp))
       have HO4 := Lib.hid (own_keep HO.out HFX.out (by simp))
       have HNW : Hid (∀ S0, (∀ q ∈ S0, q < wd.heap.size ∨ q ∈ bk A4) → y.Ok w4 S0) := Lib.hid (by
        intro S0 h0
        rw [HYE.out]
        refine ⟨HIN.out.i, (Lst.of_own (ok := fun (_ : World) (v : Wdn) => v.Ok) HN.out.1 HMT.out (fun u hu => HIN.out.l.2.1 u (List.mem_of_mem_take hu))).keep' (S := [wr.heap.size]) HF4.out (fun _ a ha hin => ?_) (fun _ _ h => h), HM.out, fun _ a ha hin => ?_⟩
        · have ha : A1 = some a := ha
          have h1 := HLT2.out a.block (by rw [ha]; simp [bk])
          have h2 := HBLT.out
          rw [List.mem_singleton.1 hin] at h1
          omega
        · have ha : A1 = some a := ha
          have h1 := HLT2.out a.block (by rw [ha]; simp [bk])
          have h2 := HBLT.out
          rcases h0 a.block hin with h | h
          · have := HF.out.size; omega
          · have := HLT.out a.block h; omega)
       clear HO hc3 hz
       refine Stop.go ?_
       refine wpList_append_one2 rfl _ _ 43 132 rfl Tryz.underlying43 2 32 el_tomb (by decide) wd.heap.size (.slice A4 k c4) k _ D rfl (HO4.out.alloc _) (by have h1 := HF.out.size; have h2 := HFX.out.size; simp; omega) HD.out HD1.out w3.heap.size 132 rfl (hs34 ▸ Blk.new w4 132 D.toArray) (by omega) (by decide) ?_
       intro A9 c9 w9 ho9 hf9 hb9
       have HO9 := Lib.hid ho9
       have HF9 : Hid (Fr (bk A4) (w4.alloc (Obj.cells D.toArray 132)) w9) := Lib.hid (by rw [← bk_own A4 k c4]; exact hf9)
       have HB9 : Hid (∀ q ∈ bk A9, q ∈ bk A4 ∨ w4.heap.size ≤ q) := Lib.hid (by
        intro q hq
        rw [← bk_own A9 (k + 1) c9] at hq
        rcases hb9 with h | h
        · rw [h, bk_own] at hq; exact .inl hq
        · rw [h] at hq; simp at hq; exact .inr (by omega))
       clear ho9 hf9 hb9
       go_wp2
       go_roundw
       case rel =>
        refine ⟨⟨k + 1, A9, c9, ys ++ [y], by omega, rfl, by simp [hyl], ?_, ?_, ?_⟩, k + 1, by omega, by omega, by go_num, _, _, rfl⟩
        · refine Lib.hid ?_
          rw [List.flatMap_append, List.flatMap_singleton, ← HDY.out]
          exact HO9.out
        · refine Lib.hid (fun u hu => ?_)
          have hsz := HFX.out.size
          have hfb : Fr (bk A4) w4 w9 := (((Fr.refl [] w4).alloc _).mono (by simp)).trans HF9.out (fun y hy _ => hy)
          rcases List.mem_append.1 hu with hu | hu
          · exact keepAll (ok := fun w S x => Wtb.Ok w S x) (fun h f s => h.keep f s) ((HFX.out.mono (by simp)).trans hfb (fun y hy _ => hy)) (fun q hq => (HB9.out q hq).imp id (fun h => by omega)) (HYS.out u hu)
          · rw [List.mem_singleton.1 hu]
            exact keepAll (ok := fun w S x => Wtb.Ok w S x) (fun h f s => h.keep f s) hfb HB9.out HNW.out
        · exact Lib.hid (((HF.out.and HFX.out (by simp)).alloc _).and HF9.out (fun q hq => (HO4.out.lt q (by rw [bk_mem]; exact hq)).1))
       case measure => simp [intOf]; omega
     · have hkx : (x.n3 : Int) ≤ k ∨ (4 : Int) ≤ k := by omega
       rcases hkx with hkx | hkx
       all_goals
        go_wp2_with fail
        all_goals
         go_meet
         exact ⟨k, A4, c4, ys, hk4, rfl, hyl, HO, HYS, HF⟩
   case rest =>
    obtain ⟨mr, Ar, cr, ysr, hmr, rfl, hlr, HOr, HQr, HFr⟩ := hcut
    have HFZ : Hid (Fr [] wa wc) := Lib.hid (HFY.out.and HFr.out (by simp))
    have HOp := Lib.hid (own_keep HOp.out HFr.out (by simp))
    have HOq := Lib.hid (own_keep HOq.out HFr.out (by simp))
    have HQp : Hid (∀ y ∈ ysp, ∀ S0, (∀ q ∈ S0, q < wa.heap.size ∨ q ∈ bk Ap) → y.Ok wc S0) := Lib.hid (fun y hy => keepAll (ok := fun w S x => Wpr.Ok w S x) (fun h f s => h.keep f s) (HFr.out.mono (by simp)) (fun q hq => .inl hq) (HQp.out y hy))
    have HQq : Hid (∀ y ∈ ysq, ∀ S0, (∀ q ∈ S0, q < wb.heap.size ∨ q ∈ bk Aq) → y.Ok wc S0) := Lib.hid (fun y hy => keepAll (ok := fun w S x => Wop.Ok w S x) (fun h f s => h.keep f s) (HFr.out.mono (by simp)) (fun q hq => .inl hq) (HQq.out y hy))
    have hbx := HB0.out.keep HFZ.out (by simp)
    have hz2 := hbx.frozen 2
    have hz3 := hbx.frozen 3
    have hz4 := hbx.frozen 4
    have hc2 := HFZ.out.cell HC2.out (by simp)
    have hc3 := HFZ.out.cell HC3.out (by simp)
    have hc4 := HFZ.out.cell HC4.out (by simp)
    have hset : ((x.cells.toArray.setIfInBounds 2 (.slice Ap mp cp)).setIfInBounds 3 (.slice Aq mq cq)).setIfInBounds 4 (.slice Ar mr cr) = (Wba.cells ⟨x.e, x.t, Ap, mp, cp, ysp, Aq, mq, cq, ysq, Ar, mr, cr, ysr⟩).toArray := rfl
    have hb2 := ((hbx.set 2 (.slice Ap mp cp)).set 3 (.slice Aq mq cq)).set 4 (.slice Ar mr cr)
    rw [hset] at hb2
    have hf2 : Fr [w.heap.size] wc (((wc.setCell ⟨w.heap.size, 2, none⟩ (.slice Ap mp cp)).setCell ⟨w.heap.size, 3, none⟩ (.slice Aq mq cq)).setCell ⟨w.heap.size, 4, none⟩ (.slice Ar mr cr)) := (((Fr.refl [w.heap.size] wc).setCell _ (fun _ => by simp) _).setCell _ (fun _ => by simp) _).setCell _ (fun _ => by simp) _
    have HB1S := Lib.hid ((HB1.out.keep HFZ.out (by simp)).keep hf2 (by simp))
    have HB2 := Lib.hid hb2
    have HF2 := Lib.hid hf2
    obtain ⟨y, hy⟩ : ∃ y : Wba, y = ⟨x.e, x.t, Ap, mp, cp, ysp, Aq, mq, cq, ysq, Ar, mr, cr, ysr⟩ := ⟨_, rfl⟩
    have HSZY : Hid ((Tryz.prog.info? 45).map (·.size) = some (Wba.cells ⟨x.e, x.t, Ap, mp, cp, ysp, Aq, mq, cq, ysq, Ar, mr, cr, ysr⟩).toArray.size) := Lib.hid (by kernel_rfl)
    have HALL : Hid ((Wba.cells ⟨x.e, x.t, Ap, mp, cp, ysp, Aq, mq, cq, ysq, Ar, mr, cr, ysr⟩).toArray.all (·.oneCell') = true) := Lib.hid (all_oneCell_toArray (Wba.one _))
    have HZP : Hid (zeroBa.size = (Wba.cells ⟨x.e, x.t, Ap, mp, cp, ysp, Aq, mq, cq, ysq, Ar, mr, cr, ysr⟩).toArray.size) := Lib.hid rfl
    rw [← hy] at HSZY HALL HZP HB2
    have HY := Lib.hid hy
    clear hbx hset hb2 hf2 hy
    generalize hCY : y.cells.toArray = CY at *
    have HCY := Lib.hid hCY
    clear hCY
    go_wp2_with (first
     | (refine wpList_load_row rfl 45 _ rfl w.heap.size rfl 45 CY _ _ HB2.out Tryz.underlying45 rfl HSZY.out ?_)
     | (refine wpList_store_blk rfl 45 _ _ rfl (w.heap.size + 1) CY rfl rfl 45 zeroBa HB1S.out HSZY.out HZP.out HALL.out ?_
        intro w3 hb3 hf3
        have HB3 := Lib.hid hb3
        have HF3 := Lib.hid hf3
        clear hb3 hf3))
    have HFa : Fr [w.heap.size, w.heap.size + 1] wc w3 := (HF2.out.mono (by intro k hk _; simp at hk; simp [hk])).trans HF3.out (by intro k hk _; simp at hk; simp [hk])
    have hsz := HSZ.out
    have hsb := HFX1.out.size
    have hsc := HFY.out.size
    refine bodyPost_ret (v := .agg CY) (results_cell_row Tryz.results23 _ _ (w.heap.size + 1) 45 CY _ _ rfl HB3.out Tryz.underlying45 rfl HSZY.out) rfl ⟨y, by rw [← HCY.out]; rfl, fun S0 hS0 => ?_, (HF0.out.and HFZ.out (by simp)).and HFa (fun k hk => by simp at hk; omega), by rw [HY.out]; exact hmq, by rw [HY.out]; exact hmr⟩
    have hS1 : ∀ (N : Nat) (B : List Nat), wa.heap.size ≤ N → ∀ q ∈ w.heap.size :: (w.heap.size + 1) :: S0, q < N ∨ q ∈ B := by
     intro N B hN q hq
     simp only [List.mem_cons] at hq
     rcases hq with h | h | h
     · exact .inl (by omega)
     · exact .inl (by omega)
     · have := hS0 q h; exact .inl (by omega)
    have hFb : Fr (w.heap.size :: (w.heap.size + 1) :: S0) wc w3 := HFa.mono (by intro k hk _; simp at hk; rcases hk with rfl | rfl <;> simp)
    have hin2 : ∀ k ∈ S0, k < wc.heap.size → k ∈ w.heap.size :: (w.heap.size + 1) :: S0 := fun k hk _ => by simp [hk]
    have hap : ∀ a : Addr, wa.heap.size ≤ a.block → ¬ a.block ∈ w.heap.size :: (w.heap.size + 1) :: S0 := by
     intro a ha hin
     simp only [List.mem_cons] at hin
     rcases hin with h | h | h
     · omega
     · omega
     · have := hS0 _ h; omega
    have bp : ∀ a, Ap = some a → wa.heap.size ≤ a.block := fun a ha => (HOp.out.lt a.block (by rw [bk_mem, ha]; simp [bk])).1
    have bq : ∀ a, Aq = some a → wa.heap.size ≤ a.block := fun a ha => by have := (HOq.out.lt a.block (by rw [bk_mem, ha]; simp [bk])).1; omega
    have br : ∀ a, Ar = some a → wa.heap.size ≤ a.block := fun a ha => by have := (HOr.out.lt a.block (by rw [bk_mem, ha]; simp [bk])).1; omega
    have ap0 : ∀ a : Addr, wa.heap.size ≤ a.block → ¬ a.block ∈ S0 := fun a ha hin => hap a ha (by simp [hin])
    have ap2 : ∀ a : Addr, wa.heap.size ≤ a.block → ¬ a.block ∈ [w.heap.size, w.heap.size + 1] := fun a ha hin => by simp at hin; omega
    rw [HY.out]
    refine ⟨HX.out.e, HX.out.t, ?_, hmp, fun _ a ha => ap0 a (bp a ha), ?_, Nat.le_trans hmq (by omega), fun _ a ha => ap0 a (bq a ha), ?_, Nat.le_trans hmr (by omega), fun _ a ha => ap0 a (br a ha)⟩
    · exact Lst.keep' (Lst.of_own (k := 6) (cells := Wpr.cells) (ok := fun (_ : World) (_ : Wpr) => True) HOp.out hlp (fun y hy => ⟨Wpr.len y, trivial⟩)) HFa (fun _ a ha => ap2 a (bp a ha)) (fun y hy _ => (HQp.out y hy _ (hS1 _ _ (Nat.le_refl _))).keep hFb hin2)
    · exact Lst.keep' (Lst.of_own (k := 34) (cells := Wop.cells) (ok := fun (_ : World) (_ : Wop) => True) HOq.out hlq (fun y hy => ⟨Wop.len (HQq.out y hy [] (by simp)).h, trivial⟩)) HFa (fun _ a ha => ap2 a (bq a ha)) (fun y hy _ => (HQq.out y hy _ (hS1 _ _ hsb)).keep hFb hin2)
    · exact Lst.keep' (Lst.of_own (k := 2) (cells := Wtb.cells) (ok := fun (_ : World) (_ : Wtb) => True) HOr.out hlr (fun y hy => ⟨rfl, trivial⟩)) HFa (fun _ a ha => ap2 a (br a ha)) (fun y hy _ => (HQr.out y hy _ (hS1 _ _ (by omega))).keep hFb hin2)
theorem batchCut_any (x : Wba) (w : World) (hx : x.In w) (C : List Value) (hC : x.cells = C) :
  Calls Tryz.prog 23 #[.agg C.toArray] w fun e w' => ∃ y : Wba, e = .returned y.val ∧ (∀ S0 : List Nat, (∀ k ∈ S0, k < w.heap.size) → y.Ok w' S0) ∧ Fr [] w w' :=
 (batchCut4_any x w hx C hC).mono fun _ _ ⟨y, h1, h2, h3, _⟩ => ⟨y, h1, h2, h3⟩
end Go.Proofs.YtpcnedpheplofaaGreat

namespace Go.Proofs.YtpcnedpheplofaaGreat
open Go.ChangeShapes Go.WideShapes Go.ChangeAt Go.RowKit
set_option maxRecDepth 100000
instance : Inhabited Wpr := ⟨⟨0, 0, 0, none, 0, 0, [], 0, 0⟩⟩
instance : Inhabited Wop := ⟨⟨0, none, 0, 0, [], []⟩⟩
instance : Inhabited Wtb := ⟨⟨0, none, 0, 0, []⟩⟩
theorem opening_of_trod {H : Type} {enc : TypeId × Value → H} {W : World} {sp : Nat → Bool} {held : Bool} {fuel : Nat} {cs : List Value} {x0 : DataW H × List MemPlace} (h : DataW.trod enc Tryz.prog W 0 sp held fuel 54 cs = some x0) :
  ∃ x : Wop, x.In W ∧ cs = x.cells := by
 obtain ⟨xs, m, _, _, hlen, hxl, hat⟩ := DataW.trod_struct Tryz.underlying54 h
 rw [show Tryz.prog.cellsOf 54 = 34 by kernel_rfl] at hlen
 have hx : ∀ i (hi : i < 3), xs[i]? = some (xs[i]'(by rw [hxl]; exact hi)) := fun i hi => List.getElem?_eq_getElem _
 have f0 : DataW.trod enc Tryz.prog W 0 sp held m 3 ((cs.drop 0).take (Tryz.prog.cellsOf 3)) = _ := (hat 0 _ rfl).trans (hx 0 (by omega))
 rw [show Tryz.prog.cellsOf 3 = 1 by kernel_rfl] at f0
 obtain ⟨a0, e0, _, w0⟩ := DataW.trod_int Tryz.underlying3 f0
 have f1 : DataW.trod enc Tryz.prog W 0 sp held m 52 ((cs.drop 1).take (Tryz.prog.cellsOf 52)) = _ := (hat 1 _ rfl).trans (hx 1 (by omega))
 rw [show Tryz.prog.cellsOf 52 = 1 by kernel_rfl] at f1
 obtain ⟨A1, n1, d1, e1⟩ := Go.Joins.slice_form Tryz.underlying52 f1
 rw [e1] at f1
 obtain ⟨l1, w1, m1, k1⟩ := by_of_trod f1
 have f2 : DataW.trod enc Tryz.prog W 0 sp held m 25 ((cs.drop 2).take (Tryz.prog.cellsOf 25)) = _ := (hat 2 _ rfl).trans (hx 2 (by omega))
 rw [show Tryz.prog.cellsOf 25 = 32 by kernel_rfl] at f2
 obtain ⟨a2, w2, e2⟩ := hash_of_trod f2
 refine ⟨⟨a0, A1, n1, d1, l1, a2⟩, ⟨i64In_of w0, w1, Nat.le_trans m1 k1, m1, w2⟩, ?_⟩
 have z : cs.drop 34 = [] := List.drop_eq_nil_of_le (by omega)
 have s0 : cs = cs.drop 0 := rfl
 rw [s0, cut_at cs 0 1 1 rfl, e0, cut_at cs 1 1 2 rfl, e1, cut_at cs 2 32 34 rfl, e2, z]
 simp [Wop.cells]
theorem tomb_of_trod {H : Type} {enc : TypeId × Value → H} {W : World} {sp : Nat → Bool} {held : Bool} {fuel : Nat} {cs : List Value} {x0 : DataW H × List MemPlace} (h : DataW.trod enc Tryz.prog W 0 sp held fuel 132 cs = some x0) :
  ∃ x : Wtb, x.In W ∧ cs = x.cells := by
 obtain ⟨xs, m, _, _, hlen, hxl, hat⟩ := DataW.trod_struct Tryz.underlying132 h
 rw [show Tryz.prog.cellsOf 132 = 2 by kernel_rfl] at hlen
 have hx : ∀ i (hi : i < 2), xs[i]? = some (xs[i]'(by rw [hxl]; exact hi)) := fun i hi => List.getElem?_eq_getElem _
 have f0 : DataW.trod enc Tryz.prog W 0 sp held m 3 ((cs.drop 0).take (Tryz.prog.cellsOf 3)) = _ := (hat 0 _ rfl).trans (hx 0 (by omega))
 rw [show Tryz.prog.cellsOf 3 = 1 by kernel_rfl] at f0
 obtain ⟨a0, e0, _, w0⟩ := DataW.trod_int Tryz.underlying3 f0
 have f1 : DataW.trod enc Tryz.prog W 0 sp held m 130 ((cs.drop 1).take (Tryz.prog.cellsOf 130)) = _ := (hat 1 _ rfl).trans (hx 1 (by omega))
 rw [show Tryz.prog.cellsOf 130 = 1 by kernel_rfl] at f1
 obtain ⟨A1, n1, d1, l1, e1, w1, m1, k1⟩ := lst_of_cells (cells := Wdn.cells) (ok := fun w v => v.Ok) (k := 4) Tryz.underlying130 (by kernel_rfl) (fun fuel cs x h => deny_of_trod h) f1
 refine ⟨⟨a0, A1, n1, d1, l1⟩, ⟨i64In_of w0, w1, Nat.le_trans m1 k1, m1⟩, ?_⟩
 have z : cs.drop 2 = [] := List.drop_eq_nil_of_le (by omega)
 have s0 : cs = cs.drop 0 := rfl
 rw [s0, cut_at cs 0 1 1 rfl, e0, cut_at cs 1 1 2 rfl, e1, z]
 simp [Wtb.cells]
theorem batch_of_trod {H : Type} {enc : TypeId × Value → H} {W : World} {sp : Nat → Bool} {held : Bool} {fuel : Nat} {cs : List Value} {x0 : DataW H × List MemPlace} (h : DataW.trod enc Tryz.prog W 0 sp held fuel 45 cs = some x0) :
  ∃ x : Wba, x.In W ∧ cs = x.cells := by
 obtain ⟨xs, m, _, _, hlen, hxl, hat⟩ := DataW.trod_struct Tryz.underlying45 h
 rw [show Tryz.prog.cellsOf 45 = 5 by kernel_rfl] at hlen
 have hx : ∀ i (hi : i < 5), xs[i]? = some (xs[i]'(by rw [hxl]; exact hi)) := fun i hi => List.getElem?_eq_getElem _
 have f0 : DataW.trod enc Tryz.prog W 0 sp held m 3 ((cs.drop 0).take (Tryz.prog.cellsOf 3)) = _ := (hat 0 _ rfl).trans (hx 0 (by omega))
 rw [show Tryz.prog.cellsOf 3 = 1 by kernel_rfl] at f0
 obtain ⟨a0, e0, _, w0⟩ := DataW.trod_int Tryz.underlying3 f0
 have f1 : DataW.trod enc Tryz.prog W 0 sp held m 30 ((cs.drop 1).take (Tryz.prog.cellsOf 30)) = _ := (hat 1 _ rfl).trans (hx 1 (by omega))
 rw [show Tryz.prog.cellsOf 30 = 1 by kernel_rfl] at f1
 obtain ⟨u1, e1, _, w1⟩ := DataW.trod_int Tryz.underlying30 f1
 obtain ⟨a1, rfl, b1⟩ := u64_of w1
 have f2 : DataW.trod enc Tryz.prog W 0 sp held m 41 ((cs.drop 2).take (Tryz.prog.cellsOf 41)) = _ := (hat 2 _ rfl).trans (hx 2 (by omega))
 rw [show Tryz.prog.cellsOf 41 = 1 by kernel_rfl] at f2
 obtain ⟨A2, n2, d2, l2, e2, w2, m2, k2⟩ := lst_of_cells (cells := Wpr.cells) (ok := fun w v => v.In w) (k := 6) Tryz.underlying41 (by kernel_rfl) (fun fuel cs x h => promise_of_trod h) f2
 have f3 : DataW.trod enc Tryz.prog W 0 sp held m 42 ((cs.drop 3).take (Tryz.prog.cellsOf 42)) = _ := (hat 3 _ rfl).trans (hx 3 (by omega))
 rw [show Tryz.prog.cellsOf 42 = 1 by kernel_rfl] at f3
 obtain ⟨A3, n3, d3, l3, e3, w3, m3, k3⟩ := lst_of_cells (cells := Wop.cells) (ok := fun w v => v.In w) (k := 34) Tryz.underlying42 (by kernel_rfl) (fun fuel cs x h => opening_of_trod h) f3
 have f4 : DataW.trod enc Tryz.prog W 0 sp held m 43 ((cs.drop 4).take (Tryz.prog.cellsOf 43)) = _ := (hat 4 _ rfl).trans (hx 4 (by omega))
 rw [show Tryz.prog.cellsOf 43 = 1 by kernel_rfl] at f4
 obtain ⟨A4, n4, d4, l4, e4, w4, m4, k4⟩ := lst_of_cells (cells := Wtb.cells) (ok := fun w v => v.In w) (k := 2) Tryz.underlying43 (by kernel_rfl) (fun fuel cs x h => tomb_of_trod h) f4
 refine ⟨⟨a0, a1, A2, n2, d2, l2, A3, n3, d3, l3, A4, n4, d4, l4⟩, ⟨i64In_of w0, b1, w2, Nat.le_trans m2 k2, w3, Nat.le_trans m3 k3, w4, Nat.le_trans m4 k4⟩, ?_⟩
 have z : cs.drop 5 = [] := List.drop_eq_nil_of_le (by omega)
 have s0 : cs = cs.drop 0 := rfl
 rw [s0, cut_at cs 0 1 1 rfl, e0, cut_at cs 1 1 2 rfl, e1, cut_at cs 2 1 3 rfl, e2, cut_at cs 3 1 4 rfl, e3, cut_at cs 4 1 5 rfl, e4, z]
 simp [Wba.cells]
theorem proposal_of_trod {H : Type} {enc : TypeId × Value → H} {W : World} {sp : Nat → Bool} {held : Bool} {fuel : Nat} {cs : List Value} {x0 : DataW H × List MemPlace} (h : DataW.trod enc Tryz.prog W 0 sp held fuel 47 cs = some x0) :
  ∃ x : Wpo, x.In W ∧ cs = x.cells := by
 obtain ⟨xs, m, _, _, hlen, hxl, hat⟩ := DataW.trod_struct Tryz.underlying47 h
 rw [show Tryz.prog.cellsOf 47 = 11 by kernel_rfl] at hlen
 have hx : ∀ i (hi : i < 6), xs[i]? = some (xs[i]'(by rw [hxl]; exact hi)) := fun i hi => List.getElem?_eq_getElem _
 have f0 : DataW.trod enc Tryz.prog W 0 sp held m 3 ((cs.drop 0).take (Tryz.prog.cellsOf 3)) = _ := (hat 0 _ rfl).trans (hx 0 (by omega))
 rw [show Tryz.prog.cellsOf 3 = 1 by kernel_rfl] at f0
 obtain ⟨a0, e0, _, w0⟩ := DataW.trod_int Tryz.underlying3 f0
 have f1 : DataW.trod enc Tryz.prog W 0 sp held m 3 ((cs.drop 1).take (Tryz.prog.cellsOf 3)) = _ := (hat 1 _ rfl).trans (hx 1 (by omega))
 rw [show Tryz.prog.cellsOf 3 = 1 by kernel_rfl] at f1
 obtain ⟨a1, e1, _, w1⟩ := DataW.trod_int Tryz.underlying3 f1
 have f2 : DataW.trod enc Tryz.prog W 0 sp held m 3 ((cs.drop 2).take (Tryz.prog.cellsOf 3)) = _ := (hat 2 _ rfl).trans (hx 2 (by omega))
 rw [show Tryz.prog.cellsOf 3 = 1 by kernel_rfl] at f2
 obtain ⟨a2, e2, _, w2⟩ := DataW.trod_int Tryz.underlying3 f2
 have f3 : DataW.trod enc Tryz.prog W 0 sp held m 3 ((cs.drop 3).take (Tryz.prog.cellsOf 3)) = _ := (hat 3 _ rfl).trans (hx 3 (by omega))
 rw [show Tryz.prog.cellsOf 3 = 1 by kernel_rfl] at f3
 obtain ⟨a3, e3, _, w3⟩ := DataW.trod_int Tryz.underlying3 f3
 have f4 : DataW.trod enc Tryz.prog W 0 sp held m 45 ((cs.drop 4).take (Tryz.prog.cellsOf 45)) = _ := (hat 4 _ rfl).trans (hx 4 (by omega))
 rw [show Tryz.prog.cellsOf 45 = 5 by kernel_rfl] at f4
 obtain ⟨a4, w4, e4⟩ := batch_of_trod f4
 have f5 : DataW.trod enc Tryz.prog W 0 sp held m 27 ((cs.drop 9).take (Tryz.prog.cellsOf 27)) = _ := (hat 5 _ rfl).trans (hx 5 (by omega))
 rw [show Tryz.prog.cellsOf 27 = 2 by kernel_rfl] at f5
 obtain ⟨a5, c5, w5, v5, e5⟩ := pair_of_trod Tryz.underlying27 ⟨rfl, rfl⟩ ⟨rfl, rfl⟩ (by kernel_rfl) f5
 refine ⟨⟨a0, a1, a2, a3, a4, a5, c5⟩, ⟨i64In_of w0, i64In_of w1, i64In_of w2, i64In_of w3, w4, w5, v5⟩, ?_⟩
 have z : cs.drop 11 = [] := List.drop_eq_nil_of_le (by omega)
 have s0 : cs = cs.drop 0 := rfl
 rw [s0, cut_at cs 0 1 1 rfl, e0, cut_at cs 1 1 2 rfl, e1, cut_at cs 2 1 3 rfl, e2, cut_at cs 3 1 4 rfl, e3, cut_at cs 4 5 9 rfl, e4, cut_at cs 9 2 11 rfl, e5, z]
 simp [Wpo.cells]
end Go.Proofs.YtpcnedpheplofaaGreat

namespace Go.Proofs.YtpcnedpheplofaaGreat
open Go.RowKit
set_option maxRecDepth 100000
abbrev Ps := List UInt8 × Bool
def pI (s : Ps) : Int × Ps := ((inN s.1 1099511627776 : Nat), (inL s.1 1099511627776, inB s.1 1099511627776 s.2))
def pC (s : Ps) : Nat × Ps := (inN s.1 100, (inL s.1 100, inB s.1 100 s.2))
def pN (s : Ps) : Nat × Ps := (rdN s.1, (rdL s.1, rdB s.1 s.2))
def pH (s : Ps) : List UInt8 × Ps := (hashOf s.1, (tookL s.1, tookB s.1 s.2))
def pR (s : Ps) : List UInt8 × Ps := (rwV s.1 256, (rwL s.1 256, rwB s.1 256 s.2))
def p2 (s : Ps) : (Int × Int) × Ps := (((pI s).1, (pI (pI s).2).1), (pI (pI s).2).2)
structure Rs (w : World) (F : List Nat) (g : Nat) (s : Ps) : Prop where
 rd : Rd w g F s.1 s.2
 len : s.1.length ≤ 1073741824
 lt : ∀ k ∈ F, k < w.heap.size
theorem Rs.fr {w w' : World} {F T : List Nat} {g : Nat} {s : Ps} (h : Rs w F g s) (hf : Fr T w w') (hg : ¬ g ∈ T) (hF : ∀ k ∈ F, ¬ k ∈ T) : Rs w' F g s := ⟨h.rd.keep hf hg hF, h.len, fun k hk => Nat.lt_of_lt_of_le (h.lt k hk) hf.size⟩
theorem Rs.gt {w : World} {F : List Nat} {g : Nat} {s : Ps} (h : Rs w F g s) : g < w.heap.size := h.rd.lt
theorem zero_in : i64In 0 := by unfold i64In; omega
theorem inL_le (R : List UInt8) (m : Int) : (inL R m).length ≤ R.length := by
 unfold inL
 cases dec R with
 | none => simp
 | some p => simp only; split <;> simp
section
variable {w : World} {F : List Nat} {g : Nat} {s : Ps}
theorem rint_ps (m : Int) (hm2 : m < 9223372036854775808) (hr : Rs w F g s) :
  Calls Tryz.prog 101 #[.pointer (some ⟨g, 0, none⟩), .int .i64 m] w fun e w' => e = .returned (.int .i64 (inN s.1 m)) ∧ Rs w' F g (inL s.1 m, inB s.1 m s.2) ∧ Fr [g] w w' := by
 have hl := inL_le s.1 m
 obtain ⟨R, bad⟩ := s
 have mk : ∀ {w' : World} {l : List UInt8} {b : Bool}, l.length ≤ R.length → Rd w' g F l b → Fr [g] w w' → Rs w' F g (l, b) := fun h1 h2 h3 => ⟨h2, Nat.le_trans h1 hr.len, fun k hk => Nat.lt_of_lt_of_le (hr.lt k hk) h3.size⟩
 unfold inN inL inB at *
 simp only at hl ⊢
 cases hd : dec R with
 | none =>
   rw [hd] at hl
   exact (rint_bad w g F R bad hr.rd hr.len m (intBad_none hd) hm2).mono fun _ _ ⟨k1, k2, k3⟩ => ⟨k1, mk (by simp) k2 k3, k3⟩
 | some p =>
   rw [hd] at hl
   by_cases hv : (p.1 : Int) ≤ m
   · simp only [if_pos hv] at hl ⊢
     exact (rint_ok w g F R bad hr.rd hr.len p.1 p.2 hd m hv hm2).mono fun _ _ ⟨k1, k2, k3⟩ => ⟨k1, mk hl k2 k3, k3⟩
   · simp only [if_neg hv] at hl ⊢
     exact (rint_bad w g F R bad hr.rd hr.len m (intBad_lt hd (by omega)) hm2).mono fun _ _ ⟨k1, k2, k3⟩ => ⟨k1, mk (by simp) k2 k3, k3⟩
theorem getInt_any (hr : Rs w F g s) : Calls Tryz.prog 56 #[.pointer (some ⟨g, 0, none⟩)] w fun e w' => e = .returned (.int .i64 (pI s).1) ∧ Rs w' F g (pI s).2 ∧ Fr [g] w w' := by
 have HR := Lib.hid hr
 clear hr
 go_enter Tryz.func56, Tryz.ntmps56
 go_wp2_with fail
 refine (rint_ps 1099511627776 (by omega) HR.out).mono ?_
 rintro e w1 ⟨rfl, h1, h2⟩
 have H1 : Hid (Rs w1 F g (pI s).2) := Lib.hid h1
 have H2 := Lib.hid h2
 clear h1 h2
 go_wp2
 go_ret
 exact ⟨rfl, H1.out, H2.out⟩
end
def zCm : Array Value := (Wcm.cells ⟨0, 0, List.replicate 32 0, 0, 0, 0⟩).toArray
def zSt : Array Value := (Wst.cells ⟨0, 0, 0, List.replicate 32 0, 0, 0, 0⟩).toArray
def pCm (s : Ps) : Wcm × Ps := (⟨(p2 s).1.1, (p2 s).1.2, (pH (p2 s).2).1, (pI (pH (p2 s).2).2).1, (p2 (pI (pH (p2 s).2).2).2).1.1, (p2 (pI (pH (p2 s).2).2).2).1.2⟩, (p2 (pI (pH (p2 s).2).2).2).2)
def pSt (s : Ps) : Wst × Ps := (⟨(pI s).1, (p2 (pI s).2).1.1, (p2 (pI s).2).1.2, (pH (p2 (pI s).2).2).1, (pN (pH (p2 (pI s).2).2).2).1, (p2 (pN (pH (p2 (pI s).2).2).2).2).1.1, (p2 (pN (pH (p2 (pI s).2).2).2).2).1.2⟩, (p2 (pN (pH (p2 (pI s).2).2).2).2).2)
def pDn (s : Ps) : Wdn × Ps := (⟨(pI s).1, (pI (pI s).2).1, (p2 (pI (pI s).2).2).1.1, (p2 (pI (pI s).2).2).1.2⟩, (p2 (pI (pI s).2).2).2)
end Go.Proofs.YtpcnedpheplofaaGreat

namespace Go.Proofs.YtpcnedpheplofaaGreat
open Go.RowKit
set_option maxRecDepth 100000
def pRep {α : Type} (p : Ps → α × Ps) : Nat → Ps → List α × Ps
 | 0, s => ([], s)
 | n + 1, s => ((pRep p n s).1 ++ [(p (pRep p n s).2).1], (p (pRep p n s).2).2)
def pL {α : Type} (p : Ps → α × Ps) (s : Ps) : List α × Ps := pRep p (pC s).1 (pC s).2
structure Wce.Li (w : World) (S : List Nat) (x : Wce) : Prop where
 k : x.k.Ok
 l : Lst 38 Wst.cells (fun _ v => v.Ok) w x.A x.n x.l
 n : x.n ≤ 100
 ap : 0 < x.n → ∀ a, x.A = some a → ¬ a.block ∈ S
theorem Wce.Li.keep {w W : World} {S S' : List Nat} {x : Wce} (h : x.Li w S) (hf : Fr S w W) (hs : ∀ k ∈ S', k < w.heap.size → k ∈ S) : x.Li W S' :=
 ⟨h.k, h.l.keep' hf h.ap (fun _ _ h => h), h.n, fun hn a ha hin => h.ap hn a ha (hs _ hin (h.l.lt hn (by decide) (fun v hv => Wst.len (h.l.2.1 v hv).2.h) a ha))⟩
structure Wpr.Li (w : World) (S : List Nat) (x : Wpr) : Prop where
 r : i64In x.r
 e : i64In x.e
 t : x.t < 18446744073709551616
 l : Lst 38 Wce.cells (fun w v => v.Li w S) w x.A x.n x.l
 n : x.n ≤ 100
 ap : 0 < x.n → ∀ a, x.A = some a → ¬ a.block ∈ S
 b : i64In x.b
 m : i64In x.m
theorem Wpr.Li.keep {w W : World} {S S' : List Nat} {x : Wpr} (h : x.Li w S) (hf : Fr S w W) (hs : ∀ k ∈ S', k < w.heap.size → k ∈ S) : x.Li W S' :=
 ⟨h.r, h.e, h.t, h.l.keep' hf h.ap (fun _ _ h => h.keep hf hs), h.n, fun hn a ha hin => h.ap hn a ha (hs _ hin (h.l.lt hn (by decide) (fun v hv => Wce.len (h.l.2.1 v hv).2.k.h) a ha)), h.b, h.m⟩
structure Wtb.Li (w : World) (S : List Nat) (x : Wtb) : Prop where
 i : i64In x.i
 l : Lst 4 Wdn.cells (fun _ v => v.Ok) w x.A x.n x.l
 n : x.n ≤ 100
 ap : 0 < x.n → ∀ a, x.A = some a → ¬ a.block ∈ S
theorem Wtb.Li.keep {w W : World} {S S' : List Nat} {x : Wtb} (h : x.Li w S) (hf : Fr S w W) (hs : ∀ k ∈ S', k < w.heap.size → k ∈ S) : x.Li W S' :=
 ⟨h.i, h.l.keep' hf h.ap (fun _ _ h => h), h.n, fun hn a ha hin => h.ap hn a ha (hs _ hin (h.l.lt hn (by decide) (fun v hv => Wdn.len v) a ha))⟩
structure Wba.Li (w : World) (S : List Nat) (x : Wba) : Prop where
 e : i64In x.e
 t : x.t < 18446744073709551616
 l : Lst 6 Wpr.cells (fun w v => v.Li w S) w x.A x.n x.l
 n : x.n ≤ 100
 ap : 0 < x.n → ∀ a, x.A = some a → ¬ a.block ∈ S
 l2 : Lst 34 Wop.cells (fun w v => v.Ok w S) w x.A2 x.n2 x.l2
 n2 : x.n2 ≤ 100
 ap2 : 0 < x.n2 → ∀ a, x.A2 = some a → ¬ a.block ∈ S
 l3 : Lst 2 Wtb.cells (fun w v => v.Li w S) w x.A3 x.n3 x.l3
 n3 : x.n3 ≤ 100
 ap3 : 0 < x.n3 → ∀ a, x.A3 = some a → ¬ a.block ∈ S
theorem Wba.Li.keep {w W : World} {S S' : List Nat} {x : Wba} (h : x.Li w S) (hf : Fr S w W) (hs : ∀ k ∈ S', k < w.heap.size → k ∈ S) : x.Li W S' :=
 ⟨h.e, h.t, h.l.keep' hf h.ap (fun _ _ h => h.keep hf hs), h.n, fun hn a ha hin => h.ap hn a ha (hs _ hin (h.l.lt hn (by decide) (fun _ _ => rfl) a ha)),
  h.l2.keep' hf h.ap2 (fun _ _ h => h.keep hf hs), h.n2, fun hn a ha hin => h.ap2 hn a ha (hs _ hin (h.l2.lt hn (by decide) (fun v hv => Wop.len (h.l2.2.1 v hv).2.h) a ha)),
  h.l3.keep' hf h.ap3 (fun _ _ h => h.keep hf hs), h.n3, fun hn a ha hin => h.ap3 hn a ha (hs _ hin (h.l3.lt hn (by decide) (fun _ _ => rfl) a ha))⟩
abbrev Cce := Wcm × List Wst
def Wce.con (x : Wce) : Cce := (x.k, x.l)
structure Cpr where
 r : Int
 e : Int
 t : Nat
 l : List Cce
 b : Int
 m : Int
def Wpr.con (x : Wpr) : Cpr := ⟨x.r, x.e, x.t, x.l.map Wce.con, x.b, x.m⟩
structure Cop where
 i : Int
 p : List UInt8
 h : List UInt8
def Wop.con (x : Wop) : Cop := ⟨x.i, x.p, x.h⟩
structure Ctb where
 i : Int
 l : List Wdn
def Wtb.con (x : Wtb) : Ctb := ⟨x.i, x.l⟩
structure Cba where
 e : Int
 t : Nat
 l : List Cpr
 l2 : List Cop
 l3 : List Ctb
def Wba.con (x : Wba) : Cba := ⟨x.e, x.t, x.l.map Wpr.con, x.l2.map Wop.con, x.l3.map Wtb.con⟩
def pCe (s : Ps) : Cce × Ps := (((pCm s).1, (pL pSt (pCm s).2).1), (pL pSt (pCm s).2).2)
def pPr (s : Ps) : Cpr × Ps :=
 let r := pI s; let e := pI r.2; let t := pN e.2; let l := pL pCe t.2; let q := p2 l.2
 (⟨r.1, e.1, t.1, l.1, q.1.1, q.1.2⟩, q.2)
def pOp (s : Ps) : Cop × Ps := let i := pI s; let p := pR i.2; let h := pH p.2; (⟨i.1, p.1, h.1⟩, h.2)
def pTb (s : Ps) : Ctb × Ps := let i := pI s; let l := pL pDn i.2; (⟨i.1, l.1⟩, l.2)
def pBa (s : Ps) : Cba × Ps :=
 let e := pI s; let t := pN e.2; let l := pL pPr t.2; let l2 := pL pOp l.2; let l3 := pL pTb l2.2
 (⟨e.1, t.1, l.1, l2.1, l3.1⟩, l3.2)
def Gets {α β : Type} (f : FuncId) (cells : α → List Value) (ok : World → List Nat → α → Prop) (con : α → β) (p : Ps → β × Ps) : Prop :=
 ∀ (w : World) (F : List Nat) (g : Nat) (s : Ps), Rs w F g s → Calls Tryz.prog f #[.pointer (some ⟨g, 0, none⟩)] w fun e w' => ∃ v : α, e = .returned (.agg (cells v).toArray) ∧ con v = (p s).1 ∧ (∀ S0 : List Nat, (∀ q ∈ S0, q < w.heap.size) → ok w' S0 v) ∧ Rs w' F g (p s).2 ∧ Fr [g] w w'
structure GotL {α β : Type} (e : TypeId) (K : Nat) (cells : α → List Value) (ok : World → List Nat → α → Prop) (con : α → β) (w w' : World) (A : Option Addr) (n c : Nat) (l : List α) (r : List β) : Prop where
 own : w'.ownsRow 0 e K (.slice A n c) n (l.flatMap cells)
 len : l.length = n
 con : l.map con = r
 few : n ≤ 100
 new : ∀ q ∈ bk A, w.heap.size ≤ q
 ok : ∀ v ∈ l, ∀ S0 : List Nat, (∀ q ∈ S0, q < w.heap.size) → ok w' S0 v
end Go.Proofs.YtpcnedpheplofaaGreat

namespace Go.Proofs.YtpcnedpheplofaaGreat
open Go.RowKit
set_option maxRecDepth 100000
theorem GotL.lst {α β : Type} {e : TypeId} {K : Nat} {cells : α → List Value} {ok : World → List Nat → α → Prop} {con : α → β} {w0 w1 : World} {A : Option Addr} {n c : Nat} {l : List α} {r : List β}
  (hkeep : ∀ {w W : World} {S S' : List Nat} {x : α}, ok w S x → Fr S w W → (∀ k ∈ S', k < w.heap.size → k ∈ S) → ok W S' x) (hlen : ∀ w S v, ok w S v → (cells v).length = K)
  (h : GotL e K cells ok con w0 w1 A n c l r) {g q N : Nat} (hg : g < w0.heap.size) (hq : q < w0.heap.size) (hN : N ≤ w0.heap.size) :
  ∀ W, Fr [g, q] w1 W → ∀ S0 : List Nat, (∀ x ∈ S0, x < N) → Lst K cells (fun w v => ok w S0 v) W A n l ∧ (0 < n → ∀ a, A = some a → ¬ a.block ∈ S0) := by
 intro W hf S0 h0
 have hown := own_keep h.own hf (fun k hk hm => by
  have h1 := h.new k ((bk_mem A n c k).1 hk)
  simp at hm
  omega)
 refine ⟨Lst.of_own hown h.len (fun v hv => ?_), fun _ a ha hin => ?_⟩
 · have h1 := h.ok v hv (g :: q :: S0) (fun x hx => by
    rcases List.mem_cons.1 hx with rfl | hx
    · exact hg
    · rcases List.mem_cons.1 hx with rfl | hx
      · exact hq
      · exact Nat.lt_of_lt_of_le (h0 x hx) hN)
   exact ⟨hlen _ _ _ h1, hkeep h1 (hf.mono (fun k hk _ => by simp at hk; simp; omega)) (fun k hk _ => by simp [hk])⟩
 · have h1 := h.new a.block (by simp [bk, ha])
   have h2 := h0 _ hin
   omega
section
variable {w : World} {F : List Nat} {g : Nat} {s : Ps}
end
def zCe : Array Value := (Wce.cells ⟨⟨0, 0, List.replicate 32 0, 0, 0, 0⟩, none, 0, 0, []⟩).toArray
def zOp : Array Value := (Wop.cells ⟨0, none, 0, 0, [], List.replicate 32 0⟩).toArray
end Go.Proofs.YtpcnedpheplofaaGreat

namespace Go.Proofs.YtpcnedpheplofaaGreat
open Go.RowKit
set_option maxRecDepth 100000
structure Wen where
 c : Int
 s : Int
 h : List UInt8
 t : Nat
def Wen.cells (x : Wen) : List Value := [.int .i64 x.c, .int .i64 x.s] ++ (x.h.map by8 ++ [.int .u64 (x.t : Int)])
structure Wen.Ok (x : Wen) : Prop where
 c : i64In x.c
 s : i64In x.s
 h : x.h.length = 32
 t : x.t < 18446744073709551616
theorem Wen.len {x : Wen} (h : x.h.length = 32) : x.cells.length = 35 := by simp [Wen.cells, h]
theorem Wen.one (x : Wen) : ∀ v ∈ x.cells, v.oneCell' = true := by
 intro v hv
 simp only [Wen.cells, List.mem_append, List.mem_cons, List.not_mem_nil, or_false] at hv
 rcases hv with (rfl | rfl) | hv | rfl
 · rfl
 · rfl
 · exact by8_one _ v hv
 · rfl
def zAk : Array Value := (Wst.cells ⟨0, 0, 0, List.replicate 32 0, 0, 0, 0⟩).toArray
def zVt : Array Value := (Wvt.cells ⟨0, 0, 0, 0, List.replicate 32 0, 0, 0⟩).toArray
def zEn : Array Value := (Wen.cells ⟨0, 0, List.replicate 32 0, 0⟩).toArray
def pVt (s : Ps) : Wvt × Ps :=
 let k := pI s; let e := pI k.2; let r := pI e.2; let q := pI r.2; let h := pH q.2; let g := p2 h.2
 (⟨k.1, e.1, r.1, q.1, h.1, g.1.1, g.1.2⟩, g.2)
def pEn (s : Ps) : Wen × Ps :=
 let n := p2 s; let h := pH n.2; let t := pN h.2
 (⟨n.1.1, n.1.2, h.1, t.1⟩, t.2)
structure Wdc where
 e : Int
 r : Int
 k : Wba
 A : Option Addr
 n : Nat
 d : Nat
 l : List Wvt
def Wdc.cells (x : Wdc) : List Value := [.int .i64 x.e, .int .i64 x.r] ++ (x.k.cells ++ [.slice x.A x.n x.d])
theorem Wdc.one (x : Wdc) : ∀ v ∈ x.cells, v.oneCell' = true := by
 intro v hv
 simp only [Wdc.cells, List.mem_append, List.mem_cons, List.not_mem_nil, or_false] at hv
 rcases hv with (rfl | rfl) | hv | rfl
 · rfl
 · rfl
 · exact Wba.one _ v hv
 · rfl
structure Wdc.Li (w : World) (S : List Nat) (x : Wdc) : Prop where
 e : i64In x.e
 r : i64In x.r
 k : x.k.Li w S
 l : Lst 38 Wvt.cells (fun _ v => v.Ok) w x.A x.n x.l
 n : x.n ≤ 100
 ap : 0 < x.n → ∀ a, x.A = some a → ¬ a.block ∈ S
structure Cdc where
 e : Int
 r : Int
 k : Cba
 l : List Wvt
def Wdc.con (x : Wdc) : Cdc := ⟨x.e, x.r, x.k.con, x.l⟩
theorem Wpo.one (x : Wpo) : ∀ v ∈ x.cells, v.oneCell' = true := by
 intro v hv
 simp only [Wpo.cells, List.mem_append, List.mem_cons, List.not_mem_nil, or_false] at hv
 rcases hv with (rfl | rfl | rfl | rfl) | hv | rfl | rfl
 · rfl
 · rfl
 · rfl
 · rfl
 · exact Wba.one _ v hv
 · rfl
 · rfl
structure Wpo.Li (w : World) (S : List Nat) (x : Wpo) : Prop where
 e : i64In x.e
 r : i64In x.r
 v : i64In x.v
 p : i64In x.p
 k : x.k.Li w S
 b : i64In x.b
 m : i64In x.m
structure Cpo where
 e : Int
 r : Int
 v : Int
 p : Int
 k : Cba
 b : Int
 m : Int
def Wpo.con (x : Wpo) : Cpo := ⟨x.e, x.r, x.v, x.p, x.k.con, x.b, x.m⟩
def pPo (s : Ps) : Cpo × Ps :=
 let e := pI s; let r := pI e.2; let v := pI r.2; let p := pI v.2; let k := pBa p.2; let g := p2 k.2
 (⟨e.1, r.1, v.1 - 1, p.1, k.1, g.1.1, g.1.2⟩, g.2)
def pDc (s : Ps) : Cdc × Ps :=
 let e := pI s; let r := pI e.2; let k := pBa r.2; let l := pL pVt k.2
 (⟨e.1, r.1, k.1, l.1⟩, l.2)
end Go.Proofs.YtpcnedpheplofaaGreat

namespace Go.Proofs.YtpcnedpheplofaaGreat
open Go.RowKit
set_option maxRecDepth 100000
def wAck : List UInt8 := [97, 99, 107]
def Wst.ack (x : Wst) : List UInt8 := enc wAck.length ++ wAck ++ x.bare
set_option maxHeartbeats 1000000 in
theorem ackFields_any (x : Wst) (hx : x.Ok) (w : World) (S : List Nat) (g : Nat) (l : List UInt8) (hw : Wr w S g l) (hl : l.length + 100 ≤ 1073741000) :
  Calls Tryz.prog 123 #[.pointer (some ⟨g, 0, none⟩), x.val] w fun e w' => e = .returned (.pointer (some ⟨g, 0, none⟩)) ∧ Gr w S g (l ++ x.bare) w' := by
 obtain ⟨wa, hwa⟩ : ∃ wa, wa = w.alloc (Obj.cells x.cells.toArray 37) := ⟨_, rfl⟩
 have hf0 : Fr [] w wa := by rw [hwa]; exact (Fr.refl [] w).alloc _
 have hb0 : Blk wa w.heap.size 37 x.cells.toArray := by rw [hwa]; exact Blk.new _ _ _
 have HNS : Hid (¬ w.heap.size ∈ S) := Lib.hid (fun h => by have := hw.lt _ h; omega)
 have HG0 := Lib.hid (Gr.begin hw hf0)
 have HALL := Lib.hid hb0.range
 have HAT := Lib.hid (Wst.at_of (o := 0) hb0.range hx.h)
 have HLN : Hid (x.cells.length = 38) := Lib.hid (Wst.len hx.h)
 have HF0 := Lib.hid hf0
 have HWA := Lib.hid hwa
 have HL := Lib.hid hl
 have HX := Lib.hid hx
 clear hwa hf0 hb0 hl hw hx
 unfold Wst.val
 generalize hC : x.cells = C at *
 have HRC := Lib.hid hC
 clear hC
 go_enter Tryz.func123, Tryz.ntmps123
 go_wp2
 rw [← HWA.out]
 refine wp_region_held_drew (S := Fr S wa) (by kernel_rfl) (Fr.drew (Fr.refl _ wa)) (fun hHeld => ?_)
 refine run_at (i := 0) (v := ?_) rfl (by kernel_rfl) (by rfl) (fun _ _ _ h => h) hHeld (fun w1 hw1 => ?_) ?_
 rotate_left 1
 · skip
   go_simp
   try first | with_reducible rfl | apply And.intro <;> rfl
 simp only [xPa, xPb, xPc, xPd, xPe]
 refine run_at (i := 1) (v := ?_) rfl (by kernel_rfl) (by rfl) (fun _ _ _ h => h) hHeld (fun w1 hw1 => ?_) ?_
 rotate_left 1
 · skip
   go_simp
   try first | with_reducible rfl | apply And.intro <;> rfl
 simp only [xPa, xPb, xPc, xPd, xPe]
 refine run_at (i := 2) (v := ?_) rfl (by kernel_rfl) (by rfl) (fun _ _ _ h => h) hHeld (fun w1 hw1 => ?_) ?_
 rotate_left 1
 · skip
   have hcw0 := hw1.cell (HAT.out.r) (by first | (simp; done) | exact HNS.out)
   go_simp
   try first | with_reducible rfl | apply And.intro <;> rfl
 simp only [xPa, xPb, xPc, xPd, xPe]
 refine run_at (i := 4) (v := ?_) rfl (by kernel_rfl) (by rfl) (fun _ _ _ h => h) hHeld (fun w1 hw1 => ?_) ?_
 rotate_left 1
 · skip
   go_simp
   try first | with_reducible rfl | apply And.intro <;> rfl
 simp only [xPa, xPb, xPc, xPd, xPe]
 refine row_at (i := 5) rfl (by kernel_rfl) (by rfl) _ _ rfl _ _ rfl _ (fun w1 hw1 => hw1.range (HAT.out.name) (by first | (simp; done) | exact HNS.out)) (row_name) (fun _ _ _ h => h) hHeld ?_
 simp only [xPa, xPb, xPc, xPd, xPe]
 refine run_at (i := 7) (v := ?_) rfl (by kernel_rfl) (by rfl) (fun _ _ _ h => h) hHeld (fun w1 hw1 => ?_) ?_
 rotate_left 1
 · skip
   go_simp
   try first | with_reducible rfl | apply And.intro <;> rfl
 simp only [xPa, xPb, xPc, xPd, xPe]
 refine row_at (i := 8) rfl (by kernel_rfl) (by rfl) _ _ rfl _ _ rfl _ (fun w1 hw1 => hw1.range (HAT.out.hash) (by first | (simp; done) | exact HNS.out)) (row_hash.of (by rw [List.length_map]; exact HX.out.h)) (fun _ _ _ h => h) hHeld ?_
 simp only [xPa, xPb, xPc, xPd, xPe]
 refine run_at (i := 10) (v := ?_) rfl (by kernel_rfl) (by rfl) (fun _ _ _ h => h) hHeld (fun w1 hw1 => ?_) ?_
 rotate_left 1
 · skip
   go_simp
   try first | with_reducible rfl | apply And.intro <;> rfl
 simp only [xPa, xPb, xPc, xPd, xPe]
 refine run_at (i := 11) (v := ?_) rfl (by kernel_rfl) (by rfl) (fun _ _ _ h => h) hHeld (fun w1 hw1 => ?_) ?_
 rotate_left 1
 · skip
   have hcw0 := hw1.cell (HAT.out.t) (by first | (simp; done) | exact HNS.out)
   go_simp
   try first | with_reducible rfl | apply And.intro <;> rfl
 simp only [xPa, xPb, xPc, xPd, xPe]
 refine call_at (i := 3) (f := ?_) (args := ?_) rfl (by kernel_rfl) (by rfl) ?_ ?_
 rotate_left 2
 · go_simp
   try first | with_reducible rfl | apply And.intro <;> rfl
 refine (HG0.out.call fun S1 k1 => int_any x.r HX.out.r.1 HX.out.r.2 _ S1 g _ k1 (by have h0 := HL.out; (try simp only [List.length_append, sgL, nmL] at *); omega)).mono ?_
 rintro e w1 ⟨rfl, hg1⟩
 have HG1 := Lib.hid hg1
 refine ⟨_, rfl, hg1.fr, fun hHeld => ?_⟩
 clear hg1 HG0
 simp only [xPa, xPb, xPc, xPd, xPe]
 refine call_at (i := 6) (f := ?_) (args := ?_) rfl (by kernel_rfl) (by rfl) ?_ ?_
 rotate_left 2
 · go_simp
   try first | with_reducible rfl | apply And.intro <;> rfl
 refine (HG1.out.call fun S1 k1 => putName_any x.c x.s HX.out.c HX.out.s _ S1 g _ k1 (by have h0 := HL.out; have b0 := encI_len x.r HX.out.r.2; (try simp only [List.length_append, sgL, nmL] at *); omega)).mono ?_
 rintro e w2 ⟨rfl, hg2⟩
 have HG2 := Lib.hid hg2
 refine ⟨_, rfl, hg2.fr, fun hHeld => ?_⟩
 clear hg2 HG1
 simp only [xPa, xPb, xPc, xPd, xPe]
 refine call_at (i := 9) (f := ?_) (args := ?_) rfl (by kernel_rfl) (by rfl) ?_ ?_
 rotate_left 2
 · go_simp
   try first | with_reducible rfl | apply And.intro <;> rfl
 refine (HG2.out.call fun S1 k1 => hash_any x.h HX.out.h _ S1 g _ k1 (by have h0 := HL.out; have b0 := encI_len x.r HX.out.r.2; have b1 := encI_len x.c HX.out.c.2; have b2 := encI_len x.s HX.out.s.2; (try simp only [List.length_append, sgL, nmL] at *); omega)).mono ?_
 rintro e w3 ⟨rfl, hg3⟩
 have HG3 := Lib.hid hg3
 refine ⟨_, rfl, hg3.fr, fun hHeld => ?_⟩
 clear hg3 HG2
 simp only [xPa, xPb, xPc, xPd, xPe]
 refine call_at (i := 12) (f := ?_) (args := ?_) rfl (by kernel_rfl) (by rfl) ?_ ?_
 rotate_left 2
 · go_simp
   try first | with_reducible rfl | apply And.intro <;> rfl
 refine (HG3.out.call fun S1 k1 => num_any x.t HX.out.t _ S1 g _ k1 (by have h0 := HL.out; have b0 := encI_len x.r HX.out.r.2; have b1 := encI_len x.c HX.out.c.2; have b2 := encI_len x.s HX.out.s.2; have b3 := HX.out.h; (try simp only [List.length_append, sgL, nmL] at *); omega)).mono ?_
 rintro e w4 ⟨rfl, hg4⟩
 have HG4 := Lib.hid hg4
 refine ⟨_, rfl, hg4.fr, fun hHeld => ?_⟩
 clear hg4 HG3
 simp only [xPa, xPb, xPc, xPd, xPe]
 refine run_at (i := 13) (v := ?_) rfl (by kernel_rfl) (by rfl) (fun _ _ _ h => h) hHeld (fun w1 hw1 => ?_) ?_
 rotate_left 1
 · skip
   go_simp
   try first | with_reducible rfl | apply And.intro <;> rfl
 simp only [xPa, xPb, xPc, xPd, xPe]
 refine wpAnyH_done (by kernel_rfl) ?_ _
 go_wp2
 go_ret
 exact ⟨rfl, (HG4.out.from_ HF0.out).eq (by simp [Wst.bare, List.append_assoc])⟩
theorem ackFields_any' (x : Wst) (hx : x.Ok) (C : List Value) (hC : x.cells = C) (w : World) (S : List Nat) (g : Nat) (l : List UInt8) (hw : Wr w S g l) (hl : l.length + 100 ≤ 1073741000) :
  Calls Tryz.prog 123 #[.pointer (some ⟨g, 0, none⟩), .agg C.toArray] w fun e w' => e = .returned (.pointer (some ⟨g, 0, none⟩)) ∧ Gr w S g (l ++ x.bare) w' := by
 subst hC
 exact ackFields_any x hx w S g l hw hl
set_option maxHeartbeats 1000000 in
theorem putAck_any (x : Wst) (hx : x.Ok) (w : World) (S : List Nat) (g : Nat) (l : List UInt8) (hw : Wr w S g l) (hl : l.length + 200 ≤ 1073741000) :
  Calls Tryz.prog 81 #[.pointer (some ⟨g, 0, none⟩), x.val] w fun e w' => e = .returned (.pointer (some ⟨g, 0, none⟩)) ∧ Gr w S g (l ++ x.full) w' := by
 obtain ⟨wa, hwa⟩ : ∃ wa, wa = w.alloc (Obj.cells x.cells.toArray 37) := ⟨_, rfl⟩
 have hf0 : Fr [] w wa := by rw [hwa]; exact (Fr.refl [] w).alloc _
 have hb0 : Blk wa w.heap.size 37 x.cells.toArray := by rw [hwa]; exact Blk.new _ _ _
 have HNS : Hid (¬ w.heap.size ∈ S) := Lib.hid (fun h => by have := hw.lt _ h; omega)
 have HG0 := Lib.hid (Gr.begin hw hf0)
 have HALL := Lib.hid hb0.range
 have HAT := Lib.hid (Wst.at_of (o := 0) hb0.range hx.h)
 have HLN : Hid (x.cells.length = 38) := Lib.hid (Wst.len hx.h)
 have HF0 := Lib.hid hf0
 have HWA := Lib.hid hwa
 have HL := Lib.hid hl
 have HX := Lib.hid hx
 clear hwa hf0 hb0 hl hw hx
 unfold Wst.val
 generalize hC : x.cells = C at *
 have HRC := Lib.hid hC
 clear hC
 go_enter Tryz.func81, Tryz.ntmps81
 go_wp2
 rw [← HWA.out]
 refine wp_region_held_drew (S := Fr S wa) (by kernel_rfl) (Fr.drew (Fr.refl _ wa)) (fun hHeld => ?_)
 refine run_at (i := 0) (v := ?_) rfl (by kernel_rfl) (by rfl) (fun _ _ _ h => h) hHeld (fun w1 hw1 => ?_) ?_
 rotate_left 1
 · skip
   go_simp
   try first | with_reducible rfl | apply And.intro <;> rfl
 simp only [xPa, xPb, xPc, xPd, xPe]
 refine row_at (i := 1) rfl (by kernel_rfl) (by rfl) _ _ rfl _ _ rfl _ (fun w1 hw1 => hw1.range (HALL.out) (by first | (simp; done) | exact HNS.out)) (row_ack.of HLN.out) (fun _ _ _ h => h) hHeld ?_
 simp only [xPa, xPb, xPc, xPd, xPe]
 refine run_at (i := 3) (v := ?_) rfl (by kernel_rfl) (by rfl) (fun _ _ _ h => h) hHeld (fun w1 hw1 => ?_) ?_
 rotate_left 1
 · skip
   go_simp
   try first | with_reducible rfl | apply And.intro <;> rfl
 simp only [xPa, xPb, xPc, xPd, xPe]
 refine row_at (i := 4) rfl (by kernel_rfl) (by rfl) _ _ rfl _ _ rfl _ (fun w1 hw1 => hw1.range (HAT.out.sig) (by first | (simp; done) | exact HNS.out)) (row_sg) (fun _ _ _ h => h) hHeld ?_
 simp only [xPa, xPb, xPc, xPd, xPe]
 refine call_at (i := 2) (f := ?_) (args := ?_) rfl (by kernel_rfl) (by rfl) ?_ ?_
 rotate_left 2
 · go_simp
   try first | with_reducible rfl | apply And.intro <;> rfl
 refine (HG0.out.call fun S1 k1 => ackFields_any' x HX.out C HRC.out _ S1 g _ k1 (by have h0 := HL.out; (try simp only [List.length_append, sgL, nmL] at *); omega)).mono ?_
 rintro e w1 ⟨rfl, hg1⟩
 have HG1 := Lib.hid hg1
 refine ⟨_, rfl, hg1.fr, fun hHeld => ?_⟩
 clear hg1 HG0
 simp only [xPa, xPb, xPc, xPd, xPe]
 refine call_at (i := 5) (f := ?_) (args := ?_) rfl (by kernel_rfl) (by rfl) ?_ ?_
 rotate_left 2
 · go_simp
   try first | with_reducible rfl | apply And.intro <;> rfl
 refine (HG1.out.call fun S1 k1 => putSig_any x.b x.m HX.out.b HX.out.m _ S1 g _ k1 (by have h0 := HL.out; have b0 := Wst.bare_len HX.out; (try simp only [List.length_append, sgL, nmL] at *); omega)).mono ?_
 rintro e w2 ⟨rfl, hg2⟩
 have HG2 := Lib.hid hg2
 refine ⟨_, rfl, hg2.fr, fun hHeld => ?_⟩
 clear hg2 HG1
 simp only [xPa, xPb, xPc, xPd, xPe]
 refine run_at (i := 6) (v := ?_) rfl (by kernel_rfl) (by rfl) (fun _ _ _ h => h) hHeld (fun w1 hw1 => ?_) ?_
 rotate_left 1
 · skip
   go_simp
   try first | with_reducible rfl | apply And.intro <;> rfl
 simp only [xPa, xPb, xPc, xPd, xPe]
 refine wpAnyH_done (by kernel_rfl) ?_ _
 go_wp2
 go_ret
 exact ⟨rfl, (HG2.out.from_ HF0.out).eq (by simp [Wst.full, List.append_assoc])⟩
theorem putAck_any' (x : Wst) (hx : x.Ok) (C : List Value) (hC : x.cells = C) (w : World) (S : List Nat) (g : Nat) (l : List UInt8) (hw : Wr w S g l) (hl : l.length + 200 ≤ 1073741000) :
  Calls Tryz.prog 81 #[.pointer (some ⟨g, 0, none⟩), .agg C.toArray] w fun e w' => e = .returned (.pointer (some ⟨g, 0, none⟩)) ∧ Gr w S g (l ++ x.full) w' := by
 subst hC
 exact putAck_any x hx w S g l hw hl
end Go.Proofs.YtpcnedpheplofaaGreat

namespace Go.Proofs.YtpcnedpheplofaaGreat
open Go.RowKit
set_option maxRecDepth 100000
set_option maxHeartbeats 1000000 in
theorem putVote_any (x : Wvt) (hx : x.Ok) (w : World) (S : List Nat) (g : Nat) (l : List UInt8) (hw : Wr w S g l) (hl : l.length + 200 ≤ 1073741000) :
  Calls Tryz.prog 84 #[.pointer (some ⟨g, 0, none⟩), x.val] w fun e w' => e = .returned (.pointer (some ⟨g, 0, none⟩)) ∧ Gr w S g (l ++ x.full) w' := by
 obtain ⟨wa, hwa⟩ : ∃ wa, wa = w.alloc (Obj.cells x.cells.toArray 49) := ⟨_, rfl⟩
 have hf0 : Fr [] w wa := by rw [hwa]; exact (Fr.refl [] w).alloc _
 have hb0 : Blk wa w.heap.size 49 x.cells.toArray := by rw [hwa]; exact Blk.new _ _ _
 have HNS : Hid (¬ w.heap.size ∈ S) := Lib.hid (fun h => by have := hw.lt _ h; omega)
 have HG0 := Lib.hid (Gr.begin hw hf0)
 have HALL := Lib.hid hb0.range
 have HAT := Lib.hid (Wvt.at_of (o := 0) hb0.range hx.h)
 have HLN : Hid (x.cells.length = 38) := Lib.hid (Wvt.len hx.h)
 have HF0 := Lib.hid hf0
 have HWA := Lib.hid hwa
 have HL := Lib.hid hl
 have HX := Lib.hid hx
 clear hwa hf0 hb0 hl hw hx
 unfold Wvt.val
 generalize hC : x.cells = C at *
 have HRC := Lib.hid hC
 clear hC
 go_enter Tryz.func84, Tryz.ntmps84
 go_wp2
 rw [← HWA.out]
 refine wp_region_held_drew (S := Fr S wa) (by kernel_rfl) (Fr.drew (Fr.refl _ wa)) (fun hHeld => ?_)
 refine run_at (i := 0) (v := ?_) rfl (by kernel_rfl) (by rfl) (fun _ _ _ h => h) hHeld (fun w1 hw1 => ?_) ?_
 rotate_left 1
 · skip
   go_simp
   try first | with_reducible rfl | apply And.intro <;> rfl
 simp only [xPa, xPb, xPc, xPd, xPe]
 refine row_at (i := 1) rfl (by kernel_rfl) (by rfl) _ _ rfl _ _ rfl _ (fun w1 hw1 => hw1.range (HALL.out) (by first | (simp; done) | exact HNS.out)) (row_vote.of HLN.out) (fun _ _ _ h => h) hHeld ?_
 simp only [xPa, xPb, xPc, xPd, xPe]
 refine run_at (i := 3) (v := ?_) rfl (by kernel_rfl) (by rfl) (fun _ _ _ h => h) hHeld (fun w1 hw1 => ?_) ?_
 rotate_left 1
 · skip
   go_simp
   try first | with_reducible rfl | apply And.intro <;> rfl
 simp only [xPa, xPb, xPc, xPd, xPe]
 refine row_at (i := 4) rfl (by kernel_rfl) (by rfl) _ _ rfl _ _ rfl _ (fun w1 hw1 => hw1.range (HAT.out.sig) (by first | (simp; done) | exact HNS.out)) (row_sg) (fun _ _ _ h => h) hHeld ?_
 simp only [xPa, xPb, xPc, xPd, xPe]
 refine call_at (i := 2) (f := ?_) (args := ?_) rfl (by kernel_rfl) (by rfl) ?_ ?_
 rotate_left 2
 · go_simp
   try first | with_reducible rfl | apply And.intro <;> rfl
 refine (HG0.out.call fun S1 k1 => voteFields_any' x HX.out C HRC.out _ S1 g _ k1 (by have h0 := HL.out; (try simp only [List.length_append, sgL, nmL] at *); omega)).mono ?_
 rintro e w1 ⟨rfl, hg1⟩
 have HG1 := Lib.hid hg1
 refine ⟨_, rfl, hg1.fr, fun hHeld => ?_⟩
 clear hg1 HG0
 simp only [xPa, xPb, xPc, xPd, xPe]
 refine call_at (i := 5) (f := ?_) (args := ?_) rfl (by kernel_rfl) (by rfl) ?_ ?_
 rotate_left 2
 · go_simp
   try first | with_reducible rfl | apply And.intro <;> rfl
 refine (HG1.out.call fun S1 k1 => putSig_any x.b x.m HX.out.b HX.out.m _ S1 g _ k1 (by have h0 := HL.out; have b0 := Wvt.bare_len HX.out; (try simp only [List.length_append, sgL, nmL] at *); omega)).mono ?_
 rintro e w2 ⟨rfl, hg2⟩
 have HG2 := Lib.hid hg2
 refine ⟨_, rfl, hg2.fr, fun hHeld => ?_⟩
 clear hg2 HG1
 simp only [xPa, xPb, xPc, xPd, xPe]
 refine run_at (i := 6) (v := ?_) rfl (by kernel_rfl) (by rfl) (fun _ _ _ h => h) hHeld (fun w1 hw1 => ?_) ?_
 rotate_left 1
 · skip
   go_simp
   try first | with_reducible rfl | apply And.intro <;> rfl
 simp only [xPa, xPb, xPc, xPd, xPe]
 refine wpAnyH_done (by kernel_rfl) ?_ _
 go_wp2
 go_ret
 exact ⟨rfl, (HG2.out.from_ HF0.out).eq (by simp [Wvt.full, List.append_assoc])⟩
theorem putVote_any' (x : Wvt) (hx : x.Ok) (C : List Value) (hC : x.cells = C) (w : World) (S : List Nat) (g : Nat) (l : List UInt8) (hw : Wr w S g l) (hl : l.length + 200 ≤ 1073741000) :
  Calls Tryz.prog 84 #[.pointer (some ⟨g, 0, none⟩), .agg C.toArray] w fun e w' => e = .returned (.pointer (some ⟨g, 0, none⟩)) ∧ Gr w S g (l ++ x.full) w' := by
 subst hC
 exact putVote_any x hx w S g l hw hl
theorem Wvt.full_len {x : Wvt} (hx : x.Ok) : x.full.length ≤ 100 := by
 have b0 := Wvt.bare_len hx
 have b1 := encI_len x.b hx.b.2
 have b2 := encI_len x.m hx.m.2
 simp only [Wvt.full, sgL, List.length_append]
 omega
set_option maxHeartbeats 2000000 in
theorem putVotes_any {α : Type} (cells : α → List Value) (ok : World → List Nat → α → Prop) (full : α → List UInt8) (N : Nat) (hone : ∀ v, ∀ u ∈ cells v, u.oneCell' = true) (hsz : (Tryz.prog.info? 49).map (·.size) = some 38)
  (hfull : ∀ W S v, ok W S v → (full v).length ≤ N)
  (hput : ∀ (v : α) (W : World) (S : List Nat) (g : Nat) (l : List UInt8), ok W S v → Wr W S g l → l.length + N ≤ 1073741000 → Calls Tryz.prog 84 #[.pointer (some ⟨g, 0, none⟩), .agg (cells v).toArray] W fun e w' => e = .returned (.pointer (some ⟨g, 0, none⟩)) ∧ Gr W S g (l ++ full v) w')
  (w : World) (S : List Nat) (g : Nat) (l : List UInt8) (hw : Wr w S g l) (A : Option Addr) (n c : Nat) (xs : List α) (hx : Lst 38 cells (fun w v => ok w S v) w A n xs) (hn : n ≤ 1000) (hA : 0 < n → ∀ a, A = some a → ¬ a.block ∈ S)
  (hkeep : ∀ W S', Fr S w W → (∀ x ∈ S', x < w.heap.size → x ∈ S) → ∀ v ∈ xs, ok w S v → ok W S' v) (hl : l.length + 20 + (n + 1) * N ≤ 1073741000) :
  Calls Tryz.prog 129 #[.pointer (some ⟨g, 0, none⟩), fnV 84, .slice A n c] w fun e w' => e = .returned (.pointer (some ⟨g, 0, none⟩)) ∧ Gr w S g (l ++ listL full xs) w' := by
 have HG0 := Lib.hid (Gr.refl hw)
 have HX := Lib.hid hx
 have HA := Lib.hid hA
 have HL := Lib.hid hl
 have HKP := Lib.hid hkeep
 have HSL := Lib.hid hw.lt
 have hxn := hx.1
 clear hw hx hA hl hkeep
 unfold fnV
 go_enter Tryz.func129, Tryz.ntmps129
 go_wp2_with fail
 refine (HG0.out.call fun S1 k1 => int_any (n : Int) (by omega) (by omega) _ S1 g _ k1 (by have := HL.out; omega)).mono ?_
 rintro e w1 ⟨rfl, hg1⟩
 have HG1 := Lib.hid hg1
 clear hg1 HG0
 go_wp2_with fail
 go_loopw [15] (fun i wr => ∃ k : Nat, k ≤ n ∧ i = .int .i64 k ∧ Gr w S g (l ++ encI (n : Int) ++ (xs.take k).flatMap full) wr) (fun i _ => n - (intOf i).toNat)
 case atStart => exact ⟨0, by omega, rfl, by simpa using HG1.out⟩
 case round =>
  obtain ⟨k, hk, rfl, hg⟩ := hrel
  have HG := Lib.hid hg
  clear hg
  by_cases hlt : k < n
  · obtain ⟨ad, v, rfl, hv, hcl, hok, hc⟩ := HX.out.at hlt
    have HV := Lib.hid hv
    have HCL := Lib.hid hcl
    have HOK := Lib.hid hok
    have HMEM := Lib.hid (List.mem_of_getElem? hv)
    have HC := Lib.hid (fun j x hj => HG.out.fr.cell (hc j x hj) (by rw [add_block, add_block]; exact HA.out (by omega) ad rfl))
    have HONE := Lib.hid (hone v)
    have HPUT := Lib.hid (hput v)
    have hk0 : (0 : Int) ≤ k := by omega
    have hlen : ((xs.take k).flatMap full).length ≤ k * N := flat_len (fun v hv => hfull w S v (HX.out.2.1 v (List.mem_of_mem_take hv)).2) (by rw [List.length_take]; omega)
    have hkn2 : k * N + N ≤ (n + 1) * N := by rw [← Nat.succ_mul]; exact Nat.mul_le_mul_right N (by omega)
    have HLEN : Hid ((l ++ encI (n : Int) ++ (xs.take k).flatMap full).length + N ≤ 1073741000) := Lib.hid (by have := HL.out; have := encI_len (n : Int) (by omega); simp only [List.length_append]; omega)
    have HTK : Hid ((xs.take (k + 1)).flatMap full = (xs.take k).flatMap full ++ full v) := Lib.hid (by rw [List.take_add_one, hv]; simp)
    have HFV := Lib.hid (rfl : cells v = cells v)
    clear hv hcl hok hc hlen hkn2
    generalize hcv : cells v = C at *
    go_wp2_with (first
     | (refine wpList_cells rfl 49 _ rfl _ rfl C HC.out (row_vote.of HCL.out) ?_)
     | (refine wpList_store_box rfl 49 _ _ rfl _ 49 C rfl rfl (by rw [hsz, HCL.out]) (by rw [HCL.out]; rfl) HONE.out ?_
        intro wb hbb hfb
        have HBB := Lib.hid hbb
        have HFB := Lib.hid hfb
        clear hbb hfb)
     | (refine wpList_row rfl 49 _ rfl _ _ rfl _ HBB.out.range (row_vote.of HCL.out) ?_))
    have HGB := Lib.hid (HG.out.trans (fun S1 k => ⟨S1, k.keep HFB.out (by simp), HFB.out.mono (by simp), fun x hx _ => hx⟩))
    refine (HGB.out.calls fun S1 k1 f1 s1 => HPUT.out _ S1 g _ (HKP.out wb S1 f1 s1 v HMEM.out HOK.out) k1 HLEN.out).mono ?_
    rintro e w2 ⟨rfl, hg2⟩
    have HG2 := Lib.hid hg2
    clear hg2
    go_wp2
    exact ⟨⟨k + 1, by omega, rfl, HG2.out.eq (by rw [HTK.out, List.append_assoc])⟩, by simp only [intOf, Int.toNat_natCast, Int.toNat_natCast_add_one]; omega⟩
  · have hkn : k = n := by omega
    subst hkn
    have HFIN : Hid (Gr w S g (l ++ listL full xs) wr) := Lib.hid (HG.out.eq (by rw [List.take_of_length_le (by omega), listL, hxn, List.append_assoc]))
    clear HG
    go_wp2
    go_ret
    exact ⟨rfl, HFIN.out⟩
def Wen.val (x : Wen) : Value := .agg x.cells.toArray
def Wen.full (x : Wen) : List UInt8 := nmL x.c x.s ++ x.h ++ enc x.t
theorem Wen.full_len {x : Wen} (hx : x.Ok) : x.full.length ≤ 62 := by
 have b1 := encI_len x.c hx.c.2
 have b2 := encI_len x.s hx.s.2
 have b3 := hx.h
 have b4 := enc_ten hx.t
 simp only [Wen.full, nmL, List.length_append]
 omega
set_option maxHeartbeats 1000000 in
theorem putEntry_any (x : Wen) (hx : x.Ok) (w : World) (S : List Nat) (g : Nat) (l : List UInt8) (hw : Wr w S g l) (hl : l.length + 200 ≤ 1073741000) :
  Calls Tryz.prog 85 #[.pointer (some ⟨g, 0, none⟩), x.val] w fun e w' => e = .returned (.pointer (some ⟨g, 0, none⟩)) ∧ Gr w S g (l ++ x.full) w' := by
 obtain ⟨wa, hwa⟩ : ∃ wa, wa = w.alloc (Obj.cells x.cells.toArray 51) := ⟨_, rfl⟩
 have hf0 : Fr [] w wa := by rw [hwa]; exact (Fr.refl [] w).alloc _
 have hb0 : Blk wa w.heap.size 51 x.cells.toArray := by rw [hwa]; exact Blk.new _ _ _
 have HNS : Hid (¬ w.heap.size ∈ S) := Lib.hid (fun h => by have := hw.lt _ h; omega)
 have HG0 := Lib.hid (Gr.begin hw hf0)
 have HLN : Hid (x.cells.length = 35) := Lib.hid (Wen.len hx.h)
 have HNM : Hid (wa.rangeAt w.heap.size (0 + 0) [.int .i64 x.c, .int .i64 x.s]) := Lib.hid (rangeAt_sub (xs := []) (ys := [.int .i64 x.c, .int .i64 x.s]) (zs := x.h.map by8 ++ [.int .u64 (x.t : Int)]) hb0.range)
 have HHS : Hid (wa.rangeAt w.heap.size (0 + 2) (x.h.map by8)) := Lib.hid (rangeAt_sub (xs := [.int .i64 x.c, .int .i64 x.s]) (ys := x.h.map by8) (zs := [.int .u64 (x.t : Int)]) hb0.range)
 have HTM : Hid (wa.cell? ⟨w.heap.size, 0 + 34, none⟩ = some (.int .u64 (x.t : Int))) := Lib.hid (hb0.range 34 _ (post_cell [.int .i64 x.c, .int .i64 x.s] (x.h.map by8) [.int .u64 (x.t : Int)] (by rw [List.length_map]; exact hx.h) 0 rfl))
 have HF0 := Lib.hid hf0
 have HWA := Lib.hid hwa
 have HL := Lib.hid hl
 have HX := Lib.hid hx
 clear hwa hf0 hb0 hl hw hx
 unfold Wen.val
 generalize hC : x.cells = C at *
 have HRC := Lib.hid hC
 clear hC
 go_enter Tryz.func85, Tryz.ntmps85
 go_wp2
 rw [← HWA.out]
 refine wp_region_held_drew (S := Fr S wa) (by kernel_rfl) (Fr.drew (Fr.refl _ wa)) (fun hHeld => ?_)
 refine run_at (i := 0) (v := ?_) rfl (by kernel_rfl) (by rfl) (fun _ _ _ h => h) hHeld (fun w1 hw1 => ?_) ?_
 rotate_left 1
 · skip
   go_simp
   try first | with_reducible rfl | apply And.intro <;> rfl
 simp only [xPa, xPb, xPc, xPd, xPe]
 refine run_at (i := 1) (v := ?_) rfl (by kernel_rfl) (by rfl) (fun _ _ _ h => h) hHeld (fun w1 hw1 => ?_) ?_
 rotate_left 1
 · skip
   go_simp
   try first | with_reducible rfl | apply And.intro <;> rfl
 simp only [xPa, xPb, xPc, xPd, xPe]
 refine row_at (i := 2) rfl (by kernel_rfl) (by rfl) _ _ rfl _ _ rfl _ (fun w1 hw1 => hw1.range (HNM.out) (by first | (simp; done) | exact HNS.out)) (row_name) (fun _ _ _ h => h) hHeld ?_
 simp only [xPa, xPb, xPc, xPd, xPe]
 refine run_at (i := 4) (v := ?_) rfl (by kernel_rfl) (by rfl) (fun _ _ _ h => h) hHeld (fun w1 hw1 => ?_) ?_
 rotate_left 1
 · skip
   go_simp
   try first | with_reducible rfl | apply And.intro <;> rfl
 simp only [xPa, xPb, xPc, xPd, xPe]
 refine row_at (i := 5) rfl (by kernel_rfl) (by rfl) _ _ rfl _ _ rfl _ (fun w1 hw1 => hw1.range (HHS.out) (by first | (simp; done) | exact HNS.out)) (row_hash.of (by rw [List.length_map]; exact HX.out.h)) (fun _ _ _ h => h) hHeld ?_
 simp only [xPa, xPb, xPc, xPd, xPe]
 refine run_at (i := 7) (v := ?_) rfl (by kernel_rfl) (by rfl) (fun _ _ _ h => h) hHeld (fun w1 hw1 => ?_) ?_
 rotate_left 1
 · skip
   go_simp
   try first | with_reducible rfl | apply And.intro <;> rfl
 simp only [xPa, xPb, xPc, xPd, xPe]
 refine run_at (i := 8) (v := ?_) rfl (by kernel_rfl) (by rfl) (fun _ _ _ h => h) hHeld (fun w1 hw1 => ?_) ?_
 rotate_left 1
 · skip
   have hcw0 := hw1.cell (HTM.out) (by first | (simp; done) | exact HNS.out)
   go_simp
   try first | with_reducible rfl | apply And.intro <;> rfl
 simp only [xPa, xPb, xPc, xPd, xPe]
 refine call_at (i := 3) (f := ?_) (args := ?_) rfl (by kernel_rfl) (by rfl) ?_ ?_
 rotate_left 2
 · go_simp
   try first | with_reducible rfl | apply And.intro <;> rfl
 refine (HG0.out.call fun S1 k1 => putName_any x.c x.s HX.out.c HX.out.s _ S1 g _ k1 (by have h0 := HL.out; (try simp only [List.length_append, sgL, nmL] at *); omega)).mono ?_
 rintro e w1 ⟨rfl, hg1⟩
 have HG1 := Lib.hid hg1
 refine ⟨_, rfl, hg1.fr, fun hHeld => ?_⟩
 clear hg1 HG0
 simp only [xPa, xPb, xPc, xPd, xPe]
 refine call_at (i := 6) (f := ?_) (args := ?_) rfl (by kernel_rfl) (by rfl) ?_ ?_
 rotate_left 2
 · go_simp
   try first | with_reducible rfl | apply And.intro <;> rfl
 refine (HG1.out.call fun S1 k1 => hash_any x.h HX.out.h _ S1 g _ k1 (by have h0 := HL.out; have b0 := encI_len x.c HX.out.c.2; have b1 := encI_len x.s HX.out.s.2; (try simp only [List.length_append, sgL, nmL] at *); omega)).mono ?_
 rintro e w2 ⟨rfl, hg2⟩
 have HG2 := Lib.hid hg2
 refine ⟨_, rfl, hg2.fr, fun hHeld => ?_⟩
 clear hg2 HG1
 simp only [xPa, xPb, xPc, xPd, xPe]
 refine call_at (i := 9) (f := ?_) (args := ?_) rfl (by kernel_rfl) (by rfl) ?_ ?_
 rotate_left 2
 · go_simp
   try first | with_reducible rfl | apply And.intro <;> rfl
 refine (HG2.out.call fun S1 k1 => num_any x.t HX.out.t _ S1 g _ k1 (by have h0 := HL.out; have b0 := encI_len x.c HX.out.c.2; have b1 := encI_len x.s HX.out.s.2; have b2 := HX.out.h; (try simp only [List.length_append, sgL, nmL] at *); omega)).mono ?_
 rintro e w3 ⟨rfl, hg3⟩
 have HG3 := Lib.hid hg3
 refine ⟨_, rfl, hg3.fr, fun hHeld => ?_⟩
 clear hg3 HG2
 simp only [xPa, xPb, xPc, xPd, xPe]
 refine run_at (i := 10) (v := ?_) rfl (by kernel_rfl) (by rfl) (fun _ _ _ h => h) hHeld (fun w1 hw1 => ?_) ?_
 rotate_left 1
 · skip
   go_simp
   try first | with_reducible rfl | apply And.intro <;> rfl
 simp only [xPa, xPb, xPc, xPd, xPe]
 refine wpAnyH_done (by kernel_rfl) ?_ _
 go_wp2
 go_ret
 exact ⟨rfl, (HG3.out.from_ HF0.out).eq (by simp [Wen.full, List.append_assoc])⟩
theorem putEntry_any' (x : Wen) (hx : x.Ok) (C : List Value) (hC : x.cells = C) (w : World) (S : List Nat) (g : Nat) (l : List UInt8) (hw : Wr w S g l) (hl : l.length + 200 ≤ 1073741000) :
  Calls Tryz.prog 85 #[.pointer (some ⟨g, 0, none⟩), .agg C.toArray] w fun e w' => e = .returned (.pointer (some ⟨g, 0, none⟩)) ∧ Gr w S g (l ++ x.full) w' := by
 subst hC
 exact putEntry_any x hx w S g l hw hl
def Wpo.full (x : Wpo) : List UInt8 := x.head ++ x.k.full ++ sgL x.b x.m
structure Wpo.OkS (w : World) (S : List Nat) (x : Wpo) : Prop where
 e : i64In x.e
 r : i64In x.r
 v : i64In x.v
 p : i64In x.p
 k : x.k.Ok w S
 b : i64In x.b
 m : i64In x.m
theorem Wpo.full_len {w : World} {S : List Nat} {x : Wpo} (hx : x.OkS w S) : x.full.length ≤ 14100 := by
 have b0 := Wpo.head_len hx.e hx.r hx.v hx.p
 have b1 := Wba.full_len hx.k
 have b2 := encI_len x.b hx.b.2
 have b3 := encI_len x.m hx.m.2
 simp only [Wpo.full, sgL, List.length_append]
 omega
set_option maxHeartbeats 1000000 in
theorem putProposal_any (x : Wpo) (w : World) (S : List Nat) (g : Nat) (l : List UInt8) (hw : Wr w S g l) (hl : l.length + 60500 ≤ 1073741000) (hx : x.OkS w S) :
  Calls Tryz.prog 83 #[.pointer (some ⟨g, 0, none⟩), x.val] w fun e w' => e = .returned (.pointer (some ⟨g, 0, none⟩)) ∧ Gr w S g (l ++ x.full) w' := by
 obtain ⟨wa, hwa⟩ : ∃ wa, wa = w.alloc (Obj.cells x.cells.toArray 47) := ⟨_, rfl⟩
 have hf0 : Fr [] w wa := by rw [hwa]; exact (Fr.refl [] w).alloc _
 have hb0 : Blk wa w.heap.size 47 x.cells.toArray := by rw [hwa]; exact Blk.new _ _ _
 have HNS : Hid (¬ w.heap.size ∈ S) := Lib.hid (fun h => by have := hw.lt _ h; omega)
 have HG0 := Lib.hid (Gr.begin hw hf0)
 have HALL := Lib.hid hb0.range
 have HLN : Hid (x.cells.length = 11) := Lib.hid (Wpo.len x)
 have HBT : Hid (wa.rangeAt w.heap.size (0 + 4) x.k.cells) := Lib.hid (rangeAt_sub (xs := [.int .i64 x.e, .int .i64 x.r, .int .i64 x.v, .int .i64 x.p]) (ys := x.k.cells) (zs := [.int .i64 x.b, .int .i64 x.m]) hb0.range)
 have HSG : Hid (wa.rangeAt w.heap.size (0 + 9) [.int .i64 x.b, .int .i64 x.m]) := Lib.hid (rangeAt_sub (xs := [.int .i64 x.e, .int .i64 x.r, .int .i64 x.v, .int .i64 x.p] ++ x.k.cells) (ys := [.int .i64 x.b, .int .i64 x.m]) (zs := []) (by simpa [Wpo.cells] using hb0.range))
 have HKL : Hid (x.k.cells.length = 5) := Lib.hid (Wba.len x.k)
 have HXA : Hid (x.k.Ok wa S) := Lib.hid (hx.k.keep (hf0.mono (T := S) (by simp)) (fun k hk _ => hk))
 have HF0 := Lib.hid hf0
 have HWA := Lib.hid hwa
 have HL := Lib.hid hl
 have HX := Lib.hid hx
 clear hwa hf0 hb0 hl hw hx
 unfold Wpo.val
 generalize hC : x.cells = C at *
 have HRC := Lib.hid hC
 clear hC
 generalize hK : x.k.cells = K at *
 have HRK := Lib.hid hK
 clear hK
 go_enter Tryz.func83, Tryz.ntmps83
 go_wp2
 rw [← HWA.out]
 refine wp_region_held_drew (S := Fr S wa) (by kernel_rfl) (Fr.drew (Fr.refl _ wa)) (fun hHeld => ?_)
 refine run_at (i := 0) (v := ?_) rfl (by kernel_rfl) (by rfl) (fun _ _ _ h => h) hHeld (fun w1 hw1 => ?_) ?_
 rotate_left 1
 · skip
   go_simp
   try first | with_reducible rfl | apply And.intro <;> rfl
 simp only [xPa, xPb, xPc, xPd, xPe]
 refine row_at (i := 1) rfl (by kernel_rfl) (by rfl) _ _ rfl _ _ rfl _ (fun w1 hw1 => hw1.range (HALL.out) (by first | (simp; done) | exact HNS.out)) (row_prop.of HLN.out) (fun _ _ _ h => h) hHeld ?_
 simp only [xPa, xPb, xPc, xPd, xPe]
 refine run_at (i := 3) (v := ?_) rfl (by kernel_rfl) (by rfl) (fun _ _ _ h => h) hHeld (fun w1 hw1 => ?_) ?_
 rotate_left 1
 · skip
   go_simp
   try first | with_reducible rfl | apply And.intro <;> rfl
 simp only [xPa, xPb, xPc, xPd, xPe]
 refine row_at (i := 4) rfl (by kernel_rfl) (by rfl) _ _ rfl _ _ rfl _ (fun w1 hw1 => hw1.range (HBT.out) (by first | (simp; done) | exact HNS.out)) (row_bat.of HKL.out) (fun _ _ _ h => h) hHeld ?_
 simp only [xPa, xPb, xPc, xPd, xPe]
 refine run_at (i := 6) (v := ?_) rfl (by kernel_rfl) (by rfl) (fun _ _ _ h => h) hHeld (fun w1 hw1 => ?_) ?_
 rotate_left 1
 · skip
   go_simp
   try first | with_reducible rfl | apply And.intro <;> rfl
 simp only [xPa, xPb, xPc, xPd, xPe]
 refine row_at (i := 7) rfl (by kernel_rfl) (by rfl) _ _ rfl _ _ rfl _ (fun w1 hw1 => hw1.range (HSG.out) (by first | (simp; done) | exact HNS.out)) (row_sg) (fun _ _ _ h => h) hHeld ?_
 simp only [xPa, xPb, xPc, xPd, xPe]
 refine call_at (i := 2) (f := ?_) (args := ?_) rfl (by kernel_rfl) (by rfl) ?_ ?_
 rotate_left 2
 · go_simp
   try first | with_reducible rfl | apply And.intro <;> rfl
 refine (HG0.out.call fun S1 k1 => proposalHead_any x C HRC.out _ S1 g _ k1 (by have h0 := HL.out; (try simp only [List.length_append, sgL, nmL] at *); omega) HX.out.e HX.out.r HX.out.v HX.out.p).mono ?_
 rintro e w1 ⟨rfl, hg1⟩
 have HG1 := Lib.hid hg1
 refine ⟨_, rfl, hg1.fr, fun hHeld => ?_⟩
 clear hg1 HG0
 simp only [xPa, xPb, xPc, xPd, xPe]
 refine call_at (i := 5) (f := ?_) (args := ?_) rfl (by kernel_rfl) (by rfl) ?_ ?_
 rotate_left 2
 · go_simp
   try first | with_reducible rfl | apply And.intro <;> rfl
 refine (HG1.out.calls fun S1 k1 f1 s1 => putBatch_any' x.k K HRK.out _ S1 g _ k1 (by have h0 := HL.out; have b0 := Wpo.head_len HX.out.e HX.out.r HX.out.v HX.out.p; (try simp only [List.length_append, sgL, nmL] at *); omega) (HXA.out.keep f1 s1)).mono ?_
 rintro e w2 ⟨rfl, hg2⟩
 have HG2 := Lib.hid hg2
 refine ⟨_, rfl, hg2.fr, fun hHeld => ?_⟩
 clear hg2 HG1
 simp only [xPa, xPb, xPc, xPd, xPe]
 refine call_at (i := 8) (f := ?_) (args := ?_) rfl (by kernel_rfl) (by rfl) ?_ ?_
 rotate_left 2
 · go_simp
   try first | with_reducible rfl | apply And.intro <;> rfl
 refine (HG2.out.call fun S1 k1 => putSig_any x.b x.m HX.out.b HX.out.m _ S1 g _ k1 (by have h0 := HL.out; have b0 := Wpo.head_len HX.out.e HX.out.r HX.out.v HX.out.p; have b1 := Wba.full_len HX.out.k; (try simp only [List.length_append, sgL, nmL] at *); omega)).mono ?_
 rintro e w3 ⟨rfl, hg3⟩
 have HG3 := Lib.hid hg3
 refine ⟨_, rfl, hg3.fr, fun hHeld => ?_⟩
 clear hg3 HG2
 simp only [xPa, xPb, xPc, xPd, xPe]
 refine run_at (i := 9) (v := ?_) rfl (by kernel_rfl) (by rfl) (fun _ _ _ h => h) hHeld (fun w1 hw1 => ?_) ?_
 rotate_left 1
 · skip
   go_simp
   try first | with_reducible rfl | apply And.intro <;> rfl
 simp only [xPa, xPb, xPc, xPd, xPe]
 refine wpAnyH_done (by kernel_rfl) ?_ _
 go_wp2
 go_ret
 exact ⟨rfl, (HG3.out.from_ HF0.out).eq (by simp [Wpo.full, List.append_assoc])⟩
theorem putProposal_any' (x : Wpo) (C : List Value) (hC : x.cells = C) (w : World) (S : List Nat) (g : Nat) (l : List UInt8) (hw : Wr w S g l) (hl : l.length + 60500 ≤ 1073741000) (hx : x.OkS w S) :
  Calls Tryz.prog 83 #[.pointer (some ⟨g, 0, none⟩), .agg C.toArray] w fun e w' => e = .returned (.pointer (some ⟨g, 0, none⟩)) ∧ Gr w S g (l ++ x.full) w' := by
 subst hC
 exact putProposal_any x w S g l hw hl hx
def Wdc.val (x : Wdc) : Value := .agg x.cells.toArray
def Wdc.full (x : Wdc) : List UInt8 := encI x.e ++ encI x.r ++ x.k.full ++ listL Wvt.full x.l
structure Wdc.Ok (w : World) (S : List Nat) (x : Wdc) : Prop where
 e : i64In x.e
 r : i64In x.r
 k : x.k.Ok w S
 l : Lst 38 Wvt.cells (fun _ v => v.Ok) w x.A x.n x.l
 n : x.n ≤ 5
 ap : 0 < x.n → ∀ a, x.A = some a → ¬ a.block ∈ S
theorem Wdc.len (x : Wdc) : x.cells.length = 8 := rfl
theorem row_dec : RowTy Tryz.prog 59 8 := ⟨by kernel_rfl, by kernel_rfl⟩
theorem Wdc.full_len {w : World} {S : List Nat} {x : Wdc} (hx : x.Ok w S) : x.full.length ≤ 14600 := by
 have b0 := encI_len x.e hx.e.2
 have b1 := encI_len x.r hx.r.2
 have b2 := Wba.full_len hx.k
 have b3 := encI_len (x.l.length : Int) (by have := hx.n; have := hx.l.1; omega)
 have b4 : (x.l.flatMap Wvt.full).length ≤ 5 * 100 := flat_len (fun v hv => Wvt.full_len (hx.l.2.1 v hv).2) (by have := hx.n; have := hx.l.1; omega)
 simp only [Wdc.full, listL, List.length_append]
 omega
set_option maxHeartbeats 1000000 in
theorem putDecided_any (x : Wdc) (w : World) (S : List Nat) (g : Nat) (l : List UInt8) (hw : Wr w S g l) (hl : l.length + 62000 ≤ 1073741000) (hx : x.Ok w S) :
  Calls Tryz.prog 89 #[.pointer (some ⟨g, 0, none⟩), x.val] w fun e w' => e = .returned (.pointer (some ⟨g, 0, none⟩)) ∧ Gr w S g (l ++ x.full) w' := by
 obtain ⟨wa, hwa⟩ : ∃ wa, wa = w.alloc (Obj.cells x.cells.toArray 59) := ⟨_, rfl⟩
 have hf0 : Fr [] w wa := by rw [hwa]; exact (Fr.refl [] w).alloc _
 have hb0 : Blk wa w.heap.size 59 x.cells.toArray := by rw [hwa]; exact Blk.new _ _ _
 have HNS : Hid (¬ w.heap.size ∈ S) := Lib.hid (fun h => by have := hw.lt _ h; omega)
 have HG0 := Lib.hid (Gr.begin hw hf0)
 have HC0 : Hid (wa.cell? ⟨w.heap.size, 0 + 0, none⟩ = some (.int .i64 x.e)) := Lib.hid (hb0.range (cs := x.cells) 0 _ rfl)
 have HC1 : Hid (wa.cell? ⟨w.heap.size, 0 + 1, none⟩ = some (.int .i64 x.r)) := Lib.hid (hb0.range (cs := x.cells) 1 _ rfl)
 have HC7 : Hid (wa.cell? ⟨w.heap.size, 0 + 7, none⟩ = some (.slice x.A x.n x.d)) := Lib.hid (hb0.range (cs := x.cells) 7 _ rfl)
 have HLN : Hid (x.cells.length = 8) := Lib.hid (Wdc.len x)
 have HBT : Hid (wa.rangeAt w.heap.size (0 + 2) x.k.cells) := Lib.hid (rangeAt_sub (xs := [.int .i64 x.e, .int .i64 x.r]) (ys := x.k.cells) (zs := [.slice x.A x.n x.d]) hb0.range)
 have HKL : Hid (x.k.cells.length = 5) := Lib.hid (Wba.len x.k)
 have HXA : Hid (x.k.Ok wa S) := Lib.hid (hx.k.keep (hf0.mono (T := S) (by simp)) (fun k hk _ => hk))
 have HF0 := Lib.hid hf0
 have HWA := Lib.hid hwa
 have HL := Lib.hid hl
 have HX := Lib.hid hx
 clear hwa hf0 hb0 hl hw hx
 unfold Wdc.val
 generalize hC : x.cells = C at *
 have HRC := Lib.hid hC
 clear hC
 generalize hK : x.k.cells = K at *
 have HRK := Lib.hid hK
 clear hK
 go_enter Tryz.func89, Tryz.ntmps89
 go_wp2
 rw [← HWA.out]
 refine wp_region_held_drew (S := Fr S wa) (by kernel_rfl) (Fr.drew (Fr.refl _ wa)) (fun hHeld => ?_)
 refine run_at (i := 0) (v := ?_) rfl (by kernel_rfl) (by rfl) (fun _ _ _ h => h) hHeld (fun w1 hw1 => ?_) ?_
 rotate_left 1
 · skip
   go_simp
   try first | with_reducible rfl | apply And.intro <;> rfl
 simp only [xPa, xPb, xPc, xPd, xPe]
 refine run_at (i := 1) (v := ?_) rfl (by kernel_rfl) (by rfl) (fun _ _ _ h => h) hHeld (fun w1 hw1 => ?_) ?_
 rotate_left 1
 · skip
   go_simp
   try first | with_reducible rfl | apply And.intro <;> rfl
 simp only [xPa, xPb, xPc, xPd, xPe]
 refine run_at (i := 2) (v := ?_) rfl (by kernel_rfl) (by rfl) (fun _ _ _ h => h) hHeld (fun w1 hw1 => ?_) ?_
 rotate_left 1
 · skip
   have hcw0 := hw1.cell (HC0.out) (by first | (simp; done) | exact HNS.out)
   go_simp
   try first | with_reducible rfl | apply And.intro <;> rfl
 simp only [xPa, xPb, xPc, xPd, xPe]
 refine run_at (i := 4) (v := ?_) rfl (by kernel_rfl) (by rfl) (fun _ _ _ h => h) hHeld (fun w1 hw1 => ?_) ?_
 rotate_left 1
 · skip
   go_simp
   try first | with_reducible rfl | apply And.intro <;> rfl
 simp only [xPa, xPb, xPc, xPd, xPe]
 refine run_at (i := 5) (v := ?_) rfl (by kernel_rfl) (by rfl) (fun _ _ _ h => h) hHeld (fun w1 hw1 => ?_) ?_
 rotate_left 1
 · skip
   have hcw0 := hw1.cell (HC1.out) (by first | (simp; done) | exact HNS.out)
   go_simp
   try first | with_reducible rfl | apply And.intro <;> rfl
 simp only [xPa, xPb, xPc, xPd, xPe]
 refine run_at (i := 7) (v := ?_) rfl (by kernel_rfl) (by rfl) (fun _ _ _ h => h) hHeld (fun w1 hw1 => ?_) ?_
 rotate_left 1
 · skip
   go_simp
   try first | with_reducible rfl | apply And.intro <;> rfl
 simp only [xPa, xPb, xPc, xPd, xPe]
 refine row_at (i := 8) rfl (by kernel_rfl) (by rfl) _ _ rfl _ _ rfl _ (fun w1 hw1 => hw1.range (HBT.out) (by first | (simp; done) | exact HNS.out)) (row_bat.of HKL.out) (fun _ _ _ h => h) hHeld ?_
 simp only [xPa, xPb, xPc, xPd, xPe]
 refine run_at (i := 10) (v := ?_) rfl (by kernel_rfl) (by rfl) (fun _ _ _ h => h) hHeld (fun w1 hw1 => ?_) ?_
 rotate_left 1
 · skip
   go_simp
   try first | with_reducible rfl | apply And.intro <;> rfl
 simp only [xPa, xPb, xPc, xPd, xPe]
 refine run_at (i := 11) (v := ?_) rfl (by kernel_rfl) (by rfl) (fun _ _ _ h => h) hHeld (fun w1 hw1 => ?_) ?_
 rotate_left 1
 · skip
   have hcw0 := hw1.cell (HC7.out) (by first | (simp; done) | exact HNS.out)
   go_simp
   try first | with_reducible rfl | apply And.intro <;> rfl
 simp only [xPa, xPb, xPc, xPd, xPe]
 refine call_at (i := 3) (f := ?_) (args := ?_) rfl (by kernel_rfl) (by rfl) ?_ ?_
 rotate_left 2
 · go_simp
   try first | with_reducible rfl | apply And.intro <;> rfl
 refine (HG0.out.call fun S1 k1 => int_any x.e HX.out.e.1 HX.out.e.2 _ S1 g _ k1 (by have h0 := HL.out; (try simp only [List.length_append, sgL, nmL] at *); omega)).mono ?_
 rintro e w1 ⟨rfl, hg1⟩
 have HG1 := Lib.hid hg1
 refine ⟨_, rfl, hg1.fr, fun hHeld => ?_⟩
 clear hg1 HG0
 simp only [xPa, xPb, xPc, xPd, xPe]
 refine call_at (i := 6) (f := ?_) (args := ?_) rfl (by kernel_rfl) (by rfl) ?_ ?_
 rotate_left 2
 · go_simp
   try first | with_reducible rfl | apply And.intro <;> rfl
 refine (HG1.out.call fun S1 k1 => int_any x.r HX.out.r.1 HX.out.r.2 _ S1 g _ k1 (by have h0 := HL.out; have b0 := encI_len x.e HX.out.e.2; (try simp only [List.length_append, sgL, nmL] at *); omega)).mono ?_
 rintro e w2 ⟨rfl, hg2⟩
 have HG2 := Lib.hid hg2
 refine ⟨_, rfl, hg2.fr, fun hHeld => ?_⟩
 clear hg2 HG1
 simp only [xPa, xPb, xPc, xPd, xPe]
 refine call_at (i := 9) (f := ?_) (args := ?_) rfl (by kernel_rfl) (by rfl) ?_ ?_
 rotate_left 2
 · go_simp
   try first | with_reducible rfl | apply And.intro <;> rfl
 refine (HG2.out.calls fun S1 k1 f1 s1 => putBatch_any' x.k K HRK.out _ S1 g _ k1 (by have h0 := HL.out; have b0 := encI_len x.e HX.out.e.2; have b1 := encI_len x.r HX.out.r.2; (try simp only [List.length_append, sgL, nmL] at *); omega) (HXA.out.keep f1 s1)).mono ?_
 rintro e w3 ⟨rfl, hg3⟩
 have HG3 := Lib.hid hg3
 refine ⟨_, rfl, hg3.fr, fun hHeld => ?_⟩
 clear hg3 HG2
 simp only [xPa, xPb, xPc, xPd, xPe]
 refine call_at (i := 12) (f := ?_) (args := ?_) rfl (by kernel_rfl) (by rfl) ?_ ?_
 rotate_left 2
 · go_simp
   try first | with_reducible rfl | apply And.intro <;> rfl
 refine (HG3.out.calls fun S1 k1 f1 s1 => putVotes_any Wvt.cells (fun _ _ v => v.Ok) Wvt.full 200 Wvt.one rfl (fun _ _ v h => Nat.le_trans (Wvt.full_len h) (by decide)) (fun v W S g l h hw hl => putVote_any v h W S g l hw hl) _ S1 g _ k1 x.A x.n x.d x.l (HX.out.l.keep' ((HF0.out.mono (T := S) (by simp)).trans f1 (fun k hk _ => hk)) HX.out.ap (fun _ _ h => h)) (by have := HX.out.n; omega) (fun hn a ha hin => HX.out.ap hn a ha (s1 _ hin (Nat.lt_of_lt_of_le (HX.out.l.lt hn (by decide) (fun v hv => Wvt.len (HX.out.l.2.1 v hv).2.h) a ha) HF0.out.size))) (fun _ _ _ _ _ _ h => h) (by have h0 := HL.out; have b0 := encI_len x.e HX.out.e.2; have b1 := encI_len x.r HX.out.r.2; have b2 := Wba.full_len HX.out.k; have := HX.out.n; simp only [List.length_append]; omega)).mono ?_
 rintro e w4 ⟨rfl, hg4⟩
 have HG4 := Lib.hid hg4
 refine ⟨_, rfl, hg4.fr, fun hHeld => ?_⟩
 clear hg4 HG3
 simp only [xPa, xPb, xPc, xPd, xPe]
 refine run_at (i := 13) (v := ?_) rfl (by kernel_rfl) (by rfl) (fun _ _ _ h => h) hHeld (fun w1 hw1 => ?_) ?_
 rotate_left 1
 · skip
   go_simp
   try first | with_reducible rfl | apply And.intro <;> rfl
 simp only [xPa, xPb, xPc, xPd, xPe]
 refine wpAnyH_done (by kernel_rfl) ?_ _
 go_wp2
 go_ret
 exact ⟨rfl, (HG4.out.from_ HF0.out).eq (by simp [Wdc.full, List.append_assoc])⟩
theorem putDecided_any' (x : Wdc) (C : List Value) (hC : x.cells = C) (w : World) (S : List Nat) (g : Nat) (l : List UInt8) (hw : Wr w S g l) (hl : l.length + 62000 ≤ 1073741000) (hx : x.Ok w S) :
  Calls Tryz.prog 89 #[.pointer (some ⟨g, 0, none⟩), .agg C.toArray] w fun e w' => e = .returned (.pointer (some ⟨g, 0, none⟩)) ∧ Gr w S g (l ++ x.full) w' := by
 subst hC
 exact putDecided_any x w S g l hw hl hx
end Go.Proofs.YtpcnedpheplofaaGreat

namespace Go.Proofs.YtpcnedpheplofaaGreat
open Go.RowKit
set_option maxRecDepth 100000
structure Wmg where
 q : Int
 f : Int
 t : Int
 cm : Wcm
 st : Wst
 ce : Wce
 ak : Wst
 e : Int
 r : Int
 tm : Nat
 pr : Wpr
 po : Wpo
 vt : Wvt
 i : Int
 en : Wen
 op : Wop
 dn : Wdn
 rp : List UInt8
 de : Wdc
def Wmg.cells (x : Wmg) : List Value := [.int .i64 x.q] ++ ([.int .i64 x.f] ++ ([.int .i64 x.t] ++ (x.cm.cells ++ (x.st.cells ++ (x.ce.cells ++ (x.ak.cells ++ ([.int .i64 x.e] ++ ([.int .i64 x.r] ++ ([.int .u64 (x.tm : Int)] ++ (x.pr.cells ++ (x.po.cells ++ (x.vt.cells ++ ([.int .i64 x.i] ++ (x.en.cells ++ (x.op.cells ++ (x.dn.cells ++ ([.string ⟨x.rp.toArray⟩] ++ (x.de.cells))))))))))))))))))
structure Wmg.Ok (w : World) (S : List Nat) (x : Wmg) : Prop where
 q : i64In x.q
 f : i64In x.f
 t : i64In x.t
 cm : x.cm.Ok
 st : x.st.Ok
 ce : x.ce.Ok w S
 ak : x.ak.Ok
 e : i64In x.e
 r : i64In x.r
 tm : x.tm < 18446744073709551616
 pr : x.pr.Ok w S
 po : x.po.OkS w S
 vt : x.vt.Ok
 i : i64In x.i
 en : x.en.Ok
 op : x.op.Ok w S
 dn : x.dn.Ok
 rp : x.rp.length ≤ 260
 de : x.de.Ok w S
theorem ra_head {w : World} {g o : Nat} {a b : List Value} (h : w.rangeAt g o (a ++ b)) : w.rangeAt g o a := fun j v hv => h j v (by rw [List.getElem?_append_left (List.getElem?_eq_some_iff.1 hv).1]; exact hv)
theorem ra_tail {w : World} {g o k : Nat} {a b : List Value} (h : w.rangeAt g o (a ++ b)) (hk : a.length = k) : w.rangeAt g (o + k) b := by
 intro j v hv
 have := h (k + j) v (by rw [List.getElem?_append_right (by omega), hk]; simpa using hv)
 rw [← Nat.add_assoc] at this
 exact this
structure Wmg.At (w : World) (g : Nat) (x : Wmg) : Prop where
 q : w.rangeAt g 0 ([.int .i64 x.q] : List Value)
 f : w.rangeAt g 1 ([.int .i64 x.f] : List Value)
 t : w.rangeAt g 2 ([.int .i64 x.t] : List Value)
 cm : w.rangeAt g 3 x.cm.cells
 st : w.rangeAt g 40 x.st.cells
 ce : w.rangeAt g 78 x.ce.cells
 ak : w.rangeAt g 116 x.ak.cells
 e : w.rangeAt g 154 ([.int .i64 x.e] : List Value)
 r : w.rangeAt g 155 ([.int .i64 x.r] : List Value)
 tm : w.rangeAt g 156 ([.int .u64 (x.tm : Int)] : List Value)
 pr : w.rangeAt g 157 x.pr.cells
 po : w.rangeAt g 163 x.po.cells
 vt : w.rangeAt g 174 x.vt.cells
 i : w.rangeAt g 212 ([.int .i64 x.i] : List Value)
 en : w.rangeAt g 213 x.en.cells
 op : w.rangeAt g 248 x.op.cells
 dn : w.rangeAt g 282 x.dn.cells
 rp : w.rangeAt g 286 ([.string ⟨x.rp.toArray⟩] : List Value)
 de : w.rangeAt g 287 x.de.cells
theorem Wmg.at_of {w W : World} {S : List Nat} {g : Nat} {x : Wmg} (hr : w.rangeAt g 0 x.cells) (hx : x.Ok W S) : x.At w g := by
 unfold Wmg.cells at hr
 have t0 := ra_tail hr (k := 1) (rfl)
 have t1 := ra_tail t0 (k := 1) (rfl)
 have t2 := ra_tail t1 (k := 1) (rfl)
 have t3 := ra_tail t2 (k := 37) (Wcm.len hx.cm.h)
 have t4 := ra_tail t3 (k := 38) (Wst.len hx.st.h)
 have t5 := ra_tail t4 (k := 38) (Wce.len hx.ce.k.h)
 have t6 := ra_tail t5 (k := 38) (Wst.len hx.ak.h)
 have t7 := ra_tail t6 (k := 1) (rfl)
 have t8 := ra_tail t7 (k := 1) (rfl)
 have t9 := ra_tail t8 (k := 1) (rfl)
 have t10 := ra_tail t9 (k := 6) (Wpr.len x.pr)
 have t11 := ra_tail t10 (k := 11) (Wpo.len x.po)
 have t12 := ra_tail t11 (k := 38) (Wvt.len hx.vt.h)
 have t13 := ra_tail t12 (k := 1) (rfl)
 have t14 := ra_tail t13 (k := 35) (Wen.len hx.en.h)
 have t15 := ra_tail t14 (k := 34) (Wop.len hx.op.h)
 have t16 := ra_tail t15 (k := 4) (Wdn.len x.dn)
 have t17 := ra_tail t16 (k := 1) (rfl)
 exact ⟨ra_head hr, ra_head t0, ra_head t1, ra_head t2, ra_head t3, ra_head t4, ra_head t5, ra_head t6, ra_head t7, ra_head t8, ra_head t9, ra_head t10, ra_head t11, ra_head t12, ra_head t13, ra_head t14, ra_head t15, ra_head t16, t17⟩
theorem putOpening_any' (x : Wop) (C : List Value) (hC : x.cells = C) (w : World) (S : List Nat) (g : Nat) (l : List UInt8) (hw : Wr w S g l) (hl : l.length + 500 ≤ 1073741000) (hx : x.Ok w S) :
  Calls Tryz.prog 86 #[.pointer (some ⟨g, 0, none⟩), .agg C.toArray] w fun e w' => e = .returned (.pointer (some ⟨g, 0, none⟩)) ∧ Gr w S g (l ++ x.full) w' := by
 subst hC
 exact putOpening_any x w S g l hw hl hx
theorem Wpo.OkS.keep {w W : World} {S S' : List Nat} {x : Wpo} (h : x.OkS w S) (hf : Fr S w W) (hs : ∀ k ∈ S', k < w.heap.size → k ∈ S) : x.OkS W S' :=
 ⟨h.e, h.r, h.v, h.p, h.k.keep hf hs, h.b, h.m⟩
theorem Wdc.Ok.keep {w W : World} {S S' : List Nat} {x : Wdc} (h : x.Ok w S) (hf : Fr S w W) (hs : ∀ k ∈ S', k < w.heap.size → k ∈ S) : x.Ok W S' :=
 ⟨h.e, h.r, h.k.keep hf hs, h.l.keep' hf h.ap (fun _ _ h => h), h.n, fun hn a ha hin => h.ap hn a ha (hs _ hin (h.l.lt hn (by decide) (fun v hv => Wvt.len (h.l.2.1 v hv).2.h) a ha))⟩
theorem Wmg.Ok.keep {w W : World} {S S' : List Nat} {x : Wmg} (h : x.Ok w S) (hf : Fr S w W) (hs : ∀ k ∈ S', k < w.heap.size → k ∈ S) : x.Ok W S' :=
 ⟨h.q, h.f, h.t, h.cm, h.st, h.ce.keep hf hs, h.ak, h.e, h.r, h.tm, h.pr.keep hf hs, h.po.keep hf hs, h.vt, h.i, h.en, h.op.keep hf hs, h.dn, h.rp, h.de.keep hf hs⟩
set_option maxHeartbeats 2000000 in
theorem mput_cm (x : Wmg) (hq : x.q = 1) (w : World) (S : List Nat) (g : Nat) (l : List UInt8) (hw : Wr w S g l) (hl : l.length + 70000 ≤ 1073741000) (hx : x.Ok w S) (C : List Value) (hC : x.cells = C) :
  Calls Tryz.prog 27 #[.pointer (some ⟨g, 0, none⟩), .agg C.toArray] w fun e w' => e = .returned (.bool true) ∧ Gr w S g (l ++ x.cm.full) w' := by
 obtain ⟨wa, hwa⟩ : ∃ wa, wa = w.alloc (Obj.cells C.toArray 61) := ⟨_, rfl⟩
 have hf0 : Fr [] w wa := by rw [hwa]; exact (Fr.refl [] w).alloc _
 have hb0 : Blk wa w.heap.size 61 x.cells.toArray := by rw [hwa, hC]; exact Blk.new _ _ _
 have HNS : Hid (¬ w.heap.size ∈ S) := Lib.hid (fun h => by have := hw.lt _ h; omega)
 have HG0 := Lib.hid (Gr.refl (hw.keep hf0 (by simp)))
 have hat : x.At wa w.heap.size := Wmg.at_of hb0.range hx
 have hq0 : wa.cell? ⟨w.heap.size, 0, none⟩ = some (.int .i64 1) := by have h := hat.q 0 _ rfl; rw [hq] at h; exact h
 have HXA : Hid (x.Ok wa S) := Lib.hid (hx.keep (hf0.mono (T := S) (by simp)) (fun k hk _ => hk))
 have HK : Hid (wa.rangeAt w.heap.size 3 x.cm.cells) := Lib.hid hat.cm
 have HKL : Hid (x.cm.cells.length = 37) := Lib.hid (Wcm.len hx.cm.h)
 have HF0 := Lib.hid hf0
 have HWA := Lib.hid hwa
 have HL := Lib.hid hl
 have HX := Lib.hid hx
 clear hwa hf0 hb0 hat hl hw hx hC hq
 generalize hK : x.cm.cells = K at *
 have HRK := Lib.hid hK
 clear hK
 go_enter Tryz.func27, Tryz.ntmps27
 go_upto_region 1 with (fail)
 change Code.wp _ _ _ _ (w.alloc (Obj.cells C.toArray 61))
 rw [← HWA.out]
 go_wp2_with (refine wpList_load_mid rfl 29 _ rfl w.heap.size 3 rfl K _ HK.out Tryz.underlying29 rfl (row_cmt.of HKL.out).2 ?_)
 refine (HG0.out.call fun S1 k1 => putCommit_any' x.cm HX.out.cm K HRK.out _ S1 g _ k1 (by have h0 := HL.out; omega)).mono ?_
 rintro e w1 ⟨rfl, hg1⟩
 have HG1 := Lib.hid hg1
 clear hg1 HG0
 go_wp2_with fail
 go_ret
 exact ⟨rfl, (HG1.out.from_ HF0.out).eq rfl⟩
set_option maxHeartbeats 2000000 in
theorem mput_st (x : Wmg) (hq : x.q = 2) (w : World) (S : List Nat) (g : Nat) (l : List UInt8) (hw : Wr w S g l) (hl : l.length + 70000 ≤ 1073741000) (hx : x.Ok w S) (C : List Value) (hC : x.cells = C) :
  Calls Tryz.prog 27 #[.pointer (some ⟨g, 0, none⟩), .agg C.toArray] w fun e w' => e = .returned (.bool true) ∧ Gr w S g (l ++ x.st.full) w' := by
 obtain ⟨wa, hwa⟩ : ∃ wa, wa = w.alloc (Obj.cells C.toArray 61) := ⟨_, rfl⟩
 have hf0 : Fr [] w wa := by rw [hwa]; exact (Fr.refl [] w).alloc _
 have hb0 : Blk wa w.heap.size 61 x.cells.toArray := by rw [hwa, hC]; exact Blk.new _ _ _
 have HNS : Hid (¬ w.heap.size ∈ S) := Lib.hid (fun h => by have := hw.lt _ h; omega)
 have HG0 := Lib.hid (Gr.refl (hw.keep hf0 (by simp)))
 have hat : x.At wa w.heap.size := Wmg.at_of hb0.range hx
 have hq0 : wa.cell? ⟨w.heap.size, 0, none⟩ = some (.int .i64 2) := by have h := hat.q 0 _ rfl; rw [hq] at h; exact h
 have HXA : Hid (x.Ok wa S) := Lib.hid (hx.keep (hf0.mono (T := S) (by simp)) (fun k hk _ => hk))
 have HK : Hid (wa.rangeAt w.heap.size 40 x.st.cells) := Lib.hid hat.st
 have HKL : Hid (x.st.cells.length = 38) := Lib.hid (Wst.len hx.st.h)
 have HF0 := Lib.hid hf0
 have HWA := Lib.hid hwa
 have HL := Lib.hid hl
 have HX := Lib.hid hx
 clear hwa hf0 hb0 hat hl hw hx hC hq
 generalize hK : x.st.cells = K at *
 have HRK := Lib.hid hK
 clear hK
 go_enter Tryz.func27, Tryz.ntmps27
 go_upto_region 1 with (fail)
 change Code.wp _ _ _ _ (w.alloc (Obj.cells C.toArray 61))
 rw [← HWA.out]
 go_wp2_with (refine wpList_load_mid rfl 32 _ rfl w.heap.size 40 rfl K _ HK.out Tryz.underlying32 rfl (row_stamp.of HKL.out).2 ?_)
 refine (HG0.out.call fun S1 k1 => putStamp_any' x.st HX.out.st K HRK.out _ S1 g _ k1 (by have h0 := HL.out; omega)).mono ?_
 rintro e w1 ⟨rfl, hg1⟩
 have HG1 := Lib.hid hg1
 clear hg1 HG0
 go_wp2_with fail
 go_ret
 exact ⟨rfl, (HG1.out.from_ HF0.out).eq rfl⟩
set_option maxHeartbeats 2000000 in
theorem mput_ce (x : Wmg) (hq : x.q = 3) (w : World) (S : List Nat) (g : Nat) (l : List UInt8) (hw : Wr w S g l) (hl : l.length + 70000 ≤ 1073741000) (hx : x.Ok w S) (C : List Value) (hC : x.cells = C) :
  Calls Tryz.prog 27 #[.pointer (some ⟨g, 0, none⟩), .agg C.toArray] w fun e w' => e = .returned (.bool true) ∧ Gr w S g (l ++ x.ce.full) w' := by
 obtain ⟨wa, hwa⟩ : ∃ wa, wa = w.alloc (Obj.cells C.toArray 61) := ⟨_, rfl⟩
 have hf0 : Fr [] w wa := by rw [hwa]; exact (Fr.refl [] w).alloc _
 have hb0 : Blk wa w.heap.size 61 x.cells.toArray := by rw [hwa, hC]; exact Blk.new _ _ _
 have HNS : Hid (¬ w.heap.size ∈ S) := Lib.hid (fun h => by have := hw.lt _ h; omega)
 have HG0 := Lib.hid (Gr.refl (hw.keep hf0 (by simp)))
 have hat : x.At wa w.heap.size := Wmg.at_of hb0.range hx
 have hq0 : wa.cell? ⟨w.heap.size, 0, none⟩ = some (.int .i64 3) := by have h := hat.q 0 _ rfl; rw [hq] at h; exact h
 have HXA : Hid (x.Ok wa S) := Lib.hid (hx.keep (hf0.mono (T := S) (by simp)) (fun k hk _ => hk))
 have HK : Hid (wa.rangeAt w.heap.size 78 x.ce.cells) := Lib.hid hat.ce
 have HKL : Hid (x.ce.cells.length = 38) := Lib.hid (Wce.len hx.ce.k.h)
 have HF0 := Lib.hid hf0
 have HWA := Lib.hid hwa
 have HL := Lib.hid hl
 have HX := Lib.hid hx
 clear hwa hf0 hb0 hat hl hw hx hC hq
 generalize hK : x.ce.cells = K at *
 have HRK := Lib.hid hK
 clear hK
 go_enter Tryz.func27, Tryz.ntmps27
 go_upto_region 1 with (fail)
 change Code.wp _ _ _ _ (w.alloc (Obj.cells C.toArray 61))
 rw [← HWA.out]
 go_wp2_with (refine wpList_load_mid rfl 35 _ rfl w.heap.size 78 rfl K _ HK.out Tryz.underlying35 rfl (row_crt.of HKL.out).2 ?_)
 refine (HG0.out.calls fun S1 k1 f1 s1 => putCert_any' x.ce K HRK.out _ S1 g _ k1 (by have h0 := HL.out; omega) ((HXA.out.ce).keep f1 s1)).mono ?_
 rintro e w1 ⟨rfl, hg1⟩
 have HG1 := Lib.hid hg1
 clear hg1 HG0
 go_wp2_with fail
 go_ret
 exact ⟨rfl, (HG1.out.from_ HF0.out).eq rfl⟩
set_option maxHeartbeats 2000000 in
theorem mput_ak (x : Wmg) (hq : x.q = 4) (w : World) (S : List Nat) (g : Nat) (l : List UInt8) (hw : Wr w S g l) (hl : l.length + 70000 ≤ 1073741000) (hx : x.Ok w S) (C : List Value) (hC : x.cells = C) :
  Calls Tryz.prog 27 #[.pointer (some ⟨g, 0, none⟩), .agg C.toArray] w fun e w' => e = .returned (.bool true) ∧ Gr w S g (l ++ x.ak.full) w' := by
 obtain ⟨wa, hwa⟩ : ∃ wa, wa = w.alloc (Obj.cells C.toArray 61) := ⟨_, rfl⟩
 have hf0 : Fr [] w wa := by rw [hwa]; exact (Fr.refl [] w).alloc _
 have hb0 : Blk wa w.heap.size 61 x.cells.toArray := by rw [hwa, hC]; exact Blk.new _ _ _
 have HNS : Hid (¬ w.heap.size ∈ S) := Lib.hid (fun h => by have := hw.lt _ h; omega)
 have HG0 := Lib.hid (Gr.refl (hw.keep hf0 (by simp)))
 have hat : x.At wa w.heap.size := Wmg.at_of hb0.range hx
 have hq0 : wa.cell? ⟨w.heap.size, 0, none⟩ = some (.int .i64 4) := by have h := hat.q 0 _ rfl; rw [hq] at h; exact h
 have HXA : Hid (x.Ok wa S) := Lib.hid (hx.keep (hf0.mono (T := S) (by simp)) (fun k hk _ => hk))
 have HK : Hid (wa.rangeAt w.heap.size 116 x.ak.cells) := Lib.hid hat.ak
 have HKL : Hid (x.ak.cells.length = 38) := Lib.hid (Wst.len hx.ak.h)
 have HF0 := Lib.hid hf0
 have HWA := Lib.hid hwa
 have HL := Lib.hid hl
 have HX := Lib.hid hx
 clear hwa hf0 hb0 hat hl hw hx hC hq
 generalize hK : x.ak.cells = K at *
 have HRK := Lib.hid hK
 clear hK
 go_enter Tryz.func27, Tryz.ntmps27
 go_upto_region 1 with (fail)
 change Code.wp _ _ _ _ (w.alloc (Obj.cells C.toArray 61))
 rw [← HWA.out]
 go_wp2_with (refine wpList_load_mid rfl 37 _ rfl w.heap.size 116 rfl K _ HK.out Tryz.underlying37 rfl (row_ack.of HKL.out).2 ?_)
 refine (HG0.out.call fun S1 k1 => putAck_any' x.ak HX.out.ak K HRK.out _ S1 g _ k1 (by have h0 := HL.out; omega)).mono ?_
 rintro e w1 ⟨rfl, hg1⟩
 have HG1 := Lib.hid hg1
 clear hg1 HG0
 go_wp2_with fail
 go_ret
 exact ⟨rfl, (HG1.out.from_ HF0.out).eq rfl⟩
set_option maxHeartbeats 2000000 in
theorem mput_pr (x : Wmg) (hq : x.q = 6) (w : World) (S : List Nat) (g : Nat) (l : List UInt8) (hw : Wr w S g l) (hl : l.length + 70000 ≤ 1073741000) (hx : x.Ok w S) (C : List Value) (hC : x.cells = C) :
  Calls Tryz.prog 27 #[.pointer (some ⟨g, 0, none⟩), .agg C.toArray] w fun e w' => e = .returned (.bool true) ∧ Gr w S g (l ++ x.pr.full) w' := by
 obtain ⟨wa, hwa⟩ : ∃ wa, wa = w.alloc (Obj.cells C.toArray 61) := ⟨_, rfl⟩
 have hf0 : Fr [] w wa := by rw [hwa]; exact (Fr.refl [] w).alloc _
 have hb0 : Blk wa w.heap.size 61 x.cells.toArray := by rw [hwa, hC]; exact Blk.new _ _ _
 have HNS : Hid (¬ w.heap.size ∈ S) := Lib.hid (fun h => by have := hw.lt _ h; omega)
 have HG0 := Lib.hid (Gr.refl (hw.keep hf0 (by simp)))
 have hat : x.At wa w.heap.size := Wmg.at_of hb0.range hx
 have hq0 : wa.cell? ⟨w.heap.size, 0, none⟩ = some (.int .i64 6) := by have h := hat.q 0 _ rfl; rw [hq] at h; exact h
 have HXA : Hid (x.Ok wa S) := Lib.hid (hx.keep (hf0.mono (T := S) (by simp)) (fun k hk _ => hk))
 have HK : Hid (wa.rangeAt w.heap.size 157 x.pr.cells) := Lib.hid hat.pr
 have HKL : Hid (x.pr.cells.length = 6) := Lib.hid (Wpr.len x.pr)
 have HF0 := Lib.hid hf0
 have HWA := Lib.hid hwa
 have HL := Lib.hid hl
 have HX := Lib.hid hx
 clear hwa hf0 hb0 hat hl hw hx hC hq
 generalize hK : x.pr.cells = K at *
 have HRK := Lib.hid hK
 clear hK
 go_enter Tryz.func27, Tryz.ntmps27
 go_upto_region 1 with (fail)
 change Code.wp _ _ _ _ (w.alloc (Obj.cells C.toArray 61))
 rw [← HWA.out]
 go_wp2_with (refine wpList_load_mid rfl 40 _ rfl w.heap.size 157 rfl K _ HK.out Tryz.underlying40 rfl (row_prm.of HKL.out).2 ?_)
 refine (HG0.out.calls fun S1 k1 f1 s1 => putPromise_any' x.pr K HRK.out _ S1 g _ k1 (by have h0 := HL.out; omega) ((HXA.out.pr).keep f1 s1)).mono ?_
 rintro e w1 ⟨rfl, hg1⟩
 have HG1 := Lib.hid hg1
 clear hg1 HG0
 go_wp2_with fail
 go_ret
 exact ⟨rfl, (HG1.out.from_ HF0.out).eq rfl⟩
set_option maxHeartbeats 2000000 in
theorem mput_po (x : Wmg) (hq : x.q = 7) (w : World) (S : List Nat) (g : Nat) (l : List UInt8) (hw : Wr w S g l) (hl : l.length + 70000 ≤ 1073741000) (hx : x.Ok w S) (C : List Value) (hC : x.cells = C) :
  Calls Tryz.prog 27 #[.pointer (some ⟨g, 0, none⟩), .agg C.toArray] w fun e w' => e = .returned (.bool true) ∧ Gr w S g (l ++ x.po.full) w' := by
 obtain ⟨wa, hwa⟩ : ∃ wa, wa = w.alloc (Obj.cells C.toArray 61) := ⟨_, rfl⟩
 have hf0 : Fr [] w wa := by rw [hwa]; exact (Fr.refl [] w).alloc _
 have hb0 : Blk wa w.heap.size 61 x.cells.toArray := by rw [hwa, hC]; exact Blk.new _ _ _
 have HNS : Hid (¬ w.heap.size ∈ S) := Lib.hid (fun h => by have := hw.lt _ h; omega)
 have HG0 := Lib.hid (Gr.refl (hw.keep hf0 (by simp)))
 have hat : x.At wa w.heap.size := Wmg.at_of hb0.range hx
 have hq0 : wa.cell? ⟨w.heap.size, 0, none⟩ = some (.int .i64 7) := by have h := hat.q 0 _ rfl; rw [hq] at h; exact h
 have HXA : Hid (x.Ok wa S) := Lib.hid (hx.keep (hf0.mono (T := S) (by simp)) (fun k hk _ => hk))
 have HK : Hid (wa.rangeAt w.heap.size 163 x.po.cells) := Lib.hid hat.po
 have HKL : Hid (x.po.cells.length = 11) := Lib.hid (Wpo.len x.po)
 have HF0 := Lib.hid hf0
 have HWA := Lib.hid hwa
 have HL := Lib.hid hl
 have HX := Lib.hid hx
 clear hwa hf0 hb0 hat hl hw hx hC hq
 generalize hK : x.po.cells = K at *
 have HRK := Lib.hid hK
 clear hK
 go_enter Tryz.func27, Tryz.ntmps27
 go_upto_region 1 with (fail)
 change Code.wp _ _ _ _ (w.alloc (Obj.cells C.toArray 61))
 rw [← HWA.out]
 go_wp2_with (refine wpList_load_mid rfl 47 _ rfl w.heap.size 163 rfl K _ HK.out Tryz.underlying47 rfl (row_prop.of HKL.out).2 ?_)
 refine (HG0.out.calls fun S1 k1 f1 s1 => putProposal_any' x.po K HRK.out _ S1 g _ k1 (by have h0 := HL.out; omega) ((HXA.out.po).keep f1 s1)).mono ?_
 rintro e w1 ⟨rfl, hg1⟩
 have HG1 := Lib.hid hg1
 clear hg1 HG0
 go_wp2_with fail
 go_ret
 exact ⟨rfl, (HG1.out.from_ HF0.out).eq rfl⟩
set_option maxHeartbeats 2000000 in
theorem mput_vt (x : Wmg) (hq : x.q = 8) (w : World) (S : List Nat) (g : Nat) (l : List UInt8) (hw : Wr w S g l) (hl : l.length + 70000 ≤ 1073741000) (hx : x.Ok w S) (C : List Value) (hC : x.cells = C) :
  Calls Tryz.prog 27 #[.pointer (some ⟨g, 0, none⟩), .agg C.toArray] w fun e w' => e = .returned (.bool true) ∧ Gr w S g (l ++ x.vt.full) w' := by
 obtain ⟨wa, hwa⟩ : ∃ wa, wa = w.alloc (Obj.cells C.toArray 61) := ⟨_, rfl⟩
 have hf0 : Fr [] w wa := by rw [hwa]; exact (Fr.refl [] w).alloc _
 have hb0 : Blk wa w.heap.size 61 x.cells.toArray := by rw [hwa, hC]; exact Blk.new _ _ _
 have HNS : Hid (¬ w.heap.size ∈ S) := Lib.hid (fun h => by have := hw.lt _ h; omega)
 have HG0 := Lib.hid (Gr.refl (hw.keep hf0 (by simp)))
 have hat : x.At wa w.heap.size := Wmg.at_of hb0.range hx
 have hq0 : wa.cell? ⟨w.heap.size, 0, none⟩ = some (.int .i64 8) := by have h := hat.q 0 _ rfl; rw [hq] at h; exact h
 have HXA : Hid (x.Ok wa S) := Lib.hid (hx.keep (hf0.mono (T := S) (by simp)) (fun k hk _ => hk))
 have HK : Hid (wa.rangeAt w.heap.size 174 x.vt.cells) := Lib.hid hat.vt
 have HKL : Hid (x.vt.cells.length = 38) := Lib.hid (Wvt.len hx.vt.h)
 have HF0 := Lib.hid hf0
 have HWA := Lib.hid hwa
 have HL := Lib.hid hl
 have HX := Lib.hid hx
 clear hwa hf0 hb0 hat hl hw hx hC hq
 generalize hK : x.vt.cells = K at *
 have HRK := Lib.hid hK
 clear hK
 go_enter Tryz.func27, Tryz.ntmps27
 go_upto_region 1 with (fail)
 change Code.wp _ _ _ _ (w.alloc (Obj.cells C.toArray 61))
 rw [← HWA.out]
 go_wp2_with (refine wpList_load_mid rfl 49 _ rfl w.heap.size 174 rfl K _ HK.out Tryz.underlying49 rfl (row_vote.of HKL.out).2 ?_)
 refine (HG0.out.call fun S1 k1 => putVote_any' x.vt HX.out.vt K HRK.out _ S1 g _ k1 (by have h0 := HL.out; omega)).mono ?_
 rintro e w1 ⟨rfl, hg1⟩
 have HG1 := Lib.hid hg1
 clear hg1 HG0
 go_wp2_with fail
 go_ret
 exact ⟨rfl, (HG1.out.from_ HF0.out).eq rfl⟩
set_option maxHeartbeats 2000000 in
theorem mput_op (x : Wmg) (hq : x.q = 10) (w : World) (S : List Nat) (g : Nat) (l : List UInt8) (hw : Wr w S g l) (hl : l.length + 70000 ≤ 1073741000) (hx : x.Ok w S) (C : List Value) (hC : x.cells = C) :
  Calls Tryz.prog 27 #[.pointer (some ⟨g, 0, none⟩), .agg C.toArray] w fun e w' => e = .returned (.bool true) ∧ Gr w S g (l ++ x.op.full) w' := by
 obtain ⟨wa, hwa⟩ : ∃ wa, wa = w.alloc (Obj.cells C.toArray 61) := ⟨_, rfl⟩
 have hf0 : Fr [] w wa := by rw [hwa]; exact (Fr.refl [] w).alloc _
 have hb0 : Blk wa w.heap.size 61 x.cells.toArray := by rw [hwa, hC]; exact Blk.new _ _ _
 have HNS : Hid (¬ w.heap.size ∈ S) := Lib.hid (fun h => by have := hw.lt _ h; omega)
 have HG0 := Lib.hid (Gr.refl (hw.keep hf0 (by simp)))
 have hat : x.At wa w.heap.size := Wmg.at_of hb0.range hx
 have hq0 : wa.cell? ⟨w.heap.size, 0, none⟩ = some (.int .i64 10) := by have h := hat.q 0 _ rfl; rw [hq] at h; exact h
 have HXA : Hid (x.Ok wa S) := Lib.hid (hx.keep (hf0.mono (T := S) (by simp)) (fun k hk _ => hk))
 have HK : Hid (wa.rangeAt w.heap.size 248 x.op.cells) := Lib.hid hat.op
 have HKL : Hid (x.op.cells.length = 34) := Lib.hid (Wop.len hx.op.h)
 have HF0 := Lib.hid hf0
 have HWA := Lib.hid hwa
 have HL := Lib.hid hl
 have HX := Lib.hid hx
 clear hwa hf0 hb0 hat hl hw hx hC hq
 generalize hK : x.op.cells = K at *
 have HRK := Lib.hid hK
 clear hK
 go_enter Tryz.func27, Tryz.ntmps27
 go_upto_region 1 with (fail)
 change Code.wp _ _ _ _ (w.alloc (Obj.cells C.toArray 61))
 rw [← HWA.out]
 go_wp2_with (refine wpList_load_mid rfl 54 _ rfl w.heap.size 248 rfl K _ HK.out Tryz.underlying54 rfl (row_opn.of HKL.out).2 ?_)
 refine (HG0.out.calls fun S1 k1 f1 s1 => putOpening_any' x.op K HRK.out _ S1 g _ k1 (by have h0 := HL.out; omega) ((HXA.out.op).keep f1 s1)).mono ?_
 rintro e w1 ⟨rfl, hg1⟩
 have HG1 := Lib.hid hg1
 clear hg1 HG0
 go_wp2_with fail
 go_ret
 exact ⟨rfl, (HG1.out.from_ HF0.out).eq rfl⟩
set_option maxHeartbeats 2000000 in
theorem mput_dn (x : Wmg) (hq : x.q = 12) (w : World) (S : List Nat) (g : Nat) (l : List UInt8) (hw : Wr w S g l) (hl : l.length + 70000 ≤ 1073741000) (hx : x.Ok w S) (C : List Value) (hC : x.cells = C) :
  Calls Tryz.prog 27 #[.pointer (some ⟨g, 0, none⟩), .agg C.toArray] w fun e w' => e = .returned (.bool true) ∧ Gr w S g (l ++ x.dn.full) w' := by
 obtain ⟨wa, hwa⟩ : ∃ wa, wa = w.alloc (Obj.cells C.toArray 61) := ⟨_, rfl⟩
 have hf0 : Fr [] w wa := by rw [hwa]; exact (Fr.refl [] w).alloc _
 have hb0 : Blk wa w.heap.size 61 x.cells.toArray := by rw [hwa, hC]; exact Blk.new _ _ _
 have HNS : Hid (¬ w.heap.size ∈ S) := Lib.hid (fun h => by have := hw.lt _ h; omega)
 have HG0 := Lib.hid (Gr.refl (hw.keep hf0 (by simp)))
 have hat : x.At wa w.heap.size := Wmg.at_of hb0.range hx
 have hq0 : wa.cell? ⟨w.heap.size, 0, none⟩ = some (.int .i64 12) := by have h := hat.q 0 _ rfl; rw [hq] at h; exact h
 have HXA : Hid (x.Ok wa S) := Lib.hid (hx.keep (hf0.mono (T := S) (by simp)) (fun k hk _ => hk))
 have HK : Hid (wa.rangeAt w.heap.size 282 x.dn.cells) := Lib.hid hat.dn
 have HKL : Hid (x.dn.cells.length = 4) := Lib.hid (Wdn.len x.dn)
 have HF0 := Lib.hid hf0
 have HWA := Lib.hid hwa
 have HL := Lib.hid hl
 have HX := Lib.hid hx
 clear hwa hf0 hb0 hat hl hw hx hC hq
 generalize hK : x.dn.cells = K at *
 have HRK := Lib.hid hK
 clear hK
 go_enter Tryz.func27, Tryz.ntmps27
 go_upto_region 1 with (fail)
 change Code.wp _ _ _ _ (w.alloc (Obj.cells C.toArray 61))
 rw [← HWA.out]
 go_wp2_with (refine wpList_load_mid rfl 56 _ rfl w.heap.size 282 rfl K _ HK.out Tryz.underlying56 rfl (row_deny.of HKL.out).2 ?_)
 refine (HG0.out.call fun S1 k1 => putDeny_any' x.dn HX.out.dn K HRK.out _ S1 g _ k1 (by have h0 := HL.out; omega)).mono ?_
 rintro e w1 ⟨rfl, hg1⟩
 have HG1 := Lib.hid hg1
 clear hg1 HG0
 go_wp2_with fail
 go_ret
 exact ⟨rfl, (HG1.out.from_ HF0.out).eq rfl⟩
set_option maxHeartbeats 2000000 in
theorem mput_de (x : Wmg) (hq : x.q = 14) (w : World) (S : List Nat) (g : Nat) (l : List UInt8) (hw : Wr w S g l) (hl : l.length + 70000 ≤ 1073741000) (hx : x.Ok w S) (C : List Value) (hC : x.cells = C) :
  Calls Tryz.prog 27 #[.pointer (some ⟨g, 0, none⟩), .agg C.toArray] w fun e w' => e = .returned (.bool true) ∧ Gr w S g (l ++ x.de.full) w' := by
 obtain ⟨wa, hwa⟩ : ∃ wa, wa = w.alloc (Obj.cells C.toArray 61) := ⟨_, rfl⟩
 have hf0 : Fr [] w wa := by rw [hwa]; exact (Fr.refl [] w).alloc _
 have hb0 : Blk wa w.heap.size 61 x.cells.toArray := by rw [hwa, hC]; exact Blk.new _ _ _
 have HNS : Hid (¬ w.heap.size ∈ S) := Lib.hid (fun h => by have := hw.lt _ h; omega)
 have HG0 := Lib.hid (Gr.refl (hw.keep hf0 (by simp)))
 have hat : x.At wa w.heap.size := Wmg.at_of hb0.range hx
 have hq0 : wa.cell? ⟨w.heap.size, 0, none⟩ = some (.int .i64 14) := by have h := hat.q 0 _ rfl; rw [hq] at h; exact h
 have HXA : Hid (x.Ok wa S) := Lib.hid (hx.keep (hf0.mono (T := S) (by simp)) (fun k hk _ => hk))
 have HK : Hid (wa.rangeAt w.heap.size 287 x.de.cells) := Lib.hid hat.de
 have HKL : Hid (x.de.cells.length = 8) := Lib.hid (Wdc.len x.de)
 have HF0 := Lib.hid hf0
 have HWA := Lib.hid hwa
 have HL := Lib.hid hl
 have HX := Lib.hid hx
 clear hwa hf0 hb0 hat hl hw hx hC hq
 generalize hK : x.de.cells = K at *
 have HRK := Lib.hid hK
 clear hK
 go_enter Tryz.func27, Tryz.ntmps27
 go_upto_region 1 with (fail)
 change Code.wp _ _ _ _ (w.alloc (Obj.cells C.toArray 61))
 rw [← HWA.out]
 go_wp2_with (refine wpList_load_mid rfl 59 _ rfl w.heap.size 287 rfl K _ HK.out Tryz.underlying59 rfl (row_dec.of HKL.out).2 ?_)
 refine (HG0.out.calls fun S1 k1 f1 s1 => putDecided_any' x.de K HRK.out _ S1 g _ k1 (by have h0 := HL.out; omega) ((HXA.out.de).keep f1 s1)).mono ?_
 rintro e w1 ⟨rfl, hg1⟩
 have HG1 := Lib.hid hg1
 clear hg1 HG0
 go_wp2_with fail
 go_ret
 exact ⟨rfl, (HG1.out.from_ HF0.out).eq rfl⟩
set_option maxHeartbeats 2000000 in
theorem mput_i (x : Wmg) (hq : x.q = 11) (w : World) (S : List Nat) (g : Nat) (l : List UInt8) (hw : Wr w S g l) (hl : l.length + 70000 ≤ 1073741000) (hx : x.Ok w S) (C : List Value) (hC : x.cells = C) :
  Calls Tryz.prog 27 #[.pointer (some ⟨g, 0, none⟩), .agg C.toArray] w fun e w' => e = .returned (.bool true) ∧ Gr w S g (l ++ encI x.i) w' := by
 obtain ⟨wa, hwa⟩ : ∃ wa, wa = w.alloc (Obj.cells C.toArray 61) := ⟨_, rfl⟩
 have hf0 : Fr [] w wa := by rw [hwa]; exact (Fr.refl [] w).alloc _
 have hb0 : Blk wa w.heap.size 61 x.cells.toArray := by rw [hwa, hC]; exact Blk.new _ _ _
 have HNS : Hid (¬ w.heap.size ∈ S) := Lib.hid (fun h => by have := hw.lt _ h; omega)
 have HG0 := Lib.hid (Gr.refl (hw.keep hf0 (by simp)))
 have hat : x.At wa w.heap.size := Wmg.at_of hb0.range hx
 have hq0 : wa.cell? ⟨w.heap.size, 0, none⟩ = some (.int .i64 11) := by have h := hat.q 0 _ rfl; rw [hq] at h; exact h
 have HXA : Hid (x.Ok wa S) := Lib.hid (hx.keep (hf0.mono (T := S) (by simp)) (fun k hk _ => hk))
 have hi0 : wa.cell? ⟨w.heap.size, 212, none⟩ = some (.int .i64 x.i) := hat.i 0 _ rfl
 have HF0 := Lib.hid hf0
 have HWA := Lib.hid hwa
 have HL := Lib.hid hl
 have HX := Lib.hid hx
 clear hwa hf0 hb0 hat hl hw hx hC hq
 go_enter Tryz.func27, Tryz.ntmps27
 go_upto_region 1 with (fail)
 change Code.wp _ _ _ _ (w.alloc (Obj.cells C.toArray 61))
 rw [← HWA.out]
 go_wp2_with fail
 refine (HG0.out.call fun S1 k1 => int_any x.i HX.out.i.1 HX.out.i.2 _ S1 g _ k1 (by have h0 := HL.out; omega)).mono ?_
 rintro e w1 ⟨rfl, hg1⟩
 have HG1 := Lib.hid hg1
 clear hg1 HG0
 go_wp2_with fail
 go_ret
 exact ⟨rfl, (HG1.out.from_ HF0.out).eq rfl⟩
set_option maxHeartbeats 2000000 in
theorem mput_close (x : Wmg) (hq : x.q = 5) (w : World) (S : List Nat) (g : Nat) (l : List UInt8) (hw : Wr w S g l) (hl : l.length + 70000 ≤ 1073741000) (hx : x.Ok w S) (C : List Value) (hC : x.cells = C) :
  Calls Tryz.prog 27 #[.pointer (some ⟨g, 0, none⟩), .agg C.toArray] w fun e w' => e = .returned (.bool true) ∧ Gr w S g (l ++ (encI x.e ++ encI x.r ++ enc x.tm)) w' := by
 obtain ⟨wa, hwa⟩ : ∃ wa, wa = w.alloc (Obj.cells C.toArray 61) := ⟨_, rfl⟩
 have hf0 : Fr [] w wa := by rw [hwa]; exact (Fr.refl [] w).alloc _
 have hb0 : Blk wa w.heap.size 61 x.cells.toArray := by rw [hwa, hC]; exact Blk.new _ _ _
 have HNS : Hid (¬ w.heap.size ∈ S) := Lib.hid (fun h => by have := hw.lt _ h; omega)
 have HG0 := Lib.hid (Gr.begin hw hf0)
 have hat : x.At wa w.heap.size := Wmg.at_of hb0.range hx
 have hq0 : wa.cell? ⟨w.heap.size, 0, none⟩ = some (.int .i64 5) := by have h := hat.q 0 _ rfl; rw [hq] at h; exact h
 have HXA : Hid (x.Ok wa S) := Lib.hid (hx.keep (hf0.mono (T := S) (by simp)) (fun k hk _ => hk))
 have HC0 : Hid (wa.cell? ⟨w.heap.size, 0 + 154, none⟩ = some (.int .i64 x.e)) := Lib.hid (hat.e 0 _ rfl)
 have HC1 : Hid (wa.cell? ⟨w.heap.size, 0 + 155, none⟩ = some (.int .i64 x.r)) := Lib.hid (hat.r 0 _ rfl)
 have HC2 : Hid (wa.cell? ⟨w.heap.size, 0 + 156, none⟩ = some (.int .u64 (x.tm : Int))) := Lib.hid (hat.tm 0 _ rfl)
 have HF0 := Lib.hid hf0
 have HWA := Lib.hid hwa
 have HL := Lib.hid hl
 have HX := Lib.hid hx
 clear hwa hf0 hb0 hat hl hw hx hC hq
 go_enter Tryz.func27, Tryz.ntmps27
 go_upto_region 1 with (fail)
 change Code.wp _ _ _ _ (w.alloc (Obj.cells C.toArray 61))
 rw [← HWA.out]
 go_wp2_with fail
 refine wp_region_held_drew (S := Fr S wa) (by kernel_rfl) (Fr.drew (Fr.refl _ wa)) (fun hHeld => ?_)
 refine run_at (i := 0) (v := ?_) rfl (by kernel_rfl) (by rfl) (fun _ _ _ h => h) hHeld (fun w1 hw1 => ?_) ?_
 rotate_left 1
 · skip
   go_simp
   try first | with_reducible rfl | apply And.intro <;> rfl
 simp only [xPa, xPb, xPc, xPd, xPe]
 refine run_at (i := 1) (v := ?_) rfl (by kernel_rfl) (by rfl) (fun _ _ _ h => h) hHeld (fun w1 hw1 => ?_) ?_
 rotate_left 1
 · skip
   go_simp
   try first | with_reducible rfl | apply And.intro <;> rfl
 simp only [xPa, xPb, xPc, xPd, xPe]
 refine run_at (i := 2) (v := ?_) rfl (by kernel_rfl) (by rfl) (fun _ _ _ h => h) hHeld (fun w1 hw1 => ?_) ?_
 rotate_left 1
 · skip
   have hcw0 := hw1.cell (HC0.out) (by first | (simp; done) | exact HNS.out)
   go_simp
   try first | with_reducible rfl | apply And.intro <;> rfl
 simp only [xPa, xPb, xPc, xPd, xPe]
 refine run_at (i := 4) (v := ?_) rfl (by kernel_rfl) (by rfl) (fun _ _ _ h => h) hHeld (fun w1 hw1 => ?_) ?_
 rotate_left 1
 · skip
   go_simp
   try first | with_reducible rfl | apply And.intro <;> rfl
 simp only [xPa, xPb, xPc, xPd, xPe]
 refine run_at (i := 5) (v := ?_) rfl (by kernel_rfl) (by rfl) (fun _ _ _ h => h) hHeld (fun w1 hw1 => ?_) ?_
 rotate_left 1
 · skip
   have hcw0 := hw1.cell (HC1.out) (by first | (simp; done) | exact HNS.out)
   go_simp
   try first | with_reducible rfl | apply And.intro <;> rfl
 simp only [xPa, xPb, xPc, xPd, xPe]
 refine run_at (i := 7) (v := ?_) rfl (by kernel_rfl) (by rfl) (fun _ _ _ h => h) hHeld (fun w1 hw1 => ?_) ?_
 rotate_left 1
 · skip
   go_simp
   try first | with_reducible rfl | apply And.intro <;> rfl
 simp only [xPa, xPb, xPc, xPd, xPe]
 refine run_at (i := 8) (v := ?_) rfl (by kernel_rfl) (by rfl) (fun _ _ _ h => h) hHeld (fun w1 hw1 => ?_) ?_
 rotate_left 1
 · skip
   have hcw0 := hw1.cell (HC2.out) (by first | (simp; done) | exact HNS.out)
   go_simp
   try first | with_reducible rfl | apply And.intro <;> rfl
 simp only [xPa, xPb, xPc, xPd, xPe]
 refine call_at (i := 3) (f := ?_) (args := ?_) rfl (by kernel_rfl) (by rfl) ?_ ?_
 rotate_left 2
 · go_simp
   try first | with_reducible rfl | apply And.intro <;> rfl
 refine (HG0.out.call fun S1 k1 => int_any x.e HX.out.e.1 HX.out.e.2 _ S1 g _ k1 (by have h0 := HL.out; (try simp only [List.length_append, sgL, nmL] at *); omega)).mono ?_
 rintro e w1 ⟨rfl, hg1⟩
 have HG1 := Lib.hid hg1
 refine ⟨_, rfl, hg1.fr, fun hHeld => ?_⟩
 clear hg1 HG0
 simp only [xPa, xPb, xPc, xPd, xPe]
 refine call_at (i := 6) (f := ?_) (args := ?_) rfl (by kernel_rfl) (by rfl) ?_ ?_
 rotate_left 2
 · go_simp
   try first | with_reducible rfl | apply And.intro <;> rfl
 refine (HG1.out.call fun S1 k1 => int_any x.r HX.out.r.1 HX.out.r.2 _ S1 g _ k1 (by have h0 := HL.out; have b0 := encI_len x.e HX.out.e.2; (try simp only [List.length_append, sgL, nmL] at *); omega)).mono ?_
 rintro e w2 ⟨rfl, hg2⟩
 have HG2 := Lib.hid hg2
 refine ⟨_, rfl, hg2.fr, fun hHeld => ?_⟩
 clear hg2 HG1
 simp only [xPa, xPb, xPc, xPd, xPe]
 refine call_at (i := 9) (f := ?_) (args := ?_) rfl (by kernel_rfl) (by rfl) ?_ ?_
 rotate_left 2
 · go_simp
   try first | with_reducible rfl | apply And.intro <;> rfl
 refine (HG2.out.call fun S1 k1 => num_any x.tm HX.out.tm _ S1 g _ k1 (by have h0 := HL.out; have b0 := encI_len x.e HX.out.e.2; have b1 := encI_len x.r HX.out.r.2; (try simp only [List.length_append, sgL, nmL] at *); omega)).mono ?_
 rintro e w3 ⟨rfl, hg3⟩
 have HG3 := Lib.hid hg3
 refine ⟨_, rfl, hg3.fr, fun hHeld => ?_⟩
 clear hg3 HG2
 simp only [xPa, xPb, xPc, xPd, xPe]
 refine wpAnyH_done (by kernel_rfl) ?_ _
 go_wp2_with fail
 go_ret
 exact ⟨rfl, (HG3.out.from_ HF0.out).eq (by simp [List.append_assoc])⟩
theorem row_ent : RowTy Tryz.prog 51 35 := ⟨by kernel_rfl, by kernel_rfl⟩
set_option maxHeartbeats 2000000 in
theorem mput_en (x : Wmg) (hq : x.q = 9) (w : World) (S : List Nat) (g : Nat) (l : List UInt8) (hw : Wr w S g l) (hl : l.length + 70000 ≤ 1073741000) (hx : x.Ok w S) (C : List Value) (hC : x.cells = C) :
  Calls Tryz.prog 27 #[.pointer (some ⟨g, 0, none⟩), .agg C.toArray] w fun e w' => e = .returned (.bool true) ∧ Gr w S g (l ++ (encI x.i ++ x.en.full)) w' := by
 obtain ⟨wa, hwa⟩ : ∃ wa, wa = w.alloc (Obj.cells C.toArray 61) := ⟨_, rfl⟩
 have hf0 : Fr [] w wa := by rw [hwa]; exact (Fr.refl [] w).alloc _
 have hb0 : Blk wa w.heap.size 61 x.cells.toArray := by rw [hwa, hC]; exact Blk.new _ _ _
 have HNS : Hid (¬ w.heap.size ∈ S) := Lib.hid (fun h => by have := hw.lt _ h; omega)
 have HG0 := Lib.hid (Gr.begin hw hf0)
 have hat : x.At wa w.heap.size := Wmg.at_of hb0.range hx
 have hq0 : wa.cell? ⟨w.heap.size, 0, none⟩ = some (.int .i64 9) := by have h := hat.q 0 _ rfl; rw [hq] at h; exact h
 have HXA : Hid (x.Ok wa S) := Lib.hid (hx.keep (hf0.mono (T := S) (by simp)) (fun k hk _ => hk))
 have HC0 : Hid (wa.cell? ⟨w.heap.size, 0 + 212, none⟩ = some (.int .i64 x.i)) := Lib.hid (hat.i 0 _ rfl)
 have HK : Hid (wa.rangeAt w.heap.size (0 + 213) x.en.cells) := Lib.hid hat.en
 have HKL : Hid (x.en.cells.length = 35) := Lib.hid (Wen.len hx.en.h)
 have HF0 := Lib.hid hf0
 have HWA := Lib.hid hwa
 have HL := Lib.hid hl
 have HX := Lib.hid hx
 clear hwa hf0 hb0 hat hl hw hx hC hq
 generalize hK : x.en.cells = K at *
 have HRK := Lib.hid hK
 clear hK
 go_enter Tryz.func27, Tryz.ntmps27
 go_upto_region 1 with (fail)
 change Code.wp _ _ _ _ (w.alloc (Obj.cells C.toArray 61))
 rw [← HWA.out]
 go_wp2_with fail
 refine wp_region_held_drew (S := Fr S wa) (by kernel_rfl) (Fr.drew (Fr.refl _ wa)) (fun hHeld => ?_)
 refine run_at (i := 0) (v := ?_) rfl (by kernel_rfl) (by rfl) (fun _ _ _ h => h) hHeld (fun w1 hw1 => ?_) ?_
 rotate_left 1
 · skip
   go_simp
   try first | with_reducible rfl | apply And.intro <;> rfl
 simp only [xPa, xPb, xPc, xPd, xPe]
 refine run_at (i := 1) (v := ?_) rfl (by kernel_rfl) (by rfl) (fun _ _ _ h => h) hHeld (fun w1 hw1 => ?_) ?_
 rotate_left 1
 · skip
   go_simp
   try first | with_reducible rfl | apply And.intro <;> rfl
 simp only [xPa, xPb, xPc, xPd, xPe]
 refine run_at (i := 2) (v := ?_) rfl (by kernel_rfl) (by rfl) (fun _ _ _ h => h) hHeld (fun w1 hw1 => ?_) ?_
 rotate_left 1
 · skip
   have hcw0 := hw1.cell (HC0.out) (by first | (simp; done) | exact HNS.out)
   go_simp
   try first | with_reducible rfl | apply And.intro <;> rfl
 simp only [xPa, xPb, xPc, xPd, xPe]
 refine run_at (i := 4) (v := ?_) rfl (by kernel_rfl) (by rfl) (fun _ _ _ h => h) hHeld (fun w1 hw1 => ?_) ?_
 rotate_left 1
 · skip
   go_simp
   try first | with_reducible rfl | apply And.intro <;> rfl
 simp only [xPa, xPb, xPc, xPd, xPe]
 refine row_at (i := 5) rfl (by kernel_rfl) (by rfl) _ _ rfl _ _ rfl _ (fun w1 hw1 => hw1.range (HK.out) (by first | (simp; done) | exact HNS.out)) (row_ent.of HKL.out) (fun _ _ _ h => h) hHeld ?_
 simp only [xPa, xPb, xPc, xPd, xPe]
 refine call_at (i := 3) (f := ?_) (args := ?_) rfl (by kernel_rfl) (by rfl) ?_ ?_
 rotate_left 2
 · go_simp
   try first | with_reducible rfl | apply And.intro <;> rfl
 refine (HG0.out.call fun S1 k1 => int_any x.i HX.out.i.1 HX.out.i.2 _ S1 g _ k1 (by have h0 := HL.out; (try simp only [List.length_append, sgL, nmL] at *); omega)).mono ?_
 rintro e w1 ⟨rfl, hg1⟩
 have HG1 := Lib.hid hg1
 refine ⟨_, rfl, hg1.fr, fun hHeld => ?_⟩
 clear hg1 HG0
 simp only [xPa, xPb, xPc, xPd, xPe]
 refine call_at (i := 6) (f := ?_) (args := ?_) rfl (by kernel_rfl) (by rfl) ?_ ?_
 rotate_left 2
 · go_simp
   try first | with_reducible rfl | apply And.intro <;> rfl
 refine (HG1.out.call fun S1 k1 => putEntry_any' x.en HX.out.en K HRK.out _ S1 g _ k1 (by have h0 := HL.out; have b0 := encI_len x.i HX.out.i.2; (try simp only [List.length_append, sgL, nmL] at *); omega)).mono ?_
 rintro e w2 ⟨rfl, hg2⟩
 have HG2 := Lib.hid hg2
 refine ⟨_, rfl, hg2.fr, fun hHeld => ?_⟩
 clear hg2 HG1
 simp only [xPa, xPb, xPc, xPd, xPe]
 refine wpAnyH_done (by kernel_rfl) ?_ _
 go_wp2_with fail
 go_ret
 exact ⟨rfl, (HG2.out.from_ HF0.out).eq (by simp [List.append_assoc])⟩
set_option maxHeartbeats 2000000 in
theorem mput_reply (x : Wmg) (hq : x.q = 13) (w : World) (S : List Nat) (g : Nat) (l : List UInt8) (hw : Wr w S g l) (hl : l.length + 70000 ≤ 1073741000) (hx : x.Ok w S) (C : List Value) (hC : x.cells = C) :
  Calls Tryz.prog 27 #[.pointer (some ⟨g, 0, none⟩), .agg C.toArray] w fun e w' => e = .returned (.bool true) ∧ Gr w S g (l ++ (encI x.i ++ (enc x.rp.length ++ x.rp))) w' := by
 obtain ⟨wa, hwa⟩ : ∃ wa, wa = w.alloc (Obj.cells C.toArray 61) := ⟨_, rfl⟩
 have hf0 : Fr [] w wa := by rw [hwa]; exact (Fr.refl [] w).alloc _
 have hb0 : Blk wa w.heap.size 61 x.cells.toArray := by rw [hwa, hC]; exact Blk.new _ _ _
 have HNS : Hid (¬ w.heap.size ∈ S) := Lib.hid (fun h => by have := hw.lt _ h; omega)
 have HG0 := Lib.hid (Gr.begin hw hf0)
 have hat : x.At wa w.heap.size := Wmg.at_of hb0.range hx
 have hq0 : wa.cell? ⟨w.heap.size, 0, none⟩ = some (.int .i64 13) := by have h := hat.q 0 _ rfl; rw [hq] at h; exact h
 have HXA : Hid (x.Ok wa S) := Lib.hid (hx.keep (hf0.mono (T := S) (by simp)) (fun k hk _ => hk))
 have HC0 : Hid (wa.cell? ⟨w.heap.size, 0 + 212, none⟩ = some (.int .i64 x.i)) := Lib.hid (hat.i 0 _ rfl)
 have HC1 : Hid (wa.cell? ⟨w.heap.size, 0 + 286, none⟩ = some (.string ⟨x.rp.toArray⟩)) := Lib.hid (hat.rp 0 _ rfl)
 have HW0 : Hid (Wr wa.drew S g l) := Lib.hid (hw.keep hf0.drew (by simp))
 have HSL : Hid (∀ k ∈ S, k < wa.heap.size) := Lib.hid (fun k hk => Nat.lt_of_lt_of_le (hw.lt k hk) hf0.size)
 have HF0 := Lib.hid hf0
 have HWA := Lib.hid hwa
 have HL := Lib.hid hl
 have HX := Lib.hid hx
 clear hwa hf0 hb0 hat hl hw hx hC hq
 go_enter Tryz.func27, Tryz.ntmps27
 go_upto_region 1 with (fail)
 change Code.wp _ _ _ _ (w.alloc (Obj.cells C.toArray 61))
 rw [← HWA.out]
 go_wp2_with fail
 refine wp_region_held_drew (S := Fr S wa) (by kernel_rfl) (Fr.drew (Fr.refl _ wa)) (fun hHeld => ?_)
 refine run_at (i := 0) (v := ?_) rfl (by kernel_rfl) (by rfl) (fun _ _ _ h => h) hHeld (fun w1 hw1 => ?_) ?_
 rotate_left 1
 · skip
   go_simp
   try first | with_reducible rfl | apply And.intro <;> rfl
 simp only [xPa, xPb, xPc, xPd, xPe]
 refine run_at (i := 1) (v := ?_) rfl (by kernel_rfl) (by rfl) (fun _ _ _ h => h) hHeld (fun w1 hw1 => ?_) ?_
 rotate_left 1
 · skip
   go_simp
   try first | with_reducible rfl | apply And.intro <;> rfl
 simp only [xPa, xPb, xPc, xPd, xPe]
 refine run_at (i := 2) (v := ?_) rfl (by kernel_rfl) (by rfl) (fun _ _ _ h => h) hHeld (fun w1 hw1 => ?_) ?_
 rotate_left 1
 · skip
   have hcw0 := hw1.cell (HC0.out) (by first | (simp; done) | exact HNS.out)
   go_simp
   try first | with_reducible rfl | apply And.intro <;> rfl
 simp only [xPa, xPb, xPc, xPd, xPe]
 refine run_at (i := 4) (v := ?_) rfl (by kernel_rfl) (by rfl) (fun _ _ _ h => h) hHeld (fun w1 hw1 => ?_) ?_
 rotate_left 1
 · skip
   go_simp
   try first | with_reducible rfl | apply And.intro <;> rfl
 simp only [xPa, xPb, xPc, xPd, xPe]
 refine run_at (i := 5) (v := ?_) rfl (by kernel_rfl) (by rfl) (fun _ _ _ h => h) hHeld (fun w1 hw1 => ?_) ?_
 rotate_left 1
 · skip
   have hcw0 := hw1.cell (HC1.out) (by first | (simp; done) | exact HNS.out)
   go_simp
   try first | with_reducible rfl | apply And.intro <;> rfl
 simp only [xPa, xPb, xPc, xPd, xPe]
 refine two_at (i := 3) (j := 6) rfl rfl (by kernel_rfl) (by rfl) (by rfl) (fun K hK => ?_) (fun K hK => ?_)
 focus
  refine wp_call (f := ?_) (args := ?_) ?_ ?_
  rotate_left 2
  · go_simp
    try first | with_reducible rfl | apply And.intro <;> rfl
  refine (int_any x.i HX.out.i.1 HX.out.i.2 _ S g _ HW0.out (by have h0 := HL.out; omega)).mono ?_
  rintro e w1 ⟨rfl, S1, hw1, hf1, hs1⟩
  refine ⟨_, rfl, hK.out _ _ (hHeld.trans hf1 (fun x hx _ => hx)) (fun hHeld => ?_)⟩
  clear hK K
  simp only [xPa, xPb, xPc, xPd, xPe]
  obtain ⟨w2, A, cc, hconv, hf2, hy2, hbk⟩ := conv_str w1 x.rp
  refine step_at (i := 6) rfl (by kernel_rfl) (by rfl) (fun K hK => ?_)
  refine wp_run (v := ?_) (w' := ?_) ?_ ?_
  rotate_left 2
  · have hrun := hconv
    go_simp
    try first | with_reducible rfl | apply And.intro <;> rfl
  refine hK.out _ _ (hHeld.trans (hf2.mono (T := S) (by simp)) (fun x hx _ => hx)) (fun hHeld => ?_)
  clear hK K
  simp only [xPa, xPb, xPc, xPd, xPe]
  have HW : Hid (Wr w2 S1 g (l ++ encI x.i)) := Lib.hid (hw1.keep hf2 (by simp))
  have HS : Hid (∀ k ∈ S1, k < wa.heap.size → k ∈ S) := Lib.hid hs1
  have HY := Lib.hid hy2
  have HA : Hid (∀ k ∈ bk A, ¬ k ∈ S1) := Lib.hid (fun k hk hin => by have h1 := (hbk k hk).1; have h2 := hw1.lt _ hin; omega)
  have HN : Hid (wa.heap.size ≤ w2.heap.size) := Lib.hid (Nat.le_trans hf1.size hf2.size)
  clear hconv hw1 hf1 hf2 hy2 hbk hs1
  generalize w2 = wz at *
 rotate_left
 focus
  obtain ⟨w2, A, cc, hconv, hf2, hy2, hbk⟩ := conv_str wa.drew x.rp
  refine wp_run (v := ?_) (w' := ?_) ?_ ?_
  rotate_left 2
  · have hrun := hconv
    go_simp
    try first | with_reducible rfl | apply And.intro <;> rfl
  refine hK.out _ _ (hHeld.trans (hf2.mono (T := S) (by simp)) (fun x hx _ => hx)) (fun hHeld => ?_)
  clear hK K
  simp only [xPa, xPb, xPc, xPd, xPe]
  refine call_at (i := 3) (f := ?_) (args := ?_) rfl (by kernel_rfl) (by rfl) ?_ ?_
  rotate_left 2
  · go_simp
    try first | with_reducible rfl | apply And.intro <;> rfl
  refine (int_any x.i HX.out.i.1 HX.out.i.2 _ S g _ (HW0.out.keep hf2 (by simp)) (by have h0 := HL.out; omega)).mono ?_
  rintro e w1 ⟨rfl, S1, hw1, hf1, hs1⟩
  refine ⟨_, rfl, hHeld.trans hf1 (fun x hx _ => hx), fun hHeld => ?_⟩
  simp only [xPa, xPb, xPc, xPd, xPe]
  have HW : Hid (Wr w1 S1 g (l ++ encI x.i)) := Lib.hid hw1
  have HS : Hid (∀ k ∈ S1, k < wa.heap.size → k ∈ S) := Lib.hid (fun k hk hl => hs1 k hk (Nat.lt_of_lt_of_le hl hf2.size))
  have HY := Lib.hid (hy2.keep hf1 (fun a ha hin => by have h1 : wa.heap.size ≤ a.block := (hbk a.block (by rw [ha]; simp [bk])).1; have h2 := HSL.out _ hin; omega))
  have HA : Hid (∀ k ∈ bk A, ¬ k ∈ S1) := Lib.hid (fun k hk hin => by have h1 := hbk k hk; have h3 : wa.heap.size ≤ k := h1.1; have h2 := HSL.out _ (hs1 k hin h1.2); omega)
  have HN : Hid (wa.heap.size ≤ w1.heap.size) := Lib.hid (Nat.le_trans (show wa.heap.size ≤ w2.heap.size from hf2.size) hf1.size)
  clear hconv hw1 hf1 hf2 hy2 hbk hs1
  generalize w1 = wz at *
 all_goals
  refine call_at (i := 7) (f := ?_) (args := ?_) rfl (by kernel_rfl) (by rfl) ?_ ?_
  rotate_left 2
  · go_simp
    try first | with_reducible rfl | apply And.intro <;> rfl
  refine (row_any A x.rp.length cc x.rp wz HY.out (by have := HX.out.rp; omega) S1 HA.out g _ HW.out (by have h0 := HL.out; have b0 := encI_len x.i HX.out.i.2; simp only [List.length_append]; omega)).mono ?_
  rintro e w3 ⟨rfl, S3, hw3, hf3, hs3⟩
  refine ⟨_, rfl, hHeld.trans hf3 HS.out, fun hHeld => ?_⟩
  simp only [xPa, xPb, xPc, xPd, xPe]
  have HG : Hid (Gr wa S g (l ++ encI x.i ++ (enc x.rp.length ++ x.rp)) w3) := Lib.hid ⟨S3, hw3, hHeld, fun k hk hl => HS.out k (hs3 k hk (Nat.lt_of_lt_of_le hl HN.out)) hl⟩
  clear hw3 hf3 hs3
  refine wpAnyH_done (by kernel_rfl) ?_ _
  go_wp2_with fail
  go_ret
  exact ⟨rfl, (HG.out.from_ HF0.out).eq (by simp [List.append_assoc])⟩
set_option maxHeartbeats 2000000 in
theorem mput_none (x : Wmg) (hq : ¬ (1 ≤ x.q ∧ x.q ≤ 14)) (w : World) (S : List Nat) (g : Nat) (l : List UInt8) (hw : Wr w S g l) (hl : l.length + 70000 ≤ 1073741000) (hx : x.Ok w S) (C : List Value) (hC : x.cells = C) :
  Calls Tryz.prog 27 #[.pointer (some ⟨g, 0, none⟩), .agg C.toArray] w fun e w' => e = .returned (.bool false) ∧ Gr w S g l w' := by
 obtain ⟨wa, hwa⟩ : ∃ wa, wa = w.alloc (Obj.cells C.toArray 61) := ⟨_, rfl⟩
 have hf0 : Fr [] w wa := by rw [hwa]; exact (Fr.refl [] w).alloc _
 have hb0 : Blk wa w.heap.size 61 x.cells.toArray := by rw [hwa, hC]; exact Blk.new _ _ _
 have HNS : Hid (¬ w.heap.size ∈ S) := Lib.hid (fun h => by have := hw.lt _ h; omega)
 have HG0 := Lib.hid (Gr.refl (hw.keep hf0 (by simp)))
 have hat : x.At wa w.heap.size := Wmg.at_of hb0.range hx
 have hq0 : wa.cell? ⟨w.heap.size, 0, none⟩ = some (.int .i64 x.q) := hat.q 0 _ rfl
 have HXA : Hid (x.Ok wa S) := Lib.hid (hx.keep (hf0.mono (T := S) (by simp)) (fun k hk _ => hk))
 have HQ := Lib.hid hq
 have HF0 := Lib.hid hf0
 have HWA := Lib.hid hwa
 have HL := Lib.hid hl
 have HX := Lib.hid hx
 clear hwa hf0 hb0 hat hl hw hx hC hq
 go_enter Tryz.func27, Tryz.ntmps27
 go_upto_region 1 with (fail)
 change Code.wp _ _ _ _ (w.alloc (Obj.cells C.toArray 61))
 rw [← HWA.out]
 have n1 : (x.q == (1 : Int)) = false := by have := HQ.out; simp; omega
 have n2 : (x.q == (2 : Int)) = false := by have := HQ.out; simp; omega
 have n3 : (x.q == (3 : Int)) = false := by have := HQ.out; simp; omega
 have n4 : (x.q == (4 : Int)) = false := by have := HQ.out; simp; omega
 have n5 : (x.q == (5 : Int)) = false := by have := HQ.out; simp; omega
 have n6 : (x.q == (6 : Int)) = false := by have := HQ.out; simp; omega
 have n7 : (x.q == (7 : Int)) = false := by have := HQ.out; simp; omega
 have n8 : (x.q == (8 : Int)) = false := by have := HQ.out; simp; omega
 have n9 : (x.q == (9 : Int)) = false := by have := HQ.out; simp; omega
 have n10 : (x.q == (10 : Int)) = false := by have := HQ.out; simp; omega
 have n11 : (x.q == (11 : Int)) = false := by have := HQ.out; simp; omega
 have n12 : (x.q == (12 : Int)) = false := by have := HQ.out; simp; omega
 have n13 : (x.q == (13 : Int)) = false := by have := HQ.out; simp; omega
 have n14 : (x.q == (14 : Int)) = false := by have := HQ.out; simp; omega
 go_wp2_with fail
 go_ret
 exact ⟨rfl, HG0.out.from_ HF0.out⟩
def Wmg.body (x : Wmg) : List UInt8 := if x.q = 1 then x.cm.full else if x.q = 2 then x.st.full else if x.q = 3 then x.ce.full else if x.q = 4 then x.ak.full else if x.q = 5 then encI x.e ++ encI x.r ++ enc x.tm else if x.q = 6 then x.pr.full else if x.q = 7 then x.po.full else if x.q = 8 then x.vt.full else if x.q = 9 then encI x.i ++ x.en.full else if x.q = 10 then x.op.full else if x.q = 11 then encI x.i else if x.q = 12 then x.dn.full else if x.q = 13 then encI x.i ++ (enc x.rp.length ++ x.rp) else if x.q = 14 then x.de.full else []
def Wmg.bytes (x : Wmg) : List UInt8 := encI x.q ++ encI x.f ++ encI x.t ++ x.body
theorem Wmg.body_1 {x : Wmg} (h : x.q = 1) : x.body = x.cm.full := by simp [Wmg.body, h]
theorem Wmg.body_2 {x : Wmg} (h : x.q = 2) : x.body = x.st.full := by simp [Wmg.body, h]
theorem Wmg.body_3 {x : Wmg} (h : x.q = 3) : x.body = x.ce.full := by simp [Wmg.body, h]
theorem Wmg.body_4 {x : Wmg} (h : x.q = 4) : x.body = x.ak.full := by simp [Wmg.body, h]
theorem Wmg.body_5 {x : Wmg} (h : x.q = 5) : x.body = encI x.e ++ encI x.r ++ enc x.tm := by simp [Wmg.body, h]
theorem Wmg.body_6 {x : Wmg} (h : x.q = 6) : x.body = x.pr.full := by simp [Wmg.body, h]
theorem Wmg.body_7 {x : Wmg} (h : x.q = 7) : x.body = x.po.full := by simp [Wmg.body, h]
theorem Wmg.body_8 {x : Wmg} (h : x.q = 8) : x.body = x.vt.full := by simp [Wmg.body, h]
theorem Wmg.body_9 {x : Wmg} (h : x.q = 9) : x.body = encI x.i ++ x.en.full := by simp [Wmg.body, h]
theorem Wmg.body_10 {x : Wmg} (h : x.q = 10) : x.body = x.op.full := by simp [Wmg.body, h]
theorem Wmg.body_11 {x : Wmg} (h : x.q = 11) : x.body = encI x.i := by simp [Wmg.body, h]
theorem Wmg.body_12 {x : Wmg} (h : x.q = 12) : x.body = x.dn.full := by simp [Wmg.body, h]
theorem Wmg.body_13 {x : Wmg} (h : x.q = 13) : x.body = encI x.i ++ (enc x.rp.length ++ x.rp) := by simp [Wmg.body, h]
theorem Wmg.body_14 {x : Wmg} (h : x.q = 14) : x.body = x.de.full := by simp [Wmg.body, h]
theorem Wmg.body_none {x : Wmg} (h : ¬ (1 ≤ x.q ∧ x.q ≤ 14)) : x.body = [] := by
 unfold Wmg.body
 rw [if_neg (by omega)]
 rw [if_neg (by omega)]
 rw [if_neg (by omega)]
 rw [if_neg (by omega)]
 rw [if_neg (by omega)]
 rw [if_neg (by omega)]
 rw [if_neg (by omega)]
 rw [if_neg (by omega)]
 rw [if_neg (by omega)]
 rw [if_neg (by omega)]
 rw [if_neg (by omega)]
 rw [if_neg (by omega)]
 rw [if_neg (by omega)]
 rw [if_neg (by omega)]
theorem Wmg.body_len {w : World} {S : List Nat} {x : Wmg} (hx : x.Ok w S) : x.body.length ≤ 15000 := by
 by_cases hm : 1 ≤ x.q ∧ x.q ≤ 14
 · have hs : x.q = 1 ∨ x.q = 2 ∨ x.q = 3 ∨ x.q = 4 ∨ x.q = 5 ∨ x.q = 6 ∨ x.q = 7 ∨ x.q = 8 ∨ x.q = 9 ∨ x.q = 10 ∨ x.q = 11 ∨ x.q = 12 ∨ x.q = 13 ∨ x.q = 14 := by omega
   rcases hs with h | h | h | h | h | h | h | h | h | h | h | h | h | h
   · rw [Wmg.body_1 h]
     have b0 := Wcm.full_len hx.cm
     omega
   · rw [Wmg.body_2 h]
     have b0 := Wst.full_len hx.st
     omega
   · rw [Wmg.body_3 h]
     have b0 := Wce.full_len hx.ce
     omega
   · rw [Wmg.body_4 h]
     have b0 := Wst.full_len hx.ak
     omega
   · rw [Wmg.body_5 h]
     have b0 := encI_len x.e hx.e.2
     have b1 := encI_len x.r hx.r.2
     have b2 := enc_ten hx.tm
     simp only [List.length_append]
     omega
   · rw [Wmg.body_6 h]
     have b0 := Wpr.full_len hx.pr
     omega
   · rw [Wmg.body_7 h]
     have b0 := Wpo.full_len hx.po
     omega
   · rw [Wmg.body_8 h]
     have b0 := Wvt.full_len hx.vt
     omega
   · rw [Wmg.body_9 h]
     have b0 := encI_len x.i hx.i.2
     have b1 := Wen.full_len hx.en
     simp only [List.length_append]
     omega
   · rw [Wmg.body_10 h]
     have b0 := Wop.full_len hx.op
     omega
   · rw [Wmg.body_11 h]
     have b0 := encI_len x.i hx.i.2
     omega
   · rw [Wmg.body_12 h]
     have b0 := Wdn.full_len hx.dn
     omega
   · rw [Wmg.body_13 h]
     have b0 := encI_len x.i hx.i.2
     have b1 := enc_ten (m := x.rp.length) (by have := hx.rp; omega)
     have b2 := hx.rp
     simp only [List.length_append]
     omega
   · rw [Wmg.body_14 h]
     have b0 := Wdc.full_len hx.de
     omega
 · rw [Wmg.body_none hm]
   exact Nat.zero_le _
theorem mput_any (x : Wmg) (w : World) (S : List Nat) (g : Nat) (l : List UInt8) (hw : Wr w S g l) (hl : l.length + 70000 ≤ 1073741000) (hx : x.Ok w S) (C : List Value) (hC : x.cells = C) :
  Calls Tryz.prog 27 #[.pointer (some ⟨g, 0, none⟩), .agg C.toArray] w fun e w' => e = .returned (.bool (decide (1 ≤ x.q ∧ x.q ≤ 14))) ∧ Gr w S g (l ++ x.body) w' := by
 by_cases hm : 1 ≤ x.q ∧ x.q ≤ 14
 · rw [decide_eq_true hm]
   have hs : x.q = 1 ∨ x.q = 2 ∨ x.q = 3 ∨ x.q = 4 ∨ x.q = 5 ∨ x.q = 6 ∨ x.q = 7 ∨ x.q = 8 ∨ x.q = 9 ∨ x.q = 10 ∨ x.q = 11 ∨ x.q = 12 ∨ x.q = 13 ∨ x.q = 14 := by omega
   rcases hs with h | h | h | h | h | h | h | h | h | h | h | h | h | h
   · rw [Wmg.body_1 h]; exact mput_cm x h w S g l hw hl hx C hC
   · rw [Wmg.body_2 h]; exact mput_st x h w S g l hw hl hx C hC
   · rw [Wmg.body_3 h]; exact mput_ce x h w S g l hw hl hx C hC
   · rw [Wmg.body_4 h]; exact mput_ak x h w S g l hw hl hx C hC
   · rw [Wmg.body_5 h]; exact mput_close x h w S g l hw hl hx C hC
   · rw [Wmg.body_6 h]; exact mput_pr x h w S g l hw hl hx C hC
   · rw [Wmg.body_7 h]; exact mput_po x h w S g l hw hl hx C hC
   · rw [Wmg.body_8 h]; exact mput_vt x h w S g l hw hl hx C hC
   · rw [Wmg.body_9 h]; exact mput_en x h w S g l hw hl hx C hC
   · rw [Wmg.body_10 h]; exact mput_op x h w S g l hw hl hx C hC
   · rw [Wmg.body_11 h]; exact mput_i x h w S g l hw hl hx C hC
   · rw [Wmg.body_12 h]; exact mput_dn x h w S g l hw hl hx C hC
   · rw [Wmg.body_13 h]; exact mput_reply x h w S g l hw hl hx C hC
   · rw [Wmg.body_14 h]; exact mput_de x h w S g l hw hl hx C hC
 · rw [decide_eq_false hm, Wmg.body_none hm, List.append_nil]
   exact mput_none x hm w S g l hw hl hx C hC
end Go.Proofs.YtpcnedpheplofaaGreat
