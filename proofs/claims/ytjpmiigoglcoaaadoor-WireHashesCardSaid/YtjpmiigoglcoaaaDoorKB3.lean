/- Texts that the proof stands on: The statements' own Cert and Promise: small enough to be played. | Commitments, stamps, denials, certificates, promises that come in: what their reading says of cells. | Promises, certificates, commitments, signatures that come in as arguments. | gavellaw05's Batch: a batch that is small enough to be played. (written by gen_cutb.py) | Openings, tombstones, batches, proposals that come in: what their reading says of cells. (written by gen_wbt.py) | Cells in the middle of a block; gavellaw05's up, niceName, niceSig. (written by gen_nic.py) | gavellaw05's nice: a certificate of numbers from 0 on, not too great. (written by gen_nic2.py) | gavellaw05's nicePromise. (written by gen_nic3.py) -/
import Derived.Test.YtjpmiigoglcoaaaDoorKB2
set_option maxRecDepth 100000

namespace Go.Proofs.YtjpmiigoglcoaaaDoor
open Go.RowKit
set_option maxRecDepth 100000

def zeroCe : Array Value := (Wce.cells ⟨⟨0, 0, List.replicate 32 0, 0, 0, 0⟩, none, 0, 0, []⟩).toArray
theorem set_last (K : List Value) (hK : K.length = 37) (u v : Value) : (K ++ [u]).toArray.setIfInBounds 37 v = (K ++ [v]).toArray := by
  rw [List.setIfInBounds_toArray, List.set_append_right _ _ (by omega), hK]
  rfl
set_option maxHeartbeats 1000000 in
theorem certCut_any (k : Wcm) (hk : k.Ok) (A : Option Addr) (n d : Nat) (l : List Wst) (w : World) (hl : Lst 38 Wst.cells (fun _ v => v.Ok) w A n l) (hn : n ≤ maxLen) (hd : n ≤ d) :
    Calls Tryd.prog 38 #[.agg (k.cells ++ [Value.slice A n d]).toArray] w fun e w' => ∃ A' d', e = .returned (.agg (k.cells ++ [Value.slice A' (l.take 5).length d']).toArray) ∧ NewL 111 38 Wst.cells w w' A' (l.take 5).length d' (l.take 5) := by
  obtain ⟨wa, hwa⟩ : ∃ wa, wa = (w.alloc (Obj.cells (k.cells ++ [Value.slice A n d]).toArray 80)).alloc (Obj.cells zeroCe 80) := ⟨_, rfl⟩
  have hf0 : Fr [] w wa := by rw [hwa]; exact ((Fr.refl [] w).alloc _).alloc _
  have hb0 : Blk wa w.heap.size 80 (k.cells ++ [Value.slice A n d]).toArray := by rw [hwa]; exact blk_alloc (Blk.new _ _ _)
  have hb1 : Blk wa (w.heap.size + 1) 80 zeroCe := by
    have := Blk.new (w.alloc (Obj.cells (k.cells ++ [Value.slice A n d]).toArray 80)) 80 zeroCe
    rw [hwa]
    simpa using this
  have hK : k.cells.length = 37 := Wcm.len hk.h
  have hone := Wcm.one k
  have hc : wa.cell? ⟨w.heap.size, 37, none⟩ = some (.slice A n d) := by
    have := hb0.range 37 (.slice A n d) (by rw [List.getElem?_append_right (by omega), hK]; rfl)
    simpa using this
  have HB0 := Lib.hid hb0
  have HB1 := Lib.hid hb1
  have HC := Lib.hid hc
  have HF0 := Lib.hid hf0
  have HWA := Lib.hid hwa
  have HX := Lib.hid hl
  have HK := Lib.hid hK
  have HONE := Lib.hid hone
  have HSZ : Hid (w.heap.size + 2 ≤ wa.heap.size) := Lib.hid (by have := hb1.lt; omega)
  clear hwa hf0 hb0 hb1 hc hl hK hone hk
  generalize k.cells = K at *
  go_enter Tryd.func38, Tryd.ntmps38
  go_upto_region 1 with (fail)
  change Code.wp _ _ _ _ ((w.alloc (Obj.cells (K ++ [Value.slice A n d]).toArray 80)).alloc (Obj.cells zeroCe 80))
  rw [← HWA.out]
  have hc := HC.out
  go_wp2_with fail
  refine (cutStamps_any A n d 5 l wa (HX.out.keep' HF0.out (by simp) (fun _ _ h => h)) hn hd (by decide)).mono ?_
  rintro e w1 ⟨A1, d1, rfl, hN⟩
  have hb2 := HB0.out.keep hN.2.1 (by simp)
  have hc2 := hN.2.1.cell hc (by simp)
  have HB1' := Lib.hid (HB1.out.keep hN.2.1 (by simp))
  have HN := Lib.hid hN
  have HS1 := Lib.hid (show w.heap.size + 2 ≤ w1.heap.size from Nat.le_trans HSZ.out hN.2.1.size)
  have HSET := Lib.hid (set_last K HK.out (Value.slice A n d) (Value.slice A1 (l.take 5).length d1))
  have HW2 := Lib.hid (hb2.set 37 (Value.slice A1 (l.take 5).length d1))
  have hz := hb2.frozen 37
  clear hc hN HB0 HB1
  generalize hm : (l.take 5).length = m at *
  have HM := Lib.hid hm
  clear hm
  have HSZ2 : Hid ((Tryd.prog.info? 80).map (·.size) = some (K ++ [Value.slice A1 m d1]).toArray.size) := Lib.hid (by rw [show (K ++ [Value.slice A1 m d1]).toArray.size = 38 by simp [HK.out]]; kernel_rfl)
  have HZC : Hid (zeroCe.size = (K ++ [Value.slice A1 m d1]).toArray.size) := Lib.hid (by rw [show (K ++ [Value.slice A1 m d1]).toArray.size = 38 by simp [HK.out]]; rfl)
  have HALL : Hid ((K ++ [Value.slice A1 m d1]).toArray.all (·.oneCell') = true) := Lib.hid (all_oneCell_toArray (by intro u hu; rcases List.mem_append.1 hu with h | h; exact HONE.out u h; rw [List.mem_singleton.1 h]; rfl))
  have hf2 : Fr [w.heap.size] w1 (w1.setCell ⟨w.heap.size, 37, none⟩ (Value.slice A1 m d1)) := (Fr.refl _ w1).setCell ⟨w.heap.size, 37, none⟩ (fun _ => by simp) (Value.slice A1 m d1)
  have HB1S := Lib.hid (HB1'.out.keep hf2 (by simp))
  have HF2 := Lib.hid hf2
  clear hf2
  go_wp2_with (first
    | (refine wpList_load_row rfl 80 _ rfl w.heap.size rfl 80 (K ++ [Value.slice A1 m d1]).toArray _ _ (by have := HW2.out; rw [HSET.out] at this; exact this) Tryd.underlying80 rfl HSZ2.out ?_)
    | (refine wpList_store_blk rfl 80 _ _ rfl (w.heap.size + 1) (K ++ [Value.slice A1 m d1]).toArray rfl rfl 80 zeroCe HB1S.out HSZ2.out HZC.out HALL.out ?_
       intro w3 hb3 hf3
       have HB3 := Lib.hid hb3
       have HF3 := Lib.hid hf3
       clear hb3 hf3))
  have HFa : Fr [w.heap.size, w.heap.size + 1] w1 w3 := (HF2.out.mono (by intro k hk _; simp at hk; simp [hk])).trans HF3.out (by intro k hk _; simp at hk; simp [hk])
  refine bodyPost_ret (v := .agg (K ++ [Value.slice A1 m d1]).toArray) (results_cell_row Tryd.results38 _ _ (w.heap.size + 1) 80 (K ++ [Value.slice A1 m d1]).toArray _ _ rfl HB3.out Tryd.underlying80 rfl HSZ2.out) rfl ⟨A1, d1, by rw [HM.out], ?_⟩
  rw [HM.out]
  refine ⟨own_keep HN.out.1 HFa (fun k hk hin => ?_), (HF0.out.and HN.out.2.1 (by simp)).and HFa (fun k hk => by simp at hk; omega), fun k hk => Nat.le_trans HF0.out.size (HN.out.2.2 k hk)⟩
  have h1 := HN.out.2.2 k ((bk_mem A1 m d1 k).1 hk)
  have h2 := HSZ.out
  simp at hin
  omega

theorem wpList_append_one2 {P : Program} {ops : Array Oper} {rest : List Oper} {o : Oper} {a : Act} {w : World} {Q : Exit → Act → World → Prop} (hg : o.guard = none) (s x : Operand) (t e : TypeId)
    (ho : o.op = .call { callee := .builtin .append, args := #[s, x], argTypes := #[t, t] }) (ht : P.underlying t = some (.slice e)) (k bytes : Nat) (he : ElTy P e k bytes) (hk : 0 < k)
    (base : Nat) (v : Value) (n : Nat) (xs cs : List Value) (hs : a.eval s = v) (hown : w.ownsRow base e k v n xs) (hbase : base ≤ w.heap.size) (hcl : cs.length = k) (h1 : ∀ u ∈ cs, u.oneCell' = true)
    (g : Nat) (t' : TypeId) (hx : a.eval x = .slice (some ⟨g, 0, none⟩) 1 1) (hb : Blk w g t' cs.toArray) (hn : n < 1000000) (hby : bytes ≤ 1000)
    (h : ∀ A c w', w'.ownsRow base e k (.slice A (n + 1) c) (n + 1) (xs ++ cs) → Fr v.ownBlock.toList w w' → ((Value.slice A (n + 1) c).ownBlock = v.ownBlock ∨ (Value.slice A (n + 1) c).ownBlock = some w.heap.size) → wpList P ops Q rest (a.put o.dst (.slice A (n + 1) c)) w') : wpList P ops Q (o :: rest) a w := by
  obtain ⟨i, z, hi, hz, hzs, hsz, hbs⟩ := he
  refine wpList_append_lies w hg s x t ho base e i z k bytes ht hi hz hsz hbs hzs hk v n xs hs hown ⟨g, 0, none⟩ 1 1 cs hx (by omega) (fun j u hu => ?_) h1 (by omega) (by simp only [maxLen]; omega)
    (Nat.le_trans (Nat.mul_le_mul (show n + 1 ≤ 1000000 by omega) hby) (by decide)) hbase _ rfl (fun g' cap w' h2 h3 h4 _ => ?_)
  · have hadd : (⟨g, 0, none⟩ : Addr).add j = ⟨g, j, none⟩ := by unfold Addr.add; split <;> simp_all
    rw [hadd, hb.cell j]
    simpa using hu
  · exact h _ _ w' h2 ((Fr.refl _ w).grown h3 (fun y hy _ => by simp [hy])) (h4.imp (fun e => e.symm) (fun e => by rw [e]; rfl))
theorem el_cert : ElTy Tryd.prog 80 38 96 := ElTy.of (by kernel_rfl)
/-- ys are xs, each with five stamps at most -/
def Small (ys xs : List Wce) : Prop := ys.map (fun y => (y.k, y.l)) = xs.map (fun x => (x.k, x.l.take 5))
def zeroPr : Array Value := (Wpr.cells ⟨0, 0, 0, none, 0, 0, [], 0, 0⟩).toArray
/-- a certificate that comes in: it lies in w, with any number of stamps -/
structure Wce.In (w : World) (x : Wce) : Prop where
  k : x.k.Ok
  l : Lst 38 Wst.cells (fun _ v => v.Ok) w x.A x.n x.l
  n : x.n ≤ maxLen
  d : x.n ≤ x.d
theorem Wce.In.keep {w w' : World} {x : Wce} (h : x.In w) (hf : Fr [] w w') : x.In w' := ⟨h.k, h.l.keep' hf (by simp) (fun _ _ h => h), h.n, h.d⟩
set_option maxHeartbeats 2000000 in
theorem promiseCut_any (x : Wpr) (w : World) (h1 : i64In x.r) (h2 : i64In x.e) (h3 : x.t < 18446744073709551616) (h4 : i64In x.b) (h5 : i64In x.m) (hl : Lst 38 Wce.cells (fun w v => v.In w) w x.A x.n x.l) (hn : x.n ≤ maxLen) :
    Calls Tryd.prog 18 #[.agg x.cells.toArray] w fun e w' => ∃ A' d' ys, e = .returned (.agg (Wpr.cells ⟨x.r, x.e, x.t, A', (x.l.take 3).length, d', ys, x.b, x.m⟩).toArray) ∧
      (∀ S0 : List Nat, (∀ k ∈ S0, k < w.heap.size) → (⟨x.r, x.e, x.t, A', (x.l.take 3).length, d', ys, x.b, x.m⟩ : Wpr).Ok w' S0) ∧ Small ys (x.l.take 3) ∧ Fr [] w w' := by
  obtain ⟨wa, hwa⟩ : ∃ wa, wa = (w.alloc (Obj.cells x.cells.toArray 49)).alloc (Obj.cells zeroPr 49) := ⟨_, rfl⟩
  have hf0 : Fr [] w wa := by rw [hwa]; exact ((Fr.refl [] w).alloc _).alloc _
  have hb0 : Blk wa w.heap.size 49 x.cells.toArray := by rw [hwa]; exact blk_alloc (Blk.new _ _ _)
  have hb1 : Blk wa (w.heap.size + 1) 49 zeroPr := by
    have := Blk.new (w.alloc (Obj.cells x.cells.toArray 49)) 49 zeroPr
    rw [hwa]
    simpa using this
  have hc : wa.cell? ⟨w.heap.size, 3, none⟩ = some (.slice x.A x.n x.d) := by
    have := hb0.range (cs := x.cells) 3 (.slice x.A x.n x.d) rfl
    simpa using this
  have HB0 := Lib.hid hb0
  have HB1 := Lib.hid hb1
  have HC := Lib.hid hc
  have HF0 := Lib.hid hf0
  have HWA := Lib.hid hwa
  have HX := Lib.hid hl
  have H1 := Lib.hid h1
  have H2 := Lib.hid h2
  have H3 := Lib.hid h3
  have H4 := Lib.hid h4
  have H5 := Lib.hid h5
  have HSZ : Hid (w.heap.size + 2 ≤ wa.heap.size) := Lib.hid (by have := hb1.lt; omega)
  have hxn := hl.1
  clear hwa hf0 hb0 hb1 hc hl h1 h2 h3 h4 h5
  obtain ⟨n, hn'⟩ : ∃ n, n = x.n := ⟨_, rfl⟩
  rw [← hn'] at hn hxn
  unfold maxLen at hn
  go_enter Tryd.func18, Tryd.ntmps18
  go_upto_region 1 with (fail)
  change Code.wp _ _ _ _ ((w.alloc (Obj.cells x.cells.toArray 49)).alloc (Obj.cells zeroPr 49))
  rw [← HWA.out]
  go_wp2_with fail
  go_loopw [3, 4] (fun s i wr => ∃ (k : Nat) (A4 : Option Addr) (c4 : Nat) (ys : List Wce), k ≤ n ∧ k ≤ 3 ∧ i = .int .i64 k ∧ s = .slice A4 k c4 ∧ Hid (Small ys (x.l.take k)) ∧ Hid (wr.ownsRow wa.heap.size 80 38 (.slice A4 k c4) k (ys.flatMap Wce.cells)) ∧
      Hid (∀ y ∈ ys, y.Ok wr [] ∧ ∀ a, y.A = some a → a.block < wr.heap.size ∧ wa.heap.size ≤ a.block ∧ ∀ g, (Value.slice A4 k c4).ownBlock = some g → a.block ≠ g) ∧ Hid (Fr [] wa wr)) (fun _ i _ => 3 - (intOf i).toNat)
  case atStart => exact ⟨0, none, 0, [], by omega, by omega, rfl, rfl, Lib.hid (by simp [Small]), Lib.hid ⟨by simp, .inl ⟨rfl, rfl⟩⟩, Lib.hid (by simp), Lib.hid (Fr.refl _ _)⟩
  case round =>
    obtain ⟨k, A4, c4, ys, hk, hk3, rfl, rfl, HSM, HO, HYS, HF⟩ := hrel
    have hc := HF.out.cell HC.out (by simp)
    by_cases hlt : k < n
    · by_cases hlt3 : k < 3
      · obtain ⟨ad, v, hA, hv, hcl, hok, hcells⟩ := HX.out.at (i := k) (by omega)
        rw [← hn', hA] at hc
        have hcells' : ∀ j u, v.cells[j]? = some u → wr.cell? ((ad.add (k * 38)).add j) = some u := fun j u hj => HF.out.cell (HF0.out.cell (hcells j u hj) (by simp)) (by simp)
        have HCELLS := Lib.hid hcells'
        have HCL := Lib.hid hcl
        have HIN := Lib.hid ((hok.keep HF0.out).keep HF.out)
        have HV := Lib.hid hv
        have hk0 : (0 : Int) ≤ k := by omega
        have HONE := Lib.hid (Wce.one v)
        clear hcells hcells' hcl hok hv
        have hcv : v.cells = v.k.cells ++ [Value.slice v.A v.n v.d] := rfl
        have HCV := Lib.hid hcv
        clear hcv
        generalize v.cells = C at *
        go_wp2_with (first | (refine wpList_cells rfl 80 _ rfl _ rfl C HCELLS.out (row_crt.of HCL.out) ?_))
        rw [HCV.out]
        refine (certCut_any v.k HIN.out.k v.A v.n v.d v.l wr HIN.out.l HIN.out.n HIN.out.d).mono ?_
        rintro e w1 ⟨A1, d1, rfl, hN⟩
        generalize hm : (v.l.take 5).length = m at *
        have HM := Lib.hid hm
        have hm5 : m ≤ 5 := by rw [← hm, List.length_take]; omega
        have HM5 := Lib.hid hm5
        have HN := Lib.hid hN
        have hD : (v.k.cells ++ [Value.slice A1 m d1]).length = 38 := by simp [Wcm.len HIN.out.k.h]
        have hD1 : ∀ u ∈ v.k.cells ++ [Value.slice A1 m d1], u.oneCell' = true := by
          intro u hu
          rcases List.mem_append.1 hu with h | h
          · exact Wcm.one v.k u h
          · rw [List.mem_singleton.1 h]; rfl
        have hDY : (⟨v.k, A1, m, d1, v.l.take 5⟩ : Wce).cells = v.k.cells ++ [Value.slice A1 m d1] := rfl
        generalize v.k.cells ++ [Value.slice A1 m d1] = D at *
        have HD := Lib.hid hD
        have HD1 := Lib.hid hD1
        have HDY := Lib.hid hDY
        have HO1 := Lib.hid (own_keep HO.out HN.out.2.1 (by simp))
        have HF1 := Lib.hid (HF.out.and HN.out.2.1 (by simp))
        have HLT := Lib.hid (own_lt HO.out)
        clear hN hm hm5 hD hD1 hDY HO hc
        go_wp2_with (first | (refine wpList_build_one rfl 45 80 _ rfl Tryd.underlying45 D 96 (by rw [HD.out]; exact el_cert) rfl (by rw [HD.out]; decide) (by rw [HD.out]; decide) ?_) | (at_builtin; refine Stop.mk ?_))
        refine Stop.go ?_
        refine wpList_append_one2 rfl _ _ 45 80 rfl Tryd.underlying45 38 96 el_cert (by decide) wa.heap.size (.slice A4 k c4) k _ D rfl (HO1.out.alloc _) (by have := HF1.out.size; simp; omega) HD.out HD1.out w1.heap.size 80 rfl (Blk.new _ _ _) (by omega) (by decide) ?_
        intro A9 c9 w9 ho9 hf9 hb9
        have HO9 := Lib.hid ho9
        have HF9 := Lib.hid hf9
        have HB9 := Lib.hid hb9
        clear ho9 hf9 hb9
        go_wp2
        go_roundw
        case rel =>
          refine ⟨k + 1, A9, c9, ys ++ [⟨v.k, A1, m, d1, v.l.take 5⟩], by omega, by omega, by go_num, rfl, ?_, ?_, ?_, ?_⟩
          · have e1 : x.l.take (k + 1) = x.l.take k ++ [v] := by rw [List.take_add_one, HV.out]; rfl
            have h := HSM.out
            refine Lib.hid ?_
            rw [e1]
            unfold Small at *
            rw [List.map_append, List.map_append, h]
            rfl
          · refine Lib.hid ?_
            rw [List.flatMap_append, List.flatMap_singleton, HDY.out]
            exact HO9.out
          · refine Lib.hid (fun y hy => ?_)
            have hfS : Fr (Value.slice A4 k c4).ownBlock.toList wr w9 := ((HN.out.2.1.alloc _).mono (T := (Value.slice A4 k c4).ownBlock.toList) (by simp)).trans HF9.out (fun y hy _ => hy)
            have hsz : (w1.alloc (Obj.cells D.toArray 80)).heap.size = w1.heap.size + 1 := by simp
            have hs1 := HN.out.2.1.size
            have hs9 := HF9.out.size
            rcases List.mem_append.1 hy with hy | hy
            · obtain ⟨hok, hbl⟩ := HYS.out y hy
              have hok2 : y.Ok wr (Value.slice A4 k c4).ownBlock.toList := ⟨hok.k, hok.l, hok.n, fun hn a ha hin => (hbl a ha).2.2 a.block (by simpa using hin) rfl⟩
              refine ⟨hok2.keep hfS (by simp), fun a ha => ⟨by have := (hbl a ha).1; omega, (hbl a ha).2.1, fun g hg => ?_⟩⟩
              rcases HB9.out with h | h
              · exact (hbl a ha).2.2 g (by rw [← h]; exact hg)
              · rw [h] at hg
                injection hg with hg
                have := (hbl a ha).1
                omega
            · rw [List.mem_singleton.1 hy]
              have hge : ∀ a, A1 = some a → wr.heap.size ≤ a.block := fun a ha => HN.out.2.2 a.block (by rw [ha]; simp [bk])
              have hlt : ∀ a, A1 = some a → a.block < w1.heap.size := fun a ha => own_lt HN.out.1 a.block (by rw [bk_mem, ha]; simp [bk])
              have hl1 : Lst 38 Wst.cells (fun _ v => v.Ok) w1 A1 m (v.l.take 5) := Lst.of_own HN.out.1 HM.out (fun u hu => HIN.out.l.2.1 u (List.mem_of_mem_take hu))
              refine ⟨⟨HIN.out.k, hl1.keep' (S := (Value.slice A4 k c4).ownBlock.toList) ((((Fr.refl [] w1).alloc _).mono (by simp)).trans HF9.out (fun y hy _ => hy)) (fun _ a ha hin => ?_) (fun _ _ h => h), HM5.out, by simp⟩, fun a ha => ⟨by have := hlt a ha; omega, by have := hge a ha; have := HF.out.size; omega, fun g hg => ?_⟩⟩
              · have := HLT.out a.block (by simpa using hin)
                have := hge a ha
                omega
              · rcases HB9.out with h | h
                · have := HLT.out g (by rw [← h]; exact hg)
                  have := hge a ha
                  omega
                · rw [h] at hg
                  injection hg with hg
                  have := hlt a ha
                  omega
          · exact Lib.hid ((HF1.out.alloc _).and HF9.out (fun y hy => (HO1.out.lt y (by simpa using hy)).1))
        case measure => simp [intOf]; omega
      · -- three are there
        have hbx := HB0.out.keep HF.out (by simp)
        have hz := hbx.frozen 3
        have HKL : Hid ((x.l.take 3).length = k) := Lib.hid (by rw [List.length_take]; omega)
        have HTK : Hid (x.l.take k = x.l.take 3) := Lib.hid (by rcases Nat.lt_or_ge k 3 with h | h; · rw [List.take_of_length_le (by omega), List.take_of_length_le (by omega)]
                                                                · rw [show k = 3 by omega])
        have hset : x.cells.toArray.setIfInBounds 3 (Value.slice A4 k c4) = (Wpr.cells ⟨x.r, x.e, x.t, A4, k, c4, ys, x.b, x.m⟩).toArray := rfl
        have HW2 := Lib.hid (hset ▸ hbx.set 3 (Value.slice A4 k c4))
        have hf2 : Fr [w.heap.size] wr (wr.setCell ⟨w.heap.size, 3, none⟩ (Value.slice A4 k c4)) := (Fr.refl _ wr).setCell ⟨w.heap.size, 3, none⟩ (fun _ => by simp) (Value.slice A4 k c4)
        have HB1S := Lib.hid ((HB1.out.keep HF.out (by simp)).keep hf2 (by simp))
        have HF2 := Lib.hid hf2
        have HCS : Hid ((Wpr.cells ⟨x.r, x.e, x.t, A4, k, c4, ys, x.b, x.m⟩).toArray = (Wpr.cells ⟨x.r, x.e, x.t, A4, k, c4, ys, x.b, x.m⟩).toArray) := Lib.hid rfl
        have HZS : Hid ((Tryd.prog.info? 49).map (·.size) = some (Wpr.cells ⟨x.r, x.e, x.t, A4, k, c4, ys, x.b, x.m⟩).toArray.size) := Lib.hid (by kernel_rfl)
        have HAL : Hid ((Wpr.cells ⟨x.r, x.e, x.t, A4, k, c4, ys, x.b, x.m⟩).toArray.all (·.oneCell') = true) := Lib.hid (all_oneCell_toArray (Wpr.one _))
        have HZP : Hid (zeroPr.size = (Wpr.cells ⟨x.r, x.e, x.t, A4, k, c4, ys, x.b, x.m⟩).toArray.size) := Lib.hid rfl
        generalize hcc : (Wpr.cells ⟨x.r, x.e, x.t, A4, k, c4, ys, x.b, x.m⟩).toArray = CC at *
        have HCC := Lib.hid hcc
        have hc := hc
        rw [← hn'] at hc
        clear hcc hset hf2 hbx
        go_wp2_with (first
          | (refine wpList_load_row rfl 49 _ rfl w.heap.size rfl 49 CC _ _ HW2.out Tryd.underlying49 rfl HZS.out ?_)
          | (refine wpList_store_blk rfl 49 _ _ rfl (w.heap.size + 1) CC rfl rfl 49 zeroPr HB1S.out HZS.out HZP.out HAL.out ?_
             intro w3 hb3 hf3
             have HB3 := Lib.hid hb3
             have HF3 := Lib.hid hf3
             clear hb3 hf3))
        have hkm : min 3 x.n = k := by omega
        rw [hkm]
        have hyl : ys.length = k := by
          have := congrArg List.length HSM.out
          simp at this
          omega
        have HFa : Fr [w.heap.size, w.heap.size + 1] wr w3 := (HF2.out.mono (by intro k hk _; simp at hk; simp [hk])).trans HF3.out (by intro k hk _; simp at hk; simp [hk])
        have hsz := HSZ.out
        refine bodyPost_ret (v := .agg CC) (results_cell_row Tryd.results18 _ _ (w.heap.size + 1) 49 CC _ _ rfl HB3.out Tryd.underlying49 rfl HZS.out) rfl ⟨A4, c4, ys, by rw [HCC.out], fun S0 hS0 => ⟨H1.out, H2.out, H3.out, ?_, by show k ≤ 3; omega, fun _ a ha hin => ?_, H4.out, H5.out⟩, HTK.out ▸ HSM.out, (HF0.out.and HF.out (by simp)).and HFa (fun k hk => by simp at hk; omega)⟩
        · have hlw : Lst 38 Wce.cells (fun w v => v.Ok w S0) wr A4 k ys := Lst.of_own HO.out hyl (fun y hy => ⟨Wce.len (HYS.out y hy).1.k.h, (HYS.out y hy).1.k, (HYS.out y hy).1.l, (HYS.out y hy).1.n, fun hn a ha hin => by
            have h1 := ((HYS.out y hy).2 a ha).2.1
            have h2 := hS0 _ hin
            omega⟩)
          refine hlw.keep' HFa (fun _ a ha hin => ?_) (fun y hy hok => ?_)
          · have := (HO.out.lt a.block (by rw [bk_mem, ha]; simp [bk])).1
            simp at hin
            omega
          · have hok2 : y.Ok wr (w.heap.size :: (w.heap.size + 1) :: S0) := ⟨hok.k, hok.l, hok.n, fun hn a ha hin => by
              have h1 := ((HYS.out y hy).2 a ha).2.1
              simp only [List.mem_cons] at hin
              rcases hin with h | h | h
              · omega
              · omega
              · have h2 := hS0 _ h
                omega⟩
            exact hok2.keep (HFa.mono (by intro k hk _; simp at hk; rcases hk with rfl | rfl <;> simp)) (fun k hk _ => by simp [hk])
        · have ha : A4 = some a := ha
          have h1 := (HO.out.lt a.block (by rw [bk_mem, ha]; simp [bk])).1
          have h2 := hS0 _ hin
          omega
    · -- no more are there
      have hbx := HB0.out.keep HF.out (by simp)
      have hz := hbx.frozen 3
      have HKL : Hid ((x.l.take 3).length = k) := Lib.hid (by rw [List.length_take]; omega)
      have HTK : Hid (x.l.take k = x.l.take 3) := Lib.hid (by rcases Nat.lt_or_ge k 3 with h | h; · rw [List.take_of_length_le (by omega), List.take_of_length_le (by omega)]
                                                              · rw [show k = 3 by omega])
      have hset : x.cells.toArray.setIfInBounds 3 (Value.slice A4 k c4) = (Wpr.cells ⟨x.r, x.e, x.t, A4, k, c4, ys, x.b, x.m⟩).toArray := rfl
      have HW2 := Lib.hid (hset ▸ hbx.set 3 (Value.slice A4 k c4))
      have hf2 : Fr [w.heap.size] wr (wr.setCell ⟨w.heap.size, 3, none⟩ (Value.slice A4 k c4)) := (Fr.refl _ wr).setCell ⟨w.heap.size, 3, none⟩ (fun _ => by simp) (Value.slice A4 k c4)
      have HB1S := Lib.hid ((HB1.out.keep HF.out (by simp)).keep hf2 (by simp))
      have HF2 := Lib.hid hf2
      have HCS : Hid ((Wpr.cells ⟨x.r, x.e, x.t, A4, k, c4, ys, x.b, x.m⟩).toArray = (Wpr.cells ⟨x.r, x.e, x.t, A4, k, c4, ys, x.b, x.m⟩).toArray) := Lib.hid rfl
      have HZS : Hid ((Tryd.prog.info? 49).map (·.size) = some (Wpr.cells ⟨x.r, x.e, x.t, A4, k, c4, ys, x.b, x.m⟩).toArray.size) := Lib.hid (by kernel_rfl)
      have HAL : Hid ((Wpr.cells ⟨x.r, x.e, x.t, A4, k, c4, ys, x.b, x.m⟩).toArray.all (·.oneCell') = true) := Lib.hid (all_oneCell_toArray (Wpr.one _))
      have HZP : Hid (zeroPr.size = (Wpr.cells ⟨x.r, x.e, x.t, A4, k, c4, ys, x.b, x.m⟩).toArray.size) := Lib.hid rfl
      generalize hcc : (Wpr.cells ⟨x.r, x.e, x.t, A4, k, c4, ys, x.b, x.m⟩).toArray = CC at *
      have HCC := Lib.hid hcc
      have hc := hc
      rw [← hn'] at hc
      clear hcc hset hf2 hbx
      go_wp2_with (first
        | (refine wpList_load_row rfl 49 _ rfl w.heap.size rfl 49 CC _ _ HW2.out Tryd.underlying49 rfl HZS.out ?_)
        | (refine wpList_store_blk rfl 49 _ _ rfl (w.heap.size + 1) CC rfl rfl 49 zeroPr HB1S.out HZS.out HZP.out HAL.out ?_
           intro w3 hb3 hf3
           have HB3 := Lib.hid hb3
           have HF3 := Lib.hid hf3
           clear hb3 hf3))
      have hkm : min 3 x.n = k := by omega
      rw [hkm]
      have hyl : ys.length = k := by
        have := congrArg List.length HSM.out
        simp at this
        omega
      have HFa : Fr [w.heap.size, w.heap.size + 1] wr w3 := (HF2.out.mono (by intro k hk _; simp at hk; simp [hk])).trans HF3.out (by intro k hk _; simp at hk; simp [hk])
      have hsz := HSZ.out
      refine bodyPost_ret (v := .agg CC) (results_cell_row Tryd.results18 _ _ (w.heap.size + 1) 49 CC _ _ rfl HB3.out Tryd.underlying49 rfl HZS.out) rfl ⟨A4, c4, ys, by rw [HCC.out], fun S0 hS0 => ⟨H1.out, H2.out, H3.out, ?_, by show k ≤ 3; omega, fun _ a ha hin => ?_, H4.out, H5.out⟩, HTK.out ▸ HSM.out, (HF0.out.and HF.out (by simp)).and HFa (fun k hk => by simp at hk; omega)⟩
      · have hlw : Lst 38 Wce.cells (fun w v => v.Ok w S0) wr A4 k ys := Lst.of_own HO.out hyl (fun y hy => ⟨Wce.len (HYS.out y hy).1.k.h, (HYS.out y hy).1.k, (HYS.out y hy).1.l, (HYS.out y hy).1.n, fun hn a ha hin => by
          have h1 := ((HYS.out y hy).2 a ha).2.1
          have h2 := hS0 _ hin
          omega⟩)
        refine hlw.keep' HFa (fun _ a ha hin => ?_) (fun y hy hok => ?_)
        · have := (HO.out.lt a.block (by rw [bk_mem, ha]; simp [bk])).1
          simp at hin
          omega
        · have hok2 : y.Ok wr (w.heap.size :: (w.heap.size + 1) :: S0) := ⟨hok.k, hok.l, hok.n, fun hn a ha hin => by
            have h1 := ((HYS.out y hy).2 a ha).2.1
            simp only [List.mem_cons] at hin
            rcases hin with h | h | h
            · omega
            · omega
            · have h2 := hS0 _ h
              omega⟩
          exact hok2.keep (HFa.mono (by intro k hk _; simp at hk; rcases hk with rfl | rfl <;> simp)) (fun k hk _ => by simp [hk])
      · have ha : A4 = some a := ha
        have h1 := (HO.out.lt a.block (by rw [bk_mem, ha]; simp [bk])).1
        have h2 := hS0 _ hin
        omega
end Go.Proofs.YtjpmiigoglcoaaaDoor

namespace Go.Proofs.YtjpmiigoglcoaaaDoor
open Go.ChangeShapes Go.WideShapes Go.ChangeAt Go.RowKit
set_option maxRecDepth 100000
theorem lst_of_cells {α : Type} [Inhabited α] {H : Type} {enc : TypeId × Value → H} {w : World} {spare : Nat → Bool} {held : Bool} {k : Nat} {cells : α → List Value} {ok : World → α → Prop} {t e : TypeId} (ht : Tryd.prog.underlying t = some (.slice e)) (hc : Tryd.prog.cellsOf e = k)
    (hel : ∀ fuel cs (x : DataW H × List MemPlace), DataW.trod enc Tryd.prog w 0 spare held fuel e cs = some x → ∃ v : α, ok w v ∧ cs = cells v) {fuel : Nat} {cs : List Value} {x : DataW H × List MemPlace} (h : DataW.trod enc Tryd.prog w 0 spare held fuel t cs = some x) :
    ∃ A n d, ∃ l : List α, cs = [.slice A n d] ∧ Lst k cells ok w A n l ∧ n ≤ d ∧ d ≤ maxLen := by
  rcases Go.Deep.open_slice ht h with ⟨rfl, _⟩ | ⟨a, len', cap', m, n, D, Pl, rfl, _⟩
  · obtain ⟨l, h1, h2, h3⟩ := lst_of_trod ht hc hel h
    exact ⟨_, _, _, l, rfl, h1, h2, h3⟩
  · obtain ⟨l, h1, h2, h3⟩ := lst_of_trod ht hc hel h
    exact ⟨_, _, _, l, rfl, h1, h2, h3⟩
theorem stamp_of_trod {H : Type} {enc : TypeId × Value → H} {W : World} {sp : Nat → Bool} {held : Bool} {fuel : Nat} {cs : List Value} {x0 : DataW H × List MemPlace} (h : DataW.trod enc Tryd.prog W 0 sp held fuel 111 cs = some x0) :
    ∃ x : Wst, x.Ok ∧ cs = x.cells := by
  obtain ⟨xs, m, _, _, hlen, hxl, hat⟩ := DataW.trod_struct Tryd.underlying111 h
  rw [show Tryd.prog.cellsOf 111 = 38 by kernel_rfl] at hlen
  have hx : ∀ i (hi : i < 5), xs[i]? = some (xs[i]'(by rw [hxl]; exact hi)) := fun i hi => List.getElem?_eq_getElem _
  have f0 : DataW.trod enc Tryd.prog W 0 sp held m 3 ((cs.drop 0).take (Tryd.prog.cellsOf 3)) = _ := (hat 0 _ rfl).trans (hx 0 (by omega))
  rw [show Tryd.prog.cellsOf 3 = 1 by kernel_rfl] at f0
  obtain ⟨r, e0, _, w0⟩ := DataW.trod_int Tryd.underlying3 f0
  have f1 : DataW.trod enc Tryd.prog W 0 sp held m 75 ((cs.drop 1).take (Tryd.prog.cellsOf 75)) = _ := (hat 1 _ rfl).trans (hx 1 (by omega))
  rw [show Tryd.prog.cellsOf 75 = 2 by kernel_rfl] at f1
  obtain ⟨c, s, w1, w1', e1⟩ := pair_of_trod Tryd.underlying75 ⟨rfl, rfl⟩ ⟨rfl, rfl⟩ (by kernel_rfl) f1
  have f2 : DataW.trod enc Tryd.prog W 0 sp held m 32 ((cs.drop 3).take (Tryd.prog.cellsOf 32)) = _ := (hat 2 _ rfl).trans (hx 2 (by omega))
  rw [show Tryd.prog.cellsOf 32 = 32 by kernel_rfl] at f2
  obtain ⟨hh, w2, e2⟩ := hash_of_trod f2
  have f3 : DataW.trod enc Tryd.prog W 0 sp held m 22 ((cs.drop 35).take (Tryd.prog.cellsOf 22)) = _ := (hat 3 _ rfl).trans (hx 3 (by omega))
  rw [show Tryd.prog.cellsOf 22 = 1 by kernel_rfl] at f3
  obtain ⟨u3, e3, _, w3⟩ := DataW.trod_int Tryd.underlying22 f3
  obtain ⟨t, rfl, b3⟩ := u64_of w3
  have f4 : DataW.trod enc Tryd.prog W 0 sp held m 47 ((cs.drop 36).take (Tryd.prog.cellsOf 47)) = _ := (hat 4 _ rfl).trans (hx 4 (by omega))
  rw [show Tryd.prog.cellsOf 47 = 2 by kernel_rfl] at f4
  obtain ⟨b, mm, w4, w4', e4⟩ := pair_of_trod Tryd.underlying47 ⟨rfl, rfl⟩ ⟨rfl, rfl⟩ (by kernel_rfl) f4
  refine ⟨⟨r, c, s, hh, t, b, mm⟩, ⟨i64In_of w0, w1, w1', w2, b3, w4, w4'⟩, ?_⟩
  have z : cs.drop 38 = [] := List.drop_eq_nil_of_le (by omega)
  have s0 : cs = cs.drop 0 := rfl
  rw [s0, cut_at cs 0 1 1 rfl, e0, cut_at cs 1 2 3 rfl, e1, cut_at cs 3 32 35 rfl, e2, cut_at cs 35 1 36 rfl, e3, cut_at cs 36 2 38 rfl, e4, z]
  simp [Wst.cells]
theorem deny_of_trod {H : Type} {enc : TypeId × Value → H} {W : World} {sp : Nat → Bool} {held : Bool} {fuel : Nat} {cs : List Value} {x0 : DataW H × List MemPlace} (h : DataW.trod enc Tryd.prog W 0 sp held fuel 54 cs = some x0) :
    ∃ x : Wdn, x.Ok ∧ cs = x.cells := by
  obtain ⟨xs, m, _, _, hlen, hxl, hat⟩ := DataW.trod_struct Tryd.underlying54 h
  rw [show Tryd.prog.cellsOf 54 = 4 by kernel_rfl] at hlen
  have hx : ∀ i (hi : i < 3), xs[i]? = some (xs[i]'(by rw [hxl]; exact hi)) := fun i hi => List.getElem?_eq_getElem _
  have f0 : DataW.trod enc Tryd.prog W 0 sp held m 3 ((cs.drop 0).take (Tryd.prog.cellsOf 3)) = _ := (hat 0 _ rfl).trans (hx 0 (by omega))
  rw [show Tryd.prog.cellsOf 3 = 1 by kernel_rfl] at f0
  obtain ⟨r, e0, _, w0⟩ := DataW.trod_int Tryd.underlying3 f0
  have f1 : DataW.trod enc Tryd.prog W 0 sp held m 3 ((cs.drop 1).take (Tryd.prog.cellsOf 3)) = _ := (hat 1 _ rfl).trans (hx 1 (by omega))
  rw [show Tryd.prog.cellsOf 3 = 1 by kernel_rfl] at f1
  obtain ⟨i, e1, _, w1⟩ := DataW.trod_int Tryd.underlying3 f1
  have f2 : DataW.trod enc Tryd.prog W 0 sp held m 47 ((cs.drop 2).take (Tryd.prog.cellsOf 47)) = _ := (hat 2 _ rfl).trans (hx 2 (by omega))
  rw [show Tryd.prog.cellsOf 47 = 2 by kernel_rfl] at f2
  obtain ⟨b, mm, w2, w2', e2⟩ := pair_of_trod Tryd.underlying47 ⟨rfl, rfl⟩ ⟨rfl, rfl⟩ (by kernel_rfl) f2
  refine ⟨⟨r, i, b, mm⟩, ⟨i64In_of w0, i64In_of w1, w2, w2'⟩, ?_⟩
  have z : cs.drop 4 = [] := List.drop_eq_nil_of_le (by omega)
  have s0 : cs = cs.drop 0 := rfl
  rw [s0, cut_at cs 0 1 1 rfl, e0, cut_at cs 1 1 2 rfl, e1, cut_at cs 2 2 4 rfl, e2, z]
  simp [Wdn.cells]
theorem commit_of_trod {H : Type} {enc : TypeId × Value → H} {W : World} {sp : Nat → Bool} {held : Bool} {fuel : Nat} {cs : List Value} {x0 : DataW H × List MemPlace} (h : DataW.trod enc Tryd.prog W 0 sp held fuel 77 cs = some x0) :
    ∃ x : Wcm, x.Ok ∧ cs = x.cells := by
  obtain ⟨xs, m, _, _, hlen, hxl, hat⟩ := DataW.trod_struct Tryd.underlying77 h
  rw [show Tryd.prog.cellsOf 77 = 37 by kernel_rfl] at hlen
  have hx : ∀ i (hi : i < 4), xs[i]? = some (xs[i]'(by rw [hxl]; exact hi)) := fun i hi => List.getElem?_eq_getElem _
  have f0 : DataW.trod enc Tryd.prog W 0 sp held m 75 ((cs.drop 0).take (Tryd.prog.cellsOf 75)) = _ := (hat 0 _ rfl).trans (hx 0 (by omega))
  rw [show Tryd.prog.cellsOf 75 = 2 by kernel_rfl] at f0
  obtain ⟨c, s, w0, w0', e0⟩ := pair_of_trod Tryd.underlying75 ⟨rfl, rfl⟩ ⟨rfl, rfl⟩ (by kernel_rfl) f0
  have f1 : DataW.trod enc Tryd.prog W 0 sp held m 32 ((cs.drop 2).take (Tryd.prog.cellsOf 32)) = _ := (hat 1 _ rfl).trans (hx 1 (by omega))
  rw [show Tryd.prog.cellsOf 32 = 32 by kernel_rfl] at f1
  obtain ⟨hh, w1, e1⟩ := hash_of_trod f1
  have f2 : DataW.trod enc Tryd.prog W 0 sp held m 3 ((cs.drop 34).take (Tryd.prog.cellsOf 3)) = _ := (hat 2 _ rfl).trans (hx 2 (by omega))
  rw [show Tryd.prog.cellsOf 3 = 1 by kernel_rfl] at f2
  obtain ⟨n, e2, _, w2⟩ := DataW.trod_int Tryd.underlying3 f2
  have f3 : DataW.trod enc Tryd.prog W 0 sp held m 47 ((cs.drop 35).take (Tryd.prog.cellsOf 47)) = _ := (hat 3 _ rfl).trans (hx 3 (by omega))
  rw [show Tryd.prog.cellsOf 47 = 2 by kernel_rfl] at f3
  obtain ⟨b, mm, w3, w3', e3⟩ := pair_of_trod Tryd.underlying47 ⟨rfl, rfl⟩ ⟨rfl, rfl⟩ (by kernel_rfl) f3
  refine ⟨⟨c, s, hh, n, b, mm⟩, ⟨w0, w0', w1, i64In_of w2, w3, w3'⟩, ?_⟩
  have z : cs.drop 37 = [] := List.drop_eq_nil_of_le (by omega)
  have s0 : cs = cs.drop 0 := rfl
  rw [s0, cut_at cs 0 2 2 rfl, e0, cut_at cs 2 32 34 rfl, e1, cut_at cs 34 1 35 rfl, e2, cut_at cs 35 2 37 rfl, e3, z]
  simp [Wcm.cells]
instance : Inhabited Wst := ⟨⟨0, 0, 0, [], 0, 0, 0⟩⟩
instance : Inhabited Wdn := ⟨⟨0, 0, 0, 0⟩⟩
instance : Inhabited Wce := ⟨⟨⟨0, 0, [], 0, 0, 0⟩, none, 0, 0, []⟩⟩
theorem cert_of_trod {H : Type} {enc : TypeId × Value → H} {W : World} {sp : Nat → Bool} {held : Bool} {fuel : Nat} {cs : List Value} {x0 : DataW H × List MemPlace} (h : DataW.trod enc Tryd.prog W 0 sp held fuel 80 cs = some x0) :
    ∃ x : Wce, x.In W ∧ cs = x.cells := by
  obtain ⟨xs, m, _, _, hlen, hxl, hat⟩ := DataW.trod_struct Tryd.underlying80 h
  rw [show Tryd.prog.cellsOf 80 = 38 by kernel_rfl] at hlen
  have hx : ∀ i (hi : i < 2), xs[i]? = some (xs[i]'(by rw [hxl]; exact hi)) := fun i hi => List.getElem?_eq_getElem _
  have f0 : DataW.trod enc Tryd.prog W 0 sp held m 77 ((cs.drop 0).take (Tryd.prog.cellsOf 77)) = _ := (hat 0 _ rfl).trans (hx 0 (by omega))
  rw [show Tryd.prog.cellsOf 77 = 37 by kernel_rfl] at f0
  obtain ⟨k, w0, e0⟩ := commit_of_trod f0
  have f1 : DataW.trod enc Tryd.prog W 0 sp held m 78 ((cs.drop 37).take (Tryd.prog.cellsOf 78)) = _ := (hat 1 _ rfl).trans (hx 1 (by omega))
  rw [show Tryd.prog.cellsOf 78 = 1 by kernel_rfl] at f1
  obtain ⟨A, n, d, l, e1, w1, w1', w1''⟩ := lst_of_cells (cells := Wst.cells) (ok := fun _ v => v.Ok) (k := 38) Tryd.underlying78 (by kernel_rfl) (fun fuel cs x h => stamp_of_trod h) f1
  refine ⟨⟨k, A, n, d, l⟩, ⟨w0, w1, Nat.le_trans w1' w1'', w1'⟩, ?_⟩
  have z : cs.drop 38 = [] := List.drop_eq_nil_of_le (by omega)
  have s0 : cs = cs.drop 0 := rfl
  rw [s0, cut_at cs 0 37 37 rfl, e0, cut_at cs 37 1 38 rfl, e1, z]
  simp [Wce.cells]
/-- a promise that comes in -/
structure Wpr.In (w : World) (x : Wpr) : Prop where
  r : i64In x.r
  e : i64In x.e
  t : x.t < 18446744073709551616
  l : Lst 38 Wce.cells (fun w v => v.In w) w x.A x.n x.l
  n : x.n ≤ maxLen
  d : x.n ≤ x.d
  b : i64In x.b
  m : i64In x.m
theorem promise_of_trod {H : Type} {enc : TypeId × Value → H} {W : World} {sp : Nat → Bool} {held : Bool} {fuel : Nat} {cs : List Value} {x0 : DataW H × List MemPlace} (h : DataW.trod enc Tryd.prog W 0 sp held fuel 49 cs = some x0) :
    ∃ x : Wpr, x.In W ∧ cs = x.cells := by
  obtain ⟨xs, m, _, _, hlen, hxl, hat⟩ := DataW.trod_struct Tryd.underlying49 h
  rw [show Tryd.prog.cellsOf 49 = 6 by kernel_rfl] at hlen
  have hx : ∀ i (hi : i < 5), xs[i]? = some (xs[i]'(by rw [hxl]; exact hi)) := fun i hi => List.getElem?_eq_getElem _
  have f0 : DataW.trod enc Tryd.prog W 0 sp held m 3 ((cs.drop 0).take (Tryd.prog.cellsOf 3)) = _ := (hat 0 _ rfl).trans (hx 0 (by omega))
  rw [show Tryd.prog.cellsOf 3 = 1 by kernel_rfl] at f0
  obtain ⟨r, e0, _, w0⟩ := DataW.trod_int Tryd.underlying3 f0
  have f1 : DataW.trod enc Tryd.prog W 0 sp held m 3 ((cs.drop 1).take (Tryd.prog.cellsOf 3)) = _ := (hat 1 _ rfl).trans (hx 1 (by omega))
  rw [show Tryd.prog.cellsOf 3 = 1 by kernel_rfl] at f1
  obtain ⟨e, e1, _, w1⟩ := DataW.trod_int Tryd.underlying3 f1
  have f2 : DataW.trod enc Tryd.prog W 0 sp held m 22 ((cs.drop 2).take (Tryd.prog.cellsOf 22)) = _ := (hat 2 _ rfl).trans (hx 2 (by omega))
  rw [show Tryd.prog.cellsOf 22 = 1 by kernel_rfl] at f2
  obtain ⟨u2, e2, _, w2⟩ := DataW.trod_int Tryd.underlying22 f2
  obtain ⟨t, rfl, b2⟩ := u64_of w2
  have f3 : DataW.trod enc Tryd.prog W 0 sp held m 45 ((cs.drop 3).take (Tryd.prog.cellsOf 45)) = _ := (hat 3 _ rfl).trans (hx 3 (by omega))
  rw [show Tryd.prog.cellsOf 45 = 1 by kernel_rfl] at f3
  obtain ⟨A, n, d, l, e3, w3, w3', w3''⟩ := lst_of_cells (cells := Wce.cells) (ok := fun w v => v.In w) (k := 38) Tryd.underlying45 (by kernel_rfl) (fun fuel cs x h => cert_of_trod h) f3
  have f4 : DataW.trod enc Tryd.prog W 0 sp held m 47 ((cs.drop 4).take (Tryd.prog.cellsOf 47)) = _ := (hat 4 _ rfl).trans (hx 4 (by omega))
  rw [show Tryd.prog.cellsOf 47 = 2 by kernel_rfl] at f4
  obtain ⟨b, mm, w4, w4', e4⟩ := pair_of_trod Tryd.underlying47 ⟨rfl, rfl⟩ ⟨rfl, rfl⟩ (by kernel_rfl) f4
  refine ⟨⟨r, e, t, A, n, d, l, b, mm⟩, ⟨i64In_of w0, i64In_of w1, b2, w3, Nat.le_trans w3' w3'', w3', w4, w4'⟩, ?_⟩
  have z : cs.drop 6 = [] := List.drop_eq_nil_of_le (by omega)
  have s0 : cs = cs.drop 0 := rfl
  rw [s0, cut_at cs 0 1 1 rfl, e0, cut_at cs 1 1 2 rfl, e1, cut_at cs 2 1 3 rfl, e2, cut_at cs 3 1 4 rfl, e3, cut_at cs 4 2 6 rfl, e4, z]
  simp [Wpr.cells]
end Go.Proofs.YtjpmiigoglcoaaaDoor

namespace Go.Proofs.YtjpmiigoglcoaaaDoor
open Go.ChangeShapes Go.WideShapes Go.ChangeAt Go.RowKit
set_option maxRecDepth 100000
theorem promise_open {H : Type} {enc : TypeId × Value → H} {W : World} {r : Reach} {base b0 : Nat} {v : Value} {d : DataW H} {p : List MemPlace} {sp : Nat → Bool} {held : Bool} (hv : Value.okWide Tryd.prog W r base 49 v) (h : DataW.Trod enc Tryd.prog W b0 sp held 49 v d p) (hb : b0 = 0) :
    ∃ x : Wpr, x.In W ∧ v = x.val := by
  subst hb
  unfold Value.okWide at hv
  rw [Tryd.underlying49] at hv
  obtain ⟨cs, rfl, -⟩ := hv
  obtain ⟨fuel, hf⟩ := h
  obtain ⟨x, hx, e⟩ := promise_of_trod (show DataW.trod enc Tryd.prog W 0 sp held fuel 49 cs.toList = some (d, p) from hf)
  exact ⟨x, hx, by show Value.agg cs = Value.agg _; rw [← e, Array.toArray_toList]⟩
theorem cert_open {H : Type} {enc : TypeId × Value → H} {W : World} {r : Reach} {base b0 : Nat} {v : Value} {d : DataW H} {p : List MemPlace} {sp : Nat → Bool} {held : Bool} (hv : Value.okWide Tryd.prog W r base 80 v) (h : DataW.Trod enc Tryd.prog W b0 sp held 80 v d p) (hb : b0 = 0) :
    ∃ x : Wce, x.In W ∧ v = x.val := by
  subst hb
  unfold Value.okWide at hv
  rw [Tryd.underlying80] at hv
  obtain ⟨cs, rfl, -⟩ := hv
  obtain ⟨fuel, hf⟩ := h
  obtain ⟨x, hx, e⟩ := cert_of_trod (show DataW.trod enc Tryd.prog W 0 sp held fuel 80 cs.toList = some (d, p) from hf)
  exact ⟨x, hx, by show Value.agg cs = Value.agg _; rw [← e, Array.toArray_toList]⟩
theorem sig_open {H : Type} {enc : TypeId × Value → H} {W : World} {r : Reach} {base b0 : Nat} {v : Value} {d : DataW H} {p : List MemPlace} {sp : Nat → Bool} {held : Bool} (hv : Value.okWide Tryd.prog W r base 47 v) (h : DataW.Trod enc Tryd.prog W b0 sp held 47 v d p) (hb : b0 = 0) :
    ∃ c s : Int, i64In c ∧ i64In s ∧ v = .agg #[.int .i64 c, .int .i64 s] := by
  subst hb
  unfold Value.okWide at hv
  rw [Tryd.underlying47] at hv
  obtain ⟨cs, rfl, -⟩ := hv
  obtain ⟨fuel, hf⟩ := h
  obtain ⟨c, s, h1, h2, e⟩ := pair_of_trod Tryd.underlying47 ⟨rfl, rfl⟩ ⟨rfl, rfl⟩ (by kernel_rfl) (show DataW.trod enc Tryd.prog W 0 sp held fuel 47 cs.toList = some (d, p) from hf)
  exact ⟨c, s, h1, h2, by rw [← Array.toArray_toList (xs := cs), e]⟩
end Go.Proofs.YtjpmiigoglcoaaaDoor

namespace Go.Proofs.YtjpmiigoglcoaaaDoor
open Go.RowKit
set_option maxRecDepth 100000
theorem el_deny : ElTy Tryd.prog 54 4 32 := ElTy.of (by kernel_rfl)
theorem copyDenies_any (A : Option Addr) (n c : Nat) (l : List Wdn) (w : World) (hr : Lst 4 Wdn.cells (fun _ v => v.Ok) w A n l) (hn : n ≤ 1000000) :
    Calls Tryd.prog 16 #[.slice A n c] w fun e w' => ∃ A' c', e = .returned (.slice A' n c') ∧ NewL 54 4 Wdn.cells w w' A' n c' l := by
  have HR := Lib.hid hr
  have HN := Lib.hid hn
  clear hr hn
  go_enter Tryd.func16, Tryd.ntmps16
  go_wp2_with (at_builtin; refine Stop.mk ?_)
  refine Stop.go ?_
  refine wpList_append_lst _ rfl (.const (.slice none 0 0)) (.tmp 3) _ rfl 54 4 32 Tryd.underlying35 el_deny (by decide) (by decide) Wdn.one rfl A n c l rfl HR.out HN.out ?_
  intro A1 c1 w1 ho1
  have HO := Lib.hid ho1
  clear ho1
  go_wp2
  go_ret
  exact ⟨A1, c1, rfl, HO.out⟩
theorem cutDenies_any (A : Option Addr) (n c m : Nat) (l : List Wdn) (w : World) (hr : Lst 4 Wdn.cells (fun _ v => v.Ok) w A n l) (hn : n ≤ maxLen) (hc : n ≤ c) (hm : m ≤ 1000000) :
    Calls Tryd.prog 19 #[.slice A n c, .int .i64 m] w fun e w' => ∃ A' c', e = .returned (.slice A' (l.take m).length c') ∧ NewL 54 4 Wdn.cells w w' A' (l.take m).length c' (l.take m) := by
  unfold maxLen at hn
  have HR := Lib.hid hr
  have HL : Hid ((l.take m).length = min m n) := by rw [List.length_take, hr.1]; rfl
  clear hr
  by_cases hnm : n ≤ m
  · have hmin : Hid (min m n = n) := Nat.min_eq_right hnm
    go_enter Tryd.func19, Tryd.ntmps19
    go_wp2_with fail
    rw [show (min (n : Int) (m : Int)).toNat = n by omega]
    refine (copyDenies_any A n c (l.take m) w (by have h := HR.out.1; rw [List.take_of_length_le (by omega)]; exact HR.out) (by omega)).mono ?_
    rintro e w1 ⟨A1, c1, rfl, hN⟩
    have HN := Lib.hid hN
    clear hN
    go_wp2
    go_ret
    rw [HL.out, hmin.out]
    exact ⟨A1, c1, rfl, HN.out⟩
  · have hmin : Hid (min m n = m) := Nat.min_eq_left (by omega)
    have hmc : m ≤ c := by omega
    go_enter Tryd.func19, Tryd.ntmps19
    go_wp2_with fail
    rw [show (min (n : Int) (m : Int)).toNat = m by omega]
    refine (copyDenies_any A m c (l.take m) w (HR.out.take (by omega)) (by omega)).mono ?_
    rintro e w1 ⟨A1, c1, rfl, hN⟩
    have HN := Lib.hid hN
    clear hN
    go_wp2
    go_ret
    rw [HL.out, hmin.out]
    exact ⟨A1, c1, rfl, HN.out⟩

theorem el_prm : ElTy Tryd.prog 49 6 64 := ElTy.of (by kernel_rfl)
theorem el_opn : ElTy Tryd.prog 34 34 64 := ElTy.of (by kernel_rfl)
theorem el_tomb : ElTy Tryd.prog 37 2 32 := ElTy.of (by kernel_rfl)
/-- an element that lies apart from what stood there and from the list that grows stays so -/
theorem keepAll {α : Type} {ok : World → List Nat → α → Prop} (hkeep : ∀ {w W : World} {S S' : List Nat} {x : α}, ok w S x → Fr S w W → (∀ k ∈ S', k < w.heap.size → k ∈ S) → ok W S' x)
    {N : Nat} {w w9 : World} {B4 B9 : List Nat} (hf : Fr B4 w w9) (hb : ∀ q ∈ B9, q ∈ B4 ∨ w.heap.size ≤ q) {x : α} (h : ∀ S0, (∀ q ∈ S0, q < N ∨ q ∈ B4) → ok w S0 x) :
    ∀ S0, (∀ q ∈ S0, q < N ∨ q ∈ B9) → ok w9 S0 x := by
  intro S0 h0
  refine hkeep (h (B4 ++ S0.filter (fun q => decide (q < N))) (fun q hq => ?_)) (hf.mono (fun k hk _ => List.mem_append.2 (.inl hk))) (fun q hq hl => ?_)
  · rcases List.mem_append.1 hq with hq | hq
    · exact .inr hq
    · exact .inl (by simpa using (List.mem_filter.1 hq).2)
  · rcases h0 q hq with h1 | h1
    · exact List.mem_append.2 (.inr (List.mem_filter.2 ⟨hq, by simpa using h1⟩))
    · rcases hb q h1 with h2 | h2
      · exact List.mem_append.2 (.inl h2)
      · omega
/-- an opening, a tombstone, a batch that comes in -/
structure Wop.In (w : World) (x : Wop) : Prop where
  i : i64In x.i
  p : By w x.A x.n x.p
  n : x.n ≤ maxLen
  d : x.n ≤ x.d
  h : x.h.length = 32
theorem Wop.In.keep {w w' : World} {x : Wop} (h : x.In w) (hf : Fr [] w w') : x.In w' := ⟨h.i, h.p.keep hf (by simp), h.n, h.d, h.h⟩
structure Wtb.In (w : World) (x : Wtb) : Prop where
  i : i64In x.i
  l : Lst 4 Wdn.cells (fun _ v => v.Ok) w x.A x.n x.l
  n : x.n ≤ maxLen
  d : x.n ≤ x.d
theorem Wtb.In.keep {w w' : World} {x : Wtb} (h : x.In w) (hf : Fr [] w w') : x.In w' := ⟨h.i, h.l.keep' hf (by simp) (fun _ _ h => h), h.n, h.d⟩
theorem Wpr.In.keep {w w' : World} {x : Wpr} (h : x.In w) (hf : Fr [] w w') : x.In w' := ⟨h.r, h.e, h.t, h.l.keep' hf (by simp) (fun _ _ h => h.keep hf), h.n, h.d, h.b, h.m⟩
structure Wba.In (w : World) (x : Wba) : Prop where
  e : i64In x.e
  t : x.t < 18446744073709551616
  l : Lst 6 Wpr.cells (fun w v => v.In w) w x.A x.n x.l
  n : x.n ≤ maxLen
  l2 : Lst 34 Wop.cells (fun w v => v.In w) w x.A2 x.n2 x.l2
  n2 : x.n2 ≤ maxLen
  l3 : Lst 2 Wtb.cells (fun w v => v.In w) w x.A3 x.n3 x.l3
  n3 : x.n3 ≤ maxLen
theorem Wba.In.keep {w w' : World} {x : Wba} (h : x.In w) (hf : Fr [] w w') : x.In w' :=
  ⟨h.e, h.t, h.l.keep' hf (by simp) (fun _ _ h => h.keep hf), h.n, h.l2.keep' hf (by simp) (fun _ _ h => h.keep hf), h.n2, h.l3.keep' hf (by simp) (fun _ _ h => h.keep hf), h.n3⟩
/-- a proposal that comes in -/
structure Wpo.In (w : World) (x : Wpo) : Prop where
  e : i64In x.e
  r : i64In x.r
  v : i64In x.v
  p : i64In x.p
  k : x.k.In w
  b : i64In x.b
  m : i64In x.m
def zeroBa : Array Value := (Wba.cells ⟨0, 0, none, 0, 0, [], none, 0, 0, [], none, 0, 0, []⟩).toArray

set_option maxHeartbeats 8000000 in
theorem batchCut4_any (x : Wba) (w : World) (hx : x.In w) (C : List Value) (hC : x.cells = C) :
    Calls Tryd.prog 5 #[.agg C.toArray] w fun e w' => ∃ y : Wba, e = .returned y.val ∧ (∀ S0 : List Nat, (∀ k ∈ S0, k < w.heap.size) → y.Ok w' S0) ∧ Fr [] w w' ∧ y.n2 ≤ 4 ∧ y.n3 ≤ 4 := by
  obtain ⟨wa, hwa⟩ : ∃ wa, wa = (w.alloc (Obj.cells C.toArray 27)).alloc (Obj.cells zeroBa 27) := ⟨_, rfl⟩
  have hf0 : Fr [] w wa := by rw [hwa]; exact ((Fr.refl [] w).alloc _).alloc _
  have hb0 : Blk wa w.heap.size 27 x.cells.toArray := by rw [hwa, hC]; exact blk_alloc (Blk.new _ _ _)
  have hb1 : Blk wa (w.heap.size + 1) 27 zeroBa := by
    have := Blk.new (w.alloc (Obj.cells C.toArray 27)) 27 zeroBa
    rw [hwa]
    simpa using this
  have HC2 : Hid (wa.cell? ⟨w.heap.size, 2, none⟩ = some (.slice x.A x.n x.d)) := Lib.hid (by have h := hb0.range (cs := x.cells) 2 _ rfl; simpa using h)
  have HC3 : Hid (wa.cell? ⟨w.heap.size, 3, none⟩ = some (.slice x.A2 x.n2 x.d2)) := Lib.hid (by have h := hb0.range (cs := x.cells) 3 _ rfl; simpa using h)
  have HC4 : Hid (wa.cell? ⟨w.heap.size, 4, none⟩ = some (.slice x.A3 x.n3 x.d3)) := Lib.hid (by have h := hb0.range (cs := x.cells) 4 _ rfl; simpa using h)
  have HB0 := Lib.hid hb0
  have HB1 := Lib.hid hb1
  have HF0 := Lib.hid hf0
  have HWA := Lib.hid hwa
  have HX := Lib.hid hx
  have HSZ : Hid (w.heap.size + 2 ≤ wa.heap.size) := Lib.hid (by have := hb1.lt; omega)
  have hn1 := hx.n
  have hn2 := hx.n2
  have hn3 := hx.n3
  unfold maxLen at hn1 hn2 hn3
  have HFA : Hid (Fr [] wa wa) := Lib.hid (Fr.refl _ _)
  clear hwa hf0 hb0 hb1 hx hC
  go_enter Tryd.func5, Tryd.ntmps5
  go_upto_region 1 with (fail)
  change Code.wp _ _ _ _ ((w.alloc (Obj.cells C.toArray 27)).alloc (Obj.cells zeroBa 27))
  rw [← HWA.out]
  go_upto_block 0 with (fail)
  go_cut [3, 4] (fun s _ wx => ∃ (m : Nat) (A4 : Option Addr) (c4 : Nat) (ys : List Wpr), m ≤ 4 ∧ s = .slice A4 m c4 ∧ ys.length = m ∧ Hid (wx.ownsRow wa.heap.size 49 6 (.slice A4 m c4) m (ys.flatMap Wpr.cells)) ∧ Hid (∀ y ∈ ys, ∀ S0, (∀ q ∈ S0, q < wa.heap.size ∨ q ∈ bk A4) → y.Ok wx S0) ∧ Hid (Fr [] wa wx))
  case first =>
    have hc := HFA.out.cell HC2.out (by simp)
    go_wp2_with fail
    clear hc
    go_loopw [3, 4] (fun s i wr => (∃ (m : Nat) (A4 : Option Addr) (c4 : Nat) (ys : List Wpr), m ≤ 4 ∧ s = .slice A4 m c4 ∧ ys.length = m ∧ Hid (wr.ownsRow wa.heap.size 49 6 (.slice A4 m c4) m (ys.flatMap Wpr.cells)) ∧ Hid (∀ y ∈ ys, ∀ S0, (∀ q ∈ S0, q < wa.heap.size ∨ q ∈ bk A4) → y.Ok wr S0) ∧ Hid (Fr [] wa wr)) ∧ ∃ k : Nat, k ≤ x.n ∧ k ≤ 4 ∧ i = .int .i64 k ∧ ∃ A c, s = .slice A k c) (fun _ i _ => 4 - (intOf i).toNat)
    case atStart => exact ⟨⟨0, none, 0, [], by omega, rfl, rfl, Lib.hid ⟨by simp, .inl ⟨rfl, rfl⟩⟩, Lib.hid (by simp), Lib.hid (Fr.refl _ _)⟩, 0, by omega, by omega, rfl, _, _, rfl⟩
    case round =>
      obtain ⟨⟨k, A4, c4, ys, -, rfl, hyl, HO, HYS, HF⟩, k', hk, hk4, rfl, A', c', he⟩ := hrel
      obtain ⟨rfl, hkk, rfl⟩ : A4 = A' ∧ k = k' ∧ c4 = c' := by injection he with h1 h2 h3; exact ⟨h1, h2, h3⟩
      subst hkk
      clear he
      have HFR : Hid (Fr [] wa wr) := Lib.hid (HFA.out.and HF.out (by simp))
      have hc := HFR.out.cell HC2.out (by simp)
      have HLT : Hid (∀ q ∈ bk A4, q < wr.heap.size) := Lib.hid (fun q hq => own_lt HO.out q (by rw [bk_mem]; exact hq))
      by_cases hlt : k < x.n ∧ k < 4
      · obtain ⟨hkn, hk2⟩ := hlt
        obtain ⟨ad, v, hA, hv, hcl, hok, hcells⟩ := HX.out.l.at (i := k) hkn
        rw [hA] at hc
        have HCELLS : Hid (∀ j u, v.cells[j]? = some u → wr.cell? ((ad.add (k * 6)).add j) = some u) := Lib.hid (fun j u hj => HFR.out.cell (HF0.out.cell (hcells j u hj) (by simp)) (by simp))
        have HCLN := Lib.hid hcl
        have HIN := Lib.hid ((hok.keep HF0.out).keep HFR.out)
        have hk0 : (0 : Int) ≤ k := by omega
        have HONE := Lib.hid (Wpr.one v)
        clear hcells hcl hok hv hA
        generalize hC : v.cells = CV at *
        have HCV := Lib.hid hC
        clear hC
        go_wp2_with (first | (refine wpList_cells rfl 49 _ rfl _ rfl CV HCELLS.out (row_prm.of HCLN.out) ?_))
        rw [← HCV.out]
        refine (promiseCut_any v wr HIN.out.r HIN.out.e HIN.out.t HIN.out.b HIN.out.m HIN.out.l HIN.out.n).mono ?_
        rintro e w4 ⟨A1, d1, zs, rfl, hokN, -, hf1⟩
        generalize hy : (⟨v.r, v.e, v.t, A1, (v.l.take 3).length, d1, zs, v.b, v.m⟩ : Wpr) = y at *
        have HFX : Hid (Fr [] wr w4) := Lib.hid hf1
        have HNW : Hid (∀ S0, (∀ q ∈ S0, q < wa.heap.size ∨ q ∈ bk A4) → y.Ok w4 S0) := Lib.hid (fun S0 h0 => hokN S0 (fun q hq => by
          rcases h0 q hq with h | h
          · have := HF.out.size; omega
          · exact HLT.out q h))
        have hD : y.cells.length = 6 := Wpr.len y
        have hD1 := Wpr.one y
        obtain ⟨D, hDY⟩ : ∃ D, D = y.cells := ⟨_, rfl⟩
        rw [← hDY] at hD hD1 ⊢
        have HD := Lib.hid hD
        have HD1 := Lib.hid hD1
        have HDY := Lib.hid hDY
        have HO4 := Lib.hid (own_keep HO.out hf1 (by simp))
        clear hokN hf1 hy hD hD1 hDY hc HO
        go_wp2_with (first | (refine wpList_build_one rfl 23 49 _ rfl Tryd.underlying23 D 64 (by rw [HD.out]; exact el_prm) rfl (by rw [HD.out]; decide) (by rw [HD.out]; decide) ?_) | (at_builtin; refine Stop.mk ?_))
        refine Stop.go ?_
        refine wpList_append_one2 rfl _ _ 23 49 rfl Tryd.underlying23 6 64 el_prm (by decide) wa.heap.size (.slice A4 k c4) k _ D rfl (HO4.out.alloc _) (by have h1 := HF.out.size; have h2 := HFX.out.size; simp; omega) HD.out HD1.out w4.heap.size 49 rfl (Blk.new _ _ _) (by omega) (by decide) ?_
        intro A9 c9 w9 ho9 hf9 hb9
        have HO9 := Lib.hid ho9
        have HF9 : Hid (Fr (bk A4) (w4.alloc (Obj.cells D.toArray 49)) w9) := Lib.hid (by rw [← bk_own A4 k c4]; exact hf9)
        have HB9 : Hid (∀ q ∈ bk A9, q ∈ bk A4 ∨ w4.heap.size ≤ q) := Lib.hid (by
          intro q hq
          rw [← bk_own A9 (k + 1) c9] at hq
          rcases hb9 with h | h
          · rw [h, bk_own] at hq; exact .inl hq
          · rw [h] at hq; simp at hq; exact .inr (by omega))
        clear ho9 hf9 hb9
        go_wp2
        go_roundw
        case rel =>
          refine ⟨⟨k + 1, A9, c9, ys ++ [y], by omega, rfl, by simp [hyl], ?_, ?_, ?_⟩, k + 1, by omega, by omega, by go_num, _, _, rfl⟩
          · refine Lib.hid ?_
            rw [List.flatMap_append, List.flatMap_singleton, ← HDY.out]
            exact HO9.out
          · refine Lib.hid (fun u hu => ?_)
            have hsz := HFX.out.size
            have hfb : Fr (bk A4) w4 w9 := (((Fr.refl [] w4).alloc _).mono (by simp)).trans HF9.out (fun y hy _ => hy)
            rcases List.mem_append.1 hu with hu | hu
            · exact keepAll (ok := fun w S x => Wpr.Ok w S x) (fun h f s => h.keep f s) ((HFX.out.mono (by simp)).trans hfb (fun y hy _ => hy)) (fun q hq => (HB9.out q hq).imp id (fun h => by omega)) (HYS.out u hu)
            · rw [List.mem_singleton.1 hu]
              exact keepAll (ok := fun w S x => Wpr.Ok w S x) (fun h f s => h.keep f s) hfb HB9.out HNW.out
          · exact Lib.hid (((HF.out.and HFX.out (by simp)).alloc _).and HF9.out (fun q hq => (HO4.out.lt q (by rw [bk_mem]; exact hq)).1))
        case measure => simp [intOf]; omega
      · have hkx : (x.n : Int) ≤ k ∨ (4 : Int) ≤ k := by omega
        rcases hkx with hkx | hkx
        all_goals
          go_wp2_with fail
          all_goals
            go_meet
            exact ⟨k, A4, c4, ys, hk4, rfl, hyl, HO, HYS, HF⟩
  case rest =>
    obtain ⟨mp, Ap, cp, ysp, hmp, rfl, hlp, HOp, HQp, HFX1⟩ := hcut
    rename World => wb
    go_upto_block 2 with (fail)
    go_cut [5, 6] (fun s _ wx => ∃ (m : Nat) (A4 : Option Addr) (c4 : Nat) (ys : List Wop), m ≤ 4 ∧ s = .slice A4 m c4 ∧ ys.length = m ∧ Hid (wx.ownsRow wb.heap.size 34 34 (.slice A4 m c4) m (ys.flatMap Wop.cells)) ∧ Hid (∀ y ∈ ys, ∀ S0, (∀ q ∈ S0, q < wb.heap.size ∨ q ∈ bk A4) → y.Ok wx S0) ∧ Hid (Fr [] wb wx))
    case first =>
      have hc := HFX1.out.cell HC3.out (by simp)
      go_wp2_with fail
      clear hc
      go_loopw [5, 6] (fun s i wr => (∃ (m : Nat) (A4 : Option Addr) (c4 : Nat) (ys : List Wop), m ≤ 4 ∧ s = .slice A4 m c4 ∧ ys.length = m ∧ Hid (wr.ownsRow wb.heap.size 34 34 (.slice A4 m c4) m (ys.flatMap Wop.cells)) ∧ Hid (∀ y ∈ ys, ∀ S0, (∀ q ∈ S0, q < wb.heap.size ∨ q ∈ bk A4) → y.Ok wr S0) ∧ Hid (Fr [] wb wr)) ∧ ∃ k : Nat, k ≤ x.n2 ∧ k ≤ 4 ∧ i = .int .i64 k ∧ ∃ A c, s = .slice A k c) (fun _ i _ => 4 - (intOf i).toNat)
      case atStart => exact ⟨⟨0, none, 0, [], by omega, rfl, rfl, Lib.hid ⟨by simp, .inl ⟨rfl, rfl⟩⟩, Lib.hid (by simp), Lib.hid (Fr.refl _ _)⟩, 0, by omega, by omega, rfl, _, _, rfl⟩
      case round =>
        obtain ⟨⟨k, A4, c4, ys, -, rfl, hyl, HO, HYS, HF⟩, k', hk, hk4, rfl, A', c', he⟩ := hrel
        obtain ⟨rfl, hkk, rfl⟩ : A4 = A' ∧ k = k' ∧ c4 = c' := by injection he with h1 h2 h3; exact ⟨h1, h2, h3⟩
        subst hkk
        clear he
        have HFR : Hid (Fr [] wa wr) := Lib.hid (HFX1.out.and HF.out (by simp))
        have hc := HFR.out.cell HC3.out (by simp)
        have HLT : Hid (∀ q ∈ bk A4, q < wr.heap.size) := Lib.hid (fun q hq => own_lt HO.out q (by rw [bk_mem]; exact hq))
        by_cases hlt : k < x.n2 ∧ k < 4
        · obtain ⟨hkn, hk2⟩ := hlt
          obtain ⟨ad, v, hA, hv, hcl, hok, hcells⟩ := HX.out.l2.at (i := k) hkn
          rw [hA] at hc
          have HCELLS : Hid (∀ j u, v.cells[j]? = some u → wr.cell? ((ad.add (k * 34)).add j) = some u) := Lib.hid (fun j u hj => HFR.out.cell (HF0.out.cell (hcells j u hj) (by simp)) (by simp))
          have HCLN := Lib.hid hcl
          have HIN := Lib.hid ((hok.keep HF0.out).keep HFR.out)
          have hk0 : (0 : Int) ≤ k := by omega
          have HONE := Lib.hid (Wop.one v)
          have HC1V : Hid (v.cells[1]? = some (.slice v.A v.n v.d)) := Lib.hid rfl
          clear hcells hcl hok hv hA
          generalize hC : v.cells = CV at *
          have HCV := Lib.hid hC
          clear hC
          have hsz0 : (Tryd.prog.info? 34).map (·.size) = some CV.toArray.size := by rw [List.size_toArray, HCLN.out]; kernel_rfl
          have HSZ0 := Lib.hid hsz0
          have HCS : Hid (CV.toArray.size = 34) := Lib.hid (by rw [List.size_toArray]; exact HCLN.out)
          clear hsz0
          go_wp2_with (first
            | (refine wpList_cells rfl 34 _ rfl _ rfl CV HCELLS.out (row_opn.of HCLN.out) ?_)
            | (refine wpList_store_blk rfl 34 _ _ rfl wr.heap.size CV.toArray rfl rfl 34 _ (Blk.new wr _ _) HSZ0.out (by rw [HCS.out]; rfl) (all_oneCell_toArray HONE.out) ?_
               intro w2 hb2 hf2
               have HB2 := Lib.hid hb2
               have HF2 : Hid (Fr [] wr w2) := Lib.hid (((Fr.refl [] wr).alloc _).and hf2 (by simp))
               have hc2 : w2.cell? ⟨wr.heap.size, 1, none⟩ = some (.slice v.A v.n v.d) := (by rw [hb2.cell 1, List.getElem?_toArray]; exact HC1V.out)
               clear hb2 hf2))
          rw [show (260 : Int) = ((260 : Nat) : Int) from rfl]
          refine (cut_any v.A v.n v.d 260 v.p w2 (HIN.out.p.keep HF2.out (by simp)) HIN.out.n HIN.out.d (by decide)).mono ?_
          rintro e w3 ⟨A1, d1, rfl, hN⟩
          have hmt : (v.p.take 260).length ≤ 260 := List.length_take_le _ _
          generalize hm : (v.p.take 260).length = m at *
          have HM := Lib.hid hmt
          have HMT : Hid ((v.p.take 260).length = m) := Lib.hid hm
          have hb3 := HB2.out.keep hN.2.1 (by simp)
          have hz := hb3.frozen 1
          have hc3 := hN.2.1.cell hc2 (by simp)
          have hset : CV.toArray.setIfInBounds 1 (.slice A1 m d1) = (⟨v.i, A1, m, d1, v.p.take 260, v.h⟩ : Wop).cells.toArray := by rw [← HCV.out]; rfl
          have hb4 := hb3.set 1 (.slice A1 m d1)
          rw [hset] at hb4
          have hf4 : Fr [wr.heap.size] w3 (w3.setCell ⟨wr.heap.size, 1, none⟩ (.slice A1 m d1)) := (Fr.refl _ w3).setCell _ (fun _ => by simp) _
          have HBLT : Hid (wr.heap.size < w2.heap.size) := Lib.hid HB2.out.lt
          have HN := Lib.hid hN
          have HF4 := Lib.hid hf4
          have HLT2 : Hid (∀ q ∈ bk A1, w2.heap.size ≤ q) := Lib.hid hN.2.2
          have hD : (⟨v.i, A1, m, d1, v.p.take 260, v.h⟩ : Wop).cells.length = 34 := Wop.len HIN.out.h
          have hD1 := Wop.one (⟨v.i, A1, m, d1, v.p.take 260, v.h⟩ : Wop)
          obtain ⟨y, hy⟩ : ∃ y, y = (⟨v.i, A1, m, d1, v.p.take 260, v.h⟩ : Wop) := ⟨_, rfl⟩
          rw [← hy] at hD hD1 hb4
          obtain ⟨D, hDY⟩ : ∃ D, D = y.cells := ⟨_, rfl⟩
          rw [← hDY] at hD hD1 hb4
          have HD := Lib.hid hD
          have HD1 := Lib.hid hD1
          have HDY := Lib.hid hDY
          have HYE := Lib.hid hy
          have HSZD : Hid ((Tryd.prog.info? 34).map (·.size) = some D.toArray.size) := Lib.hid (by rw [List.size_toArray, hD]; kernel_rfl)
          have HB4 := Lib.hid hb4
          clear hN hmt hset hb4 hf4 hD hD1 hy hDY hc2 hb3 hc hm
          go_wp2_with (first | (refine wpList_load_row rfl 34 _ rfl wr.heap.size rfl 34 D.toArray _ _ HB4.out Tryd.underlying34 rfl HSZD.out ?_) | (refine wpList_build_one rfl 24 34 _ rfl Tryd.underlying24 D 64 (by rw [HD.out]; exact el_opn) rfl (by rw [HD.out]; decide) (by rw [HD.out]; decide) ?_) | (at_builtin; refine Stop.mk ?_))
          have hs34 : (w3.setCell ⟨wr.heap.size, 1, none⟩ (.slice A1 m d1)).heap.size = w3.heap.size := by simp
          generalize w3.setCell ⟨wr.heap.size, 1, none⟩ (.slice A1 m d1) = w4 at *
          have HFX : Hid (Fr [] wr w4) := Lib.hid ((HF2.out.and HN.out.2.1 (by simp)).and HF4.out (by simp))
          have HO4 := Lib.hid (own_keep HO.out HFX.out (by simp))
          have HNW : Hid (∀ S0, (∀ q ∈ S0, q < wb.heap.size ∨ q ∈ bk A4) → y.Ok w4 S0) := Lib.hid (by
            intro S0 h0
            rw [HYE.out]
            refine ⟨HIN.out.i, (NewB.by HN.out).keep HF4.out (fun a ha hin => ?_), HM.out, fun q hq hin => ?_, fun q hq => ?_, HIN.out.h, NewB.cap HN.out⟩
            · have h1 := HLT2.out a.block (by rw [ha]; simp [bk])
              have h2 := HBLT.out
              rw [List.mem_singleton.1 hin] at h1
              omega
            · have h1 := HLT2.out q hq
              have h2 := HBLT.out
              rcases h0 q hin with h | h
              · have := HF.out.size; omega
              · have := HLT.out q h; omega
            · exact Nat.lt_of_lt_of_le (NewB.lt HN.out q hq) HF4.out.size)
          clear HO hc3 hz
          refine Stop.go ?_
          refine wpList_append_one2 rfl _ _ 24 34 rfl Tryd.underlying24 34 64 el_opn (by decide) wb.heap.size (.slice A4 k c4) k _ D rfl (HO4.out.alloc _) (by have h1 := HF.out.size; have h2 := HFX.out.size; simp; omega) HD.out HD1.out w3.heap.size 34 rfl (hs34 ▸ Blk.new w4 34 D.toArray) (by omega) (by decide) ?_
          intro A9 c9 w9 ho9 hf9 hb9
          have HO9 := Lib.hid ho9
          have HF9 : Hid (Fr (bk A4) (w4.alloc (Obj.cells D.toArray 34)) w9) := Lib.hid (by rw [← bk_own A4 k c4]; exact hf9)
          have HB9 : Hid (∀ q ∈ bk A9, q ∈ bk A4 ∨ w4.heap.size ≤ q) := Lib.hid (by
            intro q hq
            rw [← bk_own A9 (k + 1) c9] at hq
            rcases hb9 with h | h
            · rw [h, bk_own] at hq; exact .inl hq
            · rw [h] at hq; simp at hq; exact .inr (by omega))
          clear ho9 hf9 hb9
          go_wp2
          go_roundw
          case rel =>
            refine ⟨⟨k + 1, A9, c9, ys ++ [y], by omega, rfl, by simp [hyl], ?_, ?_, ?_⟩, k + 1, by omega, by omega, by go_num, _, _, rfl⟩
            · refine Lib.hid ?_
              rw [List.flatMap_append, List.flatMap_singleton, ← HDY.out]
              exact HO9.out
            · refine Lib.hid (fun u hu => ?_)
              have hsz := HFX.out.size
              have hfb : Fr (bk A4) w4 w9 := (((Fr.refl [] w4).alloc _).mono (by simp)).trans HF9.out (fun y hy _ => hy)
              rcases List.mem_append.1 hu with hu | hu
              · exact keepAll (ok := fun w S x => Wop.Ok w S x) (fun h f s => h.keep f s) ((HFX.out.mono (by simp)).trans hfb (fun y hy _ => hy)) (fun q hq => (HB9.out q hq).imp id (fun h => by omega)) (HYS.out u hu)
              · rw [List.mem_singleton.1 hu]
                exact keepAll (ok := fun w S x => Wop.Ok w S x) (fun h f s => h.keep f s) hfb HB9.out HNW.out
            · exact Lib.hid (((HF.out.and HFX.out (by simp)).alloc _).and HF9.out (fun q hq => (HO4.out.lt q (by rw [bk_mem]; exact hq)).1))
          case measure => simp [intOf]; omega
        · have hkx : (x.n2 : Int) ≤ k ∨ (4 : Int) ≤ k := by omega
          rcases hkx with hkx | hkx
          all_goals
            go_wp2_with fail
            all_goals
              go_meet
              exact ⟨k, A4, c4, ys, hk4, rfl, hyl, HO, HYS, HF⟩
    case rest =>
      obtain ⟨mq, Aq, cq, ysq, hmq, rfl, hlq, HOq, HQq, HFq⟩ := hcut
      have HFY : Hid (Fr [] wa wc) := Lib.hid (HFX1.out.and HFq.out (by simp))
      have HOp := Lib.hid (own_keep HOp.out HFq.out (by simp))
      have HQp : Hid (∀ y ∈ ysp, ∀ S0, (∀ q ∈ S0, q < wa.heap.size ∨ q ∈ bk Ap) → y.Ok wc S0) := Lib.hid (fun y hy => keepAll (ok := fun w S x => Wpr.Ok w S x) (fun h f s => h.keep f s) (HFq.out.mono (by simp)) (fun q hq => .inl hq) (HQp.out y hy))
      skip
      rename World => wd
      go_upto_block 4 with (fail)
      go_cut [8, 9] (fun s _ wx => ∃ (m : Nat) (A4 : Option Addr) (c4 : Nat) (ys : List Wtb), m ≤ 4 ∧ s = .slice A4 m c4 ∧ ys.length = m ∧ Hid (wx.ownsRow wd.heap.size 37 2 (.slice A4 m c4) m (ys.flatMap Wtb.cells)) ∧ Hid (∀ y ∈ ys, ∀ S0, (∀ q ∈ S0, q < wd.heap.size ∨ q ∈ bk A4) → y.Ok wx S0) ∧ Hid (Fr [] wd wx))
      case first =>
        have hc := HFY.out.cell HC4.out (by simp)
        go_wp2_with fail
        clear hc
        go_loopw [8, 9] (fun s i wr => (∃ (m : Nat) (A4 : Option Addr) (c4 : Nat) (ys : List Wtb), m ≤ 4 ∧ s = .slice A4 m c4 ∧ ys.length = m ∧ Hid (wr.ownsRow wd.heap.size 37 2 (.slice A4 m c4) m (ys.flatMap Wtb.cells)) ∧ Hid (∀ y ∈ ys, ∀ S0, (∀ q ∈ S0, q < wd.heap.size ∨ q ∈ bk A4) → y.Ok wr S0) ∧ Hid (Fr [] wd wr)) ∧ ∃ k : Nat, k ≤ x.n3 ∧ k ≤ 4 ∧ i = .int .i64 k ∧ ∃ A c, s = .slice A k c) (fun _ i _ => 4 - (intOf i).toNat)
        case atStart => exact ⟨⟨0, none, 0, [], by omega, rfl, rfl, Lib.hid ⟨by simp, .inl ⟨rfl, rfl⟩⟩, Lib.hid (by simp), Lib.hid (Fr.refl _ _)⟩, 0, by omega, by omega, rfl, _, _, rfl⟩
        case round =>
          obtain ⟨⟨k, A4, c4, ys, -, rfl, hyl, HO, HYS, HF⟩, k', hk, hk4, rfl, A', c', he⟩ := hrel
          obtain ⟨rfl, hkk, rfl⟩ : A4 = A' ∧ k = k' ∧ c4 = c' := by injection he with h1 h2 h3; exact ⟨h1, h2, h3⟩
          subst hkk
          clear he
          have HFR : Hid (Fr [] wa wr) := Lib.hid (HFY.out.and HF.out (by simp))
          have hc := HFR.out.cell HC4.out (by simp)
          have HLT : Hid (∀ q ∈ bk A4, q < wr.heap.size) := Lib.hid (fun q hq => own_lt HO.out q (by rw [bk_mem]; exact hq))
          by_cases hlt : k < x.n3 ∧ k < 4
          · obtain ⟨hkn, hk2⟩ := hlt
            obtain ⟨ad, v, hA, hv, hcl, hok, hcells⟩ := HX.out.l3.at (i := k) hkn
            rw [hA] at hc
            have HCELLS : Hid (∀ j u, v.cells[j]? = some u → wr.cell? ((ad.add (k * 2)).add j) = some u) := Lib.hid (fun j u hj => HFR.out.cell (HF0.out.cell (hcells j u hj) (by simp)) (by simp))
            have HCLN := Lib.hid hcl
            have HIN := Lib.hid ((hok.keep HF0.out).keep HFR.out)
            have hk0 : (0 : Int) ≤ k := by omega
            have HONE := Lib.hid (Wtb.one v)
            have HC1V : Hid (v.cells[1]? = some (.slice v.A v.n v.d)) := Lib.hid rfl
            clear hcells hcl hok hv hA
            generalize hC : v.cells = CV at *
            have HCV := Lib.hid hC
            clear hC
            have hsz0 : (Tryd.prog.info? 37).map (·.size) = some CV.toArray.size := by rw [List.size_toArray, HCLN.out]; kernel_rfl
            have HSZ0 := Lib.hid hsz0
            have HCS : Hid (CV.toArray.size = 2) := Lib.hid (by rw [List.size_toArray]; exact HCLN.out)
            clear hsz0
            go_wp2_with (first
              | (refine wpList_cells rfl 37 _ rfl _ rfl CV HCELLS.out (row_tmb.of HCLN.out) ?_)
              | (refine wpList_store_blk rfl 37 _ _ rfl wr.heap.size CV.toArray rfl rfl 37 _ (Blk.new wr _ _) HSZ0.out (by rw [HCS.out]; rfl) (all_oneCell_toArray HONE.out) ?_
                 intro w2 hb2 hf2
                 have HB2 := Lib.hid hb2
                 have HF2 : Hid (Fr [] wr w2) := Lib.hid (((Fr.refl [] wr).alloc _).and hf2 (by simp))
                 have hc2 : w2.cell? ⟨wr.heap.size, 1, none⟩ = some (.slice v.A v.n v.d) := (by rw [hb2.cell 1, List.getElem?_toArray]; exact HC1V.out)
                 clear hb2 hf2))
            rw [show (5 : Int) = ((5 : Nat) : Int) from rfl]
            refine (cutDenies_any v.A v.n v.d 5 v.l w2 (HIN.out.l.keep' HF2.out (by simp) (fun _ _ h => h)) HIN.out.n HIN.out.d (by decide)).mono ?_
            rintro e w3 ⟨A1, d1, rfl, hN⟩
            have hmt : (v.l.take 5).length ≤ 5 := List.length_take_le _ _
            generalize hm : (v.l.take 5).length = m at *
            have HM := Lib.hid hmt
            have HMT : Hid ((v.l.take 5).length = m) := Lib.hid hm
            have hb3 := HB2.out.keep hN.2.1 (by simp)
            have hz := hb3.frozen 1
            have hc3 := hN.2.1.cell hc2 (by simp)
            have hset : CV.toArray.setIfInBounds 1 (.slice A1 m d1) = (⟨v.i, A1, m, d1, v.l.take 5⟩ : Wtb).cells.toArray := by rw [← HCV.out]; rfl
            have hb4 := hb3.set 1 (.slice A1 m d1)
            rw [hset] at hb4
            have hf4 : Fr [wr.heap.size] w3 (w3.setCell ⟨wr.heap.size, 1, none⟩ (.slice A1 m d1)) := (Fr.refl _ w3).setCell _ (fun _ => by simp) _
            have HBLT : Hid (wr.heap.size < w2.heap.size) := Lib.hid HB2.out.lt
            have HN := Lib.hid hN
            have HF4 := Lib.hid hf4
            have HLT2 : Hid (∀ q ∈ bk A1, w2.heap.size ≤ q) := Lib.hid hN.2.2
            have hD : (⟨v.i, A1, m, d1, v.l.take 5⟩ : Wtb).cells.length = 2 := rfl
            have hD1 := Wtb.one (⟨v.i, A1, m, d1, v.l.take 5⟩ : Wtb)
            obtain ⟨y, hy⟩ : ∃ y, y = (⟨v.i, A1, m, d1, v.l.take 5⟩ : Wtb) := ⟨_, rfl⟩
            rw [← hy] at hD hD1 hb4
            obtain ⟨D, hDY⟩ : ∃ D, D = y.cells := ⟨_, rfl⟩
            rw [← hDY] at hD hD1 hb4
            have HD := Lib.hid hD
            have HD1 := Lib.hid hD1
            have HDY := Lib.hid hDY
            have HYE := Lib.hid hy
            have HSZD : Hid ((Tryd.prog.info? 37).map (·.size) = some D.toArray.size) := Lib.hid (by rw [List.size_toArray, hD]; kernel_rfl)
            have HB4 := Lib.hid hb4
            clear hN hmt hset hb4 hf4 hD hD1 hy hDY hc2 hb3 hc hm
            go_wp2_with (first | (refine wpList_load_row rfl 37 _ rfl wr.heap.size rfl 37 D.toArray _ _ HB4.out Tryd.underlying37 rfl HSZD.out ?_) | (refine wpList_build_one rfl 25 37 _ rfl Tryd.underlying25 D 32 (by rw [HD.out]; exact el_tomb) rfl (by rw [HD.out]; decide) (by rw [HD.out]; decide) ?_) | (at_builtin; refine Stop.mk ?_))
            have hs34 : (w3.setCell ⟨wr.heap.size, 1, none⟩ (.slice A1 m d1)).heap.size = w3.heap.size := by simp
            generalize w3.setCell ⟨wr.heap.size, 1, none⟩ (.slice A1 m d1) = w4 at *
            have HFX : Hid (Fr [] wr w4) := Lib.hid ((HF2.out.and HN.out.2.1 (by simp)).and HF4.out (by simp))
            have HO4 := Lib.hid (own_keep HO.out HFX.out (by simp))
            have HNW : Hid (∀ S0, (∀ q ∈ S0, q < wd.heap.size ∨ q ∈ bk A4) → y.Ok w4 S0) := Lib.hid (by
              intro S0 h0
              rw [HYE.out]
              refine ⟨HIN.out.i, (Lst.of_own (ok := fun (_ : World) (v : Wdn) => v.Ok) HN.out.1 HMT.out (fun u hu => HIN.out.l.2.1 u (List.mem_of_mem_take hu))).keep' (S := [wr.heap.size]) HF4.out (fun _ a ha hin => ?_) (fun _ _ h => h), HM.out, fun _ a ha hin => ?_⟩
              · have ha : A1 = some a := ha
                have h1 := HLT2.out a.block (by rw [ha]; simp [bk])
                have h2 := HBLT.out
                rw [List.mem_singleton.1 hin] at h1
                omega
              · have ha : A1 = some a := ha
                have h1 := HLT2.out a.block (by rw [ha]; simp [bk])
                have h2 := HBLT.out
                rcases h0 a.block hin with h | h
                · have := HF.out.size; omega
                · have := HLT.out a.block h; omega)
            clear HO hc3 hz
            refine Stop.go ?_
            refine wpList_append_one2 rfl _ _ 25 37 rfl Tryd.underlying25 2 32 el_tomb (by decide) wd.heap.size (.slice A4 k c4) k _ D rfl (HO4.out.alloc _) (by have h1 := HF.out.size; have h2 := HFX.out.size; simp; omega) HD.out HD1.out w3.heap.size 37 rfl (hs34 ▸ Blk.new w4 37 D.toArray) (by omega) (by decide) ?_
            intro A9 c9 w9 ho9 hf9 hb9
            have HO9 := Lib.hid ho9
            have HF9 : Hid (Fr (bk A4) (w4.alloc (Obj.cells D.toArray 37)) w9) := Lib.hid (by rw [← bk_own A4 k c4]; exact hf9)
            have HB9 : Hid (∀ q ∈ bk A9, q ∈ bk A4 ∨ w4.heap.size ≤ q) := Lib.hid (by
              intro q hq
              rw [← bk_own A9 (k + 1) c9] at hq
              rcases hb9 with h | h
              · rw [h, bk_own] at hq; exact .inl hq
              · rw [h] at hq; simp at hq; exact .inr (by omega))
            clear ho9 hf9 hb9
            go_wp2
            go_roundw
            case rel =>
              refine ⟨⟨k + 1, A9, c9, ys ++ [y], by omega, rfl, by simp [hyl], ?_, ?_, ?_⟩, k + 1, by omega, by omega, by go_num, _, _, rfl⟩
              · refine Lib.hid ?_
                rw [List.flatMap_append, List.flatMap_singleton, ← HDY.out]
                exact HO9.out
              · refine Lib.hid (fun u hu => ?_)
                have hsz := HFX.out.size
                have hfb : Fr (bk A4) w4 w9 := (((Fr.refl [] w4).alloc _).mono (by simp)).trans HF9.out (fun y hy _ => hy)
                rcases List.mem_append.1 hu with hu | hu
                · exact keepAll (ok := fun w S x => Wtb.Ok w S x) (fun h f s => h.keep f s) ((HFX.out.mono (by simp)).trans hfb (fun y hy _ => hy)) (fun q hq => (HB9.out q hq).imp id (fun h => by omega)) (HYS.out u hu)
                · rw [List.mem_singleton.1 hu]
                  exact keepAll (ok := fun w S x => Wtb.Ok w S x) (fun h f s => h.keep f s) hfb HB9.out HNW.out
              · exact Lib.hid (((HF.out.and HFX.out (by simp)).alloc _).and HF9.out (fun q hq => (HO4.out.lt q (by rw [bk_mem]; exact hq)).1))
            case measure => simp [intOf]; omega
          · have hkx : (x.n3 : Int) ≤ k ∨ (4 : Int) ≤ k := by omega
            rcases hkx with hkx | hkx
            all_goals
              go_wp2_with fail
              all_goals
                go_meet
                exact ⟨k, A4, c4, ys, hk4, rfl, hyl, HO, HYS, HF⟩
      case rest =>
        obtain ⟨mr, Ar, cr, ysr, hmr, rfl, hlr, HOr, HQr, HFr⟩ := hcut
        have HFZ : Hid (Fr [] wa wc) := Lib.hid (HFY.out.and HFr.out (by simp))
        have HOp := Lib.hid (own_keep HOp.out HFr.out (by simp))
        have HOq := Lib.hid (own_keep HOq.out HFr.out (by simp))
        have HQp : Hid (∀ y ∈ ysp, ∀ S0, (∀ q ∈ S0, q < wa.heap.size ∨ q ∈ bk Ap) → y.Ok wc S0) := Lib.hid (fun y hy => keepAll (ok := fun w S x => Wpr.Ok w S x) (fun h f s => h.keep f s) (HFr.out.mono (by simp)) (fun q hq => .inl hq) (HQp.out y hy))
        have HQq : Hid (∀ y ∈ ysq, ∀ S0, (∀ q ∈ S0, q < wb.heap.size ∨ q ∈ bk Aq) → y.Ok wc S0) := Lib.hid (fun y hy => keepAll (ok := fun w S x => Wop.Ok w S x) (fun h f s => h.keep f s) (HFr.out.mono (by simp)) (fun q hq => .inl hq) (HQq.out y hy))
        have hbx := HB0.out.keep HFZ.out (by simp)
        have hz2 := hbx.frozen 2
        have hz3 := hbx.frozen 3
        have hz4 := hbx.frozen 4
        have hc2 := HFZ.out.cell HC2.out (by simp)
        have hc3 := HFZ.out.cell HC3.out (by simp)
        have hc4 := HFZ.out.cell HC4.out (by simp)
        have hset : ((x.cells.toArray.setIfInBounds 2 (.slice Ap mp cp)).setIfInBounds 3 (.slice Aq mq cq)).setIfInBounds 4 (.slice Ar mr cr) = (Wba.cells ⟨x.e, x.t, Ap, mp, cp, ysp, Aq, mq, cq, ysq, Ar, mr, cr, ysr⟩).toArray := rfl
        have hb2 := ((hbx.set 2 (.slice Ap mp cp)).set 3 (.slice Aq mq cq)).set 4 (.slice Ar mr cr)
        rw [hset] at hb2
        have hf2 : Fr [w.heap.size] wc (((wc.setCell ⟨w.heap.size, 2, none⟩ (.slice Ap mp cp)).setCell ⟨w.heap.size, 3, none⟩ (.slice Aq mq cq)).setCell ⟨w.heap.size, 4, none⟩ (.slice Ar mr cr)) := (((Fr.refl [w.heap.size] wc).setCell _ (fun _ => by simp) _).setCell _ (fun _ => by simp) _).setCell _ (fun _ => by simp) _
        have HB1S := Lib.hid ((HB1.out.keep HFZ.out (by simp)).keep hf2 (by simp))
        have HB2 := Lib.hid hb2
        have HF2 := Lib.hid hf2
        obtain ⟨y, hy⟩ : ∃ y : Wba, y = ⟨x.e, x.t, Ap, mp, cp, ysp, Aq, mq, cq, ysq, Ar, mr, cr, ysr⟩ := ⟨_, rfl⟩
        have HSZY : Hid ((Tryd.prog.info? 27).map (·.size) = some (Wba.cells ⟨x.e, x.t, Ap, mp, cp, ysp, Aq, mq, cq, ysq, Ar, mr, cr, ysr⟩).toArray.size) := Lib.hid (by kernel_rfl)
        have HALL : Hid ((Wba.cells ⟨x.e, x.t, Ap, mp, cp, ysp, Aq, mq, cq, ysq, Ar, mr, cr, ysr⟩).toArray.all (·.oneCell') = true) := Lib.hid (all_oneCell_toArray (Wba.one _))
        have HZP : Hid (zeroBa.size = (Wba.cells ⟨x.e, x.t, Ap, mp, cp, ysp, Aq, mq, cq, ysq, Ar, mr, cr, ysr⟩).toArray.size) := Lib.hid rfl
        rw [← hy] at HSZY HALL HZP HB2
        have HY := Lib.hid hy
        clear hbx hset hb2 hf2 hy
        generalize hCY : y.cells.toArray = CY at *
        have HCY := Lib.hid hCY
        clear hCY
        go_wp2_with (first
          | (refine wpList_load_row rfl 27 _ rfl w.heap.size rfl 27 CY _ _ HB2.out Tryd.underlying27 rfl HSZY.out ?_)
          | (refine wpList_store_blk rfl 27 _ _ rfl (w.heap.size + 1) CY rfl rfl 27 zeroBa HB1S.out HSZY.out HZP.out HALL.out ?_
             intro w3 hb3 hf3
             have HB3 := Lib.hid hb3
             have HF3 := Lib.hid hf3
             clear hb3 hf3))
        have HFa : Fr [w.heap.size, w.heap.size + 1] wc w3 := (HF2.out.mono (by intro k hk _; simp at hk; simp [hk])).trans HF3.out (by intro k hk _; simp at hk; simp [hk])
        have hsz := HSZ.out
        have hsb := HFX1.out.size
        have hsc := HFY.out.size
        refine bodyPost_ret (v := .agg CY) (results_cell_row Tryd.results5 _ _ (w.heap.size + 1) 27 CY _ _ rfl HB3.out Tryd.underlying27 rfl HSZY.out) rfl ⟨y, by rw [← HCY.out]; rfl, fun S0 hS0 => ?_, (HF0.out.and HFZ.out (by simp)).and HFa (fun k hk => by simp at hk; omega), by rw [HY.out]; exact hmq, by rw [HY.out]; exact hmr⟩
        have hS1 : ∀ (N : Nat) (B : List Nat), wa.heap.size ≤ N → ∀ q ∈ w.heap.size :: (w.heap.size + 1) :: S0, q < N ∨ q ∈ B := by
          intro N B hN q hq
          simp only [List.mem_cons] at hq
          rcases hq with h | h | h
          · exact .inl (by omega)
          · exact .inl (by omega)
          · have := hS0 q h; exact .inl (by omega)
        have hFb : Fr (w.heap.size :: (w.heap.size + 1) :: S0) wc w3 := HFa.mono (by intro k hk _; simp at hk; rcases hk with rfl | rfl <;> simp)
        have hin2 : ∀ k ∈ S0, k < wc.heap.size → k ∈ w.heap.size :: (w.heap.size + 1) :: S0 := fun k hk _ => by simp [hk]
        have hap : ∀ a : Addr, wa.heap.size ≤ a.block → ¬ a.block ∈ w.heap.size :: (w.heap.size + 1) :: S0 := by
          intro a ha hin
          simp only [List.mem_cons] at hin
          rcases hin with h | h | h
          · omega
          · omega
          · have := hS0 _ h; omega
        have bp : ∀ a, Ap = some a → wa.heap.size ≤ a.block := fun a ha => (HOp.out.lt a.block (by rw [bk_mem, ha]; simp [bk])).1
        have bq : ∀ a, Aq = some a → wa.heap.size ≤ a.block := fun a ha => by have := (HOq.out.lt a.block (by rw [bk_mem, ha]; simp [bk])).1; omega
        have br : ∀ a, Ar = some a → wa.heap.size ≤ a.block := fun a ha => by have := (HOr.out.lt a.block (by rw [bk_mem, ha]; simp [bk])).1; omega
        have ap0 : ∀ a : Addr, wa.heap.size ≤ a.block → ¬ a.block ∈ S0 := fun a ha hin => hap a ha (by simp [hin])
        have ap2 : ∀ a : Addr, wa.heap.size ≤ a.block → ¬ a.block ∈ [w.heap.size, w.heap.size + 1] := fun a ha hin => by simp at hin; omega
        rw [HY.out]
        refine ⟨HX.out.e, HX.out.t, ?_, hmp, fun _ a ha => ap0 a (bp a ha), ?_, Nat.le_trans hmq (by omega), fun _ a ha => ap0 a (bq a ha), ?_, Nat.le_trans hmr (by omega), fun _ a ha => ap0 a (br a ha)⟩
        · exact Lst.keep' (Lst.of_own (k := 6) (cells := Wpr.cells) (ok := fun (_ : World) (_ : Wpr) => True) HOp.out hlp (fun y hy => ⟨Wpr.len y, trivial⟩)) HFa (fun _ a ha => ap2 a (bp a ha)) (fun y hy _ => (HQp.out y hy _ (hS1 _ _ (Nat.le_refl _))).keep hFb hin2)
        · exact Lst.keep' (Lst.of_own (k := 34) (cells := Wop.cells) (ok := fun (_ : World) (_ : Wop) => True) HOq.out hlq (fun y hy => ⟨Wop.len (HQq.out y hy [] (by simp)).h, trivial⟩)) HFa (fun _ a ha => ap2 a (bq a ha)) (fun y hy _ => (HQq.out y hy _ (hS1 _ _ hsb)).keep hFb hin2)
        · exact Lst.keep' (Lst.of_own (k := 2) (cells := Wtb.cells) (ok := fun (_ : World) (_ : Wtb) => True) HOr.out hlr (fun y hy => ⟨rfl, trivial⟩)) HFa (fun _ a ha => ap2 a (br a ha)) (fun y hy _ => (HQr.out y hy _ (hS1 _ _ (by omega))).keep hFb hin2)
theorem batchCut_any (x : Wba) (w : World) (hx : x.In w) (C : List Value) (hC : x.cells = C) :
    Calls Tryd.prog 5 #[.agg C.toArray] w fun e w' => ∃ y : Wba, e = .returned y.val ∧ (∀ S0 : List Nat, (∀ k ∈ S0, k < w.heap.size) → y.Ok w' S0) ∧ Fr [] w w' :=
  (batchCut4_any x w hx C hC).mono fun _ _ ⟨y, h1, h2, h3, _⟩ => ⟨y, h1, h2, h3⟩
end Go.Proofs.YtjpmiigoglcoaaaDoor

namespace Go.Proofs.YtjpmiigoglcoaaaDoor
open Go.ChangeShapes Go.WideShapes Go.ChangeAt Go.RowKit
set_option maxRecDepth 100000
instance : Inhabited Wpr := ⟨⟨0, 0, 0, none, 0, 0, [], 0, 0⟩⟩
instance : Inhabited Wop := ⟨⟨0, none, 0, 0, [], []⟩⟩
instance : Inhabited Wtb := ⟨⟨0, none, 0, 0, []⟩⟩
theorem opening_of_trod {H : Type} {enc : TypeId × Value → H} {W : World} {sp : Nat → Bool} {held : Bool} {fuel : Nat} {cs : List Value} {x0 : DataW H × List MemPlace} (h : DataW.trod enc Tryd.prog W 0 sp held fuel 34 cs = some x0) :
    ∃ x : Wop, x.In W ∧ cs = x.cells := by
  obtain ⟨xs, m, _, _, hlen, hxl, hat⟩ := DataW.trod_struct Tryd.underlying34 h
  rw [show Tryd.prog.cellsOf 34 = 34 by kernel_rfl] at hlen
  have hx : ∀ i (hi : i < 3), xs[i]? = some (xs[i]'(by rw [hxl]; exact hi)) := fun i hi => List.getElem?_eq_getElem _
  have f0 : DataW.trod enc Tryd.prog W 0 sp held m 3 ((cs.drop 0).take (Tryd.prog.cellsOf 3)) = _ := (hat 0 _ rfl).trans (hx 0 (by omega))
  rw [show Tryd.prog.cellsOf 3 = 1 by kernel_rfl] at f0
  obtain ⟨a0, e0, _, w0⟩ := DataW.trod_int Tryd.underlying3 f0
  have f1 : DataW.trod enc Tryd.prog W 0 sp held m 30 ((cs.drop 1).take (Tryd.prog.cellsOf 30)) = _ := (hat 1 _ rfl).trans (hx 1 (by omega))
  rw [show Tryd.prog.cellsOf 30 = 1 by kernel_rfl] at f1
  obtain ⟨A1, n1, d1, e1⟩ := Go.Joins.slice_form Tryd.underlying30 f1
  rw [e1] at f1
  obtain ⟨l1, w1, m1, k1⟩ := by_of_trod f1
  have f2 : DataW.trod enc Tryd.prog W 0 sp held m 32 ((cs.drop 2).take (Tryd.prog.cellsOf 32)) = _ := (hat 2 _ rfl).trans (hx 2 (by omega))
  rw [show Tryd.prog.cellsOf 32 = 32 by kernel_rfl] at f2
  obtain ⟨a2, w2, e2⟩ := hash_of_trod f2
  refine ⟨⟨a0, A1, n1, d1, l1, a2⟩, ⟨i64In_of w0, w1, Nat.le_trans m1 k1, m1, w2⟩, ?_⟩
  have z : cs.drop 34 = [] := List.drop_eq_nil_of_le (by omega)
  have s0 : cs = cs.drop 0 := rfl
  rw [s0, cut_at cs 0 1 1 rfl, e0, cut_at cs 1 1 2 rfl, e1, cut_at cs 2 32 34 rfl, e2, z]
  simp [Wop.cells]
theorem tomb_of_trod {H : Type} {enc : TypeId × Value → H} {W : World} {sp : Nat → Bool} {held : Bool} {fuel : Nat} {cs : List Value} {x0 : DataW H × List MemPlace} (h : DataW.trod enc Tryd.prog W 0 sp held fuel 37 cs = some x0) :
    ∃ x : Wtb, x.In W ∧ cs = x.cells := by
  obtain ⟨xs, m, _, _, hlen, hxl, hat⟩ := DataW.trod_struct Tryd.underlying37 h
  rw [show Tryd.prog.cellsOf 37 = 2 by kernel_rfl] at hlen
  have hx : ∀ i (hi : i < 2), xs[i]? = some (xs[i]'(by rw [hxl]; exact hi)) := fun i hi => List.getElem?_eq_getElem _
  have f0 : DataW.trod enc Tryd.prog W 0 sp held m 3 ((cs.drop 0).take (Tryd.prog.cellsOf 3)) = _ := (hat 0 _ rfl).trans (hx 0 (by omega))
  rw [show Tryd.prog.cellsOf 3 = 1 by kernel_rfl] at f0
  obtain ⟨a0, e0, _, w0⟩ := DataW.trod_int Tryd.underlying3 f0
  have f1 : DataW.trod enc Tryd.prog W 0 sp held m 35 ((cs.drop 1).take (Tryd.prog.cellsOf 35)) = _ := (hat 1 _ rfl).trans (hx 1 (by omega))
  rw [show Tryd.prog.cellsOf 35 = 1 by kernel_rfl] at f1
  obtain ⟨A1, n1, d1, l1, e1, w1, m1, k1⟩ := lst_of_cells (cells := Wdn.cells) (ok := fun w v => v.Ok) (k := 4) Tryd.underlying35 (by kernel_rfl) (fun fuel cs x h => deny_of_trod h) f1
  refine ⟨⟨a0, A1, n1, d1, l1⟩, ⟨i64In_of w0, w1, Nat.le_trans m1 k1, m1⟩, ?_⟩
  have z : cs.drop 2 = [] := List.drop_eq_nil_of_le (by omega)
  have s0 : cs = cs.drop 0 := rfl
  rw [s0, cut_at cs 0 1 1 rfl, e0, cut_at cs 1 1 2 rfl, e1, z]
  simp [Wtb.cells]
theorem batch_of_trod {H : Type} {enc : TypeId × Value → H} {W : World} {sp : Nat → Bool} {held : Bool} {fuel : Nat} {cs : List Value} {x0 : DataW H × List MemPlace} (h : DataW.trod enc Tryd.prog W 0 sp held fuel 27 cs = some x0) :
    ∃ x : Wba, x.In W ∧ cs = x.cells := by
  obtain ⟨xs, m, _, _, hlen, hxl, hat⟩ := DataW.trod_struct Tryd.underlying27 h
  rw [show Tryd.prog.cellsOf 27 = 5 by kernel_rfl] at hlen
  have hx : ∀ i (hi : i < 5), xs[i]? = some (xs[i]'(by rw [hxl]; exact hi)) := fun i hi => List.getElem?_eq_getElem _
  have f0 : DataW.trod enc Tryd.prog W 0 sp held m 3 ((cs.drop 0).take (Tryd.prog.cellsOf 3)) = _ := (hat 0 _ rfl).trans (hx 0 (by omega))
  rw [show Tryd.prog.cellsOf 3 = 1 by kernel_rfl] at f0
  obtain ⟨a0, e0, _, w0⟩ := DataW.trod_int Tryd.underlying3 f0
  have f1 : DataW.trod enc Tryd.prog W 0 sp held m 22 ((cs.drop 1).take (Tryd.prog.cellsOf 22)) = _ := (hat 1 _ rfl).trans (hx 1 (by omega))
  rw [show Tryd.prog.cellsOf 22 = 1 by kernel_rfl] at f1
  obtain ⟨u1, e1, _, w1⟩ := DataW.trod_int Tryd.underlying22 f1
  obtain ⟨a1, rfl, b1⟩ := u64_of w1
  have f2 : DataW.trod enc Tryd.prog W 0 sp held m 23 ((cs.drop 2).take (Tryd.prog.cellsOf 23)) = _ := (hat 2 _ rfl).trans (hx 2 (by omega))
  rw [show Tryd.prog.cellsOf 23 = 1 by kernel_rfl] at f2
  obtain ⟨A2, n2, d2, l2, e2, w2, m2, k2⟩ := lst_of_cells (cells := Wpr.cells) (ok := fun w v => v.In w) (k := 6) Tryd.underlying23 (by kernel_rfl) (fun fuel cs x h => promise_of_trod h) f2
  have f3 : DataW.trod enc Tryd.prog W 0 sp held m 24 ((cs.drop 3).take (Tryd.prog.cellsOf 24)) = _ := (hat 3 _ rfl).trans (hx 3 (by omega))
  rw [show Tryd.prog.cellsOf 24 = 1 by kernel_rfl] at f3
  obtain ⟨A3, n3, d3, l3, e3, w3, m3, k3⟩ := lst_of_cells (cells := Wop.cells) (ok := fun w v => v.In w) (k := 34) Tryd.underlying24 (by kernel_rfl) (fun fuel cs x h => opening_of_trod h) f3
  have f4 : DataW.trod enc Tryd.prog W 0 sp held m 25 ((cs.drop 4).take (Tryd.prog.cellsOf 25)) = _ := (hat 4 _ rfl).trans (hx 4 (by omega))
  rw [show Tryd.prog.cellsOf 25 = 1 by kernel_rfl] at f4
  obtain ⟨A4, n4, d4, l4, e4, w4, m4, k4⟩ := lst_of_cells (cells := Wtb.cells) (ok := fun w v => v.In w) (k := 2) Tryd.underlying25 (by kernel_rfl) (fun fuel cs x h => tomb_of_trod h) f4
  refine ⟨⟨a0, a1, A2, n2, d2, l2, A3, n3, d3, l3, A4, n4, d4, l4⟩, ⟨i64In_of w0, b1, w2, Nat.le_trans m2 k2, w3, Nat.le_trans m3 k3, w4, Nat.le_trans m4 k4⟩, ?_⟩
  have z : cs.drop 5 = [] := List.drop_eq_nil_of_le (by omega)
  have s0 : cs = cs.drop 0 := rfl
  rw [s0, cut_at cs 0 1 1 rfl, e0, cut_at cs 1 1 2 rfl, e1, cut_at cs 2 1 3 rfl, e2, cut_at cs 3 1 4 rfl, e3, cut_at cs 4 1 5 rfl, e4, z]
  simp [Wba.cells]
theorem batch_open {H : Type} {enc : TypeId × Value → H} {W : World} {r : Reach} {base b0 : Nat} {v : Value} {d : DataW H} {p : List MemPlace} {sp : Nat → Bool} {held : Bool} (hv : Value.okWide Tryd.prog W r base 27 v) (h : DataW.Trod enc Tryd.prog W b0 sp held 27 v d p) (hb : b0 = 0) :
    ∃ x : Wba, x.In W ∧ v = x.val := by
  subst hb
  unfold Value.okWide at hv
  rw [Tryd.underlying27] at hv
  obtain ⟨cs, rfl, -⟩ := hv
  obtain ⟨fuel, hf⟩ := h
  obtain ⟨x, hx, e⟩ := batch_of_trod (show DataW.trod enc Tryd.prog W 0 sp held fuel 27 cs.toList = some (d, p) from hf)
  exact ⟨x, hx, by show Value.agg cs = Value.agg _; rw [← e, Array.toArray_toList]⟩
end Go.Proofs.YtjpmiigoglcoaaaDoor

namespace Go.Proofs.YtjpmiigoglcoaaaDoor
open Go.RowKit
set_option maxRecDepth 100000

theorem Blk.mid {g : Nat} {t : TypeId} : ∀ (V M P Z : List Value) (w : World), V.length = M.length → Blk w g t (P ++ (M ++ Z)).toArray → Blk (w.setCells g P.length V) g t (P ++ (V ++ Z)).toArray
  | [], M, P, Z, w, h, hb => by
    have : M = [] := List.eq_nil_of_length_eq_zero (by simpa using h.symm)
    subst this
    exact hb
  | v :: V, [], P, Z, w, h, hb => by simp at h
  | v :: V, m :: M, P, Z, w, h, hb => by
    have h1 := hb.set P.length v
    rw [List.setIfInBounds_toArray, List.set_append_right _ _ (Nat.le_refl _), Nat.sub_self] at h1
    have h2 := Blk.mid V M (P ++ [v]) Z (w.setCell ⟨g, P.length, none⟩ v) (by simpa using h) (by simpa using h1)
    have e : (P ++ [v]).length = P.length + 1 := by simp
    rw [e] at h2
    simpa [World.setCells] using h2
theorem Blk.mid_at {g : Nat} {t : TypeId} {w : World} (V M P Z : List Value) (o : Nat) (ho : P.length = o) (h : V.length = M.length) (cs cs' : List Value) (hc : cs = P ++ (M ++ Z)) (hc' : cs' = P ++ (V ++ Z)) (hb : Blk w g t cs.toArray) : Blk (w.setCells g o V) g t cs'.toArray := by
  subst ho
  subst hc
  subst hc'
  exact Blk.mid V M P Z w h hb
theorem Fr.setCells {S : List Nat} {a : World} {g : Nat} (hg : g < a.heap.size → g ∈ S) : ∀ (V : List Value) (o : Nat) (w : World), Fr S a w → Fr S a (w.setCells g o V)
  | [], _, _, h => h
  | v :: V, o, w, h => Fr.setCells hg V (o + 1) _ (h.setCell ⟨g, o, none⟩ hg v)
theorem own_blk {w : World} {base : Nat} {e : TypeId} {k n c g : Nat} {xs : List Value} (h : w.ownsRow base e k (.slice (some ⟨g, 0, none⟩) n c) n xs) : ∃ R : List Value, Blk w g e (xs ++ R).toArray ∧ (xs ++ R).length = c * k ∧ n ≤ c ∧ c ≤ maxLen ∧ base ≤ g := by
  rcases h.2 with ⟨hv, _⟩ | ⟨g', cap, cur, hv, hb, hh, hnc, hcm, hcs, htk⟩
  · injection hv with h1
    cases h1
  · injection hv with h1 h2 h3
    injection h1 with h1
    injection h1 with h1
    subst h1
    subst h3
    refine ⟨cur.toList.drop (n * k), ?_, ?_, hnc, hcm, hb⟩
    · have e : (xs ++ cur.toList.drop (n * k)).toArray = cur := by rw [← htk, List.take_append_drop]
      unfold Blk
      rw [e]
      exact hh
    · rw [← htk, List.take_append_drop]
      simpa using hcs
/-- an element of a row that the call owns is stored -/
theorem own_put {α : Type} {cells : α → List Value} {w : World} {base : Nat} {e : TypeId} {k n c g : Nat} {l : List α} (h : w.ownsRow base e k (.slice (some ⟨g, 0, none⟩) n c) n (l.flatMap cells)) (hk : ∀ v ∈ l, (cells v).length = k) {i : Nat} (hi : i < l.length) (v : α) (hv : (cells v).length = k) :
    (w.setCells g (i * k) (cells v)).ownsRow base e k (.slice (some ⟨g, 0, none⟩) n c) n ((l.set i v).flatMap cells) ∧ w.there g (i * k) k := by
  obtain ⟨P, x, Q, rfl, hP⟩ : ∃ P x Q, l = P ++ x :: Q ∧ P.length = i := ⟨l.take i, l[i], l.drop (i + 1), by simp, by simp; omega⟩
  obtain ⟨R, hb, hl, hnc, hcm, hbase⟩ := own_blk h
  have hp : (P.flatMap cells).length = i * k := by rw [cells_flat_len (fun u hu => hk u (by simp [hu])), hP]
  have hx : (cells x).length = k := hk x (by simp)
  have hs : (P ++ x :: Q).set i v = P ++ v :: Q := by rw [← hP, List.set_append_right _ _ (Nat.le_refl _), Nat.sub_self]; rfl
  rw [hs]
  have hc : (P ++ x :: Q).flatMap cells ++ R = P.flatMap cells ++ (cells x ++ (Q.flatMap cells ++ R)) := by simp
  have hc' : (P ++ v :: Q).flatMap cells ++ R = P.flatMap cells ++ (cells v ++ (Q.flatMap cells ++ R)) := by simp
  have hb2 := Blk.mid_at (cells v) (cells x) (P.flatMap cells) (Q.flatMap cells ++ R) (i * k) hp (by rw [hv, hx]) _ _ hc hc' hb
  have hlen : ((P ++ v :: Q).flatMap cells).length = ((P ++ x :: Q).flatMap cells).length := by simp [hv, hx]
  have h1 := h.1
  refine ⟨⟨by rw [hlen]; exact h1, .inr ⟨g, c, _, rfl, hbase, hb2, hnc, hcm, ?_, ?_⟩⟩, hb.there _ _ ?_⟩
  · rw [List.size_toArray, ← hl, List.length_append, List.length_append, hlen]
  · rw [← h1, ← hlen]
    exact List.take_left
  · rw [List.size_toArray, hc]
    simp only [List.length_append]
    omega
theorem add_at (g o : Nat) : (⟨g, 0, none⟩ : Addr).add o = ⟨g, o, none⟩ := by unfold Addr.add; split <;> simp_all

def upI (v : Int) : Int := v % 1099511627776
theorem upI_in (v : Int) : i64In (upI v) := by unfold i64In upI; omega
theorem upI_idem (v : Int) : upI (upI v) = upI v := by unfold upI; omega
theorem up_any (v : Int) (hv : i64In v) (w : World) : Calls Tryd.prog 13 #[.int .i64 v] w fun e w' => e = .returned (.int .i64 (upI v)) ∧ w = w' := by
  go_enter Tryd.func13, Tryd.ntmps13
  go_wp2_with fail
  refine (within_pos v 1099511627776 hv.1 hv.2 (by omega) (by omega) _).mono ?_
  rintro e w1 ⟨rfl, rfl⟩
  go_wp2
  go_ret
  exact ⟨rfl, rfl⟩
theorem row_nm2 : RowTy Tryd.prog 75 2 := ⟨by kernel_rfl, by kernel_rfl⟩
theorem row_sg2 : RowTy Tryd.prog 47 2 := ⟨by kernel_rfl, by kernel_rfl⟩
theorem built_nm3 (c s : Int) : Tryd.prog.built 75 [(0, .int .i64 c), (1, .int .i64 s)] = some #[.int .i64 c, .int .i64 s] := by kernel_rfl
theorem built_sg3 (c s : Int) : Tryd.prog.built 47 [(0, .int .i64 c), (1, .int .i64 s)] = some #[.int .i64 c, .int .i64 s] := by kernel_rfl

set_option maxHeartbeats 1000000 in
theorem niceName_any (c s : Int) (hc : i64In c) (hs : i64In s) (w : World) : Calls Tryd.prog 59 #[.agg #[.int .i64 c, .int .i64 s]] w fun e w' => e = .returned (.agg #[.int .i64 (upI c), .int .i64 (upI s)]) ∧ Fr [] w w' := by
  obtain ⟨wa, hwa⟩ : ∃ wa, wa = (w.alloc (Obj.cells #[.int .i64 c, .int .i64 s] 75)).alloc (Obj.cells #[.int .i64 0, .int .i64 0] 75) := ⟨_, rfl⟩
  have hf0 : Fr [] w wa := by rw [hwa]; exact ((Fr.refl [] w).alloc _).alloc _
  have hb0 : Blk wa w.heap.size 75 #[.int .i64 c, .int .i64 s] := by rw [hwa]; exact blk_alloc (Blk.new _ _ _)
  have hb1 : Blk wa (w.heap.size + 1) 75 #[.int .i64 0, .int .i64 0] := by
    have := Blk.new (w.alloc (Obj.cells #[.int .i64 c, .int .i64 s] 75)) 75 #[.int .i64 0, .int .i64 0]
    rw [hwa]
    simpa using this
  have hc0 := hb0.cell 0
  have hc1 := hb0.cell 1
  simp at hc0 hc1
  have H0 := Lib.hid hc0
  have H1 := Lib.hid hc1
  have HB1 := Lib.hid hb1
  have HF0 := Lib.hid hf0
  have HWA := Lib.hid hwa
  have HC := Lib.hid hc
  have HS := Lib.hid hs
  clear hwa hf0 hb0 hb1 hc0 hc1 hc hs
  go_enter Tryd.func59, Tryd.ntmps59
  go_upto_region 1 with (fail)
  change Code.wp _ _ _ _ ((w.alloc (Obj.cells #[.int .i64 c, .int .i64 s] 75)).alloc (Obj.cells #[.int .i64 0, .int .i64 0] 75))
  rw [← HWA.out]
  refine wp_region_held_drew (S := Fr [w.heap.size + 1] wa) (by kernel_rfl) (Fr.drew (Fr.refl _ wa)) (fun hHeld => ?_)
  refine run_at (i := 0) (v := ?_) rfl (by kernel_rfl) (by rfl) (fun _ _ _ h => h) hHeld (fun w1 hw1 => ?_) ?_
  rotate_left 1
  · skip
    go_simp
    (try (first | with_reducible rfl | (apply And.intro <;> rfl)))
  simp only [Act.put, List.setIfInBounds_toArray, List.set_cons_zero, List.set_cons_succ]
  refine run_at (i := 1) (v := ?_) rfl (by kernel_rfl) (by rfl) (fun _ _ _ h => h) hHeld (fun w1 hw1 => ?_) ?_
  rotate_left 1
  · skip
    have hcw0 := hw1.cell (H0.out) (by first | (simp; done) | exact HNS.out | exact HNW.out | (intro hm; have hlt := HSB.out _ hm; (try dsimp only at hlt); omega))
    go_simp
    (try (first | with_reducible rfl | (apply And.intro <;> rfl)))
  simp only [Act.put, List.setIfInBounds_toArray, List.set_cons_zero, List.set_cons_succ]
  refine run_at (i := 3) (v := ?_) rfl (by kernel_rfl) (by rfl) (fun _ _ _ h => h) hHeld (fun w1 hw1 => ?_) ?_
  rotate_left 1
  · skip
    go_simp
    (try (first | with_reducible rfl | (apply And.intro <;> rfl)))
  simp only [Act.put, List.setIfInBounds_toArray, List.set_cons_zero, List.set_cons_succ]
  refine run_at (i := 4) (v := ?_) rfl (by kernel_rfl) (by rfl) (fun _ _ _ h => h) hHeld (fun w1 hw1 => ?_) ?_
  rotate_left 1
  · skip
    have hcw0 := hw1.cell (H1.out) (by first | (simp; done) | exact HNS.out | exact HNW.out | (intro hm; have hlt := HSB.out _ hm; (try dsimp only at hlt); omega))
    go_simp
    (try (first | with_reducible rfl | (apply And.intro <;> rfl)))
  simp only [Act.put, List.setIfInBounds_toArray, List.set_cons_zero, List.set_cons_succ]
  refine call_at (i := 2) (f := ?_) (args := ?_) rfl (by kernel_rfl) (by rfl) ?_ ?_
  rotate_left 2
  · go_simp
    (try (first | with_reducible rfl | (apply And.intro <;> rfl)))
  refine (up_any c HC.out _).mono ?_
  rintro e w1 ⟨rfl, rfl⟩
  refine ⟨_, rfl, hHeld, fun hHeld => ?_⟩
  simp only [Act.put, List.setIfInBounds_toArray, List.set_cons_zero, List.set_cons_succ]
  refine call_at (i := 5) (f := ?_) (args := ?_) rfl (by kernel_rfl) (by rfl) ?_ ?_
  rotate_left 2
  · go_simp
    (try (first | with_reducible rfl | (apply And.intro <;> rfl)))
  refine (up_any s HS.out _).mono ?_
  rintro e w1 ⟨rfl, rfl⟩
  refine ⟨_, rfl, hHeld, fun hHeld => ?_⟩
  simp only [Act.put, List.setIfInBounds_toArray, List.set_cons_zero, List.set_cons_succ]
  refine build_at (i := 6) rfl (by kernel_rfl) (by rfl) _ _ rfl _ _ (built_nm3 (upI c) (upI s)) rfl (fun _ _ _ h => h) hHeld ?_
  simp only [Act.put, List.setIfInBounds_toArray, List.set_cons_zero, List.set_cons_succ]
  refine step_at (i := 7) rfl (by kernel_rfl) (by rfl) (fun K hK => ?_)
  refine wp_store_blk 75 _ _ rfl (w.heap.size + 1) #[.int .i64 (upI c), .int .i64 (upI s)] rfl rfl 75 _ (HB1.out.drew) (by kernel_rfl) rfl (by kernel_rfl) ?_
  intro w6 hb6 hf6
  have hf7 : Fr [w.heap.size + 1] wa w6 := hHeld.trans hf6 (fun x hx _ => hx)
  refine hK.out _ _ hf7 (fun hHeld => ?_)
  clear hK K hf7
  simp only [Act.put, List.setIfInBounds_toArray, List.set_cons_zero, List.set_cons_succ]
  have HB6 := Lib.hid hb6
  have HF6 := Lib.hid (HF0.out.go hHeld (by simp))
  clear hb6 hf6
  refine wpAnyH_done (by kernel_rfl) ?_ _
  go_wp2
  exact bodyPost_ret (v := .agg #[.int .i64 (upI c), .int .i64 (upI s)]) (results_cell_row Tryd.results59 _ _ (w.heap.size + 1) 75 #[.int .i64 (upI c), .int .i64 (upI s)] _ _ rfl HB6.out Tryd.underlying75 rfl (by kernel_rfl)) rfl ⟨rfl, HF6.out⟩

set_option maxHeartbeats 1000000 in
theorem niceSig_any (c s : Int) (hc : i64In c) (hs : i64In s) (w : World) : Calls Tryd.prog 17 #[.agg #[.int .i64 c, .int .i64 s]] w fun e w' => e = .returned (.agg #[.int .i64 (upI c), .int .i64 (upI s)]) ∧ Fr [] w w' := by
  obtain ⟨wa, hwa⟩ : ∃ wa, wa = (w.alloc (Obj.cells #[.int .i64 c, .int .i64 s] 47)).alloc (Obj.cells #[.int .i64 0, .int .i64 0] 47) := ⟨_, rfl⟩
  have hf0 : Fr [] w wa := by rw [hwa]; exact ((Fr.refl [] w).alloc _).alloc _
  have hb0 : Blk wa w.heap.size 47 #[.int .i64 c, .int .i64 s] := by rw [hwa]; exact blk_alloc (Blk.new _ _ _)
  have hb1 : Blk wa (w.heap.size + 1) 47 #[.int .i64 0, .int .i64 0] := by
    have := Blk.new (w.alloc (Obj.cells #[.int .i64 c, .int .i64 s] 47)) 47 #[.int .i64 0, .int .i64 0]
    rw [hwa]
    simpa using this
  have hc0 := hb0.cell 0
  have hc1 := hb0.cell 1
  simp at hc0 hc1
  have H0 := Lib.hid hc0
  have H1 := Lib.hid hc1
  have HB1 := Lib.hid hb1
  have HF0 := Lib.hid hf0
  have HWA := Lib.hid hwa
  have HC := Lib.hid hc
  have HS := Lib.hid hs
  clear hwa hf0 hb0 hb1 hc0 hc1 hc hs
  go_enter Tryd.func17, Tryd.ntmps17
  go_upto_region 1 with (fail)
  change Code.wp _ _ _ _ ((w.alloc (Obj.cells #[.int .i64 c, .int .i64 s] 47)).alloc (Obj.cells #[.int .i64 0, .int .i64 0] 47))
  rw [← HWA.out]
  refine wp_region_held_drew (S := Fr [w.heap.size + 1] wa) (by kernel_rfl) (Fr.drew (Fr.refl _ wa)) (fun hHeld => ?_)
  refine run_at (i := 0) (v := ?_) rfl (by kernel_rfl) (by rfl) (fun _ _ _ h => h) hHeld (fun w1 hw1 => ?_) ?_
  rotate_left 1
  · skip
    go_simp
    (try (first | with_reducible rfl | (apply And.intro <;> rfl)))
  simp only [Act.put, List.setIfInBounds_toArray, List.set_cons_zero, List.set_cons_succ]
  refine run_at (i := 1) (v := ?_) rfl (by kernel_rfl) (by rfl) (fun _ _ _ h => h) hHeld (fun w1 hw1 => ?_) ?_
  rotate_left 1
  · skip
    have hcw0 := hw1.cell (H0.out) (by first | (simp; done) | exact HNS.out | exact HNW.out | (intro hm; have hlt := HSB.out _ hm; (try dsimp only at hlt); omega))
    go_simp
    (try (first | with_reducible rfl | (apply And.intro <;> rfl)))
  simp only [Act.put, List.setIfInBounds_toArray, List.set_cons_zero, List.set_cons_succ]
  refine run_at (i := 3) (v := ?_) rfl (by kernel_rfl) (by rfl) (fun _ _ _ h => h) hHeld (fun w1 hw1 => ?_) ?_
  rotate_left 1
  · skip
    go_simp
    (try (first | with_reducible rfl | (apply And.intro <;> rfl)))
  simp only [Act.put, List.setIfInBounds_toArray, List.set_cons_zero, List.set_cons_succ]
  refine run_at (i := 4) (v := ?_) rfl (by kernel_rfl) (by rfl) (fun _ _ _ h => h) hHeld (fun w1 hw1 => ?_) ?_
  rotate_left 1
  · skip
    have hcw0 := hw1.cell (H1.out) (by first | (simp; done) | exact HNS.out | exact HNW.out | (intro hm; have hlt := HSB.out _ hm; (try dsimp only at hlt); omega))
    go_simp
    (try (first | with_reducible rfl | (apply And.intro <;> rfl)))
  simp only [Act.put, List.setIfInBounds_toArray, List.set_cons_zero, List.set_cons_succ]
  refine call_at (i := 2) (f := ?_) (args := ?_) rfl (by kernel_rfl) (by rfl) ?_ ?_
  rotate_left 2
  · go_simp
    (try (first | with_reducible rfl | (apply And.intro <;> rfl)))
  refine (up_any c HC.out _).mono ?_
  rintro e w1 ⟨rfl, rfl⟩
  refine ⟨_, rfl, hHeld, fun hHeld => ?_⟩
  simp only [Act.put, List.setIfInBounds_toArray, List.set_cons_zero, List.set_cons_succ]
  refine call_at (i := 5) (f := ?_) (args := ?_) rfl (by kernel_rfl) (by rfl) ?_ ?_
  rotate_left 2
  · go_simp
    (try (first | with_reducible rfl | (apply And.intro <;> rfl)))
  refine (up_any s HS.out _).mono ?_
  rintro e w1 ⟨rfl, rfl⟩
  refine ⟨_, rfl, hHeld, fun hHeld => ?_⟩
  simp only [Act.put, List.setIfInBounds_toArray, List.set_cons_zero, List.set_cons_succ]
  refine build_at (i := 6) rfl (by kernel_rfl) (by rfl) _ _ rfl _ _ (built_sg3 (upI c) (upI s)) rfl (fun _ _ _ h => h) hHeld ?_
  simp only [Act.put, List.setIfInBounds_toArray, List.set_cons_zero, List.set_cons_succ]
  refine step_at (i := 7) rfl (by kernel_rfl) (by rfl) (fun K hK => ?_)
  refine wp_store_blk 47 _ _ rfl (w.heap.size + 1) #[.int .i64 (upI c), .int .i64 (upI s)] rfl rfl 47 _ (HB1.out.drew) (by kernel_rfl) rfl (by kernel_rfl) ?_
  intro w6 hb6 hf6
  have hf7 : Fr [w.heap.size + 1] wa w6 := hHeld.trans hf6 (fun x hx _ => hx)
  refine hK.out _ _ hf7 (fun hHeld => ?_)
  clear hK K hf7
  simp only [Act.put, List.setIfInBounds_toArray, List.set_cons_zero, List.set_cons_succ]
  have HB6 := Lib.hid hb6
  have HF6 := Lib.hid (HF0.out.go hHeld (by simp))
  clear hb6 hf6
  refine wpAnyH_done (by kernel_rfl) ?_ _
  go_wp2
  exact bodyPost_ret (v := .agg #[.int .i64 (upI c), .int .i64 (upI s)]) (results_cell_row Tryd.results17 _ _ (w.heap.size + 1) 47 #[.int .i64 (upI c), .int .i64 (upI s)] _ _ rfl HB6.out Tryd.underlying47 rfl (by kernel_rfl)) rfl ⟨rfl, HF6.out⟩
end Go.Proofs.YtjpmiigoglcoaaaDoor

namespace Go.Proofs.YtjpmiigoglcoaaaDoor
open Go.RowKit
set_option maxRecDepth 100000
def nst (x : Wst) : Wst := ⟨upI x.r, upI x.c, upI x.s, x.h, x.t, upI x.b, upI x.m⟩
def ncm (x : Wcm) : Wcm := ⟨upI x.c, upI x.s, x.h, upI x.n, upI x.b, upI x.m⟩
theorem nst_idem (x : Wst) : nst (nst x) = nst x := by simp [nst, upI_idem]
theorem ncm_idem (x : Wcm) : ncm (ncm x) = ncm x := by simp [ncm, upI_idem]
theorem nst_ok {x : Wst} (h : x.Ok) : (nst x).Ok := ⟨upI_in _, upI_in _, upI_in _, h.h, h.t, upI_in _, upI_in _⟩
theorem ncm_ok {x : Wcm} (h : x.Ok) : (ncm x).Ok := ⟨upI_in _, upI_in _, h.h, upI_in _, upI_in _, upI_in _⟩
theorem mix_set {α : Type} (f : α → α) (l : List α) {k : Nat} (hk : k < l.length) : ((l.take k).map f ++ l.drop k).set k (f l[k]) = (l.take (k + 1)).map f ++ l.drop (k + 1) := by
  have h1 : ((l.take k).map f).length = k := by simp; omega
  rw [List.set_append_right _ _ (by omega), h1, Nat.sub_self, List.drop_eq_getElem_cons hk, List.set_cons_zero, List.take_succ_eq_append_getElem hk, List.map_append, List.append_assoc]
  rfl
theorem mix_get {α : Type} (f : α → α) (l : List α) {k : Nat} (hk : k < l.length) : ((l.take k).map f ++ l.drop k)[k]? = some l[k] := by
  have h1 : ((l.take k).map f).length = k := by simp; omega
  rw [List.getElem?_append_right (by omega), h1, Nat.sub_self, List.drop_eq_getElem_cons hk]
  rfl
theorem mix_len {α : Type} (f : α → α) (l : List α) (k : Nat) : ((l.take k).map f ++ l.drop k).length = l.length := by simp; omega
theorem mix_mem {α : Type} (f : α → α) (l : List α) (k : Nat) {v : α} (hv : v ∈ (l.take k).map f ++ l.drop k) : v ∈ l ∨ ∃ u ∈ l, v = f u := by
  rcases List.mem_append.1 hv with h | h
  · obtain ⟨u, hu, rfl⟩ := List.mem_map.1 h
    exact .inr ⟨u, List.mem_of_mem_take hu, rfl⟩
  · exact .inl (List.mem_of_mem_drop h)
theorem row_stm : RowTy Tryd.prog 111 38 := ⟨by kernel_rfl, by kernel_rfl⟩
/-- one cell of a block that is known whole is stored -/
theorem wp_store_at {P : Program} {op : Oper} {a : Act} {w : World} {K : Act → World → Prop} {Q : Exit → Act → World → Prop} (ty : TypeId) (x y : Operand) (ho : op.op = .store ty x y)
    (g i : Nat) (v : Value) (hx : a.eval x = .pointer (some ⟨g, i, none⟩)) (hy : a.eval y = v) (h1 : v.oneCell' = true) (t : TypeId) (cs : Array Value) (hb : Blk w g t cs) (hi : i < cs.size) (hsz : (P.info? ty).map (·.size) = some 1)
    (h : K (a.put op.dst undef) (w.setCells g i [v])) : op.wp P a w K Q := by
  subst hy
  have hc := hb.cell i
  rw [Array.getElem?_eq_getElem hi] at hc
  have := run_storeCells_cells (P := P) g i [a.eval y] 0 w (fun j hj => by simp at hj; subst hj; simpa using (by rw [hc]; rfl : (w.cell? ⟨g, i, none⟩).isSome = true)) (fun j hj => by simp at hj; subst hj; simpa using hb.frozen i) (fun u hu => by simp at hu; subst hu; exact h1)
  have hcl : (a.eval y).cells = #[a.eval y] := by cases hv : a.eval y <;> first | rfl | (rw [hv] at h1; cases h1)
  have hrun : (storeVar ty ⟨g, i, none⟩ (a.eval y)).run P w = .ok () (w.setCells g i [a.eval y]) := by
    cases hq : P.info? ty with
    | none => simp [hq] at hsz
    | some j =>
      have hs : j.size = 1 := by simpa [hq] using hsz
      simp only [Nat.add_zero] at this
      simp [storeVar, sizeOf, typeInfo, hq, hcl, hs, this]
  unfold Oper.wp execOp
  simp only [ho, hx, Instr.storeAt, Instr.sureAddr, Sem.run_bind, Sem.run_pure, Result.andThen_ok, hrun]
  exact h
/-- a whole element is stored into a row that the call owns -/
theorem wp_store_el {P : Program} {op : Oper} {a : Act} {w : World} {K : Act → World → Prop} {Q : Exit → Act → World → Prop} (ty : TypeId) (x y : Operand) (ho : op.op = .store ty x y)
    (b o : Nat) (cs : List Value) (hx : a.eval x = .pointer (some ((⟨b, 0, none⟩ : Addr).add o))) (hy : a.eval y = .agg cs.toArray)
    (ht : w.there b o cs.length) (hi : (P.info? ty).map (·.size) = some cs.length) (h1 : cs.toArray.all (·.oneCell') = true)
    (h : K (a.put op.dst undef) (w.setCells b o cs)) : op.wp P a w K Q :=
  wp_store_mid ty x y ho b o cs.toArray (by rw [hx, add_at]) hy (by simpa using ht) (by simpa using hi) h1 (by simpa using h)
theorem wpList_store_el {P : Program} {ops : Array Oper} {rest : List Oper} {op : Oper} {a : Act} {w : World} {Q : Exit → Act → World → Prop} (hg : op.guard = none) (ty : TypeId) (x y : Operand) (ho : op.op = .store ty x y)
    (b o : Nat) (cs : List Value) (hx : a.eval x = .pointer (some ((⟨b, 0, none⟩ : Addr).add o))) (hy : a.eval y = .agg cs.toArray)
    (ht : w.there b o cs.length) (hi : (P.info? ty).map (·.size) = some cs.length) (h1 : cs.toArray.all (·.oneCell') = true)
    (h : wpList P ops Q rest (a.put op.dst undef) (w.setCells b o cs)) : wpList P ops Q (op :: rest) a w :=
  wpList_plain hg fun _ hK => wp_store_el ty x y ho b o cs hx hy ht hi h1 (hK _ _ h)
theorem blk_ce1 {w : World} {g : Nat} {t : TypeId} {k : Wcm} {c s : Int} {u : Value} (hb : Blk w g t (k.cells ++ [u]).toArray) :
    Blk (w.setCells g 0 [.int .i64 c, .int .i64 s]) g t ((⟨c, s, k.h, k.n, k.b, k.m⟩ : Wcm).cells ++ [u]).toArray :=
  Blk.mid_at [.int .i64 c, .int .i64 s] [.int .i64 k.c, .int .i64 k.s] [] (k.h.map by8 ++ [.int .i64 k.n, .int .i64 k.b, .int .i64 k.m] ++ [u]) 0 rfl rfl _ _ (by simp [Wcm.cells]) (by simp [Wcm.cells]) hb
theorem blk_ce2 {w : World} {g : Nat} {t : TypeId} {k : Wcm} (hh : k.h.length = 32) {n : Int} {u : Value} (hb : Blk w g t (k.cells ++ [u]).toArray) :
    Blk (w.setCells g 34 [.int .i64 n]) g t ((⟨k.c, k.s, k.h, n, k.b, k.m⟩ : Wcm).cells ++ [u]).toArray :=
  Blk.mid_at [.int .i64 n] [.int .i64 k.n] ([.int .i64 k.c, .int .i64 k.s] ++ k.h.map by8) ([.int .i64 k.b, .int .i64 k.m] ++ [u]) 34 (by simp [hh]) rfl _ _ (by simp [Wcm.cells]) (by simp [Wcm.cells]) hb
theorem blk_ce3 {w : World} {g : Nat} {t : TypeId} {k : Wcm} (hh : k.h.length = 32) {b m : Int} {u : Value} (hb : Blk w g t (k.cells ++ [u]).toArray) :
    Blk (w.setCells g 35 [.int .i64 b, .int .i64 m]) g t ((⟨k.c, k.s, k.h, k.n, b, m⟩ : Wcm).cells ++ [u]).toArray :=
  Blk.mid_at [.int .i64 b, .int .i64 m] [.int .i64 k.b, .int .i64 k.m] ([.int .i64 k.c, .int .i64 k.s] ++ k.h.map by8 ++ [.int .i64 k.n]) [u] 35 (by simp [hh]) rfl _ _ (by simp [Wcm.cells]) (by simp [Wcm.cells]) hb
theorem blk_st1 {w : World} {g : Nat} {t : TypeId} {x : Wst} {r : Int} (hb : Blk w g t x.cells.toArray) : Blk (w.setCells g 0 [.int .i64 r]) g t (⟨r, x.c, x.s, x.h, x.t, x.b, x.m⟩ : Wst).cells.toArray :=
  Blk.mid_at [.int .i64 r] [.int .i64 x.r] [] ([.int .i64 x.c, .int .i64 x.s] ++ (x.h.map by8 ++ [.int .u64 (x.t : Int), .int .i64 x.b, .int .i64 x.m])) 0 rfl rfl _ _ (by simp [Wst.cells]) (by simp [Wst.cells]) hb
theorem blk_st2 {w : World} {g : Nat} {t : TypeId} {x : Wst} {c s : Int} (hb : Blk w g t x.cells.toArray) : Blk (w.setCells g 1 [.int .i64 c, .int .i64 s]) g t (⟨x.r, c, s, x.h, x.t, x.b, x.m⟩ : Wst).cells.toArray :=
  Blk.mid_at [.int .i64 c, .int .i64 s] [.int .i64 x.c, .int .i64 x.s] [.int .i64 x.r] (x.h.map by8 ++ [.int .u64 (x.t : Int), .int .i64 x.b, .int .i64 x.m]) 1 rfl rfl _ _ (by simp [Wst.cells]) (by simp [Wst.cells]) hb
theorem blk_st3 {w : World} {g : Nat} {t : TypeId} {x : Wst} (hh : x.h.length = 32) {b m : Int} (hb : Blk w g t x.cells.toArray) : Blk (w.setCells g 36 [.int .i64 b, .int .i64 m]) g t (⟨x.r, x.c, x.s, x.h, x.t, b, m⟩ : Wst).cells.toArray :=
  Blk.mid_at [.int .i64 b, .int .i64 m] [.int .i64 x.b, .int .i64 x.m] ([.int .i64 x.r, .int .i64 x.c, .int .i64 x.s] ++ x.h.map by8 ++ [.int .u64 (x.t : Int)]) [] 36 (by simp [hh]) rfl _ _ (by simp [Wst.cells]) (by simp [Wst.cells]) hb

set_option maxHeartbeats 8000000 in
theorem nice_any (x : Wce) (w : World) (hx : x.Ok w []) (C : List Value) (hC : x.cells = C) :
    Calls Tryd.prog 36 #[.agg C.toArray] w fun e w' => ∃ y : Wce, e = .returned y.val ∧ (∀ S0 : List Nat, (∀ q ∈ S0, q < w.heap.size) → y.Ok w' S0) ∧ y.k = ncm x.k ∧ y.l = x.l.map nst ∧ Fr [] w w' := by
  subst hC
  obtain ⟨wa, hwa⟩ : ∃ wa, wa = (w.alloc (Obj.cells x.cells.toArray 80)).alloc (Obj.cells zeroCe 80) := ⟨_, rfl⟩
  have hf0 : Fr [] w wa := by rw [hwa]; exact ((Fr.refl [] w).alloc _).alloc _
  have hb0 : Blk wa w.heap.size 80 x.cells.toArray := by rw [hwa]; exact blk_alloc (Blk.new _ _ _)
  have hb1 : Blk wa (w.heap.size + 1) 80 zeroCe := by
    have := Blk.new (w.alloc (Obj.cells x.cells.toArray 80)) 80 zeroCe
    rw [hwa]
    simpa using this
  obtain ⟨k, A, n, d, l⟩ := x
  have hat : k.At wa w.heap.size 0 := Wcm.at_of (by
    have h := hb0.range
    exact rangeAt_sub (xs := []) (ys := k.cells) (zs := [Value.slice A n d]) h) hx.k.h
  have HKO : Hid (k.Ok) := Lib.hid hx.k
  have HL : Hid (Lst 38 Wst.cells (fun _ v => v.Ok) w A n l) := Lib.hid hx.l
  have HN : Hid (n ≤ 5) := Lib.hid hx.n
  have HAT := Lib.hid hat
  have HB0 : Hid (Blk wa w.heap.size 80 (k.cells ++ [Value.slice A n d]).toArray) := Lib.hid hb0
  have HB1 := Lib.hid hb1
  have HF0 := Lib.hid hf0
  have HWA := Lib.hid hwa
  have HSZ : Hid (w.heap.size + 2 ≤ wa.heap.size) := Lib.hid (by have := hb1.lt; omega)
  clear hwa hf0 hb0 hb1 hat hx
  have hcells : (⟨k, A, n, d, l⟩ : Wce).cells = k.cells ++ [Value.slice A n d] := rfl
  rw [hcells] at HWA ⊢
  clear hcells
  obtain ⟨CV, hCV⟩ : ∃ CV, CV = k.cells ++ [Value.slice A n d] := ⟨_, rfl⟩
  have HCV := Lib.hid hCV
  rw [← hCV] at HWA HB0 ⊢
  clear hCV
  go_enter Tryd.func36, Tryd.ntmps36
  go_upto_region 1 with (fail)
  change Code.wp _ _ _ _ ((w.alloc (Obj.cells CV.toArray 80)).alloc (Obj.cells zeroCe 80))
  rw [← HWA.out]
  refine wp_region_till 14 (Fr [w.heap.size] wa) (Fr [] wa) (by kernel_rfl) (Fr.drew (Fr.refl _ wa)) (Fr.drew (Fr.refl _ wa)) (fun hA hB => ?_)
  generalize wa.drew = wd at *
  refine till_run (i := 0) (v := ?_) rfl (by kernel_rfl) (by rfl) (fun _ _ _ h => h) hA hB (fun w1 hw1 => ?_) ?_
  rotate_left 1
  · skip
    go_simp
    (try (first | with_reducible rfl | (apply And.intro <;> rfl)))
  simp only [Act.put, List.setIfInBounds_toArray, List.set_cons_zero, List.set_cons_succ]
  refine till_run (i := 1) (v := ?_) rfl (by kernel_rfl) (by rfl) (fun _ _ _ h => h) hA hB (fun w1 hw1 => ?_) ?_
  rotate_left 1
  · skip
    go_simp
    (try (first | with_reducible rfl | (apply And.intro <;> rfl)))
  simp only [Act.put, List.setIfInBounds_toArray, List.set_cons_zero, List.set_cons_succ]
  refine till_row (i := 2) rfl (by kernel_rfl) (by rfl) _ _ rfl _ _ rfl _ (fun w1 hw1 => hw1.range (HAT.out.name) (by first | (simp; done) | exact HNS.out | exact HNW.out | (intro hm; have hlt := HSB.out _ hm; (try dsimp only at hlt); omega))) (row_nm2) (fun _ _ _ h => h) hA hB ?_
  simp only [Act.put, List.setIfInBounds_toArray, List.set_cons_zero, List.set_cons_succ]
  refine till_run (i := 4) (v := ?_) rfl (by kernel_rfl) (by rfl) (fun _ _ _ h => h) hA hB (fun w1 hw1 => ?_) ?_
  rotate_left 1
  · skip
    go_simp
    (try (first | with_reducible rfl | (apply And.intro <;> rfl)))
  simp only [Act.put, List.setIfInBounds_toArray, List.set_cons_zero, List.set_cons_succ]
  refine till_run (i := 5) (v := ?_) rfl (by kernel_rfl) (by rfl) (fun _ _ _ h => h) hA hB (fun w1 hw1 => ?_) ?_
  rotate_left 1
  · skip
    go_simp
    (try (first | with_reducible rfl | (apply And.intro <;> rfl)))
  simp only [Act.put, List.setIfInBounds_toArray, List.set_cons_zero, List.set_cons_succ]
  refine till_run (i := 6) (v := ?_) rfl (by kernel_rfl) (by rfl) (fun _ _ _ h => h) hA hB (fun w1 hw1 => ?_) ?_
  rotate_left 1
  · skip
    have hcw0 := hw1.cell (HAT.out.n) (by first | (simp; done) | exact HNS.out | exact HNW.out | (intro hm; have hlt := HSB.out _ hm; (try dsimp only at hlt); omega))
    go_simp
    (try (first | with_reducible rfl | (apply And.intro <;> rfl)))
  simp only [Act.put, List.setIfInBounds_toArray, List.set_cons_zero, List.set_cons_succ]
  refine till_run (i := 8) (v := ?_) rfl (by kernel_rfl) (by rfl) (fun _ _ _ h => h) hA hB (fun w1 hw1 => ?_) ?_
  rotate_left 1
  · skip
    go_simp
    (try (first | with_reducible rfl | (apply And.intro <;> rfl)))
  simp only [Act.put, List.setIfInBounds_toArray, List.set_cons_zero, List.set_cons_succ]
  refine till_run (i := 9) (v := ?_) rfl (by kernel_rfl) (by rfl) (fun _ _ _ h => h) hA hB (fun w1 hw1 => ?_) ?_
  rotate_left 1
  · skip
    go_simp
    (try (first | with_reducible rfl | (apply And.intro <;> rfl)))
  simp only [Act.put, List.setIfInBounds_toArray, List.set_cons_zero, List.set_cons_succ]
  refine till_row (i := 10) rfl (by kernel_rfl) (by rfl) _ _ rfl _ _ rfl _ (fun w1 hw1 => hw1.range (HAT.out.sig) (by first | (simp; done) | exact HNS.out | exact HNW.out | (intro hm; have hlt := HSB.out _ hm; (try dsimp only at hlt); omega))) (row_sg2) (fun _ _ _ h => h) hA hB ?_
  simp only [Act.put, List.setIfInBounds_toArray, List.set_cons_zero, List.set_cons_succ]
  refine till_call (i := 3) (f := ?_) (args := ?_) rfl (by kernel_rfl) (by rfl) ?_ ?_
  rotate_left 2
  · go_simp
    (try (first | with_reducible rfl | (apply And.intro <;> rfl)))
  refine (niceName_any k.c k.s HKO.out.c HKO.out.s wd).mono ?_
  rintro e_ w1 ⟨rfl, hf⟩
  refine ⟨_, rfl, ⟨hA.go hf (by simp), hB.and hf (by simp)⟩, fun hB => ?_⟩
  replace hA := hA.go hf (by simp)
  clear hf
  simp only [Act.put, List.setIfInBounds_toArray, List.set_cons_zero, List.set_cons_succ]
  refine till_run (i := 12) (v := ?_) rfl (by kernel_rfl) (by rfl) (fun _ _ _ h => h) hA hB (fun w1 hw1 => ?_) ?_
  rotate_left 1
  · skip
    go_simp
    (try (first | with_reducible rfl | (apply And.intro <;> rfl)))
  simp only [Act.put, List.setIfInBounds_toArray, List.set_cons_zero, List.set_cons_succ]
  refine till_run (i := 13) (v := ?_) rfl (by kernel_rfl) (by rfl) (fun _ _ _ h => h) hA hB (fun w1 hw1 => ?_) ?_
  rotate_left 1
  · skip
    go_simp
    (try (first | with_reducible rfl | (apply And.intro <;> rfl)))
  simp only [Act.put, List.setIfInBounds_toArray, List.set_cons_zero, List.set_cons_succ]
  refine till_call (i := 7) (f := ?_) (args := ?_) rfl (by kernel_rfl) (by rfl) ?_ ?_
  rotate_left 2
  · go_simp
    (try (first | with_reducible rfl | (apply And.intro <;> rfl)))
  refine (up_any k.n HKO.out.n w1).mono ?_
  rintro e_ w2 ⟨rfl, rfl⟩
  refine ⟨_, rfl, ⟨hA, hB⟩, fun hB => ?_⟩
  simp only [Act.put, List.setIfInBounds_toArray, List.set_cons_zero, List.set_cons_succ]
  refine till_call (i := 11) (f := ?_) (args := ?_) rfl (by kernel_rfl) (by rfl) ?_ ?_
  rotate_left 2
  · go_simp
    (try (first | with_reducible rfl | (apply And.intro <;> rfl)))
  refine (niceSig_any k.b k.m HKO.out.b HKO.out.m w1).mono ?_
  rintro e_ w2 ⟨rfl, hf⟩
  refine ⟨_, rfl, ⟨hA.go hf (by simp), hB.and hf (by simp)⟩, fun hB => ?_⟩
  replace hA := hA.go hf (by simp)
  clear hf
  simp only [Act.put, List.setIfInBounds_toArray, List.set_cons_zero, List.set_cons_succ]
  have hbx := HB0.out.keep hB (by simp)
  rw [HCV.out] at hbx
  have HCL : Hid ((k.cells ++ [Value.slice A n d]).toArray.size = 38) := Lib.hid (by simp [Wcm.len HKO.out.h])
  refine till_step (i := 14) rfl (by kernel_rfl) (by kernel_rfl) (by rfl) (fun K hK => ?_)
  refine wp_store_mid 75 _ _ rfl w.heap.size 0 #[.int .i64 (upI k.c), .int .i64 (upI k.s)] rfl rfl (hbx.there 0 2 (by rw [HCL.out]; omega)) (by kernel_rfl) (by kernel_rfl) ?_
  have hby := blk_ce1 (c := upI k.c) (s := upI k.s) hbx
  refine hK.out _ _ (Fr.setCells (fun _ => by simp) _ _ _ hA) (fun hA => ?_)
  clear hK K hbx
  rw [show (#[Value.int .i64 (upI k.c), .int .i64 (upI k.s)] : Array Value).toList = [.int .i64 (upI k.c), .int .i64 (upI k.s)] from rfl] at *
  generalize w2.setCells w.heap.size 0 [.int .i64 (upI k.c), .int .i64 (upI k.s)] = w3 at *
  simp only [Act.put, List.setIfInBounds_toArray, List.set_cons_zero, List.set_cons_succ]
  refine till_step (i := 15) rfl (by kernel_rfl) (by kernel_rfl) (by rfl) (fun K hK => ?_)
  refine wp_run (v := ?_) (w' := ?_) ?_ ?_
  rotate_left 2
  · go_simp
    (try (first | with_reducible rfl | (apply And.intro <;> rfl)))
  refine hK.out _ _ hA (fun hA => ?_)
  clear hK K
  simp only [Act.put, List.setIfInBounds_toArray, List.set_cons_zero, List.set_cons_succ]
  refine till_step (i := 16) rfl (by kernel_rfl) (by kernel_rfl) (by rfl) (fun K hK => ?_)
  refine wp_run (v := ?_) (w' := ?_) ?_ ?_
  rotate_left 2
  · go_simp
    (try (first | with_reducible rfl | (apply And.intro <;> rfl)))
  refine hK.out _ _ hA (fun hA => ?_)
  clear hK K
  simp only [Act.put, List.setIfInBounds_toArray, List.set_cons_zero, List.set_cons_succ]
  have HCL2 : Hid (((⟨upI k.c, upI k.s, k.h, k.n, k.b, k.m⟩ : Wcm).cells ++ [Value.slice A n d]).toArray.size = 38) := Lib.hid (by rw [List.size_toArray, List.length_append, Wcm.len (x := ⟨upI k.c, upI k.s, k.h, k.n, k.b, k.m⟩) HKO.out.h]; rfl)
  refine till_step (i := 17) rfl (by kernel_rfl) (by kernel_rfl) (by rfl) (fun K hK => ?_)
  refine wp_store_at 3 _ _ rfl w.heap.size 34 (.int .i64 (upI k.n)) rfl rfl rfl 80 _ hby (by rw [HCL2.out]; omega) (by kernel_rfl) ?_
  have hbz := blk_ce2 (k := ⟨upI k.c, upI k.s, k.h, k.n, k.b, k.m⟩) HKO.out.h (n := upI k.n) hby
  refine hK.out _ _ (Fr.setCells (fun _ => by simp) _ _ _ hA) (fun hA => ?_)
  clear hK K hby
  generalize w3.setCells w.heap.size 34 [.int .i64 (upI k.n)] = w4 at *
  simp only [Act.put, List.setIfInBounds_toArray, List.set_cons_zero, List.set_cons_succ]
  refine till_step (i := 18) rfl (by kernel_rfl) (by kernel_rfl) (by rfl) (fun K hK => ?_)
  refine wp_run (v := ?_) (w' := ?_) ?_ ?_
  rotate_left 2
  · go_simp
    (try (first | with_reducible rfl | (apply And.intro <;> rfl)))
  refine hK.out _ _ hA (fun hA => ?_)
  clear hK K
  simp only [Act.put, List.setIfInBounds_toArray, List.set_cons_zero, List.set_cons_succ]
  refine till_step (i := 19) rfl (by kernel_rfl) (by kernel_rfl) (by rfl) (fun K hK => ?_)
  refine wp_run (v := ?_) (w' := ?_) ?_ ?_
  rotate_left 2
  · go_simp
    (try (first | with_reducible rfl | (apply And.intro <;> rfl)))
  refine hK.out _ _ hA (fun hA => ?_)
  clear hK K
  simp only [Act.put, List.setIfInBounds_toArray, List.set_cons_zero, List.set_cons_succ]
  have HCL3 : Hid (((⟨upI k.c, upI k.s, k.h, upI k.n, k.b, k.m⟩ : Wcm).cells ++ [Value.slice A n d]).toArray.size = 38) := Lib.hid (by rw [List.size_toArray, List.length_append, Wcm.len (x := ⟨upI k.c, upI k.s, k.h, upI k.n, k.b, k.m⟩) HKO.out.h]; rfl)
  refine till_step (i := 20) rfl (by kernel_rfl) (by kernel_rfl) (by rfl) (fun K hK => ?_)
  refine wp_store_mid 47 _ _ rfl w.heap.size 35 #[.int .i64 (upI k.b), .int .i64 (upI k.m)] rfl rfl (hbz.there 35 2 (by rw [HCL3.out]; omega)) (by kernel_rfl) (by kernel_rfl) ?_
  have hbw := blk_ce3 (k := ⟨upI k.c, upI k.s, k.h, upI k.n, k.b, k.m⟩) (b := upI k.b) (m := upI k.m) HKO.out.h hbz
  refine hK.out _ _ (Fr.setCells (fun _ => by simp) _ _ _ hA) (fun hA => ?_)
  clear hK K hbz
  rw [show (#[Value.int .i64 (upI k.b), .int .i64 (upI k.m)] : Array Value).toList = [.int .i64 (upI k.b), .int .i64 (upI k.m)] from rfl] at *
  generalize w4.setCells w.heap.size 35 [.int .i64 (upI k.b), .int .i64 (upI k.m)] = w5 at *
  simp only [Act.put, List.setIfInBounds_toArray, List.set_cons_zero, List.set_cons_succ]
  refine till_done (by kernel_rfl) ?_ _
  have HBW : Hid (Blk w5 w.heap.size 80 ((ncm k).cells ++ [Value.slice A n d]).toArray) := Lib.hid hbw
  have HB15 := Lib.hid (HB1.out.keep hA (by simp))
  have HFA : Hid (Fr [w.heap.size] wa w5) := Lib.hid hA
  have HF5 : Hid (Fr [] w w5) := Lib.hid (HF0.out.trans hA (fun x hx hl => by simp at hx; omega))
  have HCK : Hid ((ncm k).cells.length = 37) := Lib.hid (Wcm.len HKO.out.h)
  have hc5 : w5.cell? ⟨w.heap.size, 37, none⟩ = some (.slice A n d) := by
    have h := HBW.out.range 37 (.slice A n d) (by rw [List.getElem?_append_right (by rw [HCK.out]; omega), HCK.out]; rfl)
    simpa using h
  clear hA hB hbw HAT HB0 HB1 HCL HCL2 HCL3
  go_wp2_with fail
  refine (copyStamps_any A n d l w5 (HL.out.keep' HF5.out (by simp) (fun _ _ h => h)) (by have := HN.out; omega)).mono ?_
  rintro e w6 ⟨A1, c1, rfl, hN⟩
  have hb6 := HBW.out.keep hN.2.1 (by simp)
  have hc6 := hN.2.1.cell hc5 (by simp)
  have hz6 := hb6.frozen 37
  have hb7 := hb6.set 37 (Value.slice A1 n c1)
  rw [set_last (ncm k).cells HCK.out] at hb7
  have hne := own_ne hN.1 hb6 (by decide)
  have HO7 := Lib.hid (own_setCell hN.1 ⟨w.heap.size, 37, none⟩ hne (Value.slice A1 n c1))
  have HB7 := Lib.hid hb7
  have HZ7 := Lib.hid ((HB15.out.keep hN.2.1 (by simp)).keep ((Fr.refl [w.heap.size] w6).setCell ⟨w.heap.size, 37, none⟩ (fun _ => by simp) (Value.slice A1 n c1)) (by simp))
  have HF7 : Hid (Fr [] w (w6.setCell ⟨w.heap.size, 37, none⟩ (Value.slice A1 n c1))) := Lib.hid ((HF5.out.and hN.2.1 (by simp)).trans ((Fr.refl [w.heap.size] w6).setCell ⟨w.heap.size, 37, none⟩ (fun _ => by simp) (Value.slice A1 n c1)) (fun x hx hl => by simp at hx; omega))
  have HNA : Hid (∀ q ∈ bk A1, w.heap.size + 2 ≤ q) := Lib.hid (fun q hq => by have h1 := hN.2.2 q hq; have h2 := HFA.out.size; have h3 := HSZ.out; omega)
  clear hN hb6 hb7 hne hc5
  go_upto_region 3 with (fail)
  clear hc6 hz6
  generalize w6.setCell ⟨w.heap.size, 37, none⟩ (Value.slice A1 n c1) = w7 at *
  obtain ⟨YC, hYC⟩ : ∃ YC, YC = (ncm k).cells ++ [Value.slice A1 n c1] := ⟨_, rfl⟩
  have HYC := Lib.hid hYC
  rw [← hYC] at HB7
  clear hYC
  have HY37 : Hid (YC[37]? = some (.slice A1 n c1)) := Lib.hid (by rw [HYC.out, List.getElem?_append_right (by rw [HCK.out]; omega), HCK.out]; rfl)
  have hc7 : w7.cell? ⟨w.heap.size, 37, none⟩ = some (.slice A1 n c1) := by
    have h := HB7.out.range 37 _ HY37.out
    simpa using h
  have hn1 : (n : Int) ≤ 9223372036854775807 := by have := HN.out; omega
  go_wp2_with fail
  clear hc7
  go_loopw [30] (fun i wr => ∃ j : Nat, j ≤ n ∧ i = .int .i64 j ∧ Hid (wr.ownsRow 0 111 38 (.slice A1 n c1) n (((l.take j).map nst ++ l.drop j).flatMap Wst.cells)) ∧ Hid (Blk wr w.heap.size 80 YC.toArray) ∧ Hid (Blk wr (w.heap.size + 1) 80 zeroCe) ∧ Hid (Fr [] w wr)) (fun i _ => n - (intOf i).toNat)
  case atStart => exact ⟨0, by omega, rfl, Lib.hid (by simpa using HO7.out), HB7, HZ7, HF7⟩
  case round =>
    obtain ⟨j, hj, rfl, HO, HB, HBZ, HF⟩ := hrel
    have hc : wr.cell? ⟨w.heap.size, 37, none⟩ = some (.slice A1 n c1) := by
      have h := HB.out.range 37 _ HY37.out
      simpa using h
    by_cases hlt : j < n
    · obtain ⟨gA, rfl⟩ : ∃ gA, A1 = some ⟨gA, 0, none⟩ := by
        obtain ⟨g', cap, hv, _⟩ := HO.out.form (by omega)
        injection hv with h1
        exact ⟨g', h1⟩
      have hlj : j < l.length := by rw [HL.out.1]; exact hlt
      obtain ⟨v, hv⟩ : ∃ v, v = l[j] := ⟨_, rfl⟩
      have hvm : v ∈ l := by rw [hv]; exact List.getElem_mem hlj
      have hvok : v.Ok := (HL.out.2.1 v hvm).2
      have HVOK := Lib.hid hvok
      have HMIX : Hid (∀ u ∈ (l.take j).map nst ++ l.drop j, u.Ok) := Lib.hid (fun u hu => by
        rcases mix_mem nst l j hu with h | ⟨y, h, rfl⟩
        · exact (HL.out.2.1 u h).2
        · exact nst_ok (HL.out.2.1 y h).2)
      have HLEN : Hid (∀ u ∈ (l.take j).map nst ++ l.drop j, (Wst.cells u).length = 38) := Lib.hid (fun u hu => Wst.len (HMIX.out u hu).h)
      have HRNG : Hid (wr.rangeAt gA (j * 38) v.cells) := Lib.hid (fun i u hu => by
        have h := HO.out.cells (g := gA) rfl _ _ (flat_at HLEN.out (by rw [mix_get nst l hlj, hv]) hu)
        rw [add_at] at h
        exact h)
      have HVJ : Hid (v = l[j]) := Lib.hid hv
      have hcl : v.cells.length = 38 := Wst.len hvok.h
      have HCL := Lib.hid hcl
      have HONE := Lib.hid (Wst.one v)
      have HJN : Hid (j < n) := Lib.hid hlt
      have hj0 : (0 : Int) ≤ j := by omega
      have HSZ0 : Hid ((Tryd.prog.info? 111).map (·.size) = some v.cells.toArray.size) := Lib.hid (by rw [List.size_toArray, hcl]; kernel_rfl)
      have HCS : Hid (v.cells.toArray.size = 38) := Lib.hid (by rw [List.size_toArray]; exact hcl)
      clear hvok hvm hv hcl
      go_upto_region 7 with (first
        | (refine wpList_load_mid rfl 111 _ rfl gA (j * 38) rfl v.cells _ HRNG.out Tryd.underlying111 rfl (row_stm.of HCL.out).2 ?_)
        | (refine wpList_store_blk rfl 111 _ _ rfl wr.heap.size v.cells.toArray rfl rfl 111 _ (Blk.new wr _ _) HSZ0.out (by rw [HCS.out]; rfl) (all_oneCell_toArray HONE.out) ?_
           intro w8 hb8 hf8
           have HB8 := Lib.hid hb8
           have HF8 : Hid (Fr [] wr w8) := Lib.hid (((Fr.refl [] wr).alloc _).and hf8 (by simp))
           clear hb8 hf8))
      have hat : v.At w8 wr.heap.size 0 := Wst.at_of HB8.out.range HVOK.out.h
      have HAT := Lib.hid hat
      have HGB : Hid (wr.heap.size < w8.heap.size ∧ gA < wr.heap.size) := Lib.hid ⟨HB8.out.lt, own_lt HO.out gA rfl⟩
      have HO8 := Lib.hid (own_keep HO.out HF8.out (by simp))
      clear hat
      generalize hgb : wr.heap.size = gb at *
      refine wp_region_till 10 (Fr [gb] w8) (Fr [] w8) (by kernel_rfl) (Fr.drew (Fr.refl _ w8)) (Fr.drew (Fr.refl _ w8)) (fun hA hB => ?_)
      generalize w8.drew = wd at *
      refine till_run (i := 0) (v := ?_) rfl (by kernel_rfl) (by rfl) (fun _ _ _ h => h) hA hB (fun w1 hw1 => ?_) ?_
      rotate_left 1
      · skip
        go_simp
        (try (first | with_reducible rfl | (apply And.intro <;> rfl)))
      simp only [Act.put, List.setIfInBounds_toArray, List.set_cons_zero, List.set_cons_succ]
      refine till_run (i := 1) (v := ?_) rfl (by kernel_rfl) (by rfl) (fun _ _ _ h => h) hA hB (fun w1 hw1 => ?_) ?_
      rotate_left 1
      · skip
        have hcw0 := hw1.cell (HAT.out.r) (by first | (simp; done) | exact HNS.out | exact HNW.out | (intro hm; have hlt := HSB.out _ hm; (try dsimp only at hlt); omega))
        go_simp
        (try (first | with_reducible rfl | (apply And.intro <;> rfl)))
      simp only [Act.put, List.setIfInBounds_toArray, List.set_cons_zero, List.set_cons_succ]
      refine till_run (i := 3) (v := ?_) rfl (by kernel_rfl) (by rfl) (fun _ _ _ h => h) hA hB (fun w1 hw1 => ?_) ?_
      rotate_left 1
      · skip
        go_simp
        (try (first | with_reducible rfl | (apply And.intro <;> rfl)))
      simp only [Act.put, List.setIfInBounds_toArray, List.set_cons_zero, List.set_cons_succ]
      refine till_row (i := 4) rfl (by kernel_rfl) (by rfl) _ _ rfl _ _ rfl _ (fun w1 hw1 => hw1.range (HAT.out.name) (by first | (simp; done) | exact HNS.out | exact HNW.out | (intro hm; have hlt := HSB.out _ hm; (try dsimp only at hlt); omega))) (row_nm2) (fun _ _ _ h => h) hA hB ?_
      simp only [Act.put, List.setIfInBounds_toArray, List.set_cons_zero, List.set_cons_succ]
      refine till_run (i := 6) (v := ?_) rfl (by kernel_rfl) (by rfl) (fun _ _ _ h => h) hA hB (fun w1 hw1 => ?_) ?_
      rotate_left 1
      · skip
        go_simp
        (try (first | with_reducible rfl | (apply And.intro <;> rfl)))
      simp only [Act.put, List.setIfInBounds_toArray, List.set_cons_zero, List.set_cons_succ]
      refine till_row (i := 7) rfl (by kernel_rfl) (by rfl) _ _ rfl _ _ rfl _ (fun w1 hw1 => hw1.range (HAT.out.sig) (by first | (simp; done) | exact HNS.out | exact HNW.out | (intro hm; have hlt := HSB.out _ hm; (try dsimp only at hlt); omega))) (row_sg2) (fun _ _ _ h => h) hA hB ?_
      simp only [Act.put, List.setIfInBounds_toArray, List.set_cons_zero, List.set_cons_succ]
      refine till_call (i := 2) (f := ?_) (args := ?_) rfl (by kernel_rfl) (by rfl) ?_ ?_
      rotate_left 2
      · go_simp
        (try (first | with_reducible rfl | (apply And.intro <;> rfl)))
      refine (up_any v.r HVOK.out.r wd).mono ?_
      rintro e_ w9 ⟨rfl, rfl⟩
      refine ⟨_, rfl, ⟨hA, hB⟩, fun hB => ?_⟩
      simp only [Act.put, List.setIfInBounds_toArray, List.set_cons_zero, List.set_cons_succ]
      refine till_run (i := 9) (v := ?_) rfl (by kernel_rfl) (by rfl) (fun _ _ _ h => h) hA hB (fun w1 hw1 => ?_) ?_
      rotate_left 1
      · skip
        go_simp
        (try (first | with_reducible rfl | (apply And.intro <;> rfl)))
      simp only [Act.put, List.setIfInBounds_toArray, List.set_cons_zero, List.set_cons_succ]
      refine till_call (i := 5) (f := ?_) (args := ?_) rfl (by kernel_rfl) (by rfl) ?_ ?_
      rotate_left 2
      · go_simp
        (try (first | with_reducible rfl | (apply And.intro <;> rfl)))
      refine (niceName_any v.c v.s HVOK.out.c HVOK.out.s wd).mono ?_
      rintro e_ w9 ⟨rfl, hf⟩
      refine ⟨_, rfl, ⟨hA.go hf (by simp), hB.and hf (by simp)⟩, fun hB => ?_⟩
      replace hA := hA.go hf (by simp)
      clear hf
      simp only [Act.put, List.setIfInBounds_toArray, List.set_cons_zero, List.set_cons_succ]
      refine till_call (i := 8) (f := ?_) (args := ?_) rfl (by kernel_rfl) (by rfl) ?_ ?_
      rotate_left 2
      · go_simp
        (try (first | with_reducible rfl | (apply And.intro <;> rfl)))
      refine (niceSig_any v.b v.m HVOK.out.b HVOK.out.m w9).mono ?_
      rintro e_ w10 ⟨rfl, hf⟩
      refine ⟨_, rfl, ⟨hA.go hf (by simp), hB.and hf (by simp)⟩, fun hB => ?_⟩
      replace hA := hA.go hf (by simp)
      clear hf
      simp only [Act.put, List.setIfInBounds_toArray, List.set_cons_zero, List.set_cons_succ]
      have hbx := HB8.out.keep hB (by simp)
      have HCB1 : Hid ((⟨upI v.r, v.c, v.s, v.h, v.t, v.b, v.m⟩ : Wst).cells.length = 38) := Lib.hid (Wst.len HVOK.out.h)
      have HCB2 : Hid ((⟨upI v.r, upI v.c, upI v.s, v.h, v.t, v.b, v.m⟩ : Wst).cells.length = 38) := Lib.hid (Wst.len HVOK.out.h)
      refine till_step (i := 10) rfl (by kernel_rfl) (by kernel_rfl) (by rfl) (fun K hK => ?_)
      refine wp_store_at 3 _ _ rfl gb 0 (.int .i64 (upI v.r)) rfl rfl rfl 111 _ hbx (by rw [HCS.out]; omega) (by kernel_rfl) ?_
      have hby := blk_st1 (r := upI v.r) hbx
      refine hK.out _ _ (Fr.setCells (fun _ => by simp) _ _ _ hA) (fun hA => ?_)
      clear hK K hbx
      generalize w10.setCells gb 0 [.int .i64 (upI v.r)] = w11 at *
      simp only [Act.put, List.setIfInBounds_toArray, List.set_cons_zero, List.set_cons_succ]
      refine till_step (i := 11) rfl (by kernel_rfl) (by kernel_rfl) (by rfl) (fun K hK => ?_)
      refine wp_run (v := ?_) (w' := ?_) ?_ ?_
      rotate_left 2
      · go_simp
        (try (first | with_reducible rfl | (apply And.intro <;> rfl)))
      refine hK.out _ _ hA (fun hA => ?_)
      clear hK K
      simp only [Act.put, List.setIfInBounds_toArray, List.set_cons_zero, List.set_cons_succ]
      refine till_step (i := 12) rfl (by kernel_rfl) (by kernel_rfl) (by rfl) (fun K hK => ?_)
      refine wp_store_mid 75 _ _ rfl gb 1 #[.int .i64 (upI v.c), .int .i64 (upI v.s)] rfl rfl (hby.there 1 2 (by rw [List.size_toArray, HCB1.out]; decide)) (by kernel_rfl) (by kernel_rfl) ?_
      have hbz := blk_st2 (c := upI v.c) (s := upI v.s) hby
      refine hK.out _ _ (Fr.setCells (fun _ => by simp) _ _ _ hA) (fun hA => ?_)
      clear hK K hby
      rw [show (#[Value.int .i64 (upI v.c), .int .i64 (upI v.s)] : Array Value).toList = [.int .i64 (upI v.c), .int .i64 (upI v.s)] from rfl] at *
      generalize w11.setCells gb 1 [.int .i64 (upI v.c), .int .i64 (upI v.s)] = w12 at *
      simp only [Act.put, List.setIfInBounds_toArray, List.set_cons_zero, List.set_cons_succ]
      refine till_step (i := 13) rfl (by kernel_rfl) (by kernel_rfl) (by rfl) (fun K hK => ?_)
      refine wp_run (v := ?_) (w' := ?_) ?_ ?_
      rotate_left 2
      · go_simp
        (try (first | with_reducible rfl | (apply And.intro <;> rfl)))
      refine hK.out _ _ hA (fun hA => ?_)
      clear hK K
      simp only [Act.put, List.setIfInBounds_toArray, List.set_cons_zero, List.set_cons_succ]
      refine till_step (i := 14) rfl (by kernel_rfl) (by kernel_rfl) (by rfl) (fun K hK => ?_)
      refine wp_store_mid 47 _ _ rfl gb 36 #[.int .i64 (upI v.b), .int .i64 (upI v.m)] rfl rfl (hbz.there 36 2 (by rw [List.size_toArray, HCB2.out]; decide)) (by kernel_rfl) (by kernel_rfl) ?_
      have hbw := blk_st3 (x := ⟨upI v.r, upI v.c, upI v.s, v.h, v.t, v.b, v.m⟩) HVOK.out.h (b := upI v.b) (m := upI v.m) hbz
      refine hK.out _ _ (Fr.setCells (fun _ => by simp) _ _ _ hA) (fun hA => ?_)
      clear hK K hbz
      rw [show (#[Value.int .i64 (upI v.b), .int .i64 (upI v.m)] : Array Value).toList = [.int .i64 (upI v.b), .int .i64 (upI v.m)] from rfl] at *
      generalize w12.setCells gb 36 [.int .i64 (upI v.b), .int .i64 (upI v.m)] = w13 at *
      simp only [Act.put, List.setIfInBounds_toArray, List.set_cons_zero, List.set_cons_succ]
      refine till_done (by kernel_rfl) ?_ _
      have HFX : Hid (Fr [] wr w13) := Lib.hid (HF8.out.trans hA (fun x hx hl => by simp at hx; omega))
      have HBN : Hid (Blk w13 gb 111 (nst v).cells.toArray) := Lib.hid hbw
      have HO13 := Lib.hid (own_keep HO8.out hA (fun q hq hm => by have h1 : gA = q := Option.some.inj hq; have := HGB.out; simp at hm; omega))
      have hc13 := HFX.out.cell hc (by simp)
      have HB13 := Lib.hid (HB.out.keep HFX.out (by simp))
      have HZ13 := Lib.hid (HBZ.out.keep HFX.out (by simp))
      have HF13 : Hid (Fr [] w w13) := Lib.hid (HF.out.and HFX.out (by simp))
      clear hA hB hbw HAT HCB1 HCB2 hc
      have HNL : Hid ((nst v).cells.length = 38) := Lib.hid (Wst.len HVOK.out.h)
      have HNS : Hid ((Tryd.prog.info? 111).map (·.size) = some (nst v).cells.length) := Lib.hid (by rw [HNL.out]; kernel_rfl)
      have HN1 := Lib.hid (all_oneCell_toArray (Wst.one (nst v)))
      have HPUT := Lib.hid (own_put (cells := Wst.cells) HO13.out HLEN.out (i := j) (by rw [mix_len]; exact hlj) (nst v) HNL.out)
      have HSET : Hid (((l.take j).map nst ++ l.drop j).set j (nst v) = (l.take (j + 1)).map nst ++ l.drop (j + 1)) := Lib.hid (by rw [HVJ.out]; exact mix_set nst l hlj)
      obtain ⟨CN, hCN⟩ : ∃ CN, CN = (nst v).cells := ⟨_, rfl⟩
      rw [← hCN] at HBN HNL HNS HN1 HPUT
      clear hCN HO13
      have HRN : Hid (w13.rangeAt gb 0 CN) := Lib.hid HBN.out.range
      have HTH : Hid (w13.there gA (j * 38) CN.toArray.size) := Lib.hid (by rw [List.size_toArray, HNL.out]; exact HPUT.out.2)
      have HNS2 : Hid ((Tryd.prog.info? 111).map (·.size) = some CN.toArray.size) := Lib.hid (by rw [List.size_toArray]; exact HNS.out)
      go_wp2_with (first
        | (refine wpList_load_mid rfl 111 _ rfl gb 0 rfl CN _ HRN.out Tryd.underlying111 rfl HNS.out ?_)
        | (refine wpList_store_mid rfl 111 _ _ rfl gA (j * 38) CN.toArray rfl rfl HTH.out HNS2.out HN1.out ?_))
      have hfs : Fr [gA] w13 (w13.setCells gA (j * 38) CN) := Fr.setCells (fun _ => by simp) _ _ _ (Fr.refl _ _)
      have HFS : Hid (Fr [gA] w13 (w13.setCells gA (j * 38) CN.toArray.toList)) := Lib.hid (by simpa using hfs)
      have HO14 : Hid ((w13.setCells gA (j * 38) CN.toArray.toList).ownsRow 0 111 38 (.slice (some ⟨gA, 0, none⟩) n c1) n (((l.take (j + 1)).map nst ++ l.drop (j + 1)).flatMap Wst.cells)) := Lib.hid (by have h := HPUT.out.1; rw [HSET.out] at h; simpa using h)
      have HGN : Hid (w.heap.size + 2 ≤ gA) := Lib.hid (HNA.out gA (by simp [bk]))
      clear hfs hc13
      generalize w13.setCells gA (j * 38) CN.toArray.toList = w14 at *
      go_roundw
      case rel => exact ⟨j + 1, by have := HJN.out; omega, by go_num, HO14, Lib.hid (HB13.out.keep HFS.out (by simp; have := HGN.out; omega)), Lib.hid (HZ13.out.keep HFS.out (by simp; have := HGN.out; omega)), Lib.hid (HF13.out.and HFS.out (by have := HGN.out; simp; omega))⟩
      case measure => have := HJN.out; simp [intOf]; omega
    · skip
      have hjn : j = n := by omega
      subst hjn
      have HOE : Hid (wr.ownsRow 0 111 38 (.slice A1 j c1) j ((l.map nst).flatMap Wst.cells)) := Lib.hid (by
        have h := HO.out
        have hl := HL.out.1
        rw [List.take_of_length_le (by omega), List.drop_of_length_le (by omega), List.append_nil] at h
        exact h)
      have HYL : Hid (YC.length = 38) := Lib.hid (by rw [HYC.out, List.length_append, HCK.out]; rfl)
      have HYS : Hid ((Tryd.prog.info? 80).map (·.size) = some YC.toArray.size) := Lib.hid (by rw [List.size_toArray, HYL.out]; kernel_rfl)
      have HZC : Hid (zeroCe.size = YC.toArray.size) := Lib.hid ((show zeroCe.size = 38 from rfl).trans (by rw [List.size_toArray, HYL.out]))
      have HALL : Hid (YC.toArray.all (·.oneCell') = true) := Lib.hid (all_oneCell_toArray (by rw [HYC.out]; intro u hu; rcases List.mem_append.1 hu with h | h; exact Wcm.one _ u h; rw [List.mem_singleton.1 h]; rfl))
      clear hlt hj hc
      go_wp2_with (first
        | (refine wpList_load_row rfl 80 _ rfl w.heap.size rfl 80 YC.toArray _ _ HB.out Tryd.underlying80 rfl HYS.out ?_)
        | (refine wpList_store_blk rfl 80 _ _ rfl (w.heap.size + 1) YC.toArray rfl rfl 80 zeroCe HBZ.out HYS.out HZC.out HALL.out ?_
           intro w9 hb9 hf9
           have HB9 := Lib.hid hb9
           have HF9 := Lib.hid hf9
           clear hb9 hf9))
      have hoe := own_keep HOE.out HF9.out (fun q hq hm => by have h1 := HNA.out q ((bk_mem A1 j c1 q).1 hq); simp at hm; omega)
      refine bodyPost_ret (v := .agg YC.toArray) (results_cell_row Tryd.results36 _ _ (w.heap.size + 1) 80 YC.toArray _ _ rfl HB9.out Tryd.underlying80 rfl HYS.out) rfl ⟨⟨ncm k, A1, j, c1, l.map nst⟩, by rw [HYC.out]; rfl, fun S0 h0 => ⟨ncm_ok HKO.out, ?_, HN.out, fun _ a ha hin => ?_⟩, rfl, rfl, ?_⟩
      · refine Lst.of_own hoe (by rw [List.length_map]; exact HL.out.1) (fun u hu => ?_)
        obtain ⟨y, hy, rfl⟩ := List.mem_map.1 hu
        have hyo := nst_ok (HL.out.2.1 y hy).2
        exact ⟨Wst.len hyo.h, hyo⟩
      · have h1 := HNA.out a.block (by have ha' : A1 = some a := ha; rw [ha']; simp [bk])
        have h2 := h0 _ hin
        omega
      · exact HF.out.and HF9.out (by simp)
end Go.Proofs.YtjpmiigoglcoaaaDoor

namespace Go.Proofs.YtjpmiigoglcoaaaDoor
open Go.RowKit
set_option maxRecDepth 100000
def All2 {α β : Type} (R : α → β → Prop) : List α → List β → Prop
  | [], [] => True
  | a :: xs, b :: ys => R a b ∧ All2 R xs ys
  | _, _ => False
theorem forall2_snoc {α β : Type} {R : α → β → Prop} : ∀ {xs : List α} {ys : List β} {a : α} {b : β}, All2 R xs ys → R a b → All2 R (xs ++ [a]) (ys ++ [b])
  | [], [], _, _, _, h => ⟨h, trivial⟩
  | [], _ :: _, _, _, h, _ => h.elim
  | _ :: _, [], _, _, h, _ => h.elim
  | _ :: _, _ :: _, _, _, h, k => ⟨h.1, forall2_snoc h.2 k⟩
theorem All2.len {α β : Type} {R : α → β → Prop} : ∀ {xs : List α} {ys : List β}, All2 R xs ys → xs.length = ys.length
  | [], [], _ => rfl
  | [], _ :: _, h => h.elim
  | _ :: _, [], h => h.elim
  | _ :: _, _ :: _, h => by simp [All2.len h.2]
def nceR (x y : Wce) : Prop := y.k = ncm x.k ∧ y.l = x.l.map nst
def nprR (x y : Wpr) : Prop := y.r = upI x.r ∧ y.e = upI x.e ∧ y.t = x.t ∧ y.b = upI x.b ∧ y.m = upI x.m ∧ All2 nceR x.l y.l
theorem nice_any' (x : Wce) (w : World) (hx : x.Ok w []) (C : List Value) (hC : x.cells = C) :
    Calls Tryd.prog 36 #[.agg C.toArray] w fun e w' => ∃ y : Wce, e = .returned y.val ∧ (∀ S0 : List Nat, (∀ q ∈ S0, q < w.heap.size) → y.Ok w' S0) ∧ nceR x y ∧ Fr [] w w' :=
  (nice_any x w hx C hC).mono fun _ _ ⟨y, h1, h2, h3, h4, h5⟩ => ⟨y, h1, h2, ⟨h3, h4⟩, h5⟩
theorem blk_pr1 {w : World} {g : Nat} {t : TypeId} {x : Wpr} {r : Int} (hb : Blk w g t x.cells.toArray) : Blk (w.setCells g 0 [.int .i64 r]) g t (Wpr.cells ⟨r, x.e, x.t, x.A, x.n, x.d, x.l, x.b, x.m⟩).toArray :=
  Blk.mid_at [.int .i64 r] [.int .i64 x.r] [] [.int .i64 x.e, .int .u64 (x.t : Int), .slice x.A x.n x.d, .int .i64 x.b, .int .i64 x.m] 0 rfl rfl _ _ rfl rfl hb
theorem blk_pr2 {w : World} {g : Nat} {t : TypeId} {x : Wpr} {e : Int} (hb : Blk w g t x.cells.toArray) : Blk (w.setCells g 1 [.int .i64 e]) g t (Wpr.cells ⟨x.r, e, x.t, x.A, x.n, x.d, x.l, x.b, x.m⟩).toArray :=
  Blk.mid_at [.int .i64 e] [.int .i64 x.e] [.int .i64 x.r] [.int .u64 (x.t : Int), .slice x.A x.n x.d, .int .i64 x.b, .int .i64 x.m] 1 rfl rfl _ _ rfl rfl hb
theorem blk_pr3 {w : World} {g : Nat} {t : TypeId} {x : Wpr} {b m : Int} (hb : Blk w g t x.cells.toArray) : Blk (w.setCells g 4 [.int .i64 b, .int .i64 m]) g t (Wpr.cells ⟨x.r, x.e, x.t, x.A, x.n, x.d, x.l, b, m⟩).toArray :=
  Blk.mid_at [.int .i64 b, .int .i64 m] [.int .i64 x.b, .int .i64 x.m] [.int .i64 x.r, .int .i64 x.e, .int .u64 (x.t : Int), .slice x.A x.n x.d] [] 4 rfl rfl _ _ rfl rfl hb

set_option maxHeartbeats 8000000 in
theorem nicePromise_any (x : Wpr) (w : World) (hx : x.Ok w []) (C : List Value) (hC : x.cells = C) :
    Calls Tryd.prog 14 #[.agg C.toArray] w fun e w' => ∃ y : Wpr, e = .returned y.val ∧ (∀ S0 : List Nat, (∀ q ∈ S0, q < w.heap.size) → y.Ok w' S0) ∧ nprR x y ∧ Fr [] w w' := by
  subst hC
  obtain ⟨wa, hwa⟩ : ∃ wa, wa = (w.alloc (Obj.cells x.cells.toArray 49)).alloc (Obj.cells zeroPr 49) := ⟨_, rfl⟩
  have hf0 : Fr [] w wa := by rw [hwa]; exact ((Fr.refl [] w).alloc _).alloc _
  have hb0 : Blk wa w.heap.size 49 x.cells.toArray := by rw [hwa]; exact blk_alloc (Blk.new _ _ _)
  have hb1 : Blk wa (w.heap.size + 1) 49 zeroPr := by
    have := Blk.new (w.alloc (Obj.cells x.cells.toArray 49)) 49 zeroPr
    rw [hwa]
    simpa using this
  obtain ⟨r, e, t, A, n, d, l, b, m⟩ := x
  have hr0 := hb0.range
  have HR0 : Hid (wa.cell? ⟨w.heap.size, 0, none⟩ = some (.int .i64 r)) := Lib.hid (by have h := hr0 0 _ rfl; simpa using h)
  have HR1 : Hid (wa.cell? ⟨w.heap.size, 1, none⟩ = some (.int .i64 e)) := Lib.hid (by have h := hr0 1 _ rfl; simpa using h)
  have HR4 : Hid (wa.rangeAt w.heap.size 4 [.int .i64 b, .int .i64 m]) := Lib.hid (rangeAt_sub (o := 0) (xs := [.int .i64 r, .int .i64 e, .int .u64 (t : Int), .slice A n d]) (ys := [.int .i64 b, .int .i64 m]) (zs := []) hr0)
  have HXO : Hid (i64In r ∧ i64In e ∧ t < 18446744073709551616 ∧ i64In b ∧ i64In m) := Lib.hid ⟨hx.r, hx.e, hx.t, hx.b, hx.m⟩
  have HL : Hid (Lst 38 Wce.cells (fun w v => v.Ok w []) w A n l) := Lib.hid hx.l
  have HN : Hid (n ≤ 3) := Lib.hid hx.n
  have HB0 := Lib.hid hb0
  have HB1 := Lib.hid hb1
  have HF0 := Lib.hid hf0
  have HWA := Lib.hid hwa
  have HSZ : Hid (w.heap.size + 2 ≤ wa.heap.size) := Lib.hid (by have := hb1.lt; omega)
  clear hwa hf0 hb0 hb1 hr0 hx
  obtain ⟨CV, hCV⟩ : ∃ CV, CV = Wpr.cells ⟨r, e, t, A, n, d, l, b, m⟩ := ⟨_, rfl⟩
  have HCV := Lib.hid hCV
  rw [← hCV] at HWA HB0 ⊢
  clear hCV
  go_enter Tryd.func14, Tryd.ntmps14
  go_upto_region 1 with (fail)
  change Code.wp _ _ _ _ ((w.alloc (Obj.cells CV.toArray 49)).alloc (Obj.cells zeroPr 49))
  rw [← HWA.out]
  refine wp_region_till 10 (Fr [w.heap.size] wa) (Fr [] wa) (by kernel_rfl) (Fr.drew (Fr.refl _ wa)) (Fr.drew (Fr.refl _ wa)) (fun hA hB => ?_)
  generalize wa.drew = wd at *
  refine till_run (i := 0) (v := ?_) rfl (by kernel_rfl) (by rfl) (fun _ _ _ h => h) hA hB (fun w1 hw1 => ?_) ?_
  rotate_left 1
  · skip
    go_simp
    (try (first | with_reducible rfl | (apply And.intro <;> rfl)))
  simp only [Act.put, List.setIfInBounds_toArray, List.set_cons_zero, List.set_cons_succ]
  refine till_run (i := 1) (v := ?_) rfl (by kernel_rfl) (by rfl) (fun _ _ _ h => h) hA hB (fun w1 hw1 => ?_) ?_
  rotate_left 1
  · skip
    have hcw0 := hw1.cell (HR0.out) (by first | (simp; done) | exact HNS.out | exact HNW.out | (intro hm; have hlt := HSB.out _ hm; (try dsimp only at hlt); omega))
    go_simp
    (try (first | with_reducible rfl | (apply And.intro <;> rfl)))
  simp only [Act.put, List.setIfInBounds_toArray, List.set_cons_zero, List.set_cons_succ]
  refine till_run (i := 3) (v := ?_) rfl (by kernel_rfl) (by rfl) (fun _ _ _ h => h) hA hB (fun w1 hw1 => ?_) ?_
  rotate_left 1
  · skip
    go_simp
    (try (first | with_reducible rfl | (apply And.intro <;> rfl)))
  simp only [Act.put, List.setIfInBounds_toArray, List.set_cons_zero, List.set_cons_succ]
  refine till_run (i := 4) (v := ?_) rfl (by kernel_rfl) (by rfl) (fun _ _ _ h => h) hA hB (fun w1 hw1 => ?_) ?_
  rotate_left 1
  · skip
    have hcw0 := hw1.cell (HR1.out) (by first | (simp; done) | exact HNS.out | exact HNW.out | (intro hm; have hlt := HSB.out _ hm; (try dsimp only at hlt); omega))
    go_simp
    (try (first | with_reducible rfl | (apply And.intro <;> rfl)))
  simp only [Act.put, List.setIfInBounds_toArray, List.set_cons_zero, List.set_cons_succ]
  refine till_run (i := 6) (v := ?_) rfl (by kernel_rfl) (by rfl) (fun _ _ _ h => h) hA hB (fun w1 hw1 => ?_) ?_
  rotate_left 1
  · skip
    go_simp
    (try (first | with_reducible rfl | (apply And.intro <;> rfl)))
  simp only [Act.put, List.setIfInBounds_toArray, List.set_cons_zero, List.set_cons_succ]
  refine till_row (i := 7) rfl (by kernel_rfl) (by rfl) _ _ rfl _ _ rfl _ (fun w1 hw1 => hw1.range (HR4.out) (by first | (simp; done) | exact HNS.out | exact HNW.out | (intro hm; have hlt := HSB.out _ hm; (try dsimp only at hlt); omega))) (row_sg2) (fun _ _ _ h => h) hA hB ?_
  simp only [Act.put, List.setIfInBounds_toArray, List.set_cons_zero, List.set_cons_succ]
  refine till_call (i := 2) (f := ?_) (args := ?_) rfl (by kernel_rfl) (by rfl) ?_ ?_
  rotate_left 2
  · go_simp
    (try (first | with_reducible rfl | (apply And.intro <;> rfl)))
  refine (up_any r HXO.out.1 wd).mono ?_
  rintro e_ w1 ⟨rfl, rfl⟩
  refine ⟨_, rfl, ⟨hA, hB⟩, fun hB => ?_⟩
  simp only [Act.put, List.setIfInBounds_toArray, List.set_cons_zero, List.set_cons_succ]
  refine till_run (i := 9) (v := ?_) rfl (by kernel_rfl) (by rfl) (fun _ _ _ h => h) hA hB (fun w1 hw1 => ?_) ?_
  rotate_left 1
  · skip
    go_simp
    (try (first | with_reducible rfl | (apply And.intro <;> rfl)))
  simp only [Act.put, List.setIfInBounds_toArray, List.set_cons_zero, List.set_cons_succ]
  refine till_call (i := 5) (f := ?_) (args := ?_) rfl (by kernel_rfl) (by rfl) ?_ ?_
  rotate_left 2
  · go_simp
    (try (first | with_reducible rfl | (apply And.intro <;> rfl)))
  refine (up_any e HXO.out.2.1 wd).mono ?_
  rintro e_ w1 ⟨rfl, rfl⟩
  refine ⟨_, rfl, ⟨hA, hB⟩, fun hB => ?_⟩
  simp only [Act.put, List.setIfInBounds_toArray, List.set_cons_zero, List.set_cons_succ]
  refine till_call (i := 8) (f := ?_) (args := ?_) rfl (by kernel_rfl) (by rfl) ?_ ?_
  rotate_left 2
  · go_simp
    (try (first | with_reducible rfl | (apply And.intro <;> rfl)))
  refine (niceSig_any b m HXO.out.2.2.2.1 HXO.out.2.2.2.2 wd).mono ?_
  rintro e_ w2 ⟨rfl, hf⟩
  refine ⟨_, rfl, ⟨hA.go hf (by simp), hB.and hf (by simp)⟩, fun hB => ?_⟩
  replace hA := hA.go hf (by simp)
  clear hf
  simp only [Act.put, List.setIfInBounds_toArray, List.set_cons_zero, List.set_cons_succ]
  have hbx := HB0.out.keep hB (by simp)
  rw [HCV.out] at hbx
  refine till_step (i := 10) rfl (by kernel_rfl) (by kernel_rfl) (by rfl) (fun K hK => ?_)
  refine wp_store_at 3 _ _ rfl w.heap.size 0 (.int .i64 (upI r)) rfl rfl rfl 49 _ hbx (by rw [List.size_toArray]; exact (by decide : 0 < 6)) (by kernel_rfl) ?_
  have hby := blk_pr1 (r := upI r) hbx
  refine hK.out _ _ (Fr.setCells (fun _ => by simp) _ _ _ hA) (fun hA => ?_)
  clear hK K hbx
  generalize w2.setCells w.heap.size 0 [.int .i64 (upI r)] = w3 at *
  simp only [Act.put, List.setIfInBounds_toArray, List.set_cons_zero, List.set_cons_succ]
  refine till_step (i := 11) rfl (by kernel_rfl) (by kernel_rfl) (by rfl) (fun K hK => ?_)
  refine wp_run (v := ?_) (w' := ?_) ?_ ?_
  rotate_left 2
  · go_simp
    (try (first | with_reducible rfl | (apply And.intro <;> rfl)))
  refine hK.out _ _ hA (fun hA => ?_)
  clear hK K
  simp only [Act.put, List.setIfInBounds_toArray, List.set_cons_zero, List.set_cons_succ]
  refine till_step (i := 12) rfl (by kernel_rfl) (by kernel_rfl) (by rfl) (fun K hK => ?_)
  refine wp_store_at 3 _ _ rfl w.heap.size 1 (.int .i64 (upI e)) rfl rfl rfl 49 _ hby (by rw [List.size_toArray]; exact (by decide : 1 < 6)) (by kernel_rfl) ?_
  have hbz := blk_pr2 (e := upI e) hby
  refine hK.out _ _ (Fr.setCells (fun _ => by simp) _ _ _ hA) (fun hA => ?_)
  clear hK K hby
  generalize w3.setCells w.heap.size 1 [.int .i64 (upI e)] = w4 at *
  simp only [Act.put, List.setIfInBounds_toArray, List.set_cons_zero, List.set_cons_succ]
  refine till_step (i := 13) rfl (by kernel_rfl) (by kernel_rfl) (by rfl) (fun K hK => ?_)
  refine wp_run (v := ?_) (w' := ?_) ?_ ?_
  rotate_left 2
  · go_simp
    (try (first | with_reducible rfl | (apply And.intro <;> rfl)))
  refine hK.out _ _ hA (fun hA => ?_)
  clear hK K
  simp only [Act.put, List.setIfInBounds_toArray, List.set_cons_zero, List.set_cons_succ]
  refine till_step (i := 14) rfl (by kernel_rfl) (by kernel_rfl) (by rfl) (fun K hK => ?_)
  refine wp_store_mid 47 _ _ rfl w.heap.size 4 #[.int .i64 (upI b), .int .i64 (upI m)] rfl rfl (hbz.there 4 2 (by rw [List.size_toArray]; exact (by decide : 4 + 2 ≤ 6))) (by kernel_rfl) (by kernel_rfl) ?_
  have hbw := blk_pr3 (b := upI b) (m := upI m) hbz
  refine hK.out _ _ (Fr.setCells (fun _ => by simp) _ _ _ hA) (fun hA => ?_)
  clear hK K hbz
  rw [show (#[Value.int .i64 (upI b), .int .i64 (upI m)] : Array Value).toList = [.int .i64 (upI b), .int .i64 (upI m)] from rfl] at *
  generalize w4.setCells w.heap.size 4 [.int .i64 (upI b), .int .i64 (upI m)] = w5 at *
  simp only [Act.put, List.setIfInBounds_toArray, List.set_cons_zero, List.set_cons_succ]
  refine till_done (by kernel_rfl) ?_ _
  have HBW : Hid (Blk w5 w.heap.size 49 (Wpr.cells ⟨upI r, upI e, t, A, n, d, l, upI b, upI m⟩).toArray) := Lib.hid hbw
  have HB15 := Lib.hid (HB1.out.keep hA (by simp))
  have HFA : Hid (Fr [w.heap.size] wa w5) := Lib.hid hA
  have HF5 : Hid (Fr [] w w5) := Lib.hid (HF0.out.trans hA (fun x hx hl => by simp at hx; omega))
  have hc5 : w5.cell? ⟨w.heap.size, 3, none⟩ = some (.slice A n d) := by
    have h := HBW.out.range 3 _ rfl
    simpa using h
  clear hA hB hbw HB0 HB1
  go_wp2_with (at_builtin; refine Stop.mk ?_)
  refine Stop.go ?_
  refine wpList_append_lst (ok := fun w v => Wce.Ok w [] v) _ rfl (.const (.slice none 0 0)) (.tmp 17) _ rfl 80 38 96 Tryd.underlying45 el_cert (by decide) (by decide) Wce.one rfl A n d l rfl (HL.out.keep' HF5.out (by simp) (fun _ _ h => Wce.Ok.keep (S' := []) h HF5.out (by simp))) (by have := HN.out; omega) ?_
  intro A1 c1 w6 hN
  have hb6 := HBW.out.keep hN.2.1 (by simp)
  have hc6 := hN.2.1.cell hc5 (by simp)
  have hz6 := hb6.frozen 3
  have hb7 : Blk (w6.setCell ⟨w.heap.size, 3, none⟩ (Value.slice A1 n c1)) w.heap.size 49 (Wpr.cells ⟨upI r, upI e, t, A1, n, c1, l, upI b, upI m⟩).toArray := hb6.set 3 (Value.slice A1 n c1)
  have hne := own_ne hN.1 hb6 (by decide)
  have HO7 := Lib.hid (own_setCell hN.1 ⟨w.heap.size, 3, none⟩ hne (Value.slice A1 n c1))
  have HB7 := Lib.hid hb7
  have HZ7 := Lib.hid ((HB15.out.keep hN.2.1 (by simp)).keep ((Fr.refl [w.heap.size] w6).setCell ⟨w.heap.size, 3, none⟩ (fun _ => by simp) (Value.slice A1 n c1)) (by simp))
  have HF7 : Hid (Fr [] w (w6.setCell ⟨w.heap.size, 3, none⟩ (Value.slice A1 n c1))) := Lib.hid ((HF5.out.and hN.2.1 (by simp)).trans ((Fr.refl [w.heap.size] w6).setCell ⟨w.heap.size, 3, none⟩ (fun _ => by simp) (Value.slice A1 n c1)) (fun x hx hl => by simp at hx; omega))
  have HNA : Hid (∀ q ∈ bk A1, w.heap.size + 2 ≤ q) := Lib.hid (fun q hq => by have h1 := hN.2.2 q hq; have h2 := HFA.out.size; have h3 := HSZ.out; omega)
  clear hN hb6 hb7 hne hc5
  go_upto_region 3 with (fail)
  clear hc6 hz6
  generalize w6.setCell ⟨w.heap.size, 3, none⟩ (Value.slice A1 n c1) = w7 at *
  obtain ⟨YC, hYC⟩ : ∃ YC, YC = Wpr.cells ⟨upI r, upI e, t, A1, n, c1, l, upI b, upI m⟩ := ⟨_, rfl⟩
  have HYC := Lib.hid hYC
  rw [← hYC] at HB7
  clear hYC
  have HY37 : Hid (YC[3]? = some (.slice A1 n c1)) := Lib.hid (by rw [HYC.out]; rfl)
  have hc7 : w7.cell? ⟨w.heap.size, 3, none⟩ = some (.slice A1 n c1) := by
    have h := HB7.out.range 3 _ HY37.out
    simpa using h
  have hn1 : (n : Int) ≤ 9223372036854775807 := by have := HN.out; omega
  go_wp2_with fail
  clear hc7
  go_loopw [23] (fun i wr => ∃ (j : Nat) (ys : List Wce), j ≤ n ∧ i = .int .i64 j ∧ ys.length = j ∧ Hid (wr.ownsRow 0 80 38 (.slice A1 n c1) n ((ys ++ l.drop j).flatMap Wce.cells)) ∧ Hid (All2 nceR (l.take j) ys) ∧ Hid (∀ y ∈ ys, ∀ S0 : List Nat, (∀ q ∈ S0, q < w.heap.size + 2 ∨ q ∈ bk A1) → y.Ok wr S0) ∧ Hid (Blk wr w.heap.size 49 YC.toArray ∧ Blk wr (w.heap.size + 1) 49 zeroPr) ∧ Hid (Fr [] w wr)) (fun i _ => n - (intOf i).toNat)
  case atStart => exact ⟨0, [], by omega, rfl, rfl, Lib.hid (by simpa using HO7.out), Lib.hid trivial, Lib.hid (by simp), Lib.hid ⟨HB7.out, HZ7.out⟩, HF7⟩
  case round =>
    obtain ⟨j, ys, hj, rfl, hyl, HO, HREL, HYS, HBB, HF⟩ := hrel
    have hc : wr.cell? ⟨w.heap.size, 3, none⟩ = some (.slice A1 n c1) := by
      have h := HBB.out.1.range 3 _ HY37.out
      simpa using h
    by_cases hlt : j < n
    · skip
      obtain ⟨gA, rfl⟩ : ∃ gA, A1 = some ⟨gA, 0, none⟩ := by
        obtain ⟨g', cap, hv, _⟩ := HO.out.form (by omega)
        injection hv with h1
        exact ⟨g', h1⟩
      have hlj : j < l.length := by rw [HL.out.1]; exact hlt
      obtain ⟨v, hv⟩ : ∃ v, v = l[j] := ⟨_, rfl⟩
      have hvm : v ∈ l := by rw [hv]; exact List.getElem_mem hlj
      have HVOK : Hid (v.Ok wr []) := Lib.hid ((HL.out.2.1 v hvm).2.keep HF.out (by simp))
      have HLEN : Hid (∀ u ∈ ys ++ l.drop j, (Wce.cells u).length = 38) := Lib.hid (fun u hu => by
        rcases List.mem_append.1 hu with h | h
        · exact Wce.len ((HYS.out u h [] (by simp)).k.h)
        · exact (HL.out.2.1 u (List.mem_of_mem_drop h)).1)
      have HGET : Hid ((ys ++ l.drop j)[j]? = some v) := Lib.hid (by rw [List.getElem?_append_right (by omega), hyl, Nat.sub_self, List.drop_eq_getElem_cons hlj, hv]; rfl)
      have HRNG : Hid (wr.rangeAt gA (j * 38) (Wce.cells v)) := Lib.hid (fun i u hu => by
        have h := HO.out.cells (g := gA) rfl _ _ (flat_at HLEN.out HGET.out hu)
        rw [add_at] at h
        exact h)
      have HCL : Hid ((Wce.cells v).length = 38) := Lib.hid ((HL.out.2.1 v hvm).1)
      have HJN : Hid (j < n) := Lib.hid hlt
      have HHC := Lib.hid hc
      have hj0 : (0 : Int) ≤ j := by omega
      have HGA : Hid (gA < wr.heap.size ∧ w.heap.size + 2 ≤ gA) := Lib.hid ⟨own_lt HO.out gA rfl, HNA.out gA (by simp [bk])⟩
      have HSET : Hid (∀ y, (ys ++ l.drop j).set j y = (ys ++ [y]) ++ l.drop (j + 1)) := Lib.hid (fun y => by
        rw [List.set_append_right _ _ (by omega), hyl, Nat.sub_self, List.drop_eq_getElem_cons hlj, List.set_cons_zero, List.append_assoc]
        rfl)
      have HTK : Hid (l.take (j + 1) = l.take j ++ [v]) := Lib.hid (by rw [List.take_succ_eq_append_getElem hlj, hv])
      clear hvm hv
      go_upto_region 6 with (fail)
      clear hc
      refine wp_region_till 10 (Fr [gA] wr) (Fr [] wr) (by kernel_rfl) (Fr.drew (Fr.refl _ wr)) (Fr.drew (Fr.refl _ wr)) (fun hA hB => ?_)
      have hwd : Hid (wr.heap.size ≤ wr.drew.heap.size) := Lib.hid (Nat.le_refl _)
      generalize wr.drew = wd at *
      refine till_run (i := 0) (v := ?_) rfl (by kernel_rfl) (by rfl) (fun _ _ _ h => h) hA hB (fun w1 hw1 => ?_) ?_
      rotate_left 1
      · skip
        go_simp
        (try (first | with_reducible rfl | (apply And.intro <;> rfl)))
      simp only [Act.put, List.setIfInBounds_toArray, List.set_cons_zero, List.set_cons_succ]
      refine till_run (i := 1) (v := ?_) rfl (by kernel_rfl) (by rfl) (fun _ _ _ h => h) hA hB (fun w1 hw1 => ?_) ?_
      rotate_left 1
      · skip
        have hcw0 := hw1.cell (HHC.out) (by first | (simp; done) | exact HNS.out | exact HNW.out | (intro hm; have hlt := HSB.out _ hm; (try dsimp only at hlt); omega))
        go_simp
        (try (first | with_reducible rfl | (apply And.intro <;> rfl)))
      simp only [Act.put, List.setIfInBounds_toArray, List.set_cons_zero, List.set_cons_succ]
      refine till_run (i := 2) (v := ?_) rfl (by kernel_rfl) (by rfl) (fun _ _ _ h => h) hA hB (fun w1 hw1 => ?_) ?_
      rotate_left 1
      · skip
        go_simp
        (try (first | with_reducible rfl | (apply And.intro <;> rfl)))
      simp only [Act.put, List.setIfInBounds_toArray, List.set_cons_zero, List.set_cons_succ]
      refine till_run (i := 3) (v := ?_) rfl (by kernel_rfl) (by rfl) (fun _ _ _ h => h) hA hB (fun w1 hw1 => ?_) ?_
      rotate_left 1
      · skip
        go_simp
        (try (first | with_reducible rfl | (apply And.intro <;> rfl)))
      simp only [Act.put, List.setIfInBounds_toArray, List.set_cons_zero, List.set_cons_succ]
      refine till_run (i := 4) (v := ?_) rfl (by kernel_rfl) (by rfl) (fun _ _ _ h => h) hA hB (fun w1 hw1 => ?_) ?_
      rotate_left 1
      · skip
        have hcw0 := hw1.cell (HHC.out) (by first | (simp; done) | exact HNS.out | exact HNW.out | (intro hm; have hlt := HSB.out _ hm; (try dsimp only at hlt); omega))
        go_simp
        (try (first | with_reducible rfl | (apply And.intro <;> rfl)))
      simp only [Act.put, List.setIfInBounds_toArray, List.set_cons_zero, List.set_cons_succ]
      refine till_run (i := 5) (v := ?_) rfl (by kernel_rfl) (by rfl) (fun _ _ _ h => h) hA hB (fun w1 hw1 => ?_) ?_
      rotate_left 1
      · skip
        go_simp
        (try (first | with_reducible rfl | (apply And.intro <;> rfl)))
      simp only [Act.put, List.setIfInBounds_toArray, List.set_cons_zero, List.set_cons_succ]
      refine till_run (i := 6) (v := ?_) rfl (by kernel_rfl) (by rfl) (fun _ _ _ h => h) hA hB (fun w1 hw1 => ?_) ?_
      rotate_left 1
      · skip
        go_simp
        (try (first | with_reducible rfl | (apply And.intro <;> rfl)))
      simp only [Act.put, List.setIfInBounds_toArray, List.set_cons_zero, List.set_cons_succ]
      refine till_row (i := 7) rfl (by kernel_rfl) (by rfl) _ _ rfl _ _ rfl _ (fun w1 hw1 => hw1.range (HRNG.out) (by first | (simp; done) | exact HNS.out | exact HNW.out | (intro hm; have hlt := HSB.out _ hm; (try dsimp only at hlt); omega))) (row_crt.of HCL.out) (fun _ _ _ h => h) hA hB ?_
      simp only [Act.put, List.setIfInBounds_toArray, List.set_cons_zero, List.set_cons_succ]
      refine till_call (i := 8) (f := ?_) (args := ?_) rfl (by kernel_rfl) (by rfl) ?_ ?_
      rotate_left 2
      · go_simp
        (try (first | with_reducible rfl | (apply And.intro <;> rfl)))
      refine (nice_any' v wd (HVOK.out.keep hB (by simp)) _ rfl).mono ?_
      rintro e_ w9 ⟨y, rfl, hyok, hyr, hf⟩
      refine ⟨_, rfl, ⟨hA.go hf (by simp), hB.and hf (by simp)⟩, fun hB => ?_⟩
      replace hA := hA.go hf (by simp)
      have HYN : Hid (∀ S0 : List Nat, (∀ q ∈ S0, q < w.heap.size + 2 ∨ q ∈ [gA]) → y.Ok w9 S0) := Lib.hid (fun S0 h0 => hyok S0 (fun q hq => by
        have h1 := hB.size
        have h2 := hf.size
        have h3 := HGA.out
        rcases h0 q hq with h | h
        · have := hwd.out; omega
        · simp at h; have := hwd.out; omega))
      have HYR := Lib.hid hyr
      have hyl38 : (Wce.cells y).length = 38 := Wce.len (hyok [] (by simp)).k.h
      have HO9 := Lib.hid (own_keep HO.out hB (by simp))
      have HFX : Hid (Fr [] wr w9) := Lib.hid hB
      have HPUT := Lib.hid (own_put (cells := Wce.cells) HO9.out HLEN.out (i := j) (by simp; omega) y hyl38)
      have HN1 := Lib.hid (all_oneCell_toArray (Wce.one y))
      have HTH : Hid (w9.there gA (j * 38) (Wce.cells y).toArray.size) := Lib.hid (by rw [List.size_toArray, hyl38]; exact HPUT.out.2)
      have HNS2 : Hid ((Tryd.prog.info? 80).map (·.size) = some (Wce.cells y).toArray.size) := Lib.hid (by rw [List.size_toArray, hyl38]; kernel_rfl)
      clear hf hyok hyr hyl38
      unfold Wce.val
      generalize hCN : (Wce.cells y) = CN at *
      clear hCN
      simp only [Act.put, List.setIfInBounds_toArray, List.set_cons_zero, List.set_cons_succ]
      refine till_run (i := 9) (v := ?_) rfl (by kernel_rfl) (by rfl) (fun _ _ _ h => h) hA hB (fun w1 hw1 => ?_) ?_
      rotate_left 1
      · skip
        go_simp
        (try (first | with_reducible rfl | (apply And.intro <;> rfl)))
      simp only [Act.put, List.setIfInBounds_toArray, List.set_cons_zero, List.set_cons_succ]
      refine till_step (i := 10) rfl (by kernel_rfl) (by kernel_rfl) (by rfl) (fun K hK => ?_)
      refine wp_store_mid 80 _ _ rfl gA (j * 38) CN.toArray rfl rfl HTH.out HNS2.out HN1.out ?_
      rw [show CN.toArray.toList = CN from rfl]
      have HFS : Hid (Fr [gA] w9 (w9.setCells gA (j * 38) CN)) := Lib.hid (Fr.setCells (fun _ => by simp) _ _ _ (Fr.refl _ _))
      have HO10 : Hid ((w9.setCells gA (j * 38) CN).ownsRow 0 80 38 (.slice (some ⟨gA, 0, none⟩) n c1) n (((ys ++ [y]) ++ l.drop (j + 1)).flatMap Wce.cells)) := Lib.hid (by have h := HPUT.out.1; rw [HSET.out] at h; exact h)
      generalize w9.setCells gA (j * 38) CN = w10 at *
      refine hK.out _ _ (hA.trans HFS.out (fun x hx _ => hx)) (fun hA => ?_)
      clear hK K
      simp only [Act.put, List.setIfInBounds_toArray, List.set_cons_zero, List.set_cons_succ]
      refine till_done (by kernel_rfl) ?_ _
      have HFW : Hid (Fr [gA] wr w10) := Lib.hid hA
      clear hA hB
      go_wp2
      go_roundw
      case rel =>
        refine ⟨j + 1, ys ++ [y], by have := HJN.out; omega, by go_num, by simp [hyl], HO10, ?_, ?_, Lib.hid ⟨HBB.out.1.keep HFW.out (by simp; have := HGA.out; omega), HBB.out.2.keep HFW.out (by simp; have := HGA.out; omega)⟩, Lib.hid (HF.out.trans HFW.out (fun x hx hl => by simp at hx; have := HGA.out; omega))⟩
        · refine Lib.hid ?_
          rw [HTK.out]
          exact forall2_snoc HREL.out HYR.out
        · refine Lib.hid (fun u hu => ?_)
          rcases List.mem_append.1 hu with hu | hu
          · exact keepAll (ok := fun w S x => Wce.Ok w S x) (fun h f s => h.keep f s) (w := wr) (B4 := [gA]) (B9 := [gA]) HFW.out (fun q hq => .inl hq) (HYS.out u hu)
          · rw [List.mem_singleton.1 hu]
            exact keepAll (ok := fun w S x => Wce.Ok w S x) (fun h f s => h.keep f s) (w := w9) (B4 := [gA]) (B9 := [gA]) HFS.out (fun q hq => .inl hq) HYN.out
      case measure => have := HJN.out; simp [intOf]; omega
    · skip
      have hjn : j = n := by omega
      subst hjn
      have HOE : Hid (wr.ownsRow 0 80 38 (.slice A1 j c1) j (ys.flatMap Wce.cells)) := Lib.hid (by
        have h := HO.out
        have hl := HL.out.1
        rw [List.drop_of_length_le (by omega), List.append_nil] at h
        exact h)
      have HREL2 : Hid (All2 nceR l ys) := Lib.hid (by
        have h := HREL.out
        have hl := HL.out.1
        rw [List.take_of_length_le (by omega)] at h
        exact h)
      have HYL : Hid (YC.length = 6) := Lib.hid (by rw [HYC.out]; rfl)
      have HYSZ : Hid ((Tryd.prog.info? 49).map (·.size) = some YC.toArray.size) := Lib.hid (by rw [List.size_toArray, HYL.out]; kernel_rfl)
      have HZC : Hid (zeroPr.size = YC.toArray.size) := Lib.hid ((show zeroPr.size = 6 from rfl).trans (by rw [List.size_toArray, HYL.out]))
      have HALL : Hid (YC.toArray.all (·.oneCell') = true) := Lib.hid (all_oneCell_toArray (by rw [HYC.out]; exact Wpr.one _))
      clear hlt hj hc
      go_wp2_with (first
        | (refine wpList_load_row rfl 49 _ rfl w.heap.size rfl 49 YC.toArray _ _ HBB.out.1 Tryd.underlying49 rfl HYSZ.out ?_)
        | (refine wpList_store_blk rfl 49 _ _ rfl (w.heap.size + 1) YC.toArray rfl rfl 49 zeroPr HBB.out.2 HYSZ.out HZC.out HALL.out ?_
           intro w9 hb9 hf9
           have HB9 := Lib.hid hb9
           have HF9 := Lib.hid hf9
           clear hb9 hf9))
      have hoe := own_keep HOE.out HF9.out (fun q hq hm => by have h1 := HNA.out q ((bk_mem A1 j c1 q).1 hq); simp at hm; omega)
      refine bodyPost_ret (v := .agg YC.toArray) (results_cell_row Tryd.results14 _ _ (w.heap.size + 1) 49 YC.toArray _ _ rfl HB9.out Tryd.underlying49 rfl HYSZ.out) rfl ⟨⟨upI r, upI e, t, A1, j, c1, ys, upI b, upI m⟩, by rw [HYC.out]; rfl, fun S0 h0 => ⟨upI_in _, upI_in _, HXO.out.2.2.1, ?_, HN.out, fun _ a ha hin => ?_, upI_in _, upI_in _⟩, ⟨rfl, rfl, rfl, rfl, rfl, HREL2.out⟩, ?_⟩
      · refine Lst.of_own hoe hyl (fun u hu => ?_)
        have hyo := (HYS.out u hu ((w.heap.size + 1) :: S0) (fun q hq => by rcases List.mem_cons.1 hq with h | h; exact .inl (by omega); exact .inl (by have := h0 q h; omega))).keep (S' := S0) (HF9.out.mono (by intro k hk _; simp at hk; simp [hk])) (fun q hq _ => by simp [hq])
        exact ⟨Wce.len hyo.k.h, hyo⟩
      · have h1 := HNA.out a.block (by have ha' : A1 = some a := ha; rw [ha']; simp [bk])
        have h2 := h0 _ hin
        omega
      · exact HF.out.and HF9.out (by simp)
end Go.Proofs.YtjpmiigoglcoaaaDoor
