/- Texts that the proof stands on: Package part: its readers of lists, of certificates, promises, openings, tombstones, batches. (written by gen_rp2.py) | Package part: its readers of a certificate, a promise, an opening, a tombstone, a batch. (written by gen_rp3.py) | Package part: its readers of acks, votes, places, proposals, what was decided. (written by gen_mr.py) | Package wire: GetCert, GetPromise, GetBatch: all of it, or the zero value. (written by gen_rp4.py) | gavelref01's Reader: the document's own answers. | gavelref01's Reader: Int, Row, Hash; and code's reader beside it, each read as one function of what is left. | gavelref01's Reader: Hash. | gavelref01's Reader: names, signatures, commitments, stamps, denials, openings. (written by gen_rq.py) | Cells in the middle of a block; gavellaw05's up, niceName, niceSig. (written by gen_nic.py) | gavellaw05's nice: a certificate of numbers from 0 on, not too great. (written by gen_nic2.py) | gavelref01's Reader: certificates. (written by gen_rq2.py) -/
import Derived.Test.YtdenpfcgghangaaGreatKQ1
import Derived.Test.YtdenpfcgghangaaGreatRHash
import Derived.Test.YtdenpfcgghangaaGreatRead
import Derived.Test.YtdenpfcgghangaaGreatLend
import Derived.Deep.DeepCutAuto
import Derived.Deep.CutBlock
import Derived.Outline
set_option linter.unusedSimpArgs false
set_option linter.unusedVariables false
set_option maxRecDepth 100000

namespace Go.Proofs.YtdenpfcgghangaaGreat
open Go.RowKit
set_option maxRecDepth 100000
def pRep {α : Type} (p : Ps → α × Ps) : Nat → Ps → List α × Ps
 | 0, s => ([], s)
 | n + 1, s => ((pRep p n s).1 ++ [(p (pRep p n s).2).1], (p (pRep p n s).2).2)
def pL {α : Type} (p : Ps → α × Ps) (s : Ps) : List α × Ps := pRep p (pC s).1 (pC s).2
structure Wce.Li (w : World) (S : List Nat) (x : Wce) : Prop where
 k : x.k.Ok
 l : Lst 38 Wst.cells (fun _ v => v.Ok) w x.A x.n x.l
 n : x.n ≤ 100
 ap : 0 < x.n → ∀ a, x.A = some a → ¬ a.block ∈ S
theorem Wce.Li.keep {w W : World} {S S' : List Nat} {x : Wce} (h : x.Li w S) (hf : Fr S w W) (hs : ∀ k ∈ S', k < w.heap.size → k ∈ S) : x.Li W S' :=
 ⟨h.k, h.l.keep' hf h.ap (fun _ _ h => h), h.n, fun hn a ha hin => h.ap hn a ha (hs _ hin (h.l.lt hn (by decide) (fun v hv => Wst.len (h.l.2.1 v hv).2.h) a ha))⟩
structure Wpr.Li (w : World) (S : List Nat) (x : Wpr) : Prop where
 r : i64In x.r
 e : i64In x.e
 t : x.t < 18446744073709551616
 l : Lst 38 Wce.cells (fun w v => v.Li w S) w x.A x.n x.l
 n : x.n ≤ 100
 ap : 0 < x.n → ∀ a, x.A = some a → ¬ a.block ∈ S
 b : i64In x.b
 m : i64In x.m
theorem Wpr.Li.keep {w W : World} {S S' : List Nat} {x : Wpr} (h : x.Li w S) (hf : Fr S w W) (hs : ∀ k ∈ S', k < w.heap.size → k ∈ S) : x.Li W S' :=
 ⟨h.r, h.e, h.t, h.l.keep' hf h.ap (fun _ _ h => h.keep hf hs), h.n, fun hn a ha hin => h.ap hn a ha (hs _ hin (h.l.lt hn (by decide) (fun v hv => Wce.len (h.l.2.1 v hv).2.k.h) a ha)), h.b, h.m⟩
structure Wtb.Li (w : World) (S : List Nat) (x : Wtb) : Prop where
 i : i64In x.i
 l : Lst 4 Wdn.cells (fun _ v => v.Ok) w x.A x.n x.l
 n : x.n ≤ 100
 ap : 0 < x.n → ∀ a, x.A = some a → ¬ a.block ∈ S
theorem Wtb.Li.keep {w W : World} {S S' : List Nat} {x : Wtb} (h : x.Li w S) (hf : Fr S w W) (hs : ∀ k ∈ S', k < w.heap.size → k ∈ S) : x.Li W S' :=
 ⟨h.i, h.l.keep' hf h.ap (fun _ _ h => h), h.n, fun hn a ha hin => h.ap hn a ha (hs _ hin (h.l.lt hn (by decide) (fun v hv => Wdn.len v) a ha))⟩
structure Wba.Li (w : World) (S : List Nat) (x : Wba) : Prop where
 e : i64In x.e
 t : x.t < 18446744073709551616
 l : Lst 6 Wpr.cells (fun w v => v.Li w S) w x.A x.n x.l
 n : x.n ≤ 100
 ap : 0 < x.n → ∀ a, x.A = some a → ¬ a.block ∈ S
 l2 : Lst 34 Wop.cells (fun w v => v.Ok w S) w x.A2 x.n2 x.l2
 n2 : x.n2 ≤ 100
 ap2 : 0 < x.n2 → ∀ a, x.A2 = some a → ¬ a.block ∈ S
 l3 : Lst 2 Wtb.cells (fun w v => v.Li w S) w x.A3 x.n3 x.l3
 n3 : x.n3 ≤ 100
 ap3 : 0 < x.n3 → ∀ a, x.A3 = some a → ¬ a.block ∈ S
theorem Wba.Li.keep {w W : World} {S S' : List Nat} {x : Wba} (h : x.Li w S) (hf : Fr S w W) (hs : ∀ k ∈ S', k < w.heap.size → k ∈ S) : x.Li W S' :=
 ⟨h.e, h.t, h.l.keep' hf h.ap (fun _ _ h => h.keep hf hs), h.n, fun hn a ha hin => h.ap hn a ha (hs _ hin (h.l.lt hn (by decide) (fun _ _ => rfl) a ha)),
  h.l2.keep' hf h.ap2 (fun _ _ h => h.keep hf hs), h.n2, fun hn a ha hin => h.ap2 hn a ha (hs _ hin (h.l2.lt hn (by decide) (fun v hv => Wop.len (h.l2.2.1 v hv).2.h) a ha)),
  h.l3.keep' hf h.ap3 (fun _ _ h => h.keep hf hs), h.n3, fun hn a ha hin => h.ap3 hn a ha (hs _ hin (h.l3.lt hn (by decide) (fun _ _ => rfl) a ha))⟩
abbrev Cce := Wcm × List Wst
def Wce.con (x : Wce) : Cce := (x.k, x.l)
structure Cpr where
 r : Int
 e : Int
 t : Nat
 l : List Cce
 b : Int
 m : Int
def Wpr.con (x : Wpr) : Cpr := ⟨x.r, x.e, x.t, x.l.map Wce.con, x.b, x.m⟩
structure Cop where
 i : Int
 p : List UInt8
 h : List UInt8
def Wop.con (x : Wop) : Cop := ⟨x.i, x.p, x.h⟩
structure Ctb where
 i : Int
 l : List Wdn
def Wtb.con (x : Wtb) : Ctb := ⟨x.i, x.l⟩
structure Cba where
 e : Int
 t : Nat
 l : List Cpr
 l2 : List Cop
 l3 : List Ctb
def Wba.con (x : Wba) : Cba := ⟨x.e, x.t, x.l.map Wpr.con, x.l2.map Wop.con, x.l3.map Wtb.con⟩
def pCe (s : Ps) : Cce × Ps := (((pCm s).1, (pL pSt (pCm s).2).1), (pL pSt (pCm s).2).2)
def pPr (s : Ps) : Cpr × Ps :=
 let r := pI s; let e := pI r.2; let t := pN e.2; let l := pL pCe t.2; let q := p2 l.2
 (⟨r.1, e.1, t.1, l.1, q.1.1, q.1.2⟩, q.2)
def pOp (s : Ps) : Cop × Ps := let i := pI s; let p := pR i.2; let h := pH p.2; (⟨i.1, p.1, h.1⟩, h.2)
def pTb (s : Ps) : Ctb × Ps := let i := pI s; let l := pL pDn i.2; (⟨i.1, l.1⟩, l.2)
def pBa (s : Ps) : Cba × Ps :=
 let e := pI s; let t := pN e.2; let l := pL pPr t.2; let l2 := pL pOp l.2; let l3 := pL pTb l2.2
 (⟨e.1, t.1, l.1, l2.1, l3.1⟩, l3.2)
def Gets {α β : Type} (f : FuncId) (cells : α → List Value) (ok : World → List Nat → α → Prop) (con : α → β) (p : Ps → β × Ps) : Prop :=
 ∀ (w : World) (F : List Nat) (g : Nat) (s : Ps), Rs w F g s → Calls Tryz.prog f #[.pointer (some ⟨g, 0, none⟩)] w fun e w' => ∃ v : α, e = .returned (.agg (cells v).toArray) ∧ con v = (p s).1 ∧ (∀ S0 : List Nat, (∀ q ∈ S0, q < w.heap.size) → ok w' S0 v) ∧ Rs w' F g (p s).2 ∧ Fr [g] w w'
structure GotL {α β : Type} (e : TypeId) (K : Nat) (cells : α → List Value) (ok : World → List Nat → α → Prop) (con : α → β) (w w' : World) (A : Option Addr) (n c : Nat) (l : List α) (r : List β) : Prop where
 own : w'.ownsRow 0 e K (.slice A n c) n (l.flatMap cells)
 len : l.length = n
 con : l.map con = r
 few : n ≤ 100
 new : ∀ q ∈ bk A, w.heap.size ≤ q
 ok : ∀ v ∈ l, ∀ S0 : List Nat, (∀ q ∈ S0, q < w.heap.size) → ok w' S0 v
theorem gets_of {α : Type} {f : FuncId} {cells : α → List Value} {p : Ps → α × Ps} {ok : α → Prop} (h : ∀ (w : World) (F : List Nat) (g : Nat) (s : Ps), Rs w F g s → Calls Tryz.prog f #[.pointer (some ⟨g, 0, none⟩)] w fun e w' => e = .returned (.agg (cells (p s).1).toArray) ∧ Rs w' F g (p s).2 ∧ Fr [g] w w') (ho : ∀ s, ok (p s).1) :
  Gets f cells (fun _ _ v => ok v) id p := fun w F g s hr => (h w F g s hr).mono fun _ _ ⟨h1, h2, h3⟩ => ⟨_, h1, rfl, fun _ _ => ho s, h2, h3⟩
set_option maxHeartbeats 4000000 in
theorem getStamps_any {α β : Type} (cells : α → List Value) (ok : World → List Nat → α → Prop) (con : α → β) (p : Ps → β × Ps) (hone : ∀ v, ∀ u ∈ cells v, u.oneCell' = true)
  (hkeep : ∀ {w W : World} {S S' : List Nat} {x : α}, ok w S x → Fr S w W → (∀ k ∈ S', k < w.heap.size → k ∈ S) → ok W S' x) (hlen : ∀ w S v, ok w S v → (cells v).length = 38) (hget : Gets 80 cells ok con p)
  (w : World) (F : List Nat) (g : Nat) (s : Ps) (hr : Rs w F g s) :
  Calls Tryz.prog 120 #[.pointer (some ⟨g, 0, none⟩), fnV 80] w fun e w' => ∃ (A : Option Addr) (n c : Nat) (l : List α), e = .returned (.slice A n c) ∧ GotL 32 38 cells ok con w w' A n c l (pL p s).1 ∧ Rs w' F g (pL p s).2 ∧ Fr [g] w w' := by
 have HR := Lib.hid hr
 have HG : Hid (g < w.heap.size ∧ ∀ k ∈ F, k < w.heap.size) := Lib.hid ⟨hr.gt, hr.lt⟩
 have HGET := Lib.hid hget
 clear hr hget
 unfold fnV
 go_enter Tryz.func120, Tryz.ntmps120
 go_wp2_with fail
 refine (getCount_any HR.out).mono ?_
 rintro e_ w1 ⟨rfl, h1, h2⟩
 have HR1 := Lib.hid h1
 have HF1 := Lib.hid h2
 have HPL : Hid (pL p s = pRep p (pC s).1 (pC s).2) := Lib.hid rfl
 have hn := pC_le s
 clear h1 h2
 generalize (pC s).1 = n at *
 generalize (pC s).2 = s1 at *
 go_wp2_with fail
 go_loopw [5, 8] (fun sl i wr => ∃ (k : Nat) (A4 : Option Addr) (c4 : Nat) (ys : List α), k ≤ n ∧ i = .int .i64 k ∧ sl = .slice A4 k c4 ∧ ys.length = k ∧ Hid (ys.map con = (pRep p k s1).1) ∧ Hid (wr.ownsRow 0 32 38 (.slice A4 k c4) k (ys.flatMap cells)) ∧ Hid (∀ q ∈ bk A4, w.heap.size ≤ q) ∧ Hid (∀ y ∈ ys, ∀ S0 : List Nat, (∀ q ∈ S0, q < w.heap.size ∨ q ∈ bk A4) → ok wr S0 y) ∧ Hid (Rs wr F g (pRep p k s1).2) ∧ Hid (Fr [g] w wr)) (fun _ i _ => n - (intOf i).toNat)
 case atStart => exact ⟨0, none, 0, [], by omega, rfl, rfl, rfl, Lib.hid rfl, Lib.hid ⟨by simp, .inl ⟨rfl, rfl⟩⟩, Lib.hid (by simp [bk]), Lib.hid (by simp), HR1, HF1⟩
 case round =>
  obtain ⟨k, A4, c4, ys, hk, rfl, rfl, hyl, HCN, HO, HNA, HYS, HRR, HF⟩ := hrel
  by_cases hlt : k < n
  · have HKN : Hid (k < n) := Lib.hid hlt
    have hk0 : (0 : Int) ≤ k := by omega
    go_wp2_with fail
    refine (HGET.out wr F g _ HRR.out).mono ?_
    rintro e_ w4 ⟨y, rfl, hyc, hyok, hr4, hf4⟩
    have HYC := Lib.hid hyc
    have HR4 := Lib.hid hr4
    have HF4 := Lib.hid hf4
    have HNW : Hid (∀ S0 : List Nat, (∀ q ∈ S0, q < w.heap.size ∨ q ∈ g :: bk A4) → ok w4 S0 y) := Lib.hid (fun S0 h0 => hyok S0 (fun q hq => by
     have h1 := HF.out.size
     have h2 := HG.out.1
     rcases h0 q hq with h | h
     · omega
     · rcases List.mem_cons.1 h with h | h
       · omega
       · exact own_lt HO.out q ((bk_mem A4 k c4 q).2 h)))
    have hD : (cells y).length = 38 := hlen _ _ _ (hyok [] (by simp))
    have hD1 := hone y
    have HO4 := Lib.hid (own_keep HO.out hf4 (fun q hq hm => by have h1 := HNA.out q ((bk_mem A4 k c4 q).1 hq); have h2 := HG.out.1; simp at hm; omega))
    obtain ⟨D, hDY⟩ : ∃ D, D = cells y := ⟨_, rfl⟩
    rw [← hDY] at hD hD1 ⊢
    have HD := Lib.hid hD
    have HD1 := Lib.hid hD1
    have HDY := Lib.hid hDY
    clear hyc hyok hr4 hf4 hD hD1 hDY hlt
    go_wp2_with (first | (refine wpList_build_one rfl 33 32 _ rfl Tryz.underlying33 D 80 (by rw [HD.out]; exact el_stamp) rfl (by rw [HD.out]; decide) (by rw [HD.out]; decide) ?_) | (at_builtin; refine Stop.mk ?_))
    refine Stop.go ?_
    refine wpList_append_one2 rfl _ _ 33 32 rfl Tryz.underlying33 38 80 el_stamp (by decide) 0 (.slice A4 k c4) k _ D rfl (HO4.out.alloc _) (Nat.zero_le _) HD.out HD1.out w4.heap.size 32 rfl (Blk.new _ _ _) (by omega) (by decide) ?_
    intro A9 c9 w9 ho9 hf9 hb9
    have HO9 := Lib.hid ho9
    have HF9 : Hid (Fr (bk A4) w4 w9) := Lib.hid (by
     have h : Fr (bk A4) (w4.alloc (Obj.cells D.toArray 32)) w9 := by rw [← bk_own A4 k c4]; exact hf9
     exact (((Fr.refl [] w4).alloc _).mono (by simp)).trans h (fun y hy _ => hy))
    have HB9 : Hid (∀ q ∈ bk A9, q ∈ bk A4 ∨ w4.heap.size ≤ q) := Lib.hid (by
     intro q hq
     rw [← bk_own A9 (k + 1) c9] at hq
     rcases hb9 with h | h
     · rw [h, bk_own] at hq; exact .inl hq
     · rw [h] at hq; simp at hq; exact .inr (by omega))
    clear ho9 hf9 hb9
    go_wp2
    go_roundw
    case rel =>
     have hbl : ∀ q ∈ bk A4, w.heap.size ≤ q := HNA.out
     refine ⟨k + 1, A9, c9, ys ++ [y], by have := HKN.out; omega, by go_num, rfl, by simp [hyl], ?_, ?_, ?_, ?_, ?_, ?_⟩
     · exact Lib.hid (by rw [List.map_append, HCN.out]; show _ ++ [con y] = _; rw [HYC.out]; rfl)
     · refine Lib.hid ?_
       rw [List.flatMap_append, List.flatMap_singleton, ← HDY.out]
       exact HO9.out
     · refine Lib.hid (fun q hq => ?_)
       rcases HB9.out q hq with h | h
       · exact hbl q h
       · have h1 := HF.out.size; have h2 := HF4.out.size; omega
     · refine Lib.hid (fun u hu S0 h0 => ?_)
       have hfg : Fr (g :: bk A4) w4 w9 := HF9.out.mono (fun q hq _ => by simp [hq])
       have hfr : Fr (g :: bk A4) wr w9 := (HF4.out.mono (fun q hq _ => by simp at hq; simp [hq])).trans hfg (fun q hq _ => hq)
       have h0' : ∀ q ∈ S0, q < w.heap.size ∨ q ∈ g :: bk A9 := fun q hq => (h0 q hq).imp id (fun h => by simp [h])
       have hsz := HF4.out.size
       rcases List.mem_append.1 hu with hu | hu
       · refine keepAll (ok := ok) (fun h f s => hkeep h f s) (w := wr) (B4 := g :: bk A4) (B9 := g :: bk A9) hfr (fun q hq => ?_) (fun S1 h1 => HYS.out u hu S1 (fun q hq => ?_)) S0 h0'
         · rcases List.mem_cons.1 hq with h | h
           · exact .inl (by simp [h])
           · exact (HB9.out q h).imp (fun h => by simp [h]) (fun h => by omega)
         · rcases h1 q hq with h | h
           · exact .inl h
           · rcases List.mem_cons.1 h with h | h
             · exact .inl (by have := HG.out.1; omega)
             · exact .inr h
       · rw [List.mem_singleton.1 hu]
         refine keepAll (ok := ok) (fun h f s => hkeep h f s) (w := w4) (B4 := g :: bk A4) (B9 := g :: bk A9) hfg (fun q hq => ?_) HNW.out S0 h0'
         rcases List.mem_cons.1 hq with h | h
         · exact .inl (by simp [h])
         · exact (HB9.out q h).imp (fun h => by simp [h]) id
     · refine Lib.hid (HR4.out.fr HF9.out (fun hm => ?_) (fun q hq hm => ?_))
       · have h1 := hbl _ hm; have h2 := HG.out.1; omega
       · have h1 := hbl _ hm; have h2 := HG.out.2 q hq; omega
     · exact Lib.hid ((HF.out.trans HF4.out (fun q hq _ => hq)).trans HF9.out (fun q hq hl => by have := hbl q hq; omega))
    case measure => have := HKN.out; simp [intOf]; omega
  · have hkn : n = k := by omega
    subst hkn
    have HFIN : Hid (GotL 32 38 cells ok con w wr A4 n c4 ys (pL p s).1 ∧ Rs wr F g (pL p s).2) := Lib.hid (by
     rw [HPL.out]
     exact ⟨⟨HO.out, hyl, HCN.out, hn, HNA.out, fun v hv S0 h0 => HYS.out v hv S0 (fun q hq => .inl (h0 q hq))⟩, HRR.out⟩)
    clear hlt hk
    go_wp2
    go_ret
    exact ⟨A4, n, c4, ys, rfl, HFIN.out.1, HFIN.out.2, HF.out⟩
set_option maxHeartbeats 4000000 in
theorem getCerts_any {α β : Type} (cells : α → List Value) (ok : World → List Nat → α → Prop) (con : α → β) (p : Ps → β × Ps) (hone : ∀ v, ∀ u ∈ cells v, u.oneCell' = true)
  (hkeep : ∀ {w W : World} {S S' : List Nat} {x : α}, ok w S x → Fr S w W → (∀ k ∈ S', k < w.heap.size → k ∈ S) → ok W S' x) (hlen : ∀ w S v, ok w S v → (cells v).length = 38) (hget : Gets 81 cells ok con p)
  (w : World) (F : List Nat) (g : Nat) (s : Ps) (hr : Rs w F g s) :
  Calls Tryz.prog 122 #[.pointer (some ⟨g, 0, none⟩), fnV 81] w fun e w' => ∃ (A : Option Addr) (n c : Nat) (l : List α), e = .returned (.slice A n c) ∧ GotL 35 38 cells ok con w w' A n c l (pL p s).1 ∧ Rs w' F g (pL p s).2 ∧ Fr [g] w w' := by
 have HR := Lib.hid hr
 have HG : Hid (g < w.heap.size ∧ ∀ k ∈ F, k < w.heap.size) := Lib.hid ⟨hr.gt, hr.lt⟩
 have HGET := Lib.hid hget
 clear hr hget
 unfold fnV
 go_enter Tryz.func122, Tryz.ntmps122
 go_wp2_with fail
 refine (getCount_any HR.out).mono ?_
 rintro e_ w1 ⟨rfl, h1, h2⟩
 have HR1 := Lib.hid h1
 have HF1 := Lib.hid h2
 have HPL : Hid (pL p s = pRep p (pC s).1 (pC s).2) := Lib.hid rfl
 have hn := pC_le s
 clear h1 h2
 generalize (pC s).1 = n at *
 generalize (pC s).2 = s1 at *
 go_wp2_with fail
 go_loopw [5, 8] (fun sl i wr => ∃ (k : Nat) (A4 : Option Addr) (c4 : Nat) (ys : List α), k ≤ n ∧ i = .int .i64 k ∧ sl = .slice A4 k c4 ∧ ys.length = k ∧ Hid (ys.map con = (pRep p k s1).1) ∧ Hid (wr.ownsRow 0 35 38 (.slice A4 k c4) k (ys.flatMap cells)) ∧ Hid (∀ q ∈ bk A4, w.heap.size ≤ q) ∧ Hid (∀ y ∈ ys, ∀ S0 : List Nat, (∀ q ∈ S0, q < w.heap.size ∨ q ∈ bk A4) → ok wr S0 y) ∧ Hid (Rs wr F g (pRep p k s1).2) ∧ Hid (Fr [g] w wr)) (fun _ i _ => n - (intOf i).toNat)
 case atStart => exact ⟨0, none, 0, [], by omega, rfl, rfl, rfl, Lib.hid rfl, Lib.hid ⟨by simp, .inl ⟨rfl, rfl⟩⟩, Lib.hid (by simp [bk]), Lib.hid (by simp), HR1, HF1⟩
 case round =>
  obtain ⟨k, A4, c4, ys, hk, rfl, rfl, hyl, HCN, HO, HNA, HYS, HRR, HF⟩ := hrel
  by_cases hlt : k < n
  · have HKN : Hid (k < n) := Lib.hid hlt
    have hk0 : (0 : Int) ≤ k := by omega
    go_wp2_with fail
    refine (HGET.out wr F g _ HRR.out).mono ?_
    rintro e_ w4 ⟨y, rfl, hyc, hyok, hr4, hf4⟩
    have HYC := Lib.hid hyc
    have HR4 := Lib.hid hr4
    have HF4 := Lib.hid hf4
    have HNW : Hid (∀ S0 : List Nat, (∀ q ∈ S0, q < w.heap.size ∨ q ∈ g :: bk A4) → ok w4 S0 y) := Lib.hid (fun S0 h0 => hyok S0 (fun q hq => by
     have h1 := HF.out.size
     have h2 := HG.out.1
     rcases h0 q hq with h | h
     · omega
     · rcases List.mem_cons.1 h with h | h
       · omega
       · exact own_lt HO.out q ((bk_mem A4 k c4 q).2 h)))
    have hD : (cells y).length = 38 := hlen _ _ _ (hyok [] (by simp))
    have hD1 := hone y
    have HO4 := Lib.hid (own_keep HO.out hf4 (fun q hq hm => by have h1 := HNA.out q ((bk_mem A4 k c4 q).1 hq); have h2 := HG.out.1; simp at hm; omega))
    obtain ⟨D, hDY⟩ : ∃ D, D = cells y := ⟨_, rfl⟩
    rw [← hDY] at hD hD1 ⊢
    have HD := Lib.hid hD
    have HD1 := Lib.hid hD1
    have HDY := Lib.hid hDY
    clear hyc hyok hr4 hf4 hD hD1 hDY hlt
    go_wp2_with (first | (refine wpList_build_one rfl 38 35 _ rfl Tryz.underlying38 D 96 (by rw [HD.out]; exact el_cert) rfl (by rw [HD.out]; decide) (by rw [HD.out]; decide) ?_) | (at_builtin; refine Stop.mk ?_))
    refine Stop.go ?_
    refine wpList_append_one2 rfl _ _ 38 35 rfl Tryz.underlying38 38 96 el_cert (by decide) 0 (.slice A4 k c4) k _ D rfl (HO4.out.alloc _) (Nat.zero_le _) HD.out HD1.out w4.heap.size 35 rfl (Blk.new _ _ _) (by omega) (by decide) ?_
    intro A9 c9 w9 ho9 hf9 hb9
    have HO9 := Lib.hid ho9
    have HF9 : Hid (Fr (bk A4) w4 w9) := Lib.hid (by
     have h : Fr (bk A4) (w4.alloc (Obj.cells D.toArray 35)) w9 := by rw [← bk_own A4 k c4]; exact hf9
     exact (((Fr.refl [] w4).alloc _).mono (by simp)).trans h (fun y hy _ => hy))
    have HB9 : Hid (∀ q ∈ bk A9, q ∈ bk A4 ∨ w4.heap.size ≤ q) := Lib.hid (by
     intro q hq
     rw [← bk_own A9 (k + 1) c9] at hq
     rcases hb9 with h | h
     · rw [h, bk_own] at hq; exact .inl hq
     · rw [h] at hq; simp at hq; exact .inr (by omega))
    clear ho9 hf9 hb9
    go_wp2
    go_roundw
    case rel =>
     have hbl : ∀ q ∈ bk A4, w.heap.size ≤ q := HNA.out
     refine ⟨k + 1, A9, c9, ys ++ [y], by have := HKN.out; omega, by go_num, rfl, by simp [hyl], ?_, ?_, ?_, ?_, ?_, ?_⟩
     · exact Lib.hid (by rw [List.map_append, HCN.out]; show _ ++ [con y] = _; rw [HYC.out]; rfl)
     · refine Lib.hid ?_
       rw [List.flatMap_append, List.flatMap_singleton, ← HDY.out]
       exact HO9.out
     · refine Lib.hid (fun q hq => ?_)
       rcases HB9.out q hq with h | h
       · exact hbl q h
       · have h1 := HF.out.size; have h2 := HF4.out.size; omega
     · refine Lib.hid (fun u hu S0 h0 => ?_)
       have hfg : Fr (g :: bk A4) w4 w9 := HF9.out.mono (fun q hq _ => by simp [hq])
       have hfr : Fr (g :: bk A4) wr w9 := (HF4.out.mono (fun q hq _ => by simp at hq; simp [hq])).trans hfg (fun q hq _ => hq)
       have h0' : ∀ q ∈ S0, q < w.heap.size ∨ q ∈ g :: bk A9 := fun q hq => (h0 q hq).imp id (fun h => by simp [h])
       have hsz := HF4.out.size
       rcases List.mem_append.1 hu with hu | hu
       · refine keepAll (ok := ok) (fun h f s => hkeep h f s) (w := wr) (B4 := g :: bk A4) (B9 := g :: bk A9) hfr (fun q hq => ?_) (fun S1 h1 => HYS.out u hu S1 (fun q hq => ?_)) S0 h0'
         · rcases List.mem_cons.1 hq with h | h
           · exact .inl (by simp [h])
           · exact (HB9.out q h).imp (fun h => by simp [h]) (fun h => by omega)
         · rcases h1 q hq with h | h
           · exact .inl h
           · rcases List.mem_cons.1 h with h | h
             · exact .inl (by have := HG.out.1; omega)
             · exact .inr h
       · rw [List.mem_singleton.1 hu]
         refine keepAll (ok := ok) (fun h f s => hkeep h f s) (w := w4) (B4 := g :: bk A4) (B9 := g :: bk A9) hfg (fun q hq => ?_) HNW.out S0 h0'
         rcases List.mem_cons.1 hq with h | h
         · exact .inl (by simp [h])
         · exact (HB9.out q h).imp (fun h => by simp [h]) id
     · refine Lib.hid (HR4.out.fr HF9.out (fun hm => ?_) (fun q hq hm => ?_))
       · have h1 := hbl _ hm; have h2 := HG.out.1; omega
       · have h1 := hbl _ hm; have h2 := HG.out.2 q hq; omega
     · exact Lib.hid ((HF.out.trans HF4.out (fun q hq _ => hq)).trans HF9.out (fun q hq hl => by have := hbl q hq; omega))
    case measure => have := HKN.out; simp [intOf]; omega
  · have hkn : n = k := by omega
    subst hkn
    have HFIN : Hid (GotL 35 38 cells ok con w wr A4 n c4 ys (pL p s).1 ∧ Rs wr F g (pL p s).2) := Lib.hid (by
     rw [HPL.out]
     exact ⟨⟨HO.out, hyl, HCN.out, hn, HNA.out, fun v hv S0 h0 => HYS.out v hv S0 (fun q hq => .inl (h0 q hq))⟩, HRR.out⟩)
    clear hlt hk
    go_wp2
    go_ret
    exact ⟨A4, n, c4, ys, rfl, HFIN.out.1, HFIN.out.2, HF.out⟩
set_option maxHeartbeats 4000000 in
theorem getPromises_any {α β : Type} (cells : α → List Value) (ok : World → List Nat → α → Prop) (con : α → β) (p : Ps → β × Ps) (hone : ∀ v, ∀ u ∈ cells v, u.oneCell' = true)
  (hkeep : ∀ {w W : World} {S S' : List Nat} {x : α}, ok w S x → Fr S w W → (∀ k ∈ S', k < w.heap.size → k ∈ S) → ok W S' x) (hlen : ∀ w S v, ok w S v → (cells v).length = 6) (hget : Gets 84 cells ok con p)
  (w : World) (F : List Nat) (g : Nat) (s : Ps) (hr : Rs w F g s) :
  Calls Tryz.prog 143 #[.pointer (some ⟨g, 0, none⟩), fnV 84] w fun e w' => ∃ (A : Option Addr) (n c : Nat) (l : List α), e = .returned (.slice A n c) ∧ GotL 40 6 cells ok con w w' A n c l (pL p s).1 ∧ Rs w' F g (pL p s).2 ∧ Fr [g] w w' := by
 have HR := Lib.hid hr
 have HG : Hid (g < w.heap.size ∧ ∀ k ∈ F, k < w.heap.size) := Lib.hid ⟨hr.gt, hr.lt⟩
 have HGET := Lib.hid hget
 clear hr hget
 unfold fnV
 go_enter Tryz.func143, Tryz.ntmps143
 go_wp2_with fail
 refine (getCount_any HR.out).mono ?_
 rintro e_ w1 ⟨rfl, h1, h2⟩
 have HR1 := Lib.hid h1
 have HF1 := Lib.hid h2
 have HPL : Hid (pL p s = pRep p (pC s).1 (pC s).2) := Lib.hid rfl
 have hn := pC_le s
 clear h1 h2
 generalize (pC s).1 = n at *
 generalize (pC s).2 = s1 at *
 go_wp2_with fail
 go_loopw [5, 8] (fun sl i wr => ∃ (k : Nat) (A4 : Option Addr) (c4 : Nat) (ys : List α), k ≤ n ∧ i = .int .i64 k ∧ sl = .slice A4 k c4 ∧ ys.length = k ∧ Hid (ys.map con = (pRep p k s1).1) ∧ Hid (wr.ownsRow 0 40 6 (.slice A4 k c4) k (ys.flatMap cells)) ∧ Hid (∀ q ∈ bk A4, w.heap.size ≤ q) ∧ Hid (∀ y ∈ ys, ∀ S0 : List Nat, (∀ q ∈ S0, q < w.heap.size ∨ q ∈ bk A4) → ok wr S0 y) ∧ Hid (Rs wr F g (pRep p k s1).2) ∧ Hid (Fr [g] w wr)) (fun _ i _ => n - (intOf i).toNat)
 case atStart => exact ⟨0, none, 0, [], by omega, rfl, rfl, rfl, Lib.hid rfl, Lib.hid ⟨by simp, .inl ⟨rfl, rfl⟩⟩, Lib.hid (by simp [bk]), Lib.hid (by simp), HR1, HF1⟩
 case round =>
  obtain ⟨k, A4, c4, ys, hk, rfl, rfl, hyl, HCN, HO, HNA, HYS, HRR, HF⟩ := hrel
  by_cases hlt : k < n
  · have HKN : Hid (k < n) := Lib.hid hlt
    have hk0 : (0 : Int) ≤ k := by omega
    go_wp2_with fail
    refine (HGET.out wr F g _ HRR.out).mono ?_
    rintro e_ w4 ⟨y, rfl, hyc, hyok, hr4, hf4⟩
    have HYC := Lib.hid hyc
    have HR4 := Lib.hid hr4
    have HF4 := Lib.hid hf4
    have HNW : Hid (∀ S0 : List Nat, (∀ q ∈ S0, q < w.heap.size ∨ q ∈ g :: bk A4) → ok w4 S0 y) := Lib.hid (fun S0 h0 => hyok S0 (fun q hq => by
     have h1 := HF.out.size
     have h2 := HG.out.1
     rcases h0 q hq with h | h
     · omega
     · rcases List.mem_cons.1 h with h | h
       · omega
       · exact own_lt HO.out q ((bk_mem A4 k c4 q).2 h)))
    have hD : (cells y).length = 6 := hlen _ _ _ (hyok [] (by simp))
    have hD1 := hone y
    have HO4 := Lib.hid (own_keep HO.out hf4 (fun q hq hm => by have h1 := HNA.out q ((bk_mem A4 k c4 q).1 hq); have h2 := HG.out.1; simp at hm; omega))
    obtain ⟨D, hDY⟩ : ∃ D, D = cells y := ⟨_, rfl⟩
    rw [← hDY] at hD hD1 ⊢
    have HD := Lib.hid hD
    have HD1 := Lib.hid hD1
    have HDY := Lib.hid hDY
    clear hyc hyok hr4 hf4 hD hD1 hDY hlt
    go_wp2_with (first | (refine wpList_build_one rfl 41 40 _ rfl Tryz.underlying41 D 64 (by rw [HD.out]; exact el_prm) rfl (by rw [HD.out]; decide) (by rw [HD.out]; decide) ?_) | (at_builtin; refine Stop.mk ?_))
    refine Stop.go ?_
    refine wpList_append_one2 rfl _ _ 41 40 rfl Tryz.underlying41 6 64 el_prm (by decide) 0 (.slice A4 k c4) k _ D rfl (HO4.out.alloc _) (Nat.zero_le _) HD.out HD1.out w4.heap.size 40 rfl (Blk.new _ _ _) (by omega) (by decide) ?_
    intro A9 c9 w9 ho9 hf9 hb9
    have HO9 := Lib.hid ho9
    have HF9 : Hid (Fr (bk A4) w4 w9) := Lib.hid (by
     have h : Fr (bk A4) (w4.alloc (Obj.cells D.toArray 40)) w9 := by rw [← bk_own A4 k c4]; exact hf9
     exact (((Fr.refl [] w4).alloc _).mono (by simp)).trans h (fun y hy _ => hy))
    have HB9 : Hid (∀ q ∈ bk A9, q ∈ bk A4 ∨ w4.heap.size ≤ q) := Lib.hid (by
     intro q hq
     rw [← bk_own A9 (k + 1) c9] at hq
     rcases hb9 with h | h
     · rw [h, bk_own] at hq; exact .inl hq
     · rw [h] at hq; simp at hq; exact .inr (by omega))
    clear ho9 hf9 hb9
    go_wp2
    go_roundw
    case rel =>
     have hbl : ∀ q ∈ bk A4, w.heap.size ≤ q := HNA.out
     refine ⟨k + 1, A9, c9, ys ++ [y], by have := HKN.out; omega, by go_num, rfl, by simp [hyl], ?_, ?_, ?_, ?_, ?_, ?_⟩
     · exact Lib.hid (by rw [List.map_append, HCN.out]; show _ ++ [con y] = _; rw [HYC.out]; rfl)
     · refine Lib.hid ?_
       rw [List.flatMap_append, List.flatMap_singleton, ← HDY.out]
       exact HO9.out
     · refine Lib.hid (fun q hq => ?_)
       rcases HB9.out q hq with h | h
       · exact hbl q h
       · have h1 := HF.out.size; have h2 := HF4.out.size; omega
     · refine Lib.hid (fun u hu S0 h0 => ?_)
       have hfg : Fr (g :: bk A4) w4 w9 := HF9.out.mono (fun q hq _ => by simp [hq])
       have hfr : Fr (g :: bk A4) wr w9 := (HF4.out.mono (fun q hq _ => by simp at hq; simp [hq])).trans hfg (fun q hq _ => hq)
       have h0' : ∀ q ∈ S0, q < w.heap.size ∨ q ∈ g :: bk A9 := fun q hq => (h0 q hq).imp id (fun h => by simp [h])
       have hsz := HF4.out.size
       rcases List.mem_append.1 hu with hu | hu
       · refine keepAll (ok := ok) (fun h f s => hkeep h f s) (w := wr) (B4 := g :: bk A4) (B9 := g :: bk A9) hfr (fun q hq => ?_) (fun S1 h1 => HYS.out u hu S1 (fun q hq => ?_)) S0 h0'
         · rcases List.mem_cons.1 hq with h | h
           · exact .inl (by simp [h])
           · exact (HB9.out q h).imp (fun h => by simp [h]) (fun h => by omega)
         · rcases h1 q hq with h | h
           · exact .inl h
           · rcases List.mem_cons.1 h with h | h
             · exact .inl (by have := HG.out.1; omega)
             · exact .inr h
       · rw [List.mem_singleton.1 hu]
         refine keepAll (ok := ok) (fun h f s => hkeep h f s) (w := w4) (B4 := g :: bk A4) (B9 := g :: bk A9) hfg (fun q hq => ?_) HNW.out S0 h0'
         rcases List.mem_cons.1 hq with h | h
         · exact .inl (by simp [h])
         · exact (HB9.out q h).imp (fun h => by simp [h]) id
     · refine Lib.hid (HR4.out.fr HF9.out (fun hm => ?_) (fun q hq hm => ?_))
       · have h1 := hbl _ hm; have h2 := HG.out.1; omega
       · have h1 := hbl _ hm; have h2 := HG.out.2 q hq; omega
     · exact Lib.hid ((HF.out.trans HF4.out (fun q hq _ => hq)).trans HF9.out (fun q hq hl => by have := hbl q hq; omega))
    case measure => have := HKN.out; simp [intOf]; omega
  · have hkn : n = k := by omega
    subst hkn
    have HFIN : Hid (GotL 40 6 cells ok con w wr A4 n c4 ys (pL p s).1 ∧ Rs wr F g (pL p s).2) := Lib.hid (by
     rw [HPL.out]
     exact ⟨⟨HO.out, hyl, HCN.out, hn, HNA.out, fun v hv S0 h0 => HYS.out v hv S0 (fun q hq => .inl (h0 q hq))⟩, HRR.out⟩)
    clear hlt hk
    go_wp2
    go_ret
    exact ⟨A4, n, c4, ys, rfl, HFIN.out.1, HFIN.out.2, HF.out⟩
set_option maxHeartbeats 4000000 in
theorem getOpenings_any {α β : Type} (cells : α → List Value) (ok : World → List Nat → α → Prop) (con : α → β) (p : Ps → β × Ps) (hone : ∀ v, ∀ u ∈ cells v, u.oneCell' = true)
  (hkeep : ∀ {w W : World} {S S' : List Nat} {x : α}, ok w S x → Fr S w W → (∀ k ∈ S', k < w.heap.size → k ∈ S) → ok W S' x) (hlen : ∀ w S v, ok w S v → (cells v).length = 34) (hget : Gets 88 cells ok con p)
  (w : World) (F : List Nat) (g : Nat) (s : Ps) (hr : Rs w F g s) :
  Calls Tryz.prog 144 #[.pointer (some ⟨g, 0, none⟩), fnV 88] w fun e w' => ∃ (A : Option Addr) (n c : Nat) (l : List α), e = .returned (.slice A n c) ∧ GotL 54 34 cells ok con w w' A n c l (pL p s).1 ∧ Rs w' F g (pL p s).2 ∧ Fr [g] w w' := by
 have HR := Lib.hid hr
 have HG : Hid (g < w.heap.size ∧ ∀ k ∈ F, k < w.heap.size) := Lib.hid ⟨hr.gt, hr.lt⟩
 have HGET := Lib.hid hget
 clear hr hget
 unfold fnV
 go_enter Tryz.func144, Tryz.ntmps144
 go_wp2_with fail
 refine (getCount_any HR.out).mono ?_
 rintro e_ w1 ⟨rfl, h1, h2⟩
 have HR1 := Lib.hid h1
 have HF1 := Lib.hid h2
 have HPL : Hid (pL p s = pRep p (pC s).1 (pC s).2) := Lib.hid rfl
 have hn := pC_le s
 clear h1 h2
 generalize (pC s).1 = n at *
 generalize (pC s).2 = s1 at *
 go_wp2_with fail
 go_loopw [5, 8] (fun sl i wr => ∃ (k : Nat) (A4 : Option Addr) (c4 : Nat) (ys : List α), k ≤ n ∧ i = .int .i64 k ∧ sl = .slice A4 k c4 ∧ ys.length = k ∧ Hid (ys.map con = (pRep p k s1).1) ∧ Hid (wr.ownsRow 0 54 34 (.slice A4 k c4) k (ys.flatMap cells)) ∧ Hid (∀ q ∈ bk A4, w.heap.size ≤ q) ∧ Hid (∀ y ∈ ys, ∀ S0 : List Nat, (∀ q ∈ S0, q < w.heap.size ∨ q ∈ bk A4) → ok wr S0 y) ∧ Hid (Rs wr F g (pRep p k s1).2) ∧ Hid (Fr [g] w wr)) (fun _ i _ => n - (intOf i).toNat)
 case atStart => exact ⟨0, none, 0, [], by omega, rfl, rfl, rfl, Lib.hid rfl, Lib.hid ⟨by simp, .inl ⟨rfl, rfl⟩⟩, Lib.hid (by simp [bk]), Lib.hid (by simp), HR1, HF1⟩
 case round =>
  obtain ⟨k, A4, c4, ys, hk, rfl, rfl, hyl, HCN, HO, HNA, HYS, HRR, HF⟩ := hrel
  by_cases hlt : k < n
  · have HKN : Hid (k < n) := Lib.hid hlt
    have hk0 : (0 : Int) ≤ k := by omega
    go_wp2_with fail
    refine (HGET.out wr F g _ HRR.out).mono ?_
    rintro e_ w4 ⟨y, rfl, hyc, hyok, hr4, hf4⟩
    have HYC := Lib.hid hyc
    have HR4 := Lib.hid hr4
    have HF4 := Lib.hid hf4
    have HNW : Hid (∀ S0 : List Nat, (∀ q ∈ S0, q < w.heap.size ∨ q ∈ g :: bk A4) → ok w4 S0 y) := Lib.hid (fun S0 h0 => hyok S0 (fun q hq => by
     have h1 := HF.out.size
     have h2 := HG.out.1
     rcases h0 q hq with h | h
     · omega
     · rcases List.mem_cons.1 h with h | h
       · omega
       · exact own_lt HO.out q ((bk_mem A4 k c4 q).2 h)))
    have hD : (cells y).length = 34 := hlen _ _ _ (hyok [] (by simp))
    have hD1 := hone y
    have HO4 := Lib.hid (own_keep HO.out hf4 (fun q hq hm => by have h1 := HNA.out q ((bk_mem A4 k c4 q).1 hq); have h2 := HG.out.1; simp at hm; omega))
    obtain ⟨D, hDY⟩ : ∃ D, D = cells y := ⟨_, rfl⟩
    rw [← hDY] at hD hD1 ⊢
    have HD := Lib.hid hD
    have HD1 := Lib.hid hD1
    have HDY := Lib.hid hDY
    clear hyc hyok hr4 hf4 hD hD1 hDY hlt
    go_wp2_with (first | (refine wpList_build_one rfl 42 54 _ rfl Tryz.underlying42 D 64 (by rw [HD.out]; exact el_opn) rfl (by rw [HD.out]; decide) (by rw [HD.out]; decide) ?_) | (at_builtin; refine Stop.mk ?_))
    refine Stop.go ?_
    refine wpList_append_one2 rfl _ _ 42 54 rfl Tryz.underlying42 34 64 el_opn (by decide) 0 (.slice A4 k c4) k _ D rfl (HO4.out.alloc _) (Nat.zero_le _) HD.out HD1.out w4.heap.size 54 rfl (Blk.new _ _ _) (by omega) (by decide) ?_
    intro A9 c9 w9 ho9 hf9 hb9
    have HO9 := Lib.hid ho9
    have HF9 : Hid (Fr (bk A4) w4 w9) := Lib.hid (by
     have h : Fr (bk A4) (w4.alloc (Obj.cells D.toArray 54)) w9 := by rw [← bk_own A4 k c4]; exact hf9
     exact (((Fr.refl [] w4).alloc _).mono (by simp)).trans h (fun y hy _ => hy))
    have HB9 : Hid (∀ q ∈ bk A9, q ∈ bk A4 ∨ w4.heap.size ≤ q) := Lib.hid (by
     intro q hq
     rw [← bk_own A9 (k + 1) c9] at hq
     rcases hb9 with h | h
     · rw [h, bk_own] at hq; exact .inl hq
     · rw [h] at hq; simp at hq; exact .inr (by omega))
    clear ho9 hf9 hb9
    go_wp2
    go_roundw
    case rel =>
     have hbl : ∀ q ∈ bk A4, w.heap.size ≤ q := HNA.out
     refine ⟨k + 1, A9, c9, ys ++ [y], by have := HKN.out; omega, by go_num, rfl, by simp [hyl], ?_, ?_, ?_, ?_, ?_, ?_⟩
     · exact Lib.hid (by rw [List.map_append, HCN.out]; show _ ++ [con y] = _; rw [HYC.out]; rfl)
     · refine Lib.hid ?_
       rw [List.flatMap_append, List.flatMap_singleton, ← HDY.out]
       exact HO9.out
     · refine Lib.hid (fun q hq => ?_)
       rcases HB9.out q hq with h | h
       · exact hbl q h
       · have h1 := HF.out.size; have h2 := HF4.out.size; omega
     · refine Lib.hid (fun u hu S0 h0 => ?_)
       have hfg : Fr (g :: bk A4) w4 w9 := HF9.out.mono (fun q hq _ => by simp [hq])
       have hfr : Fr (g :: bk A4) wr w9 := (HF4.out.mono (fun q hq _ => by simp at hq; simp [hq])).trans hfg (fun q hq _ => hq)
       have h0' : ∀ q ∈ S0, q < w.heap.size ∨ q ∈ g :: bk A9 := fun q hq => (h0 q hq).imp id (fun h => by simp [h])
       have hsz := HF4.out.size
       rcases List.mem_append.1 hu with hu | hu
       · refine keepAll (ok := ok) (fun h f s => hkeep h f s) (w := wr) (B4 := g :: bk A4) (B9 := g :: bk A9) hfr (fun q hq => ?_) (fun S1 h1 => HYS.out u hu S1 (fun q hq => ?_)) S0 h0'
         · rcases List.mem_cons.1 hq with h | h
           · exact .inl (by simp [h])
           · exact (HB9.out q h).imp (fun h => by simp [h]) (fun h => by omega)
         · rcases h1 q hq with h | h
           · exact .inl h
           · rcases List.mem_cons.1 h with h | h
             · exact .inl (by have := HG.out.1; omega)
             · exact .inr h
       · rw [List.mem_singleton.1 hu]
         refine keepAll (ok := ok) (fun h f s => hkeep h f s) (w := w4) (B4 := g :: bk A4) (B9 := g :: bk A9) hfg (fun q hq => ?_) HNW.out S0 h0'
         rcases List.mem_cons.1 hq with h | h
         · exact .inl (by simp [h])
         · exact (HB9.out q h).imp (fun h => by simp [h]) id
     · refine Lib.hid (HR4.out.fr HF9.out (fun hm => ?_) (fun q hq hm => ?_))
       · have h1 := hbl _ hm; have h2 := HG.out.1; omega
       · have h1 := hbl _ hm; have h2 := HG.out.2 q hq; omega
     · exact Lib.hid ((HF.out.trans HF4.out (fun q hq _ => hq)).trans HF9.out (fun q hq hl => by have := hbl q hq; omega))
    case measure => have := HKN.out; simp [intOf]; omega
  · have hkn : n = k := by omega
    subst hkn
    have HFIN : Hid (GotL 54 34 cells ok con w wr A4 n c4 ys (pL p s).1 ∧ Rs wr F g (pL p s).2) := Lib.hid (by
     rw [HPL.out]
     exact ⟨⟨HO.out, hyl, HCN.out, hn, HNA.out, fun v hv S0 h0 => HYS.out v hv S0 (fun q hq => .inl (h0 q hq))⟩, HRR.out⟩)
    clear hlt hk
    go_wp2
    go_ret
    exact ⟨A4, n, c4, ys, rfl, HFIN.out.1, HFIN.out.2, HF.out⟩
set_option maxHeartbeats 4000000 in
theorem getTombs_any {α β : Type} (cells : α → List Value) (ok : World → List Nat → α → Prop) (con : α → β) (p : Ps → β × Ps) (hone : ∀ v, ∀ u ∈ cells v, u.oneCell' = true)
  (hkeep : ∀ {w W : World} {S S' : List Nat} {x : α}, ok w S x → Fr S w W → (∀ k ∈ S', k < w.heap.size → k ∈ S) → ok W S' x) (hlen : ∀ w S v, ok w S v → (cells v).length = 2) (hget : Gets 146 cells ok con p)
  (w : World) (F : List Nat) (g : Nat) (s : Ps) (hr : Rs w F g s) :
  Calls Tryz.prog 145 #[.pointer (some ⟨g, 0, none⟩), fnV 146] w fun e w' => ∃ (A : Option Addr) (n c : Nat) (l : List α), e = .returned (.slice A n c) ∧ GotL 132 2 cells ok con w w' A n c l (pL p s).1 ∧ Rs w' F g (pL p s).2 ∧ Fr [g] w w' := by
 have HR := Lib.hid hr
 have HG : Hid (g < w.heap.size ∧ ∀ k ∈ F, k < w.heap.size) := Lib.hid ⟨hr.gt, hr.lt⟩
 have HGET := Lib.hid hget
 clear hr hget
 unfold fnV
 go_enter Tryz.func145, Tryz.ntmps145
 go_wp2_with fail
 refine (getCount_any HR.out).mono ?_
 rintro e_ w1 ⟨rfl, h1, h2⟩
 have HR1 := Lib.hid h1
 have HF1 := Lib.hid h2
 have HPL : Hid (pL p s = pRep p (pC s).1 (pC s).2) := Lib.hid rfl
 have hn := pC_le s
 clear h1 h2
 generalize (pC s).1 = n at *
 generalize (pC s).2 = s1 at *
 go_wp2_with fail
 go_loopw [5, 8] (fun sl i wr => ∃ (k : Nat) (A4 : Option Addr) (c4 : Nat) (ys : List α), k ≤ n ∧ i = .int .i64 k ∧ sl = .slice A4 k c4 ∧ ys.length = k ∧ Hid (ys.map con = (pRep p k s1).1) ∧ Hid (wr.ownsRow 0 132 2 (.slice A4 k c4) k (ys.flatMap cells)) ∧ Hid (∀ q ∈ bk A4, w.heap.size ≤ q) ∧ Hid (∀ y ∈ ys, ∀ S0 : List Nat, (∀ q ∈ S0, q < w.heap.size ∨ q ∈ bk A4) → ok wr S0 y) ∧ Hid (Rs wr F g (pRep p k s1).2) ∧ Hid (Fr [g] w wr)) (fun _ i _ => n - (intOf i).toNat)
 case atStart => exact ⟨0, none, 0, [], by omega, rfl, rfl, rfl, Lib.hid rfl, Lib.hid ⟨by simp, .inl ⟨rfl, rfl⟩⟩, Lib.hid (by simp [bk]), Lib.hid (by simp), HR1, HF1⟩
 case round =>
  obtain ⟨k, A4, c4, ys, hk, rfl, rfl, hyl, HCN, HO, HNA, HYS, HRR, HF⟩ := hrel
  by_cases hlt : k < n
  · have HKN : Hid (k < n) := Lib.hid hlt
    have hk0 : (0 : Int) ≤ k := by omega
    go_wp2_with fail
    refine (HGET.out wr F g _ HRR.out).mono ?_
    rintro e_ w4 ⟨y, rfl, hyc, hyok, hr4, hf4⟩
    have HYC := Lib.hid hyc
    have HR4 := Lib.hid hr4
    have HF4 := Lib.hid hf4
    have HNW : Hid (∀ S0 : List Nat, (∀ q ∈ S0, q < w.heap.size ∨ q ∈ g :: bk A4) → ok w4 S0 y) := Lib.hid (fun S0 h0 => hyok S0 (fun q hq => by
     have h1 := HF.out.size
     have h2 := HG.out.1
     rcases h0 q hq with h | h
     · omega
     · rcases List.mem_cons.1 h with h | h
       · omega
       · exact own_lt HO.out q ((bk_mem A4 k c4 q).2 h)))
    have hD : (cells y).length = 2 := hlen _ _ _ (hyok [] (by simp))
    have hD1 := hone y
    have HO4 := Lib.hid (own_keep HO.out hf4 (fun q hq hm => by have h1 := HNA.out q ((bk_mem A4 k c4 q).1 hq); have h2 := HG.out.1; simp at hm; omega))
    obtain ⟨D, hDY⟩ : ∃ D, D = cells y := ⟨_, rfl⟩
    rw [← hDY] at hD hD1 ⊢
    have HD := Lib.hid hD
    have HD1 := Lib.hid hD1
    have HDY := Lib.hid hDY
    clear hyc hyok hr4 hf4 hD hD1 hDY hlt
    go_wp2_with (first | (refine wpList_build_one rfl 43 132 _ rfl Tryz.underlying43 D 32 (by rw [HD.out]; exact el_tomb) rfl (by rw [HD.out]; decide) (by rw [HD.out]; decide) ?_) | (at_builtin; refine Stop.mk ?_))
    refine Stop.go ?_
    refine wpList_append_one2 rfl _ _ 43 132 rfl Tryz.underlying43 2 32 el_tomb (by decide) 0 (.slice A4 k c4) k _ D rfl (HO4.out.alloc _) (Nat.zero_le _) HD.out HD1.out w4.heap.size 132 rfl (Blk.new _ _ _) (by omega) (by decide) ?_
    intro A9 c9 w9 ho9 hf9 hb9
    have HO9 := Lib.hid ho9
    have HF9 : Hid (Fr (bk A4) w4 w9) := Lib.hid (by
     have h : Fr (bk A4) (w4.alloc (Obj.cells D.toArray 132)) w9 := by rw [← bk_own A4 k c4]; exact hf9
     exact (((Fr.refl [] w4).alloc _).mono (by simp)).trans h (fun y hy _ => hy))
    have HB9 : Hid (∀ q ∈ bk A9, q ∈ bk A4 ∨ w4.heap.size ≤ q) := Lib.hid (by
     intro q hq
     rw [← bk_own A9 (k + 1) c9] at hq
     rcases hb9 with h | h
     · rw [h, bk_own] at hq; exact .inl hq
     · rw [h] at hq; simp at hq; exact .inr (by omega))
    clear ho9 hf9 hb9
    go_wp2
    go_roundw
    case rel =>
     have hbl : ∀ q ∈ bk A4, w.heap.size ≤ q := HNA.out
     refine ⟨k + 1, A9, c9, ys ++ [y], by have := HKN.out; omega, by go_num, rfl, by simp [hyl], ?_, ?_, ?_, ?_, ?_, ?_⟩
     · exact Lib.hid (by rw [List.map_append, HCN.out]; show _ ++ [con y] = _; rw [HYC.out]; rfl)
     · refine Lib.hid ?_
       rw [List.flatMap_append, List.flatMap_singleton, ← HDY.out]
       exact HO9.out
     · refine Lib.hid (fun q hq => ?_)
       rcases HB9.out q hq with h | h
       · exact hbl q h
       · have h1 := HF.out.size; have h2 := HF4.out.size; omega
     · refine Lib.hid (fun u hu S0 h0 => ?_)
       have hfg : Fr (g :: bk A4) w4 w9 := HF9.out.mono (fun q hq _ => by simp [hq])
       have hfr : Fr (g :: bk A4) wr w9 := (HF4.out.mono (fun q hq _ => by simp at hq; simp [hq])).trans hfg (fun q hq _ => hq)
       have h0' : ∀ q ∈ S0, q < w.heap.size ∨ q ∈ g :: bk A9 := fun q hq => (h0 q hq).imp id (fun h => by simp [h])
       have hsz := HF4.out.size
       rcases List.mem_append.1 hu with hu | hu
       · refine keepAll (ok := ok) (fun h f s => hkeep h f s) (w := wr) (B4 := g :: bk A4) (B9 := g :: bk A9) hfr (fun q hq => ?_) (fun S1 h1 => HYS.out u hu S1 (fun q hq => ?_)) S0 h0'
         · rcases List.mem_cons.1 hq with h | h
           · exact .inl (by simp [h])
           · exact (HB9.out q h).imp (fun h => by simp [h]) (fun h => by omega)
         · rcases h1 q hq with h | h
           · exact .inl h
           · rcases List.mem_cons.1 h with h | h
             · exact .inl (by have := HG.out.1; omega)
             · exact .inr h
       · rw [List.mem_singleton.1 hu]
         refine keepAll (ok := ok) (fun h f s => hkeep h f s) (w := w4) (B4 := g :: bk A4) (B9 := g :: bk A9) hfg (fun q hq => ?_) HNW.out S0 h0'
         rcases List.mem_cons.1 hq with h | h
         · exact .inl (by simp [h])
         · exact (HB9.out q h).imp (fun h => by simp [h]) id
     · refine Lib.hid (HR4.out.fr HF9.out (fun hm => ?_) (fun q hq hm => ?_))
       · have h1 := hbl _ hm; have h2 := HG.out.1; omega
       · have h1 := hbl _ hm; have h2 := HG.out.2 q hq; omega
     · exact Lib.hid ((HF.out.trans HF4.out (fun q hq _ => hq)).trans HF9.out (fun q hq hl => by have := hbl q hq; omega))
    case measure => have := HKN.out; simp [intOf]; omega
  · have hkn : n = k := by omega
    subst hkn
    have HFIN : Hid (GotL 132 2 cells ok con w wr A4 n c4 ys (pL p s).1 ∧ Rs wr F g (pL p s).2) := Lib.hid (by
     rw [HPL.out]
     exact ⟨⟨HO.out, hyl, HCN.out, hn, HNA.out, fun v hv S0 h0 => HYS.out v hv S0 (fun q hq => .inl (h0 q hq))⟩, HRR.out⟩)
    clear hlt hk
    go_wp2
    go_ret
    exact ⟨A4, n, c4, ys, rfl, HFIN.out.1, HFIN.out.2, HF.out⟩
set_option maxHeartbeats 4000000 in
theorem getDenies_any {α β : Type} (cells : α → List Value) (ok : World → List Nat → α → Prop) (con : α → β) (p : Ps → β × Ps) (hone : ∀ v, ∀ u ∈ cells v, u.oneCell' = true)
  (hkeep : ∀ {w W : World} {S S' : List Nat} {x : α}, ok w S x → Fr S w W → (∀ k ∈ S', k < w.heap.size → k ∈ S) → ok W S' x) (hlen : ∀ w S v, ok w S v → (cells v).length = 4) (hget : Gets 89 cells ok con p)
  (w : World) (F : List Nat) (g : Nat) (s : Ps) (hr : Rs w F g s) :
  Calls Tryz.prog 154 #[.pointer (some ⟨g, 0, none⟩), fnV 89] w fun e w' => ∃ (A : Option Addr) (n c : Nat) (l : List α), e = .returned (.slice A n c) ∧ GotL 56 4 cells ok con w w' A n c l (pL p s).1 ∧ Rs w' F g (pL p s).2 ∧ Fr [g] w w' := by
 have HR := Lib.hid hr
 have HG : Hid (g < w.heap.size ∧ ∀ k ∈ F, k < w.heap.size) := Lib.hid ⟨hr.gt, hr.lt⟩
 have HGET := Lib.hid hget
 clear hr hget
 unfold fnV
 go_enter Tryz.func154, Tryz.ntmps154
 go_wp2_with fail
 refine (getCount_any HR.out).mono ?_
 rintro e_ w1 ⟨rfl, h1, h2⟩
 have HR1 := Lib.hid h1
 have HF1 := Lib.hid h2
 have HPL : Hid (pL p s = pRep p (pC s).1 (pC s).2) := Lib.hid rfl
 have hn := pC_le s
 clear h1 h2
 generalize (pC s).1 = n at *
 generalize (pC s).2 = s1 at *
 go_wp2_with fail
 go_loopw [5, 8] (fun sl i wr => ∃ (k : Nat) (A4 : Option Addr) (c4 : Nat) (ys : List α), k ≤ n ∧ i = .int .i64 k ∧ sl = .slice A4 k c4 ∧ ys.length = k ∧ Hid (ys.map con = (pRep p k s1).1) ∧ Hid (wr.ownsRow 0 56 4 (.slice A4 k c4) k (ys.flatMap cells)) ∧ Hid (∀ q ∈ bk A4, w.heap.size ≤ q) ∧ Hid (∀ y ∈ ys, ∀ S0 : List Nat, (∀ q ∈ S0, q < w.heap.size ∨ q ∈ bk A4) → ok wr S0 y) ∧ Hid (Rs wr F g (pRep p k s1).2) ∧ Hid (Fr [g] w wr)) (fun _ i _ => n - (intOf i).toNat)
 case atStart => exact ⟨0, none, 0, [], by omega, rfl, rfl, rfl, Lib.hid rfl, Lib.hid ⟨by simp, .inl ⟨rfl, rfl⟩⟩, Lib.hid (by simp [bk]), Lib.hid (by simp), HR1, HF1⟩
 case round =>
  obtain ⟨k, A4, c4, ys, hk, rfl, rfl, hyl, HCN, HO, HNA, HYS, HRR, HF⟩ := hrel
  by_cases hlt : k < n
  · have HKN : Hid (k < n) := Lib.hid hlt
    have hk0 : (0 : Int) ≤ k := by omega
    go_wp2_with fail
    refine (HGET.out wr F g _ HRR.out).mono ?_
    rintro e_ w4 ⟨y, rfl, hyc, hyok, hr4, hf4⟩
    have HYC := Lib.hid hyc
    have HR4 := Lib.hid hr4
    have HF4 := Lib.hid hf4
    have HNW : Hid (∀ S0 : List Nat, (∀ q ∈ S0, q < w.heap.size ∨ q ∈ g :: bk A4) → ok w4 S0 y) := Lib.hid (fun S0 h0 => hyok S0 (fun q hq => by
     have h1 := HF.out.size
     have h2 := HG.out.1
     rcases h0 q hq with h | h
     · omega
     · rcases List.mem_cons.1 h with h | h
       · omega
       · exact own_lt HO.out q ((bk_mem A4 k c4 q).2 h)))
    have hD : (cells y).length = 4 := hlen _ _ _ (hyok [] (by simp))
    have hD1 := hone y
    have HO4 := Lib.hid (own_keep HO.out hf4 (fun q hq hm => by have h1 := HNA.out q ((bk_mem A4 k c4 q).1 hq); have h2 := HG.out.1; simp at hm; omega))
    obtain ⟨D, hDY⟩ : ∃ D, D = cells y := ⟨_, rfl⟩
    rw [← hDY] at hD hD1 ⊢
    have HD := Lib.hid hD
    have HD1 := Lib.hid hD1
    have HDY := Lib.hid hDY
    clear hyc hyok hr4 hf4 hD hD1 hDY hlt
    go_wp2_with (first | (refine wpList_build_one rfl 130 56 _ rfl Tryz.underlying130 D 32 (by rw [HD.out]; exact el_deny) rfl (by rw [HD.out]; decide) (by rw [HD.out]; decide) ?_) | (at_builtin; refine Stop.mk ?_))
    refine Stop.go ?_
    refine wpList_append_one2 rfl _ _ 130 56 rfl Tryz.underlying130 4 32 el_deny (by decide) 0 (.slice A4 k c4) k _ D rfl (HO4.out.alloc _) (Nat.zero_le _) HD.out HD1.out w4.heap.size 56 rfl (Blk.new _ _ _) (by omega) (by decide) ?_
    intro A9 c9 w9 ho9 hf9 hb9
    have HO9 := Lib.hid ho9
    have HF9 : Hid (Fr (bk A4) w4 w9) := Lib.hid (by
     have h : Fr (bk A4) (w4.alloc (Obj.cells D.toArray 56)) w9 := by rw [← bk_own A4 k c4]; exact hf9
     exact (((Fr.refl [] w4).alloc _).mono (by simp)).trans h (fun y hy _ => hy))
    have HB9 : Hid (∀ q ∈ bk A9, q ∈ bk A4 ∨ w4.heap.size ≤ q) := Lib.hid (by
     intro q hq
     rw [← bk_own A9 (k + 1) c9] at hq
     rcases hb9 with h | h
     · rw [h, bk_own] at hq; exact .inl hq
     · rw [h] at hq; simp at hq; exact .inr (by omega))
    clear ho9 hf9 hb9
    go_wp2
    go_roundw
    case rel =>
     have hbl : ∀ q ∈ bk A4, w.heap.size ≤ q := HNA.out
     refine ⟨k + 1, A9, c9, ys ++ [y], by have := HKN.out; omega, by go_num, rfl, by simp [hyl], ?_, ?_, ?_, ?_, ?_, ?_⟩
     · exact Lib.hid (by rw [List.map_append, HCN.out]; show _ ++ [con y] = _; rw [HYC.out]; rfl)
     · refine Lib.hid ?_
       rw [List.flatMap_append, List.flatMap_singleton, ← HDY.out]
       exact HO9.out
     · refine Lib.hid (fun q hq => ?_)
       rcases HB9.out q hq with h | h
       · exact hbl q h
       · have h1 := HF.out.size; have h2 := HF4.out.size; omega
     · refine Lib.hid (fun u hu S0 h0 => ?_)
       have hfg : Fr (g :: bk A4) w4 w9 := HF9.out.mono (fun q hq _ => by simp [hq])
       have hfr : Fr (g :: bk A4) wr w9 := (HF4.out.mono (fun q hq _ => by simp at hq; simp [hq])).trans hfg (fun q hq _ => hq)
       have h0' : ∀ q ∈ S0, q < w.heap.size ∨ q ∈ g :: bk A9 := fun q hq => (h0 q hq).imp id (fun h => by simp [h])
       have hsz := HF4.out.size
       rcases List.mem_append.1 hu with hu | hu
       · refine keepAll (ok := ok) (fun h f s => hkeep h f s) (w := wr) (B4 := g :: bk A4) (B9 := g :: bk A9) hfr (fun q hq => ?_) (fun S1 h1 => HYS.out u hu S1 (fun q hq => ?_)) S0 h0'
         · rcases List.mem_cons.1 hq with h | h
           · exact .inl (by simp [h])
           · exact (HB9.out q h).imp (fun h => by simp [h]) (fun h => by omega)
         · rcases h1 q hq with h | h
           · exact .inl h
           · rcases List.mem_cons.1 h with h | h
             · exact .inl (by have := HG.out.1; omega)
             · exact .inr h
       · rw [List.mem_singleton.1 hu]
         refine keepAll (ok := ok) (fun h f s => hkeep h f s) (w := w4) (B4 := g :: bk A4) (B9 := g :: bk A9) hfg (fun q hq => ?_) HNW.out S0 h0'
         rcases List.mem_cons.1 hq with h | h
         · exact .inl (by simp [h])
         · exact (HB9.out q h).imp (fun h => by simp [h]) id
     · refine Lib.hid (HR4.out.fr HF9.out (fun hm => ?_) (fun q hq hm => ?_))
       · have h1 := hbl _ hm; have h2 := HG.out.1; omega
       · have h1 := hbl _ hm; have h2 := HG.out.2 q hq; omega
     · exact Lib.hid ((HF.out.trans HF4.out (fun q hq _ => hq)).trans HF9.out (fun q hq hl => by have := hbl q hq; omega))
    case measure => have := HKN.out; simp [intOf]; omega
  · have hkn : n = k := by omega
    subst hkn
    have HFIN : Hid (GotL 56 4 cells ok con w wr A4 n c4 ys (pL p s).1 ∧ Rs wr F g (pL p s).2) := Lib.hid (by
     rw [HPL.out]
     exact ⟨⟨HO.out, hyl, HCN.out, hn, HNA.out, fun v hv S0 h0 => HYS.out v hv S0 (fun q hq => .inl (h0 q hq))⟩, HRR.out⟩)
    clear hlt hk
    go_wp2
    go_ret
    exact ⟨A4, n, c4, ys, rfl, HFIN.out.1, HFIN.out.2, HF.out⟩
end Go.Proofs.YtdenpfcgghangaaGreat

namespace Go.Proofs.YtdenpfcgghangaaGreat
open Go.RowKit
set_option maxRecDepth 100000
theorem GotL.lst {α β : Type} {e : TypeId} {K : Nat} {cells : α → List Value} {ok : World → List Nat → α → Prop} {con : α → β} {w0 w1 : World} {A : Option Addr} {n c : Nat} {l : List α} {r : List β}
  (hkeep : ∀ {w W : World} {S S' : List Nat} {x : α}, ok w S x → Fr S w W → (∀ k ∈ S', k < w.heap.size → k ∈ S) → ok W S' x) (hlen : ∀ w S v, ok w S v → (cells v).length = K)
  (h : GotL e K cells ok con w0 w1 A n c l r) {g q N : Nat} (hg : g < w0.heap.size) (hq : q < w0.heap.size) (hN : N ≤ w0.heap.size) :
  ∀ W, Fr [g, q] w1 W → ∀ S0 : List Nat, (∀ x ∈ S0, x < N) → Lst K cells (fun w v => ok w S0 v) W A n l ∧ (0 < n → ∀ a, A = some a → ¬ a.block ∈ S0) := by
 intro W hf S0 h0
 have hown := own_keep h.own hf (fun k hk hm => by
  have h1 := h.new k ((bk_mem A n c k).1 hk)
  simp at hm
  omega)
 refine ⟨Lst.of_own hown h.len (fun v hv => ?_), fun _ a ha hin => ?_⟩
 · have h1 := h.ok v hv (g :: q :: S0) (fun x hx => by
    rcases List.mem_cons.1 hx with rfl | hx
    · exact hg
    · rcases List.mem_cons.1 hx with rfl | hx
      · exact hq
      · exact Nat.lt_of_lt_of_le (h0 x hx) hN)
   exact ⟨hlen _ _ _ h1, hkeep h1 (hf.mono (fun k hk _ => by simp at hk; simp; omega)) (fun k hk _ => by simp [hk])⟩
 · have h1 := h.new a.block (by simp [bk, ha])
   have h2 := h0 _ hin
   omega
theorem pR_le (s : Ps) : (pR s).1.length ≤ 256 := by
 unfold pR rwV
 simp only
 cases dec s.1 with
 | none => simp
 | some p =>
   simp only
   split
   · rw [List.length_take]; omega
   · simp
section
variable {w : World} {F : List Nat} {g : Nat} {s : Ps}
theorem getRow_any (hr : Rs w F g s) : Calls Tryz.prog 90 #[.pointer (some ⟨g, 0, none⟩), .int .i64 256] w fun e w' =>
  ∃ A c, e = .returned (.slice A (pR s).1.length c) ∧ By w' A (pR s).1.length (pR s).1 ∧ (∀ k ∈ bk A, w.heap.size ≤ k ∧ k < w'.heap.size) ∧ (pR s).1.length ≤ c ∧ Rs w' F g (pR s).2 ∧ Fr [g] w w' := by
 have hl := rwL_le s.1 256
 obtain ⟨R, bad⟩ := s
 have mk : ∀ {w' : World} {l : List UInt8} {b : Bool}, l.length ≤ R.length → Rd w' g F l b → Fr [g] w w' → Rs w' F g (l, b) := fun h1 h2 h3 => ⟨h2, Nat.le_trans h1 hr.len, fun k hk => Nat.lt_of_lt_of_le (hr.lt k hk) h3.size⟩
 have bad_case : rowBad R 256 → Calls Tryz.prog 90 #[.pointer (some ⟨g, 0, none⟩), .int .i64 256] w fun e w' =>
   ∃ A c, e = .returned (.slice A ([] : List UInt8).length c) ∧ By w' A ([] : List UInt8).length [] ∧ (∀ k ∈ bk A, w.heap.size ≤ k ∧ k < w'.heap.size) ∧ ([] : List UInt8).length ≤ c ∧ Rs w' F g ([], true) ∧ Fr [g] w w' := fun hb =>
  (rrow_bad w g F R bad hr.rd hr.len 256 hb (by omega)).mono fun _ w' ⟨A, c, w1, k1, k2, k3, k4⟩ =>
    have hf : Fr [g] w w' := k2.trans k3.2.1 (by simp)
    ⟨A, c, k1, k3.by, fun k hk => ⟨Nat.le_trans k2.size (k3.2.2 k hk), k3.lt k hk⟩, Nat.zero_le _, mk (by simp) k4 hf, hf⟩
 unfold pR rwV rwL rwB at *
 simp only at hl ⊢
 cases hd : dec R with
 | none => exact bad_case (rowBad_int (intBad_none hd))
 | some p =>
   rw [hd] at hl
   by_cases hv : (p.1 : Int) ≤ 256 ∧ p.2 + p.1 ≤ R.length
   · simp only [if_pos hv] at hl ⊢
     have hlen : ((R.drop p.2).take p.1).length = p.1 := by rw [List.length_take, List.length_drop]; omega
     rw [hlen]
     exact (rrow_ok w g F R bad hr.rd hr.len p.1 p.2 hd 256 hv.1 (by omega) hv.2).mono fun _ w' ⟨A, c, w1, k1, k2, k3, k4⟩ =>
      have hf : Fr [g] w w' := k2.trans k3.2.1 (by simp)
      ⟨A, c, k1, k3.by, fun k hk => ⟨Nat.le_trans k2.size (k3.2.2 k hk), k3.lt k hk⟩, k3.cap, mk hl k4 hf, hf⟩
   · simp only [if_neg hv]
     by_cases hv1 : (p.1 : Int) ≤ 256
     · exact bad_case (rowBad_short hd hv1 (by omega))
     · exact bad_case (rowBad_int (intBad_lt hd (by omega)))
end
def zCe : Array Value := (Wce.cells ⟨⟨0, 0, List.replicate 32 0, 0, 0, 0⟩, none, 0, 0, []⟩).toArray
def zOp : Array Value := (Wop.cells ⟨0, none, 0, 0, [], List.replicate 32 0⟩).toArray
theorem built_ceE (parts : List (Nat × Value)) : Tryz.prog.built 35 parts = Instr.fill ([(0, 37), (37, 1)].toArray[·]?) zCe parts := by kernel_rfl
theorem built_ceR (k : Wcm) (hh : k.h.length = 32) (A : Option Addr) (n d : Nat) (l : List Wst) :
  Tryz.prog.built 35 [(0, .agg k.cells.toArray), (1, .slice A n d)] = some (Wce.cells ⟨k, A, n, d, l⟩).toArray := by
 have hz : zCe.size = 38 := rfl
 have hk : k.cells.length = 37 := Wcm.len hh
 rw [built_ceE, fill_step _ _ 0 0 37 _ _ rfl (by simp [Value.cells, hk]) (by rw [hz]; omega), fill_step _ _ 1 37 1 _ _ rfl rfl (by simp [splice, zCe, Wce.cells, Wcm.cells, Value.cells, hh]), Instr.fill]
 congr 2
 have tk : ∀ n, 32 ≤ n → (k.h.map by8).take n = k.h.map by8 := fun n hn => List.take_of_length_le (by simp [hh]; omega)
 have dk : ∀ n, 32 ≤ n → (k.h.map by8).drop n = [] := fun n hn => List.drop_of_length_le (by simp [hh]; omega)
 simp [splice, zCe, Wce.cells, Wcm.cells, Value.cells, hh, List.drop_append, List.take_append, tk, dk]
theorem built_opE (parts : List (Nat × Value)) : Tryz.prog.built 54 parts = Instr.fill ([(0, 1), (1, 1), (2, 32)].toArray[·]?) zOp parts := by kernel_rfl
theorem built_opR (i : Int) (A : Option Addr) (n d : Nat) (p h : List UInt8) (hh : h.length = 32) :
  Tryz.prog.built 54 [(0, .int .i64 i), (1, .slice A n d), (2, .agg (h.map by8).toArray)] = some (Wop.cells ⟨i, A, n, d, p, h⟩).toArray := by
 have hz : zOp.size = 34 := rfl
 rw [built_opE, fill_step _ _ 0 0 1 _ _ rfl rfl (by rw [hz]; omega), fill_step _ _ 1 1 1 _ _ rfl rfl (by simp [splice, zOp, Wop.cells, Value.cells]), fill_step _ _ 2 2 32 _ _ rfl (by simp [Value.cells, hh]) (by simp [splice, zOp, Wop.cells, Value.cells]), Instr.fill]
 congr 2
 have dk : ∀ n, 32 ≤ n → (h.map by8).drop n = [] := fun n hn => List.drop_of_length_le (by simp [hh]; omega)
 simp [splice, zOp, Wop.cells, Value.cells, hh, List.drop_append, List.take_append, dk]
theorem built_prR (r e : Int) (t : Nat) (A : Option Addr) (n d : Nat) (l : List Wce) (b m : Int) : Tryz.prog.built 40 [(0, .int .i64 r), (1, .int .i64 e), (2, .int .u64 (t : Int)), (3, .slice A n d), (4, .agg #[.int .i64 b, .int .i64 m])] = some (Wpr.cells ⟨r, e, t, A, n, d, l, b, m⟩).toArray := by kernel_rfl
theorem built_tbR (i : Int) (A : Option Addr) (n d : Nat) (l : List Wdn) : Tryz.prog.built 132 [(0, .int .i64 i), (1, .slice A n d)] = some (Wtb.cells ⟨i, A, n, d, l⟩).toArray := by kernel_rfl
theorem built_baR (e : Int) (t : Nat) (A : Option Addr) (n d : Nat) (l : List Wpr) (A2 : Option Addr) (n2 d2 : Nat) (l2 : List Wop) (A3 : Option Addr) (n3 d3 : Nat) (l3 : List Wtb) :
  Tryz.prog.built 45 [(0, .int .i64 e), (1, .int .u64 (t : Int)), (2, .slice A n d), (3, .slice A2 n2 d2), (4, .slice A3 n3 d3)] = some (Wba.cells ⟨e, t, A, n, d, l, A2, n2, d2, l2, A3, n3, d3, l3⟩).toArray := by kernel_rfl
theorem getStamps_r {w : World} {F : List Nat} {g : Nat} {s : Ps} (hr : Rs w F g s) : Calls Tryz.prog 120 #[.pointer (some ⟨g, 0, none⟩), fnV 80] w fun e w' => ∃ (A : Option Addr) (n c : Nat) (l : List Wst), e = .returned (.slice A n c) ∧ GotL 32 38 Wst.cells (fun _ _ v => v.Ok) id w w' A n c l (pL pSt s).1 ∧ Rs w' F g (pL pSt s).2 ∧ Fr [g] w w' :=
 getStamps_any Wst.cells (fun _ _ v => v.Ok) id pSt Wst.one (fun h _ _ => h) (fun _ _ _ h => Wst.len h.h) (gets_of (fun _ _ _ _ hr => getStamp_any hr) pSt_ok) w F g s hr
theorem getDenies_r {w : World} {F : List Nat} {g : Nat} {s : Ps} (hr : Rs w F g s) : Calls Tryz.prog 154 #[.pointer (some ⟨g, 0, none⟩), fnV 89] w fun e w' => ∃ (A : Option Addr) (n c : Nat) (l : List Wdn), e = .returned (.slice A n c) ∧ GotL 56 4 Wdn.cells (fun _ _ v => v.Ok) id w w' A n c l (pL pDn s).1 ∧ Rs w' F g (pL pDn s).2 ∧ Fr [g] w w' :=
 getDenies_any Wdn.cells (fun _ _ v => v.Ok) id pDn Wdn.one (fun h _ _ => h) (fun _ _ v _ => Wdn.len v) (gets_of (fun _ _ _ _ hr => getDeny_any hr) pDn_ok) w F g s hr
set_option maxHeartbeats 2000000 in
theorem getCert_any : Gets 81 Wce.cells (fun w S v => v.Li w S) Wce.con pCe := by
 intro w F g s hr
 obtain ⟨wa, hwa⟩ : ∃ wa, wa = w.alloc (Obj.cells zCe 35) := ⟨_, rfl⟩
 have hf0 : Fr [] w wa := by rw [hwa]; exact (Fr.refl [] w).alloc _
 have HB : Hid (Blk wa w.heap.size 35 zCe) := Lib.hid (by rw [hwa]; exact Blk.new _ _ _)
 have HR := Lib.hid (hr.fr hf0 (by simp) (by simp))
 have HNF : Hid (¬ w.heap.size ∈ F) := Lib.hid (fun hm => by have := hr.lt _ hm; omega)
 have HG : Hid (g < w.heap.size) := Lib.hid hr.gt
 have HF0 := Lib.hid hf0
 have HWA := Lib.hid hwa
 clear hwa hf0 hr
 go_enter Tryz.func81, Tryz.ntmps81
 go_upto_region 1 with (fail)
 change Code.wp _ _ _ _ (w.alloc (Obj.cells zCe 35))
 rw [← HWA.out]
 go_wp2_with fail
 refine (getCommit_any HR.out).mono ?_
 rintro e_ w1 ⟨rfl, h1, h2⟩
 have HR0 := Lib.hid h1
 have HF1 : Hid (Fr [g] wa w1) := Lib.hid h2
 have hq_ : Fr [g, w.heap.size] wa w1 := h2.mono (fun x hx _ => by simp at hx; simp [hx])
 clear h1 h2 hq_
 go_wp2_with fail
 refine (getStamps_r HR0.out).mono ?_
 rintro e_ w2 ⟨A1, n1, c1, l1, rfl, hgl, h1, h2⟩
 have HR1 := Lib.hid h1
 have HF2 : Hid (Fr [g] wa w2) := Lib.hid (HF1.out.trans h2 (fun x hx _ => hx))
 have hq_ : Fr [g, w.heap.size] w1 w2 := h2.mono (fun x hx _ => by simp at hx; simp [hx])
 have HL1 := Lib.hid (GotL.lst (cells := Wst.cells) (ok := fun _ _ v => v.Ok) (fun h _ _ => h) (fun _ _ _ h => Wst.len h.h) hgl (q := w.heap.size) (N := w.heap.size) (g := g) (by have h3 := HB.out.lt; have h4 := HG.out; have h5 := HF1.out.size; omega) (by have h3 := HB.out.lt; have h4 := HG.out; have h5 := HF1.out.size; omega) (by have h3 := HB.out.lt; have h4 := HG.out; have h5 := HF1.out.size; omega))
 have HGL1 : Hid (_ ∧ _) := Lib.hid ⟨hgl.con, hgl.few⟩
 clear hgl
 clear h1 h2 hq_
 have HBE := Lib.hid (HB.out.keep HF2.out (by have := HG.out; simp; omega))
 have HBU := Lib.hid (built_ceR (pCm s).1 (pCm_ok s).h A1 n1 c1 l1)
 obtain ⟨v, hv⟩ : ∃ v : Wce, v = ⟨(pCm s).1, A1, n1, c1, l1⟩ := ⟨_, rfl⟩
 have HVS : Hid (v.cells.toArray.size = 38) := Lib.hid (by rw [hv, List.size_toArray]; exact Wce.len (pCm_ok s).h)
 have HAL : Hid (v.cells.toArray.all (·.oneCell') = true) := Lib.hid (all_oneCell_toArray (Wce.one _))
 have HTS : Hid ((Tryz.prog.info? 35).map (·.size) = some v.cells.toArray.size) := Lib.hid (by rw [HVS.out]; kernel_rfl)
 have HV := Lib.hid hv
 rw [← hv] at HBU
 clear hv
 obtain ⟨V, hV⟩ : ∃ V : Array Value, V = v.cells.toArray := ⟨_, rfl⟩
 have HVV := Lib.hid hV
 rw [← hV] at HBU HAL HVS HTS
 clear hV
 go_wp2_with (first
  | (refine wpList_builtg rfl 35 _ rfl _ _ HBU.out rfl ?_)
  | (refine wpList_store_blk rfl 35 _ _ rfl w.heap.size V rfl rfl 35 zCe HBE.out HTS.out (by rw [HVS.out]; rfl) HAL.out ?_
     intro w9 hb9 hf9
     have HB9 := Lib.hid hb9
     have HF9 := Lib.hid hf9
     clear hb9 hf9))
 have hq9 : Fr [g, w.heap.size] w2 w9 := HF9.out.mono (fun x hx _ => by simp at hx; simp [hx])
 refine bodyPost_ret (v := .agg V) (results_cell_row Tryz.results81 _ _ w.heap.size 35 V _ _ rfl HB9.out Tryz.underlying35 rfl HTS.out) rfl ⟨v, by rw [HVV.out], ?_, fun S0 h0 => ?_, ?_, ?_⟩
 · rw [HV.out]; show (_, l1) = (_, _); congr 1; have := HGL1.out.1; rw [List.map_id] at this; exact this
 · rw [HV.out]; exact ⟨pCm_ok s, (HL1.out w9 hq9 S0 h0).1, HGL1.out.2, (HL1.out w9 hq9 S0 h0).2⟩
 · exact HR1.out.fr HF9.out (by have := HG.out; simp; omega) (fun k hk hm => HNF.out (by simp at hm; exact hm ▸ hk))
 · exact Fr.unbox HF0.out HF2.out HF9.out (Nat.le_refl _)
theorem getCerts_r {w : World} {F : List Nat} {g : Nat} {s : Ps} (hr : Rs w F g s) : Calls Tryz.prog 122 #[.pointer (some ⟨g, 0, none⟩), fnV 81] w fun e w' => ∃ (A : Option Addr) (n c : Nat) (l : List Wce), e = .returned (.slice A n c) ∧ GotL 35 38 Wce.cells (fun w S v => v.Li w S) Wce.con w w' A n c l (pL pCe s).1 ∧ Rs w' F g (pL pCe s).2 ∧ Fr [g] w w' :=
 getCerts_any Wce.cells (fun w S v => v.Li w S) Wce.con pCe Wce.one Wce.Li.keep (fun _ _ _ h => Wce.len h.k.h) getCert_any w F g s hr
set_option maxHeartbeats 2000000 in
theorem getPromise_any : Gets 84 Wpr.cells (fun w S v => v.Li w S) Wpr.con pPr := by
 intro w F g s hr
 obtain ⟨wa, hwa⟩ : ∃ wa, wa = w.alloc (Obj.cells (Wpr.cells ⟨0, 0, 0, none, 0, 0, [], 0, 0⟩).toArray 40) := ⟨_, rfl⟩
 have hf0 : Fr [] w wa := by rw [hwa]; exact (Fr.refl [] w).alloc _
 have HB : Hid (Blk wa w.heap.size 40 (Wpr.cells ⟨0, 0, 0, none, 0, 0, [], 0, 0⟩).toArray) := Lib.hid (by rw [hwa]; exact Blk.new _ _ _)
 have HR := Lib.hid (hr.fr hf0 (by simp) (by simp))
 have HNF : Hid (¬ w.heap.size ∈ F) := Lib.hid (fun hm => by have := hr.lt _ hm; omega)
 have HG : Hid (g < w.heap.size) := Lib.hid hr.gt
 have HF0 := Lib.hid hf0
 have HWA := Lib.hid hwa
 clear hwa hf0 hr
 go_enter Tryz.func84, Tryz.ntmps84
 go_upto_region 1 with (fail)
 change Code.wp _ _ _ _ (w.alloc (Obj.cells (Wpr.cells ⟨0, 0, 0, none, 0, 0, [], 0, 0⟩).toArray 40))
 rw [← HWA.out]
 go_wp2_with fail
 refine (getInt_any HR.out).mono ?_
 rintro e_ w1 ⟨rfl, h1, h2⟩
 have HR0 := Lib.hid h1
 have HF1 : Hid (Fr [g] wa w1) := Lib.hid h2
 have hq_ : Fr [g, w.heap.size] wa w1 := h2.mono (fun x hx _ => by simp at hx; simp [hx])
 clear h1 h2 hq_
 go_wp2_with fail
 refine (getInt_any HR0.out).mono ?_
 rintro e_ w2 ⟨rfl, h1, h2⟩
 have HR1 := Lib.hid h1
 have HF2 : Hid (Fr [g] wa w2) := Lib.hid (HF1.out.trans h2 (fun x hx _ => hx))
 have hq_ : Fr [g, w.heap.size] w1 w2 := h2.mono (fun x hx _ => by simp at hx; simp [hx])
 clear h1 h2 hq_
 go_wp2_with fail
 refine (getNum_any HR1.out).mono ?_
 rintro e_ w3 ⟨rfl, h1, h2⟩
 have HR2 := Lib.hid h1
 have HF3 : Hid (Fr [g] wa w3) := Lib.hid (HF2.out.trans h2 (fun x hx _ => hx))
 have hq_ : Fr [g, w.heap.size] w2 w3 := h2.mono (fun x hx _ => by simp at hx; simp [hx])
 clear h1 h2 hq_
 go_wp2_with fail
 refine (getCerts_r HR2.out).mono ?_
 rintro e_ w4 ⟨A1, n1, c1, l1, rfl, hgl, h1, h2⟩
 have HR3 := Lib.hid h1
 have HF4 : Hid (Fr [g] wa w4) := Lib.hid (HF3.out.trans h2 (fun x hx _ => hx))
 have hq_ : Fr [g, w.heap.size] w3 w4 := h2.mono (fun x hx _ => by simp at hx; simp [hx])
 have HL1 := Lib.hid (GotL.lst (cells := Wce.cells) (ok := fun w S v => v.Li w S) (Wce.Li.keep) (fun _ _ _ h => Wce.len h.k.h) hgl (q := w.heap.size) (N := w.heap.size) (g := g) (by have h3 := HB.out.lt; have h4 := HG.out; have h5 := HF3.out.size; omega) (by have h3 := HB.out.lt; have h4 := HG.out; have h5 := HF3.out.size; omega) (by have h3 := HB.out.lt; have h4 := HG.out; have h5 := HF3.out.size; omega))
 have HGL1 : Hid (_ ∧ _) := Lib.hid ⟨hgl.con, hgl.few⟩
 clear hgl
 clear h1 h2 hq_
 go_wp2_with fail
 refine (getSig_any HR3.out).mono ?_
 rintro e_ w5 ⟨rfl, h1, h2⟩
 have HR4 := Lib.hid h1
 have HF5 : Hid (Fr [g] wa w5) := Lib.hid (HF4.out.trans h2 (fun x hx _ => hx))
 have hq_ : Fr [g, w.heap.size] w4 w5 := h2.mono (fun x hx _ => by simp at hx; simp [hx])
 have HL1 := Lib.hid (fun W (hW : Fr [g, w.heap.size] w5 W) => HL1.out W (hq_.trans hW (fun x hx _ => hx)))
 clear h1 h2 hq_
 have HBE := Lib.hid (HB.out.keep HF5.out (by have := HG.out; simp; omega))
 have HBU := Lib.hid (built_prR (pI s).1 (pI (pI s).2).1 (pN (pI (pI s).2).2).1 A1 n1 c1 l1 (p2 (pL pCe (pN (pI (pI s).2).2).2).2).1.1 (p2 (pL pCe (pN (pI (pI s).2).2).2).2).1.2)
 obtain ⟨v, hv⟩ : ∃ v : Wpr, v = ⟨(pI s).1, (pI (pI s).2).1, (pN (pI (pI s).2).2).1, A1, n1, c1, l1, (p2 (pL pCe (pN (pI (pI s).2).2).2).2).1.1, (p2 (pL pCe (pN (pI (pI s).2).2).2).2).1.2⟩ := ⟨_, rfl⟩
 have HVS : Hid (v.cells.toArray.size = 6) := Lib.hid (by rw [hv, List.size_toArray]; exact rfl)
 have HAL : Hid (v.cells.toArray.all (·.oneCell') = true) := Lib.hid (all_oneCell_toArray (Wpr.one _))
 have HTS : Hid ((Tryz.prog.info? 40).map (·.size) = some v.cells.toArray.size) := Lib.hid (by rw [HVS.out]; kernel_rfl)
 have HV := Lib.hid hv
 rw [← hv] at HBU
 clear hv
 obtain ⟨V, hV⟩ : ∃ V : Array Value, V = v.cells.toArray := ⟨_, rfl⟩
 have HVV := Lib.hid hV
 rw [← hV] at HBU HAL HVS HTS
 clear hV
 go_wp2_with (first
  | (refine wpList_builtg rfl 40 _ rfl _ _ HBU.out rfl ?_)
  | (refine wpList_store_blk rfl 40 _ _ rfl w.heap.size V rfl rfl 40 (Wpr.cells ⟨0, 0, 0, none, 0, 0, [], 0, 0⟩).toArray HBE.out HTS.out (by rw [HVS.out]; rfl) HAL.out ?_
     intro w9 hb9 hf9
     have HB9 := Lib.hid hb9
     have HF9 := Lib.hid hf9
     clear hb9 hf9))
 have hq9 : Fr [g, w.heap.size] w5 w9 := HF9.out.mono (fun x hx _ => by simp at hx; simp [hx])
 refine bodyPost_ret (v := .agg V) (results_cell_row Tryz.results84 _ _ w.heap.size 40 V _ _ rfl HB9.out Tryz.underlying40 rfl HTS.out) rfl ⟨v, by rw [HVV.out], ?_, fun S0 h0 => ?_, ?_, ?_⟩
 · rw [HV.out]; unfold Wpr.con; rw [HGL1.out.1]; rfl
 · rw [HV.out]; exact ⟨pI_in _, pI_in _, pN_lt _, (HL1.out w9 hq9 S0 h0).1, HGL1.out.2, (HL1.out w9 hq9 S0 h0).2, pI_in _, pI_in _⟩
 · exact HR4.out.fr HF9.out (by have := HG.out; simp; omega) (fun k hk hm => HNF.out (by simp at hm; exact hm ▸ hk))
 · exact Fr.unbox HF0.out HF5.out HF9.out (Nat.le_refl _)
theorem getPromises_r {w : World} {F : List Nat} {g : Nat} {s : Ps} (hr : Rs w F g s) : Calls Tryz.prog 143 #[.pointer (some ⟨g, 0, none⟩), fnV 84] w fun e w' => ∃ (A : Option Addr) (n c : Nat) (l : List Wpr), e = .returned (.slice A n c) ∧ GotL 40 6 Wpr.cells (fun w S v => v.Li w S) Wpr.con w w' A n c l (pL pPr s).1 ∧ Rs w' F g (pL pPr s).2 ∧ Fr [g] w w' :=
 getPromises_any Wpr.cells (fun w S v => v.Li w S) Wpr.con pPr Wpr.one Wpr.Li.keep (fun _ _ _ _ => rfl) getPromise_any w F g s hr
set_option maxHeartbeats 2000000 in
theorem getOpening_any : Gets 88 Wop.cells (fun w S v => v.Ok w S) Wop.con pOp := by
 intro w F g s hr
 obtain ⟨wa, hwa⟩ : ∃ wa, wa = w.alloc (Obj.cells zOp 54) := ⟨_, rfl⟩
 have hf0 : Fr [] w wa := by rw [hwa]; exact (Fr.refl [] w).alloc _
 have HB : Hid (Blk wa w.heap.size 54 zOp) := Lib.hid (by rw [hwa]; exact Blk.new _ _ _)
 have HR := Lib.hid (hr.fr hf0 (by simp) (by simp))
 have HNF : Hid (¬ w.heap.size ∈ F) := Lib.hid (fun hm => by have := hr.lt _ hm; omega)
 have HG : Hid (g < w.heap.size) := Lib.hid hr.gt
 have HF0 := Lib.hid hf0
 have HWA := Lib.hid hwa
 clear hwa hf0 hr
 go_enter Tryz.func88, Tryz.ntmps88
 go_upto_region 1 with (fail)
 change Code.wp _ _ _ _ (w.alloc (Obj.cells zOp 54))
 rw [← HWA.out]
 go_wp2_with fail
 refine (getInt_any HR.out).mono ?_
 rintro e_ w1 ⟨rfl, h1, h2⟩
 have HR0 := Lib.hid h1
 have HF1 : Hid (Fr [g] wa w1) := Lib.hid h2
 have hq_ : Fr [g, w.heap.size] wa w1 := h2.mono (fun x hx _ => by simp at hx; simp [hx])
 clear h1 h2 hq_
 go_wp2_with fail
 refine (getRow_any HR0.out).mono ?_
 rintro e_ w2 ⟨A1, c1, rfl, hby, hbk, hcap, h1, h2⟩
 have HR1 := Lib.hid h1
 have HF2 : Hid (Fr [g] wa w2) := Lib.hid (HF1.out.trans h2 (fun x hx _ => hx))
 have hq_ : Fr [g, w.heap.size] w1 w2 := h2.mono (fun x hx _ => by simp at hx; simp [hx])
 have HPA : Hid (∀ k ∈ bk A1, w.heap.size < k) := Lib.hid (fun k hk => by have h1 := (hbk k hk).1; have h3 := HB.out.lt; have h5 := HF1.out.size; omega)
 have HL1 : Hid (∀ W, Fr [g, w.heap.size] w2 W → By W A1 (pR _).1.length (pR _).1 ∧ ∀ k ∈ bk A1, k < W.heap.size) := Lib.hid (fun W hW => ⟨hby.keep hW (fun a ha hm => by have h1 := HPA.out a.block (by simp [bk, ha]); have h2 := HG.out; simp at hm; omega), fun k hk => Nat.lt_of_lt_of_le (hbk k hk).2 hW.size⟩)
 have HCA := Lib.hid hcap
 clear hby hbk hcap
 clear h1 h2 hq_
 go_wp2_with fail
 refine (getHash_any HR1.out).mono ?_
 rintro e_ w3 ⟨rfl, h1, h2⟩
 have HR2 := Lib.hid h1
 have HF3 : Hid (Fr [g] wa w3) := Lib.hid (HF2.out.trans h2 (fun x hx _ => hx))
 have hq_ : Fr [g, w.heap.size] w2 w3 := h2.mono (fun x hx _ => by simp at hx; simp [hx])
 have HL1 := Lib.hid (fun W (hW : Fr [g, w.heap.size] w3 W) => HL1.out W (hq_.trans hW (fun x hx _ => hx)))
 clear h1 h2 hq_
 have HBE := Lib.hid (HB.out.keep HF3.out (by have := HG.out; simp; omega))
 have HBU := Lib.hid (built_opR (pI s).1 A1 (pR (pI s).2).1.length c1 (pR (pI s).2).1 (pH (pR (pI s).2).2).1 (pH_len _))
 obtain ⟨v, hv⟩ : ∃ v : Wop, v = ⟨(pI s).1, A1, (pR (pI s).2).1.length, c1, (pR (pI s).2).1, (pH (pR (pI s).2).2).1⟩ := ⟨_, rfl⟩
 have HVS : Hid (v.cells.toArray.size = 34) := Lib.hid (by rw [hv, List.size_toArray]; exact Wop.len (pH_len _))
 have HAL : Hid (v.cells.toArray.all (·.oneCell') = true) := Lib.hid (all_oneCell_toArray (Wop.one _))
 have HTS : Hid ((Tryz.prog.info? 54).map (·.size) = some v.cells.toArray.size) := Lib.hid (by rw [HVS.out]; kernel_rfl)
 have HV := Lib.hid hv
 rw [← hv] at HBU
 clear hv
 obtain ⟨V, hV⟩ : ∃ V : Array Value, V = v.cells.toArray := ⟨_, rfl⟩
 have HVV := Lib.hid hV
 rw [← hV] at HBU HAL HVS HTS
 clear hV
 go_wp2_with (first
  | (refine wpList_builtg rfl 54 _ rfl _ _ HBU.out rfl ?_)
  | (refine wpList_store_blk rfl 54 _ _ rfl w.heap.size V rfl rfl 54 zOp HBE.out HTS.out (by rw [HVS.out]; rfl) HAL.out ?_
     intro w9 hb9 hf9
     have HB9 := Lib.hid hb9
     have HF9 := Lib.hid hf9
     clear hb9 hf9))
 have hq9 : Fr [g, w.heap.size] w3 w9 := HF9.out.mono (fun x hx _ => by simp at hx; simp [hx])
 refine bodyPost_ret (v := .agg V) (results_cell_row Tryz.results88 _ _ w.heap.size 54 V _ _ rfl HB9.out Tryz.underlying54 rfl HTS.out) rfl ⟨v, by rw [HVV.out], ?_, fun S0 h0 => ?_, ?_, ?_⟩
 · rw [HV.out]; rfl
 · rw [HV.out]; exact ⟨pI_in _, (HL1.out w9 hq9).1, Nat.le_trans (pR_le _) (by omega), fun k hk hm => by have h1 := HPA.out k hk; have h2 := h0 k hm; omega, (HL1.out w9 hq9).2, pH_len _, HCA.out⟩
 · exact HR2.out.fr HF9.out (by have := HG.out; simp; omega) (fun k hk hm => HNF.out (by simp at hm; exact hm ▸ hk))
 · exact Fr.unbox HF0.out HF3.out HF9.out (Nat.le_refl _)
theorem getOpenings_r {w : World} {F : List Nat} {g : Nat} {s : Ps} (hr : Rs w F g s) : Calls Tryz.prog 144 #[.pointer (some ⟨g, 0, none⟩), fnV 88] w fun e w' => ∃ (A : Option Addr) (n c : Nat) (l : List Wop), e = .returned (.slice A n c) ∧ GotL 54 34 Wop.cells (fun w S v => v.Ok w S) Wop.con w w' A n c l (pL pOp s).1 ∧ Rs w' F g (pL pOp s).2 ∧ Fr [g] w w' :=
 getOpenings_any Wop.cells (fun w S v => v.Ok w S) Wop.con pOp Wop.one Wop.Ok.keep (fun _ _ _ h => Wop.len h.h) getOpening_any w F g s hr
set_option maxHeartbeats 2000000 in
theorem getTomb_any : Gets 146 Wtb.cells (fun w S v => v.Li w S) Wtb.con pTb := by
 intro w F g s hr
 obtain ⟨wa, hwa⟩ : ∃ wa, wa = w.alloc (Obj.cells (Wtb.cells ⟨0, none, 0, 0, []⟩).toArray 132) := ⟨_, rfl⟩
 have hf0 : Fr [] w wa := by rw [hwa]; exact (Fr.refl [] w).alloc _
 have HB : Hid (Blk wa w.heap.size 132 (Wtb.cells ⟨0, none, 0, 0, []⟩).toArray) := Lib.hid (by rw [hwa]; exact Blk.new _ _ _)
 have HR := Lib.hid (hr.fr hf0 (by simp) (by simp))
 have HNF : Hid (¬ w.heap.size ∈ F) := Lib.hid (fun hm => by have := hr.lt _ hm; omega)
 have HG : Hid (g < w.heap.size) := Lib.hid hr.gt
 have HF0 := Lib.hid hf0
 have HWA := Lib.hid hwa
 clear hwa hf0 hr
 go_enter Tryz.func146, Tryz.ntmps146
 go_upto_region 1 with (fail)
 change Code.wp _ _ _ _ (w.alloc (Obj.cells (Wtb.cells ⟨0, none, 0, 0, []⟩).toArray 132))
 rw [← HWA.out]
 go_wp2_with fail
 refine (getInt_any HR.out).mono ?_
 rintro e_ w1 ⟨rfl, h1, h2⟩
 have HR0 := Lib.hid h1
 have HF1 : Hid (Fr [g] wa w1) := Lib.hid h2
 have hq_ : Fr [g, w.heap.size] wa w1 := h2.mono (fun x hx _ => by simp at hx; simp [hx])
 clear h1 h2 hq_
 go_wp2_with fail
 refine (getDenies_r HR0.out).mono ?_
 rintro e_ w2 ⟨A1, n1, c1, l1, rfl, hgl, h1, h2⟩
 have HR1 := Lib.hid h1
 have HF2 : Hid (Fr [g] wa w2) := Lib.hid (HF1.out.trans h2 (fun x hx _ => hx))
 have hq_ : Fr [g, w.heap.size] w1 w2 := h2.mono (fun x hx _ => by simp at hx; simp [hx])
 have HL1 := Lib.hid (GotL.lst (cells := Wdn.cells) (ok := fun _ _ v => v.Ok) (fun h _ _ => h) (fun _ _ v _ => Wdn.len v) hgl (q := w.heap.size) (N := w.heap.size) (g := g) (by have h3 := HB.out.lt; have h4 := HG.out; have h5 := HF1.out.size; omega) (by have h3 := HB.out.lt; have h4 := HG.out; have h5 := HF1.out.size; omega) (by have h3 := HB.out.lt; have h4 := HG.out; have h5 := HF1.out.size; omega))
 have HGL1 : Hid (_ ∧ _) := Lib.hid ⟨hgl.con, hgl.few⟩
 clear hgl
 clear h1 h2 hq_
 have HBE := Lib.hid (HB.out.keep HF2.out (by have := HG.out; simp; omega))
 have HBU := Lib.hid (built_tbR (pI s).1 A1 n1 c1 l1)
 obtain ⟨v, hv⟩ : ∃ v : Wtb, v = ⟨(pI s).1, A1, n1, c1, l1⟩ := ⟨_, rfl⟩
 have HVS : Hid (v.cells.toArray.size = 2) := Lib.hid (by rw [hv, List.size_toArray]; exact rfl)
 have HAL : Hid (v.cells.toArray.all (·.oneCell') = true) := Lib.hid (all_oneCell_toArray (Wtb.one _))
 have HTS : Hid ((Tryz.prog.info? 132).map (·.size) = some v.cells.toArray.size) := Lib.hid (by rw [HVS.out]; kernel_rfl)
 have HV := Lib.hid hv
 rw [← hv] at HBU
 clear hv
 obtain ⟨V, hV⟩ : ∃ V : Array Value, V = v.cells.toArray := ⟨_, rfl⟩
 have HVV := Lib.hid hV
 rw [← hV] at HBU HAL HVS HTS
 clear hV
 go_wp2_with (first
  | (refine wpList_builtg rfl 132 _ rfl _ _ HBU.out rfl ?_)
  | (refine wpList_store_blk rfl 132 _ _ rfl w.heap.size V rfl rfl 132 (Wtb.cells ⟨0, none, 0, 0, []⟩).toArray HBE.out HTS.out (by rw [HVS.out]; rfl) HAL.out ?_
     intro w9 hb9 hf9
     have HB9 := Lib.hid hb9
     have HF9 := Lib.hid hf9
     clear hb9 hf9))
 have hq9 : Fr [g, w.heap.size] w2 w9 := HF9.out.mono (fun x hx _ => by simp at hx; simp [hx])
 refine bodyPost_ret (v := .agg V) (results_cell_row Tryz.results146 _ _ w.heap.size 132 V _ _ rfl HB9.out Tryz.underlying132 rfl HTS.out) rfl ⟨v, by rw [HVV.out], ?_, fun S0 h0 => ?_, ?_, ?_⟩
 · rw [HV.out]; unfold Wtb.con; have := HGL1.out.1; rw [List.map_id] at this; rw [this]; rfl
 · rw [HV.out]; exact ⟨pI_in _, (HL1.out w9 hq9 S0 h0).1, HGL1.out.2, (HL1.out w9 hq9 S0 h0).2⟩
 · exact HR1.out.fr HF9.out (by have := HG.out; simp; omega) (fun k hk hm => HNF.out (by simp at hm; exact hm ▸ hk))
 · exact Fr.unbox HF0.out HF2.out HF9.out (Nat.le_refl _)
theorem getTombs_r {w : World} {F : List Nat} {g : Nat} {s : Ps} (hr : Rs w F g s) : Calls Tryz.prog 145 #[.pointer (some ⟨g, 0, none⟩), fnV 146] w fun e w' => ∃ (A : Option Addr) (n c : Nat) (l : List Wtb), e = .returned (.slice A n c) ∧ GotL 132 2 Wtb.cells (fun w S v => v.Li w S) Wtb.con w w' A n c l (pL pTb s).1 ∧ Rs w' F g (pL pTb s).2 ∧ Fr [g] w w' :=
 getTombs_any Wtb.cells (fun w S v => v.Li w S) Wtb.con pTb Wtb.one Wtb.Li.keep (fun _ _ _ _ => rfl) getTomb_any w F g s hr
set_option maxHeartbeats 2000000 in
theorem getBatch_any : Gets 123 Wba.cells (fun w S v => v.Li w S) Wba.con pBa := by
 intro w F g s hr
 obtain ⟨wa, hwa⟩ : ∃ wa, wa = w.alloc (Obj.cells (Wba.cells ⟨0, 0, none, 0, 0, [], none, 0, 0, [], none, 0, 0, []⟩).toArray 45) := ⟨_, rfl⟩
 have hf0 : Fr [] w wa := by rw [hwa]; exact (Fr.refl [] w).alloc _
 have HB : Hid (Blk wa w.heap.size 45 (Wba.cells ⟨0, 0, none, 0, 0, [], none, 0, 0, [], none, 0, 0, []⟩).toArray) := Lib.hid (by rw [hwa]; exact Blk.new _ _ _)
 have HR := Lib.hid (hr.fr hf0 (by simp) (by simp))
 have HNF : Hid (¬ w.heap.size ∈ F) := Lib.hid (fun hm => by have := hr.lt _ hm; omega)
 have HG : Hid (g < w.heap.size) := Lib.hid hr.gt
 have HF0 := Lib.hid hf0
 have HWA := Lib.hid hwa
 clear hwa hf0 hr
 go_enter Tryz.func123, Tryz.ntmps123
 go_upto_region 1 with (fail)
 change Code.wp _ _ _ _ (w.alloc (Obj.cells (Wba.cells ⟨0, 0, none, 0, 0, [], none, 0, 0, [], none, 0, 0, []⟩).toArray 45))
 rw [← HWA.out]
 go_wp2_with fail
 refine (getInt_any HR.out).mono ?_
 rintro e_ w1 ⟨rfl, h1, h2⟩
 have HR0 := Lib.hid h1
 have HF1 : Hid (Fr [g] wa w1) := Lib.hid h2
 have hq_ : Fr [g, w.heap.size] wa w1 := h2.mono (fun x hx _ => by simp at hx; simp [hx])
 clear h1 h2 hq_
 go_wp2_with fail
 refine (getNum_any HR0.out).mono ?_
 rintro e_ w2 ⟨rfl, h1, h2⟩
 have HR1 := Lib.hid h1
 have HF2 : Hid (Fr [g] wa w2) := Lib.hid (HF1.out.trans h2 (fun x hx _ => hx))
 have hq_ : Fr [g, w.heap.size] w1 w2 := h2.mono (fun x hx _ => by simp at hx; simp [hx])
 clear h1 h2 hq_
 go_wp2_with fail
 refine (getPromises_r HR1.out).mono ?_
 rintro e_ w3 ⟨A1, n1, c1, l1, rfl, hgl, h1, h2⟩
 have HR2 := Lib.hid h1
 have HF3 : Hid (Fr [g] wa w3) := Lib.hid (HF2.out.trans h2 (fun x hx _ => hx))
 have hq_ : Fr [g, w.heap.size] w2 w3 := h2.mono (fun x hx _ => by simp at hx; simp [hx])
 have HL1 := Lib.hid (GotL.lst (cells := Wpr.cells) (ok := fun w S v => v.Li w S) (Wpr.Li.keep) (fun _ _ _ _ => rfl) hgl (q := w.heap.size) (N := w.heap.size) (g := g) (by have h3 := HB.out.lt; have h4 := HG.out; have h5 := HF2.out.size; omega) (by have h3 := HB.out.lt; have h4 := HG.out; have h5 := HF2.out.size; omega) (by have h3 := HB.out.lt; have h4 := HG.out; have h5 := HF2.out.size; omega))
 have HGL1 : Hid (_ ∧ _) := Lib.hid ⟨hgl.con, hgl.few⟩
 clear hgl
 clear h1 h2 hq_
 go_wp2_with fail
 refine (getOpenings_r HR2.out).mono ?_
 rintro e_ w4 ⟨A2, n2, c2, l2, rfl, hgl, h1, h2⟩
 have HR3 := Lib.hid h1
 have HF4 : Hid (Fr [g] wa w4) := Lib.hid (HF3.out.trans h2 (fun x hx _ => hx))
 have hq_ : Fr [g, w.heap.size] w3 w4 := h2.mono (fun x hx _ => by simp at hx; simp [hx])
 have HL1 := Lib.hid (fun W (hW : Fr [g, w.heap.size] w4 W) => HL1.out W (hq_.trans hW (fun x hx _ => hx)))
 have HL2 := Lib.hid (GotL.lst (cells := Wop.cells) (ok := fun w S v => v.Ok w S) (Wop.Ok.keep) (fun _ _ _ h => Wop.len h.h) hgl (q := w.heap.size) (N := w.heap.size) (g := g) (by have h3 := HB.out.lt; have h4 := HG.out; have h5 := HF3.out.size; omega) (by have h3 := HB.out.lt; have h4 := HG.out; have h5 := HF3.out.size; omega) (by have h3 := HB.out.lt; have h4 := HG.out; have h5 := HF3.out.size; omega))
 have HGL2 : Hid (_ ∧ _) := Lib.hid ⟨hgl.con, hgl.few⟩
 clear hgl
 clear h1 h2 hq_
 go_wp2_with fail
 refine (getTombs_r HR3.out).mono ?_
 rintro e_ w5 ⟨A3, n3, c3, l3, rfl, hgl, h1, h2⟩
 have HR4 := Lib.hid h1
 have HF5 : Hid (Fr [g] wa w5) := Lib.hid (HF4.out.trans h2 (fun x hx _ => hx))
 have hq_ : Fr [g, w.heap.size] w4 w5 := h2.mono (fun x hx _ => by simp at hx; simp [hx])
 have HL1 := Lib.hid (fun W (hW : Fr [g, w.heap.size] w5 W) => HL1.out W (hq_.trans hW (fun x hx _ => hx)))
 have HL2 := Lib.hid (fun W (hW : Fr [g, w.heap.size] w5 W) => HL2.out W (hq_.trans hW (fun x hx _ => hx)))
 have HL3 := Lib.hid (GotL.lst (cells := Wtb.cells) (ok := fun w S v => v.Li w S) (Wtb.Li.keep) (fun _ _ _ _ => rfl) hgl (q := w.heap.size) (N := w.heap.size) (g := g) (by have h3 := HB.out.lt; have h4 := HG.out; have h5 := HF4.out.size; omega) (by have h3 := HB.out.lt; have h4 := HG.out; have h5 := HF4.out.size; omega) (by have h3 := HB.out.lt; have h4 := HG.out; have h5 := HF4.out.size; omega))
 have HGL3 : Hid (_ ∧ _) := Lib.hid ⟨hgl.con, hgl.few⟩
 clear hgl
 clear h1 h2 hq_
 have HBE := Lib.hid (HB.out.keep HF5.out (by have := HG.out; simp; omega))
 have HBU := Lib.hid (built_baR (pI s).1 (pN (pI s).2).1 A1 n1 c1 l1 A2 n2 c2 l2 A3 n3 c3 l3)
 obtain ⟨v, hv⟩ : ∃ v : Wba, v = ⟨(pI s).1, (pN (pI s).2).1, A1, n1, c1, l1, A2, n2, c2, l2, A3, n3, c3, l3⟩ := ⟨_, rfl⟩
 have HVS : Hid (v.cells.toArray.size = 5) := Lib.hid (by rw [hv, List.size_toArray]; exact rfl)
 have HAL : Hid (v.cells.toArray.all (·.oneCell') = true) := Lib.hid (all_oneCell_toArray (Wba.one _))
 have HTS : Hid ((Tryz.prog.info? 45).map (·.size) = some v.cells.toArray.size) := Lib.hid (by rw [HVS.out]; kernel_rfl)
 have HV := Lib.hid hv
 rw [← hv] at HBU
 clear hv
 obtain ⟨V, hV⟩ : ∃ V : Array Value, V = v.cells.toArray := ⟨_, rfl⟩
 have HVV := Lib.hid hV
 rw [← hV] at HBU HAL HVS HTS
 clear hV
 go_wp2_with (first
  | (refine wpList_builtg rfl 45 _ rfl _ _ HBU.out rfl ?_)
  | (refine wpList_store_blk rfl 45 _ _ rfl w.heap.size V rfl rfl 45 (Wba.cells ⟨0, 0, none, 0, 0, [], none, 0, 0, [], none, 0, 0, []⟩).toArray HBE.out HTS.out (by rw [HVS.out]; rfl) HAL.out ?_
     intro w9 hb9 hf9
     have HB9 := Lib.hid hb9
     have HF9 := Lib.hid hf9
     clear hb9 hf9))
 have hq9 : Fr [g, w.heap.size] w5 w9 := HF9.out.mono (fun x hx _ => by simp at hx; simp [hx])
 refine bodyPost_ret (v := .agg V) (results_cell_row Tryz.results123 _ _ w.heap.size 45 V _ _ rfl HB9.out Tryz.underlying45 rfl HTS.out) rfl ⟨v, by rw [HVV.out], ?_, fun S0 h0 => ?_, ?_, ?_⟩
 · rw [HV.out]; unfold Wba.con; rw [HGL1.out.1, HGL2.out.1, HGL3.out.1]; rfl
 · rw [HV.out]; exact ⟨pI_in _, pN_lt _, (HL1.out w9 hq9 S0 h0).1, HGL1.out.2, (HL1.out w9 hq9 S0 h0).2, (HL2.out w9 hq9 S0 h0).1, HGL2.out.2, (HL2.out w9 hq9 S0 h0).2, (HL3.out w9 hq9 S0 h0).1, HGL3.out.2, (HL3.out w9 hq9 S0 h0).2⟩
 · exact HR4.out.fr HF9.out (by have := HG.out; simp; omega) (fun k hk hm => HNF.out (by simp at hm; exact hm ▸ hk))
 · exact Fr.unbox HF0.out HF5.out HF9.out (Nat.le_refl _)
end Go.Proofs.YtdenpfcgghangaaGreat

namespace Go.Proofs.YtdenpfcgghangaaGreat
open Go.RowKit
set_option maxRecDepth 100000
structure Wen where
 c : Int
 s : Int
 h : List UInt8
 t : Nat
def Wen.cells (x : Wen) : List Value := [.int .i64 x.c, .int .i64 x.s] ++ (x.h.map by8 ++ [.int .u64 (x.t : Int)])
structure Wen.Ok (x : Wen) : Prop where
 c : i64In x.c
 s : i64In x.s
 h : x.h.length = 32
 t : x.t < 18446744073709551616
theorem Wen.len {x : Wen} (h : x.h.length = 32) : x.cells.length = 35 := by simp [Wen.cells, h]
theorem Wen.one (x : Wen) : ∀ v ∈ x.cells, v.oneCell' = true := by
 intro v hv
 simp only [Wen.cells, List.mem_append, List.mem_cons, List.not_mem_nil, or_false] at hv
 rcases hv with (rfl | rfl) | hv | rfl
 · rfl
 · rfl
 · exact by8_one _ v hv
 · rfl
def zAk : Array Value := (Wst.cells ⟨0, 0, 0, List.replicate 32 0, 0, 0, 0⟩).toArray
def zVt : Array Value := (Wvt.cells ⟨0, 0, 0, 0, List.replicate 32 0, 0, 0⟩).toArray
def zEn : Array Value := (Wen.cells ⟨0, 0, List.replicate 32 0, 0⟩).toArray
theorem built_akE (parts : List (Nat × Value)) : Tryz.prog.built 37 parts = Instr.fill ([(0, 1), (1, 2), (3, 32), (35, 1), (36, 2)].toArray[·]?) zAk parts := by kernel_rfl
theorem built_akR (r c s : Int) (t : Nat) (b m : Int) (h : List UInt8) (hh : h.length = 32) :
  Tryz.prog.built 37 [(0, .int .i64 r), (1, .agg #[.int .i64 c, .int .i64 s]), (2, .agg (h.map by8).toArray), (3, .int .u64 (t : Int)), (4, .agg #[.int .i64 b, .int .i64 m])] = some (Wst.cells ⟨r, c, s, h, t, b, m⟩).toArray := by
 have hz : zAk.size = 38 := rfl
 rw [built_akE, fill_step _ _ 0 0 1 _ _ rfl rfl (by rw [hz]; omega), fill_step _ _ 1 1 2 _ _ rfl rfl (by simp [splice, zAk, Wst.cells, Value.cells]), fill_step _ _ 2 3 32 _ _ rfl (by simp [Value.cells, hh]) (by simp [splice, zAk, Wst.cells, Value.cells]),
  fill_step _ _ 3 35 1 _ _ rfl rfl (by simp [splice, zAk, Wst.cells, Value.cells, hh]), fill_step _ _ 4 36 2 _ _ rfl rfl (by simp [splice, zAk, Wst.cells, Value.cells, hh]), Instr.fill]
 congr 2
 have tk : ∀ n, 32 ≤ n → (h.map by8).take n = h.map by8 := fun n hn => List.take_of_length_le (by simp [hh]; omega)
 have dk : ∀ n, 32 ≤ n → (h.map by8).drop n = [] := fun n hn => List.drop_of_length_le (by simp [hh]; omega)
 simp [splice, zAk, Wst.cells, Value.cells, hh, List.drop_append, List.take_append, tk, dk]
theorem built_vtE (parts : List (Nat × Value)) : Tryz.prog.built 49 parts = Instr.fill ([(0, 1), (1, 1), (2, 1), (3, 1), (4, 32), (36, 2)].toArray[·]?) zVt parts := by kernel_rfl
theorem built_vtR (k e r q b m : Int) (h : List UInt8) (hh : h.length = 32) :
  Tryz.prog.built 49 [(0, .int .i64 k), (1, .int .i64 e), (2, .int .i64 r), (3, .int .i64 q), (4, .agg (h.map by8).toArray), (5, .agg #[.int .i64 b, .int .i64 m])] = some (Wvt.cells ⟨k, e, r, q, h, b, m⟩).toArray := by
 have hz : zVt.size = 38 := rfl
 rw [built_vtE, fill_step _ _ 0 0 1 _ _ rfl rfl (by rw [hz]; omega), fill_step _ _ 1 1 1 _ _ rfl rfl (by simp [splice, zVt, Wvt.cells, Value.cells]), fill_step _ _ 2 2 1 _ _ rfl rfl (by simp [splice, zVt, Wvt.cells, Value.cells]), fill_step _ _ 3 3 1 _ _ rfl rfl (by simp [splice, zVt, Wvt.cells, Value.cells]),
  fill_step _ _ 4 4 32 _ _ rfl (by simp [Value.cells, hh]) (by simp [splice, zVt, Wvt.cells, Value.cells]), fill_step _ _ 5 36 2 _ _ rfl rfl (by simp [splice, zVt, Wvt.cells, Value.cells, hh]), Instr.fill]
 congr 2
 have tk : ∀ n, 32 ≤ n → (h.map by8).take n = h.map by8 := fun n hn => List.take_of_length_le (by simp [hh]; omega)
 have dk : ∀ n, 32 ≤ n → (h.map by8).drop n = [] := fun n hn => List.drop_of_length_le (by simp [hh]; omega)
 simp [splice, zVt, Wvt.cells, Value.cells, hh, List.drop_append, List.take_append, tk, dk]
theorem built_enE (parts : List (Nat × Value)) : Tryz.prog.built 51 parts = Instr.fill ([(0, 2), (2, 32), (34, 1)].toArray[·]?) zEn parts := by kernel_rfl
theorem built_enR (c s : Int) (t : Nat) (h : List UInt8) (hh : h.length = 32) :
  Tryz.prog.built 51 [(0, .agg #[.int .i64 c, .int .i64 s]), (1, .agg (h.map by8).toArray), (2, .int .u64 (t : Int))] = some (Wen.cells ⟨c, s, h, t⟩).toArray := by
 have hz : zEn.size = 35 := rfl
 rw [built_enE, fill_step _ _ 0 0 2 _ _ rfl rfl (by rw [hz]; omega), fill_step _ _ 1 2 32 _ _ rfl (by simp [Value.cells, hh]) (by simp [splice, zEn, Wen.cells, Value.cells]),
  fill_step _ _ 2 34 1 _ _ rfl rfl (by simp [splice, zEn, Wen.cells, Value.cells, hh]), Instr.fill]
 congr 2
 have tk : ∀ n, 32 ≤ n → (h.map by8).take n = h.map by8 := fun n hn => List.take_of_length_le (by simp [hh]; omega)
 have dk : ∀ n, 32 ≤ n → (h.map by8).drop n = [] := fun n hn => List.drop_of_length_le (by simp [hh]; omega)
 simp [splice, zEn, Wen.cells, Value.cells, hh, List.drop_append, List.take_append, tk, dk]
def pVt (s : Ps) : Wvt × Ps :=
 let k := pI s; let e := pI k.2; let r := pI e.2; let q := pI r.2; let h := pH q.2; let g := p2 h.2
 (⟨k.1, e.1, r.1, q.1, h.1, g.1.1, g.1.2⟩, g.2)
def pEn (s : Ps) : Wen × Ps :=
 let n := p2 s; let h := pH n.2; let t := pN h.2
 (⟨n.1.1, n.1.2, h.1, t.1⟩, t.2)
theorem pVt_ok (s : Ps) : (pVt s).1.Ok := ⟨pI_in _, pI_in _, pI_in _, pI_in _, pH_len _, pI_in _, pI_in _⟩
theorem pEn_ok (s : Ps) : (pEn s).1.Ok := ⟨pI_in _, pI_in _, pH_len _, pN_lt _⟩
set_option maxHeartbeats 1000000 in
theorem getAck_any {w : World} {F : List Nat} {g : Nat} {s : Ps} (hr : Rs w F g s) : Calls Tryz.prog 82 #[.pointer (some ⟨g, 0, none⟩)] w fun e w' => e = .returned (.agg (pSt s).1.cells.toArray) ∧ Rs w' F g (pSt s).2 ∧ Fr [g] w w' := by
 obtain ⟨wa, hwa⟩ : ∃ wa, wa = w.alloc (Obj.cells zAk 37) := ⟨_, rfl⟩
 have hf0 : Fr [] w wa := by rw [hwa]; exact (Fr.refl [] w).alloc _
 have HB : Hid (Blk wa w.heap.size 37 zAk) := Lib.hid (by rw [hwa]; exact Blk.new _ _ _)
 have HR := Lib.hid (hr.fr hf0 (by simp) (by simp))
 have HNF : Hid (¬ w.heap.size ∈ F) := Lib.hid (fun hm => by have := hr.lt _ hm; omega)
 have HG : Hid (g < w.heap.size) := Lib.hid hr.gt
 have HF0 := Lib.hid hf0
 have HWA := Lib.hid hwa
 clear hwa hf0 hr
 go_enter Tryz.func82, Tryz.ntmps82
 go_upto_region 1 with (fail)
 change Code.wp _ _ _ _ (w.alloc (Obj.cells zAk 37))
 rw [← HWA.out]
 go_wp2_with fail
 refine (getInt_any HR.out).mono ?_
 rintro e_ w1 ⟨rfl, h1, h2⟩
 have HR0 := Lib.hid h1
 have HF1 : Hid (Fr [g] wa w1) := Lib.hid h2
 clear h1 h2
 go_wp2_with fail
 refine (getName_any HR0.out).mono ?_
 rintro e_ w2 ⟨rfl, h1, h2⟩
 have HR1 := Lib.hid h1
 have HF2 : Hid (Fr [g] wa w2) := Lib.hid (HF1.out.trans h2 (fun x hx _ => hx))
 clear h1 h2
 go_wp2_with fail
 refine (getHash_any HR1.out).mono ?_
 rintro e_ w3 ⟨rfl, h1, h2⟩
 have HR2 := Lib.hid h1
 have HF3 : Hid (Fr [g] wa w3) := Lib.hid (HF2.out.trans h2 (fun x hx _ => hx))
 clear h1 h2
 go_wp2_with fail
 refine (getNum_any HR2.out).mono ?_
 rintro e_ w4 ⟨rfl, h1, h2⟩
 have HR3 := Lib.hid h1
 have HF4 : Hid (Fr [g] wa w4) := Lib.hid (HF3.out.trans h2 (fun x hx _ => hx))
 clear h1 h2
 go_wp2_with fail
 refine (getSig_any HR3.out).mono ?_
 rintro e_ w5 ⟨rfl, h1, h2⟩
 have HR4 := Lib.hid h1
 have HF5 : Hid (Fr [g] wa w5) := Lib.hid (HF4.out.trans h2 (fun x hx _ => hx))
 clear h1 h2
 have HBE := Lib.hid (HB.out.keep HF5.out (by have := HG.out; simp; omega))
 have HBU : Hid (Tryz.prog.built 37 [(0, .int .i64 (pSt s).1.r), (1, .agg #[.int .i64 (pSt s).1.c, .int .i64 (pSt s).1.s]), (2, .agg ((pSt s).1.h.map by8).toArray), (3, .int .u64 ((pSt s).1.t : Int)), (4, .agg #[.int .i64 (pSt s).1.b, .int .i64 (pSt s).1.m])] = some (pSt s).1.cells.toArray) := Lib.hid (built_akR _ _ _ _ _ _ _ (pSt_ok s).h)
 have HAL : Hid (((pSt s).1.cells.toArray : Array Value).all (·.oneCell') = true) := Lib.hid (all_oneCell_toArray (Wst.one _))
 have HVS : Hid (((pSt s).1.cells.toArray : Array Value).size = 38) := Lib.hid (by rw [List.size_toArray]; exact Wst.len (pSt_ok s).h)
 have HTS : Hid ((Tryz.prog.info? 37).map (·.size) = some ((pSt s).1.cells.toArray : Array Value).size) := Lib.hid (by rw [HVS.out]; kernel_rfl)
 obtain ⟨V, hV⟩ : ∃ V, V = ((pSt s).1.cells.toArray : Array Value) := ⟨_, rfl⟩
 have HV := Lib.hid hV
 rw [← hV] at HBU HAL HVS HTS
 clear hV
 go_wp2_with (first
  | (refine wpList_builtg rfl 37 _ rfl _ _ HBU.out rfl ?_)
  | (refine wpList_store_blk rfl 37 _ _ rfl w.heap.size V rfl rfl 37 zAk HBE.out HTS.out (by rw [HVS.out]; rfl) HAL.out ?_
     intro w9 hb9 hf9
     have HB9 := Lib.hid hb9
     have HF9 := Lib.hid hf9
     clear hb9 hf9))
 refine bodyPost_ret (v := .agg V) (results_cell_row Tryz.results82 _ _ w.heap.size 37 V _ _ rfl HB9.out Tryz.underlying37 rfl HTS.out) rfl ⟨by rw [HV.out], ?_, ?_⟩
 · exact HR4.out.fr HF9.out (by have := HG.out; simp; omega) (fun k hk hm => HNF.out (by simp at hm; exact hm ▸ hk))
 · exact Fr.unbox HF0.out HF5.out HF9.out (Nat.le_refl _)
set_option maxHeartbeats 1000000 in
theorem getVote_any {w : World} {F : List Nat} {g : Nat} {s : Ps} (hr : Rs w F g s) : Calls Tryz.prog 86 #[.pointer (some ⟨g, 0, none⟩)] w fun e w' => e = .returned (.agg (pVt s).1.cells.toArray) ∧ Rs w' F g (pVt s).2 ∧ Fr [g] w w' := by
 obtain ⟨wa, hwa⟩ : ∃ wa, wa = w.alloc (Obj.cells zVt 49) := ⟨_, rfl⟩
 have hf0 : Fr [] w wa := by rw [hwa]; exact (Fr.refl [] w).alloc _
 have HB : Hid (Blk wa w.heap.size 49 zVt) := Lib.hid (by rw [hwa]; exact Blk.new _ _ _)
 have HR := Lib.hid (hr.fr hf0 (by simp) (by simp))
 have HNF : Hid (¬ w.heap.size ∈ F) := Lib.hid (fun hm => by have := hr.lt _ hm; omega)
 have HG : Hid (g < w.heap.size) := Lib.hid hr.gt
 have HF0 := Lib.hid hf0
 have HWA := Lib.hid hwa
 clear hwa hf0 hr
 go_enter Tryz.func86, Tryz.ntmps86
 go_upto_region 1 with (fail)
 change Code.wp _ _ _ _ (w.alloc (Obj.cells zVt 49))
 rw [← HWA.out]
 go_wp2_with fail
 refine (getInt_any HR.out).mono ?_
 rintro e_ w1 ⟨rfl, h1, h2⟩
 have HR0 := Lib.hid h1
 have HF1 : Hid (Fr [g] wa w1) := Lib.hid h2
 clear h1 h2
 go_wp2_with fail
 refine (getInt_any HR0.out).mono ?_
 rintro e_ w2 ⟨rfl, h1, h2⟩
 have HR1 := Lib.hid h1
 have HF2 : Hid (Fr [g] wa w2) := Lib.hid (HF1.out.trans h2 (fun x hx _ => hx))
 clear h1 h2
 go_wp2_with fail
 refine (getInt_any HR1.out).mono ?_
 rintro e_ w3 ⟨rfl, h1, h2⟩
 have HR2 := Lib.hid h1
 have HF3 : Hid (Fr [g] wa w3) := Lib.hid (HF2.out.trans h2 (fun x hx _ => hx))
 clear h1 h2
 go_wp2_with fail
 refine (getInt_any HR2.out).mono ?_
 rintro e_ w4 ⟨rfl, h1, h2⟩
 have HR3 := Lib.hid h1
 have HF4 : Hid (Fr [g] wa w4) := Lib.hid (HF3.out.trans h2 (fun x hx _ => hx))
 clear h1 h2
 go_wp2_with fail
 refine (getHash_any HR3.out).mono ?_
 rintro e_ w5 ⟨rfl, h1, h2⟩
 have HR4 := Lib.hid h1
 have HF5 : Hid (Fr [g] wa w5) := Lib.hid (HF4.out.trans h2 (fun x hx _ => hx))
 clear h1 h2
 go_wp2_with fail
 refine (getSig_any HR4.out).mono ?_
 rintro e_ w6 ⟨rfl, h1, h2⟩
 have HR5 := Lib.hid h1
 have HF6 : Hid (Fr [g] wa w6) := Lib.hid (HF5.out.trans h2 (fun x hx _ => hx))
 clear h1 h2
 have HBE := Lib.hid (HB.out.keep HF6.out (by have := HG.out; simp; omega))
 have HBU : Hid (Tryz.prog.built 49 [(0, .int .i64 (pVt s).1.k), (1, .int .i64 (pVt s).1.e), (2, .int .i64 (pVt s).1.r), (3, .int .i64 (pVt s).1.p), (4, .agg ((pVt s).1.h.map by8).toArray), (5, .agg #[.int .i64 (pVt s).1.b, .int .i64 (pVt s).1.m])] = some (pVt s).1.cells.toArray) := Lib.hid (built_vtR _ _ _ _ _ _ _ (pVt_ok s).h)
 have HAL : Hid (((pVt s).1.cells.toArray : Array Value).all (·.oneCell') = true) := Lib.hid (all_oneCell_toArray (Wvt.one _))
 have HVS : Hid (((pVt s).1.cells.toArray : Array Value).size = 38) := Lib.hid (by rw [List.size_toArray]; exact Wvt.len (pVt_ok s).h)
 have HTS : Hid ((Tryz.prog.info? 49).map (·.size) = some ((pVt s).1.cells.toArray : Array Value).size) := Lib.hid (by rw [HVS.out]; kernel_rfl)
 obtain ⟨V, hV⟩ : ∃ V, V = ((pVt s).1.cells.toArray : Array Value) := ⟨_, rfl⟩
 have HV := Lib.hid hV
 rw [← hV] at HBU HAL HVS HTS
 clear hV
 go_wp2_with (first
  | (refine wpList_builtg rfl 49 _ rfl _ _ HBU.out rfl ?_)
  | (refine wpList_store_blk rfl 49 _ _ rfl w.heap.size V rfl rfl 49 zVt HBE.out HTS.out (by rw [HVS.out]; rfl) HAL.out ?_
     intro w9 hb9 hf9
     have HB9 := Lib.hid hb9
     have HF9 := Lib.hid hf9
     clear hb9 hf9))
 refine bodyPost_ret (v := .agg V) (results_cell_row Tryz.results86 _ _ w.heap.size 49 V _ _ rfl HB9.out Tryz.underlying49 rfl HTS.out) rfl ⟨by rw [HV.out], ?_, ?_⟩
 · exact HR5.out.fr HF9.out (by have := HG.out; simp; omega) (fun k hk hm => HNF.out (by simp at hm; exact hm ▸ hk))
 · exact Fr.unbox HF0.out HF6.out HF9.out (Nat.le_refl _)
set_option maxHeartbeats 1000000 in
theorem getEntry_any {w : World} {F : List Nat} {g : Nat} {s : Ps} (hr : Rs w F g s) : Calls Tryz.prog 87 #[.pointer (some ⟨g, 0, none⟩)] w fun e w' => e = .returned (.agg (pEn s).1.cells.toArray) ∧ Rs w' F g (pEn s).2 ∧ Fr [g] w w' := by
 obtain ⟨wa, hwa⟩ : ∃ wa, wa = w.alloc (Obj.cells zEn 51) := ⟨_, rfl⟩
 have hf0 : Fr [] w wa := by rw [hwa]; exact (Fr.refl [] w).alloc _
 have HB : Hid (Blk wa w.heap.size 51 zEn) := Lib.hid (by rw [hwa]; exact Blk.new _ _ _)
 have HR := Lib.hid (hr.fr hf0 (by simp) (by simp))
 have HNF : Hid (¬ w.heap.size ∈ F) := Lib.hid (fun hm => by have := hr.lt _ hm; omega)
 have HG : Hid (g < w.heap.size) := Lib.hid hr.gt
 have HF0 := Lib.hid hf0
 have HWA := Lib.hid hwa
 clear hwa hf0 hr
 go_enter Tryz.func87, Tryz.ntmps87
 go_upto_region 1 with (fail)
 change Code.wp _ _ _ _ (w.alloc (Obj.cells zEn 51))
 rw [← HWA.out]
 go_wp2_with fail
 refine (getName_any HR.out).mono ?_
 rintro e_ w1 ⟨rfl, h1, h2⟩
 have HR0 := Lib.hid h1
 have HF1 : Hid (Fr [g] wa w1) := Lib.hid h2
 clear h1 h2
 go_wp2_with fail
 refine (getHash_any HR0.out).mono ?_
 rintro e_ w2 ⟨rfl, h1, h2⟩
 have HR1 := Lib.hid h1
 have HF2 : Hid (Fr [g] wa w2) := Lib.hid (HF1.out.trans h2 (fun x hx _ => hx))
 clear h1 h2
 go_wp2_with fail
 refine (getNum_any HR1.out).mono ?_
 rintro e_ w3 ⟨rfl, h1, h2⟩
 have HR2 := Lib.hid h1
 have HF3 : Hid (Fr [g] wa w3) := Lib.hid (HF2.out.trans h2 (fun x hx _ => hx))
 clear h1 h2
 have HBE := Lib.hid (HB.out.keep HF3.out (by have := HG.out; simp; omega))
 have HBU : Hid (Tryz.prog.built 51 [(0, .agg #[.int .i64 (pEn s).1.c, .int .i64 (pEn s).1.s]), (1, .agg ((pEn s).1.h.map by8).toArray), (2, .int .u64 ((pEn s).1.t : Int))] = some (pEn s).1.cells.toArray) := Lib.hid (built_enR _ _ _ _ (pEn_ok s).h)
 have HAL : Hid (((pEn s).1.cells.toArray : Array Value).all (·.oneCell') = true) := Lib.hid (all_oneCell_toArray (Wen.one _))
 have HVS : Hid (((pEn s).1.cells.toArray : Array Value).size = 35) := Lib.hid (by rw [List.size_toArray]; exact Wen.len (pEn_ok s).h)
 have HTS : Hid ((Tryz.prog.info? 51).map (·.size) = some ((pEn s).1.cells.toArray : Array Value).size) := Lib.hid (by rw [HVS.out]; kernel_rfl)
 obtain ⟨V, hV⟩ : ∃ V, V = ((pEn s).1.cells.toArray : Array Value) := ⟨_, rfl⟩
 have HV := Lib.hid hV
 rw [← hV] at HBU HAL HVS HTS
 clear hV
 go_wp2_with (first
  | (refine wpList_builtg rfl 51 _ rfl _ _ HBU.out rfl ?_)
  | (refine wpList_store_blk rfl 51 _ _ rfl w.heap.size V rfl rfl 51 zEn HBE.out HTS.out (by rw [HVS.out]; rfl) HAL.out ?_
     intro w9 hb9 hf9
     have HB9 := Lib.hid hb9
     have HF9 := Lib.hid hf9
     clear hb9 hf9))
 refine bodyPost_ret (v := .agg V) (results_cell_row Tryz.results87 _ _ w.heap.size 51 V _ _ rfl HB9.out Tryz.underlying51 rfl HTS.out) rfl ⟨by rw [HV.out], ?_, ?_⟩
 · exact HR2.out.fr HF9.out (by have := HG.out; simp; omega) (fun k hk hm => HNF.out (by simp at hm; exact hm ▸ hk))
 · exact Fr.unbox HF0.out HF3.out HF9.out (Nat.le_refl _)
theorem el_voteM : ElTy Tryz.prog 49 38 80 := ElTy.of (by kernel_rfl)
set_option maxHeartbeats 4000000 in
theorem getVotes_any {α β : Type} (cells : α → List Value) (ok : World → List Nat → α → Prop) (con : α → β) (p : Ps → β × Ps) (hone : ∀ v, ∀ u ∈ cells v, u.oneCell' = true)
  (hkeep : ∀ {w W : World} {S S' : List Nat} {x : α}, ok w S x → Fr S w W → (∀ k ∈ S', k < w.heap.size → k ∈ S) → ok W S' x) (hlen : ∀ w S v, ok w S v → (cells v).length = 38) (hget : Gets 86 cells ok con p)
  (w : World) (F : List Nat) (g : Nat) (s : Ps) (hr : Rs w F g s) :
  Calls Tryz.prog 125 #[.pointer (some ⟨g, 0, none⟩), fnV 86] w fun e w' => ∃ (A : Option Addr) (n c : Nat) (l : List α), e = .returned (.slice A n c) ∧ GotL 49 38 cells ok con w w' A n c l (pL p s).1 ∧ Rs w' F g (pL p s).2 ∧ Fr [g] w w' := by
 have HR := Lib.hid hr
 have HG : Hid (g < w.heap.size ∧ ∀ k ∈ F, k < w.heap.size) := Lib.hid ⟨hr.gt, hr.lt⟩
 have HGET := Lib.hid hget
 clear hr hget
 unfold fnV
 go_enter Tryz.func125, Tryz.ntmps125
 go_wp2_with fail
 refine (getCount_any HR.out).mono ?_
 rintro e_ w1 ⟨rfl, h1, h2⟩
 have HR1 := Lib.hid h1
 have HF1 := Lib.hid h2
 have HPL : Hid (pL p s = pRep p (pC s).1 (pC s).2) := Lib.hid rfl
 have hn := pC_le s
 clear h1 h2
 generalize (pC s).1 = n at *
 generalize (pC s).2 = s1 at *
 go_wp2_with fail
 go_loopw [5, 8] (fun sl i wr => ∃ (k : Nat) (A4 : Option Addr) (c4 : Nat) (ys : List α), k ≤ n ∧ i = .int .i64 k ∧ sl = .slice A4 k c4 ∧ ys.length = k ∧ Hid (ys.map con = (pRep p k s1).1) ∧ Hid (wr.ownsRow 0 49 38 (.slice A4 k c4) k (ys.flatMap cells)) ∧ Hid (∀ q ∈ bk A4, w.heap.size ≤ q) ∧ Hid (∀ y ∈ ys, ∀ S0 : List Nat, (∀ q ∈ S0, q < w.heap.size ∨ q ∈ bk A4) → ok wr S0 y) ∧ Hid (Rs wr F g (pRep p k s1).2) ∧ Hid (Fr [g] w wr)) (fun _ i _ => n - (intOf i).toNat)
 case atStart => exact ⟨0, none, 0, [], by omega, rfl, rfl, rfl, Lib.hid rfl, Lib.hid ⟨by simp, .inl ⟨rfl, rfl⟩⟩, Lib.hid (by simp [bk]), Lib.hid (by simp), HR1, HF1⟩
 case round =>
  obtain ⟨k, A4, c4, ys, hk, rfl, rfl, hyl, HCN, HO, HNA, HYS, HRR, HF⟩ := hrel
  by_cases hlt : k < n
  · have HKN : Hid (k < n) := Lib.hid hlt
    have hk0 : (0 : Int) ≤ k := by omega
    go_wp2_with fail
    refine (HGET.out wr F g _ HRR.out).mono ?_
    rintro e_ w4 ⟨y, rfl, hyc, hyok, hr4, hf4⟩
    have HYC := Lib.hid hyc
    have HR4 := Lib.hid hr4
    have HF4 := Lib.hid hf4
    have HNW : Hid (∀ S0 : List Nat, (∀ q ∈ S0, q < w.heap.size ∨ q ∈ g :: bk A4) → ok w4 S0 y) := Lib.hid (fun S0 h0 => hyok S0 (fun q hq => by
     have h1 := HF.out.size
     have h2 := HG.out.1
     rcases h0 q hq with h | h
     · omega
     · rcases List.mem_cons.1 h with h | h
       · omega
       · exact own_lt HO.out q ((bk_mem A4 k c4 q).2 h)))
    have hD : (cells y).length = 38 := hlen _ _ _ (hyok [] (by simp))
    have hD1 := hone y
    have HO4 := Lib.hid (own_keep HO.out hf4 (fun q hq hm => by have h1 := HNA.out q ((bk_mem A4 k c4 q).1 hq); have h2 := HG.out.1; simp at hm; omega))
    obtain ⟨D, hDY⟩ : ∃ D, D = cells y := ⟨_, rfl⟩
    rw [← hDY] at hD hD1 ⊢
    have HD := Lib.hid hD
    have HD1 := Lib.hid hD1
    have HDY := Lib.hid hDY
    clear hyc hyok hr4 hf4 hD hD1 hDY hlt
    go_wp2_with (first | (refine wpList_build_one rfl 57 49 _ rfl Tryz.underlying57 D 80 (by rw [HD.out]; exact el_voteM) rfl (by rw [HD.out]; decide) (by rw [HD.out]; decide) ?_) | (at_builtin; refine Stop.mk ?_))
    refine Stop.go ?_
    refine wpList_append_one2 rfl _ _ 57 49 rfl Tryz.underlying57 38 80 el_voteM (by decide) 0 (.slice A4 k c4) k _ D rfl (HO4.out.alloc _) (Nat.zero_le _) HD.out HD1.out w4.heap.size 49 rfl (Blk.new _ _ _) (by omega) (by decide) ?_
    intro A9 c9 w9 ho9 hf9 hb9
    have HO9 := Lib.hid ho9
    have HF9 : Hid (Fr (bk A4) w4 w9) := Lib.hid (by
     have h : Fr (bk A4) (w4.alloc (Obj.cells D.toArray 49)) w9 := by rw [← bk_own A4 k c4]; exact hf9
     exact (((Fr.refl [] w4).alloc _).mono (by simp)).trans h (fun y hy _ => hy))
    have HB9 : Hid (∀ q ∈ bk A9, q ∈ bk A4 ∨ w4.heap.size ≤ q) := Lib.hid (by
     intro q hq
     rw [← bk_own A9 (k + 1) c9] at hq
     rcases hb9 with h | h
     · rw [h, bk_own] at hq; exact .inl hq
     · rw [h] at hq; simp at hq; exact .inr (by omega))
    clear ho9 hf9 hb9
    go_wp2
    go_roundw
    case rel =>
     have hbl : ∀ q ∈ bk A4, w.heap.size ≤ q := HNA.out
     refine ⟨k + 1, A9, c9, ys ++ [y], by have := HKN.out; omega, by go_num, rfl, by simp [hyl], ?_, ?_, ?_, ?_, ?_, ?_⟩
     · exact Lib.hid (by rw [List.map_append, HCN.out]; show _ ++ [con y] = _; rw [HYC.out]; rfl)
     · refine Lib.hid ?_
       rw [List.flatMap_append, List.flatMap_singleton, ← HDY.out]
       exact HO9.out
     · refine Lib.hid (fun q hq => ?_)
       rcases HB9.out q hq with h | h
       · exact hbl q h
       · have h1 := HF.out.size; have h2 := HF4.out.size; omega
     · refine Lib.hid (fun u hu S0 h0 => ?_)
       have hfg : Fr (g :: bk A4) w4 w9 := HF9.out.mono (fun q hq _ => by simp [hq])
       have hfr : Fr (g :: bk A4) wr w9 := (HF4.out.mono (fun q hq _ => by simp at hq; simp [hq])).trans hfg (fun q hq _ => hq)
       have h0' : ∀ q ∈ S0, q < w.heap.size ∨ q ∈ g :: bk A9 := fun q hq => (h0 q hq).imp id (fun h => by simp [h])
       have hsz := HF4.out.size
       rcases List.mem_append.1 hu with hu | hu
       · refine keepAll (ok := ok) (fun h f s => hkeep h f s) (w := wr) (B4 := g :: bk A4) (B9 := g :: bk A9) hfr (fun q hq => ?_) (fun S1 h1 => HYS.out u hu S1 (fun q hq => ?_)) S0 h0'
         · rcases List.mem_cons.1 hq with h | h
           · exact .inl (by simp [h])
           · exact (HB9.out q h).imp (fun h => by simp [h]) (fun h => by omega)
         · rcases h1 q hq with h | h
           · exact .inl h
           · rcases List.mem_cons.1 h with h | h
             · exact .inl (by have := HG.out.1; omega)
             · exact .inr h
       · rw [List.mem_singleton.1 hu]
         refine keepAll (ok := ok) (fun h f s => hkeep h f s) (w := w4) (B4 := g :: bk A4) (B9 := g :: bk A9) hfg (fun q hq => ?_) HNW.out S0 h0'
         rcases List.mem_cons.1 hq with h | h
         · exact .inl (by simp [h])
         · exact (HB9.out q h).imp (fun h => by simp [h]) id
     · refine Lib.hid (HR4.out.fr HF9.out (fun hm => ?_) (fun q hq hm => ?_))
       · have h1 := hbl _ hm; have h2 := HG.out.1; omega
       · have h1 := hbl _ hm; have h2 := HG.out.2 q hq; omega
     · exact Lib.hid ((HF.out.trans HF4.out (fun q hq _ => hq)).trans HF9.out (fun q hq hl => by have := hbl q hq; omega))
    case measure => have := HKN.out; simp [intOf]; omega
  · have hkn : n = k := by omega
    subst hkn
    have HFIN : Hid (GotL 49 38 cells ok con w wr A4 n c4 ys (pL p s).1 ∧ Rs wr F g (pL p s).2) := Lib.hid (by
     rw [HPL.out]
     exact ⟨⟨HO.out, hyl, HCN.out, hn, HNA.out, fun v hv S0 h0 => HYS.out v hv S0 (fun q hq => .inl (h0 q hq))⟩, HRR.out⟩)
    clear hlt hk
    go_wp2
    go_ret
    exact ⟨A4, n, c4, ys, rfl, HFIN.out.1, HFIN.out.2, HF.out⟩
theorem getVotes_r {w : World} {F : List Nat} {g : Nat} {s : Ps} (hr : Rs w F g s) : Calls Tryz.prog 125 #[.pointer (some ⟨g, 0, none⟩), fnV 86] w fun e w' => ∃ (A : Option Addr) (n c : Nat) (l : List Wvt), e = .returned (.slice A n c) ∧ GotL 49 38 Wvt.cells (fun _ _ v => v.Ok) id w w' A n c l (pL pVt s).1 ∧ Rs w' F g (pL pVt s).2 ∧ Fr [g] w w' :=
 getVotes_any Wvt.cells (fun _ _ v => v.Ok) id pVt Wvt.one (fun h _ _ => h) (fun _ _ _ h => Wvt.len h.h) (gets_of (fun _ _ _ _ hr => getVote_any hr) pVt_ok) w F g s hr
structure Wdc where
 e : Int
 r : Int
 k : Wba
 A : Option Addr
 n : Nat
 d : Nat
 l : List Wvt
def Wdc.cells (x : Wdc) : List Value := [.int .i64 x.e, .int .i64 x.r] ++ (x.k.cells ++ [.slice x.A x.n x.d])
theorem Wdc.one (x : Wdc) : ∀ v ∈ x.cells, v.oneCell' = true := by
 intro v hv
 simp only [Wdc.cells, List.mem_append, List.mem_cons, List.not_mem_nil, or_false] at hv
 rcases hv with (rfl | rfl) | hv | rfl
 · rfl
 · rfl
 · exact Wba.one _ v hv
 · rfl
structure Wdc.Li (w : World) (S : List Nat) (x : Wdc) : Prop where
 e : i64In x.e
 r : i64In x.r
 k : x.k.Li w S
 l : Lst 38 Wvt.cells (fun _ v => v.Ok) w x.A x.n x.l
 n : x.n ≤ 100
 ap : 0 < x.n → ∀ a, x.A = some a → ¬ a.block ∈ S
structure Cdc where
 e : Int
 r : Int
 k : Cba
 l : List Wvt
def Wdc.con (x : Wdc) : Cdc := ⟨x.e, x.r, x.k.con, x.l⟩
theorem Wpo.one (x : Wpo) : ∀ v ∈ x.cells, v.oneCell' = true := by
 intro v hv
 simp only [Wpo.cells, List.mem_append, List.mem_cons, List.not_mem_nil, or_false] at hv
 rcases hv with (rfl | rfl | rfl | rfl) | hv | rfl | rfl
 · rfl
 · rfl
 · rfl
 · rfl
 · exact Wba.one _ v hv
 · rfl
 · rfl
structure Wpo.Li (w : World) (S : List Nat) (x : Wpo) : Prop where
 e : i64In x.e
 r : i64In x.r
 v : i64In x.v
 p : i64In x.p
 k : x.k.Li w S
 b : i64In x.b
 m : i64In x.m
structure Cpo where
 e : Int
 r : Int
 v : Int
 p : Int
 k : Cba
 b : Int
 m : Int
def Wpo.con (x : Wpo) : Cpo := ⟨x.e, x.r, x.v, x.p, x.k.con, x.b, x.m⟩
def pPo (s : Ps) : Cpo × Ps :=
 let e := pI s; let r := pI e.2; let v := pI r.2; let p := pI v.2; let k := pBa p.2; let g := p2 k.2
 (⟨e.1, r.1, v.1 - 1, p.1, k.1, g.1.1, g.1.2⟩, g.2)
def pDc (s : Ps) : Cdc × Ps :=
 let e := pI s; let r := pI e.2; let k := pBa r.2; let l := pL pVt k.2
 (⟨e.1, r.1, k.1, l.1⟩, l.2)
theorem built_dcR (e r : Int) (k : Wba) (A : Option Addr) (n d : Nat) (l : List Wvt) : Tryz.prog.built 59 [(0, .int .i64 e), (1, .int .i64 r), (2, .agg k.cells.toArray), (3, .slice A n d)] = some (Wdc.cells ⟨e, r, k, A, n, d, l⟩).toArray := by kernel_rfl
theorem built_poR (e r v p : Int) (k : Wba) (b m : Int) : Tryz.prog.built 47 [(0, .int .i64 e), (1, .int .i64 r), (2, .int .i64 v), (3, .int .i64 p), (4, .agg k.cells.toArray), (5, .agg #[.int .i64 b, .int .i64 m])] = some (Wpo.cells ⟨e, r, v, p, k, b, m⟩).toArray := by kernel_rfl
theorem pI_wrap (s : Ps) : wrap64 ((pI s).1 - 1) = (pI s).1 - 1 := by
 have h := inN_le s.1 (m := 1099511627776) (by omega)
 unfold pI wrap64
 simp only
 omega
theorem pI_lessW (s : Ps) : i64In (wrap64 ((pI s).1 - 1)) := by
 have h := inN_le s.1 (m := 1099511627776) (by omega)
 unfold pI wrap64 i64In
 simp only
 omega
set_option maxHeartbeats 2000000 in
theorem getDecided_any : Gets 91 Wdc.cells (fun w S v => v.Li w S) Wdc.con pDc := by
 intro w F g s hr
 obtain ⟨wa, hwa⟩ : ∃ wa, wa = w.alloc (Obj.cells (Wdc.cells ⟨0, 0, ⟨0, 0, none, 0, 0, [], none, 0, 0, [], none, 0, 0, []⟩, none, 0, 0, []⟩).toArray 59) := ⟨_, rfl⟩
 have hf0 : Fr [] w wa := by rw [hwa]; exact (Fr.refl [] w).alloc _
 have HB : Hid (Blk wa w.heap.size 59 (Wdc.cells ⟨0, 0, ⟨0, 0, none, 0, 0, [], none, 0, 0, [], none, 0, 0, []⟩, none, 0, 0, []⟩).toArray) := Lib.hid (by rw [hwa]; exact Blk.new _ _ _)
 have HR := Lib.hid (hr.fr hf0 (by simp) (by simp))
 have HNF : Hid (¬ w.heap.size ∈ F) := Lib.hid (fun hm => by have := hr.lt _ hm; omega)
 have HG : Hid (g < w.heap.size) := Lib.hid hr.gt
 have HF0 := Lib.hid hf0
 have HWA := Lib.hid hwa
 clear hwa hf0 hr
 go_enter Tryz.func91, Tryz.ntmps91
 go_upto_region 1 with (fail)
 change Code.wp _ _ _ _ (w.alloc (Obj.cells (Wdc.cells ⟨0, 0, ⟨0, 0, none, 0, 0, [], none, 0, 0, [], none, 0, 0, []⟩, none, 0, 0, []⟩).toArray 59))
 rw [← HWA.out]
 go_wp2_with fail
 refine (getInt_any HR.out).mono ?_
 rintro e_ w1 ⟨rfl, h1, h2⟩
 have HR0 := Lib.hid h1
 have HF1 : Hid (Fr [g] wa w1) := Lib.hid h2
 have hq_ : Fr [g, w.heap.size] wa w1 := h2.mono (fun x hx _ => by simp at hx; simp [hx])
 clear h1 h2 hq_
 go_wp2_with fail
 refine (getInt_any HR0.out).mono ?_
 rintro e_ w2 ⟨rfl, h1, h2⟩
 have HR1 := Lib.hid h1
 have HF2 : Hid (Fr [g] wa w2) := Lib.hid (HF1.out.trans h2 (fun x hx _ => hx))
 have hq_ : Fr [g, w.heap.size] w1 w2 := h2.mono (fun x hx _ => by simp at hx; simp [hx])
 clear h1 h2 hq_
 go_wp2_with fail
 refine (getBatch_any _ F g _ HR1.out).mono ?_
 rintro e_ w3 ⟨vb, rfl, hcb, hokb, h1, h2⟩
 have HR2 := Lib.hid h1
 have HF3 : Hid (Fr [g] wa w3) := Lib.hid (HF2.out.trans h2 (fun x hx _ => hx))
 have hq_ : Fr [g, w.heap.size] w2 w3 := h2.mono (fun x hx _ => by simp at hx; simp [hx])
 have HL0 : Hid (∀ W, Fr [g, w.heap.size] w3 W → ∀ S0 : List Nat, (∀ q ∈ S0, q < w.heap.size) → vb.Li W S0) := Lib.hid (fun W hW S0 h0 => (hokb (g :: w.heap.size :: S0) (fun q hq => by
  have h3 := HB.out.lt; have h4 := HG.out; have h5 := HF2.out.size
  rcases List.mem_cons.1 hq with rfl | hq
  · omega
  · rcases List.mem_cons.1 hq with rfl | hq
    · omega
    · have := h0 q hq; omega)).keep (hW.mono (fun k hk _ => by simp at hk; simp; omega)) (fun k hk _ => by simp [hk]))
 have HCB := Lib.hid hcb
 clear hcb hokb
 clear h1 h2 hq_
 go_wp2_with fail
 refine (getVotes_r HR2.out).mono ?_
 rintro e_ w4 ⟨A1, n1, c1, l1, rfl, hgl, h1, h2⟩
 have HR3 := Lib.hid h1
 have HF4 : Hid (Fr [g] wa w4) := Lib.hid (HF3.out.trans h2 (fun x hx _ => hx))
 have hq_ : Fr [g, w.heap.size] w3 w4 := h2.mono (fun x hx _ => by simp at hx; simp [hx])
 have HL0 := Lib.hid (fun W (hW : Fr [g, w.heap.size] w4 W) => HL0.out W (hq_.trans hW (fun x hx _ => hx)))
 have HL1 := Lib.hid (GotL.lst (cells := Wvt.cells) (ok := fun _ _ v => v.Ok) (fun h _ _ => h) (fun _ _ _ h => Wvt.len h.h) hgl (q := w.heap.size) (N := w.heap.size) (g := g) (by have h3 := HB.out.lt; have h4 := HG.out; have h5 := HF3.out.size; omega) (by have h3 := HB.out.lt; have h4 := HG.out; have h5 := HF3.out.size; omega) (by have h3 := HB.out.lt; have h4 := HG.out; have h5 := HF3.out.size; omega))
 have HGL1 : Hid (_ ∧ _) := Lib.hid ⟨hgl.con, hgl.few⟩
 clear hgl
 clear h1 h2 hq_
 have HBE := Lib.hid (HB.out.keep HF4.out (by have := HG.out; simp; omega))
 have HBU := Lib.hid (built_dcR (pI s).1 (pI (pI s).2).1 vb A1 n1 c1 l1)
 obtain ⟨v, hv⟩ : ∃ v : Wdc, v = ⟨(pI s).1, (pI (pI s).2).1, vb, A1, n1, c1, l1⟩ := ⟨_, rfl⟩
 have HVS : Hid (v.cells.toArray.size = 8) := Lib.hid (by rw [hv, List.size_toArray]; exact rfl)
 have HAL : Hid (v.cells.toArray.all (·.oneCell') = true) := Lib.hid (all_oneCell_toArray (Wdc.one _))
 have HTS : Hid ((Tryz.prog.info? 59).map (·.size) = some v.cells.toArray.size) := Lib.hid (by rw [HVS.out]; kernel_rfl)
 have HV := Lib.hid hv
 rw [← hv] at HBU
 clear hv
 obtain ⟨V, hV⟩ : ∃ V : Array Value, V = v.cells.toArray := ⟨_, rfl⟩
 have HVV := Lib.hid hV
 rw [← hV] at HBU HAL HVS HTS
 clear hV
 go_wp2_with (first
  | (refine wpList_builtg rfl 59 _ rfl _ _ HBU.out rfl ?_)
  | (refine wpList_store_blk rfl 59 _ _ rfl w.heap.size V rfl rfl 59 (Wdc.cells ⟨0, 0, ⟨0, 0, none, 0, 0, [], none, 0, 0, [], none, 0, 0, []⟩, none, 0, 0, []⟩).toArray HBE.out HTS.out (by rw [HVS.out]; rfl) HAL.out ?_
     intro w9 hb9 hf9
     have HB9 := Lib.hid hb9
     have HF9 := Lib.hid hf9
     clear hb9 hf9))
 have hq9 : Fr [g, w.heap.size] w4 w9 := HF9.out.mono (fun x hx _ => by simp at hx; simp [hx])
 refine bodyPost_ret (v := .agg V) (results_cell_row Tryz.results91 _ _ w.heap.size 59 V _ _ rfl HB9.out Tryz.underlying59 rfl HTS.out) rfl ⟨v, by rw [HVV.out], ?_, fun S0 h0 => ?_, ?_, ?_⟩
 · rw [HV.out]; unfold Wdc.con; have := HGL1.out.1; rw [List.map_id] at this; rw [this, HCB.out]; rfl
 · rw [HV.out]; exact ⟨pI_in _, pI_in _, HL0.out w9 hq9 S0 h0, (HL1.out w9 hq9 S0 h0).1, HGL1.out.2, (HL1.out w9 hq9 S0 h0).2⟩
 · exact HR3.out.fr HF9.out (by have := HG.out; simp; omega) (fun k hk hm => HNF.out (by simp at hm; exact hm ▸ hk))
 · exact Fr.unbox HF0.out HF4.out HF9.out (Nat.le_refl _)
set_option maxHeartbeats 2000000 in
theorem getProposal_any : Gets 85 Wpo.cells (fun w S v => v.Li w S) Wpo.con pPo := by
 intro w F g s hr
 obtain ⟨wa, hwa⟩ : ∃ wa, wa = w.alloc (Obj.cells (Wpo.cells ⟨0, 0, 0, 0, ⟨0, 0, none, 0, 0, [], none, 0, 0, [], none, 0, 0, []⟩, 0, 0⟩).toArray 47) := ⟨_, rfl⟩
 have hf0 : Fr [] w wa := by rw [hwa]; exact (Fr.refl [] w).alloc _
 have HB : Hid (Blk wa w.heap.size 47 (Wpo.cells ⟨0, 0, 0, 0, ⟨0, 0, none, 0, 0, [], none, 0, 0, [], none, 0, 0, []⟩, 0, 0⟩).toArray) := Lib.hid (by rw [hwa]; exact Blk.new _ _ _)
 have HR := Lib.hid (hr.fr hf0 (by simp) (by simp))
 have HNF : Hid (¬ w.heap.size ∈ F) := Lib.hid (fun hm => by have := hr.lt _ hm; omega)
 have HG : Hid (g < w.heap.size) := Lib.hid hr.gt
 have HF0 := Lib.hid hf0
 have HWA := Lib.hid hwa
 clear hwa hf0 hr
 go_enter Tryz.func85, Tryz.ntmps85
 go_upto_region 1 with (fail)
 change Code.wp _ _ _ _ (w.alloc (Obj.cells (Wpo.cells ⟨0, 0, 0, 0, ⟨0, 0, none, 0, 0, [], none, 0, 0, [], none, 0, 0, []⟩, 0, 0⟩).toArray 47))
 rw [← HWA.out]
 go_wp2_with fail
 refine (getInt_any HR.out).mono ?_
 rintro e_ w1 ⟨rfl, h1, h2⟩
 have HR0 := Lib.hid h1
 have HF1 : Hid (Fr [g] wa w1) := Lib.hid h2
 have hq_ : Fr [g, w.heap.size] wa w1 := h2.mono (fun x hx _ => by simp at hx; simp [hx])
 clear h1 h2 hq_
 go_wp2_with fail
 refine (getInt_any HR0.out).mono ?_
 rintro e_ w2 ⟨rfl, h1, h2⟩
 have HR1 := Lib.hid h1
 have HF2 : Hid (Fr [g] wa w2) := Lib.hid (HF1.out.trans h2 (fun x hx _ => hx))
 have hq_ : Fr [g, w.heap.size] w1 w2 := h2.mono (fun x hx _ => by simp at hx; simp [hx])
 clear h1 h2 hq_
 go_wp2_with fail
 refine (getInt_any HR1.out).mono ?_
 rintro e_ w3 ⟨rfl, h1, h2⟩
 have HR2 := Lib.hid h1
 have HF3 : Hid (Fr [g] wa w3) := Lib.hid (HF2.out.trans h2 (fun x hx _ => hx))
 have hq_ : Fr [g, w.heap.size] w2 w3 := h2.mono (fun x hx _ => by simp at hx; simp [hx])
 clear h1 h2 hq_
 go_wp2_with fail
 refine (getInt_any HR2.out).mono ?_
 rintro e_ w4 ⟨rfl, h1, h2⟩
 have HR3 := Lib.hid h1
 have HF4 : Hid (Fr [g] wa w4) := Lib.hid (HF3.out.trans h2 (fun x hx _ => hx))
 have hq_ : Fr [g, w.heap.size] w3 w4 := h2.mono (fun x hx _ => by simp at hx; simp [hx])
 clear h1 h2 hq_
 go_wp2_with fail
 refine (getBatch_any _ F g _ HR3.out).mono ?_
 rintro e_ w5 ⟨vb, rfl, hcb, hokb, h1, h2⟩
 have HR4 := Lib.hid h1
 have HF5 : Hid (Fr [g] wa w5) := Lib.hid (HF4.out.trans h2 (fun x hx _ => hx))
 have hq_ : Fr [g, w.heap.size] w4 w5 := h2.mono (fun x hx _ => by simp at hx; simp [hx])
 have HL0 : Hid (∀ W, Fr [g, w.heap.size] w5 W → ∀ S0 : List Nat, (∀ q ∈ S0, q < w.heap.size) → vb.Li W S0) := Lib.hid (fun W hW S0 h0 => (hokb (g :: w.heap.size :: S0) (fun q hq => by
  have h3 := HB.out.lt; have h4 := HG.out; have h5 := HF4.out.size
  rcases List.mem_cons.1 hq with rfl | hq
  · omega
  · rcases List.mem_cons.1 hq with rfl | hq
    · omega
    · have := h0 q hq; omega)).keep (hW.mono (fun k hk _ => by simp at hk; simp; omega)) (fun k hk _ => by simp [hk]))
 have HCB := Lib.hid hcb
 clear hcb hokb
 clear h1 h2 hq_
 go_wp2_with fail
 refine (getSig_any HR4.out).mono ?_
 rintro e_ w6 ⟨rfl, h1, h2⟩
 have HR5 := Lib.hid h1
 have HF6 : Hid (Fr [g] wa w6) := Lib.hid (HF5.out.trans h2 (fun x hx _ => hx))
 have hq_ : Fr [g, w.heap.size] w5 w6 := h2.mono (fun x hx _ => by simp at hx; simp [hx])
 have HL0 := Lib.hid (fun W (hW : Fr [g, w.heap.size] w6 W) => HL0.out W (hq_.trans hW (fun x hx _ => hx)))
 clear h1 h2 hq_
 have HBE := Lib.hid (HB.out.keep HF6.out (by have := HG.out; simp; omega))
 have HBU := Lib.hid (built_poR (pI s).1 (pI (pI s).2).1 (wrap64 ((pI (pI (pI s).2).2).1 - 1)) (pI (pI (pI (pI s).2).2).2).1 vb (p2 (pBa (pI (pI (pI (pI s).2).2).2).2).2).1.1 (p2 (pBa (pI (pI (pI (pI s).2).2).2).2).2).1.2)
 obtain ⟨v, hv⟩ : ∃ v : Wpo, v = ⟨(pI s).1, (pI (pI s).2).1, wrap64 ((pI (pI (pI s).2).2).1 - 1), (pI (pI (pI (pI s).2).2).2).1, vb, (p2 (pBa (pI (pI (pI (pI s).2).2).2).2).2).1.1, (p2 (pBa (pI (pI (pI (pI s).2).2).2).2).2).1.2⟩ := ⟨_, rfl⟩
 have HVS : Hid (v.cells.toArray.size = 11) := Lib.hid (by rw [hv, List.size_toArray]; exact rfl)
 have HAL : Hid (v.cells.toArray.all (·.oneCell') = true) := Lib.hid (all_oneCell_toArray (Wpo.one _))
 have HTS : Hid ((Tryz.prog.info? 47).map (·.size) = some v.cells.toArray.size) := Lib.hid (by rw [HVS.out]; kernel_rfl)
 have HV := Lib.hid hv
 rw [← hv] at HBU
 clear hv
 obtain ⟨V, hV⟩ : ∃ V : Array Value, V = v.cells.toArray := ⟨_, rfl⟩
 have HVV := Lib.hid hV
 rw [← hV] at HBU HAL HVS HTS
 clear hV
 go_wp2_with (first
  | (refine wpList_builtg rfl 47 _ rfl _ _ HBU.out rfl ?_)
  | (refine wpList_store_blk rfl 47 _ _ rfl w.heap.size V rfl rfl 47 (Wpo.cells ⟨0, 0, 0, 0, ⟨0, 0, none, 0, 0, [], none, 0, 0, [], none, 0, 0, []⟩, 0, 0⟩).toArray HBE.out HTS.out (by rw [HVS.out]; rfl) HAL.out ?_
     intro w9 hb9 hf9
     have HB9 := Lib.hid hb9
     have HF9 := Lib.hid hf9
     clear hb9 hf9))
 have hq9 : Fr [g, w.heap.size] w6 w9 := HF9.out.mono (fun x hx _ => by simp at hx; simp [hx])
 refine bodyPost_ret (v := .agg V) (results_cell_row Tryz.results85 _ _ w.heap.size 47 V _ _ rfl HB9.out Tryz.underlying47 rfl HTS.out) rfl ⟨v, by rw [HVV.out], ?_, fun S0 h0 => ?_, ?_, ?_⟩
 · rw [HV.out]; unfold Wpo.con; simp only [HCB.out, pI_wrap]; rfl
 · rw [HV.out]; exact ⟨pI_in _, pI_in _, pI_lessW _, pI_in _, HL0.out w9 hq9 S0 h0, pI_in _, pI_in _⟩
 · exact HR5.out.fr HF9.out (by have := HG.out; simp; omega) (fun k hk hm => HNF.out (by simp at hm; exact hm ▸ hk))
 · exact Fr.unbox HF0.out HF6.out HF9.out (Nat.le_refl _)
end Go.Proofs.YtdenpfcgghangaaGreat

namespace Go.Proofs.YtdenpfcgghangaaGreat
open Go.RowKit
set_option maxRecDepth 100000
def pW {α : Type} (z : α) (p : Ps → α × Ps) (s : Ps) : α × Ps := (if (p s).2.2 then z else (p s).1, (p s).2)
def zWce : Wce := ⟨⟨0, 0, List.replicate 32 0, 0, 0, 0⟩, none, 0, 0, []⟩
def zWpr : Wpr := ⟨0, 0, 0, none, 0, 0, [], 0, 0⟩
def zWba : Wba := ⟨0, 0, none, 0, 0, [], none, 0, 0, [], none, 0, 0, []⟩
theorem zWce_ok (w : World) (S : List Nat) : zWce.Li w S := ⟨⟨zero_in, zero_in, rfl, zero_in, zero_in, zero_in⟩, Lst.nil _, by decide, fun h => absurd h (by decide)⟩
theorem zWpr_ok (w : World) (S : List Nat) : zWpr.Li w S := ⟨zero_in, zero_in, by decide, Lst.nil _, by decide, fun h => absurd h (by decide), zero_in, zero_in⟩
end Go.Proofs.YtdenpfcgghangaaGreat

namespace Go.Proofs.YtdenpfcgghangaaGreat
open Go.RowKit
def Rq (w : World) (g : Nat) (F : List Nat) (l : List UInt8) (bad : Bool) : Prop :=
 ∃ A n c, (∀ k ∈ bk A, k ∈ F ∧ k ≠ g) ∧ Blk w g 101 #[.slice A n c, .bool bad] ∧ By w A n l ∧ n ≤ c
theorem Rq.keep {w w' : World} {g : Nat} {F T : List Nat} {l : List UInt8} {bad : Bool} (h : Rq w g F l bad) (hf : Fr T w w') (hg : ¬ g ∈ T) (hF : ∀ k ∈ F, ¬ k ∈ T) : Rq w' g F l bad := by
 obtain ⟨A, n, c, hA, hb, hy, hc⟩ := h
 exact ⟨A, n, c, hA, hb.keep hf hg, hy.keep hf (fun a ha => hF _ (hA a.block (by simp [bk, ha])).1), hc⟩
theorem Rq.lt {w : World} {g : Nat} {F : List Nat} {l : List UInt8} {bad : Bool} (h : Rq w g F l bad) : g < w.heap.size := by
 obtain ⟨A, n, c, hA, hb, hy, hc⟩ := h
 exact hb.lt
theorem qfail_any (w : World) (g : Nat) (F : List Nat) (l : List UInt8) (bad : Bool) (hr : Rq w g F l bad) :
  Calls Tryz.prog 92 #[.pointer (some ⟨g, 0, none⟩)] w fun e w' => e = .returned (.tuple #[]) ∧ Rq w' g F [] true ∧ Fr [g] w w' := by
 obtain ⟨A, n, c, hA, hb, hy, hc⟩ := hr
 have hc0 := hb.cell 0
 have hc1 := hb.cell 1
 simp at hc0 hc1
 have hz0 := hb.frozen 0
 have hz1 := hb.frozen 1
 go_enter Tryz.func92, Tryz.ntmps92
 go_wp2
 go_end0
 refine ⟨rfl, ⟨none, 0, 0, by simp [bk], ?_, By.nil _ _, Nat.le_refl _⟩, ?_⟩
 · have := (hb.set 0 (.slice none 0 0)).set 1 (.bool true)
   simpa using this
 · exact ((Fr.refl [g] w).setCell _ (fun _ => by simp) _).setCell _ (fun _ => by simp) _
theorem Rq.set {w : World} {g : Nat} {F : List Nat} {l' : List UInt8} {bad : Bool} {A' : Option Addr} {n' c' : Nat} {v : Value} (hb : Blk w g 101 #[v, .bool bad]) (hA : ∀ k ∈ bk A', k ∈ F ∧ k ≠ g) (hy : By w A' n' l') (hc : n' ≤ c') :
  Rq (w.setCell ⟨g, 0, none⟩ (.slice A' n' c')) g F l' bad ∧ Fr [g] w (w.setCell ⟨g, 0, none⟩ (.slice A' n' c')) := by
 have hf : Fr [g] w (w.setCell ⟨g, 0, none⟩ (.slice A' n' c')) := (Fr.refl [g] w).setCell _ (fun _ => by simp) _
 refine ⟨⟨A', n', c', hA, by simpa using hb.set 0 (.slice A' n' c'), hy.keep hf (fun a ha => ?_), hc⟩, hf⟩
 have := (hA a.block (by simp [bk, ha])).2
 simpa using this
set_option maxRecDepth 100000 in
set_option maxHeartbeats 1000000 in
theorem qnum_any (w : World) (g : Nat) (F : List Nat) (l : List UInt8) (bad : Bool) (hr : Rq w g F l bad) (hl : l.length ≤ 1073741824) :
  Calls Tryz.prog 49 #[.pointer (some ⟨g, 0, none⟩)] w fun e w' => e = .returned (.int .u64 (decN l)) ∧ Fr [g] w w' ∧
   (dec l = none ∧ Rq w' g F [] true ∨ ∃ v s, dec l = some (v, s) ∧ Rq w' g F (l.drop s) bad) := by
 have HRQ := Lib.hid hr
 obtain ⟨A, n, c, hA, hb, hy, hc⟩ := hr
 have hc0 := hb.cell 0
 simp at hc0
 have hz0 := hb.frozen 0
 have hn : n ≤ 1073741824 := by rw [← hy.1]; exact hl
 have HY := Lib.hid hy
 have HB := Lib.hid hb
 have HA := Lib.hid hA
 clear hy hb hA hl
 go_enter Tryz.func49, Tryz.ntmps49
 go_wp2
 go_loop [3, 4] (fun a i => ∃ (k acc : Nat), k ≤ n ∧ k ≤ 10 ∧ i = .int .i64 k ∧ a = .int .u64 acc ∧ dec l = decF k acc (l.drop k) ∧ acc < 2 ^ (7 * k)) (fun _ i => 10 - (intOf i).toNat)
 case atStart => exact ⟨0, 0, by omega, by omega, rfl, rfl, by simp [dec], by simp⟩
 case round =>
  obtain ⟨k, acc, hk, hk10, rfl, rfl, hd, hacc⟩ := hrel
  have HD := Lib.hid hd
  have HACC := Lib.hid hacc
  clear hd hacc
  by_cases hlt : k < n ∧ k < 10
  · obtain ⟨hltn, hlt10⟩ := hlt
    obtain ⟨a1, b1, rfl, hg1, hc1⟩ := HY.out.at hltn
    have HD1 := Lib.hid (HD.out.trans (decF_at hg1 acc))
    clear hg1
    have hk0 : (0 : Int) ≤ k := by omega
    have hb1 : (b1.toNat : Int) < 256 := by have := b1.toNat_lt; omega
    have hs1 : (7 : Int) * k ≤ 64 := by omega
    have hp : b1.toNat % 128 < 128 := by omega
    by_cases hov : k = 9 ∧ b1.toNat % 128 > 1
    · have HD2 := Lib.hid (HD1.out.trans (decF_over hov.1 hov.2))
      have h9 : ((k : Int) == 9) = true := by simp; omega
      have hov2 : (1 : Int) < (b1.toNat : Int) % 128 := by omega
      clear hov
      go_wp2_with fail
      refine (qfail_any w g F l bad HRQ.out).mono ?_
      rintro e w1 ⟨rfl, h1, h2⟩
      have H1 := Lib.hid h1
      have H2 := Lib.hid h2
      clear h1 h2
      go_wp2
      go_ret
      exact ⟨by simp [decN, HD2.out], H2.out, .inl ⟨HD2.out, H1.out⟩⟩
    · obtain ⟨hsh, hne, hor, hs, hb64⟩ := shift_fits k (b1.toNat % 128) acc hlt10 hp hov HACC.out
      have HS := Lib.hid hs
      have HBB := Lib.hid hb64
      have HOV := Lib.hid hov
      have hov9 : ((k : Int) == 9) = false ∨ ((k : Int) == 9) = true ∧ ¬ (1 : Int) < (b1.toNat : Int) % 128 := by
       by_cases h : k = 9
       · right; exact ⟨by simp; omega, by omega⟩
       · left; simp; omega
      clear hs hb64 hne
      have hcast : ((b1.toNat % 128 : Nat) : Int) = (b1.toNat : Int) % 128 := by omega
      rw [hcast] at hsh
      generalize hqd : b1.toNat % 128 * 2 ^ (7 * k) = q at *
      have HQ := Lib.hid hqd
      clear hqd
      have hkn1 : k + 1 ≤ n := by omega
      have HC := Lib.hid (HY.out.cut' hkn1 hc)
      by_cases hb : b1.toNat < 128
      · have hbI : (b1.toNat : Int) < 128 := by omega
        by_cases h0 : b1.toNat = 0 ∧ 0 < k
        · have HD2 := Lib.hid (HD1.out.trans (decF_long h0.1 h0.2 hlt10))
          have h0b : ((b1.toNat : Int) % 128 == 0) = true := by simp; omega
          have h0k : (0 : Int) < k := by omega
          clear h0 hov hkn1
          rcases hov9 with h9 | ⟨h9, hov2⟩
          all_goals
           go_wp2_with fail
           refine (qfail_any w g F l bad HRQ.out).mono ?_
           rintro e w1 ⟨rfl, h1, h2⟩
           have H1 := Lib.hid h1
           have H2 := Lib.hid h2
           clear h1 h2
           go_wp2
           go_ret
           exact ⟨by simp [decN, HD2.out], H2.out, .inl ⟨HD2.out, H1.out⟩⟩
        · have HD2 := Lib.hid (HD1.out.trans (decF_last hlt10 HOV.out h0 hb))
          have hor2 : ((b1.toNat : Int) % 128 == 0) = false ∨ (k : Int) ≤ 0 := by simp; omega
          rw [HQ.out] at HD2
          clear h0 hov
          by_cases hcs : c = k + 1
          · subst hcs
            have hcc := HC.out.1 rfl
            rw [show n - (k + 1) = 0 by omega] at hcc
            obtain ⟨h1, h2⟩ := Rq.set HB.out HA.out hcc (c' := 0) (by omega)
            clear hcc
            have H1 := Lib.hid h1
            have H2 := Lib.hid h2
            clear h1 h2 hkn1
            rcases hov9 with h9 | ⟨h9, hov2⟩ <;> rcases hor2 with h0b | h0k
            all_goals
             go_wp2
             all_goals
              go_ret
              exact ⟨by simp [decN, HD2.out], H2.out, .inr ⟨_, _, HD2.out, H1.out⟩⟩
          · obtain ⟨h1, h2⟩ := Rq.set HB.out (by rw [bk_map]; exact HA.out) (HC.out.2 hcs) (c' := c - (k + 1)) (by omega)
            have H1 := Lib.hid h1
            have H2 := Lib.hid h2
            clear h1 h2 hkn1
            rcases hov9 with h9 | ⟨h9, hov2⟩ <;> rcases hor2 with h0b | h0k
            all_goals
             go_wp2
             all_goals
              go_ret
              exact ⟨by simp [decN, HD2.out], H2.out, .inr ⟨_, _, HD2.out, H1.out⟩⟩
      · have HD2 := Lib.hid (HD1.out.trans (decF_more hlt10 HOV.out hb))
        rw [HQ.out] at HD2
        have hbI : (128 : Int) ≤ (b1.toNat : Int) := by omega
        clear hov hkn1
        rcases hov9 with h9 | ⟨h9, hov2⟩
        all_goals
         go_wp2
         go_round
         case rel => exact ⟨k + 1, acc + q, by omega, by omega, by go_num, by go_num, HD2.out, HS.out⟩
         case measure => simp [intOf]; omega
  · have HD2 := Lib.hid (HD.out.trans (decF_end l k acc (by have := HY.out.1; omega)))
    have hkx : (n : Int) ≤ k ∨ ((k : Int) < n ∧ (10 : Int) ≤ k) := by omega
    rcases hkx with hkx | ⟨hkx0, hkx⟩
    all_goals
     go_wp2_with fail
     refine (qfail_any w g F l bad HRQ.out).mono ?_
     rintro e w1 ⟨rfl, h1, h2⟩
     have H1 := Lib.hid h1
     have H2 := Lib.hid h2
     clear h1 h2
     go_wp2
     go_ret
     exact ⟨by simp [decN, HD2.out], H2.out, .inl ⟨HD2.out, H1.out⟩⟩
end Go.Proofs.YtdenpfcgghangaaGreat

namespace Go.Proofs.YtdenpfcgghangaaGreat
open Go.RowKit
theorem rw_in (R : List UInt8) (m : Int) (bad : Bool) :
  rwV R m = (if (inL R m).length < inN R m then [] else (inL R m).take (inN R m)) ∧ rwL R m = (if (inL R m).length < inN R m then [] else (inL R m).drop (inN R m)) ∧
   rwB R m bad = (if (inL R m).length < inN R m then true else inB R m bad) := by
 unfold rwV rwL rwB inL inN inB
 cases hd : dec R with
 | none => simp
 | some p =>
   obtain ⟨v, s⟩ := p
   have hs := (dec_some hd).2.1
   by_cases hv : (v : Int) ≤ m
   · by_cases hl : s + v ≤ R.length
     · have h2 : ¬ (R.drop s).length < v := by rw [List.length_drop]; omega
       simp only [hv, hl, and_self, if_true, h2, if_false, List.drop_drop]
     · have h2 : (R.drop s).length < v := by rw [List.length_drop]; omega
       simp only [hv, hl, and_false, if_true, h2, if_false]
       exact ⟨trivial, trivial, trivial⟩
   · simp [hv]
section
variable {w : World} {g : Nat} {F : List Nat} {R : List UInt8} {bad : Bool}
theorem inL_len (R : List UInt8) (m : Int) : (inL R m).length ≤ R.length := by
 unfold inL
 split
 · split
   · rw [List.length_drop]; omega
   · simp
 · simp
/-! ### the document's reader -/
theorem qnum_f (hr : Rq w g F R bad) (hl : R.length ≤ 1073741824) :
  Calls Tryz.prog 49 #[.pointer (some ⟨g, 0, none⟩)] w fun e w' => e = .returned (.int .u64 (rdN R)) ∧ Rq w' g F (rdL R) (rdB R bad) ∧ Fr [g] w w' := by
 refine (qnum_any w g F R bad hr hl).mono ?_
 rintro e w' ⟨rfl, hf, h⟩
 unfold rdN rdL rdB decN
 rcases h with ⟨hd, hq⟩ | ⟨v, s, hd, hq⟩
 · rw [hd]; exact ⟨rfl, hq, hf⟩
 · rw [hd]; exact ⟨rfl, hq, hf⟩
set_option maxHeartbeats 400000 in
theorem qint_f (m : Int) (hm2 : m < 9223372036854775808) (hr : Rq w g F R bad) (hl : R.length ≤ 1073741824) :
  Calls Tryz.prog 43 #[.pointer (some ⟨g, 0, none⟩), .int .i64 m] w fun e w' => e = .returned (.int .i64 (inN R m)) ∧ Rq w' g F (inL R m) (inB R m bad) ∧ Fr [g] w w' := by
 have HR := Lib.hid hr
 have HM := Lib.hid hm2
 have hrd : inN R m = (if (rdN R : Int) ≤ m then rdN R else 0) ∧ inL R m = (if (rdN R : Int) ≤ m then rdL R else []) ∧ inB R m bad = (if (rdN R : Int) ≤ m then rdB R bad else true) := by
  unfold inN inL inB rdN rdL rdB
  cases hd : dec R with
  | none => simp
  | some p => simp
 have hV : rdN R < 18446744073709551616 := by
  unfold rdN
  cases hd : dec R with
  | none => simp
  | some p => exact (dec_some hd).2.2.2
 have HRD := Lib.hid hrd
 clear hr hm2 hrd
 go_enter Tryz.func43, Tryz.ntmps43
 go_wp2_with fail
 refine (qnum_f HR.out hl).mono ?_
 rintro e w1 ⟨rfl, h1, h2⟩
 have H1 := Lib.hid h1
 have H2 := Lib.hid h2
 clear h1 h2
 generalize rdN R = v at *
 generalize rdL R = L at *
 generalize rdB R bad = bad1 at *
 by_cases hvm : (v : Int) ≤ m
 · rw [if_pos hvm, if_pos hvm, if_pos hvm] at HRD
   have hw : IntKind.u64.wrap m = m := IntWalk.u64_in m ⟨by omega, by have := HM.out; omega⟩
   have hw2 : IntKind.i64.wrap (v : Int) = v := IntWalk.i64_in v ⟨by omega, by have := HM.out; omega⟩
   have hm0 : ¬ m < 0 := by omega
   go_wp2
   go_ret
   rw [HRD.out.1, HRD.out.2.1, HRD.out.2.2]
   exact ⟨rfl, H1.out, H2.out⟩
 · rw [if_neg hvm, if_neg hvm, if_neg hvm] at HRD
   have hw : m < 0 ∨ (0 ≤ m ∧ IntKind.u64.wrap m = m) := by
    by_cases h : m < 0
    · exact .inl h
    · exact .inr ⟨by omega, IntWalk.u64_in m ⟨by omega, by have := HM.out; omega⟩⟩
   rcases hw with hw | ⟨hw0, hw⟩
   all_goals
    go_wp2_with fail
    refine (qfail_any w1 g F _ _ H1.out).mono ?_
    rintro e w2 ⟨rfl, h3, h4⟩
    have H3 := Lib.hid h3
    have H4 := Lib.hid (H2.out.trans h4 (fun _ h _ => h))
    clear h3 h4
    go_wp2
    go_ret
    rw [HRD.out.1, HRD.out.2.1, HRD.out.2.2]
    exact ⟨rfl, H3.out, H4.out⟩
def RowPost (w : World) (g : Nat) (F : List Nat) (V L : List UInt8) (b : Bool) (e : Ending) (w' : World) : Prop :=
 ∃ A c, e = .returned (.slice A V.length c) ∧ By w' A V.length V ∧ (∀ x ∈ bk A, w.heap.size ≤ x ∧ x < w'.heap.size) ∧ Rq w' g F L b ∧ Fr [g] w w'
theorem RowPost.mk {w w' : World} {g : Nat} {F : List Nat} {V L : List UInt8} {b : Bool} {e : Ending} (h : ∃ A c, e = .returned (.slice A V.length c) ∧ By w' A V.length V ∧ (∀ x ∈ bk A, w.heap.size ≤ x ∧ x < w'.heap.size) ∧ Rq w' g F L b ∧ Fr [g] w w') : RowPost w g F V L b e w' := h
end
end Go.Proofs.YtdenpfcgghangaaGreat

namespace Go.Proofs.YtdenpfcgghangaaGreat
open Go.RowKit
theorem hashOf_short {R : List UInt8} (h : R.length < 32) : ((hashOf R).map by8).toArray = zero32 := by
 unfold hashOf took zero32
 rw [if_pos h]
 rfl
theorem zero32_size : zero32.size = 32 := by simp [zero32]
theorem zero32_one : zero32.all (·.oneCell') = true := by
 rw [Array.all_eq_true_iff_forall_mem]
 intro u hu
 unfold zero32 at hu
 exact by8_one (List.replicate 32 (0 : UInt8)) u (by simpa using hu)
theorem hashOf_long {R : List UInt8} (h : 32 ≤ R.length) : hashOf R = R.take 32 := by
 unfold hashOf took
 rw [if_neg (by omega), List.length_take, Nat.min_eq_left h]
 simp
set_option maxRecDepth 100000 in
set_option maxHeartbeats 1000000 in
theorem qhash_f (w : World) (g : Nat) (F : List Nat) (R : List UInt8) (bad : Bool) (hr : Rq w g F R bad) (hF : ∀ k ∈ F, k < w.heap.size) (hl : R.length ≤ 1073741824) :
  Calls Tryz.prog 48 #[.pointer (some ⟨g, 0, none⟩)] w fun e w' => e = .returned (.agg ((hashOf R).map by8).toArray) ∧ Rq w' g F (tookL R) (tookB R bad) ∧ Fr [g] w w' := by
 have HR := Lib.hid hr
 have HL := Lib.hid hl
 have HF := Lib.hid hF
 have hgl := hr.lt
 clear hr hl hF
 have hwa : ∃ wa, wa = (w.alloc (Obj.cells zero32 25)).alloc (Obj.cells zero32 25) := ⟨_, rfl⟩
 obtain ⟨wa, hwa⟩ := hwa
 have hf0 : Fr [] w wa := by rw [hwa]; exact ((Fr.refl [] w).alloc _).alloc _
 have hbr : Blk wa w.heap.size 25 zero32 := by rw [hwa]; exact (Blk.new _ _ _).keep ((Fr.refl [] _).alloc _) (by simp)
 have hbv : Blk wa (w.heap.size + 1) 25 zero32 := by
  have := Blk.new (w.alloc (Obj.cells zero32 25)) 25 zero32
  rw [hwa]
  simpa using this
 have HR0 := Lib.hid (HR.out.keep hf0 (by simp) (by simp))
 have hq := HR.out.keep hf0 (by simp) (by simp)
 have HF0 := Lib.hid hf0
 have HBR := Lib.hid hbr
 have HBV := Lib.hid hbv
 have HWA := Lib.hid hwa
 clear hf0 hbr hbv hwa
 obtain ⟨A1, n1, c1, hA1, hb1, hy1, hnc1⟩ := hq
 have hn1 : n1 = R.length := hy1.1.symm
 subst hn1
 have HA1 := Lib.hid hA1
 have HB1 := Lib.hid hb1
 have HY1 := Lib.hid hy1
 have hc0 := hb1.cell 0
 simp at hc0
 have hz0 := hb1.frozen 0
 clear hA1 hb1 hy1
 have hgv1 : g ≠ w.heap.size := by omega
 have hgv2 : g ≠ w.heap.size + 1 := by omega
 have hn2 := HL.out
 go_enter Tryz.func48, Tryz.ntmps48
 go_upto_region 2 with (fail)
 change Code.wp _ _ _ _ ((w.alloc (Obj.cells zero32 25)).alloc (Obj.cells zero32 25))
 rw [← HWA.out]
 by_cases h32 : R.length < 32
 · have HH := Lib.hid (hashOf_short h32)
   have HTL := Lib.hid (show tookL R = [] ∧ tookB R bad = true by unfold tookL tookB; rw [if_pos h32, if_pos h32]; exact ⟨rfl, rfl⟩)
   go_wp2_with fail
   refine (qfail_any wa g F R bad HR0.out).mono ?_
   rintro e w2 ⟨rfl, h6, h7⟩
   have H6 := Lib.hid h6
   have H7 := Lib.hid h7
   have HBR2 := Lib.hid (HBR.out.keep h7 (by simp; omega))
   have HBV2 := Lib.hid (HBV.out.keep h7 (by simp; omega))
   clear h6 h7
   go_wp2_with (first
    | (refine wpList_load_row rfl 25 _ rfl (w.heap.size + 1) rfl 25 zero32 _ _ HBV2.out Tryz.underlying25 rfl (by rw [hash_size, zero32_size]) ?_)
    | (refine wpList_store_row rfl 25 _ _ rfl w.heap.size zero32 rfl rfl 25 zero32 HBR2.out (by rw [hash_size, zero32_size]) rfl zero32_one ?_))
   have hgr : Blk (w2.setRow w.heap.size zero32) w.heap.size 25 zero32 := setRow_blk HBR2.out zero32
   refine bodyPost_ret (v := .agg zero32) (results_cell_row Tryz.results48 _ _ w.heap.size 25 zero32 _ _ rfl hgr Tryz.underlying25 rfl (by rw [hash_size, zero32_size])) rfl ⟨?_, ?_, ?_⟩
   · rw [HH.out]
   · rw [HTL.out.1, HTL.out.2]
     exact H6.out.keep (setRow_fr w2 w.heap.size zero32) (by simp; omega) (fun k hk => by have := HF.out k hk; simp; omega)
   · exact ((HF0.out.mono (T := [g]) (by simp)).trans H7.out (fun _ h _ => h)).trans (setRow_fr w2 w.heap.size zero32) (fun x hx hl => by simp at hx; omega)
 · have h32' : 32 ≤ R.length := by omega
   have HH := Lib.hid (hashOf_long h32')
   have HTL := Lib.hid (show tookL R = R.drop 32 ∧ tookB R bad = bad by unfold tookL tookB; rw [if_neg h32, if_neg h32]; exact ⟨rfl, rfl⟩)
   clear h32
   have hnl : (R.length : Int) ≤ 1073741824 := by omega
   go_wp2
   go_loopw [14] (fun i wr => ∃ (k : Nat) (M : List UInt8), k ≤ 32 ∧ i = .int .i64 k ∧ M.length = 32 ∧ M.take k = R.take k ∧ Blk wr (w.heap.size + 1) 25 (M.map by8).toArray ∧ Fr [w.heap.size + 1] wa wr) (fun i _ => 32 - (intOf i).toNat)
   case atStart => exact ⟨0, List.replicate 32 0, by omega, rfl, by simp, by simp, HBV.out, Fr.refl _ _⟩
   case round =>
    obtain ⟨k, M, hk, rfl, hM, hT, hbm, hfm⟩ := hrel
    clear hc0 hz0
    have hb2 := HB1.out.keep hfm (by simp; omega)
    have hc0 := hb2.cell 0
    simp at hc0
    have hz0 := hb2.frozen 0
    have HB2 := Lib.hid hb2
    have HBM := Lib.hid hbm
    have HFM := Lib.hid hfm
    have HM := Lib.hid hM
    have HT := Lib.hid hT
    have hA3 : ∀ a, A1 = some a → ¬ a.block ∈ [w.heap.size + 1] := fun a ha => by
     have := HA1.out a.block (by simp [bk, ha])
     have := HF.out a.block this.1
     simp
     omega
    have HY2 := Lib.hid (HY1.out.keep hfm hA3)
    clear hb2 hbm hfm hM hT hA3
    by_cases hlt : k < 32
    · have hkM : k < M.length := by have := HM.out; omega
      obtain ⟨a1, b1, rfl, hg1, hc1⟩ := HY2.out.at (show k < R.length by omega)
      have HG1 := Lib.hid hg1
      have hcm := HBM.out.cell k
      have hzm := HBM.out.frozen k
      rw [show ((M.map by8).toArray)[k]? = some (.int .u8 (M[k].toNat : Int)) from by simp [List.getElem?_eq_getElem hkM, by8]] at hcm
      generalize M[k] = mk at hcm
      have HKM := Lib.hid hkM
      clear hkM hg1
      have hk0 : (0 : Int) ≤ k := by omega
      have hkR : k < R.length := by omega
      go_wp2
      refine ⟨⟨k + 1, M.set k b1, by omega, rfl, by rw [List.length_set]; exact HM.out, set_take HT.out HKM.out HG1.out, ?_, HFM.out.setCell _ (fun _ => by simp) _⟩, by simp [intOf]; omega⟩
      have hbs := HBM.out.set k (.int .u8 (b1.toNat : Int))
      rw [show ((M.map by8).toArray.setIfInBounds k (.int .u8 (b1.toNat : Int))) = ((M.set k b1).map by8).toArray from by simp [List.map_set, by8]] at hbs
      exact hbs
    · have hk3 : k = 32 := by omega
      subst hk3
      have hMR : M = hashOf R := by
       have e := HT.out
       rw [List.take_of_length_le (by have := HM.out; omega)] at e
       rw [e, HH.out]
      have hsz : ((M.map by8).toArray).size = 32 := by simp [HM.out]
      have hone : (((M.map by8).toArray).all (·.oneCell')) = true := by
       rw [Array.all_eq_true_iff_forall_mem]
       intro u hu
       exact by8_one M u (by simpa using hu)
      have hin : ∀ a, A1 = some a → ¬ a.block ∈ [g] := fun a ha => by
       have := HA1.out a.block (by simp [bk, ha])
       simp
       omega
      have HSZ := Lib.hid hsz
      have HONE := Lib.hid hone
      clear hsz hone hlt
      have HBRR := Lib.hid (HBR.out.keep HFM.out (by simp))
      have hHM : (M.map by8).toArray = ((hashOf R).map by8).toArray := by rw [hMR]
      have HHM := Lib.hid hHM
      clear hMR hHM
      generalize (M.map by8).toArray = H at *
      have HC := Lib.hid (HY2.out.cut' h32' hnc1)
      have hx : ∃ (A' : Option Addr) (c' : Nat), Rq (wr.setCell ⟨g, 0, none⟩ (.slice A' (R.length - 32) c')) g F (R.drop 32) bad ∧ Fr [g] wr (wr.setCell ⟨g, 0, none⟩ (.slice A' (R.length - 32) c')) ∧ (c1 = 32 → A' = A1 ∧ c' = 0) ∧ (c1 ≠ 32 → A' = A1.map (·.add 32) ∧ c' = c1 - 32) := by
       by_cases hcs : c1 = 32
       · obtain ⟨h1, h2⟩ := Rq.set HB2.out HA1.out (HC.out.1 hcs) (c' := 0) (by omega)
         exact ⟨A1, 0, h1, h2, fun _ => ⟨rfl, rfl⟩, fun h => absurd hcs h⟩
       · obtain ⟨h1, h2⟩ := Rq.set HB2.out (by rw [bk_map]; exact HA1.out) (HC.out.2 hcs) (c' := c1 - 32) (by omega)
         exact ⟨_, _, h1, h2, fun h => absurd h hcs, fun _ => ⟨rfl, rfl⟩⟩
      obtain ⟨A', c', hq1, hq2, hq3, hq4⟩ := hx
      have HQ1 := Lib.hid hq1
      have HQ2 := Lib.hid hq2
      have HBV3 := Lib.hid (HBM.out.keep hq2 (by simp; omega))
      have HBR3 := Lib.hid (HBRR.out.keep hq2 (by simp; omega))
      clear hq1 hq2
      have hcc : c1 = 32 ∨ c1 ≠ 32 := by omega
      have HC3 := Lib.hid hq3
      have HC4 := Lib.hid hq4
      clear hq3 hq4
      rcases hcc with hcs | hcs
      · obtain ⟨e1, e2⟩ := HC3.out hcs
        subst e1 e2
        clear HC3 HC4
        subst hcs
        have h0 : R.length - 32 = 0 := by omega
        rw [h0] at HQ1 HQ2 HBV3 HBR3
        clear h0
        go_wp2_with (first
         | (refine wpList_load_row rfl 25 _ rfl (w.heap.size + 1) rfl 25 H _ _ HBV3.out Tryz.underlying25 rfl (by rw [hash_size, HSZ.out]) ?_)
         | (refine wpList_store_row rfl 25 _ _ rfl w.heap.size H rfl rfl 25 zero32 HBR3.out (by rw [hash_size, HSZ.out]) (by rw [HSZ.out, zero32_size]) HONE.out ?_))
        have hgr := setRow_blk HBR3.out H
        refine bodyPost_ret (v := .agg H) (results_cell_row Tryz.results48 _ _ w.heap.size 25 H _ _ rfl hgr Tryz.underlying25 rfl (by rw [hash_size, HSZ.out])) rfl ⟨?_, ?_, ?_⟩
        · rw [HHM.out]
        · rw [HTL.out.1, HTL.out.2]
          exact HQ1.out.keep (setRow_fr _ w.heap.size H) (by simp; omega) (fun k hk => by have := HF.out k hk; simp; omega)
        · exact (((HF0.out.mono (T := [g]) (by simp)).trans HFM.out (fun x hx hl => by simp at hx; omega)).trans HQ2.out (fun _ h _ => h)).trans (setRow_fr _ w.heap.size H) (fun x hx hl => by simp at hx; omega)
      · obtain ⟨e1, e2⟩ := HC4.out hcs
        subst e1 e2
        clear HC3 HC4
        go_wp2_with (first
         | (refine wpList_load_row rfl 25 _ rfl (w.heap.size + 1) rfl 25 H _ _ HBV3.out Tryz.underlying25 rfl (by rw [hash_size, HSZ.out]) ?_)
         | (refine wpList_store_row rfl 25 _ _ rfl w.heap.size H rfl rfl 25 zero32 HBR3.out (by rw [hash_size, HSZ.out]) (by rw [HSZ.out, zero32_size]) HONE.out ?_))
        have hgr := setRow_blk HBR3.out H
        refine bodyPost_ret (v := .agg H) (results_cell_row Tryz.results48 _ _ w.heap.size 25 H _ _ rfl hgr Tryz.underlying25 rfl (by rw [hash_size, HSZ.out])) rfl ⟨?_, ?_, ?_⟩
        · rw [HHM.out]
        · rw [HTL.out.1, HTL.out.2]
          exact HQ1.out.keep (setRow_fr _ w.heap.size H) (by simp; omega) (fun k hk => by have := HF.out k hk; simp; omega)
        · exact (((HF0.out.mono (T := [g]) (by simp)).trans HFM.out (fun x hx hl => by simp at hx; omega)).trans HQ2.out (fun _ h _ => h)).trans (setRow_fr _ w.heap.size H) (fun x hx hl => by simp at hx; omega)
end Go.Proofs.YtdenpfcgghangaaGreat

namespace Go.Proofs.YtdenpfcgghangaaGreat
open Go.RowKit
set_option maxRecDepth 100000
def Bz (s : Ps) : Prop := s.2 = true → s.1 = []
structure Qs (w : World) (F : List Nat) (g : Nat) (s : Ps) : Prop where
 rd : Rq w g F s.1 s.2
 len : s.1.length ≤ 1073741824
 lt : ∀ k ∈ F, k < w.heap.size
 bz : Bz s
theorem Qs.fr {w w' : World} {F T : List Nat} {g : Nat} {s : Ps} (h : Qs w F g s) (hf : Fr T w w') (hg : ¬ g ∈ T) (hF : ∀ k ∈ F, ¬ k ∈ T) : Qs w' F g s := ⟨h.rd.keep hf hg hF, h.len, fun k hk => Nat.lt_of_lt_of_le (h.lt k hk) hf.size, h.bz⟩
theorem Qs.gt {w : World} {F : List Nat} {g : Nat} {s : Ps} (h : Qs w F g s) : g < w.heap.size := h.rd.lt
theorem in_bz {R : List UInt8} {m : Int} {b : Bool} (h : b = true → R = []) : inB R m b = true → inL R m = [] := by
 unfold inB inL
 cases hd : dec R with
 | none => simp
 | some p =>
   simp only
   split
   · intro hb
     have := h hb
     subst this
     simp
   · simp
theorem rd_bz {R : List UInt8} {b : Bool} (h : b = true → R = []) : rdB R b = true → rdL R = [] := by
 unfold rdB rdL
 cases hd : dec R with
 | none => simp
 | some p => intro hb; have := h hb; subst this; simp
theorem took_bz {R : List UInt8} {b : Bool} (h : b = true → R = []) : tookB R b = true → tookL R = [] := by
 unfold tookB tookL
 split
 · simp
 · intro hb; have := h hb; subst this; simp
theorem rw_bz {R : List UInt8} {m : Int} {b : Bool} (h : b = true → R = []) : rwB R m b = true → rwL R m = [] := by
 unfold rwB rwL
 cases hd : dec R with
 | none => simp
 | some p =>
   simp only
   split
   · intro hb
     have := h hb
     subst this
     simp
   · simp
theorem own_capq {w : World} {base : Nat} {e : TypeId} {k n c : Nat} {A : Option Addr} {xs : List Value} (h : w.ownsRow base e k (.slice A n c) n xs) : n ≤ c := by
 rcases h.2 with ⟨h1, h2⟩ | ⟨g, cap, cur, hv, _, _, hc, _⟩
 · omega
 · injection hv; omega
def RowPostC (w : World) (g : Nat) (F : List Nat) (V L : List UInt8) (b : Bool) (e : Ending) (w' : World) : Prop :=
 ∃ A c, e = .returned (.slice A V.length c) ∧ By w' A V.length V ∧ (∀ x ∈ bk A, w.heap.size ≤ x ∧ x < w'.heap.size) ∧ V.length ≤ c ∧ Rq w' g F L b ∧ Fr [g] w w'
theorem RowPostC.mk {w w' : World} {g : Nat} {F : List Nat} {V L : List UInt8} {b : Bool} {e : Ending} (h : ∃ A c, e = .returned (.slice A V.length c) ∧ By w' A V.length V ∧ (∀ x ∈ bk A, w.heap.size ≤ x ∧ x < w'.heap.size) ∧ V.length ≤ c ∧ Rq w' g F L b ∧ Fr [g] w w') : RowPostC w g F V L b e w' := h
section
variable {w : World} {g : Nat} {F : List Nat} {R : List UInt8} {bad : Bool}
set_option maxHeartbeats 800000 in
theorem qrowc_f (m : Int) (hm2 : m < 9223372036854775808) (hr : Rq w g F R bad) (hl : R.length ≤ 1073741824) :
  Calls Tryz.prog 56 #[.pointer (some ⟨g, 0, none⟩), .int .i64 m] w (RowPostC w g F (rwV R m) (rwL R m) (rwB R m bad)) := by
 have HR := Lib.hid hr
 have HM := Lib.hid hm2
 have HW := Lib.hid (rw_in R m bad)
 have HLL := Lib.hid (inL_len R m)
 clear hr hm2
 go_enter Tryz.func56, Tryz.ntmps56
 go_wp2_with fail
 refine (qint_f m HM.out HR.out hl).mono ?_
 rintro e w1 ⟨rfl, h1, h2⟩
 have hq := h1
 have H1 := Lib.hid h1
 have H2 := Lib.hid h2
 have hLR := HLL.out
 clear h1 h2
 generalize inL R m = L at *
 generalize inN R m = k at *
 generalize inB R m bad = bad1 at *
 obtain ⟨A1, n1, c1, hA1, hb1, hy1, hnc1⟩ := hq
 have hc0 := hb1.cell 0
 simp at hc0
 have hz0 := hb1.frozen 0
 have hn1 : n1 = L.length := hy1.1.symm
 subst hn1
 have HA1 := Lib.hid hA1
 have HB1 := Lib.hid hb1
 have HY1 := Lib.hid hy1
 clear hA1 hb1 hy1
 by_cases hk : L.length < k
 · rw [if_pos hk, if_pos hk, if_pos hk] at HW
   go_wp2_with fail
   refine (qfail_any w1 g F L bad1 H1.out).mono ?_
   rintro e w2 ⟨rfl, h6, h7⟩
   have H6 := Lib.hid h6
   have H7 := Lib.hid (H2.out.trans h7 (fun _ h _ => h))
   clear h6 h7
   go_wp2
   go_ret
   rw [HW.out.1, HW.out.2.1, HW.out.2.2]
   exact RowPostC.mk ⟨none, 0, rfl, By.nil _ _, by simp [bk], Nat.le_refl _, H6.out, H7.out⟩
 · rw [if_neg hk, if_neg hk, if_neg hk] at HW
   have hkl : k ≤ L.length := by omega
   have HLE := Lib.hid hkl
   clear hk
   have HT := Lib.hid (HY1.out.take hkl)
   have hlen : (L.take k).length = k := by rw [List.length_take]; omega
   have HLEN := Lib.hid hlen
   clear hlen
   go_wp2_with (at_builtin; refine Stop.mk ?_)
   refine Stop.go ?_
   refine wpList_append_bytes _ rfl (.const (.slice none 0 0)) (.tmp 24) _ rfl 5 Tryz.underlying52 info_u8 (.slice none 0 0) 0 [] rfl
    ⟨rfl, .inl ⟨rfl, rfl⟩⟩ A1 k c1 (L.take k) rfl HT.out ?_ ?_
   · have := HLE.out; omega
   intro A2 c2 w2 ho2 hg2 hat2
   have hf2 : Fr [] w1 w2 := (Fr.refl [] w1).grown hg2 (by intro k hk hl; simp [Value.ownBlock] at hk)
   have hnew : ∀ x ∈ bk A2, w1.heap.size ≤ x := by
    intro x hx
    rcases hat2 with h | h <;> rw [h] at hx <;> simp [Value.ownBlock] at hx <;> omega
   have hlt2 : ∀ x ∈ bk A2, x < w2.heap.size := fun x hx => own_lt ho2 x (by rw [bk_mem]; exact hx)
   have hgl : g < w1.heap.size := HB1.out.lt
   have HO2 := Lib.hid ho2
   have HF2 := Lib.hid hf2
   have HNEW := Lib.hid hnew
   have HLT2 := Lib.hid hlt2
   have HB2 := Lib.hid (HB1.out.keep hf2 (by simp))
   have HY2 := Lib.hid (HY1.out.keep hf2 (by simp))
   have hc02 := HB2.out.cell 0
   simp at hc02
   have hz02 := HB2.out.frozen 0
   have HGL := Lib.hid hgl
   have hge : g ∉ bk A2 := fun h => by have := hnew g h; omega
   have HGE := Lib.hid hge
   clear ho2 hf2 hg2 hat2 hnew hlt2 hc0 hz0 hgl hge
   have HC := Lib.hid (HY2.out.cut' HLE.out hnc1)
   rw [Nat.zero_add]
   by_cases hcs : c1 = k
   · subst hcs
     have hcc := HC.out.1 rfl
     rw [show L.length - c1 = 0 by have := HLE.out; omega] at hcc
     obtain ⟨h1, h2⟩ := Rq.set HB2.out HA1.out hcc (c' := 0) (by omega)
     have HS1 := Lib.hid h1
     have HS2 := Lib.hid h2
     clear h1 h2 hcc
     go_wp2
     go_ret
     rw [HW.out.1, HW.out.2.1, HW.out.2.2]
     refine RowPostC.mk ⟨A2, c2, by rw [HLEN.out]; rfl, by rw [HLEN.out]; exact (By.of_own (by have := HO2.out; rwa [Nat.zero_add, List.nil_append] at this)).keep HS2.out (fun a ha => by
      subst ha
      have := HGE.out
      simp [bk] at this ⊢
      omega), fun x hx => ⟨Nat.le_trans H2.out.size (HNEW.out x hx), Nat.lt_of_lt_of_le (HLT2.out x hx) HS2.out.size⟩, (by rw [HLEN.out]; have h := own_capq HO2.out; omega), HS1.out, (H2.out.trans HF2.out (by simp)).trans HS2.out (fun _ h _ => h)⟩
   · obtain ⟨h1, h2⟩ := Rq.set HB2.out (by rw [bk_map]; exact HA1.out) (HC.out.2 hcs) (c' := c1 - k) (by omega)
     have HS1 := Lib.hid h1
     have HS2 := Lib.hid h2
     clear h1 h2
     go_wp2
     go_ret
     rw [HW.out.1, HW.out.2.1, HW.out.2.2]
     refine RowPostC.mk ⟨A2, c2, by rw [HLEN.out]; rfl, by rw [HLEN.out]; exact (By.of_own (by have := HO2.out; rwa [Nat.zero_add, List.nil_append] at this)).keep HS2.out (fun a ha => by
      subst ha
      have := HGE.out
      simp [bk] at this ⊢
      omega), fun x hx => ⟨Nat.le_trans H2.out.size (HNEW.out x hx), Nat.lt_of_lt_of_le (HLT2.out x hx) HS2.out.size⟩, (by rw [HLEN.out]; have h := own_capq HO2.out; omega), HS1.out, (H2.out.trans HF2.out (by simp)).trans HS2.out (fun _ h _ => h)⟩
end
section
variable {w : World} {F : List Nat} {g : Nat} {s : Ps}
theorem qInt_any (hr : Qs w F g s) : Calls Tryz.prog 43 #[.pointer (some ⟨g, 0, none⟩), .int .i64 1099511627776] w fun e w' => e = .returned (.int .i64 (pI s).1) ∧ Qs w' F g (pI s).2 ∧ Fr [g] w w' :=
 (qint_f 1099511627776 (by omega) hr.rd hr.len).mono fun _ _ ⟨h1, h2, h3⟩ => ⟨h1, ⟨h2, Nat.le_trans (inL_le _ _) hr.len, fun k hk => Nat.lt_of_lt_of_le (hr.lt k hk) h3.size, in_bz hr.bz⟩, h3⟩
theorem qCount_any (hr : Qs w F g s) : Calls Tryz.prog 43 #[.pointer (some ⟨g, 0, none⟩), .int .i64 100] w fun e w' => e = .returned (.int .i64 ((pC s).1 : Nat)) ∧ Qs w' F g (pC s).2 ∧ Fr [g] w w' :=
 (qint_f 100 (by omega) hr.rd hr.len).mono fun _ _ ⟨h1, h2, h3⟩ => ⟨h1, ⟨h2, Nat.le_trans (inL_le _ _) hr.len, fun k hk => Nat.lt_of_lt_of_le (hr.lt k hk) h3.size, in_bz hr.bz⟩, h3⟩
theorem qNum_any (hr : Qs w F g s) : Calls Tryz.prog 49 #[.pointer (some ⟨g, 0, none⟩)] w fun e w' => e = .returned (.int .u64 ((pN s).1 : Nat)) ∧ Qs w' F g (pN s).2 ∧ Fr [g] w w' :=
 (qnum_f hr.rd hr.len).mono fun _ _ ⟨h1, h2, h3⟩ => ⟨h1, ⟨h2, Nat.le_trans (rdL_le _) hr.len, fun k hk => Nat.lt_of_lt_of_le (hr.lt k hk) h3.size, rd_bz hr.bz⟩, h3⟩
theorem qHash_any (hr : Qs w F g s) : Calls Tryz.prog 48 #[.pointer (some ⟨g, 0, none⟩)] w fun e w' => e = .returned (.agg (((pH s).1).map by8).toArray) ∧ Qs w' F g (pH s).2 ∧ Fr [g] w w' :=
 (qhash_f w g F s.1 s.2 hr.rd hr.lt hr.len).mono fun _ _ ⟨h1, h2, h3⟩ => ⟨h1, ⟨h2, Nat.le_trans (tookL_le _) hr.len, fun k hk => Nat.lt_of_lt_of_le (hr.lt k hk) h3.size, took_bz hr.bz⟩, h3⟩
theorem qRow_any (hr : Qs w F g s) : Calls Tryz.prog 56 #[.pointer (some ⟨g, 0, none⟩), .int .i64 256] w fun e w' =>
  ∃ A c, e = .returned (.slice A (pR s).1.length c) ∧ By w' A (pR s).1.length (pR s).1 ∧ (∀ k ∈ bk A, w.heap.size ≤ k ∧ k < w'.heap.size) ∧ (pR s).1.length ≤ c ∧ Qs w' F g (pR s).2 ∧ Fr [g] w w' :=
 (qrowc_f 256 (by omega) hr.rd hr.len).mono fun _ _ ⟨A, c, h1, h2, h3, h6, h4, h5⟩ => ⟨A, c, h1, h2, h3, h6, ⟨h4, Nat.le_trans (rwL_le _ _) hr.len, fun k hk => Nat.lt_of_lt_of_le (hr.lt k hk) h5.size, rw_bz hr.bz⟩, h5⟩
end
def QGets {α β : Type} (f : FuncId) (cells : α → List Value) (ok : World → List Nat → α → Prop) (con : α → β) (p : Ps → β × Ps) : Prop :=
 ∀ (w : World) (F : List Nat) (g : Nat) (s : Ps), Qs w F g s → Calls Tryz.prog f #[.pointer (some ⟨g, 0, none⟩)] w fun e w' => ∃ v : α, e = .returned (.agg (cells v).toArray) ∧ con v = (p s).1 ∧ (∀ S0 : List Nat, (∀ q ∈ S0, q < w.heap.size) → ok w' S0 v) ∧ Qs w' F g (p s).2 ∧ Fr [g] w w'
set_option maxHeartbeats 1000000 in
theorem qName_any {w : World} {F : List Nat} {g : Nat} {s : Ps} (hr : Qs w F g s) : Calls Tryz.prog 47 #[.pointer (some ⟨g, 0, none⟩)] w fun e w' => e = .returned (.agg #[.int .i64 (p2 s).1.1, .int .i64 (p2 s).1.2]) ∧ Qs w' F g (p2 s).2 ∧ Fr [g] w w' := by
 obtain ⟨wa, hwa⟩ : ∃ wa, wa = w.alloc (Obj.cells #[.int .i64 0, .int .i64 0] 23) := ⟨_, rfl⟩
 have hf0 : Fr [] w wa := by rw [hwa]; exact (Fr.refl [] w).alloc _
 have HB : Hid (Blk wa w.heap.size 23 #[.int .i64 0, .int .i64 0]) := Lib.hid (by rw [hwa]; exact Blk.new _ _ _)
 have HR := Lib.hid (hr.fr hf0 (by simp) (by simp))
 have HNF : Hid (¬ w.heap.size ∈ F) := Lib.hid (fun hm => by have := hr.lt _ hm; omega)
 have HG : Hid (g < w.heap.size) := Lib.hid hr.gt
 have HF0 := Lib.hid hf0
 have HWA := Lib.hid hwa
 clear hwa hf0 hr
 go_enter Tryz.func47, Tryz.ntmps47
 go_upto_region 1 with (fail)
 change Code.wp _ _ _ _ (w.alloc (Obj.cells #[.int .i64 0, .int .i64 0] 23))
 rw [← HWA.out]
 go_wp2_with fail
 refine (qInt_any HR.out).mono ?_
 rintro e_ w1 ⟨rfl, h1, h2⟩
 have HR0 := Lib.hid h1
 have HF1 : Hid (Fr [g] wa w1) := Lib.hid h2
 clear h1 h2
 go_wp2_with fail
 refine (qInt_any HR0.out).mono ?_
 rintro e_ w2 ⟨rfl, h1, h2⟩
 have HR1 := Lib.hid h1
 have HF2 : Hid (Fr [g] wa w2) := Lib.hid (HF1.out.trans h2 (fun x hx _ => hx))
 clear h1 h2
 have HBE := Lib.hid (HB.out.keep HF2.out (by have := HG.out; simp; omega))
 have HBU : Hid (Tryz.prog.built 23 [(0, .int .i64 (p2 s).1.1), (1, .int .i64 (p2 s).1.2)] = some #[.int .i64 (p2 s).1.1, .int .i64 (p2 s).1.2]) := Lib.hid (built_p2n _ _)
 have HAL : Hid ((#[.int .i64 (p2 s).1.1, .int .i64 (p2 s).1.2] : Array Value).all (·.oneCell') = true) := Lib.hid (by kernel_rfl)
 have HVS : Hid ((#[.int .i64 (p2 s).1.1, .int .i64 (p2 s).1.2] : Array Value).size = 2) := Lib.hid (rfl)
 have HTS : Hid ((Tryz.prog.info? 23).map (·.size) = some (#[.int .i64 (p2 s).1.1, .int .i64 (p2 s).1.2] : Array Value).size) := Lib.hid (by rw [HVS.out]; kernel_rfl)
 obtain ⟨V, hV⟩ : ∃ V, V = (#[.int .i64 (p2 s).1.1, .int .i64 (p2 s).1.2] : Array Value) := ⟨_, rfl⟩
 have HV := Lib.hid hV
 rw [← hV] at HBU HAL HVS HTS
 clear hV
 go_wp2_with (first
  | (refine wpList_builtg rfl 23 _ rfl _ _ HBU.out rfl ?_)
  | (refine wpList_store_blk rfl 23 _ _ rfl w.heap.size V rfl rfl 23 #[.int .i64 0, .int .i64 0] HBE.out HTS.out (by rw [HVS.out]; rfl) HAL.out ?_
     intro w9 hb9 hf9
     have HB9 := Lib.hid hb9
     have HF9 := Lib.hid hf9
     clear hb9 hf9))
 refine bodyPost_ret (v := .agg V) (results_cell_row Tryz.results47 _ _ w.heap.size 23 V _ _ rfl HB9.out Tryz.underlying23 rfl HTS.out) rfl ⟨by rw [HV.out], ?_, ?_⟩
 · exact HR1.out.fr HF9.out (by have := HG.out; simp; omega) (fun k hk hm => HNF.out (by simp at hm; exact hm ▸ hk))
 · exact Fr.unbox HF0.out HF2.out HF9.out (Nat.le_refl _)
set_option maxHeartbeats 1000000 in
theorem qSig_any {w : World} {F : List Nat} {g : Nat} {s : Ps} (hr : Qs w F g s) : Calls Tryz.prog 50 #[.pointer (some ⟨g, 0, none⟩)] w fun e w' => e = .returned (.agg #[.int .i64 (p2 s).1.1, .int .i64 (p2 s).1.2]) ∧ Qs w' F g (p2 s).2 ∧ Fr [g] w w' := by
 obtain ⟨wa, hwa⟩ : ∃ wa, wa = w.alloc (Obj.cells #[.int .i64 0, .int .i64 0] 27) := ⟨_, rfl⟩
 have hf0 : Fr [] w wa := by rw [hwa]; exact (Fr.refl [] w).alloc _
 have HB : Hid (Blk wa w.heap.size 27 #[.int .i64 0, .int .i64 0]) := Lib.hid (by rw [hwa]; exact Blk.new _ _ _)
 have HR := Lib.hid (hr.fr hf0 (by simp) (by simp))
 have HNF : Hid (¬ w.heap.size ∈ F) := Lib.hid (fun hm => by have := hr.lt _ hm; omega)
 have HG : Hid (g < w.heap.size) := Lib.hid hr.gt
 have HF0 := Lib.hid hf0
 have HWA := Lib.hid hwa
 clear hwa hf0 hr
 go_enter Tryz.func50, Tryz.ntmps50
 go_upto_region 1 with (fail)
 change Code.wp _ _ _ _ (w.alloc (Obj.cells #[.int .i64 0, .int .i64 0] 27))
 rw [← HWA.out]
 go_wp2_with fail
 refine (qInt_any HR.out).mono ?_
 rintro e_ w1 ⟨rfl, h1, h2⟩
 have HR0 := Lib.hid h1
 have HF1 : Hid (Fr [g] wa w1) := Lib.hid h2
 clear h1 h2
 go_wp2_with fail
 refine (qInt_any HR0.out).mono ?_
 rintro e_ w2 ⟨rfl, h1, h2⟩
 have HR1 := Lib.hid h1
 have HF2 : Hid (Fr [g] wa w2) := Lib.hid (HF1.out.trans h2 (fun x hx _ => hx))
 clear h1 h2
 have HBE := Lib.hid (HB.out.keep HF2.out (by have := HG.out; simp; omega))
 have HBU : Hid (Tryz.prog.built 27 [(0, .int .i64 (p2 s).1.1), (1, .int .i64 (p2 s).1.2)] = some #[.int .i64 (p2 s).1.1, .int .i64 (p2 s).1.2]) := Lib.hid (built_p2s _ _)
 have HAL : Hid ((#[.int .i64 (p2 s).1.1, .int .i64 (p2 s).1.2] : Array Value).all (·.oneCell') = true) := Lib.hid (by kernel_rfl)
 have HVS : Hid ((#[.int .i64 (p2 s).1.1, .int .i64 (p2 s).1.2] : Array Value).size = 2) := Lib.hid (rfl)
 have HTS : Hid ((Tryz.prog.info? 27).map (·.size) = some (#[.int .i64 (p2 s).1.1, .int .i64 (p2 s).1.2] : Array Value).size) := Lib.hid (by rw [HVS.out]; kernel_rfl)
 obtain ⟨V, hV⟩ : ∃ V, V = (#[.int .i64 (p2 s).1.1, .int .i64 (p2 s).1.2] : Array Value) := ⟨_, rfl⟩
 have HV := Lib.hid hV
 rw [← hV] at HBU HAL HVS HTS
 clear hV
 go_wp2_with (first
  | (refine wpList_builtg rfl 27 _ rfl _ _ HBU.out rfl ?_)
  | (refine wpList_store_blk rfl 27 _ _ rfl w.heap.size V rfl rfl 27 #[.int .i64 0, .int .i64 0] HBE.out HTS.out (by rw [HVS.out]; rfl) HAL.out ?_
     intro w9 hb9 hf9
     have HB9 := Lib.hid hb9
     have HF9 := Lib.hid hf9
     clear hb9 hf9))
 refine bodyPost_ret (v := .agg V) (results_cell_row Tryz.results50 _ _ w.heap.size 27 V _ _ rfl HB9.out Tryz.underlying27 rfl HTS.out) rfl ⟨by rw [HV.out], ?_, ?_⟩
 · exact HR1.out.fr HF9.out (by have := HG.out; simp; omega) (fun k hk hm => HNF.out (by simp at hm; exact hm ▸ hk))
 · exact Fr.unbox HF0.out HF2.out HF9.out (Nat.le_refl _)
set_option maxHeartbeats 1000000 in
theorem qCommit_any {w : World} {F : List Nat} {g : Nat} {s : Ps} (hr : Qs w F g s) : Calls Tryz.prog 44 #[.pointer (some ⟨g, 0, none⟩)] w fun e w' => e = .returned (.agg (pCm s).1.cells.toArray) ∧ Qs w' F g (pCm s).2 ∧ Fr [g] w w' := by
 obtain ⟨wa, hwa⟩ : ∃ wa, wa = w.alloc (Obj.cells zCm 29) := ⟨_, rfl⟩
 have hf0 : Fr [] w wa := by rw [hwa]; exact (Fr.refl [] w).alloc _
 have HB : Hid (Blk wa w.heap.size 29 zCm) := Lib.hid (by rw [hwa]; exact Blk.new _ _ _)
 have HR := Lib.hid (hr.fr hf0 (by simp) (by simp))
 have HNF : Hid (¬ w.heap.size ∈ F) := Lib.hid (fun hm => by have := hr.lt _ hm; omega)
 have HG : Hid (g < w.heap.size) := Lib.hid hr.gt
 have HF0 := Lib.hid hf0
 have HWA := Lib.hid hwa
 clear hwa hf0 hr
 go_enter Tryz.func44, Tryz.ntmps44
 go_upto_region 1 with (fail)
 change Code.wp _ _ _ _ (w.alloc (Obj.cells zCm 29))
 rw [← HWA.out]
 go_wp2_with fail
 refine (qName_any HR.out).mono ?_
 rintro e_ w1 ⟨rfl, h1, h2⟩
 have HR0 := Lib.hid h1
 have HF1 : Hid (Fr [g] wa w1) := Lib.hid h2
 clear h1 h2
 go_wp2_with fail
 refine (qHash_any HR0.out).mono ?_
 rintro e_ w2 ⟨rfl, h1, h2⟩
 have HR1 := Lib.hid h1
 have HF2 : Hid (Fr [g] wa w2) := Lib.hid (HF1.out.trans h2 (fun x hx _ => hx))
 clear h1 h2
 go_wp2_with fail
 refine (qInt_any HR1.out).mono ?_
 rintro e_ w3 ⟨rfl, h1, h2⟩
 have HR2 := Lib.hid h1
 have HF3 : Hid (Fr [g] wa w3) := Lib.hid (HF2.out.trans h2 (fun x hx _ => hx))
 clear h1 h2
 go_wp2_with fail
 refine (qSig_any HR2.out).mono ?_
 rintro e_ w4 ⟨rfl, h1, h2⟩
 have HR3 := Lib.hid h1
 have HF4 : Hid (Fr [g] wa w4) := Lib.hid (HF3.out.trans h2 (fun x hx _ => hx))
 clear h1 h2
 have HBE := Lib.hid (HB.out.keep HF4.out (by have := HG.out; simp; omega))
 have HBU : Hid (Tryz.prog.built 29 [(0, .agg #[.int .i64 (pCm s).1.c, .int .i64 (pCm s).1.s]), (1, .agg ((pCm s).1.h.map by8).toArray), (2, .int .i64 (pCm s).1.n), (3, .agg #[.int .i64 (pCm s).1.b, .int .i64 (pCm s).1.m])] = some (pCm s).1.cells.toArray) := Lib.hid (built_cmR _ _ _ _ _ _ (pCm_ok s).h)
 have HAL : Hid (((pCm s).1.cells.toArray : Array Value).all (·.oneCell') = true) := Lib.hid (all_oneCell_toArray (Wcm.one _))
 have HVS : Hid (((pCm s).1.cells.toArray : Array Value).size = 37) := Lib.hid (by rw [List.size_toArray]; exact Wcm.len (pCm_ok s).h)
 have HTS : Hid ((Tryz.prog.info? 29).map (·.size) = some ((pCm s).1.cells.toArray : Array Value).size) := Lib.hid (by rw [HVS.out]; kernel_rfl)
 obtain ⟨V, hV⟩ : ∃ V, V = ((pCm s).1.cells.toArray : Array Value) := ⟨_, rfl⟩
 have HV := Lib.hid hV
 rw [← hV] at HBU HAL HVS HTS
 clear hV
 go_wp2_with (first
  | (refine wpList_builtg rfl 29 _ rfl _ _ HBU.out rfl ?_)
  | (refine wpList_store_blk rfl 29 _ _ rfl w.heap.size V rfl rfl 29 zCm HBE.out HTS.out (by rw [HVS.out]; rfl) HAL.out ?_
     intro w9 hb9 hf9
     have HB9 := Lib.hid hb9
     have HF9 := Lib.hid hf9
     clear hb9 hf9))
 refine bodyPost_ret (v := .agg V) (results_cell_row Tryz.results44 _ _ w.heap.size 29 V _ _ rfl HB9.out Tryz.underlying29 rfl HTS.out) rfl ⟨by rw [HV.out], ?_, ?_⟩
 · exact HR3.out.fr HF9.out (by have := HG.out; simp; omega) (fun k hk hm => HNF.out (by simp at hm; exact hm ▸ hk))
 · exact Fr.unbox HF0.out HF4.out HF9.out (Nat.le_refl _)
set_option maxHeartbeats 1000000 in
theorem qStamp_any {w : World} {F : List Nat} {g : Nat} {s : Ps} (hr : Qs w F g s) : Calls Tryz.prog 45 #[.pointer (some ⟨g, 0, none⟩)] w fun e w' => e = .returned (.agg (pSt s).1.cells.toArray) ∧ Qs w' F g (pSt s).2 ∧ Fr [g] w w' := by
 obtain ⟨wa, hwa⟩ : ∃ wa, wa = w.alloc (Obj.cells zSt 32) := ⟨_, rfl⟩
 have hf0 : Fr [] w wa := by rw [hwa]; exact (Fr.refl [] w).alloc _
 have HB : Hid (Blk wa w.heap.size 32 zSt) := Lib.hid (by rw [hwa]; exact Blk.new _ _ _)
 have HR := Lib.hid (hr.fr hf0 (by simp) (by simp))
 have HNF : Hid (¬ w.heap.size ∈ F) := Lib.hid (fun hm => by have := hr.lt _ hm; omega)
 have HG : Hid (g < w.heap.size) := Lib.hid hr.gt
 have HF0 := Lib.hid hf0
 have HWA := Lib.hid hwa
 clear hwa hf0 hr
 go_enter Tryz.func45, Tryz.ntmps45
 go_upto_region 1 with (fail)
 change Code.wp _ _ _ _ (w.alloc (Obj.cells zSt 32))
 rw [← HWA.out]
 go_wp2_with fail
 refine (qInt_any HR.out).mono ?_
 rintro e_ w1 ⟨rfl, h1, h2⟩
 have HR0 := Lib.hid h1
 have HF1 : Hid (Fr [g] wa w1) := Lib.hid h2
 clear h1 h2
 go_wp2_with fail
 refine (qName_any HR0.out).mono ?_
 rintro e_ w2 ⟨rfl, h1, h2⟩
 have HR1 := Lib.hid h1
 have HF2 : Hid (Fr [g] wa w2) := Lib.hid (HF1.out.trans h2 (fun x hx _ => hx))
 clear h1 h2
 go_wp2_with fail
 refine (qHash_any HR1.out).mono ?_
 rintro e_ w3 ⟨rfl, h1, h2⟩
 have HR2 := Lib.hid h1
 have HF3 : Hid (Fr [g] wa w3) := Lib.hid (HF2.out.trans h2 (fun x hx _ => hx))
 clear h1 h2
 go_wp2_with fail
 refine (qNum_any HR2.out).mono ?_
 rintro e_ w4 ⟨rfl, h1, h2⟩
 have HR3 := Lib.hid h1
 have HF4 : Hid (Fr [g] wa w4) := Lib.hid (HF3.out.trans h2 (fun x hx _ => hx))
 clear h1 h2
 go_wp2_with fail
 refine (qSig_any HR3.out).mono ?_
 rintro e_ w5 ⟨rfl, h1, h2⟩
 have HR4 := Lib.hid h1
 have HF5 : Hid (Fr [g] wa w5) := Lib.hid (HF4.out.trans h2 (fun x hx _ => hx))
 clear h1 h2
 have HBE := Lib.hid (HB.out.keep HF5.out (by have := HG.out; simp; omega))
 have HBU : Hid (Tryz.prog.built 32 [(0, .int .i64 (pSt s).1.r), (1, .agg #[.int .i64 (pSt s).1.c, .int .i64 (pSt s).1.s]), (2, .agg ((pSt s).1.h.map by8).toArray), (3, .int .u64 ((pSt s).1.t : Int)), (4, .agg #[.int .i64 (pSt s).1.b, .int .i64 (pSt s).1.m])] = some (pSt s).1.cells.toArray) := Lib.hid (built_stR _ _ _ _ _ _ _ (pSt_ok s).h)
 have HAL : Hid (((pSt s).1.cells.toArray : Array Value).all (·.oneCell') = true) := Lib.hid (all_oneCell_toArray (Wst.one _))
 have HVS : Hid (((pSt s).1.cells.toArray : Array Value).size = 38) := Lib.hid (by rw [List.size_toArray]; exact Wst.len (pSt_ok s).h)
 have HTS : Hid ((Tryz.prog.info? 32).map (·.size) = some ((pSt s).1.cells.toArray : Array Value).size) := Lib.hid (by rw [HVS.out]; kernel_rfl)
 obtain ⟨V, hV⟩ : ∃ V, V = ((pSt s).1.cells.toArray : Array Value) := ⟨_, rfl⟩
 have HV := Lib.hid hV
 rw [← hV] at HBU HAL HVS HTS
 clear hV
 go_wp2_with (first
  | (refine wpList_builtg rfl 32 _ rfl _ _ HBU.out rfl ?_)
  | (refine wpList_store_blk rfl 32 _ _ rfl w.heap.size V rfl rfl 32 zSt HBE.out HTS.out (by rw [HVS.out]; rfl) HAL.out ?_
     intro w9 hb9 hf9
     have HB9 := Lib.hid hb9
     have HF9 := Lib.hid hf9
     clear hb9 hf9))
 refine bodyPost_ret (v := .agg V) (results_cell_row Tryz.results45 _ _ w.heap.size 32 V _ _ rfl HB9.out Tryz.underlying32 rfl HTS.out) rfl ⟨by rw [HV.out], ?_, ?_⟩
 · exact HR4.out.fr HF9.out (by have := HG.out; simp; omega) (fun k hk hm => HNF.out (by simp at hm; exact hm ▸ hk))
 · exact Fr.unbox HF0.out HF5.out HF9.out (Nat.le_refl _)
set_option maxHeartbeats 1000000 in
theorem qDeny_any {w : World} {F : List Nat} {g : Nat} {s : Ps} (hr : Qs w F g s) : Calls Tryz.prog 55 #[.pointer (some ⟨g, 0, none⟩)] w fun e w' => e = .returned (.agg (pDn s).1.cells.toArray) ∧ Qs w' F g (pDn s).2 ∧ Fr [g] w w' := by
 obtain ⟨wa, hwa⟩ : ∃ wa, wa = w.alloc (Obj.cells #[.int .i64 0, .int .i64 0, .int .i64 0, .int .i64 0] 56) := ⟨_, rfl⟩
 have hf0 : Fr [] w wa := by rw [hwa]; exact (Fr.refl [] w).alloc _
 have HB : Hid (Blk wa w.heap.size 56 #[.int .i64 0, .int .i64 0, .int .i64 0, .int .i64 0]) := Lib.hid (by rw [hwa]; exact Blk.new _ _ _)
 have HR := Lib.hid (hr.fr hf0 (by simp) (by simp))
 have HNF : Hid (¬ w.heap.size ∈ F) := Lib.hid (fun hm => by have := hr.lt _ hm; omega)
 have HG : Hid (g < w.heap.size) := Lib.hid hr.gt
 have HF0 := Lib.hid hf0
 have HWA := Lib.hid hwa
 clear hwa hf0 hr
 go_enter Tryz.func55, Tryz.ntmps55
 go_upto_region 1 with (fail)
 change Code.wp _ _ _ _ (w.alloc (Obj.cells #[.int .i64 0, .int .i64 0, .int .i64 0, .int .i64 0] 56))
 rw [← HWA.out]
 go_wp2_with fail
 refine (qInt_any HR.out).mono ?_
 rintro e_ w1 ⟨rfl, h1, h2⟩
 have HR0 := Lib.hid h1
 have HF1 : Hid (Fr [g] wa w1) := Lib.hid h2
 clear h1 h2
 go_wp2_with fail
 refine (qInt_any HR0.out).mono ?_
 rintro e_ w2 ⟨rfl, h1, h2⟩
 have HR1 := Lib.hid h1
 have HF2 : Hid (Fr [g] wa w2) := Lib.hid (HF1.out.trans h2 (fun x hx _ => hx))
 clear h1 h2
 go_wp2_with fail
 refine (qSig_any HR1.out).mono ?_
 rintro e_ w3 ⟨rfl, h1, h2⟩
 have HR2 := Lib.hid h1
 have HF3 : Hid (Fr [g] wa w3) := Lib.hid (HF2.out.trans h2 (fun x hx _ => hx))
 clear h1 h2
 have HBE := Lib.hid (HB.out.keep HF3.out (by have := HG.out; simp; omega))
 have HBU : Hid (Tryz.prog.built 56 [(0, .int .i64 (pDn s).1.r), (1, .int .i64 (pDn s).1.i), (2, .agg #[.int .i64 (pDn s).1.b, .int .i64 (pDn s).1.m])] = some (pDn s).1.cells.toArray) := Lib.hid (built_dnR _ _ _ _)
 have HAL : Hid (((pDn s).1.cells.toArray : Array Value).all (·.oneCell') = true) := Lib.hid (all_oneCell_toArray (Wdn.one _))
 have HVS : Hid (((pDn s).1.cells.toArray : Array Value).size = 4) := Lib.hid (rfl)
 have HTS : Hid ((Tryz.prog.info? 56).map (·.size) = some ((pDn s).1.cells.toArray : Array Value).size) := Lib.hid (by rw [HVS.out]; kernel_rfl)
 obtain ⟨V, hV⟩ : ∃ V, V = ((pDn s).1.cells.toArray : Array Value) := ⟨_, rfl⟩
 have HV := Lib.hid hV
 rw [← hV] at HBU HAL HVS HTS
 clear hV
 go_wp2_with (first
  | (refine wpList_builtg rfl 56 _ rfl _ _ HBU.out rfl ?_)
  | (refine wpList_store_blk rfl 56 _ _ rfl w.heap.size V rfl rfl 56 #[.int .i64 0, .int .i64 0, .int .i64 0, .int .i64 0] HBE.out HTS.out (by rw [HVS.out]; rfl) HAL.out ?_
     intro w9 hb9 hf9
     have HB9 := Lib.hid hb9
     have HF9 := Lib.hid hf9
     clear hb9 hf9))
 refine bodyPost_ret (v := .agg V) (results_cell_row Tryz.results55 _ _ w.heap.size 56 V _ _ rfl HB9.out Tryz.underlying56 rfl HTS.out) rfl ⟨by rw [HV.out], ?_, ?_⟩
 · exact HR2.out.fr HF9.out (by have := HG.out; simp; omega) (fun k hk hm => HNF.out (by simp at hm; exact hm ▸ hk))
 · exact Fr.unbox HF0.out HF3.out HF9.out (Nat.le_refl _)
set_option maxHeartbeats 2000000 in
theorem qOpening_any : QGets 54 Wop.cells (fun w S v => v.Ok w S) Wop.con pOp := by
 intro w F g s hr
 obtain ⟨wa, hwa⟩ : ∃ wa, wa = w.alloc (Obj.cells zOp 54) := ⟨_, rfl⟩
 have hf0 : Fr [] w wa := by rw [hwa]; exact (Fr.refl [] w).alloc _
 have HB : Hid (Blk wa w.heap.size 54 zOp) := Lib.hid (by rw [hwa]; exact Blk.new _ _ _)
 have HR := Lib.hid (hr.fr hf0 (by simp) (by simp))
 have HNF : Hid (¬ w.heap.size ∈ F) := Lib.hid (fun hm => by have := hr.lt _ hm; omega)
 have HG : Hid (g < w.heap.size) := Lib.hid hr.gt
 have HF0 := Lib.hid hf0
 have HWA := Lib.hid hwa
 clear hwa hf0 hr
 go_enter Tryz.func54, Tryz.ntmps54
 go_upto_region 1 with (fail)
 change Code.wp _ _ _ _ (w.alloc (Obj.cells zOp 54))
 rw [← HWA.out]
 go_wp2_with fail
 refine (qInt_any HR.out).mono ?_
 rintro e_ w1 ⟨rfl, h1, h2⟩
 have HR0 := Lib.hid h1
 have HF1 : Hid (Fr [g] wa w1) := Lib.hid h2
 have hq_ : Fr [g, w.heap.size] wa w1 := h2.mono (fun x hx _ => by simp at hx; simp [hx])
 clear h1 h2 hq_
 go_wp2_with fail
 refine (qRow_any HR0.out).mono ?_
 rintro e_ w2 ⟨A1, c1, rfl, hby, hbk, hcap, h1, h2⟩
 have HR1 := Lib.hid h1
 have HF2 : Hid (Fr [g] wa w2) := Lib.hid (HF1.out.trans h2 (fun x hx _ => hx))
 have hq_ : Fr [g, w.heap.size] w1 w2 := h2.mono (fun x hx _ => by simp at hx; simp [hx])
 have HPA : Hid (∀ k ∈ bk A1, w.heap.size < k) := Lib.hid (fun k hk => by have h1 := (hbk k hk).1; have h3 := HB.out.lt; have h5 := HF1.out.size; omega)
 have HL1 : Hid (∀ W, Fr [g, w.heap.size] w2 W → By W A1 (pR _).1.length (pR _).1 ∧ ∀ k ∈ bk A1, k < W.heap.size) := Lib.hid (fun W hW => ⟨hby.keep hW (fun a ha hm => by have h1 := HPA.out a.block (by simp [bk, ha]); have h2 := HG.out; simp at hm; omega), fun k hk => Nat.lt_of_lt_of_le (hbk k hk).2 hW.size⟩)
 have HCA := Lib.hid hcap
 clear hby hbk hcap
 clear h1 h2 hq_
 go_wp2_with fail
 refine (qHash_any HR1.out).mono ?_
 rintro e_ w3 ⟨rfl, h1, h2⟩
 have HR2 := Lib.hid h1
 have HF3 : Hid (Fr [g] wa w3) := Lib.hid (HF2.out.trans h2 (fun x hx _ => hx))
 have hq_ : Fr [g, w.heap.size] w2 w3 := h2.mono (fun x hx _ => by simp at hx; simp [hx])
 have HL1 := Lib.hid (fun W (hW : Fr [g, w.heap.size] w3 W) => HL1.out W (hq_.trans hW (fun x hx _ => hx)))
 clear h1 h2 hq_
 have HBE := Lib.hid (HB.out.keep HF3.out (by have := HG.out; simp; omega))
 have HBU := Lib.hid (built_opR (pI s).1 A1 (pR (pI s).2).1.length c1 (pR (pI s).2).1 (pH (pR (pI s).2).2).1 (pH_len _))
 obtain ⟨v, hv⟩ : ∃ v : Wop, v = ⟨(pI s).1, A1, (pR (pI s).2).1.length, c1, (pR (pI s).2).1, (pH (pR (pI s).2).2).1⟩ := ⟨_, rfl⟩
 have HVS : Hid (v.cells.toArray.size = 34) := Lib.hid (by rw [hv, List.size_toArray]; exact Wop.len (pH_len _))
 have HAL : Hid (v.cells.toArray.all (·.oneCell') = true) := Lib.hid (all_oneCell_toArray (Wop.one _))
 have HTS : Hid ((Tryz.prog.info? 54).map (·.size) = some v.cells.toArray.size) := Lib.hid (by rw [HVS.out]; kernel_rfl)
 have HV := Lib.hid hv
 rw [← hv] at HBU
 clear hv
 obtain ⟨V, hV⟩ : ∃ V : Array Value, V = v.cells.toArray := ⟨_, rfl⟩
 have HVV := Lib.hid hV
 rw [← hV] at HBU HAL HVS HTS
 clear hV
 go_wp2_with (first
  | (refine wpList_builtg rfl 54 _ rfl _ _ HBU.out rfl ?_)
  | (refine wpList_store_blk rfl 54 _ _ rfl w.heap.size V rfl rfl 54 zOp HBE.out HTS.out (by rw [HVS.out]; rfl) HAL.out ?_
     intro w9 hb9 hf9
     have HB9 := Lib.hid hb9
     have HF9 := Lib.hid hf9
     clear hb9 hf9))
 have hq9 : Fr [g, w.heap.size] w3 w9 := HF9.out.mono (fun x hx _ => by simp at hx; simp [hx])
 refine bodyPost_ret (v := .agg V) (results_cell_row Tryz.results54 _ _ w.heap.size 54 V _ _ rfl HB9.out Tryz.underlying54 rfl HTS.out) rfl ⟨v, by rw [HVV.out], ?_, fun S0 h0 => ?_, ?_, ?_⟩
 · rw [HV.out]; rfl
 · rw [HV.out]; exact ⟨pI_in _, (HL1.out w9 hq9).1, Nat.le_trans (pR_le _) (by omega), fun k hk hm => by have h1 := HPA.out k hk; have h2 := h0 k hm; omega, (HL1.out w9 hq9).2, pH_len _, HCA.out⟩
 · exact HR2.out.fr HF9.out (by have := HG.out; simp; omega) (fun k hk hm => HNF.out (by simp at hm; exact hm ▸ hk))
 · exact Fr.unbox HF0.out HF3.out HF9.out (Nat.le_refl _)
end Go.Proofs.YtdenpfcgghangaaGreat

namespace Go.Proofs.YtdenpfcgghangaaGreat
open Go.RowKit
set_option maxRecDepth 100000
theorem Blk.mid {g : Nat} {t : TypeId} : ∀ (V M P Z : List Value) (w : World), V.length = M.length → Blk w g t (P ++ (M ++ Z)).toArray → Blk (w.setCells g P.length V) g t (P ++ (V ++ Z)).toArray
 | [], M, P, Z, w, h, hb => by
   have : M = [] := List.eq_nil_of_length_eq_zero (by simpa using h.symm)
   subst this
   exact hb
 | v :: V, [], P, Z, w, h, hb => by simp at h
 | v :: V, m :: M, P, Z, w, h, hb => by
   have h1 := hb.set P.length v
   rw [List.setIfInBounds_toArray, List.set_append_right _ _ (Nat.le_refl _), Nat.sub_self] at h1
   have h2 := Blk.mid V M (P ++ [v]) Z (w.setCell ⟨g, P.length, none⟩ v) (by simpa using h) (by simpa using h1)
   have e : (P ++ [v]).length = P.length + 1 := by simp
   rw [e] at h2
   simpa [World.setCells] using h2
theorem Blk.mid_at {g : Nat} {t : TypeId} {w : World} (V M P Z : List Value) (o : Nat) (ho : P.length = o) (h : V.length = M.length) (cs cs' : List Value) (hc : cs = P ++ (M ++ Z)) (hc' : cs' = P ++ (V ++ Z)) (hb : Blk w g t cs.toArray) : Blk (w.setCells g o V) g t cs'.toArray := by
 subst ho
 subst hc
 subst hc'
 exact Blk.mid V M P Z w h hb
theorem Fr.setCells {S : List Nat} {a : World} {g : Nat} (hg : g < a.heap.size → g ∈ S) : ∀ (V : List Value) (o : Nat) (w : World), Fr S a w → Fr S a (w.setCells g o V)
 | [], _, _, h => h
 | v :: V, o, w, h => Fr.setCells hg V (o + 1) _ (h.setCell ⟨g, o, none⟩ hg v)
def upI (v : Int) : Int := v % 1099511627776
theorem row_sg2 : RowTy Tryz.prog 27 2 := ⟨by kernel_rfl, by kernel_rfl⟩
end Go.Proofs.YtdenpfcgghangaaGreat

namespace Go.Proofs.YtdenpfcgghangaaGreat
open Go.RowKit
set_option maxRecDepth 100000
def nst (x : Wst) : Wst := ⟨upI x.r, upI x.c, upI x.s, x.h, x.t, upI x.b, upI x.m⟩
def ncm (x : Wcm) : Wcm := ⟨upI x.c, upI x.s, x.h, upI x.n, upI x.b, upI x.m⟩
theorem row_stm : RowTy Tryz.prog 32 38 := ⟨by kernel_rfl, by kernel_rfl⟩
theorem wp_store_at {P : Program} {op : Oper} {a : Act} {w : World} {K : Act → World → Prop} {Q : Exit → Act → World → Prop} (ty : TypeId) (x y : Operand) (ho : op.op = .store ty x y)
  (g i : Nat) (v : Value) (hx : a.eval x = .pointer (some ⟨g, i, none⟩)) (hy : a.eval y = v) (h1 : v.oneCell' = true) (t : TypeId) (cs : Array Value) (hb : Blk w g t cs) (hi : i < cs.size) (hsz : (P.info? ty).map (·.size) = some 1)
  (h : K (a.put op.dst undef) (w.setCells g i [v])) : op.wp P a w K Q := by
 subst hy
 have hc := hb.cell i
 rw [Array.getElem?_eq_getElem hi] at hc
 have := run_storeCells_cells (P := P) g i [a.eval y] 0 w (fun j hj => by simp at hj; subst hj; simpa using (by rw [hc]; rfl : (w.cell? ⟨g, i, none⟩).isSome = true)) (fun j hj => by simp at hj; subst hj; simpa using hb.frozen i) (fun u hu => by simp at hu; subst hu; exact h1)
 have hcl : (a.eval y).cells = #[a.eval y] := by cases hv : a.eval y <;> first | rfl | (rw [hv] at h1; cases h1)
 have hrun : (storeVar ty ⟨g, i, none⟩ (a.eval y)).run P w = .ok () (w.setCells g i [a.eval y]) := by
  cases hq : P.info? ty with
  | none => simp [hq] at hsz
  | some j =>
    have hs : j.size = 1 := by simpa [hq] using hsz
    simp only [Nat.add_zero] at this
    simp [storeVar, sizeOf, typeInfo, hq, hcl, hs, this]
 unfold Oper.wp execOp
 simp only [ho, hx, Instr.storeAt, Instr.sureAddr, Sem.run_bind, Sem.run_pure, Result.andThen_ok, hrun]
 exact h
end Go.Proofs.YtdenpfcgghangaaGreat

namespace Go.Proofs.YtdenpfcgghangaaGreat
open Go.RowKit
set_option maxRecDepth 100000
theorem wp_append_oneq {P : Program} {o : Oper} {a : Act} {w : World} {K : Act → World → Prop} {Q : Exit → Act → World → Prop} (s x : Operand) (t e : TypeId)
  (ho : o.op = .call { callee := .builtin .append, args := #[s, x], argTypes := #[t, t] }) (ht : P.underlying t = some (.slice e)) (k bytes : Nat) (he : ElTy P e k bytes) (hk : 0 < k)
  (base : Nat) (v : Value) (n : Nat) (xs cs : List Value) (hs : a.eval s = v) (hown : w.ownsRow base e k v n xs) (hbase : base ≤ w.heap.size) (hcl : cs.length = k) (h1 : ∀ u ∈ cs, u.oneCell' = true)
  (g : Nat) (t' : TypeId) (hx : a.eval x = .slice (some ⟨g, 0, none⟩) 1 1) (hb : Blk w g t' cs.toArray) (hn : n < 1000000) (hby : bytes ≤ 1000)
  (h : ∀ A c w', w'.ownsRow base e k (.slice A (n + 1) c) (n + 1) (xs ++ cs) → Fr v.ownBlock.toList w w' → ((Value.slice A (n + 1) c).ownBlock = v.ownBlock ∨ (Value.slice A (n + 1) c).ownBlock = some w.heap.size) → K (a.put o.dst (.slice A (n + 1) c)) w') : o.wp P a w K Q := by
 obtain ⟨i, z, hi, hz, hzs, hsz, hbs⟩ := he
 refine wp_append_lies w s x t ho base e i z k bytes ht hi hz hsz hbs hzs hk v n xs hs hown ⟨g, 0, none⟩ 1 1 cs hx (by omega) (fun j u hu => ?_) h1 (by omega) (by simp only [maxLen]; omega)
  (Nat.le_trans (Nat.mul_le_mul (show n + 1 ≤ 1000000 by omega) hby) (by decide)) hbase _ rfl (fun g' cap w' h2 h3 h4 _ => ?_)
 · have hadd : (⟨g, 0, none⟩ : Addr).add j = ⟨g, j, none⟩ := by unfold Addr.add; split <;> simp_all
   rw [hadd, hb.cell j]
   simpa using hu
 · exact h _ _ w' h2 ((Fr.refl _ w).grown h3 (fun y hy _ => by simp [hy])) (h4.imp (fun e => e.symm) (fun e => by rw [e]; rfl))
theorem till_stepQ {P : Program} {l : List Oper} {Q : Exit → Act → World → Prop} {md : Region.Mode} {T : Nat} {A B : World → Prop} {fuel : Nat} {L : Array Bool} {a : Act} {w : World} {i : Nat} {o : Oper} (hi : nthOp l i = some o) (hr : Region.ready md l.toArray L = [i]) (hw : Region.wanted o (yielded l.toArray a.tmps) = true)
  (h : ∀ K : Act → World → Prop, Shut (∀ a w, A w → B w → (A w → B w → wpTill P md l.toArray Q T A B fuel (L.setIfInBounds i true) a w) → K a w) → Oper.wp P o a w K Q) : wpTill P md l.toArray Q T A B (fuel + 1) L a w :=
 till_one hi hr hw (h _ (fun a w hA hB hW => ⟨⟨hA, fun _ => hB⟩, hW hA hB⟩))
theorem pRep_stop {α : Type} {p : Ps → α × Ps} (hp : (p ([], true)).2 = ([], true)) {s : Ps} {k : Nat} (h : (pRep p k s).2 = ([], true)) : ∀ d, (pRep p (k + d) s).2 = ([], true)
 | 0 => h
 | d + 1 => by
   show (p (pRep p (k + d) s).2).2 = ([], true)
   rw [pRep_stop hp h d]
   exact hp
theorem pSt_stop : (pSt ([], true)).2 = ([], true) := rfl
theorem built_ce0 (k : Wcm) (hh : k.h.length = 32) : Tryz.prog.built 35 [(0, .agg k.cells.toArray)] = some (Wce.cells ⟨k, none, 0, 0, []⟩).toArray := by
 have hz : zCe.size = 38 := rfl
 have hk : k.cells.length = 37 := Wcm.len hh
 rw [built_ceE, fill_step _ _ 0 0 37 _ _ rfl (by simp [Value.cells, hk]) (by rw [hz]; omega), Instr.fill]
 congr 2
 have tk : ∀ n, 32 ≤ n → (k.h.map by8).take n = k.h.map by8 := fun n hn => List.take_of_length_le (by simp [hh]; omega)
 have dk : ∀ n, 32 ≤ n → (k.h.map by8).drop n = [] := fun n hn => List.drop_of_length_le (by simp [hh]; omega)
 simp [splice, zCe, Wce.cells, Wcm.cells, Value.cells, hh, List.drop_append, List.take_append, tk, dk]
def QItem {α β : Type} (f : FuncId) (cells : α → List Value) (ok : World → List Nat → α → Prop) (con : α → β) (p : Ps → β × Ps) : Prop :=
 ∀ (w : World) (F : List Nat) (g : Nat) (s : Ps), Qs w F g s → Calls Tryz.prog f #[.pointer (some ⟨g, 0, none⟩)] w fun e w' => ∃ v : α, e = .returned (.agg (cells v).toArray) ∧ ((p s).2.2 = false → con v = (p s).1) ∧ (∀ S0 : List Nat, (∀ q ∈ S0, q < w.heap.size) → ok w' S0 v) ∧ Qs w' F g (p s).2 ∧ Fr [g] w w'
set_option maxHeartbeats 4000000 in
theorem qCert_any : QItem 46 Wce.cells (fun w S v => v.Li w S) Wce.con pCe := by
 intro w F g s hr
 obtain ⟨wa, hwa⟩ : ∃ wa, wa = w.alloc (Obj.cells zCe 35) := ⟨_, rfl⟩
 have hf0 : Fr [] w wa := by rw [hwa]; exact (Fr.refl [] w).alloc _
 have HB : Hid (Blk wa w.heap.size 35 zCe) := Lib.hid (by rw [hwa]; exact Blk.new _ _ _)
 have HR := Lib.hid (hr.fr hf0 (by simp) (by simp))
 have HFL : Hid (∀ k ∈ F, k < w.heap.size) := Lib.hid hr.lt
 have HG : Hid (g < w.heap.size) := Lib.hid hr.gt
 have HF0 := Lib.hid hf0
 have HWA := Lib.hid hwa
 clear hwa hf0 hr
 go_enter Tryz.func46, Tryz.ntmps46
 go_upto_region 1 with (fail)
 change Code.wp _ _ _ _ (w.alloc (Obj.cells zCe 35))
 rw [← HWA.out]
 go_wp2_with fail
 refine (qCommit_any HR.out).mono ?_
 rintro e_ w1 ⟨rfl, h1, h2⟩
 have HR1 := Lib.hid h1
 have HF1 : Hid (Fr [g] wa w1) := Lib.hid h2
 have HB1 := Lib.hid (HB.out.keep h2 (by have := HG.out; simp; omega))
 have HKO := Lib.hid (pCm_ok s)
 have HPC : Hid (pCe s = (((pCm s).1, (pL pSt (pCm s).2).1), (pL pSt (pCm s).2).2)) := Lib.hid rfl
 clear h1 h2
 generalize (pCm s).1 = km at *
 generalize (pCm s).2 = s0 at *
 have HBU := Lib.hid (built_ce0 km HKO.out.h)
 have HC0 : Hid ((Wce.cells ⟨km, none, 0, 0, []⟩).toArray.size = 38) := Lib.hid (by rw [List.size_toArray]; exact Wce.len HKO.out.h)
 have HC1 : Hid ((Wce.cells ⟨km, none, 0, 0, []⟩).toArray.all (·.oneCell') = true) := Lib.hid (all_oneCell_toArray (Wce.one _))
 have HCT : Hid ((Tryz.prog.info? 35).map (·.size) = some (Wce.cells ⟨km, none, 0, 0, []⟩).toArray.size) := Lib.hid (by rw [HC0.out]; kernel_rfl)
 obtain ⟨CV, hCV⟩ : ∃ CV, (Wce.cells ⟨km, none, 0, 0, []⟩).toArray = CV := ⟨_, rfl⟩
 rw [hCV] at HBU HC0 HC1 HCT
 have HCV := Lib.hid hCV
 clear hCV
 have HBN : Hid (Blk (w1.alloc (Obj.cells zCe 35)) w1.heap.size 35 zCe) := Lib.hid (Blk.new _ _ _)
 go_upto_region 2 with (first
  | (refine wpList_builtg rfl 35 _ rfl _ _ HBU.out rfl ?_)
  | (refine wpList_store_blk rfl 35 _ _ rfl w1.heap.size CV rfl rfl 35 zCe HBN.out HCT.out (by rw [HC0.out]; rfl) HC1.out ?_
     intro w2 hb hf
     have HX2 := Lib.hid hb
     have HF12 : Hid (Fr [] w1 w2) := Lib.hid (((Fr.refl [] w1).alloc _).and hf (by simp))
     clear hb hf))
 obtain ⟨gx, hgx⟩ : ∃ gx, gx = w1.heap.size := ⟨_, rfl⟩
 rw [← hgx] at HX2 ⊢
 have HGX : Hid (w.heap.size < gx ∧ gx < w2.heap.size ∧ w1.heap.size ≤ gx) := Lib.hid (by have h1 := HB.out.lt; have h2 := HF1.out.size; have h3 := HX2.out.lt; omega)
 have HR2 := Lib.hid (HR1.out.fr HF12.out (by simp) (by simp))
 have HB2 := Lib.hid (HB1.out.keep HF12.out (by simp))
 have HF2 : Hid (Fr [g] w w2) := Lib.hid (((HF0.out.mono (T := [g]) (by simp)).trans HF1.out (fun x hx _ => hx)).trans (HF12.out.mono (by simp)) (fun x hx _ => hx))
 rw [← HCV.out] at HX2
 clear hgx HBN HBU HC0 HC1 HCT HCV HF12 HF1 HF0 HR HR1 HB HB1 HWA
 go_wp2_with fail
 refine (qCount_any HR2.out).mono ?_
 rintro e_ w3 ⟨rfl, h1, h2⟩
 have HR3 := Lib.hid h1
 have HF3 : Hid (Fr [g] w2 w3) := Lib.hid h2
 have HX3 := Lib.hid (HX2.out.keep h2 (by have h1 := HGX.out; have h2 := HG.out; simp; omega))
 have HB3 := Lib.hid (HB2.out.keep h2 (by have h2 := HG.out; simp; omega))
 have HPL : Hid (pL pSt s0 = pRep pSt (pC s0).1 (pC s0).2) := Lib.hid rfl
 have hn := pC_le s0
 clear h1 h2
 generalize (pC s0).1 = n at *
 generalize (pC s0).2 = s1 at *
 have HN := Lib.hid hn
 clear hn HR2 HX2 HB2
 go_wp2_with fail
 go_loopw [5] (fun i wr => ∃ (k : Nat) (A : Option Addr) (c : Nat) (ys : List Wst), k ≤ n ∧ i = .int .i64 k ∧ Hid (ys = (pRep pSt k s1).1) ∧ Hid (ys.length = k) ∧ Hid (∀ y ∈ ys, y.Ok) ∧ Hid (Blk wr gx 35 (Wce.cells ⟨km, A, k, c, ys⟩).toArray) ∧ Hid (wr.ownsRow 0 32 38 (.slice A k c) k (ys.flatMap Wst.cells)) ∧ Hid (∀ q ∈ bk A, w3.heap.size ≤ q) ∧ Hid (Qs wr F g (pRep pSt k s1).2) ∧ Hid (Fr [g, gx] w3 wr)) (fun i _ => n - (intOf i).toNat)
 case atStart => exact ⟨0, none, 0, [], by omega, rfl, Lib.hid rfl, Lib.hid rfl, Lib.hid (by simp), HX3, Lib.hid ⟨by simp, .inl ⟨rfl, rfl⟩⟩, Lib.hid (by simp [bk]), HR3, Lib.hid (Fr.refl _ _)⟩
 case round =>
  obtain ⟨k, A4, c4, ys, hk, rfl, HYS, HYL, HYO, HX, HO, HNA, HQ, HF⟩ := hrel
  have hkS : (k : Int) + 1 ≤ 1000 := by have := HN.out; omega
  have hk0 : (0 : Int) ≤ k := by omega
  by_cases hlt : k < n
  · have HKN : Hid (k ≤ n) := Lib.hid (by omega)
    have HKL : Hid (k < n) := Lib.hid hlt
    obtain ⟨R, bd, hst⟩ : ∃ R bd, (pRep pSt k s1).2 = (R, bd) := ⟨_, _, rfl⟩
    have HST := Lib.hid hst
    rw [hst] at HQ
    obtain ⟨A', n', c', hA', hb', hy', hnc'⟩ := HQ.out.rd
    have hbc := hb'.cell 1
    simp at hbc
    clear hA' hb' hy' hnc' hst
    cases bd
    · have hkn : (k : Int) < n := by omega
      have HXC : Hid (wr.cell? ⟨gx, 37, none⟩ = some (.slice A4 k c4)) := Lib.hid (by
       have hl : km.cells.length = 37 := Wcm.len HKO.out.h
       have h := HX.out.range 37 (.slice A4 k c4) (by simp [Wce.cells, hl])
       simpa using h)
      have HNS : Hid (¬ gx ∈ g :: bk A4) := Lib.hid (by have h1 := HGX.out; have h2 := HG.out; have h3 := HF3.out.size; intro hm; rcases List.mem_cons.1 hm with h | h; omega; have := HNA.out _ h; omega)
      clear hlt
      go_upto_region 6 with (fail)
      clear hbc
      refine wp_region_till 7 (Fr (g :: gx :: bk A4) wr) (Fr (g :: bk A4) wr) (by kernel_rfl) (Fr.drew (Fr.refl _ wr)) (Fr.drew (Fr.refl _ wr)) (fun hA hB => ?_)
      have HWD : Hid (Fr [] wr wr.drew) := Lib.hid (Fr.drew (Fr.refl [] wr))
      have HQd := Lib.hid (HQ.out.fr (Fr.drew (Fr.refl [] wr)) (by simp) (by simp))
      generalize wr.drew = wd at *
      refine till_run (i := 0) (v := ?_) rfl (by kernel_rfl) (by rfl) (fun _ _ _ h => h) hA hB (fun w1 hw1 => ?_) ?_
      rotate_left 1
      · skip
        go_simp
        try first | with_reducible rfl | apply And.intro <;> rfl
      simp only [xPa, xPb, xPc, xPd, xPe]
      refine till_run (i := 1) (v := ?_) rfl (by kernel_rfl) (by rfl) (fun _ _ _ h => h) hA hB (fun w1 hw1 => ?_) ?_
      rotate_left 1
      · skip
        have hcw0 := hw1.cell (HXC.out) (by first | (simp; done) | exact HNS.out)
        go_simp
        try first | with_reducible rfl | apply And.intro <;> rfl
      simp only [xPa, xPb, xPc, xPd, xPe]
      refine till_run (i := 2) (v := ?_) rfl (by kernel_rfl) (by rfl) (fun _ _ _ h => h) hA hB (fun w1 hw1 => ?_) ?_
      rotate_left 1
      · skip
        go_simp
        try first | with_reducible rfl | apply And.intro <;> rfl
      simp only [xPa, xPb, xPc, xPd, xPe]
      refine till_call (i := 3) (f := ?_) (args := ?_) rfl (by kernel_rfl) (by rfl) ?_ ?_
      rotate_left 2
      · go_simp
        try first | with_reducible rfl | apply And.intro <;> rfl
      refine (qStamp_any HQd.out).mono ?_
      rintro e_ w5 ⟨rfl, h1, h2⟩
      have HQ5 := Lib.hid h1
      have HF5 : Hid (Fr [g] wr w5) := Lib.hid ((HWD.out.mono (T := [g]) (by simp)).trans h2 (fun x hx _ => hx))
      refine ⟨_, rfl, ⟨hA.trans h2 (fun x hx _ => by simp at hx; simp [hx]), hB.trans h2 (fun x hx _ => by simp at hx; simp [hx])⟩, fun hB => ?_⟩
      replace hA := hA.trans h2 (fun x hx _ => by simp at hx; simp [hx])
      clear h1 h2
      have HYK := Lib.hid (pSt_ok (R, false))
      have HPE : Hid (pRep pSt (k + 1) s1 = ((pRep pSt k s1).1 ++ [(pSt (R, false)).1], (pSt (R, false)).2)) := Lib.hid (by
       show ((pRep pSt k s1).1 ++ [(pSt (pRep pSt k s1).2).1], (pSt (pRep pSt k s1).2).2) = _
       rw [HST.out])
      generalize pSt (R, false) = pr at *
      obtain ⟨y, s5⟩ := pr
      have HD : Hid (y.cells.length = 38) := Lib.hid (Wst.len HYK.out.h)
      have HD1 := Lib.hid (Wst.one y)
      have HCY : Hid ((ys ++ [y]).flatMap Wst.cells = ys.flatMap Wst.cells ++ y.cells) := Lib.hid (by rw [List.flatMap_append, List.flatMap_singleton])
      have HO5 := Lib.hid (own_keep HO.out HF5.out (fun q hq hm => by rw [bk_mem] at hq; have h1 := HNA.out q hq; have h2 := HG.out; have h3 := HF3.out.size; have h4 := HF2.out.size; simp at hm; omega))
      have HX5 := Lib.hid (HX.out.keep HF5.out (by have h1 := HGX.out; have h2 := HG.out; simp; omega))
      obtain ⟨D, hD⟩ : ∃ D, y.cells = D := ⟨_, rfl⟩
      show wpTill _ _ _ _ _ _ _ _ _ _ _
      have hDy : y.cells.toArray = D.toArray := by rw [hD]
      simp only [] at *
      rw [hD] at HD HD1 HCY
      try rw [hD]
      clear hD hDy
      simp only [xPa, xPb, xPc, xPd, xPe]
      refine till_stepQ (i := 4) rfl (by kernel_rfl) (by rfl) (fun K hK => ?_)
      refine wp_build_one 33 32 _ rfl Tryz.underlying33 D 80 (by rw [HD.out]; exact el_stamp) rfl (by rw [HD.out]; decide) (by rw [HD.out]; decide) ?_
      refine hK.out _ _ (hA.alloc _) (hB.alloc _) (fun hA hB => ?_)
      clear hK K
      simp only [xPa, xPb, xPc, xPd, xPe]
      refine till_stepQ (i := 5) rfl (by kernel_rfl) (by rfl) (fun K hK => ?_)
      refine wp_append_oneq _ _ 33 32 rfl Tryz.underlying33 38 80 el_stamp (by decide) 0 (.slice A4 k c4) k _ D rfl (HO5.out.alloc _) (Nat.zero_le _) HD.out HD1.out w5.heap.size 32 rfl (Blk.new _ _ _) (by have := HKL.out; have := HN.out; omega) (by decide) ?_
      intro A9 c9 w9 ho9 hf9 hb9
      rw [bk_own] at hf9
      have HF9 : Hid (Fr (bk A4) w5 w9) := Lib.hid ((((Fr.refl [] w5).alloc _).mono (by simp)).trans hf9 (fun x hx _ => hx))
      have HA9 : Hid (∀ q ∈ bk A9, w3.heap.size ≤ q) := Lib.hid (by
       intro q hq
       rw [← bk_own A9 (k + 1) c9] at hq
       rcases hb9 with h | h
       · rw [h, bk_own] at hq; exact HNA.out q hq
       · rw [h] at hq; simp at hq; have h1 := HF.out.size; have h2 := HF5.out.size; omega)
      have HO9 := Lib.hid ho9
      refine hK.out _ _ (hA.trans hf9 (fun x hx _ => by simp [hx])) (hB.trans hf9 (fun x hx _ => by simp [hx])) (fun hA hB => ?_)
      clear hK K ho9 hf9 hb9
      have HX9 := Lib.hid (HX5.out.keep HF9.out (fun hm => HNS.out (by simp [hm])))
      simp only [xPa, xPb, xPc, xPd, xPe]
      refine till_stepQ (i := 6) rfl (by kernel_rfl) (by rfl) (fun K hK => ?_)
      refine wp_run (v := ?_) (w' := ?_) ?_ ?_
      rotate_left 2
      · go_simp
        try first | with_reducible rfl | apply And.intro <;> rfl
      refine hK.out _ _ hA hB (fun hA hB => ?_)
      clear hK K
      simp only [xPa, xPb, xPc, xPd, xPe]
      have HKC : Hid (km.cells.length = 37) := Lib.hid (Wcm.len HKO.out.h)
      refine till_step (i := 7) rfl (by kernel_rfl) (by kernel_rfl) (by rfl) (fun K hK => ?_)
      refine wp_store_at 33 _ _ rfl gx 37 (.slice A9 (k + 1) c9) rfl rfl rfl 35 _ HX9.out (by simp [Wce.cells, HKC.out]) (by kernel_rfl) ?_
      have hb7 : Blk (w9.setCells gx 37 [.slice A9 (k + 1) c9]) gx 35 (Wce.cells ⟨km, A9, k + 1, c9, ys ++ [y]⟩).toArray := Blk.mid_at [.slice A9 (k + 1) c9] [.slice A4 k c4] km.cells [] 37 HKC.out rfl _ _ rfl rfl HX9.out
      have HB7 := Lib.hid hb7
      have HF7 : Hid (Fr [gx] w9 (w9.setCells gx 37 [.slice A9 (k + 1) c9])) := Lib.hid (Fr.setCells (fun _ => by simp) _ _ _ (Fr.refl _ _))
      refine hK.out _ _ (hA.trans HF7.out (fun q hq _ => by simp at hq; simp [hq])) (fun hA => ?_)
      clear hK K hb7
      generalize w9.setCells gx 37 [.slice A9 (k + 1) c9] = w10 at *
      simp only [xPa, xPb, xPc, xPd, xPe]
      refine till_done (by kernel_rfl) ?_ _
      have HFF : Hid (Fr [g, gx] w3 w10) := Lib.hid (HF.out.trans hA (fun x hx hl => by
       rcases List.mem_cons.1 hx with h | hx
       · simp [h]
       · rcases List.mem_cons.1 hx with h | hx
         · simp [h]
         · have := HNA.out x hx; omega))
      have HO10 := Lib.hid (own_keep HO9.out HF7.out (fun q hq hm => by rw [bk_mem] at hq; have h1 := HA9.out q hq; have h2 := HGX.out; have h3 := HF3.out.size; simp at hm; omega))
      have HQ10 := Lib.hid ((HQ5.out.fr HF9.out (fun hm => by have h1 := HNA.out _ hm; have h2 := HG.out; have h3 := HF3.out.size; have h4 := HF2.out.size; omega) (fun q hq hm => by have h1 := HNA.out q hm; have h2 := HFL.out q hq; have h3 := HF3.out.size; have h4 := HF2.out.size; omega)).fr HF7.out (by have h1 := HGX.out; have h2 := HG.out; simp; omega) (fun q hq hm => by have h1 := HGX.out; have h2 := HFL.out q hq; simp at hm; omega))
      clear hA
      go_wp2
      go_roundw
      case rel =>
       refine ⟨k + 1, A9, c9, ys ++ [y], by have := HKL.out; omega, by go_num, Lib.hid (by rw [HPE.out, HYS.out]), Lib.hid (by rw [List.length_append, HYL.out]; rfl), Lib.hid (fun u hu => ?_), HB7, Lib.hid (by rw [HCY.out]; exact HO10.out), HA9, Lib.hid (by rw [HPE.out]; exact HQ10.out), HFF⟩
       rcases List.mem_append.1 hu with h | h
       · exact HYO.out u h
       · rw [List.mem_singleton.1 h]; exact HYK.out
      case measure => have := HKL.out; simp [intOf]; omega
    · skip
      clear hlt
      have HBW := Lib.hid (HB3.out.keep HF.out (by have h1 := HGX.out; have h2 := HG.out; simp; omega))
      have HVL : Hid ((Wce.cells ⟨km, A4, k, c4, ys⟩).length = 38) := Lib.hid (Wce.len HKO.out.h)
      have HVO : Hid ((Wce.cells ⟨km, A4, k, c4, ys⟩).toArray.all (·.oneCell') = true) := Lib.hid (all_oneCell_toArray (Wce.one _))
      obtain ⟨V, hV⟩ : ∃ V, Wce.cells ⟨km, A4, k, c4, ys⟩ = V := ⟨_, rfl⟩
      rw [hV] at HVL HVO HX
      have HVV := Lib.hid hV
      clear hV
      have HVT : Hid ((Tryz.prog.info? 35).map (·.size) = some V.toArray.size) := Lib.hid (by rw [List.size_toArray, HVL.out]; kernel_rfl)
      go_wp2_with (first
       | (refine wpList_row rfl 35 _ rfl _ _ rfl _ HX.out.range (row_crt.of HVL.out) ?_)
       | (refine wpList_store_blk rfl 35 _ _ rfl w.heap.size V.toArray rfl rfl 35 zCe HBW.out HVT.out (by simp only [List.size_toArray]; rw [HVL.out]; rfl) HVO.out ?_
          intro w9 hb hf
          have HB9 := Lib.hid hb
          have HF9 := Lib.hid hf
          clear hb hf))
      refine bodyPost_ret (v := .agg V.toArray) (results_cell_row Tryz.results46 _ _ w.heap.size 35 V.toArray _ _ rfl HB9.out Tryz.underlying35 rfl HVT.out) rfl ⟨⟨km, A4, k, c4, ys⟩, by rw [HVV.out], ?_, fun S0 h0 => ?_, ?_, ?_⟩
      · rw [HPC.out]
        intro hbad
        exfalso
        have h := HQ.out.bz rfl
        have h2 := HST.out
        have h3 : R = [] := h
        rw [h3] at h2
        have h4 := pRep_stop pSt_stop h2 (n - k)
        rw [show k + (n - k) = n by have := HKL.out; omega, ← HPL.out] at h4
        have h5 : (pL pSt s0).2.2 = true := by rw [h4]
        have h6 : (pL pSt s0).2.2 = false := hbad
        rw [h5] at h6
        cases h6
      · have hsz3 : w.heap.size ≤ w3.heap.size := Nat.le_trans HF2.out.size HF3.out.size
        exact ⟨HKO.out, Lst.of_own (own_keep HO.out HF9.out (fun q hq hm => by rw [bk_mem] at hq; have h1 := HNA.out q hq; have h2 := HB3.out.lt; simp at hm; omega)) HYL.out (fun v hv => ⟨Wst.len (HYO.out v hv).h, HYO.out v hv⟩), by have := HN.out; have := HKN.out; show k ≤ 100; omega, fun _ a ha hin => by
         have ha : A4 = some a := ha
         have h1 := HNA.out a.block (by rw [ha]; simp [bk])
         have h2 := h0 _ hin
         omega⟩
      · rw [HPC.out]
        show Qs w9 F g (pL pSt s0).2
        have h2 := HST.out
        have h3 : R = [] := HQ.out.bz rfl
        rw [h3] at h2
        have h4 := pRep_stop pSt_stop h2 (n - k)
        rw [show k + (n - k) = n by have := HKL.out; omega, ← HPL.out] at h4
        rw [h4, ← h3]
        exact HQ.out.fr HF9.out (by have := HG.out; simp; omega) (fun q hq hm => by have := HFL.out q hq; simp at hm; omega)
      · exact ((HF2.out.trans HF3.out (fun x hx _ => hx)).trans HF.out (fun x hx hl => by have h1 := HGX.out; simp at hx; simp; omega)).trans HF9.out (fun x hx hl => by simp at hx; omega)
  · have hkn : n = k := by omega
    subst hkn
    have HKN : Hid (n ≤ n) := Lib.hid (Nat.le_refl _)
    clear hlt hk
    have HBW := Lib.hid (HB3.out.keep HF.out (by have h1 := HGX.out; have h2 := HG.out; simp; omega))
    have HVL : Hid ((Wce.cells ⟨km, A4, n, c4, ys⟩).length = 38) := Lib.hid (Wce.len HKO.out.h)
    have HVO : Hid ((Wce.cells ⟨km, A4, n, c4, ys⟩).toArray.all (·.oneCell') = true) := Lib.hid (all_oneCell_toArray (Wce.one _))
    obtain ⟨V, hV⟩ : ∃ V, Wce.cells ⟨km, A4, n, c4, ys⟩ = V := ⟨_, rfl⟩
    rw [hV] at HVL HVO HX
    have HVV := Lib.hid hV
    clear hV
    have HVT : Hid ((Tryz.prog.info? 35).map (·.size) = some V.toArray.size) := Lib.hid (by rw [List.size_toArray, HVL.out]; kernel_rfl)
    go_wp2_with (first
     | (refine wpList_row rfl 35 _ rfl _ _ rfl _ HX.out.range (row_crt.of HVL.out) ?_)
     | (refine wpList_store_blk rfl 35 _ _ rfl w.heap.size V.toArray rfl rfl 35 zCe HBW.out HVT.out (by simp only [List.size_toArray]; rw [HVL.out]; rfl) HVO.out ?_
        intro w9 hb hf
        have HB9 := Lib.hid hb
        have HF9 := Lib.hid hf
        clear hb hf))
    refine bodyPost_ret (v := .agg V.toArray) (results_cell_row Tryz.results46 _ _ w.heap.size 35 V.toArray _ _ rfl HB9.out Tryz.underlying35 rfl HVT.out) rfl ⟨⟨km, A4, n, c4, ys⟩, by rw [HVV.out], ?_, fun S0 h0 => ?_, ?_, ?_⟩
    · rw [HPC.out]
      intro hbad
      unfold Wce.con
      rw [HYS.out, HPL.out]
    · have hsz3 : w.heap.size ≤ w3.heap.size := Nat.le_trans HF2.out.size HF3.out.size
      exact ⟨HKO.out, Lst.of_own (own_keep HO.out HF9.out (fun q hq hm => by rw [bk_mem] at hq; have h1 := HNA.out q hq; have h2 := HB3.out.lt; simp at hm; omega)) HYL.out (fun v hv => ⟨Wst.len (HYO.out v hv).h, HYO.out v hv⟩), by have := HN.out; have := HKN.out; show n ≤ 100; omega, fun _ a ha hin => by
       have ha : A4 = some a := ha
       have h1 := HNA.out a.block (by rw [ha]; simp [bk])
       have h2 := h0 _ hin
       omega⟩
    · rw [HPC.out]
      show Qs w9 F g (pL pSt s0).2
      rw [HPL.out]
      exact HQ.out.fr HF9.out (by have := HG.out; simp; omega) (fun q hq hm => by have := HFL.out q hq; simp at hm; omega)
    · exact ((HF2.out.trans HF3.out (fun x hx _ => hx)).trans HF.out (fun x hx hl => by have h1 := HGX.out; simp at hx; simp; omega)).trans HF9.out (fun x hx hl => by simp at hx; omega)
end Go.Proofs.YtdenpfcgghangaaGreat
