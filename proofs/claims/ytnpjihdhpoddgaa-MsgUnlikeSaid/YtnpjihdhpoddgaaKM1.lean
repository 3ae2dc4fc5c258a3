/- Texts that the proof stands on: Package commit: Make. | A slice literal of one struct or array; an append of one onto a slice that the call owns. | Package part: lists of parts, and the parts that have lists: what each writes. | Package part: commitments, certificates, promises as values; what their writers write. | Package part: what its readers take off bytes. (written by gen_rp.py) | Names, configurations and commitments that come in: what their reading says of cells. | Commitments that come in: what their reading says of cells. | Stamps, acks, votes, denials, signatures that come in: what their reading says of cells. | Package part: promises as values; what their writers write; what is signed of one. | Package part: openings, tombstones, batches as values; what their writers write. | Package part: batches as values; what their writer writes. | Package wire: a batch's hash; what is signed of a promise, of a proposal. | Copies of lists of structs: gavelkeep's Copy and Cut of stamps. | The statements' own Cert and Promise: small enough to be played. | Commitments, stamps, denials, certificates, promises that come in: what their reading says of cells. | gavellaw05's Batch: a batch that is small enough to be played. (written by gen_cutb.py) -/
import Derived.Test.YtnpjihdhpoddgaaCm4
import Derived.IntWalk
import Derived.Test.YtnpjihdhpoddgaaLst
import Derived.Great.BuildSlice
import Derived.Deep.AppendLies
import Derived.Test.YtnpjihdhpoddgaaPut
import Derived.Test.YtnpjihdhpoddgaaRead
import Derived.Test.YtnpjihdhpoddgaaReg2
import Derived.Test.YtnpjihdhpoddgaaCm3
import Derived.Test.YtnpjihdhpoddgaaActs
import Derived.Test.YtnpjihdhpoddgaaOpen
import Derived.Test.YtnpjihdhpoddgaaWd
import Derived.Test.YtnpjihdhpoddgaaShaQ
set_option maxRecDepth 100000

namespace Go.Proofs.Ytnpjihdhpoddgaa
open Go.RowKit
set_option maxRecDepth 100000

/-! ### a struct is built of parts -/
def splice (l : List Value) (o : Nat) (v : List Value) : List Value := l.take o ++ (v ++ l.drop (o + v.length))
theorem splice_foldl : ∀ (v : List Value) (k o : Nat) (cs : Array Value), o + k + v.length ≤ cs.size →
    (v.zipIdx k).foldl (fun cs (c, j) => cs.setIfInBounds (o + j) c) cs = (splice cs.toList (o + k) v).toArray
  | [], k, o, cs, _ => by
    simp [splice]
  | c :: r, k, o, cs, h => by
    simp only [List.length_cons] at h
    rw [List.zipIdx_cons, List.foldl_cons, splice_foldl r (k + 1) o _ (by simp; omega)]
    congr 1
    unfold splice
    simp only [Array.toList_setIfInBounds, List.length_cons]
    have h1 : o + k < cs.toList.length := by simp; omega
    rw [show o + (k + 1) = (o + k) + 1 by omega, List.take_add_one, List.take_set_of_le (Nat.le_refl _), List.getElem?_set_self h1, List.drop_set_of_lt (by omega)]
    simp [Nat.add_assoc, Nat.add_comm, Nat.add_left_comm]
theorem fill_step (place : Nat → Option (Nat × Nat)) (cells : Array Value) (i off size : Nat) (v : Value) (rest : List (Nat × Value)) (hp : place i = some (off, size)) (h1 : v.cells.size = size) (h2 : off + size ≤ cells.size) :
    Instr.fill place cells ((i, v) :: rest) = Instr.fill place (splice cells.toList off v.cells.toList).toArray rest := by
  rw [Instr.fill, hp]
  simp only [h1]
  rw [if_neg (by simp; omega)]
  congr 1
  have e := splice_foldl v.cells.toList 0 off cells (by simp [h1]; omega)
  rw [Nat.add_zero] at e
  rw [← e, ← Array.foldl_toList, Array.toList_zipIdx]

def zeroCm : Array Value := (Cm.cells ⟨0, 0, List.replicate 32 0, 0, 0, 0⟩).toArray
def places : List (Nat × Nat) := [(0, 2), (2, 32), (34, 1), (35, 2)]
theorem built_eq (parts : List (Nat × Value)) : Try.prog.built 29 parts = Instr.fill (places.toArray[·]?) zeroCm parts := by kernel_rfl
theorem built_commit (c s n : Int) (h : List UInt8) (hh : h.length = 32) :
    Try.prog.built 29 [(0, .agg #[.int .i64 c, .int .i64 s]), (1, .agg (h.map by8).toArray), (2, .int .i64 n)] = some (Cm.cells ⟨c, s, h, n, 0, 0⟩).toArray := by
  have hz : zeroCm.size = 37 := rfl
  rw [built_eq, fill_step _ _ 0 0 2 _ _ rfl rfl (by rw [hz]; omega), fill_step _ _ 1 2 32 _ _ rfl (by simp [Value.cells, hh]) (by simp [splice, zeroCm, Cm.cells, Value.cells]),
    fill_step _ _ 2 34 1 _ _ rfl rfl (by simp [splice, zeroCm, Cm.cells, Value.cells, hh]), Instr.fill]
  congr 2
  simp [splice, zeroCm, Cm.cells, Value.cells, hh, List.drop_append]

theorem cells_sig (c s n b m b' m' : Int) (h : List UInt8) (hh : h.length = 32) : (((Cm.cells ⟨c, s, h, n, b, m⟩).toArray.setIfInBounds 35 (.int .i64 b')).setIfInBounds 36 (.int .i64 m')) = (Cm.cells ⟨c, s, h, n, b', m'⟩).toArray := by
  simp [Cm.cells, List.set_append, hh]
theorem setCells_two (w : World) (g o : Nat) (x y : Value) : w.setCells g o [x, y] = (w.setCell ⟨g, o, none⟩ x).setCell ⟨g, o + 1, none⟩ y := rfl
theorem Blk.there {w : World} {g : Nat} {t : TypeId} {cs : Array Value} (h : Blk w g t cs) (o n : Nat) (hl : o + n ≤ cs.size) : w.there g o n := fun j hj => by
  refine ⟨?_, h.frozen _⟩
  rw [h.cell, Array.getElem?_eq_getElem (by omega)]
  rfl
/-- what Make makes, its signature aside -/
def made0 (c s : Int) (h b : List UInt8) : Cm := ⟨c, s, sumL (ofL c s h b), b.length, 0, 0⟩
def made (c s : Int) (h b : List UInt8) (l : List Ent) : Cm :=
  ⟨c, s, sumL (ofL c s h b), b.length, 1000 + c, mrk (sgn l (1000 + c, (made0 c s h b).text)) (1000 + c, (made0 c s h b).text)⟩
theorem made_text (c s : Int) (h b : List UInt8) (l : List Ent) : (made c s h b l).text = (made0 c s h b).text := rfl

end Go.Proofs.Ytnpjihdhpoddgaa

namespace Go.Proofs.Ytnpjihdhpoddgaa
open Go.RowKit
set_option maxRecDepth 100000
/-- what a type's table says of an element's size -/
def ElTy (P : Program) (e : TypeId) (k bytes : Nat) : Prop := ∃ i z, P.info? e = some i ∧ i.zero = some z ∧ z.cells.size = k ∧ i.size = k ∧ i.bytes = bytes
theorem ElTy.of {P : Program} {e : TypeId} {k bytes : Nat} (h : (P.info? e).map (fun i => (i.zero.map (·.cells.size), i.size, i.bytes)) = some (some k, k, bytes)) : ElTy P e k bytes := by
  cases hi : P.info? e with
  | none => rw [hi] at h; cases h
  | some i =>
    rw [hi] at h
    simp only [Option.map_some, Option.some.injEq, Prod.mk.injEq] at h
    cases hz : i.zero with
    | none => rw [hz] at h; simp at h
    | some z =>
      rw [hz] at h
      exact ⟨i, z, hi, hz, by simpa using h.1, h.2.1, h.2.2⟩
theorem wp_build_one {P : Program} {o : Oper} {a : Act} {w : World} {K : Act → World → Prop} {Q : Exit → Act → World → Prop} (t e : TypeId) (y : Operand) (ho : o.op = .buildSlice t 1 #[(0, y)]) (hu : P.underlying t = some (.slice e))
    (cs : List Value) (bytes : Nat) (he : ElTy P e cs.length bytes) (hy : a.eval y = .agg cs.toArray) (h0 : 0 < cs.length) (h1 : cs.length ≤ 1000)
    (h : K (a.put o.dst (.slice (some ⟨w.heap.size, 0, none⟩) 1 1)) (w.alloc (.cells cs.toArray e))) : o.wp P a w K Q := by
  obtain ⟨i, z, hi, hz, hzs, hs, _⟩ := he
  refine wp_buildSlice t e 1 _ ho cs.toArray i z hu hi hz (by rw [hs]; omega) (by rw [hs]; omega) ?_ h
  have hl : ((Array.range (1 * i.size)).map (z.cells[· % z.cells.size]!)).size = cs.length := by simp [hs]
  generalize (Array.range (1 * i.size)).map (z.cells[· % z.cells.size]!) = Z at *
  have e1 : (#[(0, y)].map fun (i, x) => (i, a.eval x)).toList = [(0, .agg cs.toArray)] := by simp [hy]
  rw [e1, fill_step _ _ 0 0 cs.length _ _ (by simp [hs]) (by simp [Value.cells]) (by omega), Instr.fill]
  congr 1
  have hd : Z.toList.drop cs.length = [] := List.drop_eq_nil_of_le (by simp [hl])
  simp [splice, Value.cells, hd]
theorem wpList_build_one {P : Program} {ops : Array Oper} {rest : List Oper} {o : Oper} {a : Act} {w : World} {Q : Exit → Act → World → Prop} (hg : o.guard = none) (t e : TypeId) (y : Operand) (ho : o.op = .buildSlice t 1 #[(0, y)]) (hu : P.underlying t = some (.slice e))
    (cs : List Value) (bytes : Nat) (he : ElTy P e cs.length bytes) (hy : a.eval y = .agg cs.toArray) (h0 : 0 < cs.length) (h1 : cs.length ≤ 1000)
    (h : wpList P ops Q rest (a.put o.dst (.slice (some ⟨w.heap.size, 0, none⟩) 1 1)) (w.alloc (.cells cs.toArray e))) : wpList P ops Q (o :: rest) a w :=
  wpList_plain hg fun _ hK => wp_build_one t e y ho hu cs bytes he hy h0 h1 (hK _ _ h)
/-- one more thing behind a slice that the call owns, out of the block that was made for it just now -/
theorem wpList_append_one {P : Program} {ops : Array Oper} {rest : List Oper} {o : Oper} {a : Act} {w : World} {Q : Exit → Act → World → Prop} (hg : o.guard = none) (s x : Operand) (t e : TypeId)
    (ho : o.op = .call { callee := .builtin .append, args := #[s, x], argTypes := #[t, t] }) (ht : P.underlying t = some (.slice e)) (k bytes : Nat) (he : ElTy P e k bytes) (hk : 0 < k)
    (base : Nat) (v : Value) (n : Nat) (xs cs : List Value) (hs : a.eval s = v) (hown : w.ownsRow base e k v n xs) (hbase : base ≤ w.heap.size) (hcl : cs.length = k) (h1 : ∀ u ∈ cs, u.oneCell' = true)
    (g : Nat) (t' : TypeId) (hx : a.eval x = .slice (some ⟨g, 0, none⟩) 1 1) (hb : Blk w g t' cs.toArray) (hn : n < 1000000) (hby : bytes ≤ 1000)
    (h : ∀ A c w', w'.ownsRow base e k (.slice A (n + 1) c) (n + 1) (xs ++ cs) → Fr v.ownBlock.toList w w' → wpList P ops Q rest (a.put o.dst (.slice A (n + 1) c)) w') : wpList P ops Q (o :: rest) a w := by
  obtain ⟨i, z, hi, hz, hzs, hsz, hbs⟩ := he
  refine wpList_append_lies w hg s x t ho base e i z k bytes ht hi hz hsz hbs hzs hk v n xs hs hown ⟨g, 0, none⟩ 1 1 cs hx (by omega) (fun j u hu => ?_) h1 (by omega) (by simp only [maxLen]; omega)
    (Nat.le_trans (Nat.mul_le_mul (show n + 1 ≤ 1000000 by omega) hby) (by decide)) hbase _ rfl (fun g' cap w' h2 h3 _ _ => ?_)
  · have hadd : (⟨g, 0, none⟩ : Addr).add j = ⟨g, j, none⟩ := by unfold Addr.add; split <;> simp_all
    rw [hadd, hb.cell j]
    simpa using hu
  · exact h _ _ w' h2 ((Fr.refl _ w).grown h3 (fun y hy _ => by simp [hy]))
end Go.Proofs.Ytnpjihdhpoddgaa

namespace Go.Proofs.Ytnpjihdhpoddgaa
open Go.RowKit
set_option maxRecDepth 100000

def fnV (f : FuncId) : Value := .func (.func f) #[] #[]
/-- a list's bytes: how many, then each -/
theorem flat_len {α : Type} {full : α → List UInt8} {N : Nat} : ∀ {l : List α} {k : Nat}, (∀ v ∈ l, (full v).length ≤ N) → l.length ≤ k → (l.flatMap full).length ≤ k * N
  | [], _, _, _ => by simp
  | v :: l, 0, _, h => by simp at h
  | v :: l, k + 1, hf, h => by
    rw [List.flatMap_cons, List.length_append, Nat.succ_mul]
    have h1 := hf v (by simp)
    have h2 := flat_len (l := l) (k := k) (fun u hu => hf u (by simp [hu])) (by simp at h; omega)
    omega
theorem Gr.calls {P : Program} {f : FuncId} {args : Array Value} {w w1 : World} {S : List Nat} {g : Nat} {l l' : List UInt8} {v : Value} (h : Gr w S g l w1)
    (hc : ∀ S1, Wr w1 S1 g l → Fr S w w1 → (∀ x ∈ S1, x < w.heap.size → x ∈ S) → Calls P f args w1 fun e w' => e = .returned v ∧ Gr w1 S1 g l' w') : Calls P f args w1 fun e w' => e = .returned v ∧ Gr w S g l' w' := by
  obtain ⟨S1, h1, h2, h3⟩ := h
  refine (hc S1 h1 h2 h3).mono ?_
  rintro e w' ⟨rfl, S2, k1, k2, k3⟩
  exact ⟨rfl, S2, k1, h2.trans k2 h3, fun x hx hl => h3 x (k3 x hx (Nat.lt_of_lt_of_le hl h2.size)) hl⟩
theorem Lst.keep' {α : Type} {k : Nat} {cells : α → List Value} {ok ok' : World → α → Prop} {w w' : World} {A : Option Addr} {n : Nat} {l : List α} {S : List Nat} (h : Lst k cells ok w A n l) (hf : Fr S w w') (hA : 0 < n → ∀ a, A = some a → ¬ a.block ∈ S) (hok : ∀ v ∈ l, ok w v → ok' w' v) : Lst k cells ok' w' A n l :=
  ⟨h.1, fun v hv => ⟨(h.2.1 v hv).1, hok v hv (h.2.1 v hv).2⟩, fun hn => by
    obtain ⟨ad, e, hc⟩ := h.2.2 hn
    exact ⟨ad, e, fun i v hv j x hx => hf.cell (hc i v hv j x hx) (by rw [add_block]; exact hA hn ad e)⟩⟩
theorem Lst.lt {α : Type} {k : Nat} {cells : α → List Value} {ok : World → α → Prop} {w : World} {A : Option Addr} {n : Nat} {l : List α} (h : Lst k cells ok w A n l) (hn : 0 < n) (hk : 0 < k) (hlen : ∀ v ∈ l, (cells v).length = k) (a : Addr) (ha : A = some a) : a.block < w.heap.size := by
  obtain ⟨ad, e, hc⟩ := h.2.2 hn
  have h1 : 0 < l.length := by rw [h.1]; exact hn
  have hv := List.getElem?_eq_getElem h1
  have h2 : 0 < (cells l[0]).length := by rw [hlen _ (List.mem_of_getElem? hv)]; exact hk
  have := hc 0 _ hv 0 _ (List.getElem?_eq_getElem h2)
  have h3 := World.block_lt_of_cell? _ _ this
  rw [add_block] at h3
  rw [ha] at e
  injection e with e
  rw [e]
  exact h3
def listL {α : Type} (full : α → List UInt8) (l : List α) : List UInt8 := encI (l.length : Int) ++ l.flatMap full

set_option maxHeartbeats 2000000 in
theorem putStamps_any {α : Type} (cells : α → List Value) (ok : World → List Nat → α → Prop) (full : α → List UInt8) (N : Nat) (hone : ∀ v, ∀ u ∈ cells v, u.oneCell' = true) (hsz : (Try.prog.info? 32).map (·.size) = some 38)
    (hfull : ∀ W S v, ok W S v → (full v).length ≤ N)
    (hput : ∀ (v : α) (W : World) (S : List Nat) (g : Nat) (l : List UInt8), ok W S v → Wr W S g l → l.length + N ≤ 1073741000 → Calls Try.prog 23 #[.pointer (some ⟨g, 0, none⟩), .agg (cells v).toArray] W fun e w' => e = .returned (.pointer (some ⟨g, 0, none⟩)) ∧ Gr W S g (l ++ full v) w')
    (w : World) (S : List Nat) (g : Nat) (l : List UInt8) (hw : Wr w S g l) (A : Option Addr) (n c : Nat) (xs : List α) (hx : Lst 38 cells (fun w v => ok w S v) w A n xs) (hn : n ≤ 1000) (hA : 0 < n → ∀ a, A = some a → ¬ a.block ∈ S)
    (hkeep : ∀ W S', Fr S w W → (∀ x ∈ S', x < w.heap.size → x ∈ S) → ∀ v ∈ xs, ok w S v → ok W S' v) (hl : l.length + 20 + (n + 1) * N ≤ 1073741000) :
    Calls Try.prog 48 #[.pointer (some ⟨g, 0, none⟩), fnV 23, .slice A n c] w fun e w' => e = .returned (.pointer (some ⟨g, 0, none⟩)) ∧ Gr w S g (l ++ listL full xs) w' := by
  have HG0 := Lib.hid (Gr.refl hw)
  have HX := Lib.hid hx
  have HA := Lib.hid hA
  have HL := Lib.hid hl
  have HKP := Lib.hid hkeep
  have HSL := Lib.hid hw.lt
  have hxn := hx.1
  clear hw hx hA hl hkeep
  unfold fnV
  go_enter Try.func48, Try.ntmps48
  go_wp2_with fail
  refine (HG0.out.call fun S1 k1 => int_any (n : Int) (by omega) (by omega) _ S1 g _ k1 (by have := HL.out; omega)).mono ?_
  rintro e w1 ⟨rfl, hg1⟩
  have HG1 := Lib.hid hg1
  clear hg1 HG0
  go_wp2_with fail
  go_loopw [15] (fun i wr => ∃ k : Nat, k ≤ n ∧ i = .int .i64 k ∧ Gr w S g (l ++ encI (n : Int) ++ (xs.take k).flatMap full) wr) (fun i _ => n - (intOf i).toNat)
  case atStart => exact ⟨0, by omega, rfl, by simpa using HG1.out⟩
  case round =>
    obtain ⟨k, hk, rfl, hg⟩ := hrel
    have HG := Lib.hid hg
    clear hg
    by_cases hlt : k < n
    · obtain ⟨ad, v, rfl, hv, hcl, hok, hc⟩ := HX.out.at hlt
      have HV := Lib.hid hv
      have HCL := Lib.hid hcl
      have HOK := Lib.hid hok
      have HMEM := Lib.hid (List.mem_of_getElem? hv)
      have HC := Lib.hid (fun j x hj => HG.out.fr.cell (hc j x hj) (by rw [add_block, add_block]; exact HA.out (by omega) ad rfl))
      have HONE := Lib.hid (hone v)
      have HPUT := Lib.hid (hput v)
      have hk0 : (0 : Int) ≤ k := by omega
      have hlen : ((xs.take k).flatMap full).length ≤ k * N := flat_len (fun v hv => hfull w S v (HX.out.2.1 v (List.mem_of_mem_take hv)).2) (by rw [List.length_take]; omega)
      have hkn2 : k * N + N ≤ (n + 1) * N := by rw [← Nat.succ_mul]; exact Nat.mul_le_mul_right N (by omega)
      have HLEN : Hid ((l ++ encI (n : Int) ++ (xs.take k).flatMap full).length + N ≤ 1073741000) := Lib.hid (by have := HL.out; have := encI_len (n : Int) (by omega); simp only [List.length_append]; omega)
      have HTK : Hid ((xs.take (k + 1)).flatMap full = (xs.take k).flatMap full ++ full v) := Lib.hid (by rw [List.take_add_one, hv]; simp)
      have HFV := Lib.hid (rfl : cells v = cells v)
      clear hv hcl hok hc hlen hkn2
      generalize hcv : cells v = C at *
      go_wp2_with (first
        | (refine wpList_cells rfl 32 _ rfl _ rfl C HC.out (row_stamp.of HCL.out) ?_)
        | (refine wpList_store_box rfl 32 _ _ rfl _ 32 C rfl rfl (by rw [hsz, HCL.out]) (by rw [HCL.out]; rfl) HONE.out ?_
           intro wb hbb hfb
           have HBB := Lib.hid hbb
           have HFB := Lib.hid hfb
           clear hbb hfb)
        | (refine wpList_row rfl 32 _ rfl _ _ rfl _ HBB.out.range (row_stamp.of HCL.out) ?_))
      have HGB := Lib.hid (HG.out.trans (fun S1 k => ⟨S1, k.keep HFB.out (by simp), HFB.out.mono (by simp), fun x hx _ => hx⟩))
      refine (HGB.out.calls fun S1 k1 f1 s1 => HPUT.out _ S1 g _ (HKP.out wb S1 f1 s1 v HMEM.out HOK.out) k1 HLEN.out).mono ?_
      rintro e w2 ⟨rfl, hg2⟩
      have HG2 := Lib.hid hg2
      clear hg2
      go_wp2
      exact ⟨⟨k + 1, by omega, rfl, HG2.out.eq (by rw [HTK.out, List.append_assoc])⟩, by simp only [intOf, Int.toNat_natCast, Int.toNat_natCast_add_one]; omega⟩
    · have hkn : k = n := by omega
      subst hkn
      have HFIN : Hid (Gr w S g (l ++ listL full xs) wr) := Lib.hid (HG.out.eq (by rw [List.take_of_length_le (by omega), listL, hxn, List.append_assoc]))
      clear HG
      go_wp2
      go_ret
      exact ⟨rfl, HFIN.out⟩
end Go.Proofs.Ytnpjihdhpoddgaa

namespace Go.Proofs.Ytnpjihdhpoddgaa
open Go.RowKit
set_option maxRecDepth 100000

/-- a commitment -/
structure Wcm where
  c : Int
  s : Int
  h : List UInt8
  n : Int
  b : Int
  m : Int
def Wcm.cells (x : Wcm) : List Value := [.int .i64 x.c, .int .i64 x.s] ++ (x.h.map by8 ++ [.int .i64 x.n, .int .i64 x.b, .int .i64 x.m])
def Wcm.val (x : Wcm) : Value := .agg x.cells.toArray
structure Wcm.Ok (x : Wcm) : Prop where
  c : i64In x.c
  s : i64In x.s
  h : x.h.length = 32
  n : i64In x.n
  b : i64In x.b
  m : i64In x.m
theorem Wcm.len {x : Wcm} (h : x.h.length = 32) : x.cells.length = 37 := by simp [Wcm.cells, h]
theorem Wcm.one (x : Wcm) : ∀ v ∈ x.cells, v.oneCell' = true := by
  intro v hv
  simp only [Wcm.cells, List.mem_cons, List.mem_append, List.not_mem_nil, or_false] at hv
  rcases hv with (rfl | rfl) | hv | rfl | rfl | rfl
  · rfl
  · rfl
  · exact by8_one x.h v hv
  · rfl
  · rfl
  · rfl
/-- its fields, where it lies from o on -/
structure Wcm.At (w : World) (g o : Nat) (x : Wcm) : Prop where
  all : w.rangeAt g o x.cells
  hash : w.rangeAt g (o + 2) (x.h.map by8)
  name : w.rangeAt g (o + 0) [.int .i64 x.c, .int .i64 x.s]
  sig : w.rangeAt g (o + 35) [.int .i64 x.b, .int .i64 x.m]
  c : w.cell? ⟨g, o + 0, none⟩ = some (.int .i64 x.c)
  s : w.cell? ⟨g, o + 1, none⟩ = some (.int .i64 x.s)
  n : w.cell? ⟨g, o + 34, none⟩ = some (.int .i64 x.n)
  b : w.cell? ⟨g, o + 35, none⟩ = some (.int .i64 x.b)
  m : w.cell? ⟨g, o + 36, none⟩ = some (.int .i64 x.m)
theorem Wcm.at_of {w : World} {g o : Nat} {x : Wcm} (hr : w.rangeAt g o x.cells) (hh : x.h.length = 32) : x.At w g o := by
  have hl : (x.h.map by8).length = 32 := by rw [List.length_map]; exact hh
  have c_c : w.cell? ⟨g, o + 0, none⟩ = some (.int .i64 x.c) := hr 0 _ rfl
  have c_s : w.cell? ⟨g, o + 1, none⟩ = some (.int .i64 x.s) := hr 1 _ rfl
  have c_n : w.cell? ⟨g, o + 34, none⟩ = some (.int .i64 x.n) := hr 34 _ (post_cell [.int .i64 x.c, .int .i64 x.s] (x.h.map by8) [.int .i64 x.n, .int .i64 x.b, .int .i64 x.m] hl 0 rfl)
  have c_b : w.cell? ⟨g, o + 35, none⟩ = some (.int .i64 x.b) := hr 35 _ (post_cell [.int .i64 x.c, .int .i64 x.s] (x.h.map by8) [.int .i64 x.n, .int .i64 x.b, .int .i64 x.m] hl 1 rfl)
  have c_m : w.cell? ⟨g, o + 36, none⟩ = some (.int .i64 x.m) := hr 36 _ (post_cell [.int .i64 x.c, .int .i64 x.s] (x.h.map by8) [.int .i64 x.n, .int .i64 x.b, .int .i64 x.m] hl 2 rfl)
  have r_name : w.rangeAt g (o + 0) [.int .i64 x.c, .int .i64 x.s] := by
    intro j v hv
    rcases j with _ | j
    · simp at hv; subst hv; exact c_c
    rcases j with _ | j
    · simp at hv; subst hv; exact c_s
    · simp at hv
  have r_sig : w.rangeAt g (o + 35) [.int .i64 x.b, .int .i64 x.m] := by
    intro j v hv
    rcases j with _ | j
    · simp at hv; subst hv; exact c_b
    rcases j with _ | j
    · simp at hv; subst hv; exact c_m
    · simp at hv
  have r_hash : w.rangeAt g (o + 2) (x.h.map by8) := rangeAt_sub (xs := [.int .i64 x.c, .int .i64 x.s]) (ys := x.h.map by8) (zs := [.int .i64 x.n, .int .i64 x.b, .int .i64 x.m]) hr
  exact ⟨hr, r_hash, r_name, r_sig, c_c, c_s, c_n, c_b, c_m⟩
theorem Wcm.At.keep {w w' : World} {g o : Nat} {x : Wcm} {S : List Nat} (h : x.At w g o) (hf : Fr S w w') (hn : ¬ g ∈ S) : x.At w' g o :=
  ⟨hf.range h.all hn, hf.range h.hash hn, hf.range h.name hn, hf.range h.sig hn, hf.cell h.c hn, hf.cell h.s hn, hf.cell h.n hn, hf.cell h.b hn, hf.cell h.m hn⟩
theorem row_cmt : RowTy Try.prog 29 37 := ⟨by kernel_rfl, by kernel_rfl⟩
theorem row_crt : RowTy Try.prog 35 38 := ⟨by kernel_rfl, by kernel_rfl⟩
theorem row_prm : RowTy Try.prog 40 6 := ⟨by kernel_rfl, by kernel_rfl⟩
def Wcm.full (x : Wcm) : List UInt8 := nmL x.c x.s ++ x.h ++ encI x.n ++ sgL x.b x.m
theorem Wcm.full_len {x : Wcm} (hx : x.Ok) : x.full.length ≤ 82 := by
  have b0 := encI_len x.c hx.c.2
  have b1 := encI_len x.s hx.s.2
  have b2 := hx.h
  have b3 := encI_len x.n hx.n.2
  have b4 := encI_len x.b hx.b.2
  have b5 := encI_len x.m hx.m.2
  simp only [Wcm.full, nmL, sgL, List.length_append]
  omega
set_option maxHeartbeats 1000000 in
theorem putCommit_any (x : Wcm) (hx : x.Ok) (w : World) (S : List Nat) (g : Nat) (l : List UInt8) (hw : Wr w S g l) (hl : l.length + 200 ≤ 1073741000) :
    Calls Try.prog 22 #[.pointer (some ⟨g, 0, none⟩), x.val] w fun e w' => e = .returned (.pointer (some ⟨g, 0, none⟩)) ∧ Gr w S g (l ++ x.full) w' := by
  obtain ⟨wa, hwa⟩ : ∃ wa, wa = w.alloc (Obj.cells x.cells.toArray 29) := ⟨_, rfl⟩
  have hf0 : Fr [] w wa := by rw [hwa]; exact (Fr.refl [] w).alloc _
  have hb0 : Blk wa w.heap.size 29 x.cells.toArray := by rw [hwa]; exact Blk.new _ _ _
  have HNS : Hid (¬ w.heap.size ∈ S) := Lib.hid (fun h => by have := hw.lt _ h; omega)
  have HG0 := Lib.hid (Gr.begin hw hf0)
  have HAT := Lib.hid (Wcm.at_of (o := 0) hb0.range hx.h)
  have HF0 := Lib.hid hf0
  have HWA := Lib.hid hwa
  have HL := Lib.hid hl
  have HX := Lib.hid hx
  clear hwa hf0 hb0 hl hw hx
  unfold Wcm.val
  generalize hC : x.cells = C at *
  have HRC := Lib.hid hC
  clear hC
  go_enter Try.func22, Try.ntmps22
  go_wp2
  rw [← HWA.out]
  refine wp_region_held_drew (S := Fr S wa) (by kernel_rfl) (Fr.drew (Fr.refl _ wa)) (fun hHeld => ?_)
  refine run_at (i := 0) (v := ?_) rfl (by kernel_rfl) (by rfl) (fun _ _ _ h => h) hHeld (fun w1 hw1 => ?_) ?_
  rotate_left 1
  · skip
    go_simp
    (try (first | with_reducible rfl | (apply And.intro <;> rfl)))
  simp only [Act.put, List.setIfInBounds_toArray, List.set_cons_zero, List.set_cons_succ]
  refine run_at (i := 1) (v := ?_) rfl (by kernel_rfl) (by rfl) (fun _ _ _ h => h) hHeld (fun w1 hw1 => ?_) ?_
  rotate_left 1
  · skip
    go_simp
    (try (first | with_reducible rfl | (apply And.intro <;> rfl)))
  simp only [Act.put, List.setIfInBounds_toArray, List.set_cons_zero, List.set_cons_succ]
  refine row_at (i := 2) rfl (by kernel_rfl) (by rfl) _ _ rfl _ _ rfl _ (fun w1 hw1 => hw1.range (HAT.out.name) (by first | (simp; done) | exact HNS.out | exact HNW.out | (intro hm; have hlt := HSB.out _ hm; (try dsimp only at hlt); omega))) (row_name) (fun _ _ _ h => h) hHeld ?_
  simp only [Act.put, List.setIfInBounds_toArray, List.set_cons_zero, List.set_cons_succ]
  refine run_at (i := 4) (v := ?_) rfl (by kernel_rfl) (by rfl) (fun _ _ _ h => h) hHeld (fun w1 hw1 => ?_) ?_
  rotate_left 1
  · skip
    go_simp
    (try (first | with_reducible rfl | (apply And.intro <;> rfl)))
  simp only [Act.put, List.setIfInBounds_toArray, List.set_cons_zero, List.set_cons_succ]
  refine row_at (i := 5) rfl (by kernel_rfl) (by rfl) _ _ rfl _ _ rfl _ (fun w1 hw1 => hw1.range (HAT.out.hash) (by first | (simp; done) | exact HNS.out | exact HNW.out | (intro hm; have hlt := HSB.out _ hm; (try dsimp only at hlt); omega))) (row_hash.of (by rw [List.length_map]; exact HX.out.h)) (fun _ _ _ h => h) hHeld ?_
  simp only [Act.put, List.setIfInBounds_toArray, List.set_cons_zero, List.set_cons_succ]
  refine run_at (i := 7) (v := ?_) rfl (by kernel_rfl) (by rfl) (fun _ _ _ h => h) hHeld (fun w1 hw1 => ?_) ?_
  rotate_left 1
  · skip
    go_simp
    (try (first | with_reducible rfl | (apply And.intro <;> rfl)))
  simp only [Act.put, List.setIfInBounds_toArray, List.set_cons_zero, List.set_cons_succ]
  refine run_at (i := 8) (v := ?_) rfl (by kernel_rfl) (by rfl) (fun _ _ _ h => h) hHeld (fun w1 hw1 => ?_) ?_
  rotate_left 1
  · skip
    have hcw0 := hw1.cell (HAT.out.n) (by first | (simp; done) | exact HNS.out | exact HNW.out | (intro hm; have hlt := HSB.out _ hm; (try dsimp only at hlt); omega))
    go_simp
    (try (first | with_reducible rfl | (apply And.intro <;> rfl)))
  simp only [Act.put, List.setIfInBounds_toArray, List.set_cons_zero, List.set_cons_succ]
  refine run_at (i := 10) (v := ?_) rfl (by kernel_rfl) (by rfl) (fun _ _ _ h => h) hHeld (fun w1 hw1 => ?_) ?_
  rotate_left 1
  · skip
    go_simp
    (try (first | with_reducible rfl | (apply And.intro <;> rfl)))
  simp only [Act.put, List.setIfInBounds_toArray, List.set_cons_zero, List.set_cons_succ]
  refine row_at (i := 11) rfl (by kernel_rfl) (by rfl) _ _ rfl _ _ rfl _ (fun w1 hw1 => hw1.range (HAT.out.sig) (by first | (simp; done) | exact HNS.out | exact HNW.out | (intro hm; have hlt := HSB.out _ hm; (try dsimp only at hlt); omega))) (row_sg) (fun _ _ _ h => h) hHeld ?_
  simp only [Act.put, List.setIfInBounds_toArray, List.set_cons_zero, List.set_cons_succ]
  refine call_at (i := 3) (f := ?_) (args := ?_) rfl (by kernel_rfl) (by rfl) ?_ ?_
  rotate_left 2
  · go_simp
    (try (first | with_reducible rfl | (apply And.intro <;> rfl)))
  refine (HG0.out.call fun S1 k1 => putName_any x.c x.s HX.out.c HX.out.s _ S1 g _ k1 (by have h0 := HL.out; (try simp only [List.length_append, sgL, nmL] at *); omega)).mono ?_
  rintro e w1 ⟨rfl, hg1⟩
  have HG1 := Lib.hid hg1
  refine ⟨_, rfl, hg1.fr, fun hHeld => ?_⟩
  clear hg1 HG0
  simp only [Act.put, List.setIfInBounds_toArray, List.set_cons_zero, List.set_cons_succ]
  refine call_at (i := 6) (f := ?_) (args := ?_) rfl (by kernel_rfl) (by rfl) ?_ ?_
  rotate_left 2
  · go_simp
    (try (first | with_reducible rfl | (apply And.intro <;> rfl)))
  refine (HG1.out.call fun S1 k1 => hash_any x.h HX.out.h _ S1 g _ k1 (by have h0 := HL.out; have b0 := encI_len x.c HX.out.c.2; have b1 := encI_len x.s HX.out.s.2; (try simp only [List.length_append, sgL, nmL] at *); omega)).mono ?_
  rintro e w2 ⟨rfl, hg2⟩
  have HG2 := Lib.hid hg2
  refine ⟨_, rfl, hg2.fr, fun hHeld => ?_⟩
  clear hg2 HG1
  simp only [Act.put, List.setIfInBounds_toArray, List.set_cons_zero, List.set_cons_succ]
  refine call_at (i := 9) (f := ?_) (args := ?_) rfl (by kernel_rfl) (by rfl) ?_ ?_
  rotate_left 2
  · go_simp
    (try (first | with_reducible rfl | (apply And.intro <;> rfl)))
  refine (HG2.out.call fun S1 k1 => int_any x.n HX.out.n.1 HX.out.n.2 _ S1 g _ k1 (by have h0 := HL.out; have b0 := encI_len x.c HX.out.c.2; have b1 := encI_len x.s HX.out.s.2; have b2 := HX.out.h; (try simp only [List.length_append, sgL, nmL] at *); omega)).mono ?_
  rintro e w3 ⟨rfl, hg3⟩
  have HG3 := Lib.hid hg3
  refine ⟨_, rfl, hg3.fr, fun hHeld => ?_⟩
  clear hg3 HG2
  simp only [Act.put, List.setIfInBounds_toArray, List.set_cons_zero, List.set_cons_succ]
  refine call_at (i := 12) (f := ?_) (args := ?_) rfl (by kernel_rfl) (by rfl) ?_ ?_
  rotate_left 2
  · go_simp
    (try (first | with_reducible rfl | (apply And.intro <;> rfl)))
  refine (HG3.out.call fun S1 k1 => putSig_any x.b x.m HX.out.b HX.out.m _ S1 g _ k1 (by have h0 := HL.out; have b0 := encI_len x.c HX.out.c.2; have b1 := encI_len x.s HX.out.s.2; have b2 := HX.out.h; have b3 := encI_len x.n HX.out.n.2; (try simp only [List.length_append, sgL, nmL] at *); omega)).mono ?_
  rintro e w4 ⟨rfl, hg4⟩
  have HG4 := Lib.hid hg4
  refine ⟨_, rfl, hg4.fr, fun hHeld => ?_⟩
  clear hg4 HG3
  simp only [Act.put, List.setIfInBounds_toArray, List.set_cons_zero, List.set_cons_succ]
  refine run_at (i := 13) (v := ?_) rfl (by kernel_rfl) (by rfl) (fun _ _ _ h => h) hHeld (fun w1 hw1 => ?_) ?_
  rotate_left 1
  · skip
    go_simp
    (try (first | with_reducible rfl | (apply And.intro <;> rfl)))
  simp only [Act.put, List.setIfInBounds_toArray, List.set_cons_zero, List.set_cons_succ]
  refine wpAnyH_done (by kernel_rfl) ?_ _
  go_wp2
  go_ret
  exact ⟨rfl, (HG4.out.from_ HF0.out).eq (by simp [Wcm.full, List.append_assoc])⟩
theorem putCommit_any' (x : Wcm) (hx : x.Ok) (C : List Value) (hC : x.cells = C) (w : World) (S : List Nat) (g : Nat) (l : List UInt8) (hw : Wr w S g l) (hl : l.length + 200 ≤ 1073741000) :
    Calls Try.prog 22 #[.pointer (some ⟨g, 0, none⟩), .agg C.toArray] w fun e w' => e = .returned (.pointer (some ⟨g, 0, none⟩)) ∧ Gr w S g (l ++ x.full) w' := by
  subst hC
  exact putCommit_any x hx w S g l hw hl
/-- a certificate: its commitment, and where its stamps lie -/
structure Wce where
  k : Wcm
  A : Option Addr
  n : Nat
  d : Nat
  l : List Wst
def Wce.cells (x : Wce) : List Value := x.k.cells ++ [.slice x.A x.n x.d]
def Wce.val (x : Wce) : Value := .agg x.cells.toArray
/-- it lies in w, apart from S -/
structure Wce.Ok (w : World) (S : List Nat) (x : Wce) : Prop where
  k : x.k.Ok
  l : Lst 38 Wst.cells (fun _ v => v.Ok) w x.A x.n x.l
  n : x.n ≤ 5
  ap : 0 < x.n → ∀ a, x.A = some a → ¬ a.block ∈ S
theorem Wce.len {x : Wce} (h : x.k.h.length = 32) : x.cells.length = 38 := by simp [Wce.cells, Wcm.len h]
theorem Wce.one (x : Wce) : ∀ v ∈ x.cells, v.oneCell' = true := by
  intro v hv
  simp only [Wce.cells, List.mem_append, List.mem_singleton] at hv
  rcases hv with hv | rfl
  · exact Wcm.one x.k v hv
  · rfl
theorem Wce.Ok.keep {w W : World} {S S' : List Nat} {x : Wce} (h : x.Ok w S) (hf : Fr S w W) (hs : ∀ k ∈ S', k < w.heap.size → k ∈ S) : x.Ok W S' :=
  ⟨h.k, h.l.keep' hf h.ap (fun _ _ h => h), h.n, fun hn a ha hin => h.ap hn a ha (hs _ hin (h.l.lt hn (by decide) (fun v hv => Wst.len (h.l.2.1 v hv).2.h) a ha))⟩
def Wce.full (x : Wce) : List UInt8 := x.k.full ++ listL Wst.full x.l
theorem Wst.full_len {x : Wst} (hx : x.Ok) : x.full.length ≤ 100 := by
  have b0 := Wst.bare_len hx
  have b1 := encI_len x.b hx.b.2
  have b2 := encI_len x.m hx.m.2
  simp only [Wst.full, sgL, List.length_append]
  omega
theorem Wce.full_len {w : World} {S : List Nat} {x : Wce} (hx : x.Ok w S) : x.full.length ≤ 700 := by
  have b0 := Wcm.full_len hx.k
  have b1 := encI_len (x.l.length : Int) (by have := hx.n; have := hx.l.1; omega)
  have b2 : (x.l.flatMap Wst.full).length ≤ 5 * 100 := flat_len (fun v hv => Wst.full_len (hx.l.2.1 v hv).2) (by have := hx.n; have := hx.l.1; omega)
  simp only [Wce.full, listL, List.length_append]
  omega
set_option maxHeartbeats 1000000 in
theorem putCert_any (x : Wce) (w : World) (S : List Nat) (g : Nat) (l : List UInt8) (hw : Wr w S g l) (hl : l.length + 1400 ≤ 1073741000) (hx : x.Ok w S) :
    Calls Try.prog 24 #[.pointer (some ⟨g, 0, none⟩), x.val] w fun e w' => e = .returned (.pointer (some ⟨g, 0, none⟩)) ∧ Gr w S g (l ++ x.full) w' := by
  obtain ⟨wa, hwa⟩ : ∃ wa, wa = w.alloc (Obj.cells x.cells.toArray 35) := ⟨_, rfl⟩
  have hf0 : Fr [] w wa := by rw [hwa]; exact (Fr.refl [] w).alloc _
  have hb0 : Blk wa w.heap.size 35 x.cells.toArray := by rw [hwa]; exact Blk.new _ _ _
  have HNS : Hid (¬ w.heap.size ∈ S) := Lib.hid (fun h => by have := hw.lt _ h; omega)
  have HG0 := Lib.hid (Gr.begin hw hf0)
  have HCM : Hid (wa.rangeAt w.heap.size 0 x.k.cells) := Lib.hid (fun j v hv => hb0.range j v (by rw [Wce.cells]; exact (List.getElem?_append_left (List.getElem?_eq_some_iff.1 hv).1).trans hv))
  have HSL : Hid (wa.cell? ⟨w.heap.size, 0 + 37, none⟩ = some (.slice x.A x.n x.d)) := Lib.hid (hb0.range 37 _ (by rw [Wce.cells, List.getElem?_append_right (by rw [Wcm.len hx.k.h]; omega), Wcm.len hx.k.h]; rfl))
  have HKL : Hid (x.k.cells.length = 37) := Lib.hid (Wcm.len hx.k.h)
  have HF0 := Lib.hid hf0
  have HWA := Lib.hid hwa
  have HL := Lib.hid hl
  have HX := Lib.hid hx
  clear hwa hf0 hb0 hl hw hx
  unfold Wce.val
  generalize hC : x.cells = C at *
  have HRC := Lib.hid hC
  clear hC
  generalize hK : x.k.cells = K at *
  have HRK := Lib.hid hK
  clear hK
  go_enter Try.func24, Try.ntmps24
  go_wp2
  rw [← HWA.out]
  refine wp_region_held_drew (S := Fr S wa) (by kernel_rfl) (Fr.drew (Fr.refl _ wa)) (fun hHeld => ?_)
  refine run_at (i := 0) (v := ?_) rfl (by kernel_rfl) (by rfl) (fun _ _ _ h => h) hHeld (fun w1 hw1 => ?_) ?_
  rotate_left 1
  · skip
    go_simp
    (try (first | with_reducible rfl | (apply And.intro <;> rfl)))
  simp only [Act.put, List.setIfInBounds_toArray, List.set_cons_zero, List.set_cons_succ]
  refine run_at (i := 1) (v := ?_) rfl (by kernel_rfl) (by rfl) (fun _ _ _ h => h) hHeld (fun w1 hw1 => ?_) ?_
  rotate_left 1
  · skip
    go_simp
    (try (first | with_reducible rfl | (apply And.intro <;> rfl)))
  simp only [Act.put, List.setIfInBounds_toArray, List.set_cons_zero, List.set_cons_succ]
  refine row_at (i := 2) rfl (by kernel_rfl) (by rfl) _ _ rfl _ _ rfl _ (fun w1 hw1 => hw1.range (HCM.out) (by first | (simp; done) | exact HNS.out | exact HNW.out | (intro hm; have hlt := HSB.out _ hm; (try dsimp only at hlt); omega))) (row_cmt.of HKL.out) (fun _ _ _ h => h) hHeld ?_
  simp only [Act.put, List.setIfInBounds_toArray, List.set_cons_zero, List.set_cons_succ]
  refine run_at (i := 4) (v := ?_) rfl (by kernel_rfl) (by rfl) (fun _ _ _ h => h) hHeld (fun w1 hw1 => ?_) ?_
  rotate_left 1
  · skip
    go_simp
    (try (first | with_reducible rfl | (apply And.intro <;> rfl)))
  simp only [Act.put, List.setIfInBounds_toArray, List.set_cons_zero, List.set_cons_succ]
  refine run_at (i := 5) (v := ?_) rfl (by kernel_rfl) (by rfl) (fun _ _ _ h => h) hHeld (fun w1 hw1 => ?_) ?_
  rotate_left 1
  · skip
    have hcw0 := hw1.cell (HSL.out) (by first | (simp; done) | exact HNS.out | exact HNW.out | (intro hm; have hlt := HSB.out _ hm; (try dsimp only at hlt); omega))
    go_simp
    (try (first | with_reducible rfl | (apply And.intro <;> rfl)))
  simp only [Act.put, List.setIfInBounds_toArray, List.set_cons_zero, List.set_cons_succ]
  refine call_at (i := 3) (f := ?_) (args := ?_) rfl (by kernel_rfl) (by rfl) ?_ ?_
  rotate_left 2
  · go_simp
    (try (first | with_reducible rfl | (apply And.intro <;> rfl)))
  refine (HG0.out.call fun S1 k1 => putCommit_any' x.k HX.out.k K HRK.out _ S1 g _ k1 (by have h0 := HL.out; (try simp only [List.length_append, sgL, nmL] at *); omega)).mono ?_
  rintro e w1 ⟨rfl, hg1⟩
  have HG1 := Lib.hid hg1
  refine ⟨_, rfl, hg1.fr, fun hHeld => ?_⟩
  clear hg1 HG0
  simp only [Act.put, List.setIfInBounds_toArray, List.set_cons_zero, List.set_cons_succ]
  refine call_at (i := 6) (f := ?_) (args := ?_) rfl (by kernel_rfl) (by rfl) ?_ ?_
  rotate_left 2
  · go_simp
    (try (first | with_reducible rfl | (apply And.intro <;> rfl)))
  refine (HG1.out.calls fun S1 k1 f1 s1 => putStamps_any Wst.cells (fun _ _ v => v.Ok) Wst.full 200 Wst.one rfl (fun _ _ v h => Nat.le_trans (Wst.full_len h) (by decide)) (fun v W S g l h hw hl => putStamp_any v h W S g l hw hl) _ S1 g _ k1 x.A x.n x.d x.l (HX.out.l.keep' ((HF0.out.mono (T := S) (by simp)).trans f1 (fun k hk _ => hk)) HX.out.ap (fun _ _ h => h)) (by have := HX.out.n; omega) (fun hn a ha hin => HX.out.ap hn a ha (s1 _ hin (Nat.lt_of_lt_of_le (HX.out.l.lt hn (by decide) (fun v hv => Wst.len (HX.out.l.2.1 v hv).2.h) a ha) HF0.out.size))) (fun _ _ _ _ _ _ h => h) (by have h0 := HL.out; have b0 := Wcm.full_len HX.out.k; have := HX.out.n; simp only [List.length_append]; omega)).mono ?_
  rintro e w2 ⟨rfl, hg2⟩
  have HG2 := Lib.hid hg2
  refine ⟨_, rfl, hg2.fr, fun hHeld => ?_⟩
  clear hg2 HG1
  simp only [Act.put, List.setIfInBounds_toArray, List.set_cons_zero, List.set_cons_succ]
  refine run_at (i := 7) (v := ?_) rfl (by kernel_rfl) (by rfl) (fun _ _ _ h => h) hHeld (fun w1 hw1 => ?_) ?_
  rotate_left 1
  · skip
    go_simp
    (try (first | with_reducible rfl | (apply And.intro <;> rfl)))
  simp only [Act.put, List.setIfInBounds_toArray, List.set_cons_zero, List.set_cons_succ]
  refine wpAnyH_done (by kernel_rfl) ?_ _
  go_wp2
  go_ret
  exact ⟨rfl, (HG2.out.from_ HF0.out).eq (by simp [Wce.full, List.append_assoc])⟩
theorem putCert_any' (x : Wce) (C : List Value) (hC : x.cells = C) (w : World) (S : List Nat) (g : Nat) (l : List UInt8) (hw : Wr w S g l) (hl : l.length + 1400 ≤ 1073741000) (hx : x.Ok w S) :
    Calls Try.prog 24 #[.pointer (some ⟨g, 0, none⟩), .agg C.toArray] w fun e w' => e = .returned (.pointer (some ⟨g, 0, none⟩)) ∧ Gr w S g (l ++ x.full) w' := by
  subst hC
  exact putCert_any x w S g l hw hl hx
end Go.Proofs.Ytnpjihdhpoddgaa

namespace Go.Proofs.Ytnpjihdhpoddgaa
open Go.RowKit
set_option maxRecDepth 100000
/-- what is left for a reader, and whether it has failed -/
abbrev Ps := List UInt8 × Bool
def pI (s : Ps) : Int × Ps := ((inN s.1 1099511627776 : Nat), (inL s.1 1099511627776, inB s.1 1099511627776 s.2))
def pC (s : Ps) : Nat × Ps := (inN s.1 100, (inL s.1 100, inB s.1 100 s.2))
def pN (s : Ps) : Nat × Ps := (rdN s.1, (rdL s.1, rdB s.1 s.2))
def pH (s : Ps) : List UInt8 × Ps := (hashOf s.1, (tookL s.1, tookB s.1 s.2))
def pR (s : Ps) : List UInt8 × Ps := (rwV s.1 256, (rwL s.1 256, rwB s.1 256 s.2))
def p2 (s : Ps) : (Int × Int) × Ps := (((pI s).1, (pI (pI s).2).1), (pI (pI s).2).2)
structure Rs (w : World) (F : List Nat) (g : Nat) (s : Ps) : Prop where
  rd : Rd w g F s.1 s.2
  len : s.1.length ≤ 1073741824
  lt : ∀ k ∈ F, k < w.heap.size
theorem Rs.fr {w w' : World} {F T : List Nat} {g : Nat} {s : Ps} (h : Rs w F g s) (hf : Fr T w w') (hg : ¬ g ∈ T) (hF : ∀ k ∈ F, ¬ k ∈ T) : Rs w' F g s := ⟨h.rd.keep hf hg hF, h.len, fun k hk => Nat.lt_of_lt_of_le (h.lt k hk) hf.size⟩
theorem Rs.gt {w : World} {F : List Nat} {g : Nat} {s : Ps} (h : Rs w F g s) : g < w.heap.size := h.rd.lt
theorem Fr.unbox {g q : Nat} {w wa w1 w2 : World} (h0 : Fr [] w wa) (h1 : Fr [g] wa w1) (h2 : Fr [q] w1 w2) (hq : w.heap.size ≤ q) : Fr [g] w w2 :=
  ((h0.mono (T := [g]) (by simp)).trans h1 (fun x hx _ => hx)).trans h2 (fun x hx hl => by simp at hx; omega)
theorem inL_le (R : List UInt8) (m : Int) : (inL R m).length ≤ R.length := by
  unfold inL
  cases dec R with
  | none => simp
  | some p => simp only; split <;> simp
theorem rdL_le (R : List UInt8) : (rdL R).length ≤ R.length := by
  unfold rdL
  cases dec R with
  | none => simp
  | some p => simp
theorem tookL_le (R : List UInt8) : (tookL R).length ≤ R.length := by unfold tookL; split <;> simp
theorem rwL_le (R : List UInt8) (m : Int) : (rwL R m).length ≤ R.length := by
  unfold rwL
  cases dec R with
  | none => simp
  | some p => simp only; split <;> simp
theorem inN_le (R : List UInt8) {m : Int} (hm : 0 ≤ m) : ((inN R m : Nat) : Int) ≤ m := by
  unfold inN
  cases dec R with
  | none => simpa using hm
  | some p =>
    simp only
    split
    · assumption
    · simpa using hm
theorem rdN_lt (R : List UInt8) : rdN R < 18446744073709551616 := by
  unfold rdN
  cases h : dec R with
  | none => simp
  | some p => exact (dec_some (n := p.1) (s := p.2) h).2.2.2
theorem pI_in (s : Ps) : i64In (pI s).1 := by
  have h := inN_le s.1 (m := 1099511627776) (by omega)
  unfold pI i64In
  simp only
  omega
section
variable {w : World} {F : List Nat} {g : Nat} {s : Ps}
theorem rint_ps (m : Int) (hm2 : m < 9223372036854775808) (hr : Rs w F g s) :
    Calls Try.prog 57 #[.pointer (some ⟨g, 0, none⟩), .int .i64 m] w fun e w' => e = .returned (.int .i64 (inN s.1 m)) ∧ Rs w' F g (inL s.1 m, inB s.1 m s.2) ∧ Fr [g] w w' := by
  have hl := inL_le s.1 m
  obtain ⟨R, bad⟩ := s
  have mk : ∀ {w' : World} {l : List UInt8} {b : Bool}, l.length ≤ R.length → Rd w' g F l b → Fr [g] w w' → Rs w' F g (l, b) := fun h1 h2 h3 => ⟨h2, Nat.le_trans h1 hr.len, fun k hk => Nat.lt_of_lt_of_le (hr.lt k hk) h3.size⟩
  unfold inN inL inB at *
  simp only at hl ⊢
  cases hd : dec R with
  | none =>
    rw [hd] at hl
    exact (rint_bad w g F R bad hr.rd hr.len m (intBad_none hd) hm2).mono fun _ _ ⟨k1, k2, k3⟩ => ⟨k1, mk (by simp) k2 k3, k3⟩
  | some p =>
    rw [hd] at hl
    by_cases hv : (p.1 : Int) ≤ m
    · simp only [if_pos hv] at hl ⊢
      exact (rint_ok w g F R bad hr.rd hr.len p.1 p.2 hd m hv hm2).mono fun _ _ ⟨k1, k2, k3⟩ => ⟨k1, mk hl k2 k3, k3⟩
    · simp only [if_neg hv] at hl ⊢
      exact (rint_bad w g F R bad hr.rd hr.len m (intBad_lt hd (by omega)) hm2).mono fun _ _ ⟨k1, k2, k3⟩ => ⟨k1, mk (by simp) k2 k3, k3⟩
theorem getInt_any (hr : Rs w F g s) : Calls Try.prog 40 #[.pointer (some ⟨g, 0, none⟩)] w fun e w' => e = .returned (.int .i64 (pI s).1) ∧ Rs w' F g (pI s).2 ∧ Fr [g] w w' := by
  have HR := Lib.hid hr
  clear hr
  go_enter Try.func40, Try.ntmps40
  go_wp2_with fail
  refine (rint_ps 1099511627776 (by omega) HR.out).mono ?_
  rintro e w1 ⟨rfl, h1, h2⟩
  have H1 : Hid (Rs w1 F g (pI s).2) := Lib.hid h1
  have H2 := Lib.hid h2
  clear h1 h2
  go_wp2
  go_ret
  exact ⟨rfl, H1.out, H2.out⟩
theorem getNum_any (hr : Rs w F g s) : Calls Try.prog 62 #[.pointer (some ⟨g, 0, none⟩)] w fun e w' => e = .returned (.int .u64 ((pN s).1 : Nat)) ∧ Rs w' F g (pN s).2 ∧ Fr [g] w w' := by
  have hl := rdL_le s.1
  obtain ⟨R, bad⟩ := s
  unfold pN rdN rdL rdB at *
  simp only at hl ⊢
  cases hd : dec R with
  | none => exact (rnum_bad w g F R bad hr.rd hr.len hd).mono fun _ _ ⟨k1, k2, k3⟩ => ⟨k1, ⟨k2, by simp, fun k hk => Nat.lt_of_lt_of_le (hr.lt k hk) k3.size⟩, k3⟩
  | some p => exact (rnum_ok w g F R bad hr.rd hr.len p.1 p.2 hd).mono fun _ _ ⟨k1, k2, k3⟩ => ⟨k1, ⟨k2, Nat.le_trans (by simp) hr.len, fun k hk => Nat.lt_of_lt_of_le (hr.lt k hk) k3.size⟩, k3⟩
theorem getHash_any (hr : Rs w F g s) : Calls Try.prog 79 #[.pointer (some ⟨g, 0, none⟩)] w fun e w' => e = .returned (.agg (((pH s).1).map by8).toArray) ∧ Rs w' F g (pH s).2 ∧ Fr [g] w w' :=
  (rhash_any w g F s.1 s.2 hr.rd hr.lt hr.len).mono fun _ _ ⟨h1, h2, h3⟩ => ⟨h1, ⟨h2, Nat.le_trans (tookL_le _) hr.len, fun k hk => Nat.lt_of_lt_of_le (hr.lt k hk) h3.size⟩, h3⟩
theorem getCount_any (hr : Rs w F g s) : Calls Try.prog 57 #[.pointer (some ⟨g, 0, none⟩), .int .i64 100] w fun e w' => e = .returned (.int .i64 ((pC s).1 : Nat)) ∧ Rs w' F g (pC s).2 ∧ Fr [g] w w' :=
  rint_ps 100 (by omega) hr
end
theorem pH_len (s : Ps) : (pH s).1.length = 32 := hashOf_len s.1
theorem pC_le (s : Ps) : (pC s).1 ≤ 100 := by have h := inN_le s.1 (m := 100) (by omega); unfold pC; simp only; omega
theorem pN_lt (s : Ps) : (pN s).1 < 18446744073709551616 := rdN_lt s.1
def zCm : Array Value := (Wcm.cells ⟨0, 0, List.replicate 32 0, 0, 0, 0⟩).toArray
def zSt : Array Value := (Wst.cells ⟨0, 0, 0, List.replicate 32 0, 0, 0, 0⟩).toArray
theorem built_cmE (parts : List (Nat × Value)) : Try.prog.built 29 parts = Instr.fill ([(0, 2), (2, 32), (34, 1), (35, 2)].toArray[·]?) zCm parts := by kernel_rfl
theorem built_cmR (c s n b m : Int) (h : List UInt8) (hh : h.length = 32) :
    Try.prog.built 29 [(0, .agg #[.int .i64 c, .int .i64 s]), (1, .agg (h.map by8).toArray), (2, .int .i64 n), (3, .agg #[.int .i64 b, .int .i64 m])] = some (Wcm.cells ⟨c, s, h, n, b, m⟩).toArray := by
  have hz : zCm.size = 37 := rfl
  rw [built_cmE, fill_step _ _ 0 0 2 _ _ rfl rfl (by rw [hz]; omega), fill_step _ _ 1 2 32 _ _ rfl (by simp [Value.cells, hh]) (by simp [splice, zCm, Wcm.cells, Value.cells]),
    fill_step _ _ 2 34 1 _ _ rfl rfl (by simp [splice, zCm, Wcm.cells, Value.cells, hh]), fill_step _ _ 3 35 2 _ _ rfl rfl (by simp [splice, zCm, Wcm.cells, Value.cells, hh]), Instr.fill]
  congr 2
  have tk : ∀ n, 32 ≤ n → (h.map by8).take n = h.map by8 := fun n hn => List.take_of_length_le (by simp [hh]; omega)
  have dk : ∀ n, 32 ≤ n → (h.map by8).drop n = [] := fun n hn => List.drop_of_length_le (by simp [hh]; omega)
  simp [splice, zCm, Wcm.cells, Value.cells, hh, List.drop_append, List.take_append, tk, dk]
theorem built_stE (parts : List (Nat × Value)) : Try.prog.built 32 parts = Instr.fill ([(0, 1), (1, 2), (3, 32), (35, 1), (36, 2)].toArray[·]?) zSt parts := by kernel_rfl
theorem built_stR (r c s : Int) (t : Nat) (b m : Int) (h : List UInt8) (hh : h.length = 32) :
    Try.prog.built 32 [(0, .int .i64 r), (1, .agg #[.int .i64 c, .int .i64 s]), (2, .agg (h.map by8).toArray), (3, .int .u64 (t : Int)), (4, .agg #[.int .i64 b, .int .i64 m])] = some (Wst.cells ⟨r, c, s, h, t, b, m⟩).toArray := by
  have hz : zSt.size = 38 := rfl
  rw [built_stE, fill_step _ _ 0 0 1 _ _ rfl rfl (by rw [hz]; omega), fill_step _ _ 1 1 2 _ _ rfl rfl (by simp [splice, zSt, Wst.cells, Value.cells]), fill_step _ _ 2 3 32 _ _ rfl (by simp [Value.cells, hh]) (by simp [splice, zSt, Wst.cells, Value.cells]),
    fill_step _ _ 3 35 1 _ _ rfl rfl (by simp [splice, zSt, Wst.cells, Value.cells, hh]), fill_step _ _ 4 36 2 _ _ rfl rfl (by simp [splice, zSt, Wst.cells, Value.cells, hh]), Instr.fill]
  congr 2
  have tk : ∀ n, 32 ≤ n → (h.map by8).take n = h.map by8 := fun n hn => List.take_of_length_le (by simp [hh]; omega)
  have dk : ∀ n, 32 ≤ n → (h.map by8).drop n = [] := fun n hn => List.drop_of_length_le (by simp [hh]; omega)
  simp [splice, zSt, Wst.cells, Value.cells, hh, List.drop_append, List.take_append, tk, dk]
theorem built_dnR (r i b m : Int) : Try.prog.built 56 [(0, .int .i64 r), (1, .int .i64 i), (2, .agg #[.int .i64 b, .int .i64 m])] = some (Wdn.cells ⟨r, i, b, m⟩).toArray := by kernel_rfl
theorem built_p2n (c s : Int) : Try.prog.built 23 [(0, .int .i64 c), (1, .int .i64 s)] = some #[.int .i64 c, .int .i64 s] := by kernel_rfl
theorem built_p2s (c s : Int) : Try.prog.built 27 [(0, .int .i64 c), (1, .int .i64 s)] = some #[.int .i64 c, .int .i64 s] := by kernel_rfl
def pCm (s : Ps) : Wcm × Ps := (⟨(p2 s).1.1, (p2 s).1.2, (pH (p2 s).2).1, (pI (pH (p2 s).2).2).1, (p2 (pI (pH (p2 s).2).2).2).1.1, (p2 (pI (pH (p2 s).2).2).2).1.2⟩, (p2 (pI (pH (p2 s).2).2).2).2)
def pSt (s : Ps) : Wst × Ps := (⟨(pI s).1, (p2 (pI s).2).1.1, (p2 (pI s).2).1.2, (pH (p2 (pI s).2).2).1, (pN (pH (p2 (pI s).2).2).2).1, (p2 (pN (pH (p2 (pI s).2).2).2).2).1.1, (p2 (pN (pH (p2 (pI s).2).2).2).2).1.2⟩, (p2 (pN (pH (p2 (pI s).2).2).2).2).2)
def pDn (s : Ps) : Wdn × Ps := (⟨(pI s).1, (pI (pI s).2).1, (p2 (pI (pI s).2).2).1.1, (p2 (pI (pI s).2).2).1.2⟩, (p2 (pI (pI s).2).2).2)
theorem pCm_ok (s : Ps) : (pCm s).1.Ok := ⟨pI_in _, pI_in _, pH_len _, pI_in _, pI_in _, pI_in _⟩
theorem pSt_ok (s : Ps) : (pSt s).1.Ok := ⟨pI_in _, pI_in _, pI_in _, pH_len _, pN_lt _, pI_in _, pI_in _⟩
theorem pDn_ok (s : Ps) : (pDn s).1.Ok := ⟨pI_in _, pI_in _, pI_in _, pI_in _⟩
set_option maxHeartbeats 1000000 in
theorem getName_any {w : World} {F : List Nat} {g : Nat} {s : Ps} (hr : Rs w F g s) : Calls Try.prog 78 #[.pointer (some ⟨g, 0, none⟩)] w fun e w' => e = .returned (.agg #[.int .i64 (p2 s).1.1, .int .i64 (p2 s).1.2]) ∧ Rs w' F g (p2 s).2 ∧ Fr [g] w w' := by
  obtain ⟨wa, hwa⟩ : ∃ wa, wa = w.alloc (Obj.cells #[.int .i64 0, .int .i64 0] 23) := ⟨_, rfl⟩
  have hf0 : Fr [] w wa := by rw [hwa]; exact (Fr.refl [] w).alloc _
  have HB : Hid (Blk wa w.heap.size 23 #[.int .i64 0, .int .i64 0]) := Lib.hid (by rw [hwa]; exact Blk.new _ _ _)
  have HR := Lib.hid (hr.fr hf0 (by simp) (by simp))
  have HNF : Hid (¬ w.heap.size ∈ F) := Lib.hid (fun hm => by have := hr.lt _ hm; omega)
  have HG : Hid (g < w.heap.size) := Lib.hid hr.gt
  have HF0 := Lib.hid hf0
  have HWA := Lib.hid hwa
  clear hwa hf0 hr
  go_enter Try.func78, Try.ntmps78
  go_upto_region 1 with (fail)
  change Code.wp _ _ _ _ (w.alloc (Obj.cells #[.int .i64 0, .int .i64 0] 23))
  rw [← HWA.out]
  go_wp2_with fail
  refine (getInt_any HR.out).mono ?_
  rintro e_ w1 ⟨rfl, h1, h2⟩
  have HR0 := Lib.hid h1
  have HF1 : Hid (Fr [g] wa w1) := Lib.hid h2
  clear h1 h2
  go_wp2_with fail
  refine (getInt_any HR0.out).mono ?_
  rintro e_ w2 ⟨rfl, h1, h2⟩
  have HR1 := Lib.hid h1
  have HF2 : Hid (Fr [g] wa w2) := Lib.hid (HF1.out.trans h2 (fun x hx _ => hx))
  clear h1 h2
  have HBE := Lib.hid (HB.out.keep HF2.out (by have := HG.out; simp; omega))
  have HBU : Hid (Try.prog.built 23 [(0, .int .i64 (p2 s).1.1), (1, .int .i64 (p2 s).1.2)] = some #[.int .i64 (p2 s).1.1, .int .i64 (p2 s).1.2]) := Lib.hid (built_p2n _ _)
  have HAL : Hid ((#[.int .i64 (p2 s).1.1, .int .i64 (p2 s).1.2] : Array Value).all (·.oneCell') = true) := Lib.hid (by kernel_rfl)
  have HVS : Hid ((#[.int .i64 (p2 s).1.1, .int .i64 (p2 s).1.2] : Array Value).size = 2) := Lib.hid (rfl)
  have HTS : Hid ((Try.prog.info? 23).map (·.size) = some (#[.int .i64 (p2 s).1.1, .int .i64 (p2 s).1.2] : Array Value).size) := Lib.hid (by rw [HVS.out]; kernel_rfl)
  obtain ⟨V, hV⟩ : ∃ V, V = (#[.int .i64 (p2 s).1.1, .int .i64 (p2 s).1.2] : Array Value) := ⟨_, rfl⟩
  have HV := Lib.hid hV
  rw [← hV] at HBU HAL HVS HTS
  clear hV
  go_wp2_with (first
    | (refine wpList_builtg rfl 23 _ rfl _ _ HBU.out rfl ?_)
    | (refine wpList_store_blk rfl 23 _ _ rfl w.heap.size V rfl rfl 23 #[.int .i64 0, .int .i64 0] HBE.out HTS.out (by rw [HVS.out]; rfl) HAL.out ?_
       intro w9 hb9 hf9
       have HB9 := Lib.hid hb9
       have HF9 := Lib.hid hf9
       clear hb9 hf9))
  refine bodyPost_ret (v := .agg V) (results_cell_row Try.results78 _ _ w.heap.size 23 V _ _ rfl HB9.out Try.underlying23 rfl HTS.out) rfl ⟨by rw [HV.out], ?_, ?_⟩
  · exact HR1.out.fr HF9.out (by have := HG.out; simp; omega) (fun k hk hm => HNF.out (by simp at hm; exact hm ▸ hk))
  · exact Fr.unbox HF0.out HF2.out HF9.out (Nat.le_refl _)
set_option maxHeartbeats 1000000 in
theorem getSig_any {w : World} {F : List Nat} {g : Nat} {s : Ps} (hr : Rs w F g s) : Calls Try.prog 80 #[.pointer (some ⟨g, 0, none⟩)] w fun e w' => e = .returned (.agg #[.int .i64 (p2 s).1.1, .int .i64 (p2 s).1.2]) ∧ Rs w' F g (p2 s).2 ∧ Fr [g] w w' := by
  obtain ⟨wa, hwa⟩ : ∃ wa, wa = w.alloc (Obj.cells #[.int .i64 0, .int .i64 0] 27) := ⟨_, rfl⟩
  have hf0 : Fr [] w wa := by rw [hwa]; exact (Fr.refl [] w).alloc _
  have HB : Hid (Blk wa w.heap.size 27 #[.int .i64 0, .int .i64 0]) := Lib.hid (by rw [hwa]; exact Blk.new _ _ _)
  have HR := Lib.hid (hr.fr hf0 (by simp) (by simp))
  have HNF : Hid (¬ w.heap.size ∈ F) := Lib.hid (fun hm => by have := hr.lt _ hm; omega)
  have HG : Hid (g < w.heap.size) := Lib.hid hr.gt
  have HF0 := Lib.hid hf0
  have HWA := Lib.hid hwa
  clear hwa hf0 hr
  go_enter Try.func80, Try.ntmps80
  go_upto_region 1 with (fail)
  change Code.wp _ _ _ _ (w.alloc (Obj.cells #[.int .i64 0, .int .i64 0] 27))
  rw [← HWA.out]
  go_wp2_with fail
  refine (getInt_any HR.out).mono ?_
  rintro e_ w1 ⟨rfl, h1, h2⟩
  have HR0 := Lib.hid h1
  have HF1 : Hid (Fr [g] wa w1) := Lib.hid h2
  clear h1 h2
  go_wp2_with fail
  refine (getInt_any HR0.out).mono ?_
  rintro e_ w2 ⟨rfl, h1, h2⟩
  have HR1 := Lib.hid h1
  have HF2 : Hid (Fr [g] wa w2) := Lib.hid (HF1.out.trans h2 (fun x hx _ => hx))
  clear h1 h2
  have HBE := Lib.hid (HB.out.keep HF2.out (by have := HG.out; simp; omega))
  have HBU : Hid (Try.prog.built 27 [(0, .int .i64 (p2 s).1.1), (1, .int .i64 (p2 s).1.2)] = some #[.int .i64 (p2 s).1.1, .int .i64 (p2 s).1.2]) := Lib.hid (built_p2s _ _)
  have HAL : Hid ((#[.int .i64 (p2 s).1.1, .int .i64 (p2 s).1.2] : Array Value).all (·.oneCell') = true) := Lib.hid (by kernel_rfl)
  have HVS : Hid ((#[.int .i64 (p2 s).1.1, .int .i64 (p2 s).1.2] : Array Value).size = 2) := Lib.hid (rfl)
  have HTS : Hid ((Try.prog.info? 27).map (·.size) = some (#[.int .i64 (p2 s).1.1, .int .i64 (p2 s).1.2] : Array Value).size) := Lib.hid (by rw [HVS.out]; kernel_rfl)
  obtain ⟨V, hV⟩ : ∃ V, V = (#[.int .i64 (p2 s).1.1, .int .i64 (p2 s).1.2] : Array Value) := ⟨_, rfl⟩
  have HV := Lib.hid hV
  rw [← hV] at HBU HAL HVS HTS
  clear hV
  go_wp2_with (first
    | (refine wpList_builtg rfl 27 _ rfl _ _ HBU.out rfl ?_)
    | (refine wpList_store_blk rfl 27 _ _ rfl w.heap.size V rfl rfl 27 #[.int .i64 0, .int .i64 0] HBE.out HTS.out (by rw [HVS.out]; rfl) HAL.out ?_
       intro w9 hb9 hf9
       have HB9 := Lib.hid hb9
       have HF9 := Lib.hid hf9
       clear hb9 hf9))
  refine bodyPost_ret (v := .agg V) (results_cell_row Try.results80 _ _ w.heap.size 27 V _ _ rfl HB9.out Try.underlying27 rfl HTS.out) rfl ⟨by rw [HV.out], ?_, ?_⟩
  · exact HR1.out.fr HF9.out (by have := HG.out; simp; omega) (fun k hk hm => HNF.out (by simp at hm; exact hm ▸ hk))
  · exact Fr.unbox HF0.out HF2.out HF9.out (Nat.le_refl _)
set_option maxHeartbeats 1000000 in
theorem getCommit_any {w : World} {F : List Nat} {g : Nat} {s : Ps} (hr : Rs w F g s) : Calls Try.prog 58 #[.pointer (some ⟨g, 0, none⟩)] w fun e w' => e = .returned (.agg (pCm s).1.cells.toArray) ∧ Rs w' F g (pCm s).2 ∧ Fr [g] w w' := by
  obtain ⟨wa, hwa⟩ : ∃ wa, wa = w.alloc (Obj.cells zCm 29) := ⟨_, rfl⟩
  have hf0 : Fr [] w wa := by rw [hwa]; exact (Fr.refl [] w).alloc _
  have HB : Hid (Blk wa w.heap.size 29 zCm) := Lib.hid (by rw [hwa]; exact Blk.new _ _ _)
  have HR := Lib.hid (hr.fr hf0 (by simp) (by simp))
  have HNF : Hid (¬ w.heap.size ∈ F) := Lib.hid (fun hm => by have := hr.lt _ hm; omega)
  have HG : Hid (g < w.heap.size) := Lib.hid hr.gt
  have HF0 := Lib.hid hf0
  have HWA := Lib.hid hwa
  clear hwa hf0 hr
  go_enter Try.func58, Try.ntmps58
  go_upto_region 1 with (fail)
  change Code.wp _ _ _ _ (w.alloc (Obj.cells zCm 29))
  rw [← HWA.out]
  go_wp2_with fail
  refine (getName_any HR.out).mono ?_
  rintro e_ w1 ⟨rfl, h1, h2⟩
  have HR0 := Lib.hid h1
  have HF1 : Hid (Fr [g] wa w1) := Lib.hid h2
  clear h1 h2
  go_wp2_with fail
  refine (getHash_any HR0.out).mono ?_
  rintro e_ w2 ⟨rfl, h1, h2⟩
  have HR1 := Lib.hid h1
  have HF2 : Hid (Fr [g] wa w2) := Lib.hid (HF1.out.trans h2 (fun x hx _ => hx))
  clear h1 h2
  go_wp2_with fail
  refine (getInt_any HR1.out).mono ?_
  rintro e_ w3 ⟨rfl, h1, h2⟩
  have HR2 := Lib.hid h1
  have HF3 : Hid (Fr [g] wa w3) := Lib.hid (HF2.out.trans h2 (fun x hx _ => hx))
  clear h1 h2
  go_wp2_with fail
  refine (getSig_any HR2.out).mono ?_
  rintro e_ w4 ⟨rfl, h1, h2⟩
  have HR3 := Lib.hid h1
  have HF4 : Hid (Fr [g] wa w4) := Lib.hid (HF3.out.trans h2 (fun x hx _ => hx))
  clear h1 h2
  have HBE := Lib.hid (HB.out.keep HF4.out (by have := HG.out; simp; omega))
  have HBU : Hid (Try.prog.built 29 [(0, .agg #[.int .i64 (pCm s).1.c, .int .i64 (pCm s).1.s]), (1, .agg ((pCm s).1.h.map by8).toArray), (2, .int .i64 (pCm s).1.n), (3, .agg #[.int .i64 (pCm s).1.b, .int .i64 (pCm s).1.m])] = some (pCm s).1.cells.toArray) := Lib.hid (built_cmR _ _ _ _ _ _ (pCm_ok s).h)
  have HAL : Hid (((pCm s).1.cells.toArray : Array Value).all (·.oneCell') = true) := Lib.hid (all_oneCell_toArray (Wcm.one _))
  have HVS : Hid (((pCm s).1.cells.toArray : Array Value).size = 37) := Lib.hid (by rw [List.size_toArray]; exact Wcm.len (pCm_ok s).h)
  have HTS : Hid ((Try.prog.info? 29).map (·.size) = some ((pCm s).1.cells.toArray : Array Value).size) := Lib.hid (by rw [HVS.out]; kernel_rfl)
  obtain ⟨V, hV⟩ : ∃ V, V = ((pCm s).1.cells.toArray : Array Value) := ⟨_, rfl⟩
  have HV := Lib.hid hV
  rw [← hV] at HBU HAL HVS HTS
  clear hV
  go_wp2_with (first
    | (refine wpList_builtg rfl 29 _ rfl _ _ HBU.out rfl ?_)
    | (refine wpList_store_blk rfl 29 _ _ rfl w.heap.size V rfl rfl 29 zCm HBE.out HTS.out (by rw [HVS.out]; rfl) HAL.out ?_
       intro w9 hb9 hf9
       have HB9 := Lib.hid hb9
       have HF9 := Lib.hid hf9
       clear hb9 hf9))
  refine bodyPost_ret (v := .agg V) (results_cell_row Try.results58 _ _ w.heap.size 29 V _ _ rfl HB9.out Try.underlying29 rfl HTS.out) rfl ⟨by rw [HV.out], ?_, ?_⟩
  · exact HR3.out.fr HF9.out (by have := HG.out; simp; omega) (fun k hk hm => HNF.out (by simp at hm; exact hm ▸ hk))
  · exact Fr.unbox HF0.out HF4.out HF9.out (Nat.le_refl _)
set_option maxHeartbeats 1000000 in
theorem getStamp_any {w : World} {F : List Nat} {g : Nat} {s : Ps} (hr : Rs w F g s) : Calls Try.prog 59 #[.pointer (some ⟨g, 0, none⟩)] w fun e w' => e = .returned (.agg (pSt s).1.cells.toArray) ∧ Rs w' F g (pSt s).2 ∧ Fr [g] w w' := by
  obtain ⟨wa, hwa⟩ : ∃ wa, wa = w.alloc (Obj.cells zSt 32) := ⟨_, rfl⟩
  have hf0 : Fr [] w wa := by rw [hwa]; exact (Fr.refl [] w).alloc _
  have HB : Hid (Blk wa w.heap.size 32 zSt) := Lib.hid (by rw [hwa]; exact Blk.new _ _ _)
  have HR := Lib.hid (hr.fr hf0 (by simp) (by simp))
  have HNF : Hid (¬ w.heap.size ∈ F) := Lib.hid (fun hm => by have := hr.lt _ hm; omega)
  have HG : Hid (g < w.heap.size) := Lib.hid hr.gt
  have HF0 := Lib.hid hf0
  have HWA := Lib.hid hwa
  clear hwa hf0 hr
  go_enter Try.func59, Try.ntmps59
  go_upto_region 1 with (fail)
  change Code.wp _ _ _ _ (w.alloc (Obj.cells zSt 32))
  rw [← HWA.out]
  go_wp2_with fail
  refine (getInt_any HR.out).mono ?_
  rintro e_ w1 ⟨rfl, h1, h2⟩
  have HR0 := Lib.hid h1
  have HF1 : Hid (Fr [g] wa w1) := Lib.hid h2
  clear h1 h2
  go_wp2_with fail
  refine (getName_any HR0.out).mono ?_
  rintro e_ w2 ⟨rfl, h1, h2⟩
  have HR1 := Lib.hid h1
  have HF2 : Hid (Fr [g] wa w2) := Lib.hid (HF1.out.trans h2 (fun x hx _ => hx))
  clear h1 h2
  go_wp2_with fail
  refine (getHash_any HR1.out).mono ?_
  rintro e_ w3 ⟨rfl, h1, h2⟩
  have HR2 := Lib.hid h1
  have HF3 : Hid (Fr [g] wa w3) := Lib.hid (HF2.out.trans h2 (fun x hx _ => hx))
  clear h1 h2
  go_wp2_with fail
  refine (getNum_any HR2.out).mono ?_
  rintro e_ w4 ⟨rfl, h1, h2⟩
  have HR3 := Lib.hid h1
  have HF4 : Hid (Fr [g] wa w4) := Lib.hid (HF3.out.trans h2 (fun x hx _ => hx))
  clear h1 h2
  go_wp2_with fail
  refine (getSig_any HR3.out).mono ?_
  rintro e_ w5 ⟨rfl, h1, h2⟩
  have HR4 := Lib.hid h1
  have HF5 : Hid (Fr [g] wa w5) := Lib.hid (HF4.out.trans h2 (fun x hx _ => hx))
  clear h1 h2
  have HBE := Lib.hid (HB.out.keep HF5.out (by have := HG.out; simp; omega))
  have HBU : Hid (Try.prog.built 32 [(0, .int .i64 (pSt s).1.r), (1, .agg #[.int .i64 (pSt s).1.c, .int .i64 (pSt s).1.s]), (2, .agg ((pSt s).1.h.map by8).toArray), (3, .int .u64 ((pSt s).1.t : Int)), (4, .agg #[.int .i64 (pSt s).1.b, .int .i64 (pSt s).1.m])] = some (pSt s).1.cells.toArray) := Lib.hid (built_stR _ _ _ _ _ _ _ (pSt_ok s).h)
  have HAL : Hid (((pSt s).1.cells.toArray : Array Value).all (·.oneCell') = true) := Lib.hid (all_oneCell_toArray (Wst.one _))
  have HVS : Hid (((pSt s).1.cells.toArray : Array Value).size = 38) := Lib.hid (by rw [List.size_toArray]; exact Wst.len (pSt_ok s).h)
  have HTS : Hid ((Try.prog.info? 32).map (·.size) = some ((pSt s).1.cells.toArray : Array Value).size) := Lib.hid (by rw [HVS.out]; kernel_rfl)
  obtain ⟨V, hV⟩ : ∃ V, V = ((pSt s).1.cells.toArray : Array Value) := ⟨_, rfl⟩
  have HV := Lib.hid hV
  rw [← hV] at HBU HAL HVS HTS
  clear hV
  go_wp2_with (first
    | (refine wpList_builtg rfl 32 _ rfl _ _ HBU.out rfl ?_)
    | (refine wpList_store_blk rfl 32 _ _ rfl w.heap.size V rfl rfl 32 zSt HBE.out HTS.out (by rw [HVS.out]; rfl) HAL.out ?_
       intro w9 hb9 hf9
       have HB9 := Lib.hid hb9
       have HF9 := Lib.hid hf9
       clear hb9 hf9))
  refine bodyPost_ret (v := .agg V) (results_cell_row Try.results59 _ _ w.heap.size 32 V _ _ rfl HB9.out Try.underlying32 rfl HTS.out) rfl ⟨by rw [HV.out], ?_, ?_⟩
  · exact HR4.out.fr HF9.out (by have := HG.out; simp; omega) (fun k hk hm => HNF.out (by simp at hm; exact hm ▸ hk))
  · exact Fr.unbox HF0.out HF5.out HF9.out (Nat.le_refl _)
set_option maxHeartbeats 1000000 in
theorem getDeny_any {w : World} {F : List Nat} {g : Nat} {s : Ps} (hr : Rs w F g s) : Calls Try.prog 68 #[.pointer (some ⟨g, 0, none⟩)] w fun e w' => e = .returned (.agg (pDn s).1.cells.toArray) ∧ Rs w' F g (pDn s).2 ∧ Fr [g] w w' := by
  obtain ⟨wa, hwa⟩ : ∃ wa, wa = w.alloc (Obj.cells #[.int .i64 0, .int .i64 0, .int .i64 0, .int .i64 0] 56) := ⟨_, rfl⟩
  have hf0 : Fr [] w wa := by rw [hwa]; exact (Fr.refl [] w).alloc _
  have HB : Hid (Blk wa w.heap.size 56 #[.int .i64 0, .int .i64 0, .int .i64 0, .int .i64 0]) := Lib.hid (by rw [hwa]; exact Blk.new _ _ _)
  have HR := Lib.hid (hr.fr hf0 (by simp) (by simp))
  have HNF : Hid (¬ w.heap.size ∈ F) := Lib.hid (fun hm => by have := hr.lt _ hm; omega)
  have HG : Hid (g < w.heap.size) := Lib.hid hr.gt
  have HF0 := Lib.hid hf0
  have HWA := Lib.hid hwa
  clear hwa hf0 hr
  go_enter Try.func68, Try.ntmps68
  go_upto_region 1 with (fail)
  change Code.wp _ _ _ _ (w.alloc (Obj.cells #[.int .i64 0, .int .i64 0, .int .i64 0, .int .i64 0] 56))
  rw [← HWA.out]
  go_wp2_with fail
  refine (getInt_any HR.out).mono ?_
  rintro e_ w1 ⟨rfl, h1, h2⟩
  have HR0 := Lib.hid h1
  have HF1 : Hid (Fr [g] wa w1) := Lib.hid h2
  clear h1 h2
  go_wp2_with fail
  refine (getInt_any HR0.out).mono ?_
  rintro e_ w2 ⟨rfl, h1, h2⟩
  have HR1 := Lib.hid h1
  have HF2 : Hid (Fr [g] wa w2) := Lib.hid (HF1.out.trans h2 (fun x hx _ => hx))
  clear h1 h2
  go_wp2_with fail
  refine (getSig_any HR1.out).mono ?_
  rintro e_ w3 ⟨rfl, h1, h2⟩
  have HR2 := Lib.hid h1
  have HF3 : Hid (Fr [g] wa w3) := Lib.hid (HF2.out.trans h2 (fun x hx _ => hx))
  clear h1 h2
  have HBE := Lib.hid (HB.out.keep HF3.out (by have := HG.out; simp; omega))
  have HBU : Hid (Try.prog.built 56 [(0, .int .i64 (pDn s).1.r), (1, .int .i64 (pDn s).1.i), (2, .agg #[.int .i64 (pDn s).1.b, .int .i64 (pDn s).1.m])] = some (pDn s).1.cells.toArray) := Lib.hid (built_dnR _ _ _ _)
  have HAL : Hid (((pDn s).1.cells.toArray : Array Value).all (·.oneCell') = true) := Lib.hid (all_oneCell_toArray (Wdn.one _))
  have HVS : Hid (((pDn s).1.cells.toArray : Array Value).size = 4) := Lib.hid (rfl)
  have HTS : Hid ((Try.prog.info? 56).map (·.size) = some ((pDn s).1.cells.toArray : Array Value).size) := Lib.hid (by rw [HVS.out]; kernel_rfl)
  obtain ⟨V, hV⟩ : ∃ V, V = ((pDn s).1.cells.toArray : Array Value) := ⟨_, rfl⟩
  have HV := Lib.hid hV
  rw [← hV] at HBU HAL HVS HTS
  clear hV
  go_wp2_with (first
    | (refine wpList_builtg rfl 56 _ rfl _ _ HBU.out rfl ?_)
    | (refine wpList_store_blk rfl 56 _ _ rfl w.heap.size V rfl rfl 56 #[.int .i64 0, .int .i64 0, .int .i64 0, .int .i64 0] HBE.out HTS.out (by rw [HVS.out]; rfl) HAL.out ?_
       intro w9 hb9 hf9
       have HB9 := Lib.hid hb9
       have HF9 := Lib.hid hf9
       clear hb9 hf9))
  refine bodyPost_ret (v := .agg V) (results_cell_row Try.results68 _ _ w.heap.size 56 V _ _ rfl HB9.out Try.underlying56 rfl HTS.out) rfl ⟨by rw [HV.out], ?_, ?_⟩
  · exact HR2.out.fr HF9.out (by have := HG.out; simp; omega) (fun k hk hm => HNF.out (by simp at hm; exact hm ▸ hk))
  · exact Fr.unbox HF0.out HF3.out HF9.out (Nat.le_refl _)
end Go.Proofs.Ytnpjihdhpoddgaa

namespace Go.Proofs.Ytnpjihdhpoddgaa
open Go.ChangeShapes Go.WideShapes Go.ChangeAt Go.RowKit
set_option maxRecDepth 100000

theorem i64In_of {z : Int} (h : (Lit.int .i64 z).wf = true) : i64In z := i64_of h
theorem name_open {H : Type} {enc : TypeId × Value → H} {W : World} {r : Reach} {base b0 : Nat} {v : Value} {d : DataW H} {p : List MemPlace} {sp : Nat → Bool} {held : Bool} (hv : Value.okWide Try.prog W r base 23 v) (h : DataW.Trod enc Try.prog W b0 sp held 23 v d p) (hb : b0 = 0) :
    ∃ c s : Int, i64In c ∧ i64In s ∧ v = .agg #[.int .i64 c, .int .i64 s] := by
  subst hb
  unfold Value.okWide at hv
  rw [Try.underlying23] at hv
  obtain ⟨cs, rfl, -⟩ := hv
  obtain ⟨fuel, hf⟩ := h
  obtain ⟨xs, m, _, _, hlen, hxl, hat⟩ := DataW.trod_struct Try.underlying23 (show DataW.trod enc Try.prog W 0 sp held fuel 23 cs.toList = some (d, p) from hf)
  rw [show Try.prog.cellsOf 23 = 2 by kernel_rfl] at hlen
  have c1 : Try.prog.cellsOf 3 = 1 := by kernel_rfl
  have hx : ∀ i (hi : i < 2), xs[i]? = some (xs[i]'(by rw [hxl]; exact hi)) := fun i hi => List.getElem?_eq_getElem _
  have f0 : DataW.trod enc Try.prog W 0 sp held m 3 ((cs.toList.drop 0).take (Try.prog.cellsOf 3)) = _ := (hat 0 _ rfl).trans (hx 0 (by omega))
  have f1 : DataW.trod enc Try.prog W 0 sp held m 3 ((cs.toList.drop 1).take (Try.prog.cellsOf 3)) = _ := (hat 1 _ rfl).trans (hx 1 (by omega))
  rw [c1] at f0 f1
  obtain ⟨c, e0, _, w0⟩ := DataW.trod_int Try.underlying3 f0
  obtain ⟨s, e1, _, w1⟩ := DataW.trod_int Try.underlying3 f1
  have hcs : cs.toList = [.int .i64 c, .int .i64 s] := by
    match hL : cs.toList, hlen with
    | [x, y], _ =>
      rw [hL] at e0 e1
      simp at e0 e1
      rw [e0, e1]
  refine ⟨c, s, i64In_of w0, i64In_of w1, ?_⟩
  rw [← Array.toArray_toList (xs := cs), hcs]
end Go.Proofs.Ytnpjihdhpoddgaa

namespace Go.Proofs.Ytnpjihdhpoddgaa
open Go.ChangeShapes Go.WideShapes Go.ChangeAt Go.RowKit
set_option maxRecDepth 100000
theorem pair_of_trod {H : Type} {enc : TypeId × Value → H} {W : World} {sp : Nat → Bool} {held : Bool} {ty : TypeId} {x y : Field} (hu : Try.prog.underlying ty = some (.struct #[x, y])) (hx : x.type = 3 ∧ x.offset = 0) (hy : y.type = 3 ∧ y.offset = 1) (hc2 : Try.prog.cellsOf ty = 2)
    {fuel : Nat} {cs : List Value} {r : DataW H × List MemPlace} (h : DataW.trod enc Try.prog W 0 sp held fuel ty cs = some r) : ∃ c s : Int, i64In c ∧ i64In s ∧ cs = [.int .i64 c, .int .i64 s] := by
  obtain ⟨xs, m, _, _, hlen, hxl, hat⟩ := DataW.trod_struct hu h
  rw [hc2] at hlen
  have c1 : Try.prog.cellsOf 3 = 1 := by kernel_rfl
  have hx2 : ∀ i (hi : i < 2), xs[i]? = some (xs[i]'(by rw [hxl]; exact hi)) := fun i hi => List.getElem?_eq_getElem _
  have f0 : DataW.trod enc Try.prog W 0 sp held m x.type ((cs.drop x.offset).take (Try.prog.cellsOf x.type)) = _ := (hat 0 _ rfl).trans (hx2 0 (by omega))
  have f1 : DataW.trod enc Try.prog W 0 sp held m y.type ((cs.drop y.offset).take (Try.prog.cellsOf y.type)) = _ := (hat 1 _ rfl).trans (hx2 1 (by omega))
  rw [hx.1, hx.2, c1] at f0
  rw [hy.1, hy.2, c1] at f1
  obtain ⟨c, e0, _, w0⟩ := DataW.trod_int Try.underlying3 f0
  obtain ⟨s, e1, _, w1⟩ := DataW.trod_int Try.underlying3 f1
  refine ⟨c, s, i64In_of w0, i64In_of w1, ?_⟩
  match hL : cs, hlen with
  | [x, y], _ =>
    simp at e0 e1
    rw [e0, e1]
theorem commit_open {H : Type} {enc : TypeId × Value → H} {W : World} {r : Reach} {base b0 : Nat} {v : Value} {d : DataW H} {p : List MemPlace} {sp : Nat → Bool} {held : Bool} (hv : Value.okWide Try.prog W r base 29 v) (h : DataW.Trod enc Try.prog W b0 sp held 29 v d p) (hb : b0 = 0) :
    ∃ x : Cm, x.Ok ∧ v = x.val := by
  subst hb
  unfold Value.okWide at hv
  rw [Try.underlying29] at hv
  obtain ⟨cs, rfl, -⟩ := hv
  obtain ⟨fuel, hf⟩ := h
  obtain ⟨xs, m, _, _, hlen, hxl, hat⟩ := DataW.trod_struct Try.underlying29 (show DataW.trod enc Try.prog W 0 sp held fuel 29 cs.toList = some (d, p) from hf)
  rw [show Try.prog.cellsOf 29 = 37 by kernel_rfl] at hlen
  have c1 : Try.prog.cellsOf 3 = 1 := by kernel_rfl
  have c2 : Try.prog.cellsOf 23 = 2 := by kernel_rfl
  have c3 : Try.prog.cellsOf 25 = 32 := by kernel_rfl
  have c4 : Try.prog.cellsOf 27 = 2 := by kernel_rfl
  have hx : ∀ i (hi : i < 4), xs[i]? = some (xs[i]'(by rw [hxl]; exact hi)) := fun i hi => List.getElem?_eq_getElem _
  have f0 : DataW.trod enc Try.prog W 0 sp held m 23 ((cs.toList.drop 0).take (Try.prog.cellsOf 23)) = _ := (hat 0 _ rfl).trans (hx 0 (by omega))
  have f1 : DataW.trod enc Try.prog W 0 sp held m 25 ((cs.toList.drop 2).take (Try.prog.cellsOf 25)) = _ := (hat 1 _ rfl).trans (hx 1 (by omega))
  have f2 : DataW.trod enc Try.prog W 0 sp held m 3 ((cs.toList.drop 34).take (Try.prog.cellsOf 3)) = _ := (hat 2 _ rfl).trans (hx 2 (by omega))
  have f3 : DataW.trod enc Try.prog W 0 sp held m 27 ((cs.toList.drop 35).take (Try.prog.cellsOf 27)) = _ := (hat 3 _ rfl).trans (hx 3 (by omega))
  rw [c2] at f0
  rw [c3] at f1
  rw [c1] at f2
  rw [c4] at f3
  obtain ⟨c, s, hc, hs, e0⟩ := pair_of_trod Try.underlying23 ⟨rfl, rfl⟩ ⟨rfl, rfl⟩ c2 f0
  obtain ⟨hh, hl, e1⟩ := hash_of_trod f1
  obtain ⟨n, e2, _, w2⟩ := DataW.trod_int Try.underlying3 f2
  obtain ⟨b, m', hb, hm, e3⟩ := pair_of_trod Try.underlying27 ⟨rfl, rfl⟩ ⟨rfl, rfl⟩ c4 f3
  refine ⟨⟨c, s, hh, n, b, m'⟩, ⟨hc, hs, hl, i64In_of w2, hb, hm⟩, ?_⟩
  have key : cs.toList = Cm.cells ⟨c, s, hh, n, b, m'⟩ := by
    have d0 : cs.toList = cs.toList.take 2 ++ ((cs.toList.drop 2).take 32 ++ ((cs.toList.drop 34).take 1 ++ (cs.toList.drop 35).take 2)) := by
      have t3 : (cs.toList.drop 35).take 2 = cs.toList.drop 35 := List.take_of_length_le (by rw [List.length_drop, hlen]; omega)
      have s1 : (cs.toList.drop 34).take 1 ++ cs.toList.drop 35 = cs.toList.drop 34 := by
        have := List.take_append_drop 1 (cs.toList.drop 34)
        rwa [List.drop_drop] at this
      have s2 : (cs.toList.drop 2).take 32 ++ cs.toList.drop 34 = cs.toList.drop 2 := by
        have := List.take_append_drop 32 (cs.toList.drop 2)
        rwa [List.drop_drop] at this
      rw [t3, s1, s2, List.take_append_drop]
    rw [d0, e1, e2, e3, show cs.toList.take 2 = (cs.toList.drop 0).take 2 by rw [List.drop_zero], e0]
    rfl
  show Value.agg cs = Value.agg _
  rw [← key, Array.toArray_toList]
end Go.Proofs.Ytnpjihdhpoddgaa

namespace Go.Proofs.Ytnpjihdhpoddgaa
open Go.ChangeShapes Go.WideShapes Go.ChangeAt Go.RowKit
set_option maxRecDepth 100000
theorem cut_at {α : Type} (l : List α) (o n k : Nat) (hk : o + n = k) : l.drop o = (l.drop o).take n ++ l.drop k := by
  subst hk
  rw [← List.drop_drop, List.take_append_drop]
theorem stamp_open {H : Type} {enc : TypeId × Value → H} {W : World} {r : Reach} {base b0 : Nat} {v : Value} {d : DataW H} {p : List MemPlace} {sp : Nat → Bool} {held : Bool} (hv : Value.okWide Try.prog W r base 32 v) (h : DataW.Trod enc Try.prog W b0 sp held 32 v d p) (hb : b0 = 0) :
    ∃ x : Wst, x.Ok ∧ v = x.val := by
  subst hb
  unfold Value.okWide at hv
  rw [Try.underlying32] at hv
  obtain ⟨cs, rfl, -⟩ := hv
  obtain ⟨fuel, hf⟩ := h
  obtain ⟨xs, m, _, _, hlen, hxl, hat⟩ := DataW.trod_struct Try.underlying32 (show DataW.trod enc Try.prog W 0 sp held fuel 32 cs.toList = some (d, p) from hf)
  rw [show Try.prog.cellsOf 32 = 38 by kernel_rfl] at hlen
  have hx : ∀ i (hi : i < 5), xs[i]? = some (xs[i]'(by rw [hxl]; exact hi)) := fun i hi => List.getElem?_eq_getElem _
  have f0 : DataW.trod enc Try.prog W 0 sp held m 3 ((cs.toList.drop 0).take (Try.prog.cellsOf 3)) = _ := (hat 0 _ rfl).trans (hx 0 (by omega))
  rw [show Try.prog.cellsOf 3 = 1 by kernel_rfl] at f0
  obtain ⟨r, e0, _, w0⟩ := DataW.trod_int Try.underlying3 f0
  have f1 : DataW.trod enc Try.prog W 0 sp held m 23 ((cs.toList.drop 1).take (Try.prog.cellsOf 23)) = _ := (hat 1 _ rfl).trans (hx 1 (by omega))
  rw [show Try.prog.cellsOf 23 = 2 by kernel_rfl] at f1
  obtain ⟨c, s, w1, w1', e1⟩ := pair_of_trod Try.underlying23 ⟨rfl, rfl⟩ ⟨rfl, rfl⟩ (by kernel_rfl) f1
  have f2 : DataW.trod enc Try.prog W 0 sp held m 25 ((cs.toList.drop 3).take (Try.prog.cellsOf 25)) = _ := (hat 2 _ rfl).trans (hx 2 (by omega))
  rw [show Try.prog.cellsOf 25 = 32 by kernel_rfl] at f2
  obtain ⟨hh, w2, e2⟩ := hash_of_trod f2
  have f3 : DataW.trod enc Try.prog W 0 sp held m 30 ((cs.toList.drop 35).take (Try.prog.cellsOf 30)) = _ := (hat 3 _ rfl).trans (hx 3 (by omega))
  rw [show Try.prog.cellsOf 30 = 1 by kernel_rfl] at f3
  obtain ⟨u3, e3, _, w3⟩ := DataW.trod_int Try.underlying30 f3
  obtain ⟨t, rfl, b3⟩ := u64_of w3
  have f4 : DataW.trod enc Try.prog W 0 sp held m 27 ((cs.toList.drop 36).take (Try.prog.cellsOf 27)) = _ := (hat 4 _ rfl).trans (hx 4 (by omega))
  rw [show Try.prog.cellsOf 27 = 2 by kernel_rfl] at f4
  obtain ⟨b, mm, w4, w4', e4⟩ := pair_of_trod Try.underlying27 ⟨rfl, rfl⟩ ⟨rfl, rfl⟩ (by kernel_rfl) f4
  refine ⟨⟨r, c, s, hh, t, b, mm⟩, ⟨i64In_of w0, w1, w1', w2, b3, w4, w4'⟩, ?_⟩
  have key : cs.toList = Wst.cells ⟨r, c, s, hh, t, b, mm⟩ := by
    have z : cs.toList.drop 38 = [] := List.drop_eq_nil_of_le (by omega)
    have s0 : cs.toList = cs.toList.drop 0 := rfl
    rw [s0, cut_at cs.toList 0 1 1 rfl, e0, cut_at cs.toList 1 2 3 rfl, e1, cut_at cs.toList 3 32 35 rfl, e2, cut_at cs.toList 35 1 36 rfl, e3, cut_at cs.toList 36 2 38 rfl, e4, z]
    simp [Wst.cells]
  show Value.agg cs = Value.agg _
  rw [← key, Array.toArray_toList]
theorem ack_open {H : Type} {enc : TypeId × Value → H} {W : World} {r : Reach} {base b0 : Nat} {v : Value} {d : DataW H} {p : List MemPlace} {sp : Nat → Bool} {held : Bool} (hv : Value.okWide Try.prog W r base 37 v) (h : DataW.Trod enc Try.prog W b0 sp held 37 v d p) (hb : b0 = 0) :
    ∃ x : Wst, x.Ok ∧ v = x.val := by
  subst hb
  unfold Value.okWide at hv
  rw [Try.underlying37] at hv
  obtain ⟨cs, rfl, -⟩ := hv
  obtain ⟨fuel, hf⟩ := h
  obtain ⟨xs, m, _, _, hlen, hxl, hat⟩ := DataW.trod_struct Try.underlying37 (show DataW.trod enc Try.prog W 0 sp held fuel 37 cs.toList = some (d, p) from hf)
  rw [show Try.prog.cellsOf 37 = 38 by kernel_rfl] at hlen
  have hx : ∀ i (hi : i < 5), xs[i]? = some (xs[i]'(by rw [hxl]; exact hi)) := fun i hi => List.getElem?_eq_getElem _
  have f0 : DataW.trod enc Try.prog W 0 sp held m 3 ((cs.toList.drop 0).take (Try.prog.cellsOf 3)) = _ := (hat 0 _ rfl).trans (hx 0 (by omega))
  rw [show Try.prog.cellsOf 3 = 1 by kernel_rfl] at f0
  obtain ⟨r, e0, _, w0⟩ := DataW.trod_int Try.underlying3 f0
  have f1 : DataW.trod enc Try.prog W 0 sp held m 23 ((cs.toList.drop 1).take (Try.prog.cellsOf 23)) = _ := (hat 1 _ rfl).trans (hx 1 (by omega))
  rw [show Try.prog.cellsOf 23 = 2 by kernel_rfl] at f1
  obtain ⟨c, s, w1, w1', e1⟩ := pair_of_trod Try.underlying23 ⟨rfl, rfl⟩ ⟨rfl, rfl⟩ (by kernel_rfl) f1
  have f2 : DataW.trod enc Try.prog W 0 sp held m 25 ((cs.toList.drop 3).take (Try.prog.cellsOf 25)) = _ := (hat 2 _ rfl).trans (hx 2 (by omega))
  rw [show Try.prog.cellsOf 25 = 32 by kernel_rfl] at f2
  obtain ⟨hh, w2, e2⟩ := hash_of_trod f2
  have f3 : DataW.trod enc Try.prog W 0 sp held m 30 ((cs.toList.drop 35).take (Try.prog.cellsOf 30)) = _ := (hat 3 _ rfl).trans (hx 3 (by omega))
  rw [show Try.prog.cellsOf 30 = 1 by kernel_rfl] at f3
  obtain ⟨u3, e3, _, w3⟩ := DataW.trod_int Try.underlying30 f3
  obtain ⟨t, rfl, b3⟩ := u64_of w3
  have f4 : DataW.trod enc Try.prog W 0 sp held m 27 ((cs.toList.drop 36).take (Try.prog.cellsOf 27)) = _ := (hat 4 _ rfl).trans (hx 4 (by omega))
  rw [show Try.prog.cellsOf 27 = 2 by kernel_rfl] at f4
  obtain ⟨b, mm, w4, w4', e4⟩ := pair_of_trod Try.underlying27 ⟨rfl, rfl⟩ ⟨rfl, rfl⟩ (by kernel_rfl) f4
  refine ⟨⟨r, c, s, hh, t, b, mm⟩, ⟨i64In_of w0, w1, w1', w2, b3, w4, w4'⟩, ?_⟩
  have key : cs.toList = Wst.cells ⟨r, c, s, hh, t, b, mm⟩ := by
    have z : cs.toList.drop 38 = [] := List.drop_eq_nil_of_le (by omega)
    have s0 : cs.toList = cs.toList.drop 0 := rfl
    rw [s0, cut_at cs.toList 0 1 1 rfl, e0, cut_at cs.toList 1 2 3 rfl, e1, cut_at cs.toList 3 32 35 rfl, e2, cut_at cs.toList 35 1 36 rfl, e3, cut_at cs.toList 36 2 38 rfl, e4, z]
    simp [Wst.cells]
  show Value.agg cs = Value.agg _
  rw [← key, Array.toArray_toList]
theorem vote_open {H : Type} {enc : TypeId × Value → H} {W : World} {r : Reach} {base b0 : Nat} {v : Value} {d : DataW H} {p : List MemPlace} {sp : Nat → Bool} {held : Bool} (hv : Value.okWide Try.prog W r base 49 v) (h : DataW.Trod enc Try.prog W b0 sp held 49 v d p) (hb : b0 = 0) :
    ∃ x : Wvt, x.Ok ∧ v = x.val := by
  subst hb
  unfold Value.okWide at hv
  rw [Try.underlying49] at hv
  obtain ⟨cs, rfl, -⟩ := hv
  obtain ⟨fuel, hf⟩ := h
  obtain ⟨xs, m, _, _, hlen, hxl, hat⟩ := DataW.trod_struct Try.underlying49 (show DataW.trod enc Try.prog W 0 sp held fuel 49 cs.toList = some (d, p) from hf)
  rw [show Try.prog.cellsOf 49 = 38 by kernel_rfl] at hlen
  have hx : ∀ i (hi : i < 6), xs[i]? = some (xs[i]'(by rw [hxl]; exact hi)) := fun i hi => List.getElem?_eq_getElem _
  have f0 : DataW.trod enc Try.prog W 0 sp held m 3 ((cs.toList.drop 0).take (Try.prog.cellsOf 3)) = _ := (hat 0 _ rfl).trans (hx 0 (by omega))
  rw [show Try.prog.cellsOf 3 = 1 by kernel_rfl] at f0
  obtain ⟨k, e0, _, w0⟩ := DataW.trod_int Try.underlying3 f0
  have f1 : DataW.trod enc Try.prog W 0 sp held m 3 ((cs.toList.drop 1).take (Try.prog.cellsOf 3)) = _ := (hat 1 _ rfl).trans (hx 1 (by omega))
  rw [show Try.prog.cellsOf 3 = 1 by kernel_rfl] at f1
  obtain ⟨e, e1, _, w1⟩ := DataW.trod_int Try.underlying3 f1
  have f2 : DataW.trod enc Try.prog W 0 sp held m 3 ((cs.toList.drop 2).take (Try.prog.cellsOf 3)) = _ := (hat 2 _ rfl).trans (hx 2 (by omega))
  rw [show Try.prog.cellsOf 3 = 1 by kernel_rfl] at f2
  obtain ⟨rr, e2, _, w2⟩ := DataW.trod_int Try.underlying3 f2
  have f3 : DataW.trod enc Try.prog W 0 sp held m 3 ((cs.toList.drop 3).take (Try.prog.cellsOf 3)) = _ := (hat 3 _ rfl).trans (hx 3 (by omega))
  rw [show Try.prog.cellsOf 3 = 1 by kernel_rfl] at f3
  obtain ⟨pp, e3, _, w3⟩ := DataW.trod_int Try.underlying3 f3
  have f4 : DataW.trod enc Try.prog W 0 sp held m 25 ((cs.toList.drop 4).take (Try.prog.cellsOf 25)) = _ := (hat 4 _ rfl).trans (hx 4 (by omega))
  rw [show Try.prog.cellsOf 25 = 32 by kernel_rfl] at f4
  obtain ⟨hh, w4, e4⟩ := hash_of_trod f4
  have f5 : DataW.trod enc Try.prog W 0 sp held m 27 ((cs.toList.drop 36).take (Try.prog.cellsOf 27)) = _ := (hat 5 _ rfl).trans (hx 5 (by omega))
  rw [show Try.prog.cellsOf 27 = 2 by kernel_rfl] at f5
  obtain ⟨b, mm, w5, w5', e5⟩ := pair_of_trod Try.underlying27 ⟨rfl, rfl⟩ ⟨rfl, rfl⟩ (by kernel_rfl) f5
  refine ⟨⟨k, e, rr, pp, hh, b, mm⟩, ⟨i64In_of w0, i64In_of w1, i64In_of w2, i64In_of w3, w4, w5, w5'⟩, ?_⟩
  have key : cs.toList = Wvt.cells ⟨k, e, rr, pp, hh, b, mm⟩ := by
    have z : cs.toList.drop 38 = [] := List.drop_eq_nil_of_le (by omega)
    have s0 : cs.toList = cs.toList.drop 0 := rfl
    rw [s0, cut_at cs.toList 0 1 1 rfl, e0, cut_at cs.toList 1 1 2 rfl, e1, cut_at cs.toList 2 1 3 rfl, e2, cut_at cs.toList 3 1 4 rfl, e3, cut_at cs.toList 4 32 36 rfl, e4, cut_at cs.toList 36 2 38 rfl, e5, z]
    simp [Wvt.cells]
  show Value.agg cs = Value.agg _
  rw [← key, Array.toArray_toList]
theorem deny_open {H : Type} {enc : TypeId × Value → H} {W : World} {r : Reach} {base b0 : Nat} {v : Value} {d : DataW H} {p : List MemPlace} {sp : Nat → Bool} {held : Bool} (hv : Value.okWide Try.prog W r base 56 v) (h : DataW.Trod enc Try.prog W b0 sp held 56 v d p) (hb : b0 = 0) :
    ∃ x : Wdn, x.Ok ∧ v = x.val := by
  subst hb
  unfold Value.okWide at hv
  rw [Try.underlying56] at hv
  obtain ⟨cs, rfl, -⟩ := hv
  obtain ⟨fuel, hf⟩ := h
  obtain ⟨xs, m, _, _, hlen, hxl, hat⟩ := DataW.trod_struct Try.underlying56 (show DataW.trod enc Try.prog W 0 sp held fuel 56 cs.toList = some (d, p) from hf)
  rw [show Try.prog.cellsOf 56 = 4 by kernel_rfl] at hlen
  have hx : ∀ i (hi : i < 3), xs[i]? = some (xs[i]'(by rw [hxl]; exact hi)) := fun i hi => List.getElem?_eq_getElem _
  have f0 : DataW.trod enc Try.prog W 0 sp held m 3 ((cs.toList.drop 0).take (Try.prog.cellsOf 3)) = _ := (hat 0 _ rfl).trans (hx 0 (by omega))
  rw [show Try.prog.cellsOf 3 = 1 by kernel_rfl] at f0
  obtain ⟨r, e0, _, w0⟩ := DataW.trod_int Try.underlying3 f0
  have f1 : DataW.trod enc Try.prog W 0 sp held m 3 ((cs.toList.drop 1).take (Try.prog.cellsOf 3)) = _ := (hat 1 _ rfl).trans (hx 1 (by omega))
  rw [show Try.prog.cellsOf 3 = 1 by kernel_rfl] at f1
  obtain ⟨i, e1, _, w1⟩ := DataW.trod_int Try.underlying3 f1
  have f2 : DataW.trod enc Try.prog W 0 sp held m 27 ((cs.toList.drop 2).take (Try.prog.cellsOf 27)) = _ := (hat 2 _ rfl).trans (hx 2 (by omega))
  rw [show Try.prog.cellsOf 27 = 2 by kernel_rfl] at f2
  obtain ⟨b, mm, w2, w2', e2⟩ := pair_of_trod Try.underlying27 ⟨rfl, rfl⟩ ⟨rfl, rfl⟩ (by kernel_rfl) f2
  refine ⟨⟨r, i, b, mm⟩, ⟨i64In_of w0, i64In_of w1, w2, w2'⟩, ?_⟩
  have key : cs.toList = Wdn.cells ⟨r, i, b, mm⟩ := by
    have z : cs.toList.drop 4 = [] := List.drop_eq_nil_of_le (by omega)
    have s0 : cs.toList = cs.toList.drop 0 := rfl
    rw [s0, cut_at cs.toList 0 1 1 rfl, e0, cut_at cs.toList 1 1 2 rfl, e1, cut_at cs.toList 2 2 4 rfl, e2, z]
    simp [Wdn.cells]
  show Value.agg cs = Value.agg _
  rw [← key, Array.toArray_toList]
end Go.Proofs.Ytnpjihdhpoddgaa

namespace Go.Proofs.Ytnpjihdhpoddgaa
open Go.RowKit
set_option maxRecDepth 100000

set_option maxHeartbeats 2000000 in
theorem putCerts_any {α : Type} (cells : α → List Value) (ok : World → List Nat → α → Prop) (full : α → List UInt8) (N : Nat) (hone : ∀ v, ∀ u ∈ cells v, u.oneCell' = true) (hsz : (Try.prog.info? 35).map (·.size) = some 38)
    (hfull : ∀ W S v, ok W S v → (full v).length ≤ N)
    (hput : ∀ (v : α) (W : World) (S : List Nat) (g : Nat) (l : List UInt8), ok W S v → Wr W S g l → l.length + N ≤ 1073741000 → Calls Try.prog 24 #[.pointer (some ⟨g, 0, none⟩), .agg (cells v).toArray] W fun e w' => e = .returned (.pointer (some ⟨g, 0, none⟩)) ∧ Gr W S g (l ++ full v) w')
    (w : World) (S : List Nat) (g : Nat) (l : List UInt8) (hw : Wr w S g l) (A : Option Addr) (n c : Nat) (xs : List α) (hx : Lst 38 cells (fun w v => ok w S v) w A n xs) (hn : n ≤ 1000) (hA : 0 < n → ∀ a, A = some a → ¬ a.block ∈ S)
    (hkeep : ∀ W S', Fr S w W → (∀ x ∈ S', x < w.heap.size → x ∈ S) → ∀ v ∈ xs, ok w S v → ok W S' v) (hl : l.length + 20 + (n + 1) * N ≤ 1073741000) :
    Calls Try.prog 71 #[.pointer (some ⟨g, 0, none⟩), fnV 24, .slice A n c] w fun e w' => e = .returned (.pointer (some ⟨g, 0, none⟩)) ∧ Gr w S g (l ++ listL full xs) w' := by
  have HG0 := Lib.hid (Gr.refl hw)
  have HX := Lib.hid hx
  have HA := Lib.hid hA
  have HL := Lib.hid hl
  have HKP := Lib.hid hkeep
  have HSL := Lib.hid hw.lt
  have hxn := hx.1
  clear hw hx hA hl hkeep
  unfold fnV
  go_enter Try.func71, Try.ntmps71
  go_wp2_with fail
  refine (HG0.out.call fun S1 k1 => int_any (n : Int) (by omega) (by omega) _ S1 g _ k1 (by have := HL.out; omega)).mono ?_
  rintro e w1 ⟨rfl, hg1⟩
  have HG1 := Lib.hid hg1
  clear hg1 HG0
  go_wp2_with fail
  go_loopw [15] (fun i wr => ∃ k : Nat, k ≤ n ∧ i = .int .i64 k ∧ Gr w S g (l ++ encI (n : Int) ++ (xs.take k).flatMap full) wr) (fun i _ => n - (intOf i).toNat)
  case atStart => exact ⟨0, by omega, rfl, by simpa using HG1.out⟩
  case round =>
    obtain ⟨k, hk, rfl, hg⟩ := hrel
    have HG := Lib.hid hg
    clear hg
    by_cases hlt : k < n
    · obtain ⟨ad, v, rfl, hv, hcl, hok, hc⟩ := HX.out.at hlt
      have HV := Lib.hid hv
      have HCL := Lib.hid hcl
      have HOK := Lib.hid hok
      have HMEM := Lib.hid (List.mem_of_getElem? hv)
      have HC := Lib.hid (fun j x hj => HG.out.fr.cell (hc j x hj) (by rw [add_block, add_block]; exact HA.out (by omega) ad rfl))
      have HONE := Lib.hid (hone v)
      have HPUT := Lib.hid (hput v)
      have hk0 : (0 : Int) ≤ k := by omega
      have hlen : ((xs.take k).flatMap full).length ≤ k * N := flat_len (fun v hv => hfull w S v (HX.out.2.1 v (List.mem_of_mem_take hv)).2) (by rw [List.length_take]; omega)
      have hkn2 : k * N + N ≤ (n + 1) * N := by rw [← Nat.succ_mul]; exact Nat.mul_le_mul_right N (by omega)
      have HLEN : Hid ((l ++ encI (n : Int) ++ (xs.take k).flatMap full).length + N ≤ 1073741000) := Lib.hid (by have := HL.out; have := encI_len (n : Int) (by omega); simp only [List.length_append]; omega)
      have HTK : Hid ((xs.take (k + 1)).flatMap full = (xs.take k).flatMap full ++ full v) := Lib.hid (by rw [List.take_add_one, hv]; simp)
      have HFV := Lib.hid (rfl : cells v = cells v)
      clear hv hcl hok hc hlen hkn2
      generalize hcv : cells v = C at *
      go_wp2_with (first
        | (refine wpList_cells rfl 35 _ rfl _ rfl C HC.out (row_crt.of HCL.out) ?_)
        | (refine wpList_store_box rfl 35 _ _ rfl _ 35 C rfl rfl (by rw [hsz, HCL.out]) (by rw [HCL.out]; rfl) HONE.out ?_
           intro wb hbb hfb
           have HBB := Lib.hid hbb
           have HFB := Lib.hid hfb
           clear hbb hfb)
        | (refine wpList_row rfl 35 _ rfl _ _ rfl _ HBB.out.range (row_crt.of HCL.out) ?_))
      have HGB := Lib.hid (HG.out.trans (fun S1 k => ⟨S1, k.keep HFB.out (by simp), HFB.out.mono (by simp), fun x hx _ => hx⟩))
      refine (HGB.out.calls fun S1 k1 f1 s1 => HPUT.out _ S1 g _ (HKP.out wb S1 f1 s1 v HMEM.out HOK.out) k1 HLEN.out).mono ?_
      rintro e w2 ⟨rfl, hg2⟩
      have HG2 := Lib.hid hg2
      clear hg2
      go_wp2
      exact ⟨⟨k + 1, by omega, rfl, HG2.out.eq (by rw [HTK.out, List.append_assoc])⟩, by simp only [intOf, Int.toNat_natCast, Int.toNat_natCast_add_one]; omega⟩
    · have hkn : k = n := by omega
      subst hkn
      have HFIN : Hid (Gr w S g (l ++ listL full xs) wr) := Lib.hid (HG.out.eq (by rw [List.take_of_length_le (by omega), listL, hxn, List.append_assoc]))
      clear HG
      go_wp2
      go_ret
      exact ⟨rfl, HFIN.out⟩
/-- a promise: its fields, and where its certificates lie -/
structure Wpr where
  r : Int
  e : Int
  t : Nat
  A : Option Addr
  n : Nat
  d : Nat
  l : List Wce
  b : Int
  m : Int
def Wpr.cells (x : Wpr) : List Value := [.int .i64 x.r, .int .i64 x.e, .int .u64 (x.t : Int), .slice x.A x.n x.d, .int .i64 x.b, .int .i64 x.m]
def Wpr.val (x : Wpr) : Value := .agg x.cells.toArray
/-- it lies in w, apart from S -/
structure Wpr.Ok (w : World) (S : List Nat) (x : Wpr) : Prop where
  r : i64In x.r
  e : i64In x.e
  t : x.t < 18446744073709551616
  l : Lst 38 Wce.cells (fun w v => v.Ok w S) w x.A x.n x.l
  n : x.n ≤ 3
  ap : 0 < x.n → ∀ a, x.A = some a → ¬ a.block ∈ S
  b : i64In x.b
  m : i64In x.m
theorem Wpr.one (x : Wpr) : ∀ v ∈ x.cells, v.oneCell' = true := by
  intro v hv
  simp only [Wpr.cells, List.mem_cons, List.not_mem_nil, or_false] at hv
  rcases hv with rfl | rfl | rfl | rfl | rfl | rfl <;> rfl
theorem Wpr.Ok.keep {w W : World} {S S' : List Nat} {x : Wpr} (h : x.Ok w S) (hf : Fr S w W) (hs : ∀ k ∈ S', k < w.heap.size → k ∈ S) : x.Ok W S' :=
  ⟨h.r, h.e, h.t, h.l.keep' hf h.ap (fun _ _ h => h.keep hf hs), h.n, fun hn a ha hin => h.ap hn a ha (hs _ hin (h.l.lt hn (by decide) (fun v hv => Wce.len (h.l.2.1 v hv).2.k.h) a ha)), h.b, h.m⟩
def Wpr.bare (x : Wpr) : List UInt8 := encI x.r ++ encI x.e ++ enc x.t ++ listL Wce.full x.l
def Wpr.full (x : Wpr) : List UInt8 := x.bare ++ sgL x.b x.m
theorem Wpr.bare_len {w : World} {S : List Nat} {x : Wpr} (hx : x.Ok w S) : x.bare.length ≤ 2200 := by
  have b0 := encI_len x.r hx.r.2
  have b1 := encI_len x.e hx.e.2
  have b2 := enc_ten hx.t
  have b3 := encI_len (x.l.length : Int) (by have := hx.n; have := hx.l.1; omega)
  have b4 : (x.l.flatMap Wce.full).length ≤ 3 * 700 := flat_len (fun v hv => Wce.full_len (hx.l.2.1 v hv).2) (by have := hx.n; have := hx.l.1; omega)
  simp only [Wpr.bare, listL, List.length_append]
  omega
theorem Wpr.full_len {w : World} {S : List Nat} {x : Wpr} (hx : x.Ok w S) : x.full.length ≤ 2300 := by
  have b0 := Wpr.bare_len hx
  have b1 := encI_len x.b hx.b.2
  have b2 := encI_len x.m hx.m.2
  simp only [Wpr.full, sgL, List.length_append]
  omega
set_option maxHeartbeats 1000000 in
theorem promiseFields_any (x : Wpr) (w : World) (S : List Nat) (g : Nat) (l : List UInt8) (hw : Wr w S g l) (hl : l.length + 6000 ≤ 1073741000) (hx : x.Ok w S) :
    Calls Try.prog 50 #[.pointer (some ⟨g, 0, none⟩), x.val] w fun e w' => e = .returned (.pointer (some ⟨g, 0, none⟩)) ∧ Gr w S g (l ++ x.bare) w' := by
  obtain ⟨wa, hwa⟩ : ∃ wa, wa = w.alloc (Obj.cells x.cells.toArray 40) := ⟨_, rfl⟩
  have hf0 : Fr [] w wa := by rw [hwa]; exact (Fr.refl [] w).alloc _
  have hb0 : Blk wa w.heap.size 40 x.cells.toArray := by rw [hwa]; exact Blk.new _ _ _
  have HNS : Hid (¬ w.heap.size ∈ S) := Lib.hid (fun h => by have := hw.lt _ h; omega)
  have HG0 := Lib.hid (Gr.begin hw hf0)
  have HC0 : Hid (wa.cell? ⟨w.heap.size, 0 + 0, none⟩ = some (.int .i64 x.r)) := Lib.hid (hb0.range (cs := x.cells) 0 _ rfl)
  have HC1 : Hid (wa.cell? ⟨w.heap.size, 0 + 1, none⟩ = some (.int .i64 x.e)) := Lib.hid (hb0.range (cs := x.cells) 1 _ rfl)
  have HC2 : Hid (wa.cell? ⟨w.heap.size, 0 + 2, none⟩ = some (.int .u64 (x.t : Int))) := Lib.hid (hb0.range (cs := x.cells) 2 _ rfl)
  have HC3 : Hid (wa.cell? ⟨w.heap.size, 0 + 3, none⟩ = some (.slice x.A x.n x.d)) := Lib.hid (hb0.range (cs := x.cells) 3 _ rfl)
  have HC4 : Hid (wa.cell? ⟨w.heap.size, 0 + 4, none⟩ = some (.int .i64 x.b)) := Lib.hid (hb0.range (cs := x.cells) 4 _ rfl)
  have HC5 : Hid (wa.cell? ⟨w.heap.size, 0 + 5, none⟩ = some (.int .i64 x.m)) := Lib.hid (hb0.range (cs := x.cells) 5 _ rfl)
  have HF0 := Lib.hid hf0
  have HWA := Lib.hid hwa
  have HL := Lib.hid hl
  have HX := Lib.hid hx
  clear hwa hf0 hb0 hl hw hx
  unfold Wpr.val
  generalize hC : x.cells = C at *
  have HRC := Lib.hid hC
  clear hC
  go_enter Try.func50, Try.ntmps50
  go_wp2
  rw [← HWA.out]
  refine wp_region_held_drew (S := Fr S wa) (by kernel_rfl) (Fr.drew (Fr.refl _ wa)) (fun hHeld => ?_)
  refine run_at (i := 0) (v := ?_) rfl (by kernel_rfl) (by rfl) (fun _ _ _ h => h) hHeld (fun w1 hw1 => ?_) ?_
  rotate_left 1
  · skip
    go_simp
    (try (first | with_reducible rfl | (apply And.intro <;> rfl)))
  simp only [Act.put, List.setIfInBounds_toArray, List.set_cons_zero, List.set_cons_succ]
  refine run_at (i := 1) (v := ?_) rfl (by kernel_rfl) (by rfl) (fun _ _ _ h => h) hHeld (fun w1 hw1 => ?_) ?_
  rotate_left 1
  · skip
    go_simp
    (try (first | with_reducible rfl | (apply And.intro <;> rfl)))
  simp only [Act.put, List.setIfInBounds_toArray, List.set_cons_zero, List.set_cons_succ]
  refine run_at (i := 2) (v := ?_) rfl (by kernel_rfl) (by rfl) (fun _ _ _ h => h) hHeld (fun w1 hw1 => ?_) ?_
  rotate_left 1
  · skip
    have hcw0 := hw1.cell (HC0.out) (by first | (simp; done) | exact HNS.out | exact HNW.out | (intro hm; have hlt := HSB.out _ hm; (try dsimp only at hlt); omega))
    go_simp
    (try (first | with_reducible rfl | (apply And.intro <;> rfl)))
  simp only [Act.put, List.setIfInBounds_toArray, List.set_cons_zero, List.set_cons_succ]
  refine run_at (i := 4) (v := ?_) rfl (by kernel_rfl) (by rfl) (fun _ _ _ h => h) hHeld (fun w1 hw1 => ?_) ?_
  rotate_left 1
  · skip
    go_simp
    (try (first | with_reducible rfl | (apply And.intro <;> rfl)))
  simp only [Act.put, List.setIfInBounds_toArray, List.set_cons_zero, List.set_cons_succ]
  refine run_at (i := 5) (v := ?_) rfl (by kernel_rfl) (by rfl) (fun _ _ _ h => h) hHeld (fun w1 hw1 => ?_) ?_
  rotate_left 1
  · skip
    have hcw0 := hw1.cell (HC1.out) (by first | (simp; done) | exact HNS.out | exact HNW.out | (intro hm; have hlt := HSB.out _ hm; (try dsimp only at hlt); omega))
    go_simp
    (try (first | with_reducible rfl | (apply And.intro <;> rfl)))
  simp only [Act.put, List.setIfInBounds_toArray, List.set_cons_zero, List.set_cons_succ]
  refine run_at (i := 7) (v := ?_) rfl (by kernel_rfl) (by rfl) (fun _ _ _ h => h) hHeld (fun w1 hw1 => ?_) ?_
  rotate_left 1
  · skip
    go_simp
    (try (first | with_reducible rfl | (apply And.intro <;> rfl)))
  simp only [Act.put, List.setIfInBounds_toArray, List.set_cons_zero, List.set_cons_succ]
  refine run_at (i := 8) (v := ?_) rfl (by kernel_rfl) (by rfl) (fun _ _ _ h => h) hHeld (fun w1 hw1 => ?_) ?_
  rotate_left 1
  · skip
    have hcw0 := hw1.cell (HC2.out) (by first | (simp; done) | exact HNS.out | exact HNW.out | (intro hm; have hlt := HSB.out _ hm; (try dsimp only at hlt); omega))
    go_simp
    (try (first | with_reducible rfl | (apply And.intro <;> rfl)))
  simp only [Act.put, List.setIfInBounds_toArray, List.set_cons_zero, List.set_cons_succ]
  refine run_at (i := 10) (v := ?_) rfl (by kernel_rfl) (by rfl) (fun _ _ _ h => h) hHeld (fun w1 hw1 => ?_) ?_
  rotate_left 1
  · skip
    go_simp
    (try (first | with_reducible rfl | (apply And.intro <;> rfl)))
  simp only [Act.put, List.setIfInBounds_toArray, List.set_cons_zero, List.set_cons_succ]
  refine run_at (i := 11) (v := ?_) rfl (by kernel_rfl) (by rfl) (fun _ _ _ h => h) hHeld (fun w1 hw1 => ?_) ?_
  rotate_left 1
  · skip
    have hcw0 := hw1.cell (HC3.out) (by first | (simp; done) | exact HNS.out | exact HNW.out | (intro hm; have hlt := HSB.out _ hm; (try dsimp only at hlt); omega))
    go_simp
    (try (first | with_reducible rfl | (apply And.intro <;> rfl)))
  simp only [Act.put, List.setIfInBounds_toArray, List.set_cons_zero, List.set_cons_succ]
  refine call_at (i := 3) (f := ?_) (args := ?_) rfl (by kernel_rfl) (by rfl) ?_ ?_
  rotate_left 2
  · go_simp
    (try (first | with_reducible rfl | (apply And.intro <;> rfl)))
  refine (HG0.out.call fun S1 k1 => int_any x.r HX.out.r.1 HX.out.r.2 _ S1 g _ k1 (by have h0 := HL.out; (try simp only [List.length_append, sgL, nmL] at *); omega)).mono ?_
  rintro e w1 ⟨rfl, hg1⟩
  have HG1 := Lib.hid hg1
  refine ⟨_, rfl, hg1.fr, fun hHeld => ?_⟩
  clear hg1 HG0
  simp only [Act.put, List.setIfInBounds_toArray, List.set_cons_zero, List.set_cons_succ]
  refine call_at (i := 6) (f := ?_) (args := ?_) rfl (by kernel_rfl) (by rfl) ?_ ?_
  rotate_left 2
  · go_simp
    (try (first | with_reducible rfl | (apply And.intro <;> rfl)))
  refine (HG1.out.call fun S1 k1 => int_any x.e HX.out.e.1 HX.out.e.2 _ S1 g _ k1 (by have h0 := HL.out; have b0 := encI_len x.r HX.out.r.2; (try simp only [List.length_append, sgL, nmL] at *); omega)).mono ?_
  rintro e w2 ⟨rfl, hg2⟩
  have HG2 := Lib.hid hg2
  refine ⟨_, rfl, hg2.fr, fun hHeld => ?_⟩
  clear hg2 HG1
  simp only [Act.put, List.setIfInBounds_toArray, List.set_cons_zero, List.set_cons_succ]
  refine call_at (i := 9) (f := ?_) (args := ?_) rfl (by kernel_rfl) (by rfl) ?_ ?_
  rotate_left 2
  · go_simp
    (try (first | with_reducible rfl | (apply And.intro <;> rfl)))
  refine (HG2.out.call fun S1 k1 => num_any x.t HX.out.t _ S1 g _ k1 (by have h0 := HL.out; have b0 := encI_len x.r HX.out.r.2; have b1 := encI_len x.e HX.out.e.2; (try simp only [List.length_append, sgL, nmL] at *); omega)).mono ?_
  rintro e w3 ⟨rfl, hg3⟩
  have HG3 := Lib.hid hg3
  refine ⟨_, rfl, hg3.fr, fun hHeld => ?_⟩
  clear hg3 HG2
  simp only [Act.put, List.setIfInBounds_toArray, List.set_cons_zero, List.set_cons_succ]
  refine call_at (i := 12) (f := ?_) (args := ?_) rfl (by kernel_rfl) (by rfl) ?_ ?_
  rotate_left 2
  · go_simp
    (try (first | with_reducible rfl | (apply And.intro <;> rfl)))
  refine (HG3.out.calls fun S1 k1 f1 s1 => putCerts_any Wce.cells (fun w S v => v.Ok w S) Wce.full 1400 Wce.one rfl (fun _ _ v h => Nat.le_trans (Wce.full_len h) (by decide)) (fun v W S g l h hw hl => putCert_any v W S g l hw hl h) _ S1 g _ k1 x.A x.n x.d x.l (HX.out.l.keep' ((HF0.out.mono (T := S) (by simp)).trans f1 (fun k hk _ => hk)) HX.out.ap (fun _ _ h => h.keep ((HF0.out.mono (T := S) (by simp)).trans f1 (fun k hk _ => hk)) (fun k hk hl => s1 k hk (Nat.lt_of_lt_of_le hl HF0.out.size)))) (by have := HX.out.n; omega) (fun hn a ha hin => HX.out.ap hn a ha (s1 _ hin (Nat.lt_of_lt_of_le (HX.out.l.lt hn (by decide) (fun v hv => Wce.len (HX.out.l.2.1 v hv).2.k.h) a ha) HF0.out.size))) (fun _ _ hf hs _ _ h => h.keep hf hs) (by have h0 := HL.out; have b0 := encI_len x.r HX.out.r.2; have b1 := encI_len x.e HX.out.e.2; have b2 := enc_ten HX.out.t; have := HX.out.n; simp only [List.length_append]; omega)).mono ?_
  rintro e w4 ⟨rfl, hg4⟩
  have HG4 := Lib.hid hg4
  refine ⟨_, rfl, hg4.fr, fun hHeld => ?_⟩
  clear hg4 HG3
  simp only [Act.put, List.setIfInBounds_toArray, List.set_cons_zero, List.set_cons_succ]
  refine run_at (i := 13) (v := ?_) rfl (by kernel_rfl) (by rfl) (fun _ _ _ h => h) hHeld (fun w1 hw1 => ?_) ?_
  rotate_left 1
  · skip
    go_simp
    (try (first | with_reducible rfl | (apply And.intro <;> rfl)))
  simp only [Act.put, List.setIfInBounds_toArray, List.set_cons_zero, List.set_cons_succ]
  refine wpAnyH_done (by kernel_rfl) ?_ _
  go_wp2
  go_ret
  exact ⟨rfl, (HG4.out.from_ HF0.out).eq (by simp [Wpr.bare, List.append_assoc])⟩
theorem promiseFields_any' (x : Wpr) (C : List Value) (hC : x.cells = C) (w : World) (S : List Nat) (g : Nat) (l : List UInt8) (hw : Wr w S g l) (hl : l.length + 6000 ≤ 1073741000) (hx : x.Ok w S) :
    Calls Try.prog 50 #[.pointer (some ⟨g, 0, none⟩), .agg C.toArray] w fun e w' => e = .returned (.pointer (some ⟨g, 0, none⟩)) ∧ Gr w S g (l ++ x.bare) w' := by
  subst hC
  exact promiseFields_any x w S g l hw hl hx
theorem Wpr.len (x : Wpr) : x.cells.length = 6 := rfl
set_option maxHeartbeats 1000000 in
theorem putPromise_any (x : Wpr) (w : World) (S : List Nat) (g : Nat) (l : List UInt8) (hw : Wr w S g l) (hl : l.length + 6200 ≤ 1073741000) (hx : x.Ok w S) :
    Calls Try.prog 26 #[.pointer (some ⟨g, 0, none⟩), x.val] w fun e w' => e = .returned (.pointer (some ⟨g, 0, none⟩)) ∧ Gr w S g (l ++ x.full) w' := by
  obtain ⟨wa, hwa⟩ : ∃ wa, wa = w.alloc (Obj.cells x.cells.toArray 40) := ⟨_, rfl⟩
  have hf0 : Fr [] w wa := by rw [hwa]; exact (Fr.refl [] w).alloc _
  have hb0 : Blk wa w.heap.size 40 x.cells.toArray := by rw [hwa]; exact Blk.new _ _ _
  have HNS : Hid (¬ w.heap.size ∈ S) := Lib.hid (fun h => by have := hw.lt _ h; omega)
  have HG0 := Lib.hid (Gr.begin hw hf0)
  have HALL := Lib.hid hb0.range
  have HLN : Hid (x.cells.length = 6) := Lib.hid (Wpr.len x)
  have HSG : Hid (wa.rangeAt w.heap.size (0 + 4) [.int .i64 x.b, .int .i64 x.m]) := Lib.hid (rangeAt_sub (xs := [.int .i64 x.r, .int .i64 x.e, .int .u64 (x.t : Int), .slice x.A x.n x.d]) (ys := [.int .i64 x.b, .int .i64 x.m]) (zs := []) hb0.range)
  have HXA : Hid (x.Ok wa S) := Lib.hid (hx.keep (hf0.mono (T := S) (by simp)) (fun k hk _ => hk))
  have HF0 := Lib.hid hf0
  have HWA := Lib.hid hwa
  have HL := Lib.hid hl
  have HX := Lib.hid hx
  clear hwa hf0 hb0 hl hw hx
  unfold Wpr.val
  generalize hC : x.cells = C at *
  have HRC := Lib.hid hC
  clear hC
  go_enter Try.func26, Try.ntmps26
  go_wp2
  rw [← HWA.out]
  refine wp_region_held_drew (S := Fr S wa) (by kernel_rfl) (Fr.drew (Fr.refl _ wa)) (fun hHeld => ?_)
  refine run_at (i := 0) (v := ?_) rfl (by kernel_rfl) (by rfl) (fun _ _ _ h => h) hHeld (fun w1 hw1 => ?_) ?_
  rotate_left 1
  · skip
    go_simp
    (try (first | with_reducible rfl | (apply And.intro <;> rfl)))
  simp only [Act.put, List.setIfInBounds_toArray, List.set_cons_zero, List.set_cons_succ]
  refine row_at (i := 1) rfl (by kernel_rfl) (by rfl) _ _ rfl _ _ rfl _ (fun w1 hw1 => hw1.range (HALL.out) (by first | (simp; done) | exact HNS.out | exact HNW.out | (intro hm; have hlt := HSB.out _ hm; (try dsimp only at hlt); omega))) (row_prm.of HLN.out) (fun _ _ _ h => h) hHeld ?_
  simp only [Act.put, List.setIfInBounds_toArray, List.set_cons_zero, List.set_cons_succ]
  refine run_at (i := 3) (v := ?_) rfl (by kernel_rfl) (by rfl) (fun _ _ _ h => h) hHeld (fun w1 hw1 => ?_) ?_
  rotate_left 1
  · skip
    go_simp
    (try (first | with_reducible rfl | (apply And.intro <;> rfl)))
  simp only [Act.put, List.setIfInBounds_toArray, List.set_cons_zero, List.set_cons_succ]
  refine row_at (i := 4) rfl (by kernel_rfl) (by rfl) _ _ rfl _ _ rfl _ (fun w1 hw1 => hw1.range (HSG.out) (by first | (simp; done) | exact HNS.out | exact HNW.out | (intro hm; have hlt := HSB.out _ hm; (try dsimp only at hlt); omega))) (row_sg) (fun _ _ _ h => h) hHeld ?_
  simp only [Act.put, List.setIfInBounds_toArray, List.set_cons_zero, List.set_cons_succ]
  refine call_at (i := 2) (f := ?_) (args := ?_) rfl (by kernel_rfl) (by rfl) ?_ ?_
  rotate_left 2
  · go_simp
    (try (first | with_reducible rfl | (apply And.intro <;> rfl)))
  refine (HG0.out.calls fun S1 k1 f1 s1 => promiseFields_any' x C HRC.out _ S1 g _ k1 (by have h0 := HL.out; (try simp only [List.length_append, sgL, nmL] at *); omega) (HXA.out.keep f1 s1)).mono ?_
  rintro e w1 ⟨rfl, hg1⟩
  have HG1 := Lib.hid hg1
  refine ⟨_, rfl, hg1.fr, fun hHeld => ?_⟩
  clear hg1 HG0
  simp only [Act.put, List.setIfInBounds_toArray, List.set_cons_zero, List.set_cons_succ]
  refine call_at (i := 5) (f := ?_) (args := ?_) rfl (by kernel_rfl) (by rfl) ?_ ?_
  rotate_left 2
  · go_simp
    (try (first | with_reducible rfl | (apply And.intro <;> rfl)))
  refine (HG1.out.call fun S1 k1 => putSig_any x.b x.m HX.out.b HX.out.m _ S1 g _ k1 (by have h0 := HL.out; have b0 := Wpr.bare_len HX.out; (try simp only [List.length_append, sgL, nmL] at *); omega)).mono ?_
  rintro e w2 ⟨rfl, hg2⟩
  have HG2 := Lib.hid hg2
  refine ⟨_, rfl, hg2.fr, fun hHeld => ?_⟩
  clear hg2 HG1
  simp only [Act.put, List.setIfInBounds_toArray, List.set_cons_zero, List.set_cons_succ]
  refine run_at (i := 6) (v := ?_) rfl (by kernel_rfl) (by rfl) (fun _ _ _ h => h) hHeld (fun w1 hw1 => ?_) ?_
  rotate_left 1
  · skip
    go_simp
    (try (first | with_reducible rfl | (apply And.intro <;> rfl)))
  simp only [Act.put, List.setIfInBounds_toArray, List.set_cons_zero, List.set_cons_succ]
  refine wpAnyH_done (by kernel_rfl) ?_ _
  go_wp2
  go_ret
  exact ⟨rfl, (HG2.out.from_ HF0.out).eq (by simp [Wpr.full, List.append_assoc])⟩
theorem putPromise_any' (x : Wpr) (C : List Value) (hC : x.cells = C) (w : World) (S : List Nat) (g : Nat) (l : List UInt8) (hw : Wr w S g l) (hl : l.length + 6200 ≤ 1073741000) (hx : x.Ok w S) :
    Calls Try.prog 26 #[.pointer (some ⟨g, 0, none⟩), .agg C.toArray] w fun e w' => e = .returned (.pointer (some ⟨g, 0, none⟩)) ∧ Gr w S g (l ++ x.full) w' := by
  subst hC
  exact putPromise_any x w S g l hw hl hx
end Go.Proofs.Ytnpjihdhpoddgaa

namespace Go.Proofs.Ytnpjihdhpoddgaa
open Go.RowKit
set_option maxRecDepth 100000

set_option maxHeartbeats 2000000 in
theorem putDenies_any {α : Type} (cells : α → List Value) (ok : World → List Nat → α → Prop) (full : α → List UInt8) (N : Nat) (hone : ∀ v, ∀ u ∈ cells v, u.oneCell' = true) (hsz : (Try.prog.info? 56).map (·.size) = some 4)
    (hfull : ∀ W S v, ok W S v → (full v).length ≤ N)
    (hput : ∀ (v : α) (W : World) (S : List Nat) (g : Nat) (l : List UInt8), ok W S v → Wr W S g l → l.length + N ≤ 1073741000 → Calls Try.prog 31 #[.pointer (some ⟨g, 0, none⟩), .agg (cells v).toArray] W fun e w' => e = .returned (.pointer (some ⟨g, 0, none⟩)) ∧ Gr W S g (l ++ full v) w')
    (w : World) (S : List Nat) (g : Nat) (l : List UInt8) (hw : Wr w S g l) (A : Option Addr) (n c : Nat) (xs : List α) (hx : Lst 4 cells (fun w v => ok w S v) w A n xs) (hn : n ≤ 1000) (hA : 0 < n → ∀ a, A = some a → ¬ a.block ∈ S)
    (hkeep : ∀ W S', Fr S w W → (∀ x ∈ S', x < w.heap.size → x ∈ S) → ∀ v ∈ xs, ok w S v → ok W S' v) (hl : l.length + 20 + (n + 1) * N ≤ 1073741000) :
    Calls Try.prog 87 #[.pointer (some ⟨g, 0, none⟩), fnV 31, .slice A n c] w fun e w' => e = .returned (.pointer (some ⟨g, 0, none⟩)) ∧ Gr w S g (l ++ listL full xs) w' := by
  have HG0 := Lib.hid (Gr.refl hw)
  have HX := Lib.hid hx
  have HA := Lib.hid hA
  have HL := Lib.hid hl
  have HKP := Lib.hid hkeep
  have HSL := Lib.hid hw.lt
  have hxn := hx.1
  clear hw hx hA hl hkeep
  unfold fnV
  go_enter Try.func87, Try.ntmps87
  go_wp2_with fail
  refine (HG0.out.call fun S1 k1 => int_any (n : Int) (by omega) (by omega) _ S1 g _ k1 (by have := HL.out; omega)).mono ?_
  rintro e w1 ⟨rfl, hg1⟩
  have HG1 := Lib.hid hg1
  clear hg1 HG0
  go_wp2_with fail
  go_loopw [15] (fun i wr => ∃ k : Nat, k ≤ n ∧ i = .int .i64 k ∧ Gr w S g (l ++ encI (n : Int) ++ (xs.take k).flatMap full) wr) (fun i _ => n - (intOf i).toNat)
  case atStart => exact ⟨0, by omega, rfl, by simpa using HG1.out⟩
  case round =>
    obtain ⟨k, hk, rfl, hg⟩ := hrel
    have HG := Lib.hid hg
    clear hg
    by_cases hlt : k < n
    · obtain ⟨ad, v, rfl, hv, hcl, hok, hc⟩ := HX.out.at hlt
      have HV := Lib.hid hv
      have HCL := Lib.hid hcl
      have HOK := Lib.hid hok
      have HMEM := Lib.hid (List.mem_of_getElem? hv)
      have HC := Lib.hid (fun j x hj => HG.out.fr.cell (hc j x hj) (by rw [add_block, add_block]; exact HA.out (by omega) ad rfl))
      have HONE := Lib.hid (hone v)
      have HPUT := Lib.hid (hput v)
      have hk0 : (0 : Int) ≤ k := by omega
      have hlen : ((xs.take k).flatMap full).length ≤ k * N := flat_len (fun v hv => hfull w S v (HX.out.2.1 v (List.mem_of_mem_take hv)).2) (by rw [List.length_take]; omega)
      have hkn2 : k * N + N ≤ (n + 1) * N := by rw [← Nat.succ_mul]; exact Nat.mul_le_mul_right N (by omega)
      have HLEN : Hid ((l ++ encI (n : Int) ++ (xs.take k).flatMap full).length + N ≤ 1073741000) := Lib.hid (by have := HL.out; have := encI_len (n : Int) (by omega); simp only [List.length_append]; omega)
      have HTK : Hid ((xs.take (k + 1)).flatMap full = (xs.take k).flatMap full ++ full v) := Lib.hid (by rw [List.take_add_one, hv]; simp)
      have HFV := Lib.hid (rfl : cells v = cells v)
      clear hv hcl hok hc hlen hkn2
      generalize hcv : cells v = C at *
      go_wp2_with (first
        | (refine wpList_cells rfl 56 _ rfl _ rfl C HC.out (row_deny.of HCL.out) ?_)
        | (refine wpList_store_box rfl 56 _ _ rfl _ 56 C rfl rfl (by rw [hsz, HCL.out]) (by rw [HCL.out]; rfl) HONE.out ?_
           intro wb hbb hfb
           have HBB := Lib.hid hbb
           have HFB := Lib.hid hfb
           clear hbb hfb)
        | (refine wpList_row rfl 56 _ rfl _ _ rfl _ HBB.out.range (row_deny.of HCL.out) ?_))
      have HGB := Lib.hid (HG.out.trans (fun S1 k => ⟨S1, k.keep HFB.out (by simp), HFB.out.mono (by simp), fun x hx _ => hx⟩))
      refine (HGB.out.calls fun S1 k1 f1 s1 => HPUT.out _ S1 g _ (HKP.out wb S1 f1 s1 v HMEM.out HOK.out) k1 HLEN.out).mono ?_
      rintro e w2 ⟨rfl, hg2⟩
      have HG2 := Lib.hid hg2
      clear hg2
      go_wp2
      exact ⟨⟨k + 1, by omega, rfl, HG2.out.eq (by rw [HTK.out, List.append_assoc])⟩, by simp only [intOf, Int.toNat_natCast, Int.toNat_natCast_add_one]; omega⟩
    · have hkn : k = n := by omega
      subst hkn
      have HFIN : Hid (Gr w S g (l ++ listL full xs) wr) := Lib.hid (HG.out.eq (by rw [List.take_of_length_le (by omega), listL, hxn, List.append_assoc]))
      clear HG
      go_wp2
      go_ret
      exact ⟨rfl, HFIN.out⟩
theorem row_opn : RowTy Try.prog 54 34 := ⟨by kernel_rfl, by kernel_rfl⟩
theorem row_tmb : RowTy Try.prog 118 2 := ⟨by kernel_rfl, by kernel_rfl⟩
theorem row_bat : RowTy Try.prog 45 5 := ⟨by kernel_rfl, by kernel_rfl⟩
/-- an opening: its index, where its payload lies, its nonce -/
structure Wop where
  i : Int
  A : Option Addr
  n : Nat
  d : Nat
  p : List UInt8
  h : List UInt8
def Wop.cells (x : Wop) : List Value := [.int .i64 x.i, .slice x.A x.n x.d] ++ (x.h.map by8 ++ [])
def Wop.val (x : Wop) : Value := .agg x.cells.toArray
structure Wop.Ok (w : World) (S : List Nat) (x : Wop) : Prop where
  i : i64In x.i
  p : By w x.A x.n x.p
  n : x.n ≤ 260
  ap : ∀ k ∈ bk x.A, ¬ k ∈ S
  lt : ∀ k ∈ bk x.A, k < w.heap.size
  h : x.h.length = 32
  d : x.n ≤ x.d
theorem Wop.len {x : Wop} (h : x.h.length = 32) : x.cells.length = 34 := by simp [Wop.cells, h]
theorem Wop.one (x : Wop) : ∀ v ∈ x.cells, v.oneCell' = true := by
  intro v hv
  simp only [Wop.cells, List.mem_cons, List.mem_append, List.not_mem_nil, or_false] at hv
  rcases hv with (rfl | rfl) | hv
  · rfl
  · rfl
  · exact by8_one x.h v hv
theorem Wop.Ok.keep {w W : World} {S S' : List Nat} {x : Wop} (h : x.Ok w S) (hf : Fr S w W) (hs : ∀ k ∈ S', k < w.heap.size → k ∈ S) : x.Ok W S' :=
  ⟨h.i, h.p.keep hf (fun a ha => h.ap _ (by rw [ha]; simp [bk])), h.n, fun k hk hin => h.ap k hk (hs k hin (h.lt k hk)), fun k hk => Nat.lt_of_lt_of_le (h.lt k hk) hf.size, h.h, h.d⟩
def Wop.full (x : Wop) : List UInt8 := encI x.i ++ (enc x.n ++ x.p) ++ x.h
theorem Wop.full_len {w : World} {S : List Nat} {x : Wop} (hx : x.Ok w S) : x.full.length ≤ 320 := by
  have b0 := encI_len x.i hx.i.2
  have b1 : (enc x.n).length ≤ 10 := enc_ten (by have := hx.n; omega)
  have b2 := hx.p.1
  have b3 := hx.n
  have b4 := hx.h
  simp only [Wop.full, List.length_append]
  omega
/-- a tombstone: its index, where its denials lie -/
structure Wtb where
  i : Int
  A : Option Addr
  n : Nat
  d : Nat
  l : List Wdn
def Wtb.cells (x : Wtb) : List Value := [.int .i64 x.i, .slice x.A x.n x.d]
def Wtb.val (x : Wtb) : Value := .agg x.cells.toArray
structure Wtb.Ok (w : World) (S : List Nat) (x : Wtb) : Prop where
  i : i64In x.i
  l : Lst 4 Wdn.cells (fun _ v => v.Ok) w x.A x.n x.l
  n : x.n ≤ 5
  ap : 0 < x.n → ∀ a, x.A = some a → ¬ a.block ∈ S
theorem Wtb.one (x : Wtb) : ∀ v ∈ x.cells, v.oneCell' = true := by
  intro v hv
  simp only [Wtb.cells, List.mem_cons, List.not_mem_nil, or_false] at hv
  rcases hv with rfl | rfl <;> rfl
theorem Wtb.Ok.keep {w W : World} {S S' : List Nat} {x : Wtb} (h : x.Ok w S) (hf : Fr S w W) (hs : ∀ k ∈ S', k < w.heap.size → k ∈ S) : x.Ok W S' :=
  ⟨h.i, h.l.keep' hf h.ap (fun _ _ h => h), h.n, fun hn a ha hin => h.ap hn a ha (hs _ hin (h.l.lt hn (by decide) (fun v hv => Wdn.len v) a ha))⟩
def Wtb.full (x : Wtb) : List UInt8 := encI x.i ++ listL Wdn.full x.l
theorem Wdn.full_len {x : Wdn} (hx : x.Ok) : x.full.length ≤ 100 := by
  have b0 := Wdn.bare_len hx
  have b1 := encI_len x.b hx.b.2
  have b2 := encI_len x.m hx.m.2
  simp only [Wdn.full, sgL, List.length_append]
  omega
theorem Wtb.full_len {w : World} {S : List Nat} {x : Wtb} (hx : x.Ok w S) : x.full.length ≤ 520 := by
  have b0 := encI_len x.i hx.i.2
  have b1 := encI_len (x.l.length : Int) (by have := hx.n; have := hx.l.1; omega)
  have b2 : (x.l.flatMap Wdn.full).length ≤ 5 * 100 := flat_len (fun v hv => Wdn.full_len (hx.l.2.1 v hv).2) (by have := hx.n; have := hx.l.1; omega)
  simp only [Wtb.full, listL, List.length_append]
  omega
set_option maxHeartbeats 1000000 in
theorem putOpening_any (x : Wop) (w : World) (S : List Nat) (g : Nat) (l : List UInt8) (hw : Wr w S g l) (hl : l.length + 500 ≤ 1073741000) (hx : x.Ok w S) :
    Calls Try.prog 30 #[.pointer (some ⟨g, 0, none⟩), x.val] w fun e w' => e = .returned (.pointer (some ⟨g, 0, none⟩)) ∧ Gr w S g (l ++ x.full) w' := by
  obtain ⟨wa, hwa⟩ : ∃ wa, wa = w.alloc (Obj.cells x.cells.toArray 54) := ⟨_, rfl⟩
  have hf0 : Fr [] w wa := by rw [hwa]; exact (Fr.refl [] w).alloc _
  have hb0 : Blk wa w.heap.size 54 x.cells.toArray := by rw [hwa]; exact Blk.new _ _ _
  have HNS : Hid (¬ w.heap.size ∈ S) := Lib.hid (fun h => by have := hw.lt _ h; omega)
  have HG0 := Lib.hid (Gr.begin hw hf0)
  have HC0 : Hid (wa.cell? ⟨w.heap.size, 0 + 0, none⟩ = some (.int .i64 x.i)) := Lib.hid (hb0.range (cs := x.cells) 0 _ rfl)
  have HC1 : Hid (wa.cell? ⟨w.heap.size, 0 + 1, none⟩ = some (.slice x.A x.n x.d)) := Lib.hid (hb0.range (cs := x.cells) 1 _ rfl)
  have HNC : Hid (wa.rangeAt w.heap.size (0 + 2) (x.h.map by8)) := Lib.hid (rangeAt_sub (xs := [.int .i64 x.i, .slice x.A x.n x.d]) (ys := x.h.map by8) (zs := []) hb0.range)
  have HF0 := Lib.hid hf0
  have HWA := Lib.hid hwa
  have HL := Lib.hid hl
  have HX := Lib.hid hx
  clear hwa hf0 hb0 hl hw hx
  unfold Wop.val
  generalize hC : x.cells = C at *
  have HRC := Lib.hid hC
  clear hC
  go_enter Try.func30, Try.ntmps30
  go_wp2
  rw [← HWA.out]
  refine wp_region_held_drew (S := Fr S wa) (by kernel_rfl) (Fr.drew (Fr.refl _ wa)) (fun hHeld => ?_)
  refine run_at (i := 0) (v := ?_) rfl (by kernel_rfl) (by rfl) (fun _ _ _ h => h) hHeld (fun w1 hw1 => ?_) ?_
  rotate_left 1
  · skip
    go_simp
    (try (first | with_reducible rfl | (apply And.intro <;> rfl)))
  simp only [Act.put, List.setIfInBounds_toArray, List.set_cons_zero, List.set_cons_succ]
  refine run_at (i := 1) (v := ?_) rfl (by kernel_rfl) (by rfl) (fun _ _ _ h => h) hHeld (fun w1 hw1 => ?_) ?_
  rotate_left 1
  · skip
    go_simp
    (try (first | with_reducible rfl | (apply And.intro <;> rfl)))
  simp only [Act.put, List.setIfInBounds_toArray, List.set_cons_zero, List.set_cons_succ]
  refine run_at (i := 2) (v := ?_) rfl (by kernel_rfl) (by rfl) (fun _ _ _ h => h) hHeld (fun w1 hw1 => ?_) ?_
  rotate_left 1
  · skip
    have hcw0 := hw1.cell (HC0.out) (by first | (simp; done) | exact HNS.out | exact HNW.out | (intro hm; have hlt := HSB.out _ hm; (try dsimp only at hlt); omega))
    go_simp
    (try (first | with_reducible rfl | (apply And.intro <;> rfl)))
  simp only [Act.put, List.setIfInBounds_toArray, List.set_cons_zero, List.set_cons_succ]
  refine run_at (i := 4) (v := ?_) rfl (by kernel_rfl) (by rfl) (fun _ _ _ h => h) hHeld (fun w1 hw1 => ?_) ?_
  rotate_left 1
  · skip
    go_simp
    (try (first | with_reducible rfl | (apply And.intro <;> rfl)))
  simp only [Act.put, List.setIfInBounds_toArray, List.set_cons_zero, List.set_cons_succ]
  refine run_at (i := 5) (v := ?_) rfl (by kernel_rfl) (by rfl) (fun _ _ _ h => h) hHeld (fun w1 hw1 => ?_) ?_
  rotate_left 1
  · skip
    have hcw0 := hw1.cell (HC1.out) (by first | (simp; done) | exact HNS.out | exact HNW.out | (intro hm; have hlt := HSB.out _ hm; (try dsimp only at hlt); omega))
    go_simp
    (try (first | with_reducible rfl | (apply And.intro <;> rfl)))
  simp only [Act.put, List.setIfInBounds_toArray, List.set_cons_zero, List.set_cons_succ]
  refine run_at (i := 7) (v := ?_) rfl (by kernel_rfl) (by rfl) (fun _ _ _ h => h) hHeld (fun w1 hw1 => ?_) ?_
  rotate_left 1
  · skip
    go_simp
    (try (first | with_reducible rfl | (apply And.intro <;> rfl)))
  simp only [Act.put, List.setIfInBounds_toArray, List.set_cons_zero, List.set_cons_succ]
  refine row_at (i := 8) rfl (by kernel_rfl) (by rfl) _ _ rfl _ _ rfl _ (fun w1 hw1 => hw1.range (HNC.out) (by first | (simp; done) | exact HNS.out | exact HNW.out | (intro hm; have hlt := HSB.out _ hm; (try dsimp only at hlt); omega))) (row_hash.of (by rw [List.length_map]; exact HX.out.h)) (fun _ _ _ h => h) hHeld ?_
  simp only [Act.put, List.setIfInBounds_toArray, List.set_cons_zero, List.set_cons_succ]
  refine call_at (i := 3) (f := ?_) (args := ?_) rfl (by kernel_rfl) (by rfl) ?_ ?_
  rotate_left 2
  · go_simp
    (try (first | with_reducible rfl | (apply And.intro <;> rfl)))
  refine (HG0.out.call fun S1 k1 => int_any x.i HX.out.i.1 HX.out.i.2 _ S1 g _ k1 (by have h0 := HL.out; (try simp only [List.length_append, sgL, nmL] at *); omega)).mono ?_
  rintro e w1 ⟨rfl, hg1⟩
  have HG1 := Lib.hid hg1
  refine ⟨_, rfl, hg1.fr, fun hHeld => ?_⟩
  clear hg1 HG0
  simp only [Act.put, List.setIfInBounds_toArray, List.set_cons_zero, List.set_cons_succ]
  refine call_at (i := 6) (f := ?_) (args := ?_) rfl (by kernel_rfl) (by rfl) ?_ ?_
  rotate_left 2
  · go_simp
    (try (first | with_reducible rfl | (apply And.intro <;> rfl)))
  refine (HG1.out.calls fun S1 k1 f1 s1 => row_any x.A x.n x.d x.p _ (HX.out.keep ((HF0.out.mono (T := S) (by simp)).trans f1 (fun k hk _ => hk)) (fun k hk hl => s1 k hk (Nat.lt_of_lt_of_le hl HF0.out.size))).p (by have := HX.out.n; omega) S1 (HX.out.keep ((HF0.out.mono (T := S) (by simp)).trans f1 (fun k hk _ => hk)) (fun k hk hl => s1 k hk (Nat.lt_of_lt_of_le hl HF0.out.size))).ap g _ k1 (by have h0 := HL.out; have b0 := encI_len x.i HX.out.i.2; simp only [List.length_append]; omega)).mono ?_
  rintro e w2 ⟨rfl, hg2⟩
  have HG2 := Lib.hid hg2
  refine ⟨_, rfl, hg2.fr, fun hHeld => ?_⟩
  clear hg2 HG1
  simp only [Act.put, List.setIfInBounds_toArray, List.set_cons_zero, List.set_cons_succ]
  refine call_at (i := 9) (f := ?_) (args := ?_) rfl (by kernel_rfl) (by rfl) ?_ ?_
  rotate_left 2
  · go_simp
    (try (first | with_reducible rfl | (apply And.intro <;> rfl)))
  refine (HG2.out.call fun S1 k1 => hash_any x.h HX.out.h _ S1 g _ k1 (by have h0 := HL.out; have b0 := encI_len x.i HX.out.i.2; have b1 : (enc x.n).length ≤ 10 := enc_ten (by have := HX.out.n; omega); have b2 := HX.out.p.1; have b3 := HX.out.n; simp only [List.length_append]; omega)).mono ?_
  rintro e w3 ⟨rfl, hg3⟩
  have HG3 := Lib.hid hg3
  refine ⟨_, rfl, hg3.fr, fun hHeld => ?_⟩
  clear hg3 HG2
  simp only [Act.put, List.setIfInBounds_toArray, List.set_cons_zero, List.set_cons_succ]
  refine run_at (i := 10) (v := ?_) rfl (by kernel_rfl) (by rfl) (fun _ _ _ h => h) hHeld (fun w1 hw1 => ?_) ?_
  rotate_left 1
  · skip
    go_simp
    (try (first | with_reducible rfl | (apply And.intro <;> rfl)))
  simp only [Act.put, List.setIfInBounds_toArray, List.set_cons_zero, List.set_cons_succ]
  refine wpAnyH_done (by kernel_rfl) ?_ _
  go_wp2
  go_ret
  exact ⟨rfl, (HG3.out.from_ HF0.out).eq (by simp [Wop.full, List.append_assoc])⟩
set_option maxHeartbeats 1000000 in
theorem putTomb_any (x : Wtb) (w : World) (S : List Nat) (g : Nat) (l : List UInt8) (hw : Wr w S g l) (hl : l.length + 1500 ≤ 1073741000) (hx : x.Ok w S) :
    Calls Try.prog 75 #[.pointer (some ⟨g, 0, none⟩), x.val] w fun e w' => e = .returned (.pointer (some ⟨g, 0, none⟩)) ∧ Gr w S g (l ++ x.full) w' := by
  obtain ⟨wa, hwa⟩ : ∃ wa, wa = w.alloc (Obj.cells x.cells.toArray 118) := ⟨_, rfl⟩
  have hf0 : Fr [] w wa := by rw [hwa]; exact (Fr.refl [] w).alloc _
  have hb0 : Blk wa w.heap.size 118 x.cells.toArray := by rw [hwa]; exact Blk.new _ _ _
  have HNS : Hid (¬ w.heap.size ∈ S) := Lib.hid (fun h => by have := hw.lt _ h; omega)
  have HG0 := Lib.hid (Gr.begin hw hf0)
  have HC0 : Hid (wa.cell? ⟨w.heap.size, 0 + 0, none⟩ = some (.int .i64 x.i)) := Lib.hid (hb0.range (cs := x.cells) 0 _ rfl)
  have HC1 : Hid (wa.cell? ⟨w.heap.size, 0 + 1, none⟩ = some (.slice x.A x.n x.d)) := Lib.hid (hb0.range (cs := x.cells) 1 _ rfl)
  have HF0 := Lib.hid hf0
  have HWA := Lib.hid hwa
  have HL := Lib.hid hl
  have HX := Lib.hid hx
  clear hwa hf0 hb0 hl hw hx
  unfold Wtb.val
  generalize hC : x.cells = C at *
  have HRC := Lib.hid hC
  clear hC
  go_enter Try.func75, Try.ntmps75
  go_wp2
  rw [← HWA.out]
  refine wp_region_held_drew (S := Fr S wa) (by kernel_rfl) (Fr.drew (Fr.refl _ wa)) (fun hHeld => ?_)
  refine run_at (i := 0) (v := ?_) rfl (by kernel_rfl) (by rfl) (fun _ _ _ h => h) hHeld (fun w1 hw1 => ?_) ?_
  rotate_left 1
  · skip
    go_simp
    (try (first | with_reducible rfl | (apply And.intro <;> rfl)))
  simp only [Act.put, List.setIfInBounds_toArray, List.set_cons_zero, List.set_cons_succ]
  refine run_at (i := 1) (v := ?_) rfl (by kernel_rfl) (by rfl) (fun _ _ _ h => h) hHeld (fun w1 hw1 => ?_) ?_
  rotate_left 1
  · skip
    go_simp
    (try (first | with_reducible rfl | (apply And.intro <;> rfl)))
  simp only [Act.put, List.setIfInBounds_toArray, List.set_cons_zero, List.set_cons_succ]
  refine run_at (i := 2) (v := ?_) rfl (by kernel_rfl) (by rfl) (fun _ _ _ h => h) hHeld (fun w1 hw1 => ?_) ?_
  rotate_left 1
  · skip
    have hcw0 := hw1.cell (HC0.out) (by first | (simp; done) | exact HNS.out | exact HNW.out | (intro hm; have hlt := HSB.out _ hm; (try dsimp only at hlt); omega))
    go_simp
    (try (first | with_reducible rfl | (apply And.intro <;> rfl)))
  simp only [Act.put, List.setIfInBounds_toArray, List.set_cons_zero, List.set_cons_succ]
  refine run_at (i := 4) (v := ?_) rfl (by kernel_rfl) (by rfl) (fun _ _ _ h => h) hHeld (fun w1 hw1 => ?_) ?_
  rotate_left 1
  · skip
    go_simp
    (try (first | with_reducible rfl | (apply And.intro <;> rfl)))
  simp only [Act.put, List.setIfInBounds_toArray, List.set_cons_zero, List.set_cons_succ]
  refine run_at (i := 5) (v := ?_) rfl (by kernel_rfl) (by rfl) (fun _ _ _ h => h) hHeld (fun w1 hw1 => ?_) ?_
  rotate_left 1
  · skip
    have hcw0 := hw1.cell (HC1.out) (by first | (simp; done) | exact HNS.out | exact HNW.out | (intro hm; have hlt := HSB.out _ hm; (try dsimp only at hlt); omega))
    go_simp
    (try (first | with_reducible rfl | (apply And.intro <;> rfl)))
  simp only [Act.put, List.setIfInBounds_toArray, List.set_cons_zero, List.set_cons_succ]
  refine call_at (i := 3) (f := ?_) (args := ?_) rfl (by kernel_rfl) (by rfl) ?_ ?_
  rotate_left 2
  · go_simp
    (try (first | with_reducible rfl | (apply And.intro <;> rfl)))
  refine (HG0.out.call fun S1 k1 => int_any x.i HX.out.i.1 HX.out.i.2 _ S1 g _ k1 (by have h0 := HL.out; (try simp only [List.length_append, sgL, nmL] at *); omega)).mono ?_
  rintro e w1 ⟨rfl, hg1⟩
  have HG1 := Lib.hid hg1
  refine ⟨_, rfl, hg1.fr, fun hHeld => ?_⟩
  clear hg1 HG0
  simp only [Act.put, List.setIfInBounds_toArray, List.set_cons_zero, List.set_cons_succ]
  refine call_at (i := 6) (f := ?_) (args := ?_) rfl (by kernel_rfl) (by rfl) ?_ ?_
  rotate_left 2
  · go_simp
    (try (first | with_reducible rfl | (apply And.intro <;> rfl)))
  refine (HG1.out.calls fun S1 k1 f1 s1 => putDenies_any Wdn.cells (fun _ _ v => v.Ok) Wdn.full 200 Wdn.one rfl (fun _ _ v h => Nat.le_trans (Wdn.full_len h) (by decide)) (fun v W S g l h hw hl => putDeny_any v h W S g l hw hl) _ S1 g _ k1 x.A x.n x.d x.l (HX.out.keep ((HF0.out.mono (T := S) (by simp)).trans f1 (fun k hk _ => hk)) (fun k hk hl => s1 k hk (Nat.lt_of_lt_of_le hl HF0.out.size))).l (by have := HX.out.n; omega) (HX.out.keep ((HF0.out.mono (T := S) (by simp)).trans f1 (fun k hk _ => hk)) (fun k hk hl => s1 k hk (Nat.lt_of_lt_of_le hl HF0.out.size))).ap (fun _ _ _ _ _ _ h => h) (by have h0 := HL.out; have b0 := encI_len x.i HX.out.i.2; have := HX.out.n; simp only [List.length_append]; omega)).mono ?_
  rintro e w2 ⟨rfl, hg2⟩
  have HG2 := Lib.hid hg2
  refine ⟨_, rfl, hg2.fr, fun hHeld => ?_⟩
  clear hg2 HG1
  simp only [Act.put, List.setIfInBounds_toArray, List.set_cons_zero, List.set_cons_succ]
  refine run_at (i := 7) (v := ?_) rfl (by kernel_rfl) (by rfl) (fun _ _ _ h => h) hHeld (fun w1 hw1 => ?_) ?_
  rotate_left 1
  · skip
    go_simp
    (try (first | with_reducible rfl | (apply And.intro <;> rfl)))
  simp only [Act.put, List.setIfInBounds_toArray, List.set_cons_zero, List.set_cons_succ]
  refine wpAnyH_done (by kernel_rfl) ?_ _
  go_wp2
  go_ret
  exact ⟨rfl, (HG2.out.from_ HF0.out).eq (by simp [Wtb.full, List.append_assoc])⟩

set_option maxHeartbeats 2000000 in
theorem putPromises_any {α : Type} (cells : α → List Value) (ok : World → List Nat → α → Prop) (full : α → List UInt8) (N : Nat) (hone : ∀ v, ∀ u ∈ cells v, u.oneCell' = true) (hsz : (Try.prog.info? 40).map (·.size) = some 6)
    (hfull : ∀ W S v, ok W S v → (full v).length ≤ N)
    (hput : ∀ (v : α) (W : World) (S : List Nat) (g : Nat) (l : List UInt8), ok W S v → Wr W S g l → l.length + N ≤ 1073741000 → Calls Try.prog 26 #[.pointer (some ⟨g, 0, none⟩), .agg (cells v).toArray] W fun e w' => e = .returned (.pointer (some ⟨g, 0, none⟩)) ∧ Gr W S g (l ++ full v) w')
    (w : World) (S : List Nat) (g : Nat) (l : List UInt8) (hw : Wr w S g l) (A : Option Addr) (n c : Nat) (xs : List α) (hx : Lst 6 cells (fun w v => ok w S v) w A n xs) (hn : n ≤ 1000) (hA : 0 < n → ∀ a, A = some a → ¬ a.block ∈ S)
    (hkeep : ∀ W S', Fr S w W → (∀ x ∈ S', x < w.heap.size → x ∈ S) → ∀ v ∈ xs, ok w S v → ok W S' v) (hl : l.length + 20 + (n + 1) * N ≤ 1073741000) :
    Calls Try.prog 72 #[.pointer (some ⟨g, 0, none⟩), fnV 26, .slice A n c] w fun e w' => e = .returned (.pointer (some ⟨g, 0, none⟩)) ∧ Gr w S g (l ++ listL full xs) w' := by
  have HG0 := Lib.hid (Gr.refl hw)
  have HX := Lib.hid hx
  have HA := Lib.hid hA
  have HL := Lib.hid hl
  have HKP := Lib.hid hkeep
  have HSL := Lib.hid hw.lt
  have hxn := hx.1
  clear hw hx hA hl hkeep
  unfold fnV
  go_enter Try.func72, Try.ntmps72
  go_wp2_with fail
  refine (HG0.out.call fun S1 k1 => int_any (n : Int) (by omega) (by omega) _ S1 g _ k1 (by have := HL.out; omega)).mono ?_
  rintro e w1 ⟨rfl, hg1⟩
  have HG1 := Lib.hid hg1
  clear hg1 HG0
  go_wp2_with fail
  go_loopw [15] (fun i wr => ∃ k : Nat, k ≤ n ∧ i = .int .i64 k ∧ Gr w S g (l ++ encI (n : Int) ++ (xs.take k).flatMap full) wr) (fun i _ => n - (intOf i).toNat)
  case atStart => exact ⟨0, by omega, rfl, by simpa using HG1.out⟩
  case round =>
    obtain ⟨k, hk, rfl, hg⟩ := hrel
    have HG := Lib.hid hg
    clear hg
    by_cases hlt : k < n
    · obtain ⟨ad, v, rfl, hv, hcl, hok, hc⟩ := HX.out.at hlt
      have HV := Lib.hid hv
      have HCL := Lib.hid hcl
      have HOK := Lib.hid hok
      have HMEM := Lib.hid (List.mem_of_getElem? hv)
      have HC := Lib.hid (fun j x hj => HG.out.fr.cell (hc j x hj) (by rw [add_block, add_block]; exact HA.out (by omega) ad rfl))
      have HONE := Lib.hid (hone v)
      have HPUT := Lib.hid (hput v)
      have hk0 : (0 : Int) ≤ k := by omega
      have hlen : ((xs.take k).flatMap full).length ≤ k * N := flat_len (fun v hv => hfull w S v (HX.out.2.1 v (List.mem_of_mem_take hv)).2) (by rw [List.length_take]; omega)
      have hkn2 : k * N + N ≤ (n + 1) * N := by rw [← Nat.succ_mul]; exact Nat.mul_le_mul_right N (by omega)
      have HLEN : Hid ((l ++ encI (n : Int) ++ (xs.take k).flatMap full).length + N ≤ 1073741000) := Lib.hid (by have := HL.out; have := encI_len (n : Int) (by omega); simp only [List.length_append]; omega)
      have HTK : Hid ((xs.take (k + 1)).flatMap full = (xs.take k).flatMap full ++ full v) := Lib.hid (by rw [List.take_add_one, hv]; simp)
      have HFV := Lib.hid (rfl : cells v = cells v)
      clear hv hcl hok hc hlen hkn2
      generalize hcv : cells v = C at *
      go_wp2_with (first
        | (refine wpList_cells rfl 40 _ rfl _ rfl C HC.out (row_prm.of HCL.out) ?_)
        | (refine wpList_store_box rfl 40 _ _ rfl _ 40 C rfl rfl (by rw [hsz, HCL.out]) (by rw [HCL.out]; rfl) HONE.out ?_
           intro wb hbb hfb
           have HBB := Lib.hid hbb
           have HFB := Lib.hid hfb
           clear hbb hfb)
        | (refine wpList_row rfl 40 _ rfl _ _ rfl _ HBB.out.range (row_prm.of HCL.out) ?_))
      have HGB := Lib.hid (HG.out.trans (fun S1 k => ⟨S1, k.keep HFB.out (by simp), HFB.out.mono (by simp), fun x hx _ => hx⟩))
      refine (HGB.out.calls fun S1 k1 f1 s1 => HPUT.out _ S1 g _ (HKP.out wb S1 f1 s1 v HMEM.out HOK.out) k1 HLEN.out).mono ?_
      rintro e w2 ⟨rfl, hg2⟩
      have HG2 := Lib.hid hg2
      clear hg2
      go_wp2
      exact ⟨⟨k + 1, by omega, rfl, HG2.out.eq (by rw [HTK.out, List.append_assoc])⟩, by simp only [intOf, Int.toNat_natCast, Int.toNat_natCast_add_one]; omega⟩
    · have hkn : k = n := by omega
      subst hkn
      have HFIN : Hid (Gr w S g (l ++ listL full xs) wr) := Lib.hid (HG.out.eq (by rw [List.take_of_length_le (by omega), listL, hxn, List.append_assoc]))
      clear HG
      go_wp2
      go_ret
      exact ⟨rfl, HFIN.out⟩

set_option maxHeartbeats 2000000 in
theorem putOpenings_any {α : Type} (cells : α → List Value) (ok : World → List Nat → α → Prop) (full : α → List UInt8) (N : Nat) (hone : ∀ v, ∀ u ∈ cells v, u.oneCell' = true) (hsz : (Try.prog.info? 54).map (·.size) = some 34)
    (hfull : ∀ W S v, ok W S v → (full v).length ≤ N)
    (hput : ∀ (v : α) (W : World) (S : List Nat) (g : Nat) (l : List UInt8), ok W S v → Wr W S g l → l.length + N ≤ 1073741000 → Calls Try.prog 30 #[.pointer (some ⟨g, 0, none⟩), .agg (cells v).toArray] W fun e w' => e = .returned (.pointer (some ⟨g, 0, none⟩)) ∧ Gr W S g (l ++ full v) w')
    (w : World) (S : List Nat) (g : Nat) (l : List UInt8) (hw : Wr w S g l) (A : Option Addr) (n c : Nat) (xs : List α) (hx : Lst 34 cells (fun w v => ok w S v) w A n xs) (hn : n ≤ 1000) (hA : 0 < n → ∀ a, A = some a → ¬ a.block ∈ S)
    (hkeep : ∀ W S', Fr S w W → (∀ x ∈ S', x < w.heap.size → x ∈ S) → ∀ v ∈ xs, ok w S v → ok W S' v) (hl : l.length + 20 + (n + 1) * N ≤ 1073741000) :
    Calls Try.prog 73 #[.pointer (some ⟨g, 0, none⟩), fnV 30, .slice A n c] w fun e w' => e = .returned (.pointer (some ⟨g, 0, none⟩)) ∧ Gr w S g (l ++ listL full xs) w' := by
  have HG0 := Lib.hid (Gr.refl hw)
  have HX := Lib.hid hx
  have HA := Lib.hid hA
  have HL := Lib.hid hl
  have HKP := Lib.hid hkeep
  have HSL := Lib.hid hw.lt
  have hxn := hx.1
  clear hw hx hA hl hkeep
  unfold fnV
  go_enter Try.func73, Try.ntmps73
  go_wp2_with fail
  refine (HG0.out.call fun S1 k1 => int_any (n : Int) (by omega) (by omega) _ S1 g _ k1 (by have := HL.out; omega)).mono ?_
  rintro e w1 ⟨rfl, hg1⟩
  have HG1 := Lib.hid hg1
  clear hg1 HG0
  go_wp2_with fail
  go_loopw [15] (fun i wr => ∃ k : Nat, k ≤ n ∧ i = .int .i64 k ∧ Gr w S g (l ++ encI (n : Int) ++ (xs.take k).flatMap full) wr) (fun i _ => n - (intOf i).toNat)
  case atStart => exact ⟨0, by omega, rfl, by simpa using HG1.out⟩
  case round =>
    obtain ⟨k, hk, rfl, hg⟩ := hrel
    have HG := Lib.hid hg
    clear hg
    by_cases hlt : k < n
    · obtain ⟨ad, v, rfl, hv, hcl, hok, hc⟩ := HX.out.at hlt
      have HV := Lib.hid hv
      have HCL := Lib.hid hcl
      have HOK := Lib.hid hok
      have HMEM := Lib.hid (List.mem_of_getElem? hv)
      have HC := Lib.hid (fun j x hj => HG.out.fr.cell (hc j x hj) (by rw [add_block, add_block]; exact HA.out (by omega) ad rfl))
      have HONE := Lib.hid (hone v)
      have HPUT := Lib.hid (hput v)
      have hk0 : (0 : Int) ≤ k := by omega
      have hlen : ((xs.take k).flatMap full).length ≤ k * N := flat_len (fun v hv => hfull w S v (HX.out.2.1 v (List.mem_of_mem_take hv)).2) (by rw [List.length_take]; omega)
      have hkn2 : k * N + N ≤ (n + 1) * N := by rw [← Nat.succ_mul]; exact Nat.mul_le_mul_right N (by omega)
      have HLEN : Hid ((l ++ encI (n : Int) ++ (xs.take k).flatMap full).length + N ≤ 1073741000) := Lib.hid (by have := HL.out; have := encI_len (n : Int) (by omega); simp only [List.length_append]; omega)
      have HTK : Hid ((xs.take (k + 1)).flatMap full = (xs.take k).flatMap full ++ full v) := Lib.hid (by rw [List.take_add_one, hv]; simp)
      have HFV := Lib.hid (rfl : cells v = cells v)
      clear hv hcl hok hc hlen hkn2
      generalize hcv : cells v = C at *
      go_wp2_with (first
        | (refine wpList_cells rfl 54 _ rfl _ rfl C HC.out (row_opn.of HCL.out) ?_)
        | (refine wpList_store_box rfl 54 _ _ rfl _ 54 C rfl rfl (by rw [hsz, HCL.out]) (by rw [HCL.out]; rfl) HONE.out ?_
           intro wb hbb hfb
           have HBB := Lib.hid hbb
           have HFB := Lib.hid hfb
           clear hbb hfb)
        | (refine wpList_row rfl 54 _ rfl _ _ rfl _ HBB.out.range (row_opn.of HCL.out) ?_))
      have HGB := Lib.hid (HG.out.trans (fun S1 k => ⟨S1, k.keep HFB.out (by simp), HFB.out.mono (by simp), fun x hx _ => hx⟩))
      refine (HGB.out.calls fun S1 k1 f1 s1 => HPUT.out _ S1 g _ (HKP.out wb S1 f1 s1 v HMEM.out HOK.out) k1 HLEN.out).mono ?_
      rintro e w2 ⟨rfl, hg2⟩
      have HG2 := Lib.hid hg2
      clear hg2
      go_wp2
      exact ⟨⟨k + 1, by omega, rfl, HG2.out.eq (by rw [HTK.out, List.append_assoc])⟩, by simp only [intOf, Int.toNat_natCast, Int.toNat_natCast_add_one]; omega⟩
    · have hkn : k = n := by omega
      subst hkn
      have HFIN : Hid (Gr w S g (l ++ listL full xs) wr) := Lib.hid (HG.out.eq (by rw [List.take_of_length_le (by omega), listL, hxn, List.append_assoc]))
      clear HG
      go_wp2
      go_ret
      exact ⟨rfl, HFIN.out⟩

set_option maxHeartbeats 2000000 in
theorem putTombs_any {α : Type} (cells : α → List Value) (ok : World → List Nat → α → Prop) (full : α → List UInt8) (N : Nat) (hone : ∀ v, ∀ u ∈ cells v, u.oneCell' = true) (hsz : (Try.prog.info? 118).map (·.size) = some 2)
    (hfull : ∀ W S v, ok W S v → (full v).length ≤ N)
    (hput : ∀ (v : α) (W : World) (S : List Nat) (g : Nat) (l : List UInt8), ok W S v → Wr W S g l → l.length + N ≤ 1073741000 → Calls Try.prog 75 #[.pointer (some ⟨g, 0, none⟩), .agg (cells v).toArray] W fun e w' => e = .returned (.pointer (some ⟨g, 0, none⟩)) ∧ Gr W S g (l ++ full v) w')
    (w : World) (S : List Nat) (g : Nat) (l : List UInt8) (hw : Wr w S g l) (A : Option Addr) (n c : Nat) (xs : List α) (hx : Lst 2 cells (fun w v => ok w S v) w A n xs) (hn : n ≤ 1000) (hA : 0 < n → ∀ a, A = some a → ¬ a.block ∈ S)
    (hkeep : ∀ W S', Fr S w W → (∀ x ∈ S', x < w.heap.size → x ∈ S) → ∀ v ∈ xs, ok w S v → ok W S' v) (hl : l.length + 20 + (n + 1) * N ≤ 1073741000) :
    Calls Try.prog 74 #[.pointer (some ⟨g, 0, none⟩), fnV 75, .slice A n c] w fun e w' => e = .returned (.pointer (some ⟨g, 0, none⟩)) ∧ Gr w S g (l ++ listL full xs) w' := by
  have HG0 := Lib.hid (Gr.refl hw)
  have HX := Lib.hid hx
  have HA := Lib.hid hA
  have HL := Lib.hid hl
  have HKP := Lib.hid hkeep
  have HSL := Lib.hid hw.lt
  have hxn := hx.1
  clear hw hx hA hl hkeep
  unfold fnV
  go_enter Try.func74, Try.ntmps74
  go_wp2_with fail
  refine (HG0.out.call fun S1 k1 => int_any (n : Int) (by omega) (by omega) _ S1 g _ k1 (by have := HL.out; omega)).mono ?_
  rintro e w1 ⟨rfl, hg1⟩
  have HG1 := Lib.hid hg1
  clear hg1 HG0
  go_wp2_with fail
  go_loopw [15] (fun i wr => ∃ k : Nat, k ≤ n ∧ i = .int .i64 k ∧ Gr w S g (l ++ encI (n : Int) ++ (xs.take k).flatMap full) wr) (fun i _ => n - (intOf i).toNat)
  case atStart => exact ⟨0, by omega, rfl, by simpa using HG1.out⟩
  case round =>
    obtain ⟨k, hk, rfl, hg⟩ := hrel
    have HG := Lib.hid hg
    clear hg
    by_cases hlt : k < n
    · obtain ⟨ad, v, rfl, hv, hcl, hok, hc⟩ := HX.out.at hlt
      have HV := Lib.hid hv
      have HCL := Lib.hid hcl
      have HOK := Lib.hid hok
      have HMEM := Lib.hid (List.mem_of_getElem? hv)
      have HC := Lib.hid (fun j x hj => HG.out.fr.cell (hc j x hj) (by rw [add_block, add_block]; exact HA.out (by omega) ad rfl))
      have HONE := Lib.hid (hone v)
      have HPUT := Lib.hid (hput v)
      have hk0 : (0 : Int) ≤ k := by omega
      have hlen : ((xs.take k).flatMap full).length ≤ k * N := flat_len (fun v hv => hfull w S v (HX.out.2.1 v (List.mem_of_mem_take hv)).2) (by rw [List.length_take]; omega)
      have hkn2 : k * N + N ≤ (n + 1) * N := by rw [← Nat.succ_mul]; exact Nat.mul_le_mul_right N (by omega)
      have HLEN : Hid ((l ++ encI (n : Int) ++ (xs.take k).flatMap full).length + N ≤ 1073741000) := Lib.hid (by have := HL.out; have := encI_len (n : Int) (by omega); simp only [List.length_append]; omega)
      have HTK : Hid ((xs.take (k + 1)).flatMap full = (xs.take k).flatMap full ++ full v) := Lib.hid (by rw [List.take_add_one, hv]; simp)
      have HFV := Lib.hid (rfl : cells v = cells v)
      clear hv hcl hok hc hlen hkn2
      generalize hcv : cells v = C at *
      go_wp2_with (first
        | (refine wpList_cells rfl 118 _ rfl _ rfl C HC.out (row_tmb.of HCL.out) ?_)
        | (refine wpList_store_box rfl 118 _ _ rfl _ 118 C rfl rfl (by rw [hsz, HCL.out]) (by rw [HCL.out]; rfl) HONE.out ?_
           intro wb hbb hfb
           have HBB := Lib.hid hbb
           have HFB := Lib.hid hfb
           clear hbb hfb)
        | (refine wpList_row rfl 118 _ rfl _ _ rfl _ HBB.out.range (row_tmb.of HCL.out) ?_))
      have HGB := Lib.hid (HG.out.trans (fun S1 k => ⟨S1, k.keep HFB.out (by simp), HFB.out.mono (by simp), fun x hx _ => hx⟩))
      refine (HGB.out.calls fun S1 k1 f1 s1 => HPUT.out _ S1 g _ (HKP.out wb S1 f1 s1 v HMEM.out HOK.out) k1 HLEN.out).mono ?_
      rintro e w2 ⟨rfl, hg2⟩
      have HG2 := Lib.hid hg2
      clear hg2
      go_wp2
      exact ⟨⟨k + 1, by omega, rfl, HG2.out.eq (by rw [HTK.out, List.append_assoc])⟩, by simp only [intOf, Int.toNat_natCast, Int.toNat_natCast_add_one]; omega⟩
    · have hkn : k = n := by omega
      subst hkn
      have HFIN : Hid (Gr w S g (l ++ listL full xs) wr) := Lib.hid (HG.out.eq (by rw [List.take_of_length_le (by omega), listL, hxn, List.append_assoc]))
      clear HG
      go_wp2
      go_ret
      exact ⟨rfl, HFIN.out⟩
end Go.Proofs.Ytnpjihdhpoddgaa

namespace Go.Proofs.Ytnpjihdhpoddgaa
open Go.RowKit
set_option maxRecDepth 100000
/-- a batch: its epoch, its time, where its promises, openings, tombstones lie -/
structure Wba where
  e : Int
  t : Nat
  A : Option Addr
  n : Nat
  d : Nat
  l : List Wpr
  A2 : Option Addr
  n2 : Nat
  d2 : Nat
  l2 : List Wop
  A3 : Option Addr
  n3 : Nat
  d3 : Nat
  l3 : List Wtb
def Wba.cells (x : Wba) : List Value := [.int .i64 x.e, .int .u64 (x.t : Int), .slice x.A x.n x.d, .slice x.A2 x.n2 x.d2, .slice x.A3 x.n3 x.d3]
def Wba.val (x : Wba) : Value := .agg x.cells.toArray
structure Wba.Ok (w : World) (S : List Nat) (x : Wba) : Prop where
  e : i64In x.e
  t : x.t < 18446744073709551616
  l : Lst 6 Wpr.cells (fun w v => v.Ok w S) w x.A x.n x.l
  n : x.n ≤ 4
  ap : 0 < x.n → ∀ a, x.A = some a → ¬ a.block ∈ S
  l2 : Lst 34 Wop.cells (fun w v => v.Ok w S) w x.A2 x.n2 x.l2
  n2 : x.n2 ≤ 5
  ap2 : 0 < x.n2 → ∀ a, x.A2 = some a → ¬ a.block ∈ S
  l3 : Lst 2 Wtb.cells (fun w v => v.Ok w S) w x.A3 x.n3 x.l3
  n3 : x.n3 ≤ 5
  ap3 : 0 < x.n3 → ∀ a, x.A3 = some a → ¬ a.block ∈ S
theorem Wba.one (x : Wba) : ∀ v ∈ x.cells, v.oneCell' = true := by
  intro v hv
  simp only [Wba.cells, List.mem_cons, List.not_mem_nil, or_false] at hv
  rcases hv with rfl | rfl | rfl | rfl | rfl <;> rfl
theorem Wba.len (x : Wba) : x.cells.length = 5 := rfl
theorem Wba.Ok.keep {w W : World} {S S' : List Nat} {x : Wba} (h : x.Ok w S) (hf : Fr S w W) (hs : ∀ k ∈ S', k < w.heap.size → k ∈ S) : x.Ok W S' :=
  ⟨h.e, h.t, h.l.keep' hf h.ap (fun _ _ h => h.keep hf hs), h.n, fun hn a ha hin => h.ap hn a ha (hs _ hin (h.l.lt hn (by decide) (fun _ _ => rfl) a ha)),
    h.l2.keep' hf h.ap2 (fun _ _ h => h.keep hf hs), h.n2, fun hn a ha hin => h.ap2 hn a ha (hs _ hin (h.l2.lt hn (by decide) (fun v hv => Wop.len (h.l2.2.1 v hv).2.h) a ha)),
    h.l3.keep' hf h.ap3 (fun _ _ h => h.keep hf hs), h.n3, fun hn a ha hin => h.ap3 hn a ha (hs _ hin (h.l3.lt hn (by decide) (fun _ _ => rfl) a ha))⟩
def Wba.full (x : Wba) : List UInt8 := encI x.e ++ enc x.t ++ listL Wpr.full x.l ++ listL Wop.full x.l2 ++ listL Wtb.full x.l3
theorem Wba.l_len {w : World} {S : List Nat} {x : Wba} (hx : x.Ok w S) : (listL Wpr.full x.l).length ≤ 9300 := by
  have b1 := encI_len (x.l.length : Int) (by have := hx.n; have := hx.l.1; omega)
  have b2 : (x.l.flatMap Wpr.full).length ≤ 4 * 2300 := flat_len (fun v hv => Wpr.full_len (hx.l.2.1 v hv).2) (by have := hx.n; have := hx.l.1; omega)
  simp only [listL, List.length_append]
  omega
theorem Wba.l2_len {w : World} {S : List Nat} {x : Wba} (hx : x.Ok w S) : (listL Wop.full x.l2).length ≤ 1700 := by
  have b1 := encI_len (x.l2.length : Int) (by have := hx.n2; have := hx.l2.1; omega)
  have b2 : (x.l2.flatMap Wop.full).length ≤ 5 * 320 := flat_len (fun v hv => Wop.full_len (hx.l2.2.1 v hv).2) (by have := hx.n2; have := hx.l2.1; omega)
  simp only [listL, List.length_append]
  omega
theorem Wba.l3_len {w : World} {S : List Nat} {x : Wba} (hx : x.Ok w S) : (listL Wtb.full x.l3).length ≤ 2700 := by
  have b1 := encI_len (x.l3.length : Int) (by have := hx.n3; have := hx.l3.1; omega)
  have b2 : (x.l3.flatMap Wtb.full).length ≤ 5 * 520 := flat_len (fun v hv => Wtb.full_len (hx.l3.2.1 v hv).2) (by have := hx.n3; have := hx.l3.1; omega)
  simp only [listL, List.length_append]
  omega
theorem Wba.full_len {w : World} {S : List Nat} {x : Wba} (hx : x.Ok w S) : x.full.length ≤ 14000 := by
  have b0 := encI_len x.e hx.e.2
  have b1 := enc_ten hx.t
  have b2 := Wba.l_len hx
  have b3 := Wba.l2_len hx
  have b4 := Wba.l3_len hx
  simp only [Wba.full, List.length_append]
  omega
set_option maxHeartbeats 1000000 in
theorem putBatch_any (x : Wba) (w : World) (S : List Nat) (g : Nat) (l : List UInt8) (hw : Wr w S g l) (hl : l.length + 60000 ≤ 1073741000) (hx : x.Ok w S) :
    Calls Try.prog 51 #[.pointer (some ⟨g, 0, none⟩), x.val] w fun e w' => e = .returned (.pointer (some ⟨g, 0, none⟩)) ∧ Gr w S g (l ++ x.full) w' := by
  obtain ⟨wa, hwa⟩ : ∃ wa, wa = w.alloc (Obj.cells x.cells.toArray 45) := ⟨_, rfl⟩
  have hf0 : Fr [] w wa := by rw [hwa]; exact (Fr.refl [] w).alloc _
  have hb0 : Blk wa w.heap.size 45 x.cells.toArray := by rw [hwa]; exact Blk.new _ _ _
  have HNS : Hid (¬ w.heap.size ∈ S) := Lib.hid (fun h => by have := hw.lt _ h; omega)
  have HG0 := Lib.hid (Gr.begin hw hf0)
  have HC0 : Hid (wa.cell? ⟨w.heap.size, 0 + 0, none⟩ = some (.int .i64 x.e)) := Lib.hid (hb0.range (cs := x.cells) 0 _ rfl)
  have HC1 : Hid (wa.cell? ⟨w.heap.size, 0 + 1, none⟩ = some (.int .u64 (x.t : Int))) := Lib.hid (hb0.range (cs := x.cells) 1 _ rfl)
  have HC2 : Hid (wa.cell? ⟨w.heap.size, 0 + 2, none⟩ = some (.slice x.A x.n x.d)) := Lib.hid (hb0.range (cs := x.cells) 2 _ rfl)
  have HC3 : Hid (wa.cell? ⟨w.heap.size, 0 + 3, none⟩ = some (.slice x.A2 x.n2 x.d2)) := Lib.hid (hb0.range (cs := x.cells) 3 _ rfl)
  have HC4 : Hid (wa.cell? ⟨w.heap.size, 0 + 4, none⟩ = some (.slice x.A3 x.n3 x.d3)) := Lib.hid (hb0.range (cs := x.cells) 4 _ rfl)
  have HXA : Hid (x.Ok wa S) := Lib.hid (hx.keep (hf0.mono (T := S) (by simp)) (fun k hk _ => hk))
  have HF0 := Lib.hid hf0
  have HWA := Lib.hid hwa
  have HL := Lib.hid hl
  have HX := Lib.hid hx
  clear hwa hf0 hb0 hl hw hx
  unfold Wba.val
  generalize hC : x.cells = C at *
  have HRC := Lib.hid hC
  clear hC
  go_enter Try.func51, Try.ntmps51
  go_wp2
  rw [← HWA.out]
  refine wp_region_held_drew (S := Fr S wa) (by kernel_rfl) (Fr.drew (Fr.refl _ wa)) (fun hHeld => ?_)
  refine run_at (i := 0) (v := ?_) rfl (by kernel_rfl) (by rfl) (fun _ _ _ h => h) hHeld (fun w1 hw1 => ?_) ?_
  rotate_left 1
  · skip
    go_simp
    (try (first | with_reducible rfl | (apply And.intro <;> rfl)))
  simp only [Act.put, List.setIfInBounds_toArray, List.set_cons_zero, List.set_cons_succ]
  refine run_at (i := 1) (v := ?_) rfl (by kernel_rfl) (by rfl) (fun _ _ _ h => h) hHeld (fun w1 hw1 => ?_) ?_
  rotate_left 1
  · skip
    go_simp
    (try (first | with_reducible rfl | (apply And.intro <;> rfl)))
  simp only [Act.put, List.setIfInBounds_toArray, List.set_cons_zero, List.set_cons_succ]
  refine run_at (i := 2) (v := ?_) rfl (by kernel_rfl) (by rfl) (fun _ _ _ h => h) hHeld (fun w1 hw1 => ?_) ?_
  rotate_left 1
  · skip
    have hcw0 := hw1.cell (HC0.out) (by first | (simp; done) | exact HNS.out | exact HNW.out | (intro hm; have hlt := HSB.out _ hm; (try dsimp only at hlt); omega))
    go_simp
    (try (first | with_reducible rfl | (apply And.intro <;> rfl)))
  simp only [Act.put, List.setIfInBounds_toArray, List.set_cons_zero, List.set_cons_succ]
  refine run_at (i := 4) (v := ?_) rfl (by kernel_rfl) (by rfl) (fun _ _ _ h => h) hHeld (fun w1 hw1 => ?_) ?_
  rotate_left 1
  · skip
    go_simp
    (try (first | with_reducible rfl | (apply And.intro <;> rfl)))
  simp only [Act.put, List.setIfInBounds_toArray, List.set_cons_zero, List.set_cons_succ]
  refine run_at (i := 5) (v := ?_) rfl (by kernel_rfl) (by rfl) (fun _ _ _ h => h) hHeld (fun w1 hw1 => ?_) ?_
  rotate_left 1
  · skip
    have hcw0 := hw1.cell (HC1.out) (by first | (simp; done) | exact HNS.out | exact HNW.out | (intro hm; have hlt := HSB.out _ hm; (try dsimp only at hlt); omega))
    go_simp
    (try (first | with_reducible rfl | (apply And.intro <;> rfl)))
  simp only [Act.put, List.setIfInBounds_toArray, List.set_cons_zero, List.set_cons_succ]
  refine call_at (i := 3) (f := ?_) (args := ?_) rfl (by kernel_rfl) (by rfl) ?_ ?_
  rotate_left 2
  · go_simp
    (try (first | with_reducible rfl | (apply And.intro <;> rfl)))
  refine (HG0.out.call fun S1 k1 => int_any x.e HX.out.e.1 HX.out.e.2 _ S1 g _ k1 (by have h0 := HL.out; (try simp only [List.length_append, sgL, nmL] at *); omega)).mono ?_
  rintro e w1 ⟨rfl, hg1⟩
  have HG1 := Lib.hid hg1
  refine ⟨_, rfl, hg1.fr, fun hHeld => ?_⟩
  clear hg1 HG0
  simp only [Act.put, List.setIfInBounds_toArray, List.set_cons_zero, List.set_cons_succ]
  refine call_at (i := 6) (f := ?_) (args := ?_) rfl (by kernel_rfl) (by rfl) ?_ ?_
  rotate_left 2
  · go_simp
    (try (first | with_reducible rfl | (apply And.intro <;> rfl)))
  refine (HG1.out.call fun S1 k1 => num_any x.t HX.out.t _ S1 g _ k1 (by have h0 := HL.out; have b0 := encI_len x.e HX.out.e.2; (try simp only [List.length_append, sgL, nmL] at *); omega)).mono ?_
  rintro e w2 ⟨rfl, hg2⟩
  have HG2 := Lib.hid hg2
  refine ⟨_, rfl, hg2.fr, fun hHeld => ?_⟩
  clear hg2 HG1
  simp only [Act.put, List.setIfInBounds_toArray, List.set_cons_zero, List.set_cons_succ]
  refine wpAnyH_done (by kernel_rfl) ?_ _
  have hc2 : w2.cell? ⟨w.heap.size, 2, none⟩ = some (.slice x.A x.n x.d) := HG2.out.fr.cell HC2.out HNS.out
  go_wp2_with fail
  refine (HG2.out.calls fun S1 k1 f1 s1 => putPromises_any Wpr.cells (fun w S v => v.Ok w S) Wpr.full 6200 Wpr.one rfl (fun _ _ v h => Nat.le_trans (Wpr.full_len h) (by decide)) (fun v W S g l h hw hl => putPromise_any v W S g l hw hl h) _ S1 g _ k1 x.A x.n x.d x.l (HXA.out.keep f1 s1).l (by have := HX.out.n; omega) (HXA.out.keep f1 s1).ap (fun _ _ hf hs _ _ h => h.keep hf hs) (by have h0 := HL.out; have b0 := encI_len x.e HX.out.e.2; have b1 := enc_ten HX.out.t; have b2 := Wba.l_len HX.out; have b3 := Wba.l2_len HX.out; have := HX.out.n; simp only [List.length_append]; omega)).mono ?_
  rintro e w3 ⟨rfl, hg3⟩
  have HG3 := Lib.hid hg3
  clear hg3 HG2 hc2
  have hc3 : w3.cell? ⟨w.heap.size, 3, none⟩ = some (.slice x.A2 x.n2 x.d2) := HG3.out.fr.cell HC3.out HNS.out
  go_wp2_with fail
  refine (HG3.out.calls fun S1 k1 f1 s1 => putOpenings_any Wop.cells (fun w S v => v.Ok w S) Wop.full 500 Wop.one rfl (fun _ _ v h => Nat.le_trans (Wop.full_len h) (by decide)) (fun v W S g l h hw hl => putOpening_any v W S g l hw hl h) _ S1 g _ k1 x.A2 x.n2 x.d2 x.l2 (HXA.out.keep f1 s1).l2 (by have := HX.out.n2; omega) (HXA.out.keep f1 s1).ap2 (fun _ _ hf hs _ _ h => h.keep hf hs) (by have h0 := HL.out; have b0 := encI_len x.e HX.out.e.2; have b1 := enc_ten HX.out.t; have b2 := Wba.l_len HX.out; have b3 := Wba.l2_len HX.out; have := HX.out.n2; simp only [List.length_append]; omega)).mono ?_
  rintro e w4 ⟨rfl, hg4⟩
  have HG4 := Lib.hid hg4
  clear hg4 HG3 hc3
  have hc4 : w4.cell? ⟨w.heap.size, 4, none⟩ = some (.slice x.A3 x.n3 x.d3) := HG4.out.fr.cell HC4.out HNS.out
  go_wp2_with fail
  refine (HG4.out.calls fun S1 k1 f1 s1 => putTombs_any Wtb.cells (fun w S v => v.Ok w S) Wtb.full 1500 Wtb.one rfl (fun _ _ v h => Nat.le_trans (Wtb.full_len h) (by decide)) (fun v W S g l h hw hl => putTomb_any v W S g l hw hl h) _ S1 g _ k1 x.A3 x.n3 x.d3 x.l3 (HXA.out.keep f1 s1).l3 (by have := HX.out.n3; omega) (HXA.out.keep f1 s1).ap3 (fun _ _ hf hs _ _ h => h.keep hf hs) (by have h0 := HL.out; have b0 := encI_len x.e HX.out.e.2; have b1 := enc_ten HX.out.t; have b2 := Wba.l_len HX.out; have b3 := Wba.l2_len HX.out; have := HX.out.n3; simp only [List.length_append]; omega)).mono ?_
  rintro e w5 ⟨rfl, hg5⟩
  have HG5 := Lib.hid hg5
  clear hg5 HG4 hc4
  go_wp2
  go_ret
  exact ⟨rfl, (HG5.out.from_ HF0.out).eq (by simp [Wba.full, List.append_assoc])⟩
theorem putBatch_any' (x : Wba) (C : List Value) (hC : x.cells = C) (w : World) (S : List Nat) (g : Nat) (l : List UInt8) (hw : Wr w S g l) (hl : l.length + 60000 ≤ 1073741000) (hx : x.Ok w S) :
    Calls Try.prog 51 #[.pointer (some ⟨g, 0, none⟩), .agg C.toArray] w fun e w' => e = .returned (.pointer (some ⟨g, 0, none⟩)) ∧ Gr w S g (l ++ x.full) w' := by
  subst hC
  exact putBatch_any x w S g l hw hl hx
end Go.Proofs.Ytnpjihdhpoddgaa

namespace Go.Proofs.Ytnpjihdhpoddgaa
open Go.RowKit
set_option maxRecDepth 100000
theorem NewWr.calls {P : Program} {f : FuncId} {args : Array Value} {w0 w : World} {g : Nat} {l l' : List UInt8} {v : Value} (h : NewWr w0 w g l)
    (hc : ∀ S, Wr w S g l → Fr [] w0 w → (∀ k ∈ S, w0.heap.size ≤ k) → Calls P f args w fun e w' => e = .returned v ∧ Gr w S g l' w') : Calls P f args w fun e w' => e = .returned v ∧ NewWr w0 w' g l' := by
  obtain ⟨S, k1, k2, k3⟩ := h
  refine (hc S k1 k2 k3).mono ?_
  rintro e w' ⟨rfl, hg⟩
  exact ⟨rfl, NewWr.add k2 k3 hg⟩
def wWpr : List UInt8 := [112, 114, 111, 109, 105, 115, 101]
def Wpr.text (x : Wpr) : List UInt8 := enc wWpr.length ++ wWpr ++ x.bare
theorem Wpr.text_len {w : World} {S : List Nat} {x : Wpr} (hx : x.Ok w S) : x.text.length ≤ 2300 := by
  have b0 := Wpr.bare_len hx
  have b1 := enc_ten (m := wWpr.length) (by decide)
  have b2 : wWpr.length = 7 := rfl
  simp only [Wpr.text, List.length_append]
  omega
/-- one more than z, below 0: 0 -/
def oneM (z : Int) : Nat := if z < 0 then 0 else z.toNat + 1
theorem oneMore_any (z : Int) (hz : i64In z) (w : World) :
    Calls Try.prog 76 #[.int .i64 z] w fun e w' => e = .returned (.int .u64 (oneM z : Int)) ∧ w' = w := by
  obtain ⟨h1, h2⟩ := hz
  unfold oneM
  by_cases h : z < 0
  · rw [if_pos h]
    go_enter Try.func76, Try.ntmps76
    go_wp2
    go_ret
    exact ⟨rfl, rfl⟩
  · rw [if_neg h]
    have e1 : IntKind.u64.wrap z = z := IntWalk.u64_in _ (by omega)
    have e2 : IntKind.u64.wrap (z + 1) = z + 1 := IntWalk.u64_in _ (by omega)
    go_enter Try.func76, Try.ntmps76
    go_wp2
    go_ret
    exact ⟨by show Ending.returned (Value.int IntKind.u64 (z + 1)) = _; congr 2; omega, rfl⟩
/-- a proposal -/
structure Wpo where
  e : Int
  r : Int
  v : Int
  p : Int
  k : Wba
  b : Int
  m : Int
def Wpo.cells (x : Wpo) : List Value := [.int .i64 x.e, .int .i64 x.r, .int .i64 x.v, .int .i64 x.p] ++ (x.k.cells ++ [.int .i64 x.b, .int .i64 x.m])
def Wpo.val (x : Wpo) : Value := .agg x.cells.toArray
structure Wpo.Ok (w : World) (x : Wpo) : Prop where
  e : i64In x.e
  r : i64In x.r
  v : i64In x.v
  p : i64In x.p
  k : x.k.Ok w []
  b : i64In x.b
  m : i64In x.m
theorem Wpo.len (x : Wpo) : x.cells.length = 11 := rfl
def wWpo : List UInt8 := [112, 114, 111, 112, 111, 115, 97, 108]
def Wpo.head (x : Wpo) : List UInt8 := encI x.e ++ encI x.r ++ enc (oneM x.v) ++ encI x.p
theorem Wpo.head_len {x : Wpo} (he : i64In x.e) (hr : i64In x.r) (hv : i64In x.v) (hp : i64In x.p) : x.head.length ≤ 40 := by
  have b0 := encI_len x.e he.2
  have b1 := encI_len x.r hr.2
  have b2 := encI_len x.p hp.2
  have b3 : oneM x.v < 18446744073709551616 := by have := hv.2; unfold oneM; split <;> omega
  have b4 := enc_ten b3
  simp only [Wpo.head, List.length_append]
  omega
def Wpo.text (x : Wpo) : List UInt8 := enc wWpo.length ++ wWpo ++ x.head ++ sumL x.k.full
theorem row_prop : RowTy Try.prog 47 11 := ⟨by kernel_rfl, by kernel_rfl⟩
set_option maxHeartbeats 1000000 in
theorem proposalHead_any (x : Wpo) (C : List Value) (hC : x.cells = C) (w : World) (S : List Nat) (g : Nat) (l : List UInt8) (hw : Wr w S g l) (hl : l.length + 100 ≤ 1073741000) (he : i64In x.e) (hr : i64In x.r) (hv : i64In x.v) (hp : i64In x.p) :
    Calls Try.prog 52 #[.pointer (some ⟨g, 0, none⟩), .agg C.toArray] w fun e w' => e = .returned (.pointer (some ⟨g, 0, none⟩)) ∧ Gr w S g (l ++ x.head) w' := by
  obtain ⟨wa, hwa⟩ : ∃ wa, wa = w.alloc (Obj.cells C.toArray 47) := ⟨_, rfl⟩
  have hf0 : Fr [] w wa := by rw [hwa]; exact (Fr.refl [] w).alloc _
  have hb0 : Blk wa w.heap.size 47 x.cells.toArray := by rw [hwa, hC]; exact Blk.new _ _ _
  have HNS : Hid (¬ w.heap.size ∈ S) := Lib.hid (fun h => by have := hw.lt _ h; omega)
  have HG0 := Lib.hid (Gr.begin hw hf0)
  have HC0 : Hid (wa.cell? ⟨w.heap.size, 0 + 0, none⟩ = some (.int .i64 x.e)) := Lib.hid (hb0.range (cs := x.cells) 0 _ rfl)
  have HC1 : Hid (wa.cell? ⟨w.heap.size, 0 + 1, none⟩ = some (.int .i64 x.r)) := Lib.hid (hb0.range (cs := x.cells) 1 _ rfl)
  have HC2 : Hid (wa.cell? ⟨w.heap.size, 0 + 2, none⟩ = some (.int .i64 x.v)) := Lib.hid (hb0.range (cs := x.cells) 2 _ rfl)
  have HC3 : Hid (wa.cell? ⟨w.heap.size, 0 + 3, none⟩ = some (.int .i64 x.p)) := Lib.hid (hb0.range (cs := x.cells) 3 _ rfl)
  have HM : Hid (oneM x.v < 18446744073709551616) := Lib.hid (by have := hv.2; unfold oneM; split <;> omega)
  have HF0 := Lib.hid hf0
  have HWA := Lib.hid hwa
  have HL := Lib.hid hl
  have HE := Lib.hid he
  have HR := Lib.hid hr
  have HV := Lib.hid hv
  have HP := Lib.hid hp
  clear hwa hf0 hb0 hl hw he hr hv hp hC
  go_enter Try.func52, Try.ntmps52
  go_wp2
  rw [← HWA.out]
  refine wp_region_held_drew (S := Fr S wa) (by kernel_rfl) (Fr.drew (Fr.refl _ wa)) (fun hHeld => ?_)
  refine run_at (i := 0) (v := ?_) rfl (by kernel_rfl) (by rfl) (fun _ _ _ h => h) hHeld (fun w1 hw1 => ?_) ?_
  rotate_left 1
  · skip
    go_simp
    (try (first | with_reducible rfl | (apply And.intro <;> rfl)))
  simp only [Act.put, List.setIfInBounds_toArray, List.set_cons_zero, List.set_cons_succ]
  refine run_at (i := 1) (v := ?_) rfl (by kernel_rfl) (by rfl) (fun _ _ _ h => h) hHeld (fun w1 hw1 => ?_) ?_
  rotate_left 1
  · skip
    go_simp
    (try (first | with_reducible rfl | (apply And.intro <;> rfl)))
  simp only [Act.put, List.setIfInBounds_toArray, List.set_cons_zero, List.set_cons_succ]
  refine run_at (i := 2) (v := ?_) rfl (by kernel_rfl) (by rfl) (fun _ _ _ h => h) hHeld (fun w1 hw1 => ?_) ?_
  rotate_left 1
  · skip
    have hcw0 := hw1.cell (HC0.out) (by first | (simp; done) | exact HNS.out | exact HNW.out | (intro hm; have hlt := HSB.out _ hm; (try dsimp only at hlt); omega))
    go_simp
    (try (first | with_reducible rfl | (apply And.intro <;> rfl)))
  simp only [Act.put, List.setIfInBounds_toArray, List.set_cons_zero, List.set_cons_succ]
  refine run_at (i := 4) (v := ?_) rfl (by kernel_rfl) (by rfl) (fun _ _ _ h => h) hHeld (fun w1 hw1 => ?_) ?_
  rotate_left 1
  · skip
    go_simp
    (try (first | with_reducible rfl | (apply And.intro <;> rfl)))
  simp only [Act.put, List.setIfInBounds_toArray, List.set_cons_zero, List.set_cons_succ]
  refine run_at (i := 5) (v := ?_) rfl (by kernel_rfl) (by rfl) (fun _ _ _ h => h) hHeld (fun w1 hw1 => ?_) ?_
  rotate_left 1
  · skip
    have hcw0 := hw1.cell (HC1.out) (by first | (simp; done) | exact HNS.out | exact HNW.out | (intro hm; have hlt := HSB.out _ hm; (try dsimp only at hlt); omega))
    go_simp
    (try (first | with_reducible rfl | (apply And.intro <;> rfl)))
  simp only [Act.put, List.setIfInBounds_toArray, List.set_cons_zero, List.set_cons_succ]
  refine run_at (i := 7) (v := ?_) rfl (by kernel_rfl) (by rfl) (fun _ _ _ h => h) hHeld (fun w1 hw1 => ?_) ?_
  rotate_left 1
  · skip
    go_simp
    (try (first | with_reducible rfl | (apply And.intro <;> rfl)))
  simp only [Act.put, List.setIfInBounds_toArray, List.set_cons_zero, List.set_cons_succ]
  refine run_at (i := 8) (v := ?_) rfl (by kernel_rfl) (by rfl) (fun _ _ _ h => h) hHeld (fun w1 hw1 => ?_) ?_
  rotate_left 1
  · skip
    have hcw0 := hw1.cell (HC2.out) (by first | (simp; done) | exact HNS.out | exact HNW.out | (intro hm; have hlt := HSB.out _ hm; (try dsimp only at hlt); omega))
    go_simp
    (try (first | with_reducible rfl | (apply And.intro <;> rfl)))
  simp only [Act.put, List.setIfInBounds_toArray, List.set_cons_zero, List.set_cons_succ]
  refine run_at (i := 11) (v := ?_) rfl (by kernel_rfl) (by rfl) (fun _ _ _ h => h) hHeld (fun w1 hw1 => ?_) ?_
  rotate_left 1
  · skip
    go_simp
    (try (first | with_reducible rfl | (apply And.intro <;> rfl)))
  simp only [Act.put, List.setIfInBounds_toArray, List.set_cons_zero, List.set_cons_succ]
  refine run_at (i := 12) (v := ?_) rfl (by kernel_rfl) (by rfl) (fun _ _ _ h => h) hHeld (fun w1 hw1 => ?_) ?_
  rotate_left 1
  · skip
    have hcw0 := hw1.cell (HC3.out) (by first | (simp; done) | exact HNS.out | exact HNW.out | (intro hm; have hlt := HSB.out _ hm; (try dsimp only at hlt); omega))
    go_simp
    (try (first | with_reducible rfl | (apply And.intro <;> rfl)))
  simp only [Act.put, List.setIfInBounds_toArray, List.set_cons_zero, List.set_cons_succ]
  refine call_at (i := 3) (f := ?_) (args := ?_) rfl (by kernel_rfl) (by rfl) ?_ ?_
  rotate_left 2
  · go_simp
    (try (first | with_reducible rfl | (apply And.intro <;> rfl)))
  refine (HG0.out.call fun S1 k1 => int_any x.e HE.out.1 HE.out.2 _ S1 g _ k1 (by have h0 := HL.out; (try simp only [List.length_append] at *); omega)).mono ?_
  rintro e w1 ⟨rfl, hg1⟩
  have HG1 := Lib.hid hg1
  refine ⟨_, rfl, hg1.fr, fun hHeld => ?_⟩
  clear hg1 HG0
  simp only [Act.put, List.setIfInBounds_toArray, List.set_cons_zero, List.set_cons_succ]
  refine call_at (i := 6) (f := ?_) (args := ?_) rfl (by kernel_rfl) (by rfl) ?_ ?_
  rotate_left 2
  · go_simp
    (try (first | with_reducible rfl | (apply And.intro <;> rfl)))
  refine (HG1.out.call fun S1 k1 => int_any x.r HR.out.1 HR.out.2 _ S1 g _ k1 (by have h0 := HL.out; have b0 := encI_len x.e HE.out.2; (try simp only [List.length_append] at *); omega)).mono ?_
  rintro e w2 ⟨rfl, hg2⟩
  have HG2 := Lib.hid hg2
  refine ⟨_, rfl, hg2.fr, fun hHeld => ?_⟩
  clear hg2 HG1
  simp only [Act.put, List.setIfInBounds_toArray, List.set_cons_zero, List.set_cons_succ]
  refine call_at (i := 9) (f := ?_) (args := ?_) rfl (by kernel_rfl) (by rfl) ?_ ?_
  rotate_left 2
  · go_simp
    (try (first | with_reducible rfl | (apply And.intro <;> rfl)))
  refine (oneMore_any x.v HV.out w2).mono ?_
  rintro e w4 ⟨rfl, hw4⟩
  rw [hw4]
  clear hw4 w4
  refine ⟨_, rfl, HG2.out.fr, fun hHeld => ?_⟩
  simp only [Act.put, List.setIfInBounds_toArray, List.set_cons_zero, List.set_cons_succ]
  refine call_at (i := 10) (f := ?_) (args := ?_) rfl (by kernel_rfl) (by rfl) ?_ ?_
  rotate_left 2
  · go_simp
    (try (first | with_reducible rfl | (apply And.intro <;> rfl)))
  refine (HG2.out.call fun S1 k1 => num_any (oneM x.v) HM.out _ S1 g _ k1 (by have h0 := HL.out; have b0 := encI_len x.e HE.out.2; have b1 := encI_len x.r HR.out.2; (try simp only [List.length_append] at *); omega)).mono ?_
  rintro e w5 ⟨rfl, hg5⟩
  have HG5 := Lib.hid hg5
  refine ⟨_, rfl, hg5.fr, fun hHeld => ?_⟩
  clear hg5 HG2
  simp only [Act.put, List.setIfInBounds_toArray, List.set_cons_zero, List.set_cons_succ]
  refine call_at (i := 13) (f := ?_) (args := ?_) rfl (by kernel_rfl) (by rfl) ?_ ?_
  rotate_left 2
  · go_simp
    (try (first | with_reducible rfl | (apply And.intro <;> rfl)))
  refine (HG5.out.call fun S1 k1 => int_any x.p HP.out.1 HP.out.2 _ S1 g _ k1 (by have h0 := HL.out; have b0 := encI_len x.e HE.out.2; have b1 := encI_len x.r HR.out.2; have b2 := enc_ten HM.out; (try simp only [List.length_append] at *); omega)).mono ?_
  rintro e w6 ⟨rfl, hg6⟩
  have HG6 := Lib.hid hg6
  refine ⟨_, rfl, hg6.fr, fun hHeld => ?_⟩
  clear hg6 HG5
  simp only [Act.put, List.setIfInBounds_toArray, List.set_cons_zero, List.set_cons_succ]
  refine run_at (i := 14) (v := ?_) rfl (by kernel_rfl) (by rfl) (fun _ _ _ h => h) hHeld (fun w1 hw1 => ?_) ?_
  rotate_left 1
  · skip
    go_simp
    (try (first | with_reducible rfl | (apply And.intro <;> rfl)))
  simp only [Act.put, List.setIfInBounds_toArray, List.set_cons_zero, List.set_cons_succ]
  refine wpAnyH_done (by kernel_rfl) ?_ _
  go_wp2
  go_ret
  exact ⟨rfl, (HG6.out.from_ HF0.out).eq (by simp [Wpo.head, List.append_assoc])⟩
end Go.Proofs.Ytnpjihdhpoddgaa

namespace Go.Proofs.Ytnpjihdhpoddgaa
open Go.RowKit
set_option maxRecDepth 100000

/-- a list in new memory that the call owns -/
def NewL {α : Type} (e : TypeId) (k : Nat) (cells : α → List Value) (w w' : World) (A : Option Addr) (n c : Nat) (l : List α) : Prop :=
  w'.ownsRow 0 e k (.slice A n c) n (l.flatMap cells) ∧ Fr [] w w' ∧ ∀ x ∈ bk A, w.heap.size ≤ x
theorem cells_one {α : Type} {cells : α → List Value} (hone : ∀ v, ∀ u ∈ cells v, u.oneCell' = true) (l : List α) : ∀ u ∈ l.flatMap cells, u.oneCell' = true := by
  intro u hu
  obtain ⟨v, _, hv⟩ := List.mem_flatMap.1 hu
  exact hone v u hv
theorem cells_flat_len {α : Type} {cells : α → List Value} {k : Nat} : ∀ {l : List α}, (∀ v ∈ l, (cells v).length = k) → (l.flatMap cells).length = l.length * k
  | [], _ => by simp
  | v :: l, h => by
    rw [List.flatMap_cons, List.length_append, h v (by simp), cells_flat_len (fun u hu => h u (by simp [hu])), List.length_cons, Nat.succ_mul]
    omega
theorem flat_back {α : Type} {cells : α → List Value} {k : Nat} (hk0 : 0 < k) : ∀ {l : List α}, (∀ v ∈ l, (cells v).length = k) → ∀ {j : Nat} {u : Value}, (l.flatMap cells)[j]? = some u → ∃ v, l[j / k]? = some v ∧ (cells v)[j % k]? = some u
  | [], _, j, u, hj => by simp at hj
  | v :: l, h, j, u, hj => by
    have hv := h v (by simp)
    rw [List.flatMap_cons] at hj
    by_cases hlt : j < k
    · rw [List.getElem?_append_left (by omega)] at hj
      exact ⟨v, by rw [Nat.div_eq_of_lt hlt]; rfl, by rw [Nat.mod_eq_of_lt hlt]; exact hj⟩
    · rw [List.getElem?_append_right (by omega), hv] at hj
      obtain ⟨v', h1, h2⟩ := flat_back hk0 (fun u hu => h u (by simp [hu])) hj
      refine ⟨v', ?_, by rw [Nat.mod_eq_sub_mod (show j ≥ k by omega)]; exact h2⟩
      rw [Nat.div_eq_sub_div hk0 (show k ≤ j by omega), List.getElem?_cons_succ]
      exact h1
theorem Lst.flat {α : Type} {k : Nat} {cells : α → List Value} {ok : World → α → Prop} {w : World} {ad : Addr} {n : Nat} {l : List α} (h : Lst k cells ok w (some ad) n l) (hk : 0 < k) : ∀ j u, (l.flatMap cells)[j]? = some u → w.cell? (ad.add j) = some u := by
  intro j u hj
  obtain ⟨v, h1, h2⟩ := flat_back hk (fun v hv => (h.2.1 v hv).1) hj
  have hn : 0 < n := by
    have h3 := (List.getElem?_eq_some_iff.1 h1).1
    rw [h.1] at h3
    exact Nat.lt_of_le_of_lt (Nat.zero_le _) h3
  obtain ⟨ad', e, hc⟩ := h.2.2 hn
  injection e with e
  subst e
  have := hc _ _ h1 _ _ h2
  rwa [Nat.div_add_mod' j k] at this
section
variable {P : Program} (w : World)
theorem run_append_lst {α : Type} {cells : α → List Value} {ok : World → α → Prop} (hone : ∀ v, ∀ u ∈ cells v, u.oneCell' = true) (t ty e : TypeId) (k bytes : Nat) (ht : P.underlying t = some (.slice e)) (he : ElTy P e k bytes) (hk : 0 < k) (hby : bytes ≤ 1000)
    (A : Option Addr) (m c : Nat) (l : List α) (hr : Lst k cells ok w A m l) (hm : m ≤ 1000000) :
    ∃ A' c' w', (Builtin.append_ #[t, t] ty #[.slice none 0 0, .slice A m c]).run P w = .ok (.slice A' m c') w' ∧ NewL e k cells w w' A' m c' l := by
  obtain ⟨i, z, hi, hz, hzs, hsz, hbs⟩ := he
  have hnil : w.ownsRow 0 e k (.slice none 0 0) 0 [] := ⟨by simp, .inl ⟨rfl, rfl⟩⟩
  suffices h : ∃ v' w', (Builtin.append_ #[t, t] ty #[.slice none 0 0, .slice A m c]).run P w = .ok v' w' ∧ w'.ownsRow 0 e k v' m (l.flatMap cells) ∧ w.grownBy w' none ∧ (v'.ownBlock = none ∨ v'.ownBlock = some w.heap.size) by
    obtain ⟨v', w', h1, h2, h3, h4⟩ := h
    obtain ⟨A', c', rfl⟩ := own_form h2
    refine ⟨A', c', w', h1, h2, (Fr.refl [] w).grown h3 (by simp), fun x hx => ?_⟩
    rw [← bk_own A' m c'] at hx
    rcases h4 with h4 | h4 <;> rw [h4] at hx <;> simp at hx <;> omega
  rcases A with _ | ad
  · have hm0 : m = 0 := by
      rcases Nat.eq_zero_or_pos m with h0 | h0
      · exact h0
      · obtain ⟨ad, h, _⟩ := hr.2.2 h0
        cases h
    subst hm0
    have hn : l = [] := List.eq_nil_of_length_eq_zero hr.1
    subst hn
    exact ⟨_, w, run_append_nothing w 0 t ty e i k ht hi _ 0 [] hnil c, by simpa using hnil, World.grownBy.refl w _, .inl rfl⟩
  · obtain ⟨v', w', hrun, h2, h3, _, h5⟩ := run_append_own_at (P := P) w 0 t ty e i z k bytes ht hi hz hsz hbs hzs hk _ 0 [] hnil ad m c (l.flatMap cells)
      (by rw [cells_flat_len (fun v hv => (hr.2.1 v hv).1), hr.1]) (hr.flat hk) (cells_one hone l) (by simp only [maxLen]; omega)
      (Nat.le_trans (Nat.mul_le_mul (show 0 + m ≤ 1000000 by omega) hby) (by decide)) (Nat.zero_le _)
    exact ⟨v', w', hrun, by simpa using h2, h3, by simpa [Value.ownBlock] using h5⟩
theorem wpList_append_lst {α : Type} {cells : α → List Value} {ok : World → α → Prop} {ops : Array Oper} {rest : List Oper} {o : Oper} {a : Act} {Q : Exit → Act → World → Prop} (hgd : o.guard = none) (s x : Operand) (t : TypeId)
    (ho : o.op = .call { callee := .builtin .append, args := #[s, x], argTypes := #[t, t] }) (e : TypeId) (k bytes : Nat) (ht : P.underlying t = some (.slice e)) (he : ElTy P e k bytes) (hk : 0 < k) (hby : bytes ≤ 1000)
    (hone : ∀ v, ∀ u ∈ cells v, u.oneCell' = true) (hs : a.eval s = .slice none 0 0) (A : Option Addr) (m c : Nat) (l : List α) (hx : a.eval x = .slice A m c) (hr : Lst k cells ok w A m l) (hm : m ≤ 1000000)
    (h : ∀ A' c' w', NewL e k cells w w' A' m c' l → wpList P ops Q rest (a.put o.dst (.slice A' m c')) w') : wpList P ops Q (o :: rest) a w := by
  refine wpList_plain hgd fun K hK => ?_
  obtain ⟨A', c', w', hrun, h2⟩ := run_append_lst (P := P) w hone t o.type e k bytes ht he hk hby A m c l hr hm
  unfold Oper.wp execOp
  simp only [ho, resolve, invoke, builtin, Sem.run_bind, Sem.run_pure, Result.andThen_ok, List.map_toArray, List.map_cons, List.map_nil, hs, hx, hrun]
  exact hK _ _ (h A' c' w' h2)
end
theorem el_stamp : ElTy Try.prog 32 38 80 := ElTy.of (by kernel_rfl)
end Go.Proofs.Ytnpjihdhpoddgaa

namespace Go.Proofs.Ytnpjihdhpoddgaa
open Go.RowKit
set_option maxRecDepth 100000

def zeroCe : Array Value := (Wce.cells ⟨⟨0, 0, List.replicate 32 0, 0, 0, 0⟩, none, 0, 0, []⟩).toArray
theorem set_last (K : List Value) (hK : K.length = 37) (u v : Value) : (K ++ [u]).toArray.setIfInBounds 37 v = (K ++ [v]).toArray := by
  rw [List.setIfInBounds_toArray, List.set_append_right _ _ (by omega), hK]
  rfl
theorem wpList_append_one2 {P : Program} {ops : Array Oper} {rest : List Oper} {o : Oper} {a : Act} {w : World} {Q : Exit → Act → World → Prop} (hg : o.guard = none) (s x : Operand) (t e : TypeId)
    (ho : o.op = .call { callee := .builtin .append, args := #[s, x], argTypes := #[t, t] }) (ht : P.underlying t = some (.slice e)) (k bytes : Nat) (he : ElTy P e k bytes) (hk : 0 < k)
    (base : Nat) (v : Value) (n : Nat) (xs cs : List Value) (hs : a.eval s = v) (hown : w.ownsRow base e k v n xs) (hbase : base ≤ w.heap.size) (hcl : cs.length = k) (h1 : ∀ u ∈ cs, u.oneCell' = true)
    (g : Nat) (t' : TypeId) (hx : a.eval x = .slice (some ⟨g, 0, none⟩) 1 1) (hb : Blk w g t' cs.toArray) (hn : n < 1000000) (hby : bytes ≤ 1000)
    (h : ∀ A c w', w'.ownsRow base e k (.slice A (n + 1) c) (n + 1) (xs ++ cs) → Fr v.ownBlock.toList w w' → ((Value.slice A (n + 1) c).ownBlock = v.ownBlock ∨ (Value.slice A (n + 1) c).ownBlock = some w.heap.size) → wpList P ops Q rest (a.put o.dst (.slice A (n + 1) c)) w') : wpList P ops Q (o :: rest) a w := by
  obtain ⟨i, z, hi, hz, hzs, hsz, hbs⟩ := he
  refine wpList_append_lies w hg s x t ho base e i z k bytes ht hi hz hsz hbs hzs hk v n xs hs hown ⟨g, 0, none⟩ 1 1 cs hx (by omega) (fun j u hu => ?_) h1 (by omega) (by simp only [maxLen]; omega)
    (Nat.le_trans (Nat.mul_le_mul (show n + 1 ≤ 1000000 by omega) hby) (by decide)) hbase _ rfl (fun g' cap w' h2 h3 h4 _ => ?_)
  · have hadd : (⟨g, 0, none⟩ : Addr).add j = ⟨g, j, none⟩ := by unfold Addr.add; split <;> simp_all
    rw [hadd, hb.cell j]
    simpa using hu
  · exact h _ _ w' h2 ((Fr.refl _ w).grown h3 (fun y hy _ => by simp [hy])) (h4.imp (fun e => e.symm) (fun e => by rw [e]; rfl))
theorem el_cert : ElTy Try.prog 35 38 96 := ElTy.of (by kernel_rfl)
/-- ys are xs, each with five stamps at most -/
def Small (ys xs : List Wce) : Prop := ys.map (fun y => (y.k, y.l)) = xs.map (fun x => (x.k, x.l.take 5))
def zeroPr : Array Value := (Wpr.cells ⟨0, 0, 0, none, 0, 0, [], 0, 0⟩).toArray
/-- a certificate that comes in: it lies in w, with any number of stamps -/
structure Wce.In (w : World) (x : Wce) : Prop where
  k : x.k.Ok
  l : Lst 38 Wst.cells (fun _ v => v.Ok) w x.A x.n x.l
  n : x.n ≤ maxLen
  d : x.n ≤ x.d
theorem Wce.In.keep {w w' : World} {x : Wce} (h : x.In w) (hf : Fr [] w w') : x.In w' := ⟨h.k, h.l.keep' hf (by simp) (fun _ _ h => h), h.n, h.d⟩
end Go.Proofs.Ytnpjihdhpoddgaa

namespace Go.Proofs.Ytnpjihdhpoddgaa
open Go.ChangeShapes Go.WideShapes Go.ChangeAt Go.RowKit
set_option maxRecDepth 100000
theorem lst_of_cells {α : Type} [Inhabited α] {H : Type} {enc : TypeId × Value → H} {w : World} {spare : Nat → Bool} {held : Bool} {k : Nat} {cells : α → List Value} {ok : World → α → Prop} {t e : TypeId} (ht : Try.prog.underlying t = some (.slice e)) (hc : Try.prog.cellsOf e = k)
    (hel : ∀ fuel cs (x : DataW H × List MemPlace), DataW.trod enc Try.prog w 0 spare held fuel e cs = some x → ∃ v : α, ok w v ∧ cs = cells v) {fuel : Nat} {cs : List Value} {x : DataW H × List MemPlace} (h : DataW.trod enc Try.prog w 0 spare held fuel t cs = some x) :
    ∃ A n d, ∃ l : List α, cs = [.slice A n d] ∧ Lst k cells ok w A n l ∧ n ≤ d ∧ d ≤ maxLen := by
  rcases Go.Deep.open_slice ht h with ⟨rfl, _⟩ | ⟨a, len', cap', m, n, D, Pl, rfl, _⟩
  · obtain ⟨l, h1, h2, h3⟩ := lst_of_trod ht hc hel h
    exact ⟨_, _, _, l, rfl, h1, h2, h3⟩
  · obtain ⟨l, h1, h2, h3⟩ := lst_of_trod ht hc hel h
    exact ⟨_, _, _, l, rfl, h1, h2, h3⟩
theorem stamp_of_trod {H : Type} {enc : TypeId × Value → H} {W : World} {sp : Nat → Bool} {held : Bool} {fuel : Nat} {cs : List Value} {x0 : DataW H × List MemPlace} (h : DataW.trod enc Try.prog W 0 sp held fuel 32 cs = some x0) :
    ∃ x : Wst, x.Ok ∧ cs = x.cells := by
  obtain ⟨xs, m, _, _, hlen, hxl, hat⟩ := DataW.trod_struct Try.underlying32 h
  rw [show Try.prog.cellsOf 32 = 38 by kernel_rfl] at hlen
  have hx : ∀ i (hi : i < 5), xs[i]? = some (xs[i]'(by rw [hxl]; exact hi)) := fun i hi => List.getElem?_eq_getElem _
  have f0 : DataW.trod enc Try.prog W 0 sp held m 3 ((cs.drop 0).take (Try.prog.cellsOf 3)) = _ := (hat 0 _ rfl).trans (hx 0 (by omega))
  rw [show Try.prog.cellsOf 3 = 1 by kernel_rfl] at f0
  obtain ⟨r, e0, _, w0⟩ := DataW.trod_int Try.underlying3 f0
  have f1 : DataW.trod enc Try.prog W 0 sp held m 23 ((cs.drop 1).take (Try.prog.cellsOf 23)) = _ := (hat 1 _ rfl).trans (hx 1 (by omega))
  rw [show Try.prog.cellsOf 23 = 2 by kernel_rfl] at f1
  obtain ⟨c, s, w1, w1', e1⟩ := pair_of_trod Try.underlying23 ⟨rfl, rfl⟩ ⟨rfl, rfl⟩ (by kernel_rfl) f1
  have f2 : DataW.trod enc Try.prog W 0 sp held m 25 ((cs.drop 3).take (Try.prog.cellsOf 25)) = _ := (hat 2 _ rfl).trans (hx 2 (by omega))
  rw [show Try.prog.cellsOf 25 = 32 by kernel_rfl] at f2
  obtain ⟨hh, w2, e2⟩ := hash_of_trod f2
  have f3 : DataW.trod enc Try.prog W 0 sp held m 30 ((cs.drop 35).take (Try.prog.cellsOf 30)) = _ := (hat 3 _ rfl).trans (hx 3 (by omega))
  rw [show Try.prog.cellsOf 30 = 1 by kernel_rfl] at f3
  obtain ⟨u3, e3, _, w3⟩ := DataW.trod_int Try.underlying30 f3
  obtain ⟨t, rfl, b3⟩ := u64_of w3
  have f4 : DataW.trod enc Try.prog W 0 sp held m 27 ((cs.drop 36).take (Try.prog.cellsOf 27)) = _ := (hat 4 _ rfl).trans (hx 4 (by omega))
  rw [show Try.prog.cellsOf 27 = 2 by kernel_rfl] at f4
  obtain ⟨b, mm, w4, w4', e4⟩ := pair_of_trod Try.underlying27 ⟨rfl, rfl⟩ ⟨rfl, rfl⟩ (by kernel_rfl) f4
  refine ⟨⟨r, c, s, hh, t, b, mm⟩, ⟨i64In_of w0, w1, w1', w2, b3, w4, w4'⟩, ?_⟩
  have z : cs.drop 38 = [] := List.drop_eq_nil_of_le (by omega)
  have s0 : cs = cs.drop 0 := rfl
  rw [s0, cut_at cs 0 1 1 rfl, e0, cut_at cs 1 2 3 rfl, e1, cut_at cs 3 32 35 rfl, e2, cut_at cs 35 1 36 rfl, e3, cut_at cs 36 2 38 rfl, e4, z]
  simp [Wst.cells]
theorem deny_of_trod {H : Type} {enc : TypeId × Value → H} {W : World} {sp : Nat → Bool} {held : Bool} {fuel : Nat} {cs : List Value} {x0 : DataW H × List MemPlace} (h : DataW.trod enc Try.prog W 0 sp held fuel 56 cs = some x0) :
    ∃ x : Wdn, x.Ok ∧ cs = x.cells := by
  obtain ⟨xs, m, _, _, hlen, hxl, hat⟩ := DataW.trod_struct Try.underlying56 h
  rw [show Try.prog.cellsOf 56 = 4 by kernel_rfl] at hlen
  have hx : ∀ i (hi : i < 3), xs[i]? = some (xs[i]'(by rw [hxl]; exact hi)) := fun i hi => List.getElem?_eq_getElem _
  have f0 : DataW.trod enc Try.prog W 0 sp held m 3 ((cs.drop 0).take (Try.prog.cellsOf 3)) = _ := (hat 0 _ rfl).trans (hx 0 (by omega))
  rw [show Try.prog.cellsOf 3 = 1 by kernel_rfl] at f0
  obtain ⟨r, e0, _, w0⟩ := DataW.trod_int Try.underlying3 f0
  have f1 : DataW.trod enc Try.prog W 0 sp held m 3 ((cs.drop 1).take (Try.prog.cellsOf 3)) = _ := (hat 1 _ rfl).trans (hx 1 (by omega))
  rw [show Try.prog.cellsOf 3 = 1 by kernel_rfl] at f1
  obtain ⟨i, e1, _, w1⟩ := DataW.trod_int Try.underlying3 f1
  have f2 : DataW.trod enc Try.prog W 0 sp held m 27 ((cs.drop 2).take (Try.prog.cellsOf 27)) = _ := (hat 2 _ rfl).trans (hx 2 (by omega))
  rw [show Try.prog.cellsOf 27 = 2 by kernel_rfl] at f2
  obtain ⟨b, mm, w2, w2', e2⟩ := pair_of_trod Try.underlying27 ⟨rfl, rfl⟩ ⟨rfl, rfl⟩ (by kernel_rfl) f2
  refine ⟨⟨r, i, b, mm⟩, ⟨i64In_of w0, i64In_of w1, w2, w2'⟩, ?_⟩
  have z : cs.drop 4 = [] := List.drop_eq_nil_of_le (by omega)
  have s0 : cs = cs.drop 0 := rfl
  rw [s0, cut_at cs 0 1 1 rfl, e0, cut_at cs 1 1 2 rfl, e1, cut_at cs 2 2 4 rfl, e2, z]
  simp [Wdn.cells]
theorem commit_of_trod {H : Type} {enc : TypeId × Value → H} {W : World} {sp : Nat → Bool} {held : Bool} {fuel : Nat} {cs : List Value} {x0 : DataW H × List MemPlace} (h : DataW.trod enc Try.prog W 0 sp held fuel 29 cs = some x0) :
    ∃ x : Wcm, x.Ok ∧ cs = x.cells := by
  obtain ⟨xs, m, _, _, hlen, hxl, hat⟩ := DataW.trod_struct Try.underlying29 h
  rw [show Try.prog.cellsOf 29 = 37 by kernel_rfl] at hlen
  have hx : ∀ i (hi : i < 4), xs[i]? = some (xs[i]'(by rw [hxl]; exact hi)) := fun i hi => List.getElem?_eq_getElem _
  have f0 : DataW.trod enc Try.prog W 0 sp held m 23 ((cs.drop 0).take (Try.prog.cellsOf 23)) = _ := (hat 0 _ rfl).trans (hx 0 (by omega))
  rw [show Try.prog.cellsOf 23 = 2 by kernel_rfl] at f0
  obtain ⟨c, s, w0, w0', e0⟩ := pair_of_trod Try.underlying23 ⟨rfl, rfl⟩ ⟨rfl, rfl⟩ (by kernel_rfl) f0
  have f1 : DataW.trod enc Try.prog W 0 sp held m 25 ((cs.drop 2).take (Try.prog.cellsOf 25)) = _ := (hat 1 _ rfl).trans (hx 1 (by omega))
  rw [show Try.prog.cellsOf 25 = 32 by kernel_rfl] at f1
  obtain ⟨hh, w1, e1⟩ := hash_of_trod f1
  have f2 : DataW.trod enc Try.prog W 0 sp held m 3 ((cs.drop 34).take (Try.prog.cellsOf 3)) = _ := (hat 2 _ rfl).trans (hx 2 (by omega))
  rw [show Try.prog.cellsOf 3 = 1 by kernel_rfl] at f2
  obtain ⟨n, e2, _, w2⟩ := DataW.trod_int Try.underlying3 f2
  have f3 : DataW.trod enc Try.prog W 0 sp held m 27 ((cs.drop 35).take (Try.prog.cellsOf 27)) = _ := (hat 3 _ rfl).trans (hx 3 (by omega))
  rw [show Try.prog.cellsOf 27 = 2 by kernel_rfl] at f3
  obtain ⟨b, mm, w3, w3', e3⟩ := pair_of_trod Try.underlying27 ⟨rfl, rfl⟩ ⟨rfl, rfl⟩ (by kernel_rfl) f3
  refine ⟨⟨c, s, hh, n, b, mm⟩, ⟨w0, w0', w1, i64In_of w2, w3, w3'⟩, ?_⟩
  have z : cs.drop 37 = [] := List.drop_eq_nil_of_le (by omega)
  have s0 : cs = cs.drop 0 := rfl
  rw [s0, cut_at cs 0 2 2 rfl, e0, cut_at cs 2 32 34 rfl, e1, cut_at cs 34 1 35 rfl, e2, cut_at cs 35 2 37 rfl, e3, z]
  simp [Wcm.cells]
instance : Inhabited Wst := ⟨⟨0, 0, 0, [], 0, 0, 0⟩⟩
instance : Inhabited Wdn := ⟨⟨0, 0, 0, 0⟩⟩
instance : Inhabited Wce := ⟨⟨⟨0, 0, [], 0, 0, 0⟩, none, 0, 0, []⟩⟩
theorem cert_of_trod {H : Type} {enc : TypeId × Value → H} {W : World} {sp : Nat → Bool} {held : Bool} {fuel : Nat} {cs : List Value} {x0 : DataW H × List MemPlace} (h : DataW.trod enc Try.prog W 0 sp held fuel 35 cs = some x0) :
    ∃ x : Wce, x.In W ∧ cs = x.cells := by
  obtain ⟨xs, m, _, _, hlen, hxl, hat⟩ := DataW.trod_struct Try.underlying35 h
  rw [show Try.prog.cellsOf 35 = 38 by kernel_rfl] at hlen
  have hx : ∀ i (hi : i < 2), xs[i]? = some (xs[i]'(by rw [hxl]; exact hi)) := fun i hi => List.getElem?_eq_getElem _
  have f0 : DataW.trod enc Try.prog W 0 sp held m 29 ((cs.drop 0).take (Try.prog.cellsOf 29)) = _ := (hat 0 _ rfl).trans (hx 0 (by omega))
  rw [show Try.prog.cellsOf 29 = 37 by kernel_rfl] at f0
  obtain ⟨k, w0, e0⟩ := commit_of_trod f0
  have f1 : DataW.trod enc Try.prog W 0 sp held m 33 ((cs.drop 37).take (Try.prog.cellsOf 33)) = _ := (hat 1 _ rfl).trans (hx 1 (by omega))
  rw [show Try.prog.cellsOf 33 = 1 by kernel_rfl] at f1
  obtain ⟨A, n, d, l, e1, w1, w1', w1''⟩ := lst_of_cells (cells := Wst.cells) (ok := fun _ v => v.Ok) (k := 38) Try.underlying33 (by kernel_rfl) (fun fuel cs x h => stamp_of_trod h) f1
  refine ⟨⟨k, A, n, d, l⟩, ⟨w0, w1, Nat.le_trans w1' w1'', w1'⟩, ?_⟩
  have z : cs.drop 38 = [] := List.drop_eq_nil_of_le (by omega)
  have s0 : cs = cs.drop 0 := rfl
  rw [s0, cut_at cs 0 37 37 rfl, e0, cut_at cs 37 1 38 rfl, e1, z]
  simp [Wce.cells]
/-- a promise that comes in -/
structure Wpr.In (w : World) (x : Wpr) : Prop where
  r : i64In x.r
  e : i64In x.e
  t : x.t < 18446744073709551616
  l : Lst 38 Wce.cells (fun w v => v.In w) w x.A x.n x.l
  n : x.n ≤ maxLen
  d : x.n ≤ x.d
  b : i64In x.b
  m : i64In x.m
theorem promise_of_trod {H : Type} {enc : TypeId × Value → H} {W : World} {sp : Nat → Bool} {held : Bool} {fuel : Nat} {cs : List Value} {x0 : DataW H × List MemPlace} (h : DataW.trod enc Try.prog W 0 sp held fuel 40 cs = some x0) :
    ∃ x : Wpr, x.In W ∧ cs = x.cells := by
  obtain ⟨xs, m, _, _, hlen, hxl, hat⟩ := DataW.trod_struct Try.underlying40 h
  rw [show Try.prog.cellsOf 40 = 6 by kernel_rfl] at hlen
  have hx : ∀ i (hi : i < 5), xs[i]? = some (xs[i]'(by rw [hxl]; exact hi)) := fun i hi => List.getElem?_eq_getElem _
  have f0 : DataW.trod enc Try.prog W 0 sp held m 3 ((cs.drop 0).take (Try.prog.cellsOf 3)) = _ := (hat 0 _ rfl).trans (hx 0 (by omega))
  rw [show Try.prog.cellsOf 3 = 1 by kernel_rfl] at f0
  obtain ⟨r, e0, _, w0⟩ := DataW.trod_int Try.underlying3 f0
  have f1 : DataW.trod enc Try.prog W 0 sp held m 3 ((cs.drop 1).take (Try.prog.cellsOf 3)) = _ := (hat 1 _ rfl).trans (hx 1 (by omega))
  rw [show Try.prog.cellsOf 3 = 1 by kernel_rfl] at f1
  obtain ⟨e, e1, _, w1⟩ := DataW.trod_int Try.underlying3 f1
  have f2 : DataW.trod enc Try.prog W 0 sp held m 30 ((cs.drop 2).take (Try.prog.cellsOf 30)) = _ := (hat 2 _ rfl).trans (hx 2 (by omega))
  rw [show Try.prog.cellsOf 30 = 1 by kernel_rfl] at f2
  obtain ⟨u2, e2, _, w2⟩ := DataW.trod_int Try.underlying30 f2
  obtain ⟨t, rfl, b2⟩ := u64_of w2
  have f3 : DataW.trod enc Try.prog W 0 sp held m 38 ((cs.drop 3).take (Try.prog.cellsOf 38)) = _ := (hat 3 _ rfl).trans (hx 3 (by omega))
  rw [show Try.prog.cellsOf 38 = 1 by kernel_rfl] at f3
  obtain ⟨A, n, d, l, e3, w3, w3', w3''⟩ := lst_of_cells (cells := Wce.cells) (ok := fun w v => v.In w) (k := 38) Try.underlying38 (by kernel_rfl) (fun fuel cs x h => cert_of_trod h) f3
  have f4 : DataW.trod enc Try.prog W 0 sp held m 27 ((cs.drop 4).take (Try.prog.cellsOf 27)) = _ := (hat 4 _ rfl).trans (hx 4 (by omega))
  rw [show Try.prog.cellsOf 27 = 2 by kernel_rfl] at f4
  obtain ⟨b, mm, w4, w4', e4⟩ := pair_of_trod Try.underlying27 ⟨rfl, rfl⟩ ⟨rfl, rfl⟩ (by kernel_rfl) f4
  refine ⟨⟨r, e, t, A, n, d, l, b, mm⟩, ⟨i64In_of w0, i64In_of w1, b2, w3, Nat.le_trans w3' w3'', w3', w4, w4'⟩, ?_⟩
  have z : cs.drop 6 = [] := List.drop_eq_nil_of_le (by omega)
  have s0 : cs = cs.drop 0 := rfl
  rw [s0, cut_at cs 0 1 1 rfl, e0, cut_at cs 1 1 2 rfl, e1, cut_at cs 2 1 3 rfl, e2, cut_at cs 3 1 4 rfl, e3, cut_at cs 4 2 6 rfl, e4, z]
  simp [Wpr.cells]
end Go.Proofs.Ytnpjihdhpoddgaa

namespace Go.Proofs.Ytnpjihdhpoddgaa
open Go.RowKit
set_option maxRecDepth 100000
theorem el_deny : ElTy Try.prog 56 4 32 := ElTy.of (by kernel_rfl)
theorem el_prm : ElTy Try.prog 40 6 64 := ElTy.of (by kernel_rfl)
theorem el_opn : ElTy Try.prog 54 34 64 := ElTy.of (by kernel_rfl)
theorem el_tomb : ElTy Try.prog 118 2 32 := ElTy.of (by kernel_rfl)
/-- an element that lies apart from what stood there and from the list that grows stays so -/
theorem keepAll {α : Type} {ok : World → List Nat → α → Prop} (hkeep : ∀ {w W : World} {S S' : List Nat} {x : α}, ok w S x → Fr S w W → (∀ k ∈ S', k < w.heap.size → k ∈ S) → ok W S' x)
    {N : Nat} {w w9 : World} {B4 B9 : List Nat} (hf : Fr B4 w w9) (hb : ∀ q ∈ B9, q ∈ B4 ∨ w.heap.size ≤ q) {x : α} (h : ∀ S0, (∀ q ∈ S0, q < N ∨ q ∈ B4) → ok w S0 x) :
    ∀ S0, (∀ q ∈ S0, q < N ∨ q ∈ B9) → ok w9 S0 x := by
  intro S0 h0
  refine hkeep (h (B4 ++ S0.filter (fun q => decide (q < N))) (fun q hq => ?_)) (hf.mono (fun k hk _ => List.mem_append.2 (.inl hk))) (fun q hq hl => ?_)
  · rcases List.mem_append.1 hq with hq | hq
    · exact .inr hq
    · exact .inl (by simpa using (List.mem_filter.1 hq).2)
  · rcases h0 q hq with h1 | h1
    · exact List.mem_append.2 (.inr (List.mem_filter.2 ⟨hq, by simpa using h1⟩))
    · rcases hb q h1 with h2 | h2
      · exact List.mem_append.2 (.inl h2)
      · omega
/-- an opening, a tombstone, a batch that comes in -/
structure Wop.In (w : World) (x : Wop) : Prop where
  i : i64In x.i
  p : By w x.A x.n x.p
  n : x.n ≤ maxLen
  d : x.n ≤ x.d
  h : x.h.length = 32
theorem Wop.In.keep {w w' : World} {x : Wop} (h : x.In w) (hf : Fr [] w w') : x.In w' := ⟨h.i, h.p.keep hf (by simp), h.n, h.d, h.h⟩
structure Wtb.In (w : World) (x : Wtb) : Prop where
  i : i64In x.i
  l : Lst 4 Wdn.cells (fun _ v => v.Ok) w x.A x.n x.l
  n : x.n ≤ maxLen
  d : x.n ≤ x.d
theorem Wtb.In.keep {w w' : World} {x : Wtb} (h : x.In w) (hf : Fr [] w w') : x.In w' := ⟨h.i, h.l.keep' hf (by simp) (fun _ _ h => h), h.n, h.d⟩
theorem Wpr.In.keep {w w' : World} {x : Wpr} (h : x.In w) (hf : Fr [] w w') : x.In w' := ⟨h.r, h.e, h.t, h.l.keep' hf (by simp) (fun _ _ h => h.keep hf), h.n, h.d, h.b, h.m⟩
structure Wba.In (w : World) (x : Wba) : Prop where
  e : i64In x.e
  t : x.t < 18446744073709551616
  l : Lst 6 Wpr.cells (fun w v => v.In w) w x.A x.n x.l
  n : x.n ≤ maxLen
  l2 : Lst 34 Wop.cells (fun w v => v.In w) w x.A2 x.n2 x.l2
  n2 : x.n2 ≤ maxLen
  l3 : Lst 2 Wtb.cells (fun w v => v.In w) w x.A3 x.n3 x.l3
  n3 : x.n3 ≤ maxLen
theorem Wba.In.keep {w w' : World} {x : Wba} (h : x.In w) (hf : Fr [] w w') : x.In w' :=
  ⟨h.e, h.t, h.l.keep' hf (by simp) (fun _ _ h => h.keep hf), h.n, h.l2.keep' hf (by simp) (fun _ _ h => h.keep hf), h.n2, h.l3.keep' hf (by simp) (fun _ _ h => h.keep hf), h.n3⟩
/-- a proposal that comes in -/
structure Wpo.In (w : World) (x : Wpo) : Prop where
  e : i64In x.e
  r : i64In x.r
  v : i64In x.v
  p : i64In x.p
  k : x.k.In w
  b : i64In x.b
  m : i64In x.m
def zeroBa : Array Value := (Wba.cells ⟨0, 0, none, 0, 0, [], none, 0, 0, [], none, 0, 0, []⟩).toArray

end Go.Proofs.Ytnpjihdhpoddgaa
