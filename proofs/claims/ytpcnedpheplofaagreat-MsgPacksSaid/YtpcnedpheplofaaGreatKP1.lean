/- Texts that the proof stands on: Names, configurations and commitments that come in: what their reading says of cells. | Commitments that come in: what their reading says of cells. | Package wire: stamps and acks, votes, denials as values; what writes into a writer. | Stamps, acks, votes, denials, signatures that come in: what their reading says of cells. | Packages part and wire: what the writers of parts without lists write; the texts of stamps, acks, votes, denials. | A region that draws its order and stores at its end into blocks that it has read: two conditions on the world, one that holds all along, one that holds till a given operation has come up. Plain lemmas; no program. | Lists of structs or arrays that lie in memory: what their cells are; how one is loaded; how they are opened. | Package commit: Make. | A slice literal of one struct or array; an append of one onto a slice that the call owns. | Package part: lists of parts, and the parts that have lists: what each writes. | Package part: commitments, certificates, promises as values; what their writers write. | Package part: promises as values; what their writers write; what is signed of one. | Package part: openings, tombstones, batches as values; what their writers write. | Package part: batches as values; what their writer writes. | Package wire: a batch's hash; what is signed of a promise, of a proposal. | Copies of lists of structs: gavelkeep's Copy and Cut of stamps. -/
import Derived.Test.YtpcnedpheplofaaGreatCm3
import Derived.Test.YtpcnedpheplofaaGreatActs
import Derived.Test.YtpcnedpheplofaaGreatOpen
import Derived.Test.YtpcnedpheplofaaGreatReg
import Derived.Test.YtpcnedpheplofaaGreatReg2
import Derived.Test.YtpcnedpheplofaaGreatCm4
import Derived.IntWalk
import Derived.Great.BuildSlice
import Derived.Deep.AppendLies
import Derived.Test.YtpcnedpheplofaaGreatShaQ
set_option linter.unusedSimpArgs false
set_option linter.unusedVariables false
set_option maxRecDepth 100000

namespace Go.Proofs.YtpcnedpheplofaaGreat
open Go.ChangeShapes Go.WideShapes Go.ChangeAt Go.RowKit
set_option maxRecDepth 100000
theorem i64In_of {z : Int} (h : (Lit.int .i64 z).wf = true) : i64In z := i64_of h
end Go.Proofs.YtpcnedpheplofaaGreat

namespace Go.Proofs.YtpcnedpheplofaaGreat
open Go.ChangeShapes Go.WideShapes Go.ChangeAt Go.RowKit
set_option maxRecDepth 100000
theorem pair_of_trod {H : Type} {enc : TypeId × Value → H} {W : World} {sp : Nat → Bool} {held : Bool} {ty : TypeId} {x y : Field} (hu : Tryz.prog.underlying ty = some (.struct #[x, y])) (hx : x.type = 3 ∧ x.offset = 0) (hy : y.type = 3 ∧ y.offset = 1) (hc2 : Tryz.prog.cellsOf ty = 2)
  {fuel : Nat} {cs : List Value} {r : DataW H × List MemPlace} (h : DataW.trod enc Tryz.prog W 0 sp held fuel ty cs = some r) : ∃ c s : Int, i64In c ∧ i64In s ∧ cs = [.int .i64 c, .int .i64 s] := by
 obtain ⟨xs, m, _, _, hlen, hxl, hat⟩ := DataW.trod_struct hu h
 rw [hc2] at hlen
 have c1 : Tryz.prog.cellsOf 3 = 1 := by kernel_rfl
 have hx2 : ∀ i (hi : i < 2), xs[i]? = some (xs[i]'(by rw [hxl]; exact hi)) := fun i hi => List.getElem?_eq_getElem _
 have f0 : DataW.trod enc Tryz.prog W 0 sp held m x.type ((cs.drop x.offset).take (Tryz.prog.cellsOf x.type)) = _ := (hat 0 _ rfl).trans (hx2 0 (by omega))
 have f1 : DataW.trod enc Tryz.prog W 0 sp held m y.type ((cs.drop y.offset).take (Tryz.prog.cellsOf y.type)) = _ := (hat 1 _ rfl).trans (hx2 1 (by omega))
 rw [hx.1, hx.2, c1] at f0
 rw [hy.1, hy.2, c1] at f1
 obtain ⟨c, e0, _, w0⟩ := DataW.trod_int Tryz.underlying3 f0
 obtain ⟨s, e1, _, w1⟩ := DataW.trod_int Tryz.underlying3 f1
 refine ⟨c, s, i64In_of w0, i64In_of w1, ?_⟩
 match hL : cs, hlen with
 | [x, y], _ =>
   simp at e0 e1
   rw [e0, e1]
end Go.Proofs.YtpcnedpheplofaaGreat

namespace Go.Proofs.YtpcnedpheplofaaGreat
open Go.RowKit
set_option maxRecDepth 100000
theorem post_cell (pre hs post : List Value) (hl : hs.length = 32) (k : Nat) {v : Value} (hv : post[k]? = some v) : (pre ++ (hs ++ post))[pre.length + 32 + k]? = some v := by
 rw [List.getElem?_append_right (by omega), List.getElem?_append_right (by omega), ← hv]
 congr 1
 omega
def Gr (w : World) (S : List Nat) (g : Nat) (l : List UInt8) (w' : World) : Prop := ∃ S', Wr w' S' g l ∧ Fr S w w' ∧ ∀ x ∈ S', x < w.heap.size → x ∈ S
theorem Gr.fr {w w' : World} {S : List Nat} {g : Nat} {l : List UInt8} (h : Gr w S g l w') : Fr S w w' := by obtain ⟨_, _, h, _⟩ := h; exact h
theorem Gr.refl {w : World} {S : List Nat} {g : Nat} {l : List UInt8} (h : Wr w S g l) : Gr w S g l w := ⟨S, h, Fr.refl _ _, fun _ h _ => h⟩
theorem Gr.trans {w w1 w2 : World} {S : List Nat} {g : Nat} {l l' : List UInt8} (h : Gr w S g l w1) (k : ∀ S1, Wr w1 S1 g l → Gr w1 S1 g l' w2) : Gr w S g l' w2 := by
 obtain ⟨S1, h1, h2, h3⟩ := h
 obtain ⟨S2, k1, k2, k3⟩ := k S1 h1
 exact ⟨S2, k1, h2.trans k2 h3, fun x hx hl => h3 x (k3 x hx (Nat.lt_of_lt_of_le hl h2.size)) hl⟩
theorem Gr.call {P : Program} {f : FuncId} {args : Array Value} {w w1 : World} {S : List Nat} {g : Nat} {l l' : List UInt8} {v : Value} (h : Gr w S g l w1)
  (hc : ∀ S1, Wr w1 S1 g l → Calls P f args w1 fun e w' => e = .returned v ∧ Gr w1 S1 g l' w') : Calls P f args w1 fun e w' => e = .returned v ∧ Gr w S g l' w' := by
 obtain ⟨S1, h1, h2, h3⟩ := h
 refine (hc S1 h1).mono ?_
 rintro e w' ⟨rfl, S2, k1, k2, k3⟩
 exact ⟨rfl, S2, k1, h2.trans k2 h3, fun x hx hl => h3 x (k3 x hx (Nat.lt_of_lt_of_le hl h2.size)) hl⟩
theorem Gr.drew {w w1 : World} {S : List Nat} {g : Nat} {l : List UInt8} (h : Gr w S g l w1) : Gr w S g l w1.drew := by
 obtain ⟨S1, h1, h2, h3⟩ := h
 exact ⟨S1, h1, h2.drew, h3⟩
theorem Gr.begin {w wa : World} {S : List Nat} {g : Nat} {l : List UInt8} (h : Wr w S g l) (hf : Fr [] w wa) : Gr wa S g l wa.drew := (Gr.refl (h.keep hf (by simp))).drew
theorem Gr.from_ {w wa w' : World} {S : List Nat} {g : Nat} {l : List UInt8} (h : Gr wa S g l w') (hf : Fr [] w wa) : Gr w S g l w' := by
 obtain ⟨S1, h1, h2, h3⟩ := h
 exact ⟨S1, h1, (hf.mono (T := S) (by simp)).trans h2 (fun x hx _ => hx), fun x hx hl => h3 x hx (Nat.lt_of_lt_of_le hl hf.size)⟩
theorem Gr.eq {w w' : World} {S : List Nat} {g : Nat} {l l' : List UInt8} (h : Gr w S g l w') (e : l = l') : Gr w S g l' w' := e ▸ h
theorem NewWr.gr {w0 w w' : World} {g : Nat} {l l' : List UInt8} (h : NewWr w0 w g l) (k : ∀ S, Wr w S g l → Gr w S g l' w') : NewWr w0 w' g l' := by
 obtain ⟨S, k1, k2, k3⟩ := h
 exact NewWr.add k2 k3 (k S k1)
theorem NewWr.call {P : Program} {f : FuncId} {args : Array Value} {w0 w : World} {g : Nat} {l l' : List UInt8} {v : Value} (h : NewWr w0 w g l)
  (hc : ∀ S, Wr w S g l → Calls P f args w fun e w' => e = .returned v ∧ Gr w S g l' w') : Calls P f args w fun e w' => e = .returned v ∧ NewWr w0 w' g l' := by
 obtain ⟨S, k1, k2, k3⟩ := h
 refine (hc S k1).mono ?_
 rintro e w' ⟨rfl, hg⟩
 exact ⟨rfl, NewWr.add k2 k3 hg⟩
structure Wst where
 r : Int
 c : Int
 s : Int
 h : List UInt8
 t : Nat
 b : Int
 m : Int
def Wst.cells (x : Wst) : List Value := [.int .i64 x.r, .int .i64 x.c, .int .i64 x.s] ++ (x.h.map by8 ++ [.int .u64 (x.t : Int), .int .i64 x.b, .int .i64 x.m])
def Wst.val (x : Wst) : Value := .agg x.cells.toArray
structure Wst.Ok (x : Wst) : Prop where
 r : i64In x.r
 c : i64In x.c
 s : i64In x.s
 h : x.h.length = 32
 t : x.t < 18446744073709551616
 b : i64In x.b
 m : i64In x.m
theorem Wst.len {x : Wst} (h : x.h.length = 32) : x.cells.length = 38 := by simp [Wst.cells, h]
theorem Wst.one (x : Wst) : ∀ v ∈ x.cells, v.oneCell' = true := by
 intro v hv
 simp only [Wst.cells, List.mem_cons, List.mem_append, List.not_mem_nil, or_false] at hv
 rcases hv with (rfl | rfl | rfl) | hv | rfl | rfl | rfl
 · rfl
 · rfl
 · rfl
 · exact by8_one x.h v hv
 · rfl
 · rfl
 · rfl
structure Wst.At (w : World) (g o : Nat) (x : Wst) : Prop where
 all : w.rangeAt g o x.cells
 hash : w.rangeAt g (o + 3) (x.h.map by8)
 name : w.rangeAt g (o + 1) [.int .i64 x.c, .int .i64 x.s]
 sig : w.rangeAt g (o + 36) [.int .i64 x.b, .int .i64 x.m]
 r : w.cell? ⟨g, o + 0, none⟩ = some (.int .i64 x.r)
 c : w.cell? ⟨g, o + 1, none⟩ = some (.int .i64 x.c)
 s : w.cell? ⟨g, o + 2, none⟩ = some (.int .i64 x.s)
 t : w.cell? ⟨g, o + 35, none⟩ = some (.int .u64 (x.t : Int))
 b : w.cell? ⟨g, o + 36, none⟩ = some (.int .i64 x.b)
 m : w.cell? ⟨g, o + 37, none⟩ = some (.int .i64 x.m)
theorem Wst.at_of {w : World} {g o : Nat} {x : Wst} (hr : w.rangeAt g o x.cells) (hh : x.h.length = 32) : x.At w g o := by
 have hl : (x.h.map by8).length = 32 := by rw [List.length_map]; exact hh
 have c_r : w.cell? ⟨g, o + 0, none⟩ = some (.int .i64 x.r) := hr 0 _ rfl
 have c_c : w.cell? ⟨g, o + 1, none⟩ = some (.int .i64 x.c) := hr 1 _ rfl
 have c_s : w.cell? ⟨g, o + 2, none⟩ = some (.int .i64 x.s) := hr 2 _ rfl
 have c_t : w.cell? ⟨g, o + 35, none⟩ = some (.int .u64 (x.t : Int)) := hr 35 _ (post_cell [.int .i64 x.r, .int .i64 x.c, .int .i64 x.s] (x.h.map by8) [.int .u64 (x.t : Int), .int .i64 x.b, .int .i64 x.m] hl 0 rfl)
 have c_b : w.cell? ⟨g, o + 36, none⟩ = some (.int .i64 x.b) := hr 36 _ (post_cell [.int .i64 x.r, .int .i64 x.c, .int .i64 x.s] (x.h.map by8) [.int .u64 (x.t : Int), .int .i64 x.b, .int .i64 x.m] hl 1 rfl)
 have c_m : w.cell? ⟨g, o + 37, none⟩ = some (.int .i64 x.m) := hr 37 _ (post_cell [.int .i64 x.r, .int .i64 x.c, .int .i64 x.s] (x.h.map by8) [.int .u64 (x.t : Int), .int .i64 x.b, .int .i64 x.m] hl 2 rfl)
 have r_name : w.rangeAt g (o + 1) [.int .i64 x.c, .int .i64 x.s] := by
  intro j v hv
  rcases j with _ | j
  · simp at hv; subst hv; exact c_c
  rcases j with _ | j
  · simp at hv; subst hv; exact c_s
  · simp at hv
 have r_sig : w.rangeAt g (o + 36) [.int .i64 x.b, .int .i64 x.m] := by
  intro j v hv
  rcases j with _ | j
  · simp at hv; subst hv; exact c_b
  rcases j with _ | j
  · simp at hv; subst hv; exact c_m
  · simp at hv
 have r_hash : w.rangeAt g (o + 3) (x.h.map by8) := rangeAt_sub (xs := [.int .i64 x.r, .int .i64 x.c, .int .i64 x.s]) (ys := x.h.map by8) (zs := [.int .u64 (x.t : Int), .int .i64 x.b, .int .i64 x.m]) hr
 exact ⟨hr, r_hash, r_name, r_sig, c_r, c_c, c_s, c_t, c_b, c_m⟩
theorem Wst.At.keep {w w' : World} {g o : Nat} {x : Wst} {S : List Nat} (h : x.At w g o) (hf : Fr S w w') (hn : ¬ g ∈ S) : x.At w' g o :=
 ⟨hf.range h.all hn, hf.range h.hash hn, hf.range h.name hn, hf.range h.sig hn, hf.cell h.r hn, hf.cell h.c hn, hf.cell h.s hn, hf.cell h.t hn, hf.cell h.b hn, hf.cell h.m hn⟩
structure Wvt where
 k : Int
 e : Int
 r : Int
 p : Int
 h : List UInt8
 b : Int
 m : Int
def Wvt.cells (x : Wvt) : List Value := [.int .i64 x.k, .int .i64 x.e, .int .i64 x.r, .int .i64 x.p] ++ (x.h.map by8 ++ [.int .i64 x.b, .int .i64 x.m])
def Wvt.val (x : Wvt) : Value := .agg x.cells.toArray
structure Wvt.Ok (x : Wvt) : Prop where
 k : i64In x.k
 e : i64In x.e
 r : i64In x.r
 p : i64In x.p
 h : x.h.length = 32
 b : i64In x.b
 m : i64In x.m
theorem Wvt.len {x : Wvt} (h : x.h.length = 32) : x.cells.length = 38 := by simp [Wvt.cells, h]
theorem Wvt.one (x : Wvt) : ∀ v ∈ x.cells, v.oneCell' = true := by
 intro v hv
 simp only [Wvt.cells, List.mem_cons, List.mem_append, List.not_mem_nil, or_false] at hv
 rcases hv with (rfl | rfl | rfl | rfl) | hv | rfl | rfl
 · rfl
 · rfl
 · rfl
 · rfl
 · exact by8_one x.h v hv
 · rfl
 · rfl
structure Wvt.At (w : World) (g o : Nat) (x : Wvt) : Prop where
 all : w.rangeAt g o x.cells
 hash : w.rangeAt g (o + 4) (x.h.map by8)
 sig : w.rangeAt g (o + 36) [.int .i64 x.b, .int .i64 x.m]
 k : w.cell? ⟨g, o + 0, none⟩ = some (.int .i64 x.k)
 e : w.cell? ⟨g, o + 1, none⟩ = some (.int .i64 x.e)
 r : w.cell? ⟨g, o + 2, none⟩ = some (.int .i64 x.r)
 p : w.cell? ⟨g, o + 3, none⟩ = some (.int .i64 x.p)
 b : w.cell? ⟨g, o + 36, none⟩ = some (.int .i64 x.b)
 m : w.cell? ⟨g, o + 37, none⟩ = some (.int .i64 x.m)
theorem Wvt.at_of {w : World} {g o : Nat} {x : Wvt} (hr : w.rangeAt g o x.cells) (hh : x.h.length = 32) : x.At w g o := by
 have hl : (x.h.map by8).length = 32 := by rw [List.length_map]; exact hh
 have c_k : w.cell? ⟨g, o + 0, none⟩ = some (.int .i64 x.k) := hr 0 _ rfl
 have c_e : w.cell? ⟨g, o + 1, none⟩ = some (.int .i64 x.e) := hr 1 _ rfl
 have c_r : w.cell? ⟨g, o + 2, none⟩ = some (.int .i64 x.r) := hr 2 _ rfl
 have c_p : w.cell? ⟨g, o + 3, none⟩ = some (.int .i64 x.p) := hr 3 _ rfl
 have c_b : w.cell? ⟨g, o + 36, none⟩ = some (.int .i64 x.b) := hr 36 _ (post_cell [.int .i64 x.k, .int .i64 x.e, .int .i64 x.r, .int .i64 x.p] (x.h.map by8) [.int .i64 x.b, .int .i64 x.m] hl 0 rfl)
 have c_m : w.cell? ⟨g, o + 37, none⟩ = some (.int .i64 x.m) := hr 37 _ (post_cell [.int .i64 x.k, .int .i64 x.e, .int .i64 x.r, .int .i64 x.p] (x.h.map by8) [.int .i64 x.b, .int .i64 x.m] hl 1 rfl)
 have r_sig : w.rangeAt g (o + 36) [.int .i64 x.b, .int .i64 x.m] := by
  intro j v hv
  rcases j with _ | j
  · simp at hv; subst hv; exact c_b
  rcases j with _ | j
  · simp at hv; subst hv; exact c_m
  · simp at hv
 have r_hash : w.rangeAt g (o + 4) (x.h.map by8) := rangeAt_sub (xs := [.int .i64 x.k, .int .i64 x.e, .int .i64 x.r, .int .i64 x.p]) (ys := x.h.map by8) (zs := [.int .i64 x.b, .int .i64 x.m]) hr
 exact ⟨hr, r_hash, r_sig, c_k, c_e, c_r, c_p, c_b, c_m⟩
theorem Wvt.At.keep {w w' : World} {g o : Nat} {x : Wvt} {S : List Nat} (h : x.At w g o) (hf : Fr S w w') (hn : ¬ g ∈ S) : x.At w' g o :=
 ⟨hf.range h.all hn, hf.range h.hash hn, hf.range h.sig hn, hf.cell h.k hn, hf.cell h.e hn, hf.cell h.r hn, hf.cell h.p hn, hf.cell h.b hn, hf.cell h.m hn⟩
structure Wdn where
 r : Int
 i : Int
 b : Int
 m : Int
def Wdn.cells (x : Wdn) : List Value := [.int .i64 x.r, .int .i64 x.i, .int .i64 x.b, .int .i64 x.m]
def Wdn.val (x : Wdn) : Value := .agg x.cells.toArray
structure Wdn.Ok (x : Wdn) : Prop where
 r : i64In x.r
 i : i64In x.i
 b : i64In x.b
 m : i64In x.m
theorem Wdn.len (x : Wdn) : x.cells.length = 4 := rfl
theorem Wdn.one (x : Wdn) : ∀ v ∈ x.cells, v.oneCell' = true := by
 intro v hv
 simp only [Wdn.cells, List.mem_cons, List.not_mem_nil, or_false] at hv
 rcases hv with rfl | rfl | rfl | rfl <;> rfl
structure Wdn.At (w : World) (g o : Nat) (x : Wdn) : Prop where
 all : w.rangeAt g o x.cells
 sig : w.rangeAt g (o + 2) [.int .i64 x.b, .int .i64 x.m]
 r : w.cell? ⟨g, o + 0, none⟩ = some (.int .i64 x.r)
 i : w.cell? ⟨g, o + 1, none⟩ = some (.int .i64 x.i)
 b : w.cell? ⟨g, o + 2, none⟩ = some (.int .i64 x.b)
 m : w.cell? ⟨g, o + 3, none⟩ = some (.int .i64 x.m)
theorem Wdn.at_of {w : World} {g o : Nat} {x : Wdn} (hr : w.rangeAt g o x.cells) : x.At w g o := by
 have c_r : w.cell? ⟨g, o + 0, none⟩ = some (.int .i64 x.r) := hr 0 _ rfl
 have c_i : w.cell? ⟨g, o + 1, none⟩ = some (.int .i64 x.i) := hr 1 _ rfl
 have c_b : w.cell? ⟨g, o + 2, none⟩ = some (.int .i64 x.b) := hr 2 _ rfl
 have c_m : w.cell? ⟨g, o + 3, none⟩ = some (.int .i64 x.m) := hr 3 _ rfl
 have r_sig : w.rangeAt g (o + 2) [.int .i64 x.b, .int .i64 x.m] := by
  intro j v hv
  rcases j with _ | j
  · simp at hv; subst hv; exact c_b
  rcases j with _ | j
  · simp at hv; subst hv; exact c_m
  · simp at hv
 exact ⟨hr, r_sig, c_r, c_i, c_b, c_m⟩
theorem Wdn.At.keep {w w' : World} {g o : Nat} {x : Wdn} {S : List Nat} (h : x.At w g o) (hf : Fr S w w') (hn : ¬ g ∈ S) : x.At w' g o :=
 ⟨hf.range h.all hn, hf.range h.sig hn, hf.cell h.r hn, hf.cell h.i hn, hf.cell h.b hn, hf.cell h.m hn⟩
theorem row_stamp : RowTy Tryz.prog 32 38 := ⟨by kernel_rfl, by kernel_rfl⟩
theorem row_ack : RowTy Tryz.prog 37 38 := ⟨by kernel_rfl, by kernel_rfl⟩
theorem row_vote : RowTy Tryz.prog 49 38 := ⟨by kernel_rfl, by kernel_rfl⟩
theorem row_deny : RowTy Tryz.prog 56 4 := ⟨by kernel_rfl, by kernel_rfl⟩
theorem row_sg : RowTy Tryz.prog 27 2 := ⟨by kernel_rfl, by kernel_rfl⟩
end Go.Proofs.YtpcnedpheplofaaGreat

namespace Go.Proofs.YtpcnedpheplofaaGreat
open Go.ChangeShapes Go.WideShapes Go.ChangeAt Go.RowKit
set_option maxRecDepth 100000
theorem cut_at {α : Type} (l : List α) (o n k : Nat) (hk : o + n = k) : l.drop o = (l.drop o).take n ++ l.drop k := by
 subst hk
 rw [← List.drop_drop, List.take_append_drop]
end Go.Proofs.YtpcnedpheplofaaGreat

namespace Go.Proofs.YtpcnedpheplofaaGreat
open Go.RowKit
set_option maxRecDepth 100000
def sgL (b m : Int) : List UInt8 := encI b ++ encI m
def nmL (c s : Int) : List UInt8 := encI c ++ encI s
set_option maxHeartbeats 1000000 in
theorem putName_any (c s : Int) (hc : i64In c) (hs : i64In s) (w : World) (S : List Nat) (g : Nat) (l : List UInt8) (hw : Wr w S g l) (hl : l.length + 40 ≤ 1073741000) :
  Calls Tryz.prog 119 #[.pointer (some ⟨g, 0, none⟩), .agg #[.int .i64 c, .int .i64 s]] w fun e w' => e = .returned (.pointer (some ⟨g, 0, none⟩)) ∧ Gr w S g (l ++ nmL c s) w' := by
 obtain ⟨wa, hwa⟩ : ∃ wa, wa = w.alloc (Obj.cells #[.int .i64 c, .int .i64 s] 23) := ⟨_, rfl⟩
 have hf0 : Fr [] w wa := by rw [hwa]; exact (Fr.refl [] w).alloc _
 have hb0 : Blk wa w.heap.size 23 #[.int .i64 c, .int .i64 s] := by rw [hwa]; exact Blk.new _ _ _
 have HNS : Hid (¬ w.heap.size ∈ S) := Lib.hid (fun h => by have := hw.lt _ h; omega)
 have HG0 := Lib.hid (Gr.begin hw hf0)
 have HC0 := Lib.hid (rangeAt_cell (Blk.range (cs := [.int .i64 c, .int .i64 s]) hb0) 0 rfl rfl)
 have HC1 := Lib.hid (rangeAt_cell (Blk.range (cs := [.int .i64 c, .int .i64 s]) hb0) 1 rfl rfl)
 have HF0 := Lib.hid hf0
 have HWA := Lib.hid hwa
 have HL := Lib.hid hl
 have HC := Lib.hid hc
 have HS := Lib.hid hs
 clear hwa hf0 hb0 hl hw hc hs
 go_enter Tryz.func119, Tryz.ntmps119
 go_wp2
 rw [← HWA.out]
 refine wp_region_held_drew (S := Fr S wa) (by kernel_rfl) (Fr.drew (Fr.refl _ wa)) (fun hHeld => ?_)
 refine run_at (i := 0) (v := ?_) rfl (by kernel_rfl) (by rfl) (fun _ _ _ h => h) hHeld (fun w1 hw1 => ?_) ?_
 rotate_left 1
 · skip
   go_simp
   try first | with_reducible rfl | apply And.intro <;> rfl
 simp only [xPa, xPb, xPc, xPd, xPe]
 refine run_at (i := 1) (v := ?_) rfl (by kernel_rfl) (by rfl) (fun _ _ _ h => h) hHeld (fun w1 hw1 => ?_) ?_
 rotate_left 1
 · skip
   go_simp
   try first | with_reducible rfl | apply And.intro <;> rfl
 simp only [xPa, xPb, xPc, xPd, xPe]
 refine run_at (i := 2) (v := ?_) rfl (by kernel_rfl) (by rfl) (fun _ _ _ h => h) hHeld (fun w1 hw1 => ?_) ?_
 rotate_left 1
 · skip
   have hcw0 := hw1.cell (HC0.out) (by first | (simp; done) | exact HNS.out)
   go_simp
   try first | with_reducible rfl | apply And.intro <;> rfl
 simp only [xPa, xPb, xPc, xPd, xPe]
 refine run_at (i := 4) (v := ?_) rfl (by kernel_rfl) (by rfl) (fun _ _ _ h => h) hHeld (fun w1 hw1 => ?_) ?_
 rotate_left 1
 · skip
   go_simp
   try first | with_reducible rfl | apply And.intro <;> rfl
 simp only [xPa, xPb, xPc, xPd, xPe]
 refine run_at (i := 5) (v := ?_) rfl (by kernel_rfl) (by rfl) (fun _ _ _ h => h) hHeld (fun w1 hw1 => ?_) ?_
 rotate_left 1
 · skip
   have hcw0 := hw1.cell (HC1.out) (by first | (simp; done) | exact HNS.out)
   go_simp
   try first | with_reducible rfl | apply And.intro <;> rfl
 simp only [xPa, xPb, xPc, xPd, xPe]
 refine call_at (i := 3) (f := ?_) (args := ?_) rfl (by kernel_rfl) (by rfl) ?_ ?_
 rotate_left 2
 · go_simp
   try first | with_reducible rfl | apply And.intro <;> rfl
 refine (HG0.out.call fun S1 k1 => int_any c HC.out.1 HC.out.2 _ S1 g _ k1 (by have h0 := HL.out; (try simp only [List.length_append, sgL, nmL] at *); omega)).mono ?_
 rintro e w1 ⟨rfl, hg1⟩
 have HG1 := Lib.hid hg1
 refine ⟨_, rfl, hg1.fr, fun hHeld => ?_⟩
 clear hg1 HG0
 simp only [xPa, xPb, xPc, xPd, xPe]
 refine call_at (i := 6) (f := ?_) (args := ?_) rfl (by kernel_rfl) (by rfl) ?_ ?_
 rotate_left 2
 · go_simp
   try first | with_reducible rfl | apply And.intro <;> rfl
 refine (HG1.out.call fun S1 k1 => int_any s HS.out.1 HS.out.2 _ S1 g _ k1 (by have h0 := HL.out; have b0 := encI_len c HC.out.2; (try simp only [List.length_append, sgL, nmL] at *); omega)).mono ?_
 rintro e w2 ⟨rfl, hg2⟩
 have HG2 := Lib.hid hg2
 refine ⟨_, rfl, hg2.fr, fun hHeld => ?_⟩
 clear hg2 HG1
 simp only [xPa, xPb, xPc, xPd, xPe]
 refine run_at (i := 7) (v := ?_) rfl (by kernel_rfl) (by rfl) (fun _ _ _ h => h) hHeld (fun w1 hw1 => ?_) ?_
 rotate_left 1
 · skip
   go_simp
   try first | with_reducible rfl | apply And.intro <;> rfl
 simp only [xPa, xPb, xPc, xPd, xPe]
 refine wpAnyH_done (by kernel_rfl) ?_ _
 go_wp2
 go_ret
 exact ⟨rfl, (HG2.out.from_ HF0.out).eq (by simp [nmL, List.append_assoc])⟩
set_option maxHeartbeats 1000000 in
theorem putSig_any (c s : Int) (hc : i64In c) (hs : i64In s) (w : World) (S : List Nat) (g : Nat) (l : List UInt8) (hw : Wr w S g l) (hl : l.length + 40 ≤ 1073741000) :
  Calls Tryz.prog 118 #[.pointer (some ⟨g, 0, none⟩), .agg #[.int .i64 c, .int .i64 s]] w fun e w' => e = .returned (.pointer (some ⟨g, 0, none⟩)) ∧ Gr w S g (l ++ sgL c s) w' := by
 obtain ⟨wa, hwa⟩ : ∃ wa, wa = w.alloc (Obj.cells #[.int .i64 c, .int .i64 s] 27) := ⟨_, rfl⟩
 have hf0 : Fr [] w wa := by rw [hwa]; exact (Fr.refl [] w).alloc _
 have hb0 : Blk wa w.heap.size 27 #[.int .i64 c, .int .i64 s] := by rw [hwa]; exact Blk.new _ _ _
 have HNS : Hid (¬ w.heap.size ∈ S) := Lib.hid (fun h => by have := hw.lt _ h; omega)
 have HG0 := Lib.hid (Gr.begin hw hf0)
 have HC0 := Lib.hid (rangeAt_cell (Blk.range (cs := [.int .i64 c, .int .i64 s]) hb0) 0 rfl rfl)
 have HC1 := Lib.hid (rangeAt_cell (Blk.range (cs := [.int .i64 c, .int .i64 s]) hb0) 1 rfl rfl)
 have HF0 := Lib.hid hf0
 have HWA := Lib.hid hwa
 have HL := Lib.hid hl
 have HC := Lib.hid hc
 have HS := Lib.hid hs
 clear hwa hf0 hb0 hl hw hc hs
 go_enter Tryz.func118, Tryz.ntmps118
 go_wp2
 rw [← HWA.out]
 refine wp_region_held_drew (S := Fr S wa) (by kernel_rfl) (Fr.drew (Fr.refl _ wa)) (fun hHeld => ?_)
 refine run_at (i := 0) (v := ?_) rfl (by kernel_rfl) (by rfl) (fun _ _ _ h => h) hHeld (fun w1 hw1 => ?_) ?_
 rotate_left 1
 · skip
   go_simp
   try first | with_reducible rfl | apply And.intro <;> rfl
 simp only [xPa, xPb, xPc, xPd, xPe]
 refine run_at (i := 1) (v := ?_) rfl (by kernel_rfl) (by rfl) (fun _ _ _ h => h) hHeld (fun w1 hw1 => ?_) ?_
 rotate_left 1
 · skip
   go_simp
   try first | with_reducible rfl | apply And.intro <;> rfl
 simp only [xPa, xPb, xPc, xPd, xPe]
 refine run_at (i := 2) (v := ?_) rfl (by kernel_rfl) (by rfl) (fun _ _ _ h => h) hHeld (fun w1 hw1 => ?_) ?_
 rotate_left 1
 · skip
   have hcw0 := hw1.cell (HC0.out) (by first | (simp; done) | exact HNS.out)
   go_simp
   try first | with_reducible rfl | apply And.intro <;> rfl
 simp only [xPa, xPb, xPc, xPd, xPe]
 refine run_at (i := 4) (v := ?_) rfl (by kernel_rfl) (by rfl) (fun _ _ _ h => h) hHeld (fun w1 hw1 => ?_) ?_
 rotate_left 1
 · skip
   go_simp
   try first | with_reducible rfl | apply And.intro <;> rfl
 simp only [xPa, xPb, xPc, xPd, xPe]
 refine run_at (i := 5) (v := ?_) rfl (by kernel_rfl) (by rfl) (fun _ _ _ h => h) hHeld (fun w1 hw1 => ?_) ?_
 rotate_left 1
 · skip
   have hcw0 := hw1.cell (HC1.out) (by first | (simp; done) | exact HNS.out)
   go_simp
   try first | with_reducible rfl | apply And.intro <;> rfl
 simp only [xPa, xPb, xPc, xPd, xPe]
 refine call_at (i := 3) (f := ?_) (args := ?_) rfl (by kernel_rfl) (by rfl) ?_ ?_
 rotate_left 2
 · go_simp
   try first | with_reducible rfl | apply And.intro <;> rfl
 refine (HG0.out.call fun S1 k1 => int_any c HC.out.1 HC.out.2 _ S1 g _ k1 (by have h0 := HL.out; (try simp only [List.length_append, sgL, nmL] at *); omega)).mono ?_
 rintro e w1 ⟨rfl, hg1⟩
 have HG1 := Lib.hid hg1
 refine ⟨_, rfl, hg1.fr, fun hHeld => ?_⟩
 clear hg1 HG0
 simp only [xPa, xPb, xPc, xPd, xPe]
 refine call_at (i := 6) (f := ?_) (args := ?_) rfl (by kernel_rfl) (by rfl) ?_ ?_
 rotate_left 2
 · go_simp
   try first | with_reducible rfl | apply And.intro <;> rfl
 refine (HG1.out.call fun S1 k1 => int_any s HS.out.1 HS.out.2 _ S1 g _ k1 (by have h0 := HL.out; have b0 := encI_len c HC.out.2; (try simp only [List.length_append, sgL, nmL] at *); omega)).mono ?_
 rintro e w2 ⟨rfl, hg2⟩
 have HG2 := Lib.hid hg2
 refine ⟨_, rfl, hg2.fr, fun hHeld => ?_⟩
 clear hg2 HG1
 simp only [xPa, xPb, xPc, xPd, xPe]
 refine run_at (i := 7) (v := ?_) rfl (by kernel_rfl) (by rfl) (fun _ _ _ h => h) hHeld (fun w1 hw1 => ?_) ?_
 rotate_left 1
 · skip
   go_simp
   try first | with_reducible rfl | apply And.intro <;> rfl
 simp only [xPa, xPb, xPc, xPd, xPe]
 refine wpAnyH_done (by kernel_rfl) ?_ _
 go_wp2
 go_ret
 exact ⟨rfl, (HG2.out.from_ HF0.out).eq (by simp [sgL, List.append_assoc])⟩
def Wst.bare (x : Wst) : List UInt8 := encI x.r ++ nmL x.c x.s ++ x.h ++ enc x.t
def Wst.full (x : Wst) : List UInt8 := x.bare ++ sgL x.b x.m
set_option maxHeartbeats 1000000 in
theorem stampFields_any (x : Wst) (hx : x.Ok) (w : World) (S : List Nat) (g : Nat) (l : List UInt8) (hw : Wr w S g l) (hl : l.length + 100 ≤ 1073741000) :
  Calls Tryz.prog 121 #[.pointer (some ⟨g, 0, none⟩), x.val] w fun e w' => e = .returned (.pointer (some ⟨g, 0, none⟩)) ∧ Gr w S g (l ++ x.bare) w' := by
 obtain ⟨wa, hwa⟩ : ∃ wa, wa = w.alloc (Obj.cells x.cells.toArray 32) := ⟨_, rfl⟩
 have hf0 : Fr [] w wa := by rw [hwa]; exact (Fr.refl [] w).alloc _
 have hb0 : Blk wa w.heap.size 32 x.cells.toArray := by rw [hwa]; exact Blk.new _ _ _
 have HNS : Hid (¬ w.heap.size ∈ S) := Lib.hid (fun h => by have := hw.lt _ h; omega)
 have HG0 := Lib.hid (Gr.begin hw hf0)
 have HALL := Lib.hid hb0.range
 have HAT := Lib.hid (Wst.at_of (o := 0) hb0.range hx.h)
 have HLN : Hid (x.cells.length = 38) := Lib.hid (Wst.len hx.h)
 have HF0 := Lib.hid hf0
 have HWA := Lib.hid hwa
 have HL := Lib.hid hl
 have HX := Lib.hid hx
 clear hwa hf0 hb0 hl hw hx
 unfold Wst.val
 generalize hC : x.cells = C at *
 have HRC := Lib.hid hC
 clear hC
 go_enter Tryz.func121, Tryz.ntmps121
 go_wp2
 rw [← HWA.out]
 refine wp_region_held_drew (S := Fr S wa) (by kernel_rfl) (Fr.drew (Fr.refl _ wa)) (fun hHeld => ?_)
 refine run_at (i := 0) (v := ?_) rfl (by kernel_rfl) (by rfl) (fun _ _ _ h => h) hHeld (fun w1 hw1 => ?_) ?_
 rotate_left 1
 · skip
   go_simp
   try first | with_reducible rfl | apply And.intro <;> rfl
 simp only [xPa, xPb, xPc, xPd, xPe]
 refine run_at (i := 1) (v := ?_) rfl (by kernel_rfl) (by rfl) (fun _ _ _ h => h) hHeld (fun w1 hw1 => ?_) ?_
 rotate_left 1
 · skip
   go_simp
   try first | with_reducible rfl | apply And.intro <;> rfl
 simp only [xPa, xPb, xPc, xPd, xPe]
 refine run_at (i := 2) (v := ?_) rfl (by kernel_rfl) (by rfl) (fun _ _ _ h => h) hHeld (fun w1 hw1 => ?_) ?_
 rotate_left 1
 · skip
   have hcw0 := hw1.cell (HAT.out.r) (by first | (simp; done) | exact HNS.out)
   go_simp
   try first | with_reducible rfl | apply And.intro <;> rfl
 simp only [xPa, xPb, xPc, xPd, xPe]
 refine run_at (i := 4) (v := ?_) rfl (by kernel_rfl) (by rfl) (fun _ _ _ h => h) hHeld (fun w1 hw1 => ?_) ?_
 rotate_left 1
 · skip
   go_simp
   try first | with_reducible rfl | apply And.intro <;> rfl
 simp only [xPa, xPb, xPc, xPd, xPe]
 refine row_at (i := 5) rfl (by kernel_rfl) (by rfl) _ _ rfl _ _ rfl _ (fun w1 hw1 => hw1.range (HAT.out.name) (by first | (simp; done) | exact HNS.out)) (row_name) (fun _ _ _ h => h) hHeld ?_
 simp only [xPa, xPb, xPc, xPd, xPe]
 refine run_at (i := 7) (v := ?_) rfl (by kernel_rfl) (by rfl) (fun _ _ _ h => h) hHeld (fun w1 hw1 => ?_) ?_
 rotate_left 1
 · skip
   go_simp
   try first | with_reducible rfl | apply And.intro <;> rfl
 simp only [xPa, xPb, xPc, xPd, xPe]
 refine row_at (i := 8) rfl (by kernel_rfl) (by rfl) _ _ rfl _ _ rfl _ (fun w1 hw1 => hw1.range (HAT.out.hash) (by first | (simp; done) | exact HNS.out)) (row_hash.of (by rw [List.length_map]; exact HX.out.h)) (fun _ _ _ h => h) hHeld ?_
 simp only [xPa, xPb, xPc, xPd, xPe]
 refine run_at (i := 10) (v := ?_) rfl (by kernel_rfl) (by rfl) (fun _ _ _ h => h) hHeld (fun w1 hw1 => ?_) ?_
 rotate_left 1
 · skip
   go_simp
   try first | with_reducible rfl | apply And.intro <;> rfl
 simp only [xPa, xPb, xPc, xPd, xPe]
 refine run_at (i := 11) (v := ?_) rfl (by kernel_rfl) (by rfl) (fun _ _ _ h => h) hHeld (fun w1 hw1 => ?_) ?_
 rotate_left 1
 · skip
   have hcw0 := hw1.cell (HAT.out.t) (by first | (simp; done) | exact HNS.out)
   go_simp
   try first | with_reducible rfl | apply And.intro <;> rfl
 simp only [xPa, xPb, xPc, xPd, xPe]
 refine call_at (i := 3) (f := ?_) (args := ?_) rfl (by kernel_rfl) (by rfl) ?_ ?_
 rotate_left 2
 · go_simp
   try first | with_reducible rfl | apply And.intro <;> rfl
 refine (HG0.out.call fun S1 k1 => int_any x.r HX.out.r.1 HX.out.r.2 _ S1 g _ k1 (by have h0 := HL.out; (try simp only [List.length_append, sgL, nmL] at *); omega)).mono ?_
 rintro e w1 ⟨rfl, hg1⟩
 have HG1 := Lib.hid hg1
 refine ⟨_, rfl, hg1.fr, fun hHeld => ?_⟩
 clear hg1 HG0
 simp only [xPa, xPb, xPc, xPd, xPe]
 refine call_at (i := 6) (f := ?_) (args := ?_) rfl (by kernel_rfl) (by rfl) ?_ ?_
 rotate_left 2
 · go_simp
   try first | with_reducible rfl | apply And.intro <;> rfl
 refine (HG1.out.call fun S1 k1 => putName_any x.c x.s HX.out.c HX.out.s _ S1 g _ k1 (by have h0 := HL.out; have b0 := encI_len x.r HX.out.r.2; (try simp only [List.length_append, sgL, nmL] at *); omega)).mono ?_
 rintro e w2 ⟨rfl, hg2⟩
 have HG2 := Lib.hid hg2
 refine ⟨_, rfl, hg2.fr, fun hHeld => ?_⟩
 clear hg2 HG1
 simp only [xPa, xPb, xPc, xPd, xPe]
 refine call_at (i := 9) (f := ?_) (args := ?_) rfl (by kernel_rfl) (by rfl) ?_ ?_
 rotate_left 2
 · go_simp
   try first | with_reducible rfl | apply And.intro <;> rfl
 refine (HG2.out.call fun S1 k1 => hash_any x.h HX.out.h _ S1 g _ k1 (by have h0 := HL.out; have b0 := encI_len x.r HX.out.r.2; have b1 := encI_len x.c HX.out.c.2; have b2 := encI_len x.s HX.out.s.2; (try simp only [List.length_append, sgL, nmL] at *); omega)).mono ?_
 rintro e w3 ⟨rfl, hg3⟩
 have HG3 := Lib.hid hg3
 refine ⟨_, rfl, hg3.fr, fun hHeld => ?_⟩
 clear hg3 HG2
 simp only [xPa, xPb, xPc, xPd, xPe]
 refine call_at (i := 12) (f := ?_) (args := ?_) rfl (by kernel_rfl) (by rfl) ?_ ?_
 rotate_left 2
 · go_simp
   try first | with_reducible rfl | apply And.intro <;> rfl
 refine (HG3.out.call fun S1 k1 => num_any x.t HX.out.t _ S1 g _ k1 (by have h0 := HL.out; have b0 := encI_len x.r HX.out.r.2; have b1 := encI_len x.c HX.out.c.2; have b2 := encI_len x.s HX.out.s.2; have b3 := HX.out.h; (try simp only [List.length_append, sgL, nmL] at *); omega)).mono ?_
 rintro e w4 ⟨rfl, hg4⟩
 have HG4 := Lib.hid hg4
 refine ⟨_, rfl, hg4.fr, fun hHeld => ?_⟩
 clear hg4 HG3
 simp only [xPa, xPb, xPc, xPd, xPe]
 refine run_at (i := 13) (v := ?_) rfl (by kernel_rfl) (by rfl) (fun _ _ _ h => h) hHeld (fun w1 hw1 => ?_) ?_
 rotate_left 1
 · skip
   go_simp
   try first | with_reducible rfl | apply And.intro <;> rfl
 simp only [xPa, xPb, xPc, xPd, xPe]
 refine wpAnyH_done (by kernel_rfl) ?_ _
 go_wp2
 go_ret
 exact ⟨rfl, (HG4.out.from_ HF0.out).eq (by simp [Wst.bare, List.append_assoc])⟩
theorem stampFields_any' (x : Wst) (hx : x.Ok) (C : List Value) (hC : x.cells = C) (w : World) (S : List Nat) (g : Nat) (l : List UInt8) (hw : Wr w S g l) (hl : l.length + 100 ≤ 1073741000) :
  Calls Tryz.prog 121 #[.pointer (some ⟨g, 0, none⟩), .agg C.toArray] w fun e w' => e = .returned (.pointer (some ⟨g, 0, none⟩)) ∧ Gr w S g (l ++ x.bare) w' := by
 subst hC
 exact stampFields_any x hx w S g l hw hl
theorem Wst.bare_len {x : Wst} (hx : x.Ok) : x.bare.length ≤ 72 := by
 have b0 := encI_len x.r hx.r.2
 have b1 := encI_len x.c hx.c.2
 have b2 := encI_len x.s hx.s.2
 have b3 := hx.h
 have b4 := enc_ten hx.t
 simp only [Wst.bare, nmL, List.length_append]
 omega
set_option maxHeartbeats 1000000 in
theorem putStamp_any (x : Wst) (hx : x.Ok) (w : World) (S : List Nat) (g : Nat) (l : List UInt8) (hw : Wr w S g l) (hl : l.length + 200 ≤ 1073741000) :
  Calls Tryz.prog 79 #[.pointer (some ⟨g, 0, none⟩), x.val] w fun e w' => e = .returned (.pointer (some ⟨g, 0, none⟩)) ∧ Gr w S g (l ++ x.full) w' := by
 obtain ⟨wa, hwa⟩ : ∃ wa, wa = w.alloc (Obj.cells x.cells.toArray 32) := ⟨_, rfl⟩
 have hf0 : Fr [] w wa := by rw [hwa]; exact (Fr.refl [] w).alloc _
 have hb0 : Blk wa w.heap.size 32 x.cells.toArray := by rw [hwa]; exact Blk.new _ _ _
 have HNS : Hid (¬ w.heap.size ∈ S) := Lib.hid (fun h => by have := hw.lt _ h; omega)
 have HG0 := Lib.hid (Gr.begin hw hf0)
 have HALL := Lib.hid hb0.range
 have HAT := Lib.hid (Wst.at_of (o := 0) hb0.range hx.h)
 have HLN : Hid (x.cells.length = 38) := Lib.hid (Wst.len hx.h)
 have HF0 := Lib.hid hf0
 have HWA := Lib.hid hwa
 have HL := Lib.hid hl
 have HX := Lib.hid hx
 clear hwa hf0 hb0 hl hw hx
 unfold Wst.val
 generalize hC : x.cells = C at *
 have HRC := Lib.hid hC
 clear hC
 go_enter Tryz.func79, Tryz.ntmps79
 go_wp2
 rw [← HWA.out]
 refine wp_region_held_drew (S := Fr S wa) (by kernel_rfl) (Fr.drew (Fr.refl _ wa)) (fun hHeld => ?_)
 refine run_at (i := 0) (v := ?_) rfl (by kernel_rfl) (by rfl) (fun _ _ _ h => h) hHeld (fun w1 hw1 => ?_) ?_
 rotate_left 1
 · skip
   go_simp
   try first | with_reducible rfl | apply And.intro <;> rfl
 simp only [xPa, xPb, xPc, xPd, xPe]
 refine row_at (i := 1) rfl (by kernel_rfl) (by rfl) _ _ rfl _ _ rfl _ (fun w1 hw1 => hw1.range (HALL.out) (by first | (simp; done) | exact HNS.out)) (row_stamp.of HLN.out) (fun _ _ _ h => h) hHeld ?_
 simp only [xPa, xPb, xPc, xPd, xPe]
 refine run_at (i := 3) (v := ?_) rfl (by kernel_rfl) (by rfl) (fun _ _ _ h => h) hHeld (fun w1 hw1 => ?_) ?_
 rotate_left 1
 · skip
   go_simp
   try first | with_reducible rfl | apply And.intro <;> rfl
 simp only [xPa, xPb, xPc, xPd, xPe]
 refine row_at (i := 4) rfl (by kernel_rfl) (by rfl) _ _ rfl _ _ rfl _ (fun w1 hw1 => hw1.range (HAT.out.sig) (by first | (simp; done) | exact HNS.out)) (row_sg) (fun _ _ _ h => h) hHeld ?_
 simp only [xPa, xPb, xPc, xPd, xPe]
 refine call_at (i := 2) (f := ?_) (args := ?_) rfl (by kernel_rfl) (by rfl) ?_ ?_
 rotate_left 2
 · go_simp
   try first | with_reducible rfl | apply And.intro <;> rfl
 refine (HG0.out.call fun S1 k1 => stampFields_any' x HX.out C HRC.out _ S1 g _ k1 (by have h0 := HL.out; (try simp only [List.length_append, sgL, nmL] at *); omega)).mono ?_
 rintro e w1 ⟨rfl, hg1⟩
 have HG1 := Lib.hid hg1
 refine ⟨_, rfl, hg1.fr, fun hHeld => ?_⟩
 clear hg1 HG0
 simp only [xPa, xPb, xPc, xPd, xPe]
 refine call_at (i := 5) (f := ?_) (args := ?_) rfl (by kernel_rfl) (by rfl) ?_ ?_
 rotate_left 2
 · go_simp
   try first | with_reducible rfl | apply And.intro <;> rfl
 refine (HG1.out.call fun S1 k1 => putSig_any x.b x.m HX.out.b HX.out.m _ S1 g _ k1 (by have h0 := HL.out; have b0 := Wst.bare_len HX.out; (try simp only [List.length_append, sgL, nmL] at *); omega)).mono ?_
 rintro e w2 ⟨rfl, hg2⟩
 have HG2 := Lib.hid hg2
 refine ⟨_, rfl, hg2.fr, fun hHeld => ?_⟩
 clear hg2 HG1
 simp only [xPa, xPb, xPc, xPd, xPe]
 refine run_at (i := 6) (v := ?_) rfl (by kernel_rfl) (by rfl) (fun _ _ _ h => h) hHeld (fun w1 hw1 => ?_) ?_
 rotate_left 1
 · skip
   go_simp
   try first | with_reducible rfl | apply And.intro <;> rfl
 simp only [xPa, xPb, xPc, xPd, xPe]
 refine wpAnyH_done (by kernel_rfl) ?_ _
 go_wp2
 go_ret
 exact ⟨rfl, (HG2.out.from_ HF0.out).eq (by simp [Wst.full, List.append_assoc])⟩
theorem putStamp_any' (x : Wst) (hx : x.Ok) (C : List Value) (hC : x.cells = C) (w : World) (S : List Nat) (g : Nat) (l : List UInt8) (hw : Wr w S g l) (hl : l.length + 200 ≤ 1073741000) :
  Calls Tryz.prog 79 #[.pointer (some ⟨g, 0, none⟩), .agg C.toArray] w fun e w' => e = .returned (.pointer (some ⟨g, 0, none⟩)) ∧ Gr w S g (l ++ x.full) w' := by
 subst hC
 exact putStamp_any x hx w S g l hw hl
def Wvt.bare (x : Wvt) : List UInt8 := encI x.k ++ encI x.e ++ encI x.r ++ encI x.p ++ x.h
def Wvt.full (x : Wvt) : List UInt8 := x.bare ++ sgL x.b x.m
set_option maxHeartbeats 1000000 in
theorem voteFields_any (x : Wvt) (hx : x.Ok) (w : World) (S : List Nat) (g : Nat) (l : List UInt8) (hw : Wr w S g l) (hl : l.length + 100 ≤ 1073741000) :
  Calls Tryz.prog 127 #[.pointer (some ⟨g, 0, none⟩), x.val] w fun e w' => e = .returned (.pointer (some ⟨g, 0, none⟩)) ∧ Gr w S g (l ++ x.bare) w' := by
 obtain ⟨wa, hwa⟩ : ∃ wa, wa = w.alloc (Obj.cells x.cells.toArray 49) := ⟨_, rfl⟩
 have hf0 : Fr [] w wa := by rw [hwa]; exact (Fr.refl [] w).alloc _
 have hb0 : Blk wa w.heap.size 49 x.cells.toArray := by rw [hwa]; exact Blk.new _ _ _
 have HNS : Hid (¬ w.heap.size ∈ S) := Lib.hid (fun h => by have := hw.lt _ h; omega)
 have HG0 := Lib.hid (Gr.begin hw hf0)
 have HALL := Lib.hid hb0.range
 have HAT := Lib.hid (Wvt.at_of (o := 0) hb0.range hx.h)
 have HLN : Hid (x.cells.length = 38) := Lib.hid (Wvt.len hx.h)
 have HF0 := Lib.hid hf0
 have HWA := Lib.hid hwa
 have HL := Lib.hid hl
 have HX := Lib.hid hx
 clear hwa hf0 hb0 hl hw hx
 unfold Wvt.val
 generalize hC : x.cells = C at *
 have HRC := Lib.hid hC
 clear hC
 go_enter Tryz.func127, Tryz.ntmps127
 go_wp2
 rw [← HWA.out]
 refine wp_region_held_drew (S := Fr S wa) (by kernel_rfl) (Fr.drew (Fr.refl _ wa)) (fun hHeld => ?_)
 refine run_at (i := 0) (v := ?_) rfl (by kernel_rfl) (by rfl) (fun _ _ _ h => h) hHeld (fun w1 hw1 => ?_) ?_
 rotate_left 1
 · skip
   go_simp
   try first | with_reducible rfl | apply And.intro <;> rfl
 simp only [xPa, xPb, xPc, xPd, xPe]
 refine run_at (i := 1) (v := ?_) rfl (by kernel_rfl) (by rfl) (fun _ _ _ h => h) hHeld (fun w1 hw1 => ?_) ?_
 rotate_left 1
 · skip
   go_simp
   try first | with_reducible rfl | apply And.intro <;> rfl
 simp only [xPa, xPb, xPc, xPd, xPe]
 refine run_at (i := 2) (v := ?_) rfl (by kernel_rfl) (by rfl) (fun _ _ _ h => h) hHeld (fun w1 hw1 => ?_) ?_
 rotate_left 1
 · skip
   have hcw0 := hw1.cell (HAT.out.k) (by first | (simp; done) | exact HNS.out)
   go_simp
   try first | with_reducible rfl | apply And.intro <;> rfl
 simp only [xPa, xPb, xPc, xPd, xPe]
 refine run_at (i := 4) (v := ?_) rfl (by kernel_rfl) (by rfl) (fun _ _ _ h => h) hHeld (fun w1 hw1 => ?_) ?_
 rotate_left 1
 · skip
   go_simp
   try first | with_reducible rfl | apply And.intro <;> rfl
 simp only [xPa, xPb, xPc, xPd, xPe]
 refine run_at (i := 5) (v := ?_) rfl (by kernel_rfl) (by rfl) (fun _ _ _ h => h) hHeld (fun w1 hw1 => ?_) ?_
 rotate_left 1
 · skip
   have hcw0 := hw1.cell (HAT.out.e) (by first | (simp; done) | exact HNS.out)
   go_simp
   try first | with_reducible rfl | apply And.intro <;> rfl
 simp only [xPa, xPb, xPc, xPd, xPe]
 refine run_at (i := 7) (v := ?_) rfl (by kernel_rfl) (by rfl) (fun _ _ _ h => h) hHeld (fun w1 hw1 => ?_) ?_
 rotate_left 1
 · skip
   go_simp
   try first | with_reducible rfl | apply And.intro <;> rfl
 simp only [xPa, xPb, xPc, xPd, xPe]
 refine run_at (i := 8) (v := ?_) rfl (by kernel_rfl) (by rfl) (fun _ _ _ h => h) hHeld (fun w1 hw1 => ?_) ?_
 rotate_left 1
 · skip
   have hcw0 := hw1.cell (HAT.out.r) (by first | (simp; done) | exact HNS.out)
   go_simp
   try first | with_reducible rfl | apply And.intro <;> rfl
 simp only [xPa, xPb, xPc, xPd, xPe]
 refine run_at (i := 10) (v := ?_) rfl (by kernel_rfl) (by rfl) (fun _ _ _ h => h) hHeld (fun w1 hw1 => ?_) ?_
 rotate_left 1
 · skip
   go_simp
   try first | with_reducible rfl | apply And.intro <;> rfl
 simp only [xPa, xPb, xPc, xPd, xPe]
 refine run_at (i := 11) (v := ?_) rfl (by kernel_rfl) (by rfl) (fun _ _ _ h => h) hHeld (fun w1 hw1 => ?_) ?_
 rotate_left 1
 · skip
   have hcw0 := hw1.cell (HAT.out.p) (by first | (simp; done) | exact HNS.out)
   go_simp
   try first | with_reducible rfl | apply And.intro <;> rfl
 simp only [xPa, xPb, xPc, xPd, xPe]
 refine run_at (i := 13) (v := ?_) rfl (by kernel_rfl) (by rfl) (fun _ _ _ h => h) hHeld (fun w1 hw1 => ?_) ?_
 rotate_left 1
 · skip
   go_simp
   try first | with_reducible rfl | apply And.intro <;> rfl
 simp only [xPa, xPb, xPc, xPd, xPe]
 refine row_at (i := 14) rfl (by kernel_rfl) (by rfl) _ _ rfl _ _ rfl _ (fun w1 hw1 => hw1.range (HAT.out.hash) (by first | (simp; done) | exact HNS.out)) (row_hash.of (by rw [List.length_map]; exact HX.out.h)) (fun _ _ _ h => h) hHeld ?_
 simp only [xPa, xPb, xPc, xPd, xPe]
 refine call_at (i := 3) (f := ?_) (args := ?_) rfl (by kernel_rfl) (by rfl) ?_ ?_
 rotate_left 2
 · go_simp
   try first | with_reducible rfl | apply And.intro <;> rfl
 refine (HG0.out.call fun S1 k1 => int_any x.k HX.out.k.1 HX.out.k.2 _ S1 g _ k1 (by have h0 := HL.out; (try simp only [List.length_append, sgL, nmL] at *); omega)).mono ?_
 rintro e w1 ⟨rfl, hg1⟩
 have HG1 := Lib.hid hg1
 refine ⟨_, rfl, hg1.fr, fun hHeld => ?_⟩
 clear hg1 HG0
 simp only [xPa, xPb, xPc, xPd, xPe]
 refine call_at (i := 6) (f := ?_) (args := ?_) rfl (by kernel_rfl) (by rfl) ?_ ?_
 rotate_left 2
 · go_simp
   try first | with_reducible rfl | apply And.intro <;> rfl
 refine (HG1.out.call fun S1 k1 => int_any x.e HX.out.e.1 HX.out.e.2 _ S1 g _ k1 (by have h0 := HL.out; have b0 := encI_len x.k HX.out.k.2; (try simp only [List.length_append, sgL, nmL] at *); omega)).mono ?_
 rintro e w2 ⟨rfl, hg2⟩
 have HG2 := Lib.hid hg2
 refine ⟨_, rfl, hg2.fr, fun hHeld => ?_⟩
 clear hg2 HG1
 simp only [xPa, xPb, xPc, xPd, xPe]
 refine call_at (i := 9) (f := ?_) (args := ?_) rfl (by kernel_rfl) (by rfl) ?_ ?_
 rotate_left 2
 · go_simp
   try first | with_reducible rfl | apply And.intro <;> rfl
 refine (HG2.out.call fun S1 k1 => int_any x.r HX.out.r.1 HX.out.r.2 _ S1 g _ k1 (by have h0 := HL.out; have b0 := encI_len x.k HX.out.k.2; have b1 := encI_len x.e HX.out.e.2; (try simp only [List.length_append, sgL, nmL] at *); omega)).mono ?_
 rintro e w3 ⟨rfl, hg3⟩
 have HG3 := Lib.hid hg3
 refine ⟨_, rfl, hg3.fr, fun hHeld => ?_⟩
 clear hg3 HG2
 simp only [xPa, xPb, xPc, xPd, xPe]
 refine call_at (i := 12) (f := ?_) (args := ?_) rfl (by kernel_rfl) (by rfl) ?_ ?_
 rotate_left 2
 · go_simp
   try first | with_reducible rfl | apply And.intro <;> rfl
 refine (HG3.out.call fun S1 k1 => int_any x.p HX.out.p.1 HX.out.p.2 _ S1 g _ k1 (by have h0 := HL.out; have b0 := encI_len x.k HX.out.k.2; have b1 := encI_len x.e HX.out.e.2; have b2 := encI_len x.r HX.out.r.2; (try simp only [List.length_append, sgL, nmL] at *); omega)).mono ?_
 rintro e w4 ⟨rfl, hg4⟩
 have HG4 := Lib.hid hg4
 refine ⟨_, rfl, hg4.fr, fun hHeld => ?_⟩
 clear hg4 HG3
 simp only [xPa, xPb, xPc, xPd, xPe]
 refine call_at (i := 15) (f := ?_) (args := ?_) rfl (by kernel_rfl) (by rfl) ?_ ?_
 rotate_left 2
 · go_simp
   try first | with_reducible rfl | apply And.intro <;> rfl
 refine (HG4.out.call fun S1 k1 => hash_any x.h HX.out.h _ S1 g _ k1 (by have h0 := HL.out; have b0 := encI_len x.k HX.out.k.2; have b1 := encI_len x.e HX.out.e.2; have b2 := encI_len x.r HX.out.r.2; have b3 := encI_len x.p HX.out.p.2; (try simp only [List.length_append, sgL, nmL] at *); omega)).mono ?_
 rintro e w5 ⟨rfl, hg5⟩
 have HG5 := Lib.hid hg5
 refine ⟨_, rfl, hg5.fr, fun hHeld => ?_⟩
 clear hg5 HG4
 simp only [xPa, xPb, xPc, xPd, xPe]
 refine run_at (i := 16) (v := ?_) rfl (by kernel_rfl) (by rfl) (fun _ _ _ h => h) hHeld (fun w1 hw1 => ?_) ?_
 rotate_left 1
 · skip
   go_simp
   try first | with_reducible rfl | apply And.intro <;> rfl
 simp only [xPa, xPb, xPc, xPd, xPe]
 refine wpAnyH_done (by kernel_rfl) ?_ _
 go_wp2
 go_ret
 exact ⟨rfl, (HG5.out.from_ HF0.out).eq (by simp [Wvt.bare, List.append_assoc])⟩
theorem voteFields_any' (x : Wvt) (hx : x.Ok) (C : List Value) (hC : x.cells = C) (w : World) (S : List Nat) (g : Nat) (l : List UInt8) (hw : Wr w S g l) (hl : l.length + 100 ≤ 1073741000) :
  Calls Tryz.prog 127 #[.pointer (some ⟨g, 0, none⟩), .agg C.toArray] w fun e w' => e = .returned (.pointer (some ⟨g, 0, none⟩)) ∧ Gr w S g (l ++ x.bare) w' := by
 subst hC
 exact voteFields_any x hx w S g l hw hl
theorem Wvt.bare_len {x : Wvt} (hx : x.Ok) : x.bare.length ≤ 72 := by
 have b0 := encI_len x.k hx.k.2
 have b1 := encI_len x.e hx.e.2
 have b2 := encI_len x.r hx.r.2
 have b3 := hx.h
 have b4 := encI_len x.p hx.p.2
 simp only [Wvt.bare, List.length_append]
 omega
def Wdn.bare (x : Wdn) : List UInt8 := encI x.r ++ encI x.i
def Wdn.full (x : Wdn) : List UInt8 := x.bare ++ sgL x.b x.m
set_option maxHeartbeats 1000000 in
theorem denyFields_any (x : Wdn) (hx : x.Ok) (w : World) (S : List Nat) (g : Nat) (l : List UInt8) (hw : Wr w S g l) (hl : l.length + 100 ≤ 1073741000) :
  Calls Tryz.prog 128 #[.pointer (some ⟨g, 0, none⟩), x.val] w fun e w' => e = .returned (.pointer (some ⟨g, 0, none⟩)) ∧ Gr w S g (l ++ x.bare) w' := by
 obtain ⟨wa, hwa⟩ : ∃ wa, wa = w.alloc (Obj.cells x.cells.toArray 56) := ⟨_, rfl⟩
 have hf0 : Fr [] w wa := by rw [hwa]; exact (Fr.refl [] w).alloc _
 have hb0 : Blk wa w.heap.size 56 x.cells.toArray := by rw [hwa]; exact Blk.new _ _ _
 have HNS : Hid (¬ w.heap.size ∈ S) := Lib.hid (fun h => by have := hw.lt _ h; omega)
 have HG0 := Lib.hid (Gr.begin hw hf0)
 have HALL := Lib.hid hb0.range
 have HAT := Lib.hid (Wdn.at_of (o := 0) hb0.range)
 have HLN : Hid (x.cells.length = 4) := Lib.hid (Wdn.len x)
 have HF0 := Lib.hid hf0
 have HWA := Lib.hid hwa
 have HL := Lib.hid hl
 have HX := Lib.hid hx
 clear hwa hf0 hb0 hl hw hx
 unfold Wdn.val
 generalize hC : x.cells = C at *
 have HRC := Lib.hid hC
 clear hC
 go_enter Tryz.func128, Tryz.ntmps128
 go_wp2
 rw [← HWA.out]
 refine wp_region_held_drew (S := Fr S wa) (by kernel_rfl) (Fr.drew (Fr.refl _ wa)) (fun hHeld => ?_)
 refine run_at (i := 0) (v := ?_) rfl (by kernel_rfl) (by rfl) (fun _ _ _ h => h) hHeld (fun w1 hw1 => ?_) ?_
 rotate_left 1
 · skip
   go_simp
   try first | with_reducible rfl | apply And.intro <;> rfl
 simp only [xPa, xPb, xPc, xPd, xPe]
 refine run_at (i := 1) (v := ?_) rfl (by kernel_rfl) (by rfl) (fun _ _ _ h => h) hHeld (fun w1 hw1 => ?_) ?_
 rotate_left 1
 · skip
   go_simp
   try first | with_reducible rfl | apply And.intro <;> rfl
 simp only [xPa, xPb, xPc, xPd, xPe]
 refine run_at (i := 2) (v := ?_) rfl (by kernel_rfl) (by rfl) (fun _ _ _ h => h) hHeld (fun w1 hw1 => ?_) ?_
 rotate_left 1
 · skip
   have hcw0 := hw1.cell (HAT.out.r) (by first | (simp; done) | exact HNS.out)
   go_simp
   try first | with_reducible rfl | apply And.intro <;> rfl
 simp only [xPa, xPb, xPc, xPd, xPe]
 refine run_at (i := 4) (v := ?_) rfl (by kernel_rfl) (by rfl) (fun _ _ _ h => h) hHeld (fun w1 hw1 => ?_) ?_
 rotate_left 1
 · skip
   go_simp
   try first | with_reducible rfl | apply And.intro <;> rfl
 simp only [xPa, xPb, xPc, xPd, xPe]
 refine run_at (i := 5) (v := ?_) rfl (by kernel_rfl) (by rfl) (fun _ _ _ h => h) hHeld (fun w1 hw1 => ?_) ?_
 rotate_left 1
 · skip
   have hcw0 := hw1.cell (HAT.out.i) (by first | (simp; done) | exact HNS.out)
   go_simp
   try first | with_reducible rfl | apply And.intro <;> rfl
 simp only [xPa, xPb, xPc, xPd, xPe]
 refine call_at (i := 3) (f := ?_) (args := ?_) rfl (by kernel_rfl) (by rfl) ?_ ?_
 rotate_left 2
 · go_simp
   try first | with_reducible rfl | apply And.intro <;> rfl
 refine (HG0.out.call fun S1 k1 => int_any x.r HX.out.r.1 HX.out.r.2 _ S1 g _ k1 (by have h0 := HL.out; (try simp only [List.length_append, sgL, nmL] at *); omega)).mono ?_
 rintro e w1 ⟨rfl, hg1⟩
 have HG1 := Lib.hid hg1
 refine ⟨_, rfl, hg1.fr, fun hHeld => ?_⟩
 clear hg1 HG0
 simp only [xPa, xPb, xPc, xPd, xPe]
 refine call_at (i := 6) (f := ?_) (args := ?_) rfl (by kernel_rfl) (by rfl) ?_ ?_
 rotate_left 2
 · go_simp
   try first | with_reducible rfl | apply And.intro <;> rfl
 refine (HG1.out.call fun S1 k1 => int_any x.i HX.out.i.1 HX.out.i.2 _ S1 g _ k1 (by have h0 := HL.out; have b0 := encI_len x.r HX.out.r.2; (try simp only [List.length_append, sgL, nmL] at *); omega)).mono ?_
 rintro e w2 ⟨rfl, hg2⟩
 have HG2 := Lib.hid hg2
 refine ⟨_, rfl, hg2.fr, fun hHeld => ?_⟩
 clear hg2 HG1
 simp only [xPa, xPb, xPc, xPd, xPe]
 refine run_at (i := 7) (v := ?_) rfl (by kernel_rfl) (by rfl) (fun _ _ _ h => h) hHeld (fun w1 hw1 => ?_) ?_
 rotate_left 1
 · skip
   go_simp
   try first | with_reducible rfl | apply And.intro <;> rfl
 simp only [xPa, xPb, xPc, xPd, xPe]
 refine wpAnyH_done (by kernel_rfl) ?_ _
 go_wp2
 go_ret
 exact ⟨rfl, (HG2.out.from_ HF0.out).eq (by simp [Wdn.bare, List.append_assoc])⟩
theorem denyFields_any' (x : Wdn) (hx : x.Ok) (C : List Value) (hC : x.cells = C) (w : World) (S : List Nat) (g : Nat) (l : List UInt8) (hw : Wr w S g l) (hl : l.length + 100 ≤ 1073741000) :
  Calls Tryz.prog 128 #[.pointer (some ⟨g, 0, none⟩), .agg C.toArray] w fun e w' => e = .returned (.pointer (some ⟨g, 0, none⟩)) ∧ Gr w S g (l ++ x.bare) w' := by
 subst hC
 exact denyFields_any x hx w S g l hw hl
theorem Wdn.bare_len {x : Wdn} (hx : x.Ok) : x.bare.length ≤ 72 := by
 have b0 := encI_len x.r hx.r.2
 have b1 := encI_len x.i hx.i.2
 simp only [Wdn.bare, List.length_append]
 omega
set_option maxHeartbeats 1000000 in
theorem putDeny_any (x : Wdn) (hx : x.Ok) (w : World) (S : List Nat) (g : Nat) (l : List UInt8) (hw : Wr w S g l) (hl : l.length + 200 ≤ 1073741000) :
  Calls Tryz.prog 87 #[.pointer (some ⟨g, 0, none⟩), x.val] w fun e w' => e = .returned (.pointer (some ⟨g, 0, none⟩)) ∧ Gr w S g (l ++ x.full) w' := by
 obtain ⟨wa, hwa⟩ : ∃ wa, wa = w.alloc (Obj.cells x.cells.toArray 56) := ⟨_, rfl⟩
 have hf0 : Fr [] w wa := by rw [hwa]; exact (Fr.refl [] w).alloc _
 have hb0 : Blk wa w.heap.size 56 x.cells.toArray := by rw [hwa]; exact Blk.new _ _ _
 have HNS : Hid (¬ w.heap.size ∈ S) := Lib.hid (fun h => by have := hw.lt _ h; omega)
 have HG0 := Lib.hid (Gr.begin hw hf0)
 have HALL := Lib.hid hb0.range
 have HAT := Lib.hid (Wdn.at_of (o := 0) hb0.range)
 have HLN : Hid (x.cells.length = 4) := Lib.hid (Wdn.len x)
 have HF0 := Lib.hid hf0
 have HWA := Lib.hid hwa
 have HL := Lib.hid hl
 have HX := Lib.hid hx
 clear hwa hf0 hb0 hl hw hx
 unfold Wdn.val
 generalize hC : x.cells = C at *
 have HRC := Lib.hid hC
 clear hC
 go_enter Tryz.func87, Tryz.ntmps87
 go_wp2
 rw [← HWA.out]
 refine wp_region_held_drew (S := Fr S wa) (by kernel_rfl) (Fr.drew (Fr.refl _ wa)) (fun hHeld => ?_)
 refine run_at (i := 0) (v := ?_) rfl (by kernel_rfl) (by rfl) (fun _ _ _ h => h) hHeld (fun w1 hw1 => ?_) ?_
 rotate_left 1
 · skip
   go_simp
   try first | with_reducible rfl | apply And.intro <;> rfl
 simp only [xPa, xPb, xPc, xPd, xPe]
 refine row_at (i := 1) rfl (by kernel_rfl) (by rfl) _ _ rfl _ _ rfl _ (fun w1 hw1 => hw1.range (HALL.out) (by first | (simp; done) | exact HNS.out)) (row_deny.of HLN.out) (fun _ _ _ h => h) hHeld ?_
 simp only [xPa, xPb, xPc, xPd, xPe]
 refine run_at (i := 3) (v := ?_) rfl (by kernel_rfl) (by rfl) (fun _ _ _ h => h) hHeld (fun w1 hw1 => ?_) ?_
 rotate_left 1
 · skip
   go_simp
   try first | with_reducible rfl | apply And.intro <;> rfl
 simp only [xPa, xPb, xPc, xPd, xPe]
 refine row_at (i := 4) rfl (by kernel_rfl) (by rfl) _ _ rfl _ _ rfl _ (fun w1 hw1 => hw1.range (HAT.out.sig) (by first | (simp; done) | exact HNS.out)) (row_sg) (fun _ _ _ h => h) hHeld ?_
 simp only [xPa, xPb, xPc, xPd, xPe]
 refine call_at (i := 2) (f := ?_) (args := ?_) rfl (by kernel_rfl) (by rfl) ?_ ?_
 rotate_left 2
 · go_simp
   try first | with_reducible rfl | apply And.intro <;> rfl
 refine (HG0.out.call fun S1 k1 => denyFields_any' x HX.out C HRC.out _ S1 g _ k1 (by have h0 := HL.out; (try simp only [List.length_append, sgL, nmL] at *); omega)).mono ?_
 rintro e w1 ⟨rfl, hg1⟩
 have HG1 := Lib.hid hg1
 refine ⟨_, rfl, hg1.fr, fun hHeld => ?_⟩
 clear hg1 HG0
 simp only [xPa, xPb, xPc, xPd, xPe]
 refine call_at (i := 5) (f := ?_) (args := ?_) rfl (by kernel_rfl) (by rfl) ?_ ?_
 rotate_left 2
 · go_simp
   try first | with_reducible rfl | apply And.intro <;> rfl
 refine (HG1.out.call fun S1 k1 => putSig_any x.b x.m HX.out.b HX.out.m _ S1 g _ k1 (by have h0 := HL.out; have b0 := Wdn.bare_len HX.out; (try simp only [List.length_append, sgL, nmL] at *); omega)).mono ?_
 rintro e w2 ⟨rfl, hg2⟩
 have HG2 := Lib.hid hg2
 refine ⟨_, rfl, hg2.fr, fun hHeld => ?_⟩
 clear hg2 HG1
 simp only [xPa, xPb, xPc, xPd, xPe]
 refine run_at (i := 6) (v := ?_) rfl (by kernel_rfl) (by rfl) (fun _ _ _ h => h) hHeld (fun w1 hw1 => ?_) ?_
 rotate_left 1
 · skip
   go_simp
   try first | with_reducible rfl | apply And.intro <;> rfl
 simp only [xPa, xPb, xPc, xPd, xPe]
 refine wpAnyH_done (by kernel_rfl) ?_ _
 go_wp2
 go_ret
 exact ⟨rfl, (HG2.out.from_ HF0.out).eq (by simp [Wdn.full, List.append_assoc])⟩
theorem putDeny_any' (x : Wdn) (hx : x.Ok) (C : List Value) (hC : x.cells = C) (w : World) (S : List Nat) (g : Nat) (l : List UInt8) (hw : Wr w S g l) (hl : l.length + 200 ≤ 1073741000) :
  Calls Tryz.prog 87 #[.pointer (some ⟨g, 0, none⟩), .agg C.toArray] w fun e w' => e = .returned (.pointer (some ⟨g, 0, none⟩)) ∧ Gr w S g (l ++ x.full) w' := by
 subst hC
 exact putDeny_any x hx w S g l hw hl
def wWst : List UInt8 := [115, 116, 97, 109, 112]
def Wst.text (x : Wst) : List UInt8 := enc wWst.length ++ wWst ++ x.bare
def wWvt : List UInt8 := [118, 111, 116, 101]
def Wvt.text (x : Wvt) : List UInt8 := enc wWvt.length ++ wWvt ++ x.bare
def wWdn : List UInt8 := [100, 101, 110, 121]
def Wdn.text (x : Wdn) : List UInt8 := enc wWdn.length ++ wWdn ++ x.bare
end Go.Proofs.YtpcnedpheplofaaGreat

namespace Go.Proofs.YtpcnedpheplofaaGreat
open Go.RowKit
set_option maxRecDepth 100000
def Cl (md : Region.Mode) (ops : Array Oper) (L : Array Bool) : Prop :=
 ∀ j oj, ops[j]? = some oj → L.getD j false = true → ∀ e ∈ oj.after, Region.binds md e = true → L.getD e.on false = true
def awaits (md : Region.Mode) (ops : Array Oper) : Nat → Nat → Nat → Bool
 | 0, _, _ => false
 | f + 1, k, i => match ops[k]? with
   | none => false
   | some o => o.after.any fun e => Region.binds md e && (e.on == i || awaits md ops f e.on i)
theorem awaits_listed {md : Region.Mode} {ops : Array Oper} {L : Array Bool} (hc : Cl md ops L) : ∀ (f k i : Nat), awaits md ops f k i = true → L.getD k false = true → L.getD i false = true
 | 0, _, _, h, _ => by simp [awaits] at h
 | f + 1, k, i, h, hk => by
   unfold awaits at h
   cases ho : ops[k]? with
   | none => rw [ho] at h; simp at h
   | some o =>
     rw [ho] at h
     simp only [Array.any_eq_true] at h
     obtain ⟨n, hn, hb⟩ := h
     simp only [Bool.and_eq_true, Bool.or_eq_true, beq_iff_eq] at hb
     have hl := hc k o ho hk _ (Array.getElem_mem hn) hb.1
     rcases hb.2 with h2 | h2
     · rw [← h2]; exact hl
     · exact awaits_listed hc f _ _ h2 hl
theorem getD_two {L : Array Bool} {i : Nat} (h : L.getD i true = false) : L.getD i false = false := by
 rcases Nat.lt_or_ge i L.size with h' | h'
 · simpa [h'] using h
 · simp [Array.getElem?_eq_none h']
theorem pending {md : Region.Mode} {ops : Array Oper} {T i : Nat} (h : awaits md ops ops.size T i = true) (L : Array Bool) (hc : Cl md ops L) (hp : L.getD i true = false) : L.getD T false = false := by
 cases ht : L.getD T false with
 | false => rfl
 | true =>
   have h1 := awaits_listed hc _ _ _ h ht
   rw [getD_two hp] at h1
   cases h1
def wpTill (P : Program) (md : Region.Mode) (ops : Array Oper) (Q : Exit → Act → World → Prop) (T : Nat) (A B : World → Prop) : Nat → Array Bool → Act → World → Prop
 | 0, L, a, w => Region.ready md ops L = [] ∧ Q .normal a w
 | f + 1, L, a, w => (Region.ready md ops L = [] → Q .normal a w) ∧
   ∀ i ∈ Region.ready md ops L, wpOp P ops Q i (fun a' w' => (A w' ∧ ((L.setIfInBounds i true).getD T false = false → B w')) ∧ wpTill P md ops Q T A B f (L.setIfInBounds i true) a' w') a w
section
variable {P : Program} {ops : Array Oper} {Q : Exit → Act → World → Prop} {md : Region.Mode} {T : Nat} {A B : World → Prop}
theorem wpAny_of_till : ∀ (f : Nat) (L : Array Bool) (a : Act) (w : World), wpTill P md ops Q T A B f L a w → wpAny P md ops Q f L a w
 | 0, _, _, _, h => h
 | f + 1, _, _, _, h => ⟨h.1, fun i hi => wpOp_mono (fun a' w' h' => wpAny_of_till f _ a' w' h'.2) (h.2 i hi)⟩
theorem Cl.set {L : Array Bool} (hc : Cl md ops L) {i : Nat} (hi : i ∈ Region.ready md ops L) : Cl md ops (L.setIfInBounds i true) := by
 obtain ⟨_, oi, hoi, hall⟩ := mem_ready.1 hi
 intro j oj hj hl e he hb
 have up : ∀ k, L.getD k false = true → (L.setIfInBounds i true).getD k false = true := fun k hk => by
  by_cases hik : i = k
  · subst hik
    rcases Nat.lt_or_ge i L.size with h' | h'
    · simp [h']
    · simp [Array.getElem?_eq_none h'] at hk
  · rw [getD_set_ne false hik]; exact hk
 by_cases hij : i = j
 · subst hij
   have : oi = oj := Option.some.inj (hoi.symm.trans hj)
   subst this
   exact up _ (hall e he hb)
 · rw [getD_set_ne false hij] at hl
   exact up _ (hc j oj hj hl e he hb)
theorem till_take {i : Nat} {oi : Oper} {v : Value} (hi : ops[i]? = some oi) (hs : Region.noSelect ops = true) (hiT : i ≠ T) (hp : awaits md ops ops.size T i = true) (hQ : ∀ c a w, Q (.panic c) (a.put oi.dst v) w → Q (.panic c) a w) :
  ∀ (f : Nat) (L : Array Bool) (a : Act) (w : World), (∀ j oj, ops[j]? = some oj → j ≠ i → L.getD j true = false → (∀ e ∈ oj.after, Region.binds md e = true → e.on ≠ i) → oi.apart ops oj = true) →
   Cl md ops L → i ∈ Region.ready md ops L → YieldsIf P ops (fun w => A w ∧ B w) oi v a → A w → B w →
   wpTill P md ops Q T A B f (L.setIfInBounds i true) (a.put oi.dst v) w → wpTill P md ops Q T A B (f + 1) L a w := by
 have hsel := Region.noSelect_spec hs
 intro f
 induction f with
 | zero =>
   intro L a w _ _ hr hy hA hB H
   refine ⟨fun h => (by rw [h] at hr; cases hr), fun j hj => ?_⟩
   by_cases hji : j = i
   · subst hji; exact hy.wpOp hi ⟨hA, hB⟩ ⟨⟨hA, fun _ => hB⟩, H⟩
   · have h0 := ready_mono hj hji
     rw [H.1] at h0
     cases h0
 | succ f ih =>
   intro L a w hap hc hr hy hA hB H
   refine ⟨fun h => (by rw [h] at hr; cases hr), fun j hj => ?_⟩
   by_cases hji : j = i
   · subst hji; exact hy.wpOp hi ⟨hA, hB⟩ ⟨⟨hA, fun _ => hB⟩, H⟩
   · obtain ⟨hjun, oj, hoj, hall⟩ := mem_ready.1 hj
     have hiun := (mem_ready.1 hr).1
     have hno : ∀ e ∈ oj.after, Region.binds md e = true → e.on ≠ i := fun e he hb heq => by
      have h1 := hall e he hb
      rw [heq, getD_two hiun] at h1
      cases h1
     have h2 := wpOp_putIf hoj (hap j oj hoj hji hjun hno) (hsel i oi · · hi) (hsel j oj · · hoj) hQ hy (H.2 j (ready_mono hj hji))
     have hap' : ∀ k ok, ops[k]? = some ok → k ≠ i → (L.setIfInBounds j true).getD k true = false → (∀ e ∈ ok.after, Region.binds md e = true → e.on ≠ i) → oi.apart ops ok = true := fun k ok hk hki hun => by
      refine hap k ok hk hki ?_
      by_cases hjk : j = k
      · subst hjk; exact hjun
      · rwa [getD_set_ne true hjk] at hun
     have hr' := ready_mono hr (Ne.symm hji)
     have hc' := hc.set hj
     refine wpOp_mono (fun a' w' h3 => ?_) h2
     obtain ⟨hy', ⟨hA', hB'⟩, h4⟩ := h3
     rw [Array.setIfInBounds_comm _ _ (Ne.symm hji)] at h4 hB'
     have hT := pending hp _ hc' (mem_ready.1 hr').1
     have hB'' := hB' (by rw [getD_set_ne false hiT]; exact hT)
     exact ⟨⟨hA', fun _ => hB''⟩, ih (L.setIfInBounds j true) a' w' hap' hc' hr' hy' hA' hB'' h4⟩
end
def clB (md : Region.Mode) (ops : Array Oper) (L : Array Bool) : Bool :=
 (List.range ops.size).all fun j => !L.getD j false || match ops[j]? with
   | none => true
   | some o => o.after.all fun e => !Region.binds md e || L.getD e.on false
theorem Cl.of {md : Region.Mode} {ops : Array Oper} {L : Array Bool} (h : clB md ops L = true) : Cl md ops L := by
 intro j oj hj hl e he hb
 have h1 := List.all_eq_true.1 h j (List.mem_range.2 (Array.getElem?_eq_some_iff.1 hj).1)
 rw [hj, hl] at h1
 simp only [Bool.not_true, Bool.false_or] at h1
 have h2 := Array.all_eq_true_iff_forall_mem.1 h1 e he
 rw [hb] at h2
 simpa using h2
def tillOk (md : Region.Mode) (ops : Array Oper) (T : Nat) (L : Array Bool) (i : Nat) : Bool :=
 takeOk md ops L i && clB md ops L && awaits md ops ops.size T i && !(i == T)
section
variable {P : Program} {l : List Oper} {Q : Exit → Act → World → Prop} {md : Region.Mode} {T : Nat} {A B : World → Prop} {fuel : Nat} {L : Array Bool} {a : Act} {w : World}
theorem till_at {i : Nat} {oi : Oper} {v : Value} (hi : nthOp l i = some oi) (ht : tillOk md l.toArray T L i = true)
  (hQ : ∀ c a w, Q (.panic c) (a.put oi.dst v) w → Q (.panic c) a w) (hy : YieldsIf P l.toArray (fun w => A w ∧ B w) oi v a) (hA : A w) (hB : B w)
  (h : wpTill P md l.toArray Q T A B fuel (L.setIfInBounds i true) (a.put oi.dst v) w) : wpTill P md l.toArray Q T A B (fuel + 1) L a w := by
 unfold tillOk takeOk at ht
 simp only [Bool.and_eq_true, Bool.not_eq_true', beq_eq_false_iff_ne] at ht
 obtain ⟨⟨⟨⟨⟨h1, h2⟩, h3⟩, h4⟩, h5⟩, h6⟩ := ht
 have hi' : l.toArray[i]? = some oi := by rw [List.getElem?_toArray, nthOp_eq, hi]
 exact till_take hi' h1 h6 h5 hQ fuel L a w (Region.free_spec hi' h2) (Cl.of h4) (by simpa using h3) hy hA hB h
theorem till_run {i : Nat} {oi : Oper} (hi : nthOp l i = some oi) (ht : tillOk md l.toArray T L i = true) (hw : Region.wanted oi (yielded l.toArray a.tmps) = true) {v : Value}
  (hQ : ∀ c a w, Q (.panic c) (a.put oi.dst v) w → Q (.panic c) a w) (hA : A w) (hB : B w) (hy : ∀ w1, B w1 → (execOp a.eval oi).run P w1 = .ok (.value v) w1)
  (h : wpTill P md l.toArray Q T A B fuel (L.setIfInBounds i true) (a.put oi.dst v) w) : wpTill P md l.toArray Q T A B (fuel + 1) L a w :=
 till_at hi ht hQ (.inl ⟨hw, fun w1 h1 => hy w1 h1.2⟩) hA hB h
theorem till_row {i : Nat} {oi : Oper} (hi : nthOp l i = some oi) (ht : tillOk md l.toArray T L i = true) (hw : Region.wanted oi (yielded l.toArray a.tmps) = true)
  (ty : TypeId) (x : Operand) (ho : oi.op = .load ty x) (b o : Nat) (hx : a.eval x = .pointer (some ⟨b, o, none⟩)) (cs : List Value) (hc : ∀ w1, B w1 → w1.rangeAt b o cs) (hr : RowTy P ty cs.length)
  (hQ : ∀ c a w, Q (.panic c) (a.put oi.dst (.agg cs.toArray)) w → Q (.panic c) a w) (hA : A w) (hB : B w)
  (h : wpTill P md l.toArray Q T A B fuel (L.setIfInBounds i true) (a.put oi.dst (.agg cs.toArray)) w) : wpTill P md l.toArray Q T A B (fuel + 1) L a w := by
 obtain ⟨h1, h2⟩ := hr
 cases hu : P.underlying ty with
 | none => rw [hu] at h1; cases h1
 | some d =>
   rw [hu] at h1
   exact till_at hi ht hQ (yieldsIf_load_mid hw ty x ho b o hx cs d (fun w1 h1 => hc w1 h1.2) hu (by simpa using h1) h2) hA hB h
theorem till_one {i : Nat} {o : Oper} (hi : nthOp l i = some o) (hr : Region.ready md l.toArray L = [i]) (hw : Region.wanted o (yielded l.toArray a.tmps) = true)
  (h : Oper.wp P o a w (fun a' w' => (A w' ∧ ((L.setIfInBounds i true).getD T false = false → B w')) ∧ wpTill P md l.toArray Q T A B fuel (L.setIfInBounds i true) a' w') Q) : wpTill P md l.toArray Q T A B (fuel + 1) L a w := by
 refine ⟨fun h0 => (by rw [hr] at h0; cases h0), fun j hj => ?_⟩
 rw [hr] at hj
 obtain rfl : j = i := by simpa using hj
 unfold wpOp
 rw [List.getElem?_toArray, nthOp_eq, hi]
 simp only [hw, if_true]
 exact .inl h
theorem till_call {i : Nat} {o : Oper} (hi : nthOp l i = some o) (hr : Region.ready md l.toArray L = [i]) (hw : Region.wanted o (yielded l.toArray a.tmps) = true)
  {f : FuncId} {args : Array Value} (he : (execOp a.eval o).run P w = .ok (.enter f args) w)
  (h : Calls P f args w fun e w' => ∃ v, e = .returned v ∧ (A w' ∧ B w') ∧ (B w' → wpTill P md l.toArray Q T A B fuel (L.setIfInBounds i true) (a.put o.dst v) w')) : wpTill P md l.toArray Q T A B (fuel + 1) L a w := by
 refine till_one hi hr hw (wp_call he (h.mono ?_))
 rintro e w' ⟨v, rfl, h1, h2⟩
 exact ⟨v, rfl, ⟨h1.1, fun _ => h1.2⟩, h2 h1.2⟩
theorem till_step {i : Nat} {o : Oper} (hi : nthOp l i = some o) (hr : Region.ready md l.toArray L = [i]) (hT : (L.setIfInBounds i true).getD T false = true) (hw : Region.wanted o (yielded l.toArray a.tmps) = true)
  (h : ∀ K : Act → World → Prop, Shut (∀ a w, A w → (A w → wpTill P md l.toArray Q T A B fuel (L.setIfInBounds i true) a w) → K a w) → Oper.wp P o a w K Q) : wpTill P md l.toArray Q T A B (fuel + 1) L a w :=
 till_one hi hr hw (h _ (fun a w hA hW => ⟨⟨hA, fun h0 => (by rw [hT] at h0; cases h0)⟩, hW hA⟩))
theorem till_done (hr : Region.ready md l.toArray L = []) (h : Q .normal a w) : ∀ fuel, wpTill P md l.toArray Q T A B fuel L a w
 | 0 => ⟨hr, h⟩
 | _ + 1 => ⟨fun _ => h, by rw [hr]; simp⟩
theorem wp_region_till {id : Nat} (T : Nat) (A B : World → Prop) (hm : P.follows .mixedOrders = true) (hA : A w.drew) (hB : B w.drew)
  (h : A w.drew → B w.drew → wpTill P .any l.toArray Q T A B l.toArray.size (Array.replicate l.toArray.size false) a w.drew) : (Code.region id l.toArray true).wp P Q a w :=
 wp_region_any hm (wpAny_of_till _ _ _ _ (h hA hB))
end
end Go.Proofs.YtpcnedpheplofaaGreat

namespace Go.Proofs.YtpcnedpheplofaaGreat
open Go.RowKit
set_option maxRecDepth 100000
def Lst {α : Type} (k : Nat) (cells : α → List Value) (ok : World → α → Prop) (w : World) (A : Option Addr) (n : Nat) (l : List α) : Prop :=
 l.length = n ∧ (∀ v ∈ l, (cells v).length = k ∧ ok w v) ∧ (0 < n → ∃ ad, A = some ad ∧ ∀ i v, l[i]? = some v → ∀ j x, (cells v)[j]? = some x → w.cell? (ad.add (i * k + j)) = some x)
section
variable {α : Type} {k : Nat} {cells : α → List Value} {ok : World → α → Prop} {w w' : World} {A : Option Addr} {n : Nat} {l : List α} {S : List Nat}
theorem Lst.nil (A : Option Addr) : Lst k cells ok w A 0 [] := ⟨rfl, by simp, fun h => absurd h (by omega)⟩
theorem Lst.keep (h : Lst k cells ok w A n l) (hf : Fr S w w') (hA : ∀ a, A = some a → ¬ a.block ∈ S) (hok : ∀ v ∈ l, ok w v → ok w' v) : Lst k cells ok w' A n l :=
 ⟨h.1, fun v hv => ⟨(h.2.1 v hv).1, hok v hv (h.2.1 v hv).2⟩, fun hn => by
  obtain ⟨ad, e, hc⟩ := h.2.2 hn
  exact ⟨ad, e, fun i v hv j x hx => hf.cell (hc i v hv j x hx) (by rw [add_block]; exact hA ad e)⟩⟩
theorem Lst.at (h : Lst k cells ok w A n l) {i : Nat} (hi : i < n) : ∃ ad v, A = some ad ∧ l[i]? = some v ∧ (cells v).length = k ∧ ok w v ∧ ∀ j x, (cells v)[j]? = some x → w.cell? ((ad.add (i * k)).add j) = some x := by
 obtain ⟨ad, e, hc⟩ := h.2.2 (by omega)
 have hl : i < l.length := by rw [h.1]; exact hi
 have hv := List.getElem?_eq_getElem hl
 obtain ⟨h1, h2⟩ := h.2.1 _ (List.mem_of_getElem? hv)
 exact ⟨ad, l[i], e, hv, h1, h2, fun j x hx => by rw [add_add]; exact hc i _ hv j x hx⟩
theorem Lst.take (h : Lst k cells ok w A n l) {m : Nat} (hm : m ≤ n) : Lst k cells ok w A m (l.take m) :=
 ⟨by rw [List.length_take, h.1]; omega, fun v hv => h.2.1 v (List.mem_of_mem_take hv), fun h0 => by
  obtain ⟨ad, e, hc⟩ := h.2.2 (by omega)
  exact ⟨ad, e, fun i v hv j x hx => hc i v (by
   rw [List.getElem?_take] at hv
   split at hv
   · exact hv
   · cases hv) j x hx⟩⟩
theorem flat_at {l : List α} (hk : ∀ v ∈ l, (cells v).length = k) : ∀ {i : Nat} {v : α} {j : Nat} {x : Value}, l[i]? = some v → (cells v)[j]? = some x → (l.flatMap cells)[i * k + j]? = some x := by
 induction l with
 | nil => intro i v j x hv; simp at hv
 | cons y ys ih =>
   intro i v j x hv hx
   have hy := hk y (by simp)
   rw [List.flatMap_cons]
   cases i with
   | zero =>
     simp at hv
     subst hv
     rw [Nat.zero_mul, Nat.zero_add, List.getElem?_append_left (List.getElem?_eq_some_iff.1 hx).1]
     exact hx
   | succ i =>
     rw [List.getElem?_append_right (by rw [hy, Nat.succ_mul]; omega), hy, show (i + 1) * k + j - k = i * k + j by rw [Nat.succ_mul]; omega]
     exact ih (fun v hv => hk v (by simp [hv])) (by simpa using hv) hx
theorem Lst.of_own {base : Nat} {e : TypeId} {c : Nat} (h : w.ownsRow base e k (.slice A n c) n (l.flatMap cells)) (hl : l.length = n) (hk : ∀ v ∈ l, (cells v).length = k ∧ ok w v) : Lst k cells ok w A n l := by
 refine ⟨hl, hk, fun hn => ?_⟩
 by_cases hk0 : k = 0
 · rcases h.2 with ⟨_, h0⟩ | ⟨g, cap, cur, hv, _⟩
   · omega
   · injection hv with hA
     exact ⟨_, hA, fun i v hv j x hx => by have := (hk v (List.mem_of_getElem? hv)).1; have := (List.getElem?_eq_some_iff.1 hx).1; omega⟩
 · obtain ⟨g, cap, hv, _, hlt⟩ := h.form hn
   have hA : A = some ⟨g, 0, none⟩ := by injection hv
   subst hA
   refine ⟨_, rfl, fun i v hv j x hx => ?_⟩
   exact h.cells (g := g) rfl _ _ (flat_at (fun v hv => (hk v hv).1) hv hx)
end
theorem lst_of_trod {α : Type} [Inhabited α] {H : Type} {enc : TypeId × Value → H} {w : World} {spare : Nat → Bool} {held : Bool} {k : Nat} {cells : α → List Value} {ok : World → α → Prop} {t e : TypeId} (ht : Tryz.prog.underlying t = some (.slice e)) (hc : Tryz.prog.cellsOf e = k)
  (hel : ∀ fuel cs (x : DataW H × List MemPlace), DataW.trod enc Tryz.prog w 0 spare held fuel e cs = some x → ∃ v : α, ok w v ∧ cs = cells v) {fuel : Nat} {A : Option Addr} {len cap : Nat} {x : DataW H × List MemPlace} (h : DataW.trod enc Tryz.prog w 0 spare held fuel t [.slice A len cap] = some x) :
  ∃ l : List α, Lst k cells ok w A len l ∧ len ≤ cap ∧ cap ≤ maxLen := by
 rcases Go.Deep.open_slice ht h with ⟨hcs, _⟩ | ⟨a, len', cap', m, n, D, Pl, hcs, _, hl, hm, hmm, _, hi⟩
 · simp at hcs
   obtain ⟨rfl, rfl, rfl⟩ := hcs
   exact ⟨[], Lst.nil _, Nat.le_refl _, Nat.zero_le _⟩
 · simp at hcs
   obtain ⟨rfl, rfl, rfl⟩ := hcs
   have hlm : len ≤ m := by rw [hmm]; split <;> omega
   have hv : ∀ i, i < len → ∃ v : α, (cells v).length = k ∧ ok w v ∧ ∀ j x, (cells v)[j]? = some x → w.cell? (a.add (i * k + j)) = some x := by
    intro i hil
    obtain ⟨cs', h1, h2⟩ := hi i (by omega)
    rw [hc] at h1
    obtain ⟨v, hv1, rfl⟩ := hel _ _ _ h2
    obtain ⟨_, hcl, hat⟩ := World.cells?_some h1
    refine ⟨v, hcl, hv1, fun j x hx => ?_⟩
    have hj : j < (cells v).length := (List.getElem?_eq_some_iff.1 hx).1
    have := hat j (by omega)
    rw [add_add] at this
    rw [this, hx]
   have hg : ∀ i v, ((List.range len).map (fun i => if hi : i < len then Classical.choose (hv i hi) else default))[i]? = some v → (cells v).length = k ∧ ok w v ∧ ∀ j x, (cells v)[j]? = some x → w.cell? (a.add (i * k + j)) = some x := by
    intro i v hiv
    simp only [List.getElem?_map, Option.map_eq_some_iff] at hiv
    obtain ⟨i', hk, rfl⟩ := hiv
    obtain ⟨hk1, hk2⟩ := List.getElem?_eq_some_iff.1 hk
    simp at hk1 hk2
    subst hk2
    rw [dif_pos hk1]
    exact Classical.choose_spec (hv i hk1)
   refine ⟨(List.range len).map (fun i => if hi : i < len then Classical.choose (hv i hi) else default), ⟨by simp, fun v hm => ?_, fun _ => ⟨a, rfl, fun i v hiv => (hg i v hiv).2.2⟩⟩, hl, hm⟩
   obtain ⟨i, hi⟩ := List.getElem?_of_mem hm
   exact ⟨(hg i v hi).1, (hg i v hi).2.1⟩
/-! ### loads from anywhere -/
section
variable {P : Program} {l : List Oper} {Q : Exit → Act → World → Prop} {md : Region.Mode} {S : World → Prop} {fuel : Nat} {listed : Array Bool} {a : Act} {w : World}
theorem exec_cells {ev : Operand → Value} {o : Oper} {w : World} (ty : TypeId) (x : Operand) (ho : o.op = .load ty x) (ad : Addr) (hx : ev x = .pointer (some ad)) (cs : List Value) (hr : RowTy P ty cs.length)
  (hc : ∀ j v, cs[j]? = some v → w.cell? (ad.add j) = some v) : (execOp ev o).run P w = .ok (.value (.agg cs.toArray)) w := by
 obtain ⟨h1, h2⟩ := hr
 cases hu : P.underlying ty with
 | none => rw [hu] at h1; cases h1
 | some d =>
   rw [hu] at h1
   unfold execOp
   simp only [ho, hx, Instr.loadAt, Instr.sureAddr, Sem.run_bind, Sem.run_pure, Result.andThen_ok, run_loadVar_cells w ad ty cs d hc hu (by cases d <;> simp_all [TypeDesc.isRow]) h2]
theorem wpList_cells {ops : Array Oper} {rest : List Oper} {op : Oper} (hw : Region.wanted op (yielded ops a.tmps) = true) (ty : TypeId) (x : Operand) (ho : op.op = .load ty x)
  (ad : Addr) (hx : a.eval x = .pointer (some ad)) (cs : List Value) (hc : ∀ j v, cs[j]? = some v → w.cell? (ad.add j) = some v) (hr : RowTy P ty cs.length)
  (h : wpList P ops Q rest (a.put op.dst (.agg cs.toArray)) w) : wpList P ops Q (op :: rest) a w :=
 BigFrame.wpList_want hw fun _ hK => wp_run (exec_cells ty x ho ad hx cs hr hc) (hK _ _ h)
end
end Go.Proofs.YtpcnedpheplofaaGreat

namespace Go.Proofs.YtpcnedpheplofaaGreat
open Go.RowKit
set_option maxRecDepth 100000
/-! ### a struct is built of parts -/
def splice (l : List Value) (o : Nat) (v : List Value) : List Value := l.take o ++ (v ++ l.drop (o + v.length))
theorem splice_foldl : ∀ (v : List Value) (k o : Nat) (cs : Array Value), o + k + v.length ≤ cs.size →
  (v.zipIdx k).foldl (fun cs (c, j) => cs.setIfInBounds (o + j) c) cs = (splice cs.toList (o + k) v).toArray
 | [], k, o, cs, _ => by
   simp [splice]
 | c :: r, k, o, cs, h => by
   simp only [List.length_cons] at h
   rw [List.zipIdx_cons, List.foldl_cons, splice_foldl r (k + 1) o _ (by simp; omega)]
   congr 1
   unfold splice
   simp only [Array.toList_setIfInBounds, List.length_cons]
   have h1 : o + k < cs.toList.length := by simp; omega
   rw [show o + (k + 1) = (o + k) + 1 by omega, List.take_add_one, List.take_set_of_le (Nat.le_refl _), List.getElem?_set_self h1, List.drop_set_of_lt (by omega)]
   simp [Nat.add_assoc, Nat.add_comm, Nat.add_left_comm]
theorem fill_step (place : Nat → Option (Nat × Nat)) (cells : Array Value) (i off size : Nat) (v : Value) (rest : List (Nat × Value)) (hp : place i = some (off, size)) (h1 : v.cells.size = size) (h2 : off + size ≤ cells.size) :
  Instr.fill place cells ((i, v) :: rest) = Instr.fill place (splice cells.toList off v.cells.toList).toArray rest := by
 rw [Instr.fill, hp]
 simp only [h1]
 rw [if_neg (by simp; omega)]
 congr 1
 have e := splice_foldl v.cells.toList 0 off cells (by simp [h1]; omega)
 rw [Nat.add_zero] at e
 rw [← e, ← Array.foldl_toList, Array.toList_zipIdx]
def zeroCm : Array Value := (Cm.cells ⟨0, 0, List.replicate 32 0, 0, 0, 0⟩).toArray
def places : List (Nat × Nat) := [(0, 2), (2, 32), (34, 1), (35, 2)]
theorem Blk.there {w : World} {g : Nat} {t : TypeId} {cs : Array Value} (h : Blk w g t cs) (o n : Nat) (hl : o + n ≤ cs.size) : w.there g o n := fun j hj => by
 refine ⟨?_, h.frozen _⟩
 rw [h.cell, Array.getElem?_eq_getElem (by omega)]
 rfl
def made0 (c s : Int) (h b : List UInt8) : Cm := ⟨c, s, sumL (ofL c s h b), b.length, 0, 0⟩
def made (c s : Int) (h b : List UInt8) (l : List Ent) : Cm :=
 ⟨c, s, sumL (ofL c s h b), b.length, 1000 + c, mrk (sgn l (1000 + c, (made0 c s h b).text)) (1000 + c, (made0 c s h b).text)⟩
end Go.Proofs.YtpcnedpheplofaaGreat

namespace Go.Proofs.YtpcnedpheplofaaGreat
open Go.RowKit
set_option maxRecDepth 100000
def ElTy (P : Program) (e : TypeId) (k bytes : Nat) : Prop := ∃ i z, P.info? e = some i ∧ i.zero = some z ∧ z.cells.size = k ∧ i.size = k ∧ i.bytes = bytes
theorem ElTy.of {P : Program} {e : TypeId} {k bytes : Nat} (h : (P.info? e).map (fun i => (i.zero.map (·.cells.size), i.size, i.bytes)) = some (some k, k, bytes)) : ElTy P e k bytes := by
 cases hi : P.info? e with
 | none => rw [hi] at h; cases h
 | some i =>
   rw [hi] at h
   simp only [Option.map_some, Option.some.injEq, Prod.mk.injEq] at h
   cases hz : i.zero with
   | none => rw [hz] at h; simp at h
   | some z =>
     rw [hz] at h
     exact ⟨i, z, hi, hz, by simpa using h.1, h.2.1, h.2.2⟩
theorem wp_build_one {P : Program} {o : Oper} {a : Act} {w : World} {K : Act → World → Prop} {Q : Exit → Act → World → Prop} (t e : TypeId) (y : Operand) (ho : o.op = .buildSlice t 1 #[(0, y)]) (hu : P.underlying t = some (.slice e))
  (cs : List Value) (bytes : Nat) (he : ElTy P e cs.length bytes) (hy : a.eval y = .agg cs.toArray) (h0 : 0 < cs.length) (h1 : cs.length ≤ 1000)
  (h : K (a.put o.dst (.slice (some ⟨w.heap.size, 0, none⟩) 1 1)) (w.alloc (.cells cs.toArray e))) : o.wp P a w K Q := by
 obtain ⟨i, z, hi, hz, hzs, hs, _⟩ := he
 refine wp_buildSlice t e 1 _ ho cs.toArray i z hu hi hz (by rw [hs]; omega) (by rw [hs]; omega) ?_ h
 have hl : ((Array.range (1 * i.size)).map (z.cells[· % z.cells.size]!)).size = cs.length := by simp [hs]
 generalize (Array.range (1 * i.size)).map (z.cells[· % z.cells.size]!) = Z at *
 have e1 : (#[(0, y)].map fun (i, x) => (i, a.eval x)).toList = [(0, .agg cs.toArray)] := by simp [hy]
 rw [e1, fill_step _ _ 0 0 cs.length _ _ (by simp [hs]) (by simp [Value.cells]) (by omega), Instr.fill]
 congr 1
 have hd : Z.toList.drop cs.length = [] := List.drop_eq_nil_of_le (by simp [hl])
 simp [splice, Value.cells, hd]
theorem wpList_build_one {P : Program} {ops : Array Oper} {rest : List Oper} {o : Oper} {a : Act} {w : World} {Q : Exit → Act → World → Prop} (hg : o.guard = none) (t e : TypeId) (y : Operand) (ho : o.op = .buildSlice t 1 #[(0, y)]) (hu : P.underlying t = some (.slice e))
  (cs : List Value) (bytes : Nat) (he : ElTy P e cs.length bytes) (hy : a.eval y = .agg cs.toArray) (h0 : 0 < cs.length) (h1 : cs.length ≤ 1000)
  (h : wpList P ops Q rest (a.put o.dst (.slice (some ⟨w.heap.size, 0, none⟩) 1 1)) (w.alloc (.cells cs.toArray e))) : wpList P ops Q (o :: rest) a w :=
 wpList_plain hg fun _ hK => wp_build_one t e y ho hu cs bytes he hy h0 h1 (hK _ _ h)
end Go.Proofs.YtpcnedpheplofaaGreat

namespace Go.Proofs.YtpcnedpheplofaaGreat
open Go.RowKit
set_option maxRecDepth 100000
def fnV (f : FuncId) : Value := .func (.func f) #[] #[]
theorem flat_len {α : Type} {full : α → List UInt8} {N : Nat} : ∀ {l : List α} {k : Nat}, (∀ v ∈ l, (full v).length ≤ N) → l.length ≤ k → (l.flatMap full).length ≤ k * N
 | [], _, _, _ => by simp
 | v :: l, 0, _, h => by simp at h
 | v :: l, k + 1, hf, h => by
   rw [List.flatMap_cons, List.length_append, Nat.succ_mul]
   have h1 := hf v (by simp)
   have h2 := flat_len (l := l) (k := k) (fun u hu => hf u (by simp [hu])) (by simp at h; omega)
   omega
theorem Gr.calls {P : Program} {f : FuncId} {args : Array Value} {w w1 : World} {S : List Nat} {g : Nat} {l l' : List UInt8} {v : Value} (h : Gr w S g l w1)
  (hc : ∀ S1, Wr w1 S1 g l → Fr S w w1 → (∀ x ∈ S1, x < w.heap.size → x ∈ S) → Calls P f args w1 fun e w' => e = .returned v ∧ Gr w1 S1 g l' w') : Calls P f args w1 fun e w' => e = .returned v ∧ Gr w S g l' w' := by
 obtain ⟨S1, h1, h2, h3⟩ := h
 refine (hc S1 h1 h2 h3).mono ?_
 rintro e w' ⟨rfl, S2, k1, k2, k3⟩
 exact ⟨rfl, S2, k1, h2.trans k2 h3, fun x hx hl => h3 x (k3 x hx (Nat.lt_of_lt_of_le hl h2.size)) hl⟩
theorem Lst.keep' {α : Type} {k : Nat} {cells : α → List Value} {ok ok' : World → α → Prop} {w w' : World} {A : Option Addr} {n : Nat} {l : List α} {S : List Nat} (h : Lst k cells ok w A n l) (hf : Fr S w w') (hA : 0 < n → ∀ a, A = some a → ¬ a.block ∈ S) (hok : ∀ v ∈ l, ok w v → ok' w' v) : Lst k cells ok' w' A n l :=
 ⟨h.1, fun v hv => ⟨(h.2.1 v hv).1, hok v hv (h.2.1 v hv).2⟩, fun hn => by
  obtain ⟨ad, e, hc⟩ := h.2.2 hn
  exact ⟨ad, e, fun i v hv j x hx => hf.cell (hc i v hv j x hx) (by rw [add_block]; exact hA hn ad e)⟩⟩
theorem Lst.lt {α : Type} {k : Nat} {cells : α → List Value} {ok : World → α → Prop} {w : World} {A : Option Addr} {n : Nat} {l : List α} (h : Lst k cells ok w A n l) (hn : 0 < n) (hk : 0 < k) (hlen : ∀ v ∈ l, (cells v).length = k) (a : Addr) (ha : A = some a) : a.block < w.heap.size := by
 obtain ⟨ad, e, hc⟩ := h.2.2 hn
 have h1 : 0 < l.length := by rw [h.1]; exact hn
 have hv := List.getElem?_eq_getElem h1
 have h2 : 0 < (cells l[0]).length := by rw [hlen _ (List.mem_of_getElem? hv)]; exact hk
 have := hc 0 _ hv 0 _ (List.getElem?_eq_getElem h2)
 have h3 := World.block_lt_of_cell? _ _ this
 rw [add_block] at h3
 rw [ha] at e
 injection e with e
 rw [e]
 exact h3
def listL {α : Type} (full : α → List UInt8) (l : List α) : List UInt8 := encI (l.length : Int) ++ l.flatMap full
set_option maxHeartbeats 2000000 in
theorem putStamps_any {α : Type} (cells : α → List Value) (ok : World → List Nat → α → Prop) (full : α → List UInt8) (N : Nat) (hone : ∀ v, ∀ u ∈ cells v, u.oneCell' = true) (hsz : (Tryz.prog.info? 32).map (·.size) = some 38)
  (hfull : ∀ W S v, ok W S v → (full v).length ≤ N)
  (hput : ∀ (v : α) (W : World) (S : List Nat) (g : Nat) (l : List UInt8), ok W S v → Wr W S g l → l.length + N ≤ 1073741000 → Calls Tryz.prog 79 #[.pointer (some ⟨g, 0, none⟩), .agg (cells v).toArray] W fun e w' => e = .returned (.pointer (some ⟨g, 0, none⟩)) ∧ Gr W S g (l ++ full v) w')
  (w : World) (S : List Nat) (g : Nat) (l : List UInt8) (hw : Wr w S g l) (A : Option Addr) (n c : Nat) (xs : List α) (hx : Lst 38 cells (fun w v => ok w S v) w A n xs) (hn : n ≤ 1000) (hA : 0 < n → ∀ a, A = some a → ¬ a.block ∈ S)
  (hkeep : ∀ W S', Fr S w W → (∀ x ∈ S', x < w.heap.size → x ∈ S) → ∀ v ∈ xs, ok w S v → ok W S' v) (hl : l.length + 20 + (n + 1) * N ≤ 1073741000) :
  Calls Tryz.prog 122 #[.pointer (some ⟨g, 0, none⟩), fnV 79, .slice A n c] w fun e w' => e = .returned (.pointer (some ⟨g, 0, none⟩)) ∧ Gr w S g (l ++ listL full xs) w' := by
 have HG0 := Lib.hid (Gr.refl hw)
 have HX := Lib.hid hx
 have HA := Lib.hid hA
 have HL := Lib.hid hl
 have HKP := Lib.hid hkeep
 have HSL := Lib.hid hw.lt
 have hxn := hx.1
 clear hw hx hA hl hkeep
 unfold fnV
 go_enter Tryz.func122, Tryz.ntmps122
 go_wp2_with fail
 refine (HG0.out.call fun S1 k1 => int_any (n : Int) (by omega) (by omega) _ S1 g _ k1 (by have := HL.out; omega)).mono ?_
 rintro e w1 ⟨rfl, hg1⟩
 have HG1 := Lib.hid hg1
 clear hg1 HG0
 go_wp2_with fail
 go_loopw [15] (fun i wr => ∃ k : Nat, k ≤ n ∧ i = .int .i64 k ∧ Gr w S g (l ++ encI (n : Int) ++ (xs.take k).flatMap full) wr) (fun i _ => n - (intOf i).toNat)
 case atStart => exact ⟨0, by omega, rfl, by simpa using HG1.out⟩
 case round =>
  obtain ⟨k, hk, rfl, hg⟩ := hrel
  have HG := Lib.hid hg
  clear hg
  by_cases hlt : k < n
  · obtain ⟨ad, v, rfl, hv, hcl, hok, hc⟩ := HX.out.at hlt
    have HV := Lib.hid hv
    have HCL := Lib.hid hcl
    have HOK := Lib.hid hok
    have HMEM := Lib.hid (List.mem_of_getElem? hv)
    have HC := Lib.hid (fun j x hj => HG.out.fr.cell (hc j x hj) (by rw [add_block, add_block]; exact HA.out (by omega) ad rfl))
    have HONE := Lib.hid (hone v)
    have HPUT := Lib.hid (hput v)
    have hk0 : (0 : Int) ≤ k := by omega
    have hlen : ((xs.take k).flatMap full).length ≤ k * N := flat_len (fun v hv => hfull w S v (HX.out.2.1 v (List.mem_of_mem_take hv)).2) (by rw [List.length_take]; omega)
    have hkn2 : k * N + N ≤ (n + 1) * N := by rw [← Nat.succ_mul]; exact Nat.mul_le_mul_right N (by omega)
    have HLEN : Hid ((l ++ encI (n : Int) ++ (xs.take k).flatMap full).length + N ≤ 1073741000) := Lib.hid (by have := HL.out; have := encI_len (n : Int) (by omega); simp only [List.length_append]; omega)
    have HTK : Hid ((xs.take (k + 1)).flatMap full = (xs.take k).flatMap full ++ full v) := Lib.hid (by rw [List.take_add_one, hv]; simp)
    have HFV := Lib.hid (rfl : cells v = cells v)
    clear hv hcl hok hc hlen hkn2
    generalize hcv : cells v = C at *
    go_wp2_with (first
     | (refine wpList_cells rfl 32 _ rfl _ rfl C HC.out (row_stamp.of HCL.out) ?_)
     | (refine wpList_store_box rfl 32 _ _ rfl _ 32 C rfl rfl (by rw [hsz, HCL.out]) (by rw [HCL.out]; rfl) HONE.out ?_
        intro wb hbb hfb
        have HBB := Lib.hid hbb
        have HFB := Lib.hid hfb
        clear hbb hfb)
     | (refine wpList_row rfl 32 _ rfl _ _ rfl _ HBB.out.range (row_stamp.of HCL.out) ?_))
    have HGB := Lib.hid (HG.out.trans (fun S1 k => ⟨S1, k.keep HFB.out (by simp), HFB.out.mono (by simp), fun x hx _ => hx⟩))
    refine (HGB.out.calls fun S1 k1 f1 s1 => HPUT.out _ S1 g _ (HKP.out wb S1 f1 s1 v HMEM.out HOK.out) k1 HLEN.out).mono ?_
    rintro e w2 ⟨rfl, hg2⟩
    have HG2 := Lib.hid hg2
    clear hg2
    go_wp2
    exact ⟨⟨k + 1, by omega, rfl, HG2.out.eq (by rw [HTK.out, List.append_assoc])⟩, by simp only [intOf, Int.toNat_natCast, Int.toNat_natCast_add_one]; omega⟩
  · have hkn : k = n := by omega
    subst hkn
    have HFIN : Hid (Gr w S g (l ++ listL full xs) wr) := Lib.hid (HG.out.eq (by rw [List.take_of_length_le (by omega), listL, hxn, List.append_assoc]))
    clear HG
    go_wp2
    go_ret
    exact ⟨rfl, HFIN.out⟩
end Go.Proofs.YtpcnedpheplofaaGreat

namespace Go.Proofs.YtpcnedpheplofaaGreat
open Go.RowKit
set_option maxRecDepth 100000
structure Wcm where
 c : Int
 s : Int
 h : List UInt8
 n : Int
 b : Int
 m : Int
def Wcm.cells (x : Wcm) : List Value := [.int .i64 x.c, .int .i64 x.s] ++ (x.h.map by8 ++ [.int .i64 x.n, .int .i64 x.b, .int .i64 x.m])
def Wcm.val (x : Wcm) : Value := .agg x.cells.toArray
structure Wcm.Ok (x : Wcm) : Prop where
 c : i64In x.c
 s : i64In x.s
 h : x.h.length = 32
 n : i64In x.n
 b : i64In x.b
 m : i64In x.m
theorem Wcm.len {x : Wcm} (h : x.h.length = 32) : x.cells.length = 37 := by simp [Wcm.cells, h]
theorem Wcm.one (x : Wcm) : ∀ v ∈ x.cells, v.oneCell' = true := by
 intro v hv
 simp only [Wcm.cells, List.mem_cons, List.mem_append, List.not_mem_nil, or_false] at hv
 rcases hv with (rfl | rfl) | hv | rfl | rfl | rfl
 · rfl
 · rfl
 · exact by8_one x.h v hv
 · rfl
 · rfl
 · rfl
structure Wcm.At (w : World) (g o : Nat) (x : Wcm) : Prop where
 all : w.rangeAt g o x.cells
 hash : w.rangeAt g (o + 2) (x.h.map by8)
 name : w.rangeAt g (o + 0) [.int .i64 x.c, .int .i64 x.s]
 sig : w.rangeAt g (o + 35) [.int .i64 x.b, .int .i64 x.m]
 c : w.cell? ⟨g, o + 0, none⟩ = some (.int .i64 x.c)
 s : w.cell? ⟨g, o + 1, none⟩ = some (.int .i64 x.s)
 n : w.cell? ⟨g, o + 34, none⟩ = some (.int .i64 x.n)
 b : w.cell? ⟨g, o + 35, none⟩ = some (.int .i64 x.b)
 m : w.cell? ⟨g, o + 36, none⟩ = some (.int .i64 x.m)
theorem Wcm.at_of {w : World} {g o : Nat} {x : Wcm} (hr : w.rangeAt g o x.cells) (hh : x.h.length = 32) : x.At w g o := by
 have hl : (x.h.map by8).length = 32 := by rw [List.length_map]; exact hh
 have c_c : w.cell? ⟨g, o + 0, none⟩ = some (.int .i64 x.c) := hr 0 _ rfl
 have c_s : w.cell? ⟨g, o + 1, none⟩ = some (.int .i64 x.s) := hr 1 _ rfl
 have c_n : w.cell? ⟨g, o + 34, none⟩ = some (.int .i64 x.n) := hr 34 _ (post_cell [.int .i64 x.c, .int .i64 x.s] (x.h.map by8) [.int .i64 x.n, .int .i64 x.b, .int .i64 x.m] hl 0 rfl)
 have c_b : w.cell? ⟨g, o + 35, none⟩ = some (.int .i64 x.b) := hr 35 _ (post_cell [.int .i64 x.c, .int .i64 x.s] (x.h.map by8) [.int .i64 x.n, .int .i64 x.b, .int .i64 x.m] hl 1 rfl)
 have c_m : w.cell? ⟨g, o + 36, none⟩ = some (.int .i64 x.m) := hr 36 _ (post_cell [.int .i64 x.c, .int .i64 x.s] (x.h.map by8) [.int .i64 x.n, .int .i64 x.b, .int .i64 x.m] hl 2 rfl)
 have r_name : w.rangeAt g (o + 0) [.int .i64 x.c, .int .i64 x.s] := by
  intro j v hv
  rcases j with _ | j
  · simp at hv; subst hv; exact c_c
  rcases j with _ | j
  · simp at hv; subst hv; exact c_s
  · simp at hv
 have r_sig : w.rangeAt g (o + 35) [.int .i64 x.b, .int .i64 x.m] := by
  intro j v hv
  rcases j with _ | j
  · simp at hv; subst hv; exact c_b
  rcases j with _ | j
  · simp at hv; subst hv; exact c_m
  · simp at hv
 have r_hash : w.rangeAt g (o + 2) (x.h.map by8) := rangeAt_sub (xs := [.int .i64 x.c, .int .i64 x.s]) (ys := x.h.map by8) (zs := [.int .i64 x.n, .int .i64 x.b, .int .i64 x.m]) hr
 exact ⟨hr, r_hash, r_name, r_sig, c_c, c_s, c_n, c_b, c_m⟩
theorem Wcm.At.keep {w w' : World} {g o : Nat} {x : Wcm} {S : List Nat} (h : x.At w g o) (hf : Fr S w w') (hn : ¬ g ∈ S) : x.At w' g o :=
 ⟨hf.range h.all hn, hf.range h.hash hn, hf.range h.name hn, hf.range h.sig hn, hf.cell h.c hn, hf.cell h.s hn, hf.cell h.n hn, hf.cell h.b hn, hf.cell h.m hn⟩
theorem row_cmt : RowTy Tryz.prog 29 37 := ⟨by kernel_rfl, by kernel_rfl⟩
theorem row_crt : RowTy Tryz.prog 35 38 := ⟨by kernel_rfl, by kernel_rfl⟩
theorem row_prm : RowTy Tryz.prog 40 6 := ⟨by kernel_rfl, by kernel_rfl⟩
def Wcm.full (x : Wcm) : List UInt8 := nmL x.c x.s ++ x.h ++ encI x.n ++ sgL x.b x.m
theorem Wcm.full_len {x : Wcm} (hx : x.Ok) : x.full.length ≤ 82 := by
 have b0 := encI_len x.c hx.c.2
 have b1 := encI_len x.s hx.s.2
 have b2 := hx.h
 have b3 := encI_len x.n hx.n.2
 have b4 := encI_len x.b hx.b.2
 have b5 := encI_len x.m hx.m.2
 simp only [Wcm.full, nmL, sgL, List.length_append]
 omega
set_option maxHeartbeats 1000000 in
theorem putCommit_any (x : Wcm) (hx : x.Ok) (w : World) (S : List Nat) (g : Nat) (l : List UInt8) (hw : Wr w S g l) (hl : l.length + 200 ≤ 1073741000) :
  Calls Tryz.prog 78 #[.pointer (some ⟨g, 0, none⟩), x.val] w fun e w' => e = .returned (.pointer (some ⟨g, 0, none⟩)) ∧ Gr w S g (l ++ x.full) w' := by
 obtain ⟨wa, hwa⟩ : ∃ wa, wa = w.alloc (Obj.cells x.cells.toArray 29) := ⟨_, rfl⟩
 have hf0 : Fr [] w wa := by rw [hwa]; exact (Fr.refl [] w).alloc _
 have hb0 : Blk wa w.heap.size 29 x.cells.toArray := by rw [hwa]; exact Blk.new _ _ _
 have HNS : Hid (¬ w.heap.size ∈ S) := Lib.hid (fun h => by have := hw.lt _ h; omega)
 have HG0 := Lib.hid (Gr.begin hw hf0)
 have HAT := Lib.hid (Wcm.at_of (o := 0) hb0.range hx.h)
 have HF0 := Lib.hid hf0
 have HWA := Lib.hid hwa
 have HL := Lib.hid hl
 have HX := Lib.hid hx
 clear hwa hf0 hb0 hl hw hx
 unfold Wcm.val
 generalize hC : x.cells = C at *
 have HRC := Lib.hid hC
 clear hC
 go_enter Tryz.func78, Tryz.ntmps78
 go_wp2
 rw [← HWA.out]
 refine wp_region_held_drew (S := Fr S wa) (by kernel_rfl) (Fr.drew (Fr.refl _ wa)) (fun hHeld => ?_)
 refine run_at (i := 0) (v := ?_) rfl (by kernel_rfl) (by rfl) (fun _ _ _ h => h) hHeld (fun w1 hw1 => ?_) ?_
 rotate_left 1
 · skip
   go_simp
   try first | with_reducible rfl | apply And.intro <;> rfl
 simp only [xPa, xPb, xPc, xPd, xPe]
 refine run_at (i := 1) (v := ?_) rfl (by kernel_rfl) (by rfl) (fun _ _ _ h => h) hHeld (fun w1 hw1 => ?_) ?_
 rotate_left 1
 · skip
   go_simp
   try first | with_reducible rfl | apply And.intro <;> rfl
 simp only [xPa, xPb, xPc, xPd, xPe]
 refine row_at (i := 2) rfl (by kernel_rfl) (by rfl) _ _ rfl _ _ rfl _ (fun w1 hw1 => hw1.range (HAT.out.name) (by first | (simp; done) | exact HNS.out)) (row_name) (fun _ _ _ h => h) hHeld ?_
 simp only [xPa, xPb, xPc, xPd, xPe]
 refine run_at (i := 4) (v := ?_) rfl (by kernel_rfl) (by rfl) (fun _ _ _ h => h) hHeld (fun w1 hw1 => ?_) ?_
 rotate_left 1
 · skip
   go_simp
   try first | with_reducible rfl | apply And.intro <;> rfl
 simp only [xPa, xPb, xPc, xPd, xPe]
 refine row_at (i := 5) rfl (by kernel_rfl) (by rfl) _ _ rfl _ _ rfl _ (fun w1 hw1 => hw1.range (HAT.out.hash) (by first | (simp; done) | exact HNS.out)) (row_hash.of (by rw [List.length_map]; exact HX.out.h)) (fun _ _ _ h => h) hHeld ?_
 simp only [xPa, xPb, xPc, xPd, xPe]
 refine run_at (i := 7) (v := ?_) rfl (by kernel_rfl) (by rfl) (fun _ _ _ h => h) hHeld (fun w1 hw1 => ?_) ?_
 rotate_left 1
 · skip
   go_simp
   try first | with_reducible rfl | apply And.intro <;> rfl
 simp only [xPa, xPb, xPc, xPd, xPe]
 refine run_at (i := 8) (v := ?_) rfl (by kernel_rfl) (by rfl) (fun _ _ _ h => h) hHeld (fun w1 hw1 => ?_) ?_
 rotate_left 1
 · skip
   have hcw0 := hw1.cell (HAT.out.n) (by first | (simp; done) | exact HNS.out)
   go_simp
   try first | with_reducible rfl | apply And.intro <;> rfl
 simp only [xPa, xPb, xPc, xPd, xPe]
 refine run_at (i := 10) (v := ?_) rfl (by kernel_rfl) (by rfl) (fun _ _ _ h => h) hHeld (fun w1 hw1 => ?_) ?_
 rotate_left 1
 · skip
   go_simp
   try first | with_reducible rfl | apply And.intro <;> rfl
 simp only [xPa, xPb, xPc, xPd, xPe]
 refine row_at (i := 11) rfl (by kernel_rfl) (by rfl) _ _ rfl _ _ rfl _ (fun w1 hw1 => hw1.range (HAT.out.sig) (by first | (simp; done) | exact HNS.out)) (row_sg) (fun _ _ _ h => h) hHeld ?_
 simp only [xPa, xPb, xPc, xPd, xPe]
 refine call_at (i := 3) (f := ?_) (args := ?_) rfl (by kernel_rfl) (by rfl) ?_ ?_
 rotate_left 2
 · go_simp
   try first | with_reducible rfl | apply And.intro <;> rfl
 refine (HG0.out.call fun S1 k1 => putName_any x.c x.s HX.out.c HX.out.s _ S1 g _ k1 (by have h0 := HL.out; (try simp only [List.length_append, sgL, nmL] at *); omega)).mono ?_
 rintro e w1 ⟨rfl, hg1⟩
 have HG1 := Lib.hid hg1
 refine ⟨_, rfl, hg1.fr, fun hHeld => ?_⟩
 clear hg1 HG0
 simp only [xPa, xPb, xPc, xPd, xPe]
 refine call_at (i := 6) (f := ?_) (args := ?_) rfl (by kernel_rfl) (by rfl) ?_ ?_
 rotate_left 2
 · go_simp
   try first | with_reducible rfl | apply And.intro <;> rfl
 refine (HG1.out.call fun S1 k1 => hash_any x.h HX.out.h _ S1 g _ k1 (by have h0 := HL.out; have b0 := encI_len x.c HX.out.c.2; have b1 := encI_len x.s HX.out.s.2; (try simp only [List.length_append, sgL, nmL] at *); omega)).mono ?_
 rintro e w2 ⟨rfl, hg2⟩
 have HG2 := Lib.hid hg2
 refine ⟨_, rfl, hg2.fr, fun hHeld => ?_⟩
 clear hg2 HG1
 simp only [xPa, xPb, xPc, xPd, xPe]
 refine call_at (i := 9) (f := ?_) (args := ?_) rfl (by kernel_rfl) (by rfl) ?_ ?_
 rotate_left 2
 · go_simp
   try first | with_reducible rfl | apply And.intro <;> rfl
 refine (HG2.out.call fun S1 k1 => int_any x.n HX.out.n.1 HX.out.n.2 _ S1 g _ k1 (by have h0 := HL.out; have b0 := encI_len x.c HX.out.c.2; have b1 := encI_len x.s HX.out.s.2; have b2 := HX.out.h; (try simp only [List.length_append, sgL, nmL] at *); omega)).mono ?_
 rintro e w3 ⟨rfl, hg3⟩
 have HG3 := Lib.hid hg3
 refine ⟨_, rfl, hg3.fr, fun hHeld => ?_⟩
 clear hg3 HG2
 simp only [xPa, xPb, xPc, xPd, xPe]
 refine call_at (i := 12) (f := ?_) (args := ?_) rfl (by kernel_rfl) (by rfl) ?_ ?_
 rotate_left 2
 · go_simp
   try first | with_reducible rfl | apply And.intro <;> rfl
 refine (HG3.out.call fun S1 k1 => putSig_any x.b x.m HX.out.b HX.out.m _ S1 g _ k1 (by have h0 := HL.out; have b0 := encI_len x.c HX.out.c.2; have b1 := encI_len x.s HX.out.s.2; have b2 := HX.out.h; have b3 := encI_len x.n HX.out.n.2; (try simp only [List.length_append, sgL, nmL] at *); omega)).mono ?_
 rintro e w4 ⟨rfl, hg4⟩
 have HG4 := Lib.hid hg4
 refine ⟨_, rfl, hg4.fr, fun hHeld => ?_⟩
 clear hg4 HG3
 simp only [xPa, xPb, xPc, xPd, xPe]
 refine run_at (i := 13) (v := ?_) rfl (by kernel_rfl) (by rfl) (fun _ _ _ h => h) hHeld (fun w1 hw1 => ?_) ?_
 rotate_left 1
 · skip
   go_simp
   try first | with_reducible rfl | apply And.intro <;> rfl
 simp only [xPa, xPb, xPc, xPd, xPe]
 refine wpAnyH_done (by kernel_rfl) ?_ _
 go_wp2
 go_ret
 exact ⟨rfl, (HG4.out.from_ HF0.out).eq (by simp [Wcm.full, List.append_assoc])⟩
theorem putCommit_any' (x : Wcm) (hx : x.Ok) (C : List Value) (hC : x.cells = C) (w : World) (S : List Nat) (g : Nat) (l : List UInt8) (hw : Wr w S g l) (hl : l.length + 200 ≤ 1073741000) :
  Calls Tryz.prog 78 #[.pointer (some ⟨g, 0, none⟩), .agg C.toArray] w fun e w' => e = .returned (.pointer (some ⟨g, 0, none⟩)) ∧ Gr w S g (l ++ x.full) w' := by
 subst hC
 exact putCommit_any x hx w S g l hw hl
structure Wce where
 k : Wcm
 A : Option Addr
 n : Nat
 d : Nat
 l : List Wst
def Wce.cells (x : Wce) : List Value := x.k.cells ++ [.slice x.A x.n x.d]
def Wce.val (x : Wce) : Value := .agg x.cells.toArray
structure Wce.Ok (w : World) (S : List Nat) (x : Wce) : Prop where
 k : x.k.Ok
 l : Lst 38 Wst.cells (fun _ v => v.Ok) w x.A x.n x.l
 n : x.n ≤ 5
 ap : 0 < x.n → ∀ a, x.A = some a → ¬ a.block ∈ S
theorem Wce.len {x : Wce} (h : x.k.h.length = 32) : x.cells.length = 38 := by simp [Wce.cells, Wcm.len h]
theorem Wce.one (x : Wce) : ∀ v ∈ x.cells, v.oneCell' = true := by
 intro v hv
 simp only [Wce.cells, List.mem_append, List.mem_singleton] at hv
 rcases hv with hv | rfl
 · exact Wcm.one x.k v hv
 · rfl
theorem Wce.Ok.keep {w W : World} {S S' : List Nat} {x : Wce} (h : x.Ok w S) (hf : Fr S w W) (hs : ∀ k ∈ S', k < w.heap.size → k ∈ S) : x.Ok W S' :=
 ⟨h.k, h.l.keep' hf h.ap (fun _ _ h => h), h.n, fun hn a ha hin => h.ap hn a ha (hs _ hin (h.l.lt hn (by decide) (fun v hv => Wst.len (h.l.2.1 v hv).2.h) a ha))⟩
def Wce.full (x : Wce) : List UInt8 := x.k.full ++ listL Wst.full x.l
theorem Wst.full_len {x : Wst} (hx : x.Ok) : x.full.length ≤ 100 := by
 have b0 := Wst.bare_len hx
 have b1 := encI_len x.b hx.b.2
 have b2 := encI_len x.m hx.m.2
 simp only [Wst.full, sgL, List.length_append]
 omega
theorem Wce.full_len {w : World} {S : List Nat} {x : Wce} (hx : x.Ok w S) : x.full.length ≤ 700 := by
 have b0 := Wcm.full_len hx.k
 have b1 := encI_len (x.l.length : Int) (by have := hx.n; have := hx.l.1; omega)
 have b2 : (x.l.flatMap Wst.full).length ≤ 5 * 100 := flat_len (fun v hv => Wst.full_len (hx.l.2.1 v hv).2) (by have := hx.n; have := hx.l.1; omega)
 simp only [Wce.full, listL, List.length_append]
 omega
set_option maxHeartbeats 1000000 in
theorem putCert_any (x : Wce) (w : World) (S : List Nat) (g : Nat) (l : List UInt8) (hw : Wr w S g l) (hl : l.length + 1400 ≤ 1073741000) (hx : x.Ok w S) :
  Calls Tryz.prog 80 #[.pointer (some ⟨g, 0, none⟩), x.val] w fun e w' => e = .returned (.pointer (some ⟨g, 0, none⟩)) ∧ Gr w S g (l ++ x.full) w' := by
 obtain ⟨wa, hwa⟩ : ∃ wa, wa = w.alloc (Obj.cells x.cells.toArray 35) := ⟨_, rfl⟩
 have hf0 : Fr [] w wa := by rw [hwa]; exact (Fr.refl [] w).alloc _
 have hb0 : Blk wa w.heap.size 35 x.cells.toArray := by rw [hwa]; exact Blk.new _ _ _
 have HNS : Hid (¬ w.heap.size ∈ S) := Lib.hid (fun h => by have := hw.lt _ h; omega)
 have HG0 := Lib.hid (Gr.begin hw hf0)
 have HCM : Hid (wa.rangeAt w.heap.size 0 x.k.cells) := Lib.hid (fun j v hv => hb0.range j v (by rw [Wce.cells]; exact (List.getElem?_append_left (List.getElem?_eq_some_iff.1 hv).1).trans hv))
 have HSL : Hid (wa.cell? ⟨w.heap.size, 0 + 37, none⟩ = some (.slice x.A x.n x.d)) := Lib.hid (hb0.range 37 _ (by rw [Wce.cells, List.getElem?_append_right (by rw [Wcm.len hx.k.h]; omega), Wcm.len hx.k.h]; rfl))
 have HKL : Hid (x.k.cells.length = 37) := Lib.hid (Wcm.len hx.k.h)
 have HF0 := Lib.hid hf0
 have HWA := Lib.hid hwa
 have HL := Lib.hid hl
 have HX := Lib.hid hx
 clear hwa hf0 hb0 hl hw hx
 unfold Wce.val
 generalize hC : x.cells = C at *
 have HRC := Lib.hid hC
 clear hC
 generalize hK : x.k.cells = K at *
 have HRK := Lib.hid hK
 clear hK
 go_enter Tryz.func80, Tryz.ntmps80
 go_wp2
 rw [← HWA.out]
 refine wp_region_held_drew (S := Fr S wa) (by kernel_rfl) (Fr.drew (Fr.refl _ wa)) (fun hHeld => ?_)
 refine run_at (i := 0) (v := ?_) rfl (by kernel_rfl) (by rfl) (fun _ _ _ h => h) hHeld (fun w1 hw1 => ?_) ?_
 rotate_left 1
 · skip
   go_simp
   try first | with_reducible rfl | apply And.intro <;> rfl
 simp only [xPa, xPb, xPc, xPd, xPe]
 refine run_at (i := 1) (v := ?_) rfl (by kernel_rfl) (by rfl) (fun _ _ _ h => h) hHeld (fun w1 hw1 => ?_) ?_
 rotate_left 1
 · skip
   go_simp
   try first | with_reducible rfl | apply And.intro <;> rfl
 simp only [xPa, xPb, xPc, xPd, xPe]
 refine row_at (i := 2) rfl (by kernel_rfl) (by rfl) _ _ rfl _ _ rfl _ (fun w1 hw1 => hw1.range (HCM.out) (by first | (simp; done) | exact HNS.out)) (row_cmt.of HKL.out) (fun _ _ _ h => h) hHeld ?_
 simp only [xPa, xPb, xPc, xPd, xPe]
 refine run_at (i := 4) (v := ?_) rfl (by kernel_rfl) (by rfl) (fun _ _ _ h => h) hHeld (fun w1 hw1 => ?_) ?_
 rotate_left 1
 · skip
   go_simp
   try first | with_reducible rfl | apply And.intro <;> rfl
 simp only [xPa, xPb, xPc, xPd, xPe]
 refine run_at (i := 5) (v := ?_) rfl (by kernel_rfl) (by rfl) (fun _ _ _ h => h) hHeld (fun w1 hw1 => ?_) ?_
 rotate_left 1
 · skip
   have hcw0 := hw1.cell (HSL.out) (by first | (simp; done) | exact HNS.out)
   go_simp
   try first | with_reducible rfl | apply And.intro <;> rfl
 simp only [xPa, xPb, xPc, xPd, xPe]
 refine call_at (i := 3) (f := ?_) (args := ?_) rfl (by kernel_rfl) (by rfl) ?_ ?_
 rotate_left 2
 · go_simp
   try first | with_reducible rfl | apply And.intro <;> rfl
 refine (HG0.out.call fun S1 k1 => putCommit_any' x.k HX.out.k K HRK.out _ S1 g _ k1 (by have h0 := HL.out; (try simp only [List.length_append, sgL, nmL] at *); omega)).mono ?_
 rintro e w1 ⟨rfl, hg1⟩
 have HG1 := Lib.hid hg1
 refine ⟨_, rfl, hg1.fr, fun hHeld => ?_⟩
 clear hg1 HG0
 simp only [xPa, xPb, xPc, xPd, xPe]
 refine call_at (i := 6) (f := ?_) (args := ?_) rfl (by kernel_rfl) (by rfl) ?_ ?_
 rotate_left 2
 · go_simp
   try first | with_reducible rfl | apply And.intro <;> rfl
 refine (HG1.out.calls fun S1 k1 f1 s1 => putStamps_any Wst.cells (fun _ _ v => v.Ok) Wst.full 200 Wst.one rfl (fun _ _ v h => Nat.le_trans (Wst.full_len h) (by decide)) (fun v W S g l h hw hl => putStamp_any v h W S g l hw hl) _ S1 g _ k1 x.A x.n x.d x.l (HX.out.l.keep' ((HF0.out.mono (T := S) (by simp)).trans f1 (fun k hk _ => hk)) HX.out.ap (fun _ _ h => h)) (by have := HX.out.n; omega) (fun hn a ha hin => HX.out.ap hn a ha (s1 _ hin (Nat.lt_of_lt_of_le (HX.out.l.lt hn (by decide) (fun v hv => Wst.len (HX.out.l.2.1 v hv).2.h) a ha) HF0.out.size))) (fun _ _ _ _ _ _ h => h) (by have h0 := HL.out; have b0 := Wcm.full_len HX.out.k; have := HX.out.n; simp only [List.length_append]; omega)).mono ?_
 rintro e w2 ⟨rfl, hg2⟩
 have HG2 := Lib.hid hg2
 refine ⟨_, rfl, hg2.fr, fun hHeld => ?_⟩
 clear hg2 HG1
 simp only [xPa, xPb, xPc, xPd, xPe]
 refine run_at (i := 7) (v := ?_) rfl (by kernel_rfl) (by rfl) (fun _ _ _ h => h) hHeld (fun w1 hw1 => ?_) ?_
 rotate_left 1
 · skip
   go_simp
   try first | with_reducible rfl | apply And.intro <;> rfl
 simp only [xPa, xPb, xPc, xPd, xPe]
 refine wpAnyH_done (by kernel_rfl) ?_ _
 go_wp2
 go_ret
 exact ⟨rfl, (HG2.out.from_ HF0.out).eq (by simp [Wce.full, List.append_assoc])⟩
theorem putCert_any' (x : Wce) (C : List Value) (hC : x.cells = C) (w : World) (S : List Nat) (g : Nat) (l : List UInt8) (hw : Wr w S g l) (hl : l.length + 1400 ≤ 1073741000) (hx : x.Ok w S) :
  Calls Tryz.prog 80 #[.pointer (some ⟨g, 0, none⟩), .agg C.toArray] w fun e w' => e = .returned (.pointer (some ⟨g, 0, none⟩)) ∧ Gr w S g (l ++ x.full) w' := by
 subst hC
 exact putCert_any x w S g l hw hl hx
end Go.Proofs.YtpcnedpheplofaaGreat

namespace Go.Proofs.YtpcnedpheplofaaGreat
open Go.RowKit
set_option maxRecDepth 100000
set_option maxHeartbeats 2000000 in
theorem putCerts_any {α : Type} (cells : α → List Value) (ok : World → List Nat → α → Prop) (full : α → List UInt8) (N : Nat) (hone : ∀ v, ∀ u ∈ cells v, u.oneCell' = true) (hsz : (Tryz.prog.info? 35).map (·.size) = some 38)
  (hfull : ∀ W S v, ok W S v → (full v).length ≤ N)
  (hput : ∀ (v : α) (W : World) (S : List Nat) (g : Nat) (l : List UInt8), ok W S v → Wr W S g l → l.length + N ≤ 1073741000 → Calls Tryz.prog 80 #[.pointer (some ⟨g, 0, none⟩), .agg (cells v).toArray] W fun e w' => e = .returned (.pointer (some ⟨g, 0, none⟩)) ∧ Gr W S g (l ++ full v) w')
  (w : World) (S : List Nat) (g : Nat) (l : List UInt8) (hw : Wr w S g l) (A : Option Addr) (n c : Nat) (xs : List α) (hx : Lst 38 cells (fun w v => ok w S v) w A n xs) (hn : n ≤ 1000) (hA : 0 < n → ∀ a, A = some a → ¬ a.block ∈ S)
  (hkeep : ∀ W S', Fr S w W → (∀ x ∈ S', x < w.heap.size → x ∈ S) → ∀ v ∈ xs, ok w S v → ok W S' v) (hl : l.length + 20 + (n + 1) * N ≤ 1073741000) :
  Calls Tryz.prog 145 #[.pointer (some ⟨g, 0, none⟩), fnV 80, .slice A n c] w fun e w' => e = .returned (.pointer (some ⟨g, 0, none⟩)) ∧ Gr w S g (l ++ listL full xs) w' := by
 have HG0 := Lib.hid (Gr.refl hw)
 have HX := Lib.hid hx
 have HA := Lib.hid hA
 have HL := Lib.hid hl
 have HKP := Lib.hid hkeep
 have HSL := Lib.hid hw.lt
 have hxn := hx.1
 clear hw hx hA hl hkeep
 unfold fnV
 go_enter Tryz.func145, Tryz.ntmps145
 go_wp2_with fail
 refine (HG0.out.call fun S1 k1 => int_any (n : Int) (by omega) (by omega) _ S1 g _ k1 (by have := HL.out; omega)).mono ?_
 rintro e w1 ⟨rfl, hg1⟩
 have HG1 := Lib.hid hg1
 clear hg1 HG0
 go_wp2_with fail
 go_loopw [15] (fun i wr => ∃ k : Nat, k ≤ n ∧ i = .int .i64 k ∧ Gr w S g (l ++ encI (n : Int) ++ (xs.take k).flatMap full) wr) (fun i _ => n - (intOf i).toNat)
 case atStart => exact ⟨0, by omega, rfl, by simpa using HG1.out⟩
 case round =>
  obtain ⟨k, hk, rfl, hg⟩ := hrel
  have HG := Lib.hid hg
  clear hg
  by_cases hlt : k < n
  · obtain ⟨ad, v, rfl, hv, hcl, hok, hc⟩ := HX.out.at hlt
    have HV := Lib.hid hv
    have HCL := Lib.hid hcl
    have HOK := Lib.hid hok
    have HMEM := Lib.hid (List.mem_of_getElem? hv)
    have HC := Lib.hid (fun j x hj => HG.out.fr.cell (hc j x hj) (by rw [add_block, add_block]; exact HA.out (by omega) ad rfl))
    have HONE := Lib.hid (hone v)
    have HPUT := Lib.hid (hput v)
    have hk0 : (0 : Int) ≤ k := by omega
    have hlen : ((xs.take k).flatMap full).length ≤ k * N := flat_len (fun v hv => hfull w S v (HX.out.2.1 v (List.mem_of_mem_take hv)).2) (by rw [List.length_take]; omega)
    have hkn2 : k * N + N ≤ (n + 1) * N := by rw [← Nat.succ_mul]; exact Nat.mul_le_mul_right N (by omega)
    have HLEN : Hid ((l ++ encI (n : Int) ++ (xs.take k).flatMap full).length + N ≤ 1073741000) := Lib.hid (by have := HL.out; have := encI_len (n : Int) (by omega); simp only [List.length_append]; omega)
    have HTK : Hid ((xs.take (k + 1)).flatMap full = (xs.take k).flatMap full ++ full v) := Lib.hid (by rw [List.take_add_one, hv]; simp)
    have HFV := Lib.hid (rfl : cells v = cells v)
    clear hv hcl hok hc hlen hkn2
    generalize hcv : cells v = C at *
    go_wp2_with (first
     | (refine wpList_cells rfl 35 _ rfl _ rfl C HC.out (row_crt.of HCL.out) ?_)
     | (refine wpList_store_box rfl 35 _ _ rfl _ 35 C rfl rfl (by rw [hsz, HCL.out]) (by rw [HCL.out]; rfl) HONE.out ?_
        intro wb hbb hfb
        have HBB := Lib.hid hbb
        have HFB := Lib.hid hfb
        clear hbb hfb)
     | (refine wpList_row rfl 35 _ rfl _ _ rfl _ HBB.out.range (row_crt.of HCL.out) ?_))
    have HGB := Lib.hid (HG.out.trans (fun S1 k => ⟨S1, k.keep HFB.out (by simp), HFB.out.mono (by simp), fun x hx _ => hx⟩))
    refine (HGB.out.calls fun S1 k1 f1 s1 => HPUT.out _ S1 g _ (HKP.out wb S1 f1 s1 v HMEM.out HOK.out) k1 HLEN.out).mono ?_
    rintro e w2 ⟨rfl, hg2⟩
    have HG2 := Lib.hid hg2
    clear hg2
    go_wp2
    exact ⟨⟨k + 1, by omega, rfl, HG2.out.eq (by rw [HTK.out, List.append_assoc])⟩, by simp only [intOf, Int.toNat_natCast, Int.toNat_natCast_add_one]; omega⟩
  · have hkn : k = n := by omega
    subst hkn
    have HFIN : Hid (Gr w S g (l ++ listL full xs) wr) := Lib.hid (HG.out.eq (by rw [List.take_of_length_le (by omega), listL, hxn, List.append_assoc]))
    clear HG
    go_wp2
    go_ret
    exact ⟨rfl, HFIN.out⟩
structure Wpr where
 r : Int
 e : Int
 t : Nat
 A : Option Addr
 n : Nat
 d : Nat
 l : List Wce
 b : Int
 m : Int
def Wpr.cells (x : Wpr) : List Value := [.int .i64 x.r, .int .i64 x.e, .int .u64 (x.t : Int), .slice x.A x.n x.d, .int .i64 x.b, .int .i64 x.m]
def Wpr.val (x : Wpr) : Value := .agg x.cells.toArray
structure Wpr.Ok (w : World) (S : List Nat) (x : Wpr) : Prop where
 r : i64In x.r
 e : i64In x.e
 t : x.t < 18446744073709551616
 l : Lst 38 Wce.cells (fun w v => v.Ok w S) w x.A x.n x.l
 n : x.n ≤ 3
 ap : 0 < x.n → ∀ a, x.A = some a → ¬ a.block ∈ S
 b : i64In x.b
 m : i64In x.m
theorem Wpr.one (x : Wpr) : ∀ v ∈ x.cells, v.oneCell' = true := by
 intro v hv
 simp only [Wpr.cells, List.mem_cons, List.not_mem_nil, or_false] at hv
 rcases hv with rfl | rfl | rfl | rfl | rfl | rfl <;> rfl
theorem Wpr.Ok.keep {w W : World} {S S' : List Nat} {x : Wpr} (h : x.Ok w S) (hf : Fr S w W) (hs : ∀ k ∈ S', k < w.heap.size → k ∈ S) : x.Ok W S' :=
 ⟨h.r, h.e, h.t, h.l.keep' hf h.ap (fun _ _ h => h.keep hf hs), h.n, fun hn a ha hin => h.ap hn a ha (hs _ hin (h.l.lt hn (by decide) (fun v hv => Wce.len (h.l.2.1 v hv).2.k.h) a ha)), h.b, h.m⟩
def Wpr.bare (x : Wpr) : List UInt8 := encI x.r ++ encI x.e ++ enc x.t ++ listL Wce.full x.l
def Wpr.full (x : Wpr) : List UInt8 := x.bare ++ sgL x.b x.m
theorem Wpr.bare_len {w : World} {S : List Nat} {x : Wpr} (hx : x.Ok w S) : x.bare.length ≤ 2200 := by
 have b0 := encI_len x.r hx.r.2
 have b1 := encI_len x.e hx.e.2
 have b2 := enc_ten hx.t
 have b3 := encI_len (x.l.length : Int) (by have := hx.n; have := hx.l.1; omega)
 have b4 : (x.l.flatMap Wce.full).length ≤ 3 * 700 := flat_len (fun v hv => Wce.full_len (hx.l.2.1 v hv).2) (by have := hx.n; have := hx.l.1; omega)
 simp only [Wpr.bare, listL, List.length_append]
 omega
theorem Wpr.full_len {w : World} {S : List Nat} {x : Wpr} (hx : x.Ok w S) : x.full.length ≤ 2300 := by
 have b0 := Wpr.bare_len hx
 have b1 := encI_len x.b hx.b.2
 have b2 := encI_len x.m hx.m.2
 simp only [Wpr.full, sgL, List.length_append]
 omega
set_option maxHeartbeats 1000000 in
theorem promiseFields_any (x : Wpr) (w : World) (S : List Nat) (g : Nat) (l : List UInt8) (hw : Wr w S g l) (hl : l.length + 6000 ≤ 1073741000) (hx : x.Ok w S) :
  Calls Tryz.prog 124 #[.pointer (some ⟨g, 0, none⟩), x.val] w fun e w' => e = .returned (.pointer (some ⟨g, 0, none⟩)) ∧ Gr w S g (l ++ x.bare) w' := by
 obtain ⟨wa, hwa⟩ : ∃ wa, wa = w.alloc (Obj.cells x.cells.toArray 40) := ⟨_, rfl⟩
 have hf0 : Fr [] w wa := by rw [hwa]; exact (Fr.refl [] w).alloc _
 have hb0 : Blk wa w.heap.size 40 x.cells.toArray := by rw [hwa]; exact Blk.new _ _ _
 have HNS : Hid (¬ w.heap.size ∈ S) := Lib.hid (fun h => by have := hw.lt _ h; omega)
 have HG0 := Lib.hid (Gr.begin hw hf0)
 have HC0 : Hid (wa.cell? ⟨w.heap.size, 0 + 0, none⟩ = some (.int .i64 x.r)) := Lib.hid (hb0.range (cs := x.cells) 0 _ rfl)
 have HC1 : Hid (wa.cell? ⟨w.heap.size, 0 + 1, none⟩ = some (.int .i64 x.e)) := Lib.hid (hb0.range (cs := x.cells) 1 _ rfl)
 have HC2 : Hid (wa.cell? ⟨w.heap.size, 0 + 2, none⟩ = some (.int .u64 (x.t : Int))) := Lib.hid (hb0.range (cs := x.cells) 2 _ rfl)
 have HC3 : Hid (wa.cell? ⟨w.heap.size, 0 + 3, none⟩ = some (.slice x.A x.n x.d)) := Lib.hid (hb0.range (cs := x.cells) 3 _ rfl)
 have HC4 : Hid (wa.cell? ⟨w.heap.size, 0 + 4, none⟩ = some (.int .i64 x.b)) := Lib.hid (hb0.range (cs := x.cells) 4 _ rfl)
 have HC5 : Hid (wa.cell? ⟨w.heap.size, 0 + 5, none⟩ = some (.int .i64 x.m)) := Lib.hid (hb0.range (cs := x.cells) 5 _ rfl)
 have HF0 := Lib.hid hf0
 have HWA := Lib.hid hwa
 have HL := Lib.hid hl
 have HX := Lib.hid hx
 clear hwa hf0 hb0 hl hw hx
 unfold Wpr.val
 generalize hC : x.cells = C at *
 have HRC := Lib.hid hC
 clear hC
 go_enter Tryz.func124, Tryz.ntmps124
 go_wp2
 rw [← HWA.out]
 refine wp_region_held_drew (S := Fr S wa) (by kernel_rfl) (Fr.drew (Fr.refl _ wa)) (fun hHeld => ?_)
 refine run_at (i := 0) (v := ?_) rfl (by kernel_rfl) (by rfl) (fun _ _ _ h => h) hHeld (fun w1 hw1 => ?_) ?_
 rotate_left 1
 · skip
   go_simp
   try first | with_reducible rfl | apply And.intro <;> rfl
 simp only [xPa, xPb, xPc, xPd, xPe]
 refine run_at (i := 1) (v := ?_) rfl (by kernel_rfl) (by rfl) (fun _ _ _ h => h) hHeld (fun w1 hw1 => ?_) ?_
 rotate_left 1
 · skip
   go_simp
   try first | with_reducible rfl | apply And.intro <;> rfl
 simp only [xPa, xPb, xPc, xPd, xPe]
 refine run_at (i := 2) (v := ?_) rfl (by kernel_rfl) (by rfl) (fun _ _ _ h => h) hHeld (fun w1 hw1 => ?_) ?_
 rotate_left 1
 · skip
   have hcw0 := hw1.cell (HC0.out) (by first | (simp; done) | exact HNS.out)
   go_simp
   try first | with_reducible rfl | apply And.intro <;> rfl
 simp only [xPa, xPb, xPc, xPd, xPe]
 refine run_at (i := 4) (v := ?_) rfl (by kernel_rfl) (by rfl) (fun _ _ _ h => h) hHeld (fun w1 hw1 => ?_) ?_
 rotate_left 1
 · skip
   go_simp
   try first | with_reducible rfl | apply And.intro <;> rfl
 simp only [xPa, xPb, xPc, xPd, xPe]
 refine run_at (i := 5) (v := ?_) rfl (by kernel_rfl) (by rfl) (fun _ _ _ h => h) hHeld (fun w1 hw1 => ?_) ?_
 rotate_left 1
 · skip
   have hcw0 := hw1.cell (HC1.out) (by first | (simp; done) | exact HNS.out)
   go_simp
   try first | with_reducible rfl | apply And.intro <;> rfl
 simp only [xPa, xPb, xPc, xPd, xPe]
 refine run_at (i := 7) (v := ?_) rfl (by kernel_rfl) (by rfl) (fun _ _ _ h => h) hHeld (fun w1 hw1 => ?_) ?_
 rotate_left 1
 · skip
   go_simp
   try first | with_reducible rfl | apply And.intro <;> rfl
 simp only [xPa, xPb, xPc, xPd, xPe]
 refine run_at (i := 8) (v := ?_) rfl (by kernel_rfl) (by rfl) (fun _ _ _ h => h) hHeld (fun w1 hw1 => ?_) ?_
 rotate_left 1
 · skip
   have hcw0 := hw1.cell (HC2.out) (by first | (simp; done) | exact HNS.out)
   go_simp
   try first | with_reducible rfl | apply And.intro <;> rfl
 simp only [xPa, xPb, xPc, xPd, xPe]
 refine run_at (i := 10) (v := ?_) rfl (by kernel_rfl) (by rfl) (fun _ _ _ h => h) hHeld (fun w1 hw1 => ?_) ?_
 rotate_left 1
 · skip
   go_simp
   try first | with_reducible rfl | apply And.intro <;> rfl
 simp only [xPa, xPb, xPc, xPd, xPe]
 refine run_at (i := 11) (v := ?_) rfl (by kernel_rfl) (by rfl) (fun _ _ _ h => h) hHeld (fun w1 hw1 => ?_) ?_
 rotate_left 1
 · skip
   have hcw0 := hw1.cell (HC3.out) (by first | (simp; done) | exact HNS.out)
   go_simp
   try first | with_reducible rfl | apply And.intro <;> rfl
 simp only [xPa, xPb, xPc, xPd, xPe]
 refine call_at (i := 3) (f := ?_) (args := ?_) rfl (by kernel_rfl) (by rfl) ?_ ?_
 rotate_left 2
 · go_simp
   try first | with_reducible rfl | apply And.intro <;> rfl
 refine (HG0.out.call fun S1 k1 => int_any x.r HX.out.r.1 HX.out.r.2 _ S1 g _ k1 (by have h0 := HL.out; (try simp only [List.length_append, sgL, nmL] at *); omega)).mono ?_
 rintro e w1 ⟨rfl, hg1⟩
 have HG1 := Lib.hid hg1
 refine ⟨_, rfl, hg1.fr, fun hHeld => ?_⟩
 clear hg1 HG0
 simp only [xPa, xPb, xPc, xPd, xPe]
 refine call_at (i := 6) (f := ?_) (args := ?_) rfl (by kernel_rfl) (by rfl) ?_ ?_
 rotate_left 2
 · go_simp
   try first | with_reducible rfl | apply And.intro <;> rfl
 refine (HG1.out.call fun S1 k1 => int_any x.e HX.out.e.1 HX.out.e.2 _ S1 g _ k1 (by have h0 := HL.out; have b0 := encI_len x.r HX.out.r.2; (try simp only [List.length_append, sgL, nmL] at *); omega)).mono ?_
 rintro e w2 ⟨rfl, hg2⟩
 have HG2 := Lib.hid hg2
 refine ⟨_, rfl, hg2.fr, fun hHeld => ?_⟩
 clear hg2 HG1
 simp only [xPa, xPb, xPc, xPd, xPe]
 refine call_at (i := 9) (f := ?_) (args := ?_) rfl (by kernel_rfl) (by rfl) ?_ ?_
 rotate_left 2
 · go_simp
   try first | with_reducible rfl | apply And.intro <;> rfl
 refine (HG2.out.call fun S1 k1 => num_any x.t HX.out.t _ S1 g _ k1 (by have h0 := HL.out; have b0 := encI_len x.r HX.out.r.2; have b1 := encI_len x.e HX.out.e.2; (try simp only [List.length_append, sgL, nmL] at *); omega)).mono ?_
 rintro e w3 ⟨rfl, hg3⟩
 have HG3 := Lib.hid hg3
 refine ⟨_, rfl, hg3.fr, fun hHeld => ?_⟩
 clear hg3 HG2
 simp only [xPa, xPb, xPc, xPd, xPe]
 refine call_at (i := 12) (f := ?_) (args := ?_) rfl (by kernel_rfl) (by rfl) ?_ ?_
 rotate_left 2
 · go_simp
   try first | with_reducible rfl | apply And.intro <;> rfl
 refine (HG3.out.calls fun S1 k1 f1 s1 => putCerts_any Wce.cells (fun w S v => v.Ok w S) Wce.full 1400 Wce.one rfl (fun _ _ v h => Nat.le_trans (Wce.full_len h) (by decide)) (fun v W S g l h hw hl => putCert_any v W S g l hw hl h) _ S1 g _ k1 x.A x.n x.d x.l (HX.out.l.keep' ((HF0.out.mono (T := S) (by simp)).trans f1 (fun k hk _ => hk)) HX.out.ap (fun _ _ h => h.keep ((HF0.out.mono (T := S) (by simp)).trans f1 (fun k hk _ => hk)) (fun k hk hl => s1 k hk (Nat.lt_of_lt_of_le hl HF0.out.size)))) (by have := HX.out.n; omega) (fun hn a ha hin => HX.out.ap hn a ha (s1 _ hin (Nat.lt_of_lt_of_le (HX.out.l.lt hn (by decide) (fun v hv => Wce.len (HX.out.l.2.1 v hv).2.k.h) a ha) HF0.out.size))) (fun _ _ hf hs _ _ h => h.keep hf hs) (by have h0 := HL.out; have b0 := encI_len x.r HX.out.r.2; have b1 := encI_len x.e HX.out.e.2; have b2 := enc_ten HX.out.t; have := HX.out.n; simp only [List.length_append]; omega)).mono ?_
 rintro e w4 ⟨rfl, hg4⟩
 have HG4 := Lib.hid hg4
 refine ⟨_, rfl, hg4.fr, fun hHeld => ?_⟩
 clear hg4 HG3
 simp only [xPa, xPb, xPc, xPd, xPe]
 refine run_at (i := 13) (v := ?_) rfl (by kernel_rfl) (by rfl) (fun _ _ _ h => h) hHeld (fun w1 hw1 => ?_) ?_
 rotate_left 1
 · skip
   go_simp
   try first | with_reducible rfl | apply And.intro <;> rfl
 simp only [xPa, xPb, xPc, xPd, xPe]
 refine wpAnyH_done (by kernel_rfl) ?_ _
 go_wp2
 go_ret
 exact ⟨rfl, (HG4.out.from_ HF0.out).eq (by simp [Wpr.bare, List.append_assoc])⟩
theorem promiseFields_any' (x : Wpr) (C : List Value) (hC : x.cells = C) (w : World) (S : List Nat) (g : Nat) (l : List UInt8) (hw : Wr w S g l) (hl : l.length + 6000 ≤ 1073741000) (hx : x.Ok w S) :
  Calls Tryz.prog 124 #[.pointer (some ⟨g, 0, none⟩), .agg C.toArray] w fun e w' => e = .returned (.pointer (some ⟨g, 0, none⟩)) ∧ Gr w S g (l ++ x.bare) w' := by
 subst hC
 exact promiseFields_any x w S g l hw hl hx
theorem Wpr.len (x : Wpr) : x.cells.length = 6 := rfl
set_option maxHeartbeats 1000000 in
theorem putPromise_any (x : Wpr) (w : World) (S : List Nat) (g : Nat) (l : List UInt8) (hw : Wr w S g l) (hl : l.length + 6200 ≤ 1073741000) (hx : x.Ok w S) :
  Calls Tryz.prog 82 #[.pointer (some ⟨g, 0, none⟩), x.val] w fun e w' => e = .returned (.pointer (some ⟨g, 0, none⟩)) ∧ Gr w S g (l ++ x.full) w' := by
 obtain ⟨wa, hwa⟩ : ∃ wa, wa = w.alloc (Obj.cells x.cells.toArray 40) := ⟨_, rfl⟩
 have hf0 : Fr [] w wa := by rw [hwa]; exact (Fr.refl [] w).alloc _
 have hb0 : Blk wa w.heap.size 40 x.cells.toArray := by rw [hwa]; exact Blk.new _ _ _
 have HNS : Hid (¬ w.heap.size ∈ S) := Lib.hid (fun h => by have := hw.lt _ h; omega)
 have HG0 := Lib.hid (Gr.begin hw hf0)
 have HALL := Lib.hid hb0.range
 have HLN : Hid (x.cells.length = 6) := Lib.hid (Wpr.len x)
 have HSG : Hid (wa.rangeAt w.heap.size (0 + 4) [.int .i64 x.b, .int .i64 x.m]) := Lib.hid (rangeAt_sub (xs := [.int .i64 x.r, .int .i64 x.e, .int .u64 (x.t : Int), .slice x.A x.n x.d]) (ys := [.int .i64 x.b, .int .i64 x.m]) (zs := []) hb0.range)
 have HXA : Hid (x.Ok wa S) := Lib.hid (hx.keep (hf0.mono (T := S) (by simp)) (fun k hk _ => hk))
 have HF0 := Lib.hid hf0
 have HWA := Lib.hid hwa
 have HL := Lib.hid hl
 have HX := Lib.hid hx
 clear hwa hf0 hb0 hl hw hx
 unfold Wpr.val
 generalize hC : x.cells = C at *
 have HRC := Lib.hid hC
 clear hC
 go_enter Tryz.func82, Tryz.ntmps82
 go_wp2
 rw [← HWA.out]
 refine wp_region_held_drew (S := Fr S wa) (by kernel_rfl) (Fr.drew (Fr.refl _ wa)) (fun hHeld => ?_)
 refine run_at (i := 0) (v := ?_) rfl (by kernel_rfl) (by rfl) (fun _ _ _ h => h) hHeld (fun w1 hw1 => ?_) ?_
 rotate_left 1
 · skip
   go_simp
   try first | with_reducible rfl | apply And.intro <;> rfl
 simp only [xPa, xPb, xPc, xPd, xPe]
 refine row_at (i := 1) rfl (by kernel_rfl) (by rfl) _ _ rfl _ _ rfl _ (fun w1 hw1 => hw1.range (HALL.out) (by first | (simp; done) | exact HNS.out)) (row_prm.of HLN.out) (fun _ _ _ h => h) hHeld ?_
 simp only [xPa, xPb, xPc, xPd, xPe]
 refine run_at (i := 3) (v := ?_) rfl (by kernel_rfl) (by rfl) (fun _ _ _ h => h) hHeld (fun w1 hw1 => ?_) ?_
 rotate_left 1
 · skip
   go_simp
   try first | with_reducible rfl | apply And.intro <;> rfl
 simp only [xPa, xPb, xPc, xPd, xPe]
 refine row_at (i := 4) rfl (by kernel_rfl) (by rfl) _ _ rfl _ _ rfl _ (fun w1 hw1 => hw1.range (HSG.out) (by first | (simp; done) | exact HNS.out)) (row_sg) (fun _ _ _ h => h) hHeld ?_
 simp only [xPa, xPb, xPc, xPd, xPe]
 refine call_at (i := 2) (f := ?_) (args := ?_) rfl (by kernel_rfl) (by rfl) ?_ ?_
 rotate_left 2
 · go_simp
   try first | with_reducible rfl | apply And.intro <;> rfl
 refine (HG0.out.calls fun S1 k1 f1 s1 => promiseFields_any' x C HRC.out _ S1 g _ k1 (by have h0 := HL.out; (try simp only [List.length_append, sgL, nmL] at *); omega) (HXA.out.keep f1 s1)).mono ?_
 rintro e w1 ⟨rfl, hg1⟩
 have HG1 := Lib.hid hg1
 refine ⟨_, rfl, hg1.fr, fun hHeld => ?_⟩
 clear hg1 HG0
 simp only [xPa, xPb, xPc, xPd, xPe]
 refine call_at (i := 5) (f := ?_) (args := ?_) rfl (by kernel_rfl) (by rfl) ?_ ?_
 rotate_left 2
 · go_simp
   try first | with_reducible rfl | apply And.intro <;> rfl
 refine (HG1.out.call fun S1 k1 => putSig_any x.b x.m HX.out.b HX.out.m _ S1 g _ k1 (by have h0 := HL.out; have b0 := Wpr.bare_len HX.out; (try simp only [List.length_append, sgL, nmL] at *); omega)).mono ?_
 rintro e w2 ⟨rfl, hg2⟩
 have HG2 := Lib.hid hg2
 refine ⟨_, rfl, hg2.fr, fun hHeld => ?_⟩
 clear hg2 HG1
 simp only [xPa, xPb, xPc, xPd, xPe]
 refine run_at (i := 6) (v := ?_) rfl (by kernel_rfl) (by rfl) (fun _ _ _ h => h) hHeld (fun w1 hw1 => ?_) ?_
 rotate_left 1
 · skip
   go_simp
   try first | with_reducible rfl | apply And.intro <;> rfl
 simp only [xPa, xPb, xPc, xPd, xPe]
 refine wpAnyH_done (by kernel_rfl) ?_ _
 go_wp2
 go_ret
 exact ⟨rfl, (HG2.out.from_ HF0.out).eq (by simp [Wpr.full, List.append_assoc])⟩
theorem putPromise_any' (x : Wpr) (C : List Value) (hC : x.cells = C) (w : World) (S : List Nat) (g : Nat) (l : List UInt8) (hw : Wr w S g l) (hl : l.length + 6200 ≤ 1073741000) (hx : x.Ok w S) :
  Calls Tryz.prog 82 #[.pointer (some ⟨g, 0, none⟩), .agg C.toArray] w fun e w' => e = .returned (.pointer (some ⟨g, 0, none⟩)) ∧ Gr w S g (l ++ x.full) w' := by
 subst hC
 exact putPromise_any x w S g l hw hl hx
end Go.Proofs.YtpcnedpheplofaaGreat

namespace Go.Proofs.YtpcnedpheplofaaGreat
open Go.RowKit
set_option maxRecDepth 100000
set_option maxHeartbeats 2000000 in
theorem putDenies_any {α : Type} (cells : α → List Value) (ok : World → List Nat → α → Prop) (full : α → List UInt8) (N : Nat) (hone : ∀ v, ∀ u ∈ cells v, u.oneCell' = true) (hsz : (Tryz.prog.info? 56).map (·.size) = some 4)
  (hfull : ∀ W S v, ok W S v → (full v).length ≤ N)
  (hput : ∀ (v : α) (W : World) (S : List Nat) (g : Nat) (l : List UInt8), ok W S v → Wr W S g l → l.length + N ≤ 1073741000 → Calls Tryz.prog 87 #[.pointer (some ⟨g, 0, none⟩), .agg (cells v).toArray] W fun e w' => e = .returned (.pointer (some ⟨g, 0, none⟩)) ∧ Gr W S g (l ++ full v) w')
  (w : World) (S : List Nat) (g : Nat) (l : List UInt8) (hw : Wr w S g l) (A : Option Addr) (n c : Nat) (xs : List α) (hx : Lst 4 cells (fun w v => ok w S v) w A n xs) (hn : n ≤ 1000) (hA : 0 < n → ∀ a, A = some a → ¬ a.block ∈ S)
  (hkeep : ∀ W S', Fr S w W → (∀ x ∈ S', x < w.heap.size → x ∈ S) → ∀ v ∈ xs, ok w S v → ok W S' v) (hl : l.length + 20 + (n + 1) * N ≤ 1073741000) :
  Calls Tryz.prog 156 #[.pointer (some ⟨g, 0, none⟩), fnV 87, .slice A n c] w fun e w' => e = .returned (.pointer (some ⟨g, 0, none⟩)) ∧ Gr w S g (l ++ listL full xs) w' := by
 have HG0 := Lib.hid (Gr.refl hw)
 have HX := Lib.hid hx
 have HA := Lib.hid hA
 have HL := Lib.hid hl
 have HKP := Lib.hid hkeep
 have HSL := Lib.hid hw.lt
 have hxn := hx.1
 clear hw hx hA hl hkeep
 unfold fnV
 go_enter Tryz.func156, Tryz.ntmps156
 go_wp2_with fail
 refine (HG0.out.call fun S1 k1 => int_any (n : Int) (by omega) (by omega) _ S1 g _ k1 (by have := HL.out; omega)).mono ?_
 rintro e w1 ⟨rfl, hg1⟩
 have HG1 := Lib.hid hg1
 clear hg1 HG0
 go_wp2_with fail
 go_loopw [15] (fun i wr => ∃ k : Nat, k ≤ n ∧ i = .int .i64 k ∧ Gr w S g (l ++ encI (n : Int) ++ (xs.take k).flatMap full) wr) (fun i _ => n - (intOf i).toNat)
 case atStart => exact ⟨0, by omega, rfl, by simpa using HG1.out⟩
 case round =>
  obtain ⟨k, hk, rfl, hg⟩ := hrel
  have HG := Lib.hid hg
  clear hg
  by_cases hlt : k < n
  · obtain ⟨ad, v, rfl, hv, hcl, hok, hc⟩ := HX.out.at hlt
    have HV := Lib.hid hv
    have HCL := Lib.hid hcl
    have HOK := Lib.hid hok
    have HMEM := Lib.hid (List.mem_of_getElem? hv)
    have HC := Lib.hid (fun j x hj => HG.out.fr.cell (hc j x hj) (by rw [add_block, add_block]; exact HA.out (by omega) ad rfl))
    have HONE := Lib.hid (hone v)
    have HPUT := Lib.hid (hput v)
    have hk0 : (0 : Int) ≤ k := by omega
    have hlen : ((xs.take k).flatMap full).length ≤ k * N := flat_len (fun v hv => hfull w S v (HX.out.2.1 v (List.mem_of_mem_take hv)).2) (by rw [List.length_take]; omega)
    have hkn2 : k * N + N ≤ (n + 1) * N := by rw [← Nat.succ_mul]; exact Nat.mul_le_mul_right N (by omega)
    have HLEN : Hid ((l ++ encI (n : Int) ++ (xs.take k).flatMap full).length + N ≤ 1073741000) := Lib.hid (by have := HL.out; have := encI_len (n : Int) (by omega); simp only [List.length_append]; omega)
    have HTK : Hid ((xs.take (k + 1)).flatMap full = (xs.take k).flatMap full ++ full v) := Lib.hid (by rw [List.take_add_one, hv]; simp)
    have HFV := Lib.hid (rfl : cells v = cells v)
    clear hv hcl hok hc hlen hkn2
    generalize hcv : cells v = C at *
    go_wp2_with (first
     | (refine wpList_cells rfl 56 _ rfl _ rfl C HC.out (row_deny.of HCL.out) ?_)
     | (refine wpList_store_box rfl 56 _ _ rfl _ 56 C rfl rfl (by rw [hsz, HCL.out]) (by rw [HCL.out]; rfl) HONE.out ?_
        intro wb hbb hfb
        have HBB := Lib.hid hbb
        have HFB := Lib.hid hfb
        clear hbb hfb)
     | (refine wpList_row rfl 56 _ rfl _ _ rfl _ HBB.out.range (row_deny.of HCL.out) ?_))
    have HGB := Lib.hid (HG.out.trans (fun S1 k => ⟨S1, k.keep HFB.out (by simp), HFB.out.mono (by simp), fun x hx _ => hx⟩))
    refine (HGB.out.calls fun S1 k1 f1 s1 => HPUT.out _ S1 g _ (HKP.out wb S1 f1 s1 v HMEM.out HOK.out) k1 HLEN.out).mono ?_
    rintro e w2 ⟨rfl, hg2⟩
    have HG2 := Lib.hid hg2
    clear hg2
    go_wp2
    exact ⟨⟨k + 1, by omega, rfl, HG2.out.eq (by rw [HTK.out, List.append_assoc])⟩, by simp only [intOf, Int.toNat_natCast, Int.toNat_natCast_add_one]; omega⟩
  · have hkn : k = n := by omega
    subst hkn
    have HFIN : Hid (Gr w S g (l ++ listL full xs) wr) := Lib.hid (HG.out.eq (by rw [List.take_of_length_le (by omega), listL, hxn, List.append_assoc]))
    clear HG
    go_wp2
    go_ret
    exact ⟨rfl, HFIN.out⟩
theorem row_opn : RowTy Tryz.prog 54 34 := ⟨by kernel_rfl, by kernel_rfl⟩
theorem row_tmb : RowTy Tryz.prog 132 2 := ⟨by kernel_rfl, by kernel_rfl⟩
theorem row_bat : RowTy Tryz.prog 45 5 := ⟨by kernel_rfl, by kernel_rfl⟩
structure Wop where
 i : Int
 A : Option Addr
 n : Nat
 d : Nat
 p : List UInt8
 h : List UInt8
def Wop.cells (x : Wop) : List Value := [.int .i64 x.i, .slice x.A x.n x.d] ++ (x.h.map by8 ++ [])
def Wop.val (x : Wop) : Value := .agg x.cells.toArray
structure Wop.Ok (w : World) (S : List Nat) (x : Wop) : Prop where
 i : i64In x.i
 p : By w x.A x.n x.p
 n : x.n ≤ 260
 ap : ∀ k ∈ bk x.A, ¬ k ∈ S
 lt : ∀ k ∈ bk x.A, k < w.heap.size
 h : x.h.length = 32
 d : x.n ≤ x.d
theorem Wop.len {x : Wop} (h : x.h.length = 32) : x.cells.length = 34 := by simp [Wop.cells, h]
theorem Wop.one (x : Wop) : ∀ v ∈ x.cells, v.oneCell' = true := by
 intro v hv
 simp only [Wop.cells, List.mem_cons, List.mem_append, List.not_mem_nil, or_false] at hv
 rcases hv with (rfl | rfl) | hv
 · rfl
 · rfl
 · exact by8_one x.h v hv
theorem Wop.Ok.keep {w W : World} {S S' : List Nat} {x : Wop} (h : x.Ok w S) (hf : Fr S w W) (hs : ∀ k ∈ S', k < w.heap.size → k ∈ S) : x.Ok W S' :=
 ⟨h.i, h.p.keep hf (fun a ha => h.ap _ (by rw [ha]; simp [bk])), h.n, fun k hk hin => h.ap k hk (hs k hin (h.lt k hk)), fun k hk => Nat.lt_of_lt_of_le (h.lt k hk) hf.size, h.h, h.d⟩
def Wop.full (x : Wop) : List UInt8 := encI x.i ++ (enc x.n ++ x.p) ++ x.h
theorem Wop.full_len {w : World} {S : List Nat} {x : Wop} (hx : x.Ok w S) : x.full.length ≤ 320 := by
 have b0 := encI_len x.i hx.i.2
 have b1 : (enc x.n).length ≤ 10 := enc_ten (by have := hx.n; omega)
 have b2 := hx.p.1
 have b3 := hx.n
 have b4 := hx.h
 simp only [Wop.full, List.length_append]
 omega
structure Wtb where
 i : Int
 A : Option Addr
 n : Nat
 d : Nat
 l : List Wdn
def Wtb.cells (x : Wtb) : List Value := [.int .i64 x.i, .slice x.A x.n x.d]
def Wtb.val (x : Wtb) : Value := .agg x.cells.toArray
structure Wtb.Ok (w : World) (S : List Nat) (x : Wtb) : Prop where
 i : i64In x.i
 l : Lst 4 Wdn.cells (fun _ v => v.Ok) w x.A x.n x.l
 n : x.n ≤ 5
 ap : 0 < x.n → ∀ a, x.A = some a → ¬ a.block ∈ S
theorem Wtb.one (x : Wtb) : ∀ v ∈ x.cells, v.oneCell' = true := by
 intro v hv
 simp only [Wtb.cells, List.mem_cons, List.not_mem_nil, or_false] at hv
 rcases hv with rfl | rfl <;> rfl
theorem Wtb.Ok.keep {w W : World} {S S' : List Nat} {x : Wtb} (h : x.Ok w S) (hf : Fr S w W) (hs : ∀ k ∈ S', k < w.heap.size → k ∈ S) : x.Ok W S' :=
 ⟨h.i, h.l.keep' hf h.ap (fun _ _ h => h), h.n, fun hn a ha hin => h.ap hn a ha (hs _ hin (h.l.lt hn (by decide) (fun v hv => Wdn.len v) a ha))⟩
def Wtb.full (x : Wtb) : List UInt8 := encI x.i ++ listL Wdn.full x.l
theorem Wdn.full_len {x : Wdn} (hx : x.Ok) : x.full.length ≤ 100 := by
 have b0 := Wdn.bare_len hx
 have b1 := encI_len x.b hx.b.2
 have b2 := encI_len x.m hx.m.2
 simp only [Wdn.full, sgL, List.length_append]
 omega
theorem Wtb.full_len {w : World} {S : List Nat} {x : Wtb} (hx : x.Ok w S) : x.full.length ≤ 520 := by
 have b0 := encI_len x.i hx.i.2
 have b1 := encI_len (x.l.length : Int) (by have := hx.n; have := hx.l.1; omega)
 have b2 : (x.l.flatMap Wdn.full).length ≤ 5 * 100 := flat_len (fun v hv => Wdn.full_len (hx.l.2.1 v hv).2) (by have := hx.n; have := hx.l.1; omega)
 simp only [Wtb.full, listL, List.length_append]
 omega
set_option maxHeartbeats 1000000 in
theorem putOpening_any (x : Wop) (w : World) (S : List Nat) (g : Nat) (l : List UInt8) (hw : Wr w S g l) (hl : l.length + 500 ≤ 1073741000) (hx : x.Ok w S) :
  Calls Tryz.prog 86 #[.pointer (some ⟨g, 0, none⟩), x.val] w fun e w' => e = .returned (.pointer (some ⟨g, 0, none⟩)) ∧ Gr w S g (l ++ x.full) w' := by
 obtain ⟨wa, hwa⟩ : ∃ wa, wa = w.alloc (Obj.cells x.cells.toArray 54) := ⟨_, rfl⟩
 have hf0 : Fr [] w wa := by rw [hwa]; exact (Fr.refl [] w).alloc _
 have hb0 : Blk wa w.heap.size 54 x.cells.toArray := by rw [hwa]; exact Blk.new _ _ _
 have HNS : Hid (¬ w.heap.size ∈ S) := Lib.hid (fun h => by have := hw.lt _ h; omega)
 have HG0 := Lib.hid (Gr.begin hw hf0)
 have HC0 : Hid (wa.cell? ⟨w.heap.size, 0 + 0, none⟩ = some (.int .i64 x.i)) := Lib.hid (hb0.range (cs := x.cells) 0 _ rfl)
 have HC1 : Hid (wa.cell? ⟨w.heap.size, 0 + 1, none⟩ = some (.slice x.A x.n x.d)) := Lib.hid (hb0.range (cs := x.cells) 1 _ rfl)
 have HNC : Hid (wa.rangeAt w.heap.size (0 + 2) (x.h.map by8)) := Lib.hid (rangeAt_sub (xs := [.int .i64 x.i, .slice x.A x.n x.d]) (ys := x.h.map by8) (zs := []) hb0.range)
 have HF0 := Lib.hid hf0
 have HWA := Lib.hid hwa
 have HL := Lib.hid hl
 have HX := Lib.hid hx
 clear hwa hf0 hb0 hl hw hx
 unfold Wop.val
 generalize hC : x.cells = C at *
 have HRC := Lib.hid hC
 clear hC
 go_enter Tryz.func86, Tryz.ntmps86
 go_wp2
 rw [← HWA.out]
 refine wp_region_held_drew (S := Fr S wa) (by kernel_rfl) (Fr.drew (Fr.refl _ wa)) (fun hHeld => ?_)
 refine run_at (i := 0) (v := ?_) rfl (by kernel_rfl) (by rfl) (fun _ _ _ h => h) hHeld (fun w1 hw1 => ?_) ?_
 rotate_left 1
 · skip
   go_simp
   try first | with_reducible rfl | apply And.intro <;> rfl
 simp only [xPa, xPb, xPc, xPd, xPe]
 refine run_at (i := 1) (v := ?_) rfl (by kernel_rfl) (by rfl) (fun _ _ _ h => h) hHeld (fun w1 hw1 => ?_) ?_
 rotate_left 1
 · skip
   go_simp
   try first | with_reducible rfl | apply And.intro <;> rfl
 simp only [xPa, xPb, xPc, xPd, xPe]
 refine run_at (i := 2) (v := ?_) rfl (by kernel_rfl) (by rfl) (fun _ _ _ h => h) hHeld (fun w1 hw1 => ?_) ?_
 rotate_left 1
 · skip
   have hcw0 := hw1.cell (HC0.out) (by first | (simp; done) | exact HNS.out)
   go_simp
   try first | with_reducible rfl | apply And.intro <;> rfl
 simp only [xPa, xPb, xPc, xPd, xPe]
 refine run_at (i := 4) (v := ?_) rfl (by kernel_rfl) (by rfl) (fun _ _ _ h => h) hHeld (fun w1 hw1 => ?_) ?_
 rotate_left 1
 · skip
   go_simp
   try first | with_reducible rfl | apply And.intro <;> rfl
 simp only [xPa, xPb, xPc, xPd, xPe]
 refine run_at (i := 5) (v := ?_) rfl (by kernel_rfl) (by rfl) (fun _ _ _ h => h) hHeld (fun w1 hw1 => ?_) ?_
 rotate_left 1
 · skip
   have hcw0 := hw1.cell (HC1.out) (by first | (simp; done) | exact HNS.out)
   go_simp
   try first | with_reducible rfl | apply And.intro <;> rfl
 simp only [xPa, xPb, xPc, xPd, xPe]
 refine run_at (i := 7) (v := ?_) rfl (by kernel_rfl) (by rfl) (fun _ _ _ h => h) hHeld (fun w1 hw1 => ?_) ?_
 rotate_left 1
 · skip
   go_simp
   try first | with_reducible rfl | apply And.intro <;> rfl
 simp only [xPa, xPb, xPc, xPd, xPe]
 refine row_at (i := 8) rfl (by kernel_rfl) (by rfl) _ _ rfl _ _ rfl _ (fun w1 hw1 => hw1.range (HNC.out) (by first | (simp; done) | exact HNS.out)) (row_hash.of (by rw [List.length_map]; exact HX.out.h)) (fun _ _ _ h => h) hHeld ?_
 simp only [xPa, xPb, xPc, xPd, xPe]
 refine call_at (i := 3) (f := ?_) (args := ?_) rfl (by kernel_rfl) (by rfl) ?_ ?_
 rotate_left 2
 · go_simp
   try first | with_reducible rfl | apply And.intro <;> rfl
 refine (HG0.out.call fun S1 k1 => int_any x.i HX.out.i.1 HX.out.i.2 _ S1 g _ k1 (by have h0 := HL.out; (try simp only [List.length_append, sgL, nmL] at *); omega)).mono ?_
 rintro e w1 ⟨rfl, hg1⟩
 have HG1 := Lib.hid hg1
 refine ⟨_, rfl, hg1.fr, fun hHeld => ?_⟩
 clear hg1 HG0
 simp only [xPa, xPb, xPc, xPd, xPe]
 refine call_at (i := 6) (f := ?_) (args := ?_) rfl (by kernel_rfl) (by rfl) ?_ ?_
 rotate_left 2
 · go_simp
   try first | with_reducible rfl | apply And.intro <;> rfl
 refine (HG1.out.calls fun S1 k1 f1 s1 => row_any x.A x.n x.d x.p _ (HX.out.keep ((HF0.out.mono (T := S) (by simp)).trans f1 (fun k hk _ => hk)) (fun k hk hl => s1 k hk (Nat.lt_of_lt_of_le hl HF0.out.size))).p (by have := HX.out.n; omega) S1 (HX.out.keep ((HF0.out.mono (T := S) (by simp)).trans f1 (fun k hk _ => hk)) (fun k hk hl => s1 k hk (Nat.lt_of_lt_of_le hl HF0.out.size))).ap g _ k1 (by have h0 := HL.out; have b0 := encI_len x.i HX.out.i.2; simp only [List.length_append]; omega)).mono ?_
 rintro e w2 ⟨rfl, hg2⟩
 have HG2 := Lib.hid hg2
 refine ⟨_, rfl, hg2.fr, fun hHeld => ?_⟩
 clear hg2 HG1
 simp only [xPa, xPb, xPc, xPd, xPe]
 refine call_at (i := 9) (f := ?_) (args := ?_) rfl (by kernel_rfl) (by rfl) ?_ ?_
 rotate_left 2
 · go_simp
   try first | with_reducible rfl | apply And.intro <;> rfl
 refine (HG2.out.call fun S1 k1 => hash_any x.h HX.out.h _ S1 g _ k1 (by have h0 := HL.out; have b0 := encI_len x.i HX.out.i.2; have b1 : (enc x.n).length ≤ 10 := enc_ten (by have := HX.out.n; omega); have b2 := HX.out.p.1; have b3 := HX.out.n; simp only [List.length_append]; omega)).mono ?_
 rintro e w3 ⟨rfl, hg3⟩
 have HG3 := Lib.hid hg3
 refine ⟨_, rfl, hg3.fr, fun hHeld => ?_⟩
 clear hg3 HG2
 simp only [xPa, xPb, xPc, xPd, xPe]
 refine run_at (i := 10) (v := ?_) rfl (by kernel_rfl) (by rfl) (fun _ _ _ h => h) hHeld (fun w1 hw1 => ?_) ?_
 rotate_left 1
 · skip
   go_simp
   try first | with_reducible rfl | apply And.intro <;> rfl
 simp only [xPa, xPb, xPc, xPd, xPe]
 refine wpAnyH_done (by kernel_rfl) ?_ _
 go_wp2
 go_ret
 exact ⟨rfl, (HG3.out.from_ HF0.out).eq (by simp [Wop.full, List.append_assoc])⟩
set_option maxHeartbeats 1000000 in
theorem putTomb_any (x : Wtb) (w : World) (S : List Nat) (g : Nat) (l : List UInt8) (hw : Wr w S g l) (hl : l.length + 1500 ≤ 1073741000) (hx : x.Ok w S) :
  Calls Tryz.prog 149 #[.pointer (some ⟨g, 0, none⟩), x.val] w fun e w' => e = .returned (.pointer (some ⟨g, 0, none⟩)) ∧ Gr w S g (l ++ x.full) w' := by
 obtain ⟨wa, hwa⟩ : ∃ wa, wa = w.alloc (Obj.cells x.cells.toArray 132) := ⟨_, rfl⟩
 have hf0 : Fr [] w wa := by rw [hwa]; exact (Fr.refl [] w).alloc _
 have hb0 : Blk wa w.heap.size 132 x.cells.toArray := by rw [hwa]; exact Blk.new _ _ _
 have HNS : Hid (¬ w.heap.size ∈ S) := Lib.hid (fun h => by have := hw.lt _ h; omega)
 have HG0 := Lib.hid (Gr.begin hw hf0)
 have HC0 : Hid (wa.cell? ⟨w.heap.size, 0 + 0, none⟩ = some (.int .i64 x.i)) := Lib.hid (hb0.range (cs := x.cells) 0 _ rfl)
 have HC1 : Hid (wa.cell? ⟨w.heap.size, 0 + 1, none⟩ = some (.slice x.A x.n x.d)) := Lib.hid (hb0.range (cs := x.cells) 1 _ rfl)
 have HF0 := Lib.hid hf0
 have HWA := Lib.hid hwa
 have HL := Lib.hid hl
 have HX := Lib.hid hx
 clear hwa hf0 hb0 hl hw hx
 unfold Wtb.val
 generalize hC : x.cells = C at *
 have HRC := Lib.hid hC
 clear hC
 go_enter Tryz.func149, Tryz.ntmps149
 go_wp2
 rw [← HWA.out]
 refine wp_region_held_drew (S := Fr S wa) (by kernel_rfl) (Fr.drew (Fr.refl _ wa)) (fun hHeld => ?_)
 refine run_at (i := 0) (v := ?_) rfl (by kernel_rfl) (by rfl) (fun _ _ _ h => h) hHeld (fun w1 hw1 => ?_) ?_
 rotate_left 1
 · skip
   go_simp
   try first | with_reducible rfl | apply And.intro <;> rfl
 simp only [xPa, xPb, xPc, xPd, xPe]
 refine run_at (i := 1) (v := ?_) rfl (by kernel_rfl) (by rfl) (fun _ _ _ h => h) hHeld (fun w1 hw1 => ?_) ?_
 rotate_left 1
 · skip
   go_simp
   try first | with_reducible rfl | apply And.intro <;> rfl
 simp only [xPa, xPb, xPc, xPd, xPe]
 refine run_at (i := 2) (v := ?_) rfl (by kernel_rfl) (by rfl) (fun _ _ _ h => h) hHeld (fun w1 hw1 => ?_) ?_
 rotate_left 1
 · skip
   have hcw0 := hw1.cell (HC0.out) (by first | (simp; done) | exact HNS.out)
   go_simp
   try first | with_reducible rfl | apply And.intro <;> rfl
 simp only [xPa, xPb, xPc, xPd, xPe]
 refine run_at (i := 4) (v := ?_) rfl (by kernel_rfl) (by rfl) (fun _ _ _ h => h) hHeld (fun w1 hw1 => ?_) ?_
 rotate_left 1
 · skip
   go_simp
   try first | with_reducible rfl | apply And.intro <;> rfl
 simp only [xPa, xPb, xPc, xPd, xPe]
 refine run_at (i := 5) (v := ?_) rfl (by kernel_rfl) (by rfl) (fun _ _ _ h => h) hHeld (fun w1 hw1 => ?_) ?_
 rotate_left 1
 · skip
   have hcw0 := hw1.cell (HC1.out) (by first | (simp; done) | exact HNS.out)
   go_simp
   try first | with_reducible rfl | apply And.intro <;> rfl
 simp only [xPa, xPb, xPc, xPd, xPe]
 refine call_at (i := 3) (f := ?_) (args := ?_) rfl (by kernel_rfl) (by rfl) ?_ ?_
 rotate_left 2
 · go_simp
   try first | with_reducible rfl | apply And.intro <;> rfl
 refine (HG0.out.call fun S1 k1 => int_any x.i HX.out.i.1 HX.out.i.2 _ S1 g _ k1 (by have h0 := HL.out; (try simp only [List.length_append, sgL, nmL] at *); omega)).mono ?_
 rintro e w1 ⟨rfl, hg1⟩
 have HG1 := Lib.hid hg1
 refine ⟨_, rfl, hg1.fr, fun hHeld => ?_⟩
 clear hg1 HG0
 simp only [xPa, xPb, xPc, xPd, xPe]
 refine call_at (i := 6) (f := ?_) (args := ?_) rfl (by kernel_rfl) (by rfl) ?_ ?_
 rotate_left 2
 · go_simp
   try first | with_reducible rfl | apply And.intro <;> rfl
 refine (HG1.out.calls fun S1 k1 f1 s1 => putDenies_any Wdn.cells (fun _ _ v => v.Ok) Wdn.full 200 Wdn.one rfl (fun _ _ v h => Nat.le_trans (Wdn.full_len h) (by decide)) (fun v W S g l h hw hl => putDeny_any v h W S g l hw hl) _ S1 g _ k1 x.A x.n x.d x.l (HX.out.keep ((HF0.out.mono (T := S) (by simp)).trans f1 (fun k hk _ => hk)) (fun k hk hl => s1 k hk (Nat.lt_of_lt_of_le hl HF0.out.size))).l (by have := HX.out.n; omega) (HX.out.keep ((HF0.out.mono (T := S) (by simp)).trans f1 (fun k hk _ => hk)) (fun k hk hl => s1 k hk (Nat.lt_of_lt_of_le hl HF0.out.size))).ap (fun _ _ _ _ _ _ h => h) (by have h0 := HL.out; have b0 := encI_len x.i HX.out.i.2; have := HX.out.n; simp only [List.length_append]; omega)).mono ?_
 rintro e w2 ⟨rfl, hg2⟩
 have HG2 := Lib.hid hg2
 refine ⟨_, rfl, hg2.fr, fun hHeld => ?_⟩
 clear hg2 HG1
 simp only [xPa, xPb, xPc, xPd, xPe]
 refine run_at (i := 7) (v := ?_) rfl (by kernel_rfl) (by rfl) (fun _ _ _ h => h) hHeld (fun w1 hw1 => ?_) ?_
 rotate_left 1
 · skip
   go_simp
   try first | with_reducible rfl | apply And.intro <;> rfl
 simp only [xPa, xPb, xPc, xPd, xPe]
 refine wpAnyH_done (by kernel_rfl) ?_ _
 go_wp2
 go_ret
 exact ⟨rfl, (HG2.out.from_ HF0.out).eq (by simp [Wtb.full, List.append_assoc])⟩
set_option maxHeartbeats 2000000 in
theorem putPromises_any {α : Type} (cells : α → List Value) (ok : World → List Nat → α → Prop) (full : α → List UInt8) (N : Nat) (hone : ∀ v, ∀ u ∈ cells v, u.oneCell' = true) (hsz : (Tryz.prog.info? 40).map (·.size) = some 6)
  (hfull : ∀ W S v, ok W S v → (full v).length ≤ N)
  (hput : ∀ (v : α) (W : World) (S : List Nat) (g : Nat) (l : List UInt8), ok W S v → Wr W S g l → l.length + N ≤ 1073741000 → Calls Tryz.prog 82 #[.pointer (some ⟨g, 0, none⟩), .agg (cells v).toArray] W fun e w' => e = .returned (.pointer (some ⟨g, 0, none⟩)) ∧ Gr W S g (l ++ full v) w')
  (w : World) (S : List Nat) (g : Nat) (l : List UInt8) (hw : Wr w S g l) (A : Option Addr) (n c : Nat) (xs : List α) (hx : Lst 6 cells (fun w v => ok w S v) w A n xs) (hn : n ≤ 1000) (hA : 0 < n → ∀ a, A = some a → ¬ a.block ∈ S)
  (hkeep : ∀ W S', Fr S w W → (∀ x ∈ S', x < w.heap.size → x ∈ S) → ∀ v ∈ xs, ok w S v → ok W S' v) (hl : l.length + 20 + (n + 1) * N ≤ 1073741000) :
  Calls Tryz.prog 146 #[.pointer (some ⟨g, 0, none⟩), fnV 82, .slice A n c] w fun e w' => e = .returned (.pointer (some ⟨g, 0, none⟩)) ∧ Gr w S g (l ++ listL full xs) w' := by
 have HG0 := Lib.hid (Gr.refl hw)
 have HX := Lib.hid hx
 have HA := Lib.hid hA
 have HL := Lib.hid hl
 have HKP := Lib.hid hkeep
 have HSL := Lib.hid hw.lt
 have hxn := hx.1
 clear hw hx hA hl hkeep
 unfold fnV
 go_enter Tryz.func146, Tryz.ntmps146
 go_wp2_with fail
 refine (HG0.out.call fun S1 k1 => int_any (n : Int) (by omega) (by omega) _ S1 g _ k1 (by have := HL.out; omega)).mono ?_
 rintro e w1 ⟨rfl, hg1⟩
 have HG1 := Lib.hid hg1
 clear hg1 HG0
 go_wp2_with fail
 go_loopw [15] (fun i wr => ∃ k : Nat, k ≤ n ∧ i = .int .i64 k ∧ Gr w S g (l ++ encI (n : Int) ++ (xs.take k).flatMap full) wr) (fun i _ => n - (intOf i).toNat)
 case atStart => exact ⟨0, by omega, rfl, by simpa using HG1.out⟩
 case round =>
  obtain ⟨k, hk, rfl, hg⟩ := hrel
  have HG := Lib.hid hg
  clear hg
  by_cases hlt : k < n
  · obtain ⟨ad, v, rfl, hv, hcl, hok, hc⟩ := HX.out.at hlt
    have HV := Lib.hid hv
    have HCL := Lib.hid hcl
    have HOK := Lib.hid hok
    have HMEM := Lib.hid (List.mem_of_getElem? hv)
    have HC := Lib.hid (fun j x hj => HG.out.fr.cell (hc j x hj) (by rw [add_block, add_block]; exact HA.out (by omega) ad rfl))
    have HONE := Lib.hid (hone v)
    have HPUT := Lib.hid (hput v)
    have hk0 : (0 : Int) ≤ k := by omega
    have hlen : ((xs.take k).flatMap full).length ≤ k * N := flat_len (fun v hv => hfull w S v (HX.out.2.1 v (List.mem_of_mem_take hv)).2) (by rw [List.length_take]; omega)
    have hkn2 : k * N + N ≤ (n + 1) * N := by rw [← Nat.succ_mul]; exact Nat.mul_le_mul_right N (by omega)
    have HLEN : Hid ((l ++ encI (n : Int) ++ (xs.take k).flatMap full).length + N ≤ 1073741000) := Lib.hid (by have := HL.out; have := encI_len (n : Int) (by omega); simp only [List.length_append]; omega)
    have HTK : Hid ((xs.take (k + 1)).flatMap full = (xs.take k).flatMap full ++ full v) := Lib.hid (by rw [List.take_add_one, hv]; simp)
    have HFV := Lib.hid (rfl : cells v = cells v)
    clear hv hcl hok hc hlen hkn2
    generalize hcv : cells v = C at *
    go_wp2_with (first
     | (refine wpList_cells rfl 40 _ rfl _ rfl C HC.out (row_prm.of HCL.out) ?_)
     | (refine wpList_store_box rfl 40 _ _ rfl _ 40 C rfl rfl (by rw [hsz, HCL.out]) (by rw [HCL.out]; rfl) HONE.out ?_
        intro wb hbb hfb
        have HBB := Lib.hid hbb
        have HFB := Lib.hid hfb
        clear hbb hfb)
     | (refine wpList_row rfl 40 _ rfl _ _ rfl _ HBB.out.range (row_prm.of HCL.out) ?_))
    have HGB := Lib.hid (HG.out.trans (fun S1 k => ⟨S1, k.keep HFB.out (by simp), HFB.out.mono (by simp), fun x hx _ => hx⟩))
    refine (HGB.out.calls fun S1 k1 f1 s1 => HPUT.out _ S1 g _ (HKP.out wb S1 f1 s1 v HMEM.out HOK.out) k1 HLEN.out).mono ?_
    rintro e w2 ⟨rfl, hg2⟩
    have HG2 := Lib.hid hg2
    clear hg2
    go_wp2
    exact ⟨⟨k + 1, by omega, rfl, HG2.out.eq (by rw [HTK.out, List.append_assoc])⟩, by simp only [intOf, Int.toNat_natCast, Int.toNat_natCast_add_one]; omega⟩
  · have hkn : k = n := by omega
    subst hkn
    have HFIN : Hid (Gr w S g (l ++ listL full xs) wr) := Lib.hid (HG.out.eq (by rw [List.take_of_length_le (by omega), listL, hxn, List.append_assoc]))
    clear HG
    go_wp2
    go_ret
    exact ⟨rfl, HFIN.out⟩
set_option maxHeartbeats 2000000 in
theorem putOpenings_any {α : Type} (cells : α → List Value) (ok : World → List Nat → α → Prop) (full : α → List UInt8) (N : Nat) (hone : ∀ v, ∀ u ∈ cells v, u.oneCell' = true) (hsz : (Tryz.prog.info? 54).map (·.size) = some 34)
  (hfull : ∀ W S v, ok W S v → (full v).length ≤ N)
  (hput : ∀ (v : α) (W : World) (S : List Nat) (g : Nat) (l : List UInt8), ok W S v → Wr W S g l → l.length + N ≤ 1073741000 → Calls Tryz.prog 86 #[.pointer (some ⟨g, 0, none⟩), .agg (cells v).toArray] W fun e w' => e = .returned (.pointer (some ⟨g, 0, none⟩)) ∧ Gr W S g (l ++ full v) w')
  (w : World) (S : List Nat) (g : Nat) (l : List UInt8) (hw : Wr w S g l) (A : Option Addr) (n c : Nat) (xs : List α) (hx : Lst 34 cells (fun w v => ok w S v) w A n xs) (hn : n ≤ 1000) (hA : 0 < n → ∀ a, A = some a → ¬ a.block ∈ S)
  (hkeep : ∀ W S', Fr S w W → (∀ x ∈ S', x < w.heap.size → x ∈ S) → ∀ v ∈ xs, ok w S v → ok W S' v) (hl : l.length + 20 + (n + 1) * N ≤ 1073741000) :
  Calls Tryz.prog 147 #[.pointer (some ⟨g, 0, none⟩), fnV 86, .slice A n c] w fun e w' => e = .returned (.pointer (some ⟨g, 0, none⟩)) ∧ Gr w S g (l ++ listL full xs) w' := by
 have HG0 := Lib.hid (Gr.refl hw)
 have HX := Lib.hid hx
 have HA := Lib.hid hA
 have HL := Lib.hid hl
 have HKP := Lib.hid hkeep
 have HSL := Lib.hid hw.lt
 have hxn := hx.1
 clear hw hx hA hl hkeep
 unfold fnV
 go_enter Tryz.func147, Tryz.ntmps147
 go_wp2_with fail
 refine (HG0.out.call fun S1 k1 => int_any (n : Int) (by omega) (by omega) _ S1 g _ k1 (by have := HL.out; omega)).mono ?_
 rintro e w1 ⟨rfl, hg1⟩
 have HG1 := Lib.hid hg1
 clear hg1 HG0
 go_wp2_with fail
 go_loopw [15] (fun i wr => ∃ k : Nat, k ≤ n ∧ i = .int .i64 k ∧ Gr w S g (l ++ encI (n : Int) ++ (xs.take k).flatMap full) wr) (fun i _ => n - (intOf i).toNat)
 case atStart => exact ⟨0, by omega, rfl, by simpa using HG1.out⟩
 case round =>
  obtain ⟨k, hk, rfl, hg⟩ := hrel
  have HG := Lib.hid hg
  clear hg
  by_cases hlt : k < n
  · obtain ⟨ad, v, rfl, hv, hcl, hok, hc⟩ := HX.out.at hlt
    have HV := Lib.hid hv
    have HCL := Lib.hid hcl
    have HOK := Lib.hid hok
    have HMEM := Lib.hid (List.mem_of_getElem? hv)
    have HC := Lib.hid (fun j x hj => HG.out.fr.cell (hc j x hj) (by rw [add_block, add_block]; exact HA.out (by omega) ad rfl))
    have HONE := Lib.hid (hone v)
    have HPUT := Lib.hid (hput v)
    have hk0 : (0 : Int) ≤ k := by omega
    have hlen : ((xs.take k).flatMap full).length ≤ k * N := flat_len (fun v hv => hfull w S v (HX.out.2.1 v (List.mem_of_mem_take hv)).2) (by rw [List.length_take]; omega)
    have hkn2 : k * N + N ≤ (n + 1) * N := by rw [← Nat.succ_mul]; exact Nat.mul_le_mul_right N (by omega)
    have HLEN : Hid ((l ++ encI (n : Int) ++ (xs.take k).flatMap full).length + N ≤ 1073741000) := Lib.hid (by have := HL.out; have := encI_len (n : Int) (by omega); simp only [List.length_append]; omega)
    have HTK : Hid ((xs.take (k + 1)).flatMap full = (xs.take k).flatMap full ++ full v) := Lib.hid (by rw [List.take_add_one, hv]; simp)
    have HFV := Lib.hid (rfl : cells v = cells v)
    clear hv hcl hok hc hlen hkn2
    generalize hcv : cells v = C at *
    go_wp2_with (first
     | (refine wpList_cells rfl 54 _ rfl _ rfl C HC.out (row_opn.of HCL.out) ?_)
     | (refine wpList_store_box rfl 54 _ _ rfl _ 54 C rfl rfl (by rw [hsz, HCL.out]) (by rw [HCL.out]; rfl) HONE.out ?_
        intro wb hbb hfb
        have HBB := Lib.hid hbb
        have HFB := Lib.hid hfb
        clear hbb hfb)
     | (refine wpList_row rfl 54 _ rfl _ _ rfl _ HBB.out.range (row_opn.of HCL.out) ?_))
    have HGB := Lib.hid (HG.out.trans (fun S1 k => ⟨S1, k.keep HFB.out (by simp), HFB.out.mono (by simp), fun x hx _ => hx⟩))
    refine (HGB.out.calls fun S1 k1 f1 s1 => HPUT.out _ S1 g _ (HKP.out wb S1 f1 s1 v HMEM.out HOK.out) k1 HLEN.out).mono ?_
    rintro e w2 ⟨rfl, hg2⟩
    have HG2 := Lib.hid hg2
    clear hg2
    go_wp2
    exact ⟨⟨k + 1, by omega, rfl, HG2.out.eq (by rw [HTK.out, List.append_assoc])⟩, by simp only [intOf, Int.toNat_natCast, Int.toNat_natCast_add_one]; omega⟩
  · have hkn : k = n := by omega
    subst hkn
    have HFIN : Hid (Gr w S g (l ++ listL full xs) wr) := Lib.hid (HG.out.eq (by rw [List.take_of_length_le (by omega), listL, hxn, List.append_assoc]))
    clear HG
    go_wp2
    go_ret
    exact ⟨rfl, HFIN.out⟩
set_option maxHeartbeats 2000000 in
theorem putTombs_any {α : Type} (cells : α → List Value) (ok : World → List Nat → α → Prop) (full : α → List UInt8) (N : Nat) (hone : ∀ v, ∀ u ∈ cells v, u.oneCell' = true) (hsz : (Tryz.prog.info? 132).map (·.size) = some 2)
  (hfull : ∀ W S v, ok W S v → (full v).length ≤ N)
  (hput : ∀ (v : α) (W : World) (S : List Nat) (g : Nat) (l : List UInt8), ok W S v → Wr W S g l → l.length + N ≤ 1073741000 → Calls Tryz.prog 149 #[.pointer (some ⟨g, 0, none⟩), .agg (cells v).toArray] W fun e w' => e = .returned (.pointer (some ⟨g, 0, none⟩)) ∧ Gr W S g (l ++ full v) w')
  (w : World) (S : List Nat) (g : Nat) (l : List UInt8) (hw : Wr w S g l) (A : Option Addr) (n c : Nat) (xs : List α) (hx : Lst 2 cells (fun w v => ok w S v) w A n xs) (hn : n ≤ 1000) (hA : 0 < n → ∀ a, A = some a → ¬ a.block ∈ S)
  (hkeep : ∀ W S', Fr S w W → (∀ x ∈ S', x < w.heap.size → x ∈ S) → ∀ v ∈ xs, ok w S v → ok W S' v) (hl : l.length + 20 + (n + 1) * N ≤ 1073741000) :
  Calls Tryz.prog 148 #[.pointer (some ⟨g, 0, none⟩), fnV 149, .slice A n c] w fun e w' => e = .returned (.pointer (some ⟨g, 0, none⟩)) ∧ Gr w S g (l ++ listL full xs) w' := by
 have HG0 := Lib.hid (Gr.refl hw)
 have HX := Lib.hid hx
 have HA := Lib.hid hA
 have HL := Lib.hid hl
 have HKP := Lib.hid hkeep
 have HSL := Lib.hid hw.lt
 have hxn := hx.1
 clear hw hx hA hl hkeep
 unfold fnV
 go_enter Tryz.func148, Tryz.ntmps148
 go_wp2_with fail
 refine (HG0.out.call fun S1 k1 => int_any (n : Int) (by omega) (by omega) _ S1 g _ k1 (by have := HL.out; omega)).mono ?_
 rintro e w1 ⟨rfl, hg1⟩
 have HG1 := Lib.hid hg1
 clear hg1 HG0
 go_wp2_with fail
 go_loopw [15] (fun i wr => ∃ k : Nat, k ≤ n ∧ i = .int .i64 k ∧ Gr w S g (l ++ encI (n : Int) ++ (xs.take k).flatMap full) wr) (fun i _ => n - (intOf i).toNat)
 case atStart => exact ⟨0, by omega, rfl, by simpa using HG1.out⟩
 case round =>
  obtain ⟨k, hk, rfl, hg⟩ := hrel
  have HG := Lib.hid hg
  clear hg
  by_cases hlt : k < n
  · obtain ⟨ad, v, rfl, hv, hcl, hok, hc⟩ := HX.out.at hlt
    have HV := Lib.hid hv
    have HCL := Lib.hid hcl
    have HOK := Lib.hid hok
    have HMEM := Lib.hid (List.mem_of_getElem? hv)
    have HC := Lib.hid (fun j x hj => HG.out.fr.cell (hc j x hj) (by rw [add_block, add_block]; exact HA.out (by omega) ad rfl))
    have HONE := Lib.hid (hone v)
    have HPUT := Lib.hid (hput v)
    have hk0 : (0 : Int) ≤ k := by omega
    have hlen : ((xs.take k).flatMap full).length ≤ k * N := flat_len (fun v hv => hfull w S v (HX.out.2.1 v (List.mem_of_mem_take hv)).2) (by rw [List.length_take]; omega)
    have hkn2 : k * N + N ≤ (n + 1) * N := by rw [← Nat.succ_mul]; exact Nat.mul_le_mul_right N (by omega)
    have HLEN : Hid ((l ++ encI (n : Int) ++ (xs.take k).flatMap full).length + N ≤ 1073741000) := Lib.hid (by have := HL.out; have := encI_len (n : Int) (by omega); simp only [List.length_append]; omega)
    have HTK : Hid ((xs.take (k + 1)).flatMap full = (xs.take k).flatMap full ++ full v) := Lib.hid (by rw [List.take_add_one, hv]; simp)
    have HFV := Lib.hid (rfl : cells v = cells v)
    clear hv hcl hok hc hlen hkn2
    generalize hcv : cells v = C at *
    go_wp2_with (first
     | (refine wpList_cells rfl 132 _ rfl _ rfl C HC.out (row_tmb.of HCL.out) ?_)
     | (refine wpList_store_box rfl 132 _ _ rfl _ 132 C rfl rfl (by rw [hsz, HCL.out]) (by rw [HCL.out]; rfl) HONE.out ?_
        intro wb hbb hfb
        have HBB := Lib.hid hbb
        have HFB := Lib.hid hfb
        clear hbb hfb)
     | (refine wpList_row rfl 132 _ rfl _ _ rfl _ HBB.out.range (row_tmb.of HCL.out) ?_))
    have HGB := Lib.hid (HG.out.trans (fun S1 k => ⟨S1, k.keep HFB.out (by simp), HFB.out.mono (by simp), fun x hx _ => hx⟩))
    refine (HGB.out.calls fun S1 k1 f1 s1 => HPUT.out _ S1 g _ (HKP.out wb S1 f1 s1 v HMEM.out HOK.out) k1 HLEN.out).mono ?_
    rintro e w2 ⟨rfl, hg2⟩
    have HG2 := Lib.hid hg2
    clear hg2
    go_wp2
    exact ⟨⟨k + 1, by omega, rfl, HG2.out.eq (by rw [HTK.out, List.append_assoc])⟩, by simp only [intOf, Int.toNat_natCast, Int.toNat_natCast_add_one]; omega⟩
  · have hkn : k = n := by omega
    subst hkn
    have HFIN : Hid (Gr w S g (l ++ listL full xs) wr) := Lib.hid (HG.out.eq (by rw [List.take_of_length_le (by omega), listL, hxn, List.append_assoc]))
    clear HG
    go_wp2
    go_ret
    exact ⟨rfl, HFIN.out⟩
end Go.Proofs.YtpcnedpheplofaaGreat

namespace Go.Proofs.YtpcnedpheplofaaGreat
open Go.RowKit
set_option maxRecDepth 100000
structure Wba where
 e : Int
 t : Nat
 A : Option Addr
 n : Nat
 d : Nat
 l : List Wpr
 A2 : Option Addr
 n2 : Nat
 d2 : Nat
 l2 : List Wop
 A3 : Option Addr
 n3 : Nat
 d3 : Nat
 l3 : List Wtb
def Wba.cells (x : Wba) : List Value := [.int .i64 x.e, .int .u64 (x.t : Int), .slice x.A x.n x.d, .slice x.A2 x.n2 x.d2, .slice x.A3 x.n3 x.d3]
def Wba.val (x : Wba) : Value := .agg x.cells.toArray
structure Wba.Ok (w : World) (S : List Nat) (x : Wba) : Prop where
 e : i64In x.e
 t : x.t < 18446744073709551616
 l : Lst 6 Wpr.cells (fun w v => v.Ok w S) w x.A x.n x.l
 n : x.n ≤ 4
 ap : 0 < x.n → ∀ a, x.A = some a → ¬ a.block ∈ S
 l2 : Lst 34 Wop.cells (fun w v => v.Ok w S) w x.A2 x.n2 x.l2
 n2 : x.n2 ≤ 5
 ap2 : 0 < x.n2 → ∀ a, x.A2 = some a → ¬ a.block ∈ S
 l3 : Lst 2 Wtb.cells (fun w v => v.Ok w S) w x.A3 x.n3 x.l3
 n3 : x.n3 ≤ 5
 ap3 : 0 < x.n3 → ∀ a, x.A3 = some a → ¬ a.block ∈ S
theorem Wba.one (x : Wba) : ∀ v ∈ x.cells, v.oneCell' = true := by
 intro v hv
 simp only [Wba.cells, List.mem_cons, List.not_mem_nil, or_false] at hv
 rcases hv with rfl | rfl | rfl | rfl | rfl <;> rfl
theorem Wba.len (x : Wba) : x.cells.length = 5 := rfl
theorem Wba.Ok.keep {w W : World} {S S' : List Nat} {x : Wba} (h : x.Ok w S) (hf : Fr S w W) (hs : ∀ k ∈ S', k < w.heap.size → k ∈ S) : x.Ok W S' :=
 ⟨h.e, h.t, h.l.keep' hf h.ap (fun _ _ h => h.keep hf hs), h.n, fun hn a ha hin => h.ap hn a ha (hs _ hin (h.l.lt hn (by decide) (fun _ _ => rfl) a ha)),
  h.l2.keep' hf h.ap2 (fun _ _ h => h.keep hf hs), h.n2, fun hn a ha hin => h.ap2 hn a ha (hs _ hin (h.l2.lt hn (by decide) (fun v hv => Wop.len (h.l2.2.1 v hv).2.h) a ha)),
  h.l3.keep' hf h.ap3 (fun _ _ h => h.keep hf hs), h.n3, fun hn a ha hin => h.ap3 hn a ha (hs _ hin (h.l3.lt hn (by decide) (fun _ _ => rfl) a ha))⟩
def Wba.full (x : Wba) : List UInt8 := encI x.e ++ enc x.t ++ listL Wpr.full x.l ++ listL Wop.full x.l2 ++ listL Wtb.full x.l3
theorem Wba.l_len {w : World} {S : List Nat} {x : Wba} (hx : x.Ok w S) : (listL Wpr.full x.l).length ≤ 9300 := by
 have b1 := encI_len (x.l.length : Int) (by have := hx.n; have := hx.l.1; omega)
 have b2 : (x.l.flatMap Wpr.full).length ≤ 4 * 2300 := flat_len (fun v hv => Wpr.full_len (hx.l.2.1 v hv).2) (by have := hx.n; have := hx.l.1; omega)
 simp only [listL, List.length_append]
 omega
theorem Wba.l2_len {w : World} {S : List Nat} {x : Wba} (hx : x.Ok w S) : (listL Wop.full x.l2).length ≤ 1700 := by
 have b1 := encI_len (x.l2.length : Int) (by have := hx.n2; have := hx.l2.1; omega)
 have b2 : (x.l2.flatMap Wop.full).length ≤ 5 * 320 := flat_len (fun v hv => Wop.full_len (hx.l2.2.1 v hv).2) (by have := hx.n2; have := hx.l2.1; omega)
 simp only [listL, List.length_append]
 omega
theorem Wba.l3_len {w : World} {S : List Nat} {x : Wba} (hx : x.Ok w S) : (listL Wtb.full x.l3).length ≤ 2700 := by
 have b1 := encI_len (x.l3.length : Int) (by have := hx.n3; have := hx.l3.1; omega)
 have b2 : (x.l3.flatMap Wtb.full).length ≤ 5 * 520 := flat_len (fun v hv => Wtb.full_len (hx.l3.2.1 v hv).2) (by have := hx.n3; have := hx.l3.1; omega)
 simp only [listL, List.length_append]
 omega
theorem Wba.full_len {w : World} {S : List Nat} {x : Wba} (hx : x.Ok w S) : x.full.length ≤ 14000 := by
 have b0 := encI_len x.e hx.e.2
 have b1 := enc_ten hx.t
 have b2 := Wba.l_len hx
 have b3 := Wba.l2_len hx
 have b4 := Wba.l3_len hx
 simp only [Wba.full, List.length_append]
 omega
set_option maxHeartbeats 1000000 in
theorem putBatch_any (x : Wba) (w : World) (S : List Nat) (g : Nat) (l : List UInt8) (hw : Wr w S g l) (hl : l.length + 60000 ≤ 1073741000) (hx : x.Ok w S) :
  Calls Tryz.prog 125 #[.pointer (some ⟨g, 0, none⟩), x.val] w fun e w' => e = .returned (.pointer (some ⟨g, 0, none⟩)) ∧ Gr w S g (l ++ x.full) w' := by
 obtain ⟨wa, hwa⟩ : ∃ wa, wa = w.alloc (Obj.cells x.cells.toArray 45) := ⟨_, rfl⟩
 have hf0 : Fr [] w wa := by rw [hwa]; exact (Fr.refl [] w).alloc _
 have hb0 : Blk wa w.heap.size 45 x.cells.toArray := by rw [hwa]; exact Blk.new _ _ _
 have HNS : Hid (¬ w.heap.size ∈ S) := Lib.hid (fun h => by have := hw.lt _ h; omega)
 have HG0 := Lib.hid (Gr.begin hw hf0)
 have HC0 : Hid (wa.cell? ⟨w.heap.size, 0 + 0, none⟩ = some (.int .i64 x.e)) := Lib.hid (hb0.range (cs := x.cells) 0 _ rfl)
 have HC1 : Hid (wa.cell? ⟨w.heap.size, 0 + 1, none⟩ = some (.int .u64 (x.t : Int))) := Lib.hid (hb0.range (cs := x.cells) 1 _ rfl)
 have HC2 : Hid (wa.cell? ⟨w.heap.size, 0 + 2, none⟩ = some (.slice x.A x.n x.d)) := Lib.hid (hb0.range (cs := x.cells) 2 _ rfl)
 have HC3 : Hid (wa.cell? ⟨w.heap.size, 0 + 3, none⟩ = some (.slice x.A2 x.n2 x.d2)) := Lib.hid (hb0.range (cs := x.cells) 3 _ rfl)
 have HC4 : Hid (wa.cell? ⟨w.heap.size, 0 + 4, none⟩ = some (.slice x.A3 x.n3 x.d3)) := Lib.hid (hb0.range (cs := x.cells) 4 _ rfl)
 have HXA : Hid (x.Ok wa S) := Lib.hid (hx.keep (hf0.mono (T := S) (by simp)) (fun k hk _ => hk))
 have HF0 := Lib.hid hf0
 have HWA := Lib.hid hwa
 have HL := Lib.hid hl
 have HX := Lib.hid hx
 clear hwa hf0 hb0 hl hw hx
 unfold Wba.val
 generalize hC : x.cells = C at *
 have HRC := Lib.hid hC
 clear hC
 go_enter Tryz.func125, Tryz.ntmps125
 go_wp2
 rw [← HWA.out]
 refine wp_region_held_drew (S := Fr S wa) (by kernel_rfl) (Fr.drew (Fr.refl _ wa)) (fun hHeld => ?_)
 refine run_at (i := 0) (v := ?_) rfl (by kernel_rfl) (by rfl) (fun _ _ _ h => h) hHeld (fun w1 hw1 => ?_) ?_
 rotate_left 1
 · skip
   go_simp
   try first | with_reducible rfl | apply And.intro <;> rfl
 simp only [xPa, xPb, xPc, xPd, xPe]
 refine run_at (i := 1) (v := ?_) rfl (by kernel_rfl) (by rfl) (fun _ _ _ h => h) hHeld (fun w1 hw1 => ?_) ?_
 rotate_left 1
 · skip
   go_simp
   try first | with_reducible rfl | apply And.intro <;> rfl
 simp only [xPa, xPb, xPc, xPd, xPe]
 refine run_at (i := 2) (v := ?_) rfl (by kernel_rfl) (by rfl) (fun _ _ _ h => h) hHeld (fun w1 hw1 => ?_) ?_
 rotate_left 1
 · skip
   have hcw0 := hw1.cell (HC0.out) (by first | (simp; done) | exact HNS.out)
   go_simp
   try first | with_reducible rfl | apply And.intro <;> rfl
 simp only [xPa, xPb, xPc, xPd, xPe]
 refine run_at (i := 4) (v := ?_) rfl (by kernel_rfl) (by rfl) (fun _ _ _ h => h) hHeld (fun w1 hw1 => ?_) ?_
 rotate_left 1
 · skip
   go_simp
   try first | with_reducible rfl | apply And.intro <;> rfl
 simp only [xPa, xPb, xPc, xPd, xPe]
 refine run_at (i := 5) (v := ?_) rfl (by kernel_rfl) (by rfl) (fun _ _ _ h => h) hHeld (fun w1 hw1 => ?_) ?_
 rotate_left 1
 · skip
   have hcw0 := hw1.cell (HC1.out) (by first | (simp; done) | exact HNS.out)
   go_simp
   try first | with_reducible rfl | apply And.intro <;> rfl
 simp only [xPa, xPb, xPc, xPd, xPe]
 refine call_at (i := 3) (f := ?_) (args := ?_) rfl (by kernel_rfl) (by rfl) ?_ ?_
 rotate_left 2
 · go_simp
   try first | with_reducible rfl | apply And.intro <;> rfl
 refine (HG0.out.call fun S1 k1 => int_any x.e HX.out.e.1 HX.out.e.2 _ S1 g _ k1 (by have h0 := HL.out; (try simp only [List.length_append, sgL, nmL] at *); omega)).mono ?_
 rintro e w1 ⟨rfl, hg1⟩
 have HG1 := Lib.hid hg1
 refine ⟨_, rfl, hg1.fr, fun hHeld => ?_⟩
 clear hg1 HG0
 simp only [xPa, xPb, xPc, xPd, xPe]
 refine call_at (i := 6) (f := ?_) (args := ?_) rfl (by kernel_rfl) (by rfl) ?_ ?_
 rotate_left 2
 · go_simp
   try first | with_reducible rfl | apply And.intro <;> rfl
 refine (HG1.out.call fun S1 k1 => num_any x.t HX.out.t _ S1 g _ k1 (by have h0 := HL.out; have b0 := encI_len x.e HX.out.e.2; (try simp only [List.length_append, sgL, nmL] at *); omega)).mono ?_
 rintro e w2 ⟨rfl, hg2⟩
 have HG2 := Lib.hid hg2
 refine ⟨_, rfl, hg2.fr, fun hHeld => ?_⟩
 clear hg2 HG1
 simp only [xPa, xPb, xPc, xPd, xPe]
 refine wpAnyH_done (by kernel_rfl) ?_ _
 have hc2 : w2.cell? ⟨w.heap.size, 2, none⟩ = some (.slice x.A x.n x.d) := HG2.out.fr.cell HC2.out HNS.out
 go_wp2_with fail
 refine (HG2.out.calls fun S1 k1 f1 s1 => putPromises_any Wpr.cells (fun w S v => v.Ok w S) Wpr.full 6200 Wpr.one rfl (fun _ _ v h => Nat.le_trans (Wpr.full_len h) (by decide)) (fun v W S g l h hw hl => putPromise_any v W S g l hw hl h) _ S1 g _ k1 x.A x.n x.d x.l (HXA.out.keep f1 s1).l (by have := HX.out.n; omega) (HXA.out.keep f1 s1).ap (fun _ _ hf hs _ _ h => h.keep hf hs) (by have h0 := HL.out; have b0 := encI_len x.e HX.out.e.2; have b1 := enc_ten HX.out.t; have b2 := Wba.l_len HX.out; have b3 := Wba.l2_len HX.out; have := HX.out.n; simp only [List.length_append]; omega)).mono ?_
 rintro e w3 ⟨rfl, hg3⟩
 have HG3 := Lib.hid hg3
 clear hg3 HG2 hc2
 have hc3 : w3.cell? ⟨w.heap.size, 3, none⟩ = some (.slice x.A2 x.n2 x.d2) := HG3.out.fr.cell HC3.out HNS.out
 go_wp2_with fail
 refine (HG3.out.calls fun S1 k1 f1 s1 => putOpenings_any Wop.cells (fun w S v => v.Ok w S) Wop.full 500 Wop.one rfl (fun _ _ v h => Nat.le_trans (Wop.full_len h) (by decide)) (fun v W S g l h hw hl => putOpening_any v W S g l hw hl h) _ S1 g _ k1 x.A2 x.n2 x.d2 x.l2 (HXA.out.keep f1 s1).l2 (by have := HX.out.n2; omega) (HXA.out.keep f1 s1).ap2 (fun _ _ hf hs _ _ h => h.keep hf hs) (by have h0 := HL.out; have b0 := encI_len x.e HX.out.e.2; have b1 := enc_ten HX.out.t; have b2 := Wba.l_len HX.out; have b3 := Wba.l2_len HX.out; have := HX.out.n2; simp only [List.length_append]; omega)).mono ?_
 rintro e w4 ⟨rfl, hg4⟩
 have HG4 := Lib.hid hg4
 clear hg4 HG3 hc3
 have hc4 : w4.cell? ⟨w.heap.size, 4, none⟩ = some (.slice x.A3 x.n3 x.d3) := HG4.out.fr.cell HC4.out HNS.out
 go_wp2_with fail
 refine (HG4.out.calls fun S1 k1 f1 s1 => putTombs_any Wtb.cells (fun w S v => v.Ok w S) Wtb.full 1500 Wtb.one rfl (fun _ _ v h => Nat.le_trans (Wtb.full_len h) (by decide)) (fun v W S g l h hw hl => putTomb_any v W S g l hw hl h) _ S1 g _ k1 x.A3 x.n3 x.d3 x.l3 (HXA.out.keep f1 s1).l3 (by have := HX.out.n3; omega) (HXA.out.keep f1 s1).ap3 (fun _ _ hf hs _ _ h => h.keep hf hs) (by have h0 := HL.out; have b0 := encI_len x.e HX.out.e.2; have b1 := enc_ten HX.out.t; have b2 := Wba.l_len HX.out; have b3 := Wba.l2_len HX.out; have := HX.out.n3; simp only [List.length_append]; omega)).mono ?_
 rintro e w5 ⟨rfl, hg5⟩
 have HG5 := Lib.hid hg5
 clear hg5 HG4 hc4
 go_wp2
 go_ret
 exact ⟨rfl, (HG5.out.from_ HF0.out).eq (by simp [Wba.full, List.append_assoc])⟩
theorem putBatch_any' (x : Wba) (C : List Value) (hC : x.cells = C) (w : World) (S : List Nat) (g : Nat) (l : List UInt8) (hw : Wr w S g l) (hl : l.length + 60000 ≤ 1073741000) (hx : x.Ok w S) :
  Calls Tryz.prog 125 #[.pointer (some ⟨g, 0, none⟩), .agg C.toArray] w fun e w' => e = .returned (.pointer (some ⟨g, 0, none⟩)) ∧ Gr w S g (l ++ x.full) w' := by
 subst hC
 exact putBatch_any x w S g l hw hl hx
end Go.Proofs.YtpcnedpheplofaaGreat

namespace Go.Proofs.YtpcnedpheplofaaGreat
open Go.RowKit
set_option maxRecDepth 100000
theorem NewWr.calls {P : Program} {f : FuncId} {args : Array Value} {w0 w : World} {g : Nat} {l l' : List UInt8} {v : Value} (h : NewWr w0 w g l)
  (hc : ∀ S, Wr w S g l → Fr [] w0 w → (∀ k ∈ S, w0.heap.size ≤ k) → Calls P f args w fun e w' => e = .returned v ∧ Gr w S g l' w') : Calls P f args w fun e w' => e = .returned v ∧ NewWr w0 w' g l' := by
 obtain ⟨S, k1, k2, k3⟩ := h
 refine (hc S k1 k2 k3).mono ?_
 rintro e w' ⟨rfl, hg⟩
 exact ⟨rfl, NewWr.add k2 k3 hg⟩
def wWpr : List UInt8 := [112, 114, 111, 109, 105, 115, 101]
def Wpr.text (x : Wpr) : List UInt8 := enc wWpr.length ++ wWpr ++ x.bare
def oneM (z : Int) : Nat := if z < 0 then 0 else z.toNat + 1
theorem oneMore_any (z : Int) (hz : i64In z) (w : World) :
  Calls Tryz.prog 150 #[.int .i64 z] w fun e w' => e = .returned (.int .u64 (oneM z : Int)) ∧ w' = w := by
 obtain ⟨h1, h2⟩ := hz
 unfold oneM
 by_cases h : z < 0
 · rw [if_pos h]
   go_enter Tryz.func150, Tryz.ntmps150
   go_wp2
   go_ret
   exact ⟨rfl, rfl⟩
 · rw [if_neg h]
   have e1 : IntKind.u64.wrap z = z := IntWalk.u64_in _ (by omega)
   have e2 : IntKind.u64.wrap (z + 1) = z + 1 := IntWalk.u64_in _ (by omega)
   go_enter Tryz.func150, Tryz.ntmps150
   go_wp2
   go_ret
   exact ⟨by show Ending.returned (Value.int IntKind.u64 (z + 1)) = _; congr 2; omega, rfl⟩
structure Wpo where
 e : Int
 r : Int
 v : Int
 p : Int
 k : Wba
 b : Int
 m : Int
def Wpo.cells (x : Wpo) : List Value := [.int .i64 x.e, .int .i64 x.r, .int .i64 x.v, .int .i64 x.p] ++ (x.k.cells ++ [.int .i64 x.b, .int .i64 x.m])
def Wpo.val (x : Wpo) : Value := .agg x.cells.toArray
structure Wpo.Ok (w : World) (x : Wpo) : Prop where
 e : i64In x.e
 r : i64In x.r
 v : i64In x.v
 p : i64In x.p
 k : x.k.Ok w []
 b : i64In x.b
 m : i64In x.m
theorem Wpo.len (x : Wpo) : x.cells.length = 11 := rfl
def wWpo : List UInt8 := [112, 114, 111, 112, 111, 115, 97, 108]
def Wpo.head (x : Wpo) : List UInt8 := encI x.e ++ encI x.r ++ enc (oneM x.v) ++ encI x.p
theorem Wpo.head_len {x : Wpo} (he : i64In x.e) (hr : i64In x.r) (hv : i64In x.v) (hp : i64In x.p) : x.head.length ≤ 40 := by
 have b0 := encI_len x.e he.2
 have b1 := encI_len x.r hr.2
 have b2 := encI_len x.p hp.2
 have b3 : oneM x.v < 18446744073709551616 := by have := hv.2; unfold oneM; split <;> omega
 have b4 := enc_ten b3
 simp only [Wpo.head, List.length_append]
 omega
def Wpo.text (x : Wpo) : List UInt8 := enc wWpo.length ++ wWpo ++ x.head ++ sumL x.k.full
theorem row_prop : RowTy Tryz.prog 47 11 := ⟨by kernel_rfl, by kernel_rfl⟩
set_option maxHeartbeats 1000000 in
theorem proposalHead_any (x : Wpo) (C : List Value) (hC : x.cells = C) (w : World) (S : List Nat) (g : Nat) (l : List UInt8) (hw : Wr w S g l) (hl : l.length + 100 ≤ 1073741000) (he : i64In x.e) (hr : i64In x.r) (hv : i64In x.v) (hp : i64In x.p) :
  Calls Tryz.prog 126 #[.pointer (some ⟨g, 0, none⟩), .agg C.toArray] w fun e w' => e = .returned (.pointer (some ⟨g, 0, none⟩)) ∧ Gr w S g (l ++ x.head) w' := by
 obtain ⟨wa, hwa⟩ : ∃ wa, wa = w.alloc (Obj.cells C.toArray 47) := ⟨_, rfl⟩
 have hf0 : Fr [] w wa := by rw [hwa]; exact (Fr.refl [] w).alloc _
 have hb0 : Blk wa w.heap.size 47 x.cells.toArray := by rw [hwa, hC]; exact Blk.new _ _ _
 have HNS : Hid (¬ w.heap.size ∈ S) := Lib.hid (fun h => by have := hw.lt _ h; omega)
 have HG0 := Lib.hid (Gr.begin hw hf0)
 have HC0 : Hid (wa.cell? ⟨w.heap.size, 0 + 0, none⟩ = some (.int .i64 x.e)) := Lib.hid (hb0.range (cs := x.cells) 0 _ rfl)
 have HC1 : Hid (wa.cell? ⟨w.heap.size, 0 + 1, none⟩ = some (.int .i64 x.r)) := Lib.hid (hb0.range (cs := x.cells) 1 _ rfl)
 have HC2 : Hid (wa.cell? ⟨w.heap.size, 0 + 2, none⟩ = some (.int .i64 x.v)) := Lib.hid (hb0.range (cs := x.cells) 2 _ rfl)
 have HC3 : Hid (wa.cell? ⟨w.heap.size, 0 + 3, none⟩ = some (.int .i64 x.p)) := Lib.hid (hb0.range (cs := x.cells) 3 _ rfl)
 have HM : Hid (oneM x.v < 18446744073709551616) := Lib.hid (by have := hv.2; unfold oneM; split <;> omega)
 have HF0 := Lib.hid hf0
 have HWA := Lib.hid hwa
 have HL := Lib.hid hl
 have HE := Lib.hid he
 have HR := Lib.hid hr
 have HV := Lib.hid hv
 have HP := Lib.hid hp
 clear hwa hf0 hb0 hl hw he hr hv hp hC
 go_enter Tryz.func126, Tryz.ntmps126
 go_wp2
 rw [← HWA.out]
 refine wp_region_held_drew (S := Fr S wa) (by kernel_rfl) (Fr.drew (Fr.refl _ wa)) (fun hHeld => ?_)
 refine run_at (i := 0) (v := ?_) rfl (by kernel_rfl) (by rfl) (fun _ _ _ h => h) hHeld (fun w1 hw1 => ?_) ?_
 rotate_left 1
 · skip
   go_simp
   try first | with_reducible rfl | apply And.intro <;> rfl
 simp only [xPa, xPb, xPc, xPd, xPe]
 refine run_at (i := 1) (v := ?_) rfl (by kernel_rfl) (by rfl) (fun _ _ _ h => h) hHeld (fun w1 hw1 => ?_) ?_
 rotate_left 1
 · skip
   go_simp
   try first | with_reducible rfl | apply And.intro <;> rfl
 simp only [xPa, xPb, xPc, xPd, xPe]
 refine run_at (i := 2) (v := ?_) rfl (by kernel_rfl) (by rfl) (fun _ _ _ h => h) hHeld (fun w1 hw1 => ?_) ?_
 rotate_left 1
 · skip
   have hcw0 := hw1.cell (HC0.out) (by first | (simp; done) | exact HNS.out)
   go_simp
   try first | with_reducible rfl | apply And.intro <;> rfl
 simp only [xPa, xPb, xPc, xPd, xPe]
 refine run_at (i := 4) (v := ?_) rfl (by kernel_rfl) (by rfl) (fun _ _ _ h => h) hHeld (fun w1 hw1 => ?_) ?_
 rotate_left 1
 · skip
   go_simp
   try first | with_reducible rfl | apply And.intro <;> rfl
 simp only [xPa, xPb, xPc, xPd, xPe]
 refine run_at (i := 5) (v := ?_) rfl (by kernel_rfl) (by rfl) (fun _ _ _ h => h) hHeld (fun w1 hw1 => ?_) ?_
 rotate_left 1
 · skip
   have hcw0 := hw1.cell (HC1.out) (by first | (simp; done) | exact HNS.out)
   go_simp
   try first | with_reducible rfl | apply And.intro <;> rfl
 simp only [xPa, xPb, xPc, xPd, xPe]
 refine run_at (i := 7) (v := ?_) rfl (by kernel_rfl) (by rfl) (fun _ _ _ h => h) hHeld (fun w1 hw1 => ?_) ?_
 rotate_left 1
 · skip
   go_simp
   try first | with_reducible rfl | apply And.intro <;> rfl
 simp only [xPa, xPb, xPc, xPd, xPe]
 refine run_at (i := 8) (v := ?_) rfl (by kernel_rfl) (by rfl) (fun _ _ _ h => h) hHeld (fun w1 hw1 => ?_) ?_
 rotate_left 1
 · skip
   have hcw0 := hw1.cell (HC2.out) (by first | (simp; done) | exact HNS.out)
   go_simp
   try first | with_reducible rfl | apply And.intro <;> rfl
 simp only [xPa, xPb, xPc, xPd, xPe]
 refine run_at (i := 11) (v := ?_) rfl (by kernel_rfl) (by rfl) (fun _ _ _ h => h) hHeld (fun w1 hw1 => ?_) ?_
 rotate_left 1
 · skip
   go_simp
   try first | with_reducible rfl | apply And.intro <;> rfl
 simp only [xPa, xPb, xPc, xPd, xPe]
 refine run_at (i := 12) (v := ?_) rfl (by kernel_rfl) (by rfl) (fun _ _ _ h => h) hHeld (fun w1 hw1 => ?_) ?_
 rotate_left 1
 · skip
   have hcw0 := hw1.cell (HC3.out) (by first | (simp; done) | exact HNS.out)
   go_simp
   try first | with_reducible rfl | apply And.intro <;> rfl
 simp only [xPa, xPb, xPc, xPd, xPe]
 refine call_at (i := 3) (f := ?_) (args := ?_) rfl (by kernel_rfl) (by rfl) ?_ ?_
 rotate_left 2
 · go_simp
   try first | with_reducible rfl | apply And.intro <;> rfl
 refine (HG0.out.call fun S1 k1 => int_any x.e HE.out.1 HE.out.2 _ S1 g _ k1 (by have h0 := HL.out; (try simp only [List.length_append] at *); omega)).mono ?_
 rintro e w1 ⟨rfl, hg1⟩
 have HG1 := Lib.hid hg1
 refine ⟨_, rfl, hg1.fr, fun hHeld => ?_⟩
 clear hg1 HG0
 simp only [xPa, xPb, xPc, xPd, xPe]
 refine call_at (i := 6) (f := ?_) (args := ?_) rfl (by kernel_rfl) (by rfl) ?_ ?_
 rotate_left 2
 · go_simp
   try first | with_reducible rfl | apply And.intro <;> rfl
 refine (HG1.out.call fun S1 k1 => int_any x.r HR.out.1 HR.out.2 _ S1 g _ k1 (by have h0 := HL.out; have b0 := encI_len x.e HE.out.2; (try simp only [List.length_append] at *); omega)).mono ?_
 rintro e w2 ⟨rfl, hg2⟩
 have HG2 := Lib.hid hg2
 refine ⟨_, rfl, hg2.fr, fun hHeld => ?_⟩
 clear hg2 HG1
 simp only [xPa, xPb, xPc, xPd, xPe]
 refine call_at (i := 9) (f := ?_) (args := ?_) rfl (by kernel_rfl) (by rfl) ?_ ?_
 rotate_left 2
 · go_simp
   try first | with_reducible rfl | apply And.intro <;> rfl
 refine (oneMore_any x.v HV.out w2).mono ?_
 rintro e w4 ⟨rfl, hw4⟩
 rw [hw4]
 clear hw4 w4
 refine ⟨_, rfl, HG2.out.fr, fun hHeld => ?_⟩
 simp only [xPa, xPb, xPc, xPd, xPe]
 refine call_at (i := 10) (f := ?_) (args := ?_) rfl (by kernel_rfl) (by rfl) ?_ ?_
 rotate_left 2
 · go_simp
   try first | with_reducible rfl | apply And.intro <;> rfl
 refine (HG2.out.call fun S1 k1 => num_any (oneM x.v) HM.out _ S1 g _ k1 (by have h0 := HL.out; have b0 := encI_len x.e HE.out.2; have b1 := encI_len x.r HR.out.2; (try simp only [List.length_append] at *); omega)).mono ?_
 rintro e w5 ⟨rfl, hg5⟩
 have HG5 := Lib.hid hg5
 refine ⟨_, rfl, hg5.fr, fun hHeld => ?_⟩
 clear hg5 HG2
 simp only [xPa, xPb, xPc, xPd, xPe]
 refine call_at (i := 13) (f := ?_) (args := ?_) rfl (by kernel_rfl) (by rfl) ?_ ?_
 rotate_left 2
 · go_simp
   try first | with_reducible rfl | apply And.intro <;> rfl
 refine (HG5.out.call fun S1 k1 => int_any x.p HP.out.1 HP.out.2 _ S1 g _ k1 (by have h0 := HL.out; have b0 := encI_len x.e HE.out.2; have b1 := encI_len x.r HR.out.2; have b2 := enc_ten HM.out; (try simp only [List.length_append] at *); omega)).mono ?_
 rintro e w6 ⟨rfl, hg6⟩
 have HG6 := Lib.hid hg6
 refine ⟨_, rfl, hg6.fr, fun hHeld => ?_⟩
 clear hg6 HG5
 simp only [xPa, xPb, xPc, xPd, xPe]
 refine run_at (i := 14) (v := ?_) rfl (by kernel_rfl) (by rfl) (fun _ _ _ h => h) hHeld (fun w1 hw1 => ?_) ?_
 rotate_left 1
 · skip
   go_simp
   try first | with_reducible rfl | apply And.intro <;> rfl
 simp only [xPa, xPb, xPc, xPd, xPe]
 refine wpAnyH_done (by kernel_rfl) ?_ _
 go_wp2
 go_ret
 exact ⟨rfl, (HG6.out.from_ HF0.out).eq (by simp [Wpo.head, List.append_assoc])⟩
end Go.Proofs.YtpcnedpheplofaaGreat

namespace Go.Proofs.YtpcnedpheplofaaGreat
open Go.RowKit
set_option maxRecDepth 100000
def NewL {α : Type} (e : TypeId) (k : Nat) (cells : α → List Value) (w w' : World) (A : Option Addr) (n c : Nat) (l : List α) : Prop :=
 w'.ownsRow 0 e k (.slice A n c) n (l.flatMap cells) ∧ Fr [] w w' ∧ ∀ x ∈ bk A, w.heap.size ≤ x
theorem cells_one {α : Type} {cells : α → List Value} (hone : ∀ v, ∀ u ∈ cells v, u.oneCell' = true) (l : List α) : ∀ u ∈ l.flatMap cells, u.oneCell' = true := by
 intro u hu
 obtain ⟨v, _, hv⟩ := List.mem_flatMap.1 hu
 exact hone v u hv
theorem cells_flat_len {α : Type} {cells : α → List Value} {k : Nat} : ∀ {l : List α}, (∀ v ∈ l, (cells v).length = k) → (l.flatMap cells).length = l.length * k
 | [], _ => by simp
 | v :: l, h => by
   rw [List.flatMap_cons, List.length_append, h v (by simp), cells_flat_len (fun u hu => h u (by simp [hu])), List.length_cons, Nat.succ_mul]
   omega
theorem flat_back {α : Type} {cells : α → List Value} {k : Nat} (hk0 : 0 < k) : ∀ {l : List α}, (∀ v ∈ l, (cells v).length = k) → ∀ {j : Nat} {u : Value}, (l.flatMap cells)[j]? = some u → ∃ v, l[j / k]? = some v ∧ (cells v)[j % k]? = some u
 | [], _, j, u, hj => by simp at hj
 | v :: l, h, j, u, hj => by
   have hv := h v (by simp)
   rw [List.flatMap_cons] at hj
   by_cases hlt : j < k
   · rw [List.getElem?_append_left (by omega)] at hj
     exact ⟨v, by rw [Nat.div_eq_of_lt hlt]; rfl, by rw [Nat.mod_eq_of_lt hlt]; exact hj⟩
   · rw [List.getElem?_append_right (by omega), hv] at hj
     obtain ⟨v', h1, h2⟩ := flat_back hk0 (fun u hu => h u (by simp [hu])) hj
     refine ⟨v', ?_, by rw [Nat.mod_eq_sub_mod (show j ≥ k by omega)]; exact h2⟩
     rw [Nat.div_eq_sub_div hk0 (show k ≤ j by omega), List.getElem?_cons_succ]
     exact h1
theorem Lst.flat {α : Type} {k : Nat} {cells : α → List Value} {ok : World → α → Prop} {w : World} {ad : Addr} {n : Nat} {l : List α} (h : Lst k cells ok w (some ad) n l) (hk : 0 < k) : ∀ j u, (l.flatMap cells)[j]? = some u → w.cell? (ad.add j) = some u := by
 intro j u hj
 obtain ⟨v, h1, h2⟩ := flat_back hk (fun v hv => (h.2.1 v hv).1) hj
 have hn : 0 < n := by
  have h3 := (List.getElem?_eq_some_iff.1 h1).1
  rw [h.1] at h3
  exact Nat.lt_of_le_of_lt (Nat.zero_le _) h3
 obtain ⟨ad', e, hc⟩ := h.2.2 hn
 injection e with e
 subst e
 have := hc _ _ h1 _ _ h2
 rwa [Nat.div_add_mod' j k] at this
section
variable {P : Program} (w : World)
theorem run_append_lst {α : Type} {cells : α → List Value} {ok : World → α → Prop} (hone : ∀ v, ∀ u ∈ cells v, u.oneCell' = true) (t ty e : TypeId) (k bytes : Nat) (ht : P.underlying t = some (.slice e)) (he : ElTy P e k bytes) (hk : 0 < k) (hby : bytes ≤ 1000)
  (A : Option Addr) (m c : Nat) (l : List α) (hr : Lst k cells ok w A m l) (hm : m ≤ 1000000) :
  ∃ A' c' w', (Builtin.append_ #[t, t] ty #[.slice none 0 0, .slice A m c]).run P w = .ok (.slice A' m c') w' ∧ NewL e k cells w w' A' m c' l := by
 obtain ⟨i, z, hi, hz, hzs, hsz, hbs⟩ := he
 have hnil : w.ownsRow 0 e k (.slice none 0 0) 0 [] := ⟨by simp, .inl ⟨rfl, rfl⟩⟩
 suffices h : ∃ v' w', (Builtin.append_ #[t, t] ty #[.slice none 0 0, .slice A m c]).run P w = .ok v' w' ∧ w'.ownsRow 0 e k v' m (l.flatMap cells) ∧ w.grownBy w' none ∧ (v'.ownBlock = none ∨ v'.ownBlock = some w.heap.size) by
  obtain ⟨v', w', h1, h2, h3, h4⟩ := h
  obtain ⟨A', c', rfl⟩ := own_form h2
  refine ⟨A', c', w', h1, h2, (Fr.refl [] w).grown h3 (by simp), fun x hx => ?_⟩
  rw [← bk_own A' m c'] at hx
  rcases h4 with h4 | h4 <;> rw [h4] at hx <;> simp at hx <;> omega
 rcases A with _ | ad
 · have hm0 : m = 0 := by
    rcases Nat.eq_zero_or_pos m with h0 | h0
    · exact h0
    · obtain ⟨ad, h, _⟩ := hr.2.2 h0
      cases h
   subst hm0
   have hn : l = [] := List.eq_nil_of_length_eq_zero hr.1
   subst hn
   exact ⟨_, w, run_append_nothing w 0 t ty e i k ht hi _ 0 [] hnil c, by simpa using hnil, World.grownBy.refl w _, .inl rfl⟩
 · obtain ⟨v', w', hrun, h2, h3, _, h5⟩ := run_append_own_at (P := P) w 0 t ty e i z k bytes ht hi hz hsz hbs hzs hk _ 0 [] hnil ad m c (l.flatMap cells)
    (by rw [cells_flat_len (fun v hv => (hr.2.1 v hv).1), hr.1]) (hr.flat hk) (cells_one hone l) (by simp only [maxLen]; omega)
    (Nat.le_trans (Nat.mul_le_mul (show 0 + m ≤ 1000000 by omega) hby) (by decide)) (Nat.zero_le _)
   exact ⟨v', w', hrun, by simpa using h2, h3, by simpa [Value.ownBlock] using h5⟩
theorem wpList_append_lst {α : Type} {cells : α → List Value} {ok : World → α → Prop} {ops : Array Oper} {rest : List Oper} {o : Oper} {a : Act} {Q : Exit → Act → World → Prop} (hgd : o.guard = none) (s x : Operand) (t : TypeId)
  (ho : o.op = .call { callee := .builtin .append, args := #[s, x], argTypes := #[t, t] }) (e : TypeId) (k bytes : Nat) (ht : P.underlying t = some (.slice e)) (he : ElTy P e k bytes) (hk : 0 < k) (hby : bytes ≤ 1000)
  (hone : ∀ v, ∀ u ∈ cells v, u.oneCell' = true) (hs : a.eval s = .slice none 0 0) (A : Option Addr) (m c : Nat) (l : List α) (hx : a.eval x = .slice A m c) (hr : Lst k cells ok w A m l) (hm : m ≤ 1000000)
  (h : ∀ A' c' w', NewL e k cells w w' A' m c' l → wpList P ops Q rest (a.put o.dst (.slice A' m c')) w') : wpList P ops Q (o :: rest) a w := by
 refine wpList_plain hgd fun K hK => ?_
 obtain ⟨A', c', w', hrun, h2⟩ := run_append_lst (P := P) w hone t o.type e k bytes ht he hk hby A m c l hr hm
 unfold Oper.wp execOp
 simp only [ho, resolve, invoke, builtin, Sem.run_bind, Sem.run_pure, Result.andThen_ok, List.map_toArray, List.map_cons, List.map_nil, hs, hx, hrun]
 exact hK _ _ (h A' c' w' h2)
end
theorem el_stamp : ElTy Tryz.prog 32 38 80 := ElTy.of (by kernel_rfl)
theorem copyStamps_any (A : Option Addr) (n c : Nat) (l : List Wst) (w : World) (hr : Lst 38 Wst.cells (fun _ v => v.Ok) w A n l) (hn : n ≤ 1000000) :
  Calls Tryz.prog 116 #[.slice A n c] w fun e w' => ∃ A' c', e = .returned (.slice A' n c') ∧ NewL 32 38 Wst.cells w w' A' n c' l := by
 have HR := Lib.hid hr
 have HN := Lib.hid hn
 clear hr hn
 go_enter Tryz.func116, Tryz.ntmps116
 go_wp2_with (at_builtin; refine Stop.mk ?_)
 refine Stop.go ?_
 refine wpList_append_lst _ rfl (.const (.slice none 0 0)) (.tmp 3) _ rfl 32 38 80 Tryz.underlying33 el_stamp (by decide) (by decide) Wst.one rfl A n c l rfl HR.out HN.out ?_
 intro A1 c1 w1 ho1
 have HO := Lib.hid ho1
 clear ho1
 go_wp2
 go_ret
 exact ⟨A1, c1, rfl, HO.out⟩
theorem cutStamps_any (A : Option Addr) (n c m : Nat) (l : List Wst) (w : World) (hr : Lst 38 Wst.cells (fun _ v => v.Ok) w A n l) (hn : n ≤ maxLen) (hc : n ≤ c) (hm : m ≤ 1000000) :
  Calls Tryz.prog 74 #[.slice A n c, .int .i64 m] w fun e w' => ∃ A' c', e = .returned (.slice A' (l.take m).length c') ∧ NewL 32 38 Wst.cells w w' A' (l.take m).length c' (l.take m) := by
 unfold maxLen at hn
 have HR := Lib.hid hr
 have HL : Hid ((l.take m).length = min m n) := by rw [List.length_take, hr.1]; rfl
 clear hr
 by_cases hnm : n ≤ m
 · have hmin : Hid (min m n = n) := Nat.min_eq_right hnm
   go_enter Tryz.func74, Tryz.ntmps74
   go_wp2_with fail
   rw [show (min (n : Int) (m : Int)).toNat = n by omega]
   refine (copyStamps_any A n c (l.take m) w (by have h := HR.out.1; rw [List.take_of_length_le (by omega)]; exact HR.out) (by omega)).mono ?_
   rintro e w1 ⟨A1, c1, rfl, hN⟩
   have HN := Lib.hid hN
   clear hN
   go_wp2
   go_ret
   rw [HL.out, hmin.out]
   exact ⟨A1, c1, rfl, HN.out⟩
 · have hmin : Hid (min m n = m) := Nat.min_eq_left (by omega)
   have hmc : m ≤ c := by omega
   go_enter Tryz.func74, Tryz.ntmps74
   go_wp2_with fail
   rw [show (min (n : Int) (m : Int)).toNat = m by omega]
   refine (copyStamps_any A m c (l.take m) w (HR.out.take (by omega)) (by omega)).mono ?_
   rintro e w1 ⟨A1, c1, rfl, hN⟩
   have HN := Lib.hid hN
   clear hN
   go_wp2
   go_ret
   rw [HL.out, hmin.out]
   exact ⟨A1, c1, rfl, HN.out⟩
end Go.Proofs.YtpcnedpheplofaaGreat
