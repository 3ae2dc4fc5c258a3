/- Texts that the proof stands on: Package wire: stamps and acks, votes, denials as values; what writes into a writer. | Stamps, acks, votes, denials, signatures that come in: what their reading says of cells. | Packages part and wire: what the writers of parts without lists write; the texts of stamps, acks, votes, denials. | A region that draws its order and stores at its end into blocks that it has read: two conditions on the world, one that holds all along, one that holds till a given operation has come up. Plain lemmas; no program. | Lists of structs or arrays that lie in memory: what their cells are; how one is loaded; how they are opened. | Package commit: Make. | A slice literal of one struct or array; an append of one onto a slice that the call owns. | Package part: lists of parts, and the parts that have lists: what each writes. | Package part: commitments, certificates, promises as values; what their writers write. | Package part: promises as values; what their writers write; what is signed of one. | Package part: openings, tombstones, batches as values; what their writers write. | Package part: batches as values; what their writer writes. | Package wire: a batch's hash; what is signed of a promise, of a proposal. | Copies of lists of structs: gavelkeep's Copy and Cut of stamps. | The statements' own Cert and Promise: small enough to be played. | Commitments, stamps, denials, certificates, promises that come in: what their reading says of cells. | Promises, certificates, commitments, signatures that come in as arguments. | Sorting numbers of 64 digits: what a row of them is; what an exchange makes of it; which of two is less. | Medians: what one is; that there is just one; that sorting finds it. Plain lemmas. | Lists of numbers of 64 digits: copies, cuts, slices.Clone. | Sorting numbers of 64 digits: the insertion sort; a range turned about. | Sorting numbers of 64 digits: a range turned about; the heap. | Sorting numbers of 64 digits: the heap sort; the order of two, the middle one of three, a pivot. | Sorting numbers of 64 digits: the order of two, the middle one of three, a pivot. | Sorting numbers of 64 digits: is a short row sorted? | Sorting numbers of 64 digits: the two partitions. | Sorting numbers of 64 digits: the two partitions. | The shelf's contracts of the library's calls, laid at this program: tables of numbers, facts by the kernel. -/
import Derived.Test.YtlkhfhhaallhgaaCm3
import Derived.Test.YtlkhfhhaallhgaaNm2
import Derived.Test.YtlkhfhhaallhgaaReg
import Derived.Test.YtlkhfhhaallhgaaActs
import Derived.Test.YtlkhfhhaallhgaaReg2
import Derived.Test.YtlkhfhhaallhgaaCm4
import Derived.IntWalk
import Derived.Great.BuildSlice
import Derived.Deep.AppendLies
import Derived.Test.YtlkhfhhaallhgaaShaQ
import Derived.Test.YtlkhfhhaallhgaaHelp
import Derived.Sort.Row
import Derived.Sort.LotA
import Derived.Sort.LotB
import Derived.Sort.LotC
import Derived.Sort.LotD3
import Derived.Sort.WalkA
import Derived.Sort.WalkB3
import Derived.Sort.WalkC4
import Derived.Sort.WalkA6
import Derived.Lib.LazyBuf
import Derived.Deep.DeepCutAuto
import Derived.Deep.CutBlock
import Derived.Shelf.SlSortCmp.WholeK
import Derived.Shelf.Small.Bits
set_option maxRecDepth 100000

namespace Go.Proofs.Ytlkhfhhaallhgaa
open Go.RowKit
set_option maxRecDepth 100000

theorem post_cell (pre hs post : List Value) (hl : hs.length = 32) (k : Nat) {v : Value} (hv : post[k]? = some v) : (pre ++ (hs ++ post))[pre.length + 32 + k]? = some v := by
  rw [List.getElem?_append_right (by omega), List.getElem?_append_right (by omega), ← hv]
  congr 1
  omega
/-- a writer that goes on -/
def Gr (w : World) (S : List Nat) (g : Nat) (l : List UInt8) (w' : World) : Prop := ∃ S', Wr w' S' g l ∧ Fr S w w' ∧ ∀ x ∈ S', x < w.heap.size → x ∈ S
theorem Gr.fr {w w' : World} {S : List Nat} {g : Nat} {l : List UInt8} (h : Gr w S g l w') : Fr S w w' := by obtain ⟨_, _, h, _⟩ := h; exact h
theorem Gr.refl {w : World} {S : List Nat} {g : Nat} {l : List UInt8} (h : Wr w S g l) : Gr w S g l w := ⟨S, h, Fr.refl _ _, fun _ h _ => h⟩
theorem Gr.trans {w w1 w2 : World} {S : List Nat} {g : Nat} {l l' : List UInt8} (h : Gr w S g l w1) (k : ∀ S1, Wr w1 S1 g l → Gr w1 S1 g l' w2) : Gr w S g l' w2 := by
  obtain ⟨S1, h1, h2, h3⟩ := h
  obtain ⟨S2, k1, k2, k3⟩ := k S1 h1
  exact ⟨S2, k1, h2.trans k2 h3, fun x hx hl => h3 x (k3 x hx (Nat.lt_of_lt_of_le hl h2.size)) hl⟩
theorem Gr.call {P : Program} {f : FuncId} {args : Array Value} {w w1 : World} {S : List Nat} {g : Nat} {l l' : List UInt8} {v : Value} (h : Gr w S g l w1)
    (hc : ∀ S1, Wr w1 S1 g l → Calls P f args w1 fun e w' => e = .returned v ∧ Gr w1 S1 g l' w') : Calls P f args w1 fun e w' => e = .returned v ∧ Gr w S g l' w' := by
  obtain ⟨S1, h1, h2, h3⟩ := h
  refine (hc S1 h1).mono ?_
  rintro e w' ⟨rfl, S2, k1, k2, k3⟩
  exact ⟨rfl, S2, k1, h2.trans k2 h3, fun x hx hl => h3 x (k3 x hx (Nat.lt_of_lt_of_le hl h2.size)) hl⟩
theorem Gr.drew {w w1 : World} {S : List Nat} {g : Nat} {l : List UInt8} (h : Gr w S g l w1) : Gr w S g l w1.drew := by
  obtain ⟨S1, h1, h2, h3⟩ := h
  exact ⟨S1, h1, h2.drew, h3⟩
theorem Gr.begin {w wa : World} {S : List Nat} {g : Nat} {l : List UInt8} (h : Wr w S g l) (hf : Fr [] w wa) : Gr wa S g l wa.drew := (Gr.refl (h.keep hf (by simp))).drew
theorem Gr.from_ {w wa w' : World} {S : List Nat} {g : Nat} {l : List UInt8} (h : Gr wa S g l w') (hf : Fr [] w wa) : Gr w S g l w' := by
  obtain ⟨S1, h1, h2, h3⟩ := h
  exact ⟨S1, h1, (hf.mono (T := S) (by simp)).trans h2 (fun x hx _ => hx), fun x hx hl => h3 x hx (Nat.lt_of_lt_of_le hl hf.size)⟩
theorem Gr.eq {w w' : World} {S : List Nat} {g : Nat} {l l' : List UInt8} (h : Gr w S g l w') (e : l = l') : Gr w S g l' w' := e ▸ h
theorem NewWr.gr {w0 w w' : World} {g : Nat} {l l' : List UInt8} (h : NewWr w0 w g l) (k : ∀ S, Wr w S g l → Gr w S g l' w') : NewWr w0 w' g l' := by
  obtain ⟨S, k1, k2, k3⟩ := h
  exact NewWr.add k2 k3 (k S k1)
theorem NewWr.call {P : Program} {f : FuncId} {args : Array Value} {w0 w : World} {g : Nat} {l l' : List UInt8} {v : Value} (h : NewWr w0 w g l)
    (hc : ∀ S, Wr w S g l → Calls P f args w fun e w' => e = .returned v ∧ Gr w S g l' w') : Calls P f args w fun e w' => e = .returned v ∧ NewWr w0 w' g l' := by
  obtain ⟨S, k1, k2, k3⟩ := h
  refine (hc S k1).mono ?_
  rintro e w' ⟨rfl, hg⟩
  exact ⟨rfl, NewWr.add k2 k3 hg⟩
/-- a stamp, or an ack -/
structure Wst where
  r : Int
  c : Int
  s : Int
  h : List UInt8
  t : Nat
  b : Int
  m : Int
def Wst.cells (x : Wst) : List Value := [.int .i64 x.r, .int .i64 x.c, .int .i64 x.s] ++ (x.h.map by8 ++ [.int .u64 (x.t : Int), .int .i64 x.b, .int .i64 x.m])
def Wst.val (x : Wst) : Value := .agg x.cells.toArray
structure Wst.Ok (x : Wst) : Prop where
  r : i64In x.r
  c : i64In x.c
  s : i64In x.s
  h : x.h.length = 32
  t : x.t < 18446744073709551616
  b : i64In x.b
  m : i64In x.m
theorem Wst.len {x : Wst} (h : x.h.length = 32) : x.cells.length = 38 := by simp [Wst.cells, h]
theorem Wst.one (x : Wst) : ∀ v ∈ x.cells, v.oneCell' = true := by
  intro v hv
  simp only [Wst.cells, List.mem_cons, List.mem_append, List.not_mem_nil, or_false] at hv
  rcases hv with (rfl | rfl | rfl) | hv | rfl | rfl | rfl
  · rfl
  · rfl
  · rfl
  · exact by8_one x.h v hv
  · rfl
  · rfl
  · rfl
/-- its fields, where it lies from o on -/
structure Wst.At (w : World) (g o : Nat) (x : Wst) : Prop where
  all : w.rangeAt g o x.cells
  hash : w.rangeAt g (o + 3) (x.h.map by8)
  name : w.rangeAt g (o + 1) [.int .i64 x.c, .int .i64 x.s]
  sig : w.rangeAt g (o + 36) [.int .i64 x.b, .int .i64 x.m]
  r : w.cell? ⟨g, o + 0, none⟩ = some (.int .i64 x.r)
  c : w.cell? ⟨g, o + 1, none⟩ = some (.int .i64 x.c)
  s : w.cell? ⟨g, o + 2, none⟩ = some (.int .i64 x.s)
  t : w.cell? ⟨g, o + 35, none⟩ = some (.int .u64 (x.t : Int))
  b : w.cell? ⟨g, o + 36, none⟩ = some (.int .i64 x.b)
  m : w.cell? ⟨g, o + 37, none⟩ = some (.int .i64 x.m)
theorem Wst.at_of {w : World} {g o : Nat} {x : Wst} (hr : w.rangeAt g o x.cells) (hh : x.h.length = 32) : x.At w g o := by
  have hl : (x.h.map by8).length = 32 := by rw [List.length_map]; exact hh
  have c_r : w.cell? ⟨g, o + 0, none⟩ = some (.int .i64 x.r) := hr 0 _ rfl
  have c_c : w.cell? ⟨g, o + 1, none⟩ = some (.int .i64 x.c) := hr 1 _ rfl
  have c_s : w.cell? ⟨g, o + 2, none⟩ = some (.int .i64 x.s) := hr 2 _ rfl
  have c_t : w.cell? ⟨g, o + 35, none⟩ = some (.int .u64 (x.t : Int)) := hr 35 _ (post_cell [.int .i64 x.r, .int .i64 x.c, .int .i64 x.s] (x.h.map by8) [.int .u64 (x.t : Int), .int .i64 x.b, .int .i64 x.m] hl 0 rfl)
  have c_b : w.cell? ⟨g, o + 36, none⟩ = some (.int .i64 x.b) := hr 36 _ (post_cell [.int .i64 x.r, .int .i64 x.c, .int .i64 x.s] (x.h.map by8) [.int .u64 (x.t : Int), .int .i64 x.b, .int .i64 x.m] hl 1 rfl)
  have c_m : w.cell? ⟨g, o + 37, none⟩ = some (.int .i64 x.m) := hr 37 _ (post_cell [.int .i64 x.r, .int .i64 x.c, .int .i64 x.s] (x.h.map by8) [.int .u64 (x.t : Int), .int .i64 x.b, .int .i64 x.m] hl 2 rfl)
  have r_name : w.rangeAt g (o + 1) [.int .i64 x.c, .int .i64 x.s] := by
    intro j v hv
    rcases j with _ | j
    · simp at hv; subst hv; exact c_c
    rcases j with _ | j
    · simp at hv; subst hv; exact c_s
    · simp at hv
  have r_sig : w.rangeAt g (o + 36) [.int .i64 x.b, .int .i64 x.m] := by
    intro j v hv
    rcases j with _ | j
    · simp at hv; subst hv; exact c_b
    rcases j with _ | j
    · simp at hv; subst hv; exact c_m
    · simp at hv
  have r_hash : w.rangeAt g (o + 3) (x.h.map by8) := rangeAt_sub (xs := [.int .i64 x.r, .int .i64 x.c, .int .i64 x.s]) (ys := x.h.map by8) (zs := [.int .u64 (x.t : Int), .int .i64 x.b, .int .i64 x.m]) hr
  exact ⟨hr, r_hash, r_name, r_sig, c_r, c_c, c_s, c_t, c_b, c_m⟩
theorem Wst.At.keep {w w' : World} {g o : Nat} {x : Wst} {S : List Nat} (h : x.At w g o) (hf : Fr S w w') (hn : ¬ g ∈ S) : x.At w' g o :=
  ⟨hf.range h.all hn, hf.range h.hash hn, hf.range h.name hn, hf.range h.sig hn, hf.cell h.r hn, hf.cell h.c hn, hf.cell h.s hn, hf.cell h.t hn, hf.cell h.b hn, hf.cell h.m hn⟩
/-- a vote -/
structure Wvt where
  k : Int
  e : Int
  r : Int
  p : Int
  h : List UInt8
  b : Int
  m : Int
def Wvt.cells (x : Wvt) : List Value := [.int .i64 x.k, .int .i64 x.e, .int .i64 x.r, .int .i64 x.p] ++ (x.h.map by8 ++ [.int .i64 x.b, .int .i64 x.m])
def Wvt.val (x : Wvt) : Value := .agg x.cells.toArray
structure Wvt.Ok (x : Wvt) : Prop where
  k : i64In x.k
  e : i64In x.e
  r : i64In x.r
  p : i64In x.p
  h : x.h.length = 32
  b : i64In x.b
  m : i64In x.m
theorem Wvt.len {x : Wvt} (h : x.h.length = 32) : x.cells.length = 38 := by simp [Wvt.cells, h]
theorem Wvt.one (x : Wvt) : ∀ v ∈ x.cells, v.oneCell' = true := by
  intro v hv
  simp only [Wvt.cells, List.mem_cons, List.mem_append, List.not_mem_nil, or_false] at hv
  rcases hv with (rfl | rfl | rfl | rfl) | hv | rfl | rfl
  · rfl
  · rfl
  · rfl
  · rfl
  · exact by8_one x.h v hv
  · rfl
  · rfl
/-- its fields, where it lies from o on -/
structure Wvt.At (w : World) (g o : Nat) (x : Wvt) : Prop where
  all : w.rangeAt g o x.cells
  hash : w.rangeAt g (o + 4) (x.h.map by8)
  sig : w.rangeAt g (o + 36) [.int .i64 x.b, .int .i64 x.m]
  k : w.cell? ⟨g, o + 0, none⟩ = some (.int .i64 x.k)
  e : w.cell? ⟨g, o + 1, none⟩ = some (.int .i64 x.e)
  r : w.cell? ⟨g, o + 2, none⟩ = some (.int .i64 x.r)
  p : w.cell? ⟨g, o + 3, none⟩ = some (.int .i64 x.p)
  b : w.cell? ⟨g, o + 36, none⟩ = some (.int .i64 x.b)
  m : w.cell? ⟨g, o + 37, none⟩ = some (.int .i64 x.m)
theorem Wvt.at_of {w : World} {g o : Nat} {x : Wvt} (hr : w.rangeAt g o x.cells) (hh : x.h.length = 32) : x.At w g o := by
  have hl : (x.h.map by8).length = 32 := by rw [List.length_map]; exact hh
  have c_k : w.cell? ⟨g, o + 0, none⟩ = some (.int .i64 x.k) := hr 0 _ rfl
  have c_e : w.cell? ⟨g, o + 1, none⟩ = some (.int .i64 x.e) := hr 1 _ rfl
  have c_r : w.cell? ⟨g, o + 2, none⟩ = some (.int .i64 x.r) := hr 2 _ rfl
  have c_p : w.cell? ⟨g, o + 3, none⟩ = some (.int .i64 x.p) := hr 3 _ rfl
  have c_b : w.cell? ⟨g, o + 36, none⟩ = some (.int .i64 x.b) := hr 36 _ (post_cell [.int .i64 x.k, .int .i64 x.e, .int .i64 x.r, .int .i64 x.p] (x.h.map by8) [.int .i64 x.b, .int .i64 x.m] hl 0 rfl)
  have c_m : w.cell? ⟨g, o + 37, none⟩ = some (.int .i64 x.m) := hr 37 _ (post_cell [.int .i64 x.k, .int .i64 x.e, .int .i64 x.r, .int .i64 x.p] (x.h.map by8) [.int .i64 x.b, .int .i64 x.m] hl 1 rfl)
  have r_sig : w.rangeAt g (o + 36) [.int .i64 x.b, .int .i64 x.m] := by
    intro j v hv
    rcases j with _ | j
    · simp at hv; subst hv; exact c_b
    rcases j with _ | j
    · simp at hv; subst hv; exact c_m
    · simp at hv
  have r_hash : w.rangeAt g (o + 4) (x.h.map by8) := rangeAt_sub (xs := [.int .i64 x.k, .int .i64 x.e, .int .i64 x.r, .int .i64 x.p]) (ys := x.h.map by8) (zs := [.int .i64 x.b, .int .i64 x.m]) hr
  exact ⟨hr, r_hash, r_sig, c_k, c_e, c_r, c_p, c_b, c_m⟩
theorem Wvt.At.keep {w w' : World} {g o : Nat} {x : Wvt} {S : List Nat} (h : x.At w g o) (hf : Fr S w w') (hn : ¬ g ∈ S) : x.At w' g o :=
  ⟨hf.range h.all hn, hf.range h.hash hn, hf.range h.sig hn, hf.cell h.k hn, hf.cell h.e hn, hf.cell h.r hn, hf.cell h.p hn, hf.cell h.b hn, hf.cell h.m hn⟩
/-- a denial -/
structure Wdn where
  r : Int
  i : Int
  b : Int
  m : Int
def Wdn.cells (x : Wdn) : List Value := [.int .i64 x.r, .int .i64 x.i, .int .i64 x.b, .int .i64 x.m]
def Wdn.val (x : Wdn) : Value := .agg x.cells.toArray
structure Wdn.Ok (x : Wdn) : Prop where
  r : i64In x.r
  i : i64In x.i
  b : i64In x.b
  m : i64In x.m
theorem Wdn.len (x : Wdn) : x.cells.length = 4 := rfl
theorem Wdn.one (x : Wdn) : ∀ v ∈ x.cells, v.oneCell' = true := by
  intro v hv
  simp only [Wdn.cells, List.mem_cons, List.not_mem_nil, or_false] at hv
  rcases hv with rfl | rfl | rfl | rfl <;> rfl
/-- its fields, where it lies from o on -/
structure Wdn.At (w : World) (g o : Nat) (x : Wdn) : Prop where
  all : w.rangeAt g o x.cells
  sig : w.rangeAt g (o + 2) [.int .i64 x.b, .int .i64 x.m]
  r : w.cell? ⟨g, o + 0, none⟩ = some (.int .i64 x.r)
  i : w.cell? ⟨g, o + 1, none⟩ = some (.int .i64 x.i)
  b : w.cell? ⟨g, o + 2, none⟩ = some (.int .i64 x.b)
  m : w.cell? ⟨g, o + 3, none⟩ = some (.int .i64 x.m)
theorem Wdn.at_of {w : World} {g o : Nat} {x : Wdn} (hr : w.rangeAt g o x.cells) : x.At w g o := by
  have c_r : w.cell? ⟨g, o + 0, none⟩ = some (.int .i64 x.r) := hr 0 _ rfl
  have c_i : w.cell? ⟨g, o + 1, none⟩ = some (.int .i64 x.i) := hr 1 _ rfl
  have c_b : w.cell? ⟨g, o + 2, none⟩ = some (.int .i64 x.b) := hr 2 _ rfl
  have c_m : w.cell? ⟨g, o + 3, none⟩ = some (.int .i64 x.m) := hr 3 _ rfl
  have r_sig : w.rangeAt g (o + 2) [.int .i64 x.b, .int .i64 x.m] := by
    intro j v hv
    rcases j with _ | j
    · simp at hv; subst hv; exact c_b
    rcases j with _ | j
    · simp at hv; subst hv; exact c_m
    · simp at hv
  exact ⟨hr, r_sig, c_r, c_i, c_b, c_m⟩
theorem Wdn.At.keep {w w' : World} {g o : Nat} {x : Wdn} {S : List Nat} (h : x.At w g o) (hf : Fr S w w') (hn : ¬ g ∈ S) : x.At w' g o :=
  ⟨hf.range h.all hn, hf.range h.sig hn, hf.cell h.r hn, hf.cell h.i hn, hf.cell h.b hn, hf.cell h.m hn⟩
theorem row_stamp : RowTy Try.prog 45 38 := ⟨by kernel_rfl, by kernel_rfl⟩
theorem row_sg : RowTy Try.prog 37 2 := ⟨by kernel_rfl, by kernel_rfl⟩
end Go.Proofs.Ytlkhfhhaallhgaa

namespace Go.Proofs.Ytlkhfhhaallhgaa
open Go.ChangeShapes Go.WideShapes Go.ChangeAt Go.RowKit
set_option maxRecDepth 100000
theorem cut_at {α : Type} (l : List α) (o n k : Nat) (hk : o + n = k) : l.drop o = (l.drop o).take n ++ l.drop k := by
  subst hk
  rw [← List.drop_drop, List.take_append_drop]
theorem stamp_open {H : Type} {enc : TypeId × Value → H} {W : World} {r : Reach} {base b0 : Nat} {v : Value} {d : DataW H} {p : List MemPlace} {sp : Nat → Bool} {held : Bool} (hv : Value.okWide Try.prog W r base 45 v) (h : DataW.Trod enc Try.prog W b0 sp held 45 v d p) (hb : b0 = 0) :
    ∃ x : Wst, x.Ok ∧ v = x.val := by
  subst hb
  unfold Value.okWide at hv
  rw [Try.underlying45] at hv
  obtain ⟨cs, rfl, -⟩ := hv
  obtain ⟨fuel, hf⟩ := h
  obtain ⟨xs, m, _, _, hlen, hxl, hat⟩ := DataW.trod_struct Try.underlying45 (show DataW.trod enc Try.prog W 0 sp held fuel 45 cs.toList = some (d, p) from hf)
  rw [show Try.prog.cellsOf 45 = 38 by kernel_rfl] at hlen
  have hx : ∀ i (hi : i < 5), xs[i]? = some (xs[i]'(by rw [hxl]; exact hi)) := fun i hi => List.getElem?_eq_getElem _
  have f0 : DataW.trod enc Try.prog W 0 sp held m 3 ((cs.toList.drop 0).take (Try.prog.cellsOf 3)) = _ := (hat 0 _ rfl).trans (hx 0 (by omega))
  rw [show Try.prog.cellsOf 3 = 1 by kernel_rfl] at f0
  obtain ⟨r, e0, _, w0⟩ := DataW.trod_int Try.underlying3 f0
  have f1 : DataW.trod enc Try.prog W 0 sp held m 23 ((cs.toList.drop 1).take (Try.prog.cellsOf 23)) = _ := (hat 1 _ rfl).trans (hx 1 (by omega))
  rw [show Try.prog.cellsOf 23 = 2 by kernel_rfl] at f1
  obtain ⟨c, s, w1, w1', e1⟩ := pair_of_trod Try.underlying23 ⟨rfl, rfl⟩ ⟨rfl, rfl⟩ (by kernel_rfl) f1
  have f2 : DataW.trod enc Try.prog W 0 sp held m 35 ((cs.toList.drop 3).take (Try.prog.cellsOf 35)) = _ := (hat 2 _ rfl).trans (hx 2 (by omega))
  rw [show Try.prog.cellsOf 35 = 32 by kernel_rfl] at f2
  obtain ⟨hh, w2, e2⟩ := hash_of_trod f2
  have f3 : DataW.trod enc Try.prog W 0 sp held m 43 ((cs.toList.drop 35).take (Try.prog.cellsOf 43)) = _ := (hat 3 _ rfl).trans (hx 3 (by omega))
  rw [show Try.prog.cellsOf 43 = 1 by kernel_rfl] at f3
  obtain ⟨u3, e3, _, w3⟩ := DataW.trod_int Try.underlying43 f3
  obtain ⟨t, rfl, b3⟩ := u64_of w3
  have f4 : DataW.trod enc Try.prog W 0 sp held m 37 ((cs.toList.drop 36).take (Try.prog.cellsOf 37)) = _ := (hat 4 _ rfl).trans (hx 4 (by omega))
  rw [show Try.prog.cellsOf 37 = 2 by kernel_rfl] at f4
  obtain ⟨b, mm, w4, w4', e4⟩ := pair_of_trod Try.underlying37 ⟨rfl, rfl⟩ ⟨rfl, rfl⟩ (by kernel_rfl) f4
  refine ⟨⟨r, c, s, hh, t, b, mm⟩, ⟨i64In_of w0, w1, w1', w2, b3, w4, w4'⟩, ?_⟩
  have key : cs.toList = Wst.cells ⟨r, c, s, hh, t, b, mm⟩ := by
    have z : cs.toList.drop 38 = [] := List.drop_eq_nil_of_le (by omega)
    have s0 : cs.toList = cs.toList.drop 0 := rfl
    rw [s0, cut_at cs.toList 0 1 1 rfl, e0, cut_at cs.toList 1 2 3 rfl, e1, cut_at cs.toList 3 32 35 rfl, e2, cut_at cs.toList 35 1 36 rfl, e3, cut_at cs.toList 36 2 38 rfl, e4, z]
    simp [Wst.cells]
  show Value.agg cs = Value.agg _
  rw [← key, Array.toArray_toList]
end Go.Proofs.Ytlkhfhhaallhgaa

namespace Go.Proofs.Ytlkhfhhaallhgaa
open Go.RowKit
set_option maxRecDepth 100000

def sgL (b m : Int) : List UInt8 := encI b ++ encI m
def nmL (c s : Int) : List UInt8 := encI c ++ encI s
set_option maxHeartbeats 1000000 in
theorem putName_any (c s : Int) (hc : i64In c) (hs : i64In s) (w : World) (S : List Nat) (g : Nat) (l : List UInt8) (hw : Wr w S g l) (hl : l.length + 40 ≤ 1073741000) :
    Calls Try.prog 78 #[.pointer (some ⟨g, 0, none⟩), .agg #[.int .i64 c, .int .i64 s]] w fun e w' => e = .returned (.pointer (some ⟨g, 0, none⟩)) ∧ Gr w S g (l ++ nmL c s) w' := by
  obtain ⟨wa, hwa⟩ : ∃ wa, wa = w.alloc (Obj.cells #[.int .i64 c, .int .i64 s] 23) := ⟨_, rfl⟩
  have hf0 : Fr [] w wa := by rw [hwa]; exact (Fr.refl [] w).alloc _
  have hb0 : Blk wa w.heap.size 23 #[.int .i64 c, .int .i64 s] := by rw [hwa]; exact Blk.new _ _ _
  have HNS : Hid (¬ w.heap.size ∈ S) := Lib.hid (fun h => by have := hw.lt _ h; omega)
  have HG0 := Lib.hid (Gr.begin hw hf0)
  have HC0 := Lib.hid (rangeAt_cell (Blk.range (cs := [.int .i64 c, .int .i64 s]) hb0) 0 rfl rfl)
  have HC1 := Lib.hid (rangeAt_cell (Blk.range (cs := [.int .i64 c, .int .i64 s]) hb0) 1 rfl rfl)
  have HF0 := Lib.hid hf0
  have HWA := Lib.hid hwa
  have HL := Lib.hid hl
  have HC := Lib.hid hc
  have HS := Lib.hid hs
  clear hwa hf0 hb0 hl hw hc hs
  go_enter Try.func78, Try.ntmps78
  go_wp2
  rw [← HWA.out]
  refine wp_region_held_drew (S := Fr S wa) (by kernel_rfl) (Fr.drew (Fr.refl _ wa)) (fun hHeld => ?_)
  refine run_at (i := 0) (v := ?_) rfl (by kernel_rfl) (by rfl) (fun _ _ _ h => h) hHeld (fun w1 hw1 => ?_) ?_
  rotate_left 1
  · skip
    go_simp
    (try (first | with_reducible rfl | (apply And.intro <;> rfl)))
  simp only [Act.put, List.setIfInBounds_toArray, List.set_cons_zero, List.set_cons_succ]
  refine run_at (i := 1) (v := ?_) rfl (by kernel_rfl) (by rfl) (fun _ _ _ h => h) hHeld (fun w1 hw1 => ?_) ?_
  rotate_left 1
  · skip
    go_simp
    (try (first | with_reducible rfl | (apply And.intro <;> rfl)))
  simp only [Act.put, List.setIfInBounds_toArray, List.set_cons_zero, List.set_cons_succ]
  refine run_at (i := 2) (v := ?_) rfl (by kernel_rfl) (by rfl) (fun _ _ _ h => h) hHeld (fun w1 hw1 => ?_) ?_
  rotate_left 1
  · skip
    have hcw0 := hw1.cell (HC0.out) (by first | (simp; done) | exact HNS.out | exact HNW.out | (intro hm; have hlt := HSB.out _ hm; (try dsimp only at hlt); omega))
    go_simp
    (try (first | with_reducible rfl | (apply And.intro <;> rfl)))
  simp only [Act.put, List.setIfInBounds_toArray, List.set_cons_zero, List.set_cons_succ]
  refine run_at (i := 4) (v := ?_) rfl (by kernel_rfl) (by rfl) (fun _ _ _ h => h) hHeld (fun w1 hw1 => ?_) ?_
  rotate_left 1
  · skip
    go_simp
    (try (first | with_reducible rfl | (apply And.intro <;> rfl)))
  simp only [Act.put, List.setIfInBounds_toArray, List.set_cons_zero, List.set_cons_succ]
  refine run_at (i := 5) (v := ?_) rfl (by kernel_rfl) (by rfl) (fun _ _ _ h => h) hHeld (fun w1 hw1 => ?_) ?_
  rotate_left 1
  · skip
    have hcw0 := hw1.cell (HC1.out) (by first | (simp; done) | exact HNS.out | exact HNW.out | (intro hm; have hlt := HSB.out _ hm; (try dsimp only at hlt); omega))
    go_simp
    (try (first | with_reducible rfl | (apply And.intro <;> rfl)))
  simp only [Act.put, List.setIfInBounds_toArray, List.set_cons_zero, List.set_cons_succ]
  refine call_at (i := 3) (f := ?_) (args := ?_) rfl (by kernel_rfl) (by rfl) ?_ ?_
  rotate_left 2
  · go_simp
    (try (first | with_reducible rfl | (apply And.intro <;> rfl)))
  refine (HG0.out.call fun S1 k1 => int_any c HC.out.1 HC.out.2 _ S1 g _ k1 (by have h0 := HL.out; (try simp only [List.length_append, sgL, nmL] at *); omega)).mono ?_
  rintro e w1 ⟨rfl, hg1⟩
  have HG1 := Lib.hid hg1
  refine ⟨_, rfl, hg1.fr, fun hHeld => ?_⟩
  clear hg1 HG0
  simp only [Act.put, List.setIfInBounds_toArray, List.set_cons_zero, List.set_cons_succ]
  refine call_at (i := 6) (f := ?_) (args := ?_) rfl (by kernel_rfl) (by rfl) ?_ ?_
  rotate_left 2
  · go_simp
    (try (first | with_reducible rfl | (apply And.intro <;> rfl)))
  refine (HG1.out.call fun S1 k1 => int_any s HS.out.1 HS.out.2 _ S1 g _ k1 (by have h0 := HL.out; have b0 := encI_len c HC.out.2; (try simp only [List.length_append, sgL, nmL] at *); omega)).mono ?_
  rintro e w2 ⟨rfl, hg2⟩
  have HG2 := Lib.hid hg2
  refine ⟨_, rfl, hg2.fr, fun hHeld => ?_⟩
  clear hg2 HG1
  simp only [Act.put, List.setIfInBounds_toArray, List.set_cons_zero, List.set_cons_succ]
  refine run_at (i := 7) (v := ?_) rfl (by kernel_rfl) (by rfl) (fun _ _ _ h => h) hHeld (fun w1 hw1 => ?_) ?_
  rotate_left 1
  · skip
    go_simp
    (try (first | with_reducible rfl | (apply And.intro <;> rfl)))
  simp only [Act.put, List.setIfInBounds_toArray, List.set_cons_zero, List.set_cons_succ]
  refine wpAnyH_done (by kernel_rfl) ?_ _
  go_wp2
  go_ret
  exact ⟨rfl, (HG2.out.from_ HF0.out).eq (by simp [nmL, List.append_assoc])⟩
def Wst.bare (x : Wst) : List UInt8 := encI x.r ++ nmL x.c x.s ++ x.h ++ enc x.t
def Wst.full (x : Wst) : List UInt8 := x.bare ++ sgL x.b x.m
set_option maxHeartbeats 1000000 in
theorem stampFields_any (x : Wst) (hx : x.Ok) (w : World) (S : List Nat) (g : Nat) (l : List UInt8) (hw : Wr w S g l) (hl : l.length + 100 ≤ 1073741000) :
    Calls Try.prog 59 #[.pointer (some ⟨g, 0, none⟩), x.val] w fun e w' => e = .returned (.pointer (some ⟨g, 0, none⟩)) ∧ Gr w S g (l ++ x.bare) w' := by
  obtain ⟨wa, hwa⟩ : ∃ wa, wa = w.alloc (Obj.cells x.cells.toArray 45) := ⟨_, rfl⟩
  have hf0 : Fr [] w wa := by rw [hwa]; exact (Fr.refl [] w).alloc _
  have hb0 : Blk wa w.heap.size 45 x.cells.toArray := by rw [hwa]; exact Blk.new _ _ _
  have HNS : Hid (¬ w.heap.size ∈ S) := Lib.hid (fun h => by have := hw.lt _ h; omega)
  have HG0 := Lib.hid (Gr.begin hw hf0)
  have HALL := Lib.hid hb0.range
  have HAT := Lib.hid (Wst.at_of (o := 0) hb0.range hx.h)
  have HLN : Hid (x.cells.length = 38) := Lib.hid (Wst.len hx.h)
  have HF0 := Lib.hid hf0
  have HWA := Lib.hid hwa
  have HL := Lib.hid hl
  have HX := Lib.hid hx
  clear hwa hf0 hb0 hl hw hx
  unfold Wst.val
  generalize hC : x.cells = C at *
  have HRC := Lib.hid hC
  clear hC
  go_enter Try.func59, Try.ntmps59
  go_wp2
  rw [← HWA.out]
  refine wp_region_held_drew (S := Fr S wa) (by kernel_rfl) (Fr.drew (Fr.refl _ wa)) (fun hHeld => ?_)
  refine run_at (i := 0) (v := ?_) rfl (by kernel_rfl) (by rfl) (fun _ _ _ h => h) hHeld (fun w1 hw1 => ?_) ?_
  rotate_left 1
  · skip
    go_simp
    (try (first | with_reducible rfl | (apply And.intro <;> rfl)))
  simp only [Act.put, List.setIfInBounds_toArray, List.set_cons_zero, List.set_cons_succ]
  refine run_at (i := 1) (v := ?_) rfl (by kernel_rfl) (by rfl) (fun _ _ _ h => h) hHeld (fun w1 hw1 => ?_) ?_
  rotate_left 1
  · skip
    go_simp
    (try (first | with_reducible rfl | (apply And.intro <;> rfl)))
  simp only [Act.put, List.setIfInBounds_toArray, List.set_cons_zero, List.set_cons_succ]
  refine run_at (i := 2) (v := ?_) rfl (by kernel_rfl) (by rfl) (fun _ _ _ h => h) hHeld (fun w1 hw1 => ?_) ?_
  rotate_left 1
  · skip
    have hcw0 := hw1.cell (HAT.out.r) (by first | (simp; done) | exact HNS.out | exact HNW.out | (intro hm; have hlt := HSB.out _ hm; (try dsimp only at hlt); omega))
    go_simp
    (try (first | with_reducible rfl | (apply And.intro <;> rfl)))
  simp only [Act.put, List.setIfInBounds_toArray, List.set_cons_zero, List.set_cons_succ]
  refine run_at (i := 4) (v := ?_) rfl (by kernel_rfl) (by rfl) (fun _ _ _ h => h) hHeld (fun w1 hw1 => ?_) ?_
  rotate_left 1
  · skip
    go_simp
    (try (first | with_reducible rfl | (apply And.intro <;> rfl)))
  simp only [Act.put, List.setIfInBounds_toArray, List.set_cons_zero, List.set_cons_succ]
  refine row_at (i := 5) rfl (by kernel_rfl) (by rfl) _ _ rfl _ _ rfl _ (fun w1 hw1 => hw1.range (HAT.out.name) (by first | (simp; done) | exact HNS.out | exact HNW.out | (intro hm; have hlt := HSB.out _ hm; (try dsimp only at hlt); omega))) (row_name) (fun _ _ _ h => h) hHeld ?_
  simp only [Act.put, List.setIfInBounds_toArray, List.set_cons_zero, List.set_cons_succ]
  refine run_at (i := 7) (v := ?_) rfl (by kernel_rfl) (by rfl) (fun _ _ _ h => h) hHeld (fun w1 hw1 => ?_) ?_
  rotate_left 1
  · skip
    go_simp
    (try (first | with_reducible rfl | (apply And.intro <;> rfl)))
  simp only [Act.put, List.setIfInBounds_toArray, List.set_cons_zero, List.set_cons_succ]
  refine row_at (i := 8) rfl (by kernel_rfl) (by rfl) _ _ rfl _ _ rfl _ (fun w1 hw1 => hw1.range (HAT.out.hash) (by first | (simp; done) | exact HNS.out | exact HNW.out | (intro hm; have hlt := HSB.out _ hm; (try dsimp only at hlt); omega))) (row_hash.of (by rw [List.length_map]; exact HX.out.h)) (fun _ _ _ h => h) hHeld ?_
  simp only [Act.put, List.setIfInBounds_toArray, List.set_cons_zero, List.set_cons_succ]
  refine run_at (i := 10) (v := ?_) rfl (by kernel_rfl) (by rfl) (fun _ _ _ h => h) hHeld (fun w1 hw1 => ?_) ?_
  rotate_left 1
  · skip
    go_simp
    (try (first | with_reducible rfl | (apply And.intro <;> rfl)))
  simp only [Act.put, List.setIfInBounds_toArray, List.set_cons_zero, List.set_cons_succ]
  refine run_at (i := 11) (v := ?_) rfl (by kernel_rfl) (by rfl) (fun _ _ _ h => h) hHeld (fun w1 hw1 => ?_) ?_
  rotate_left 1
  · skip
    have hcw0 := hw1.cell (HAT.out.t) (by first | (simp; done) | exact HNS.out | exact HNW.out | (intro hm; have hlt := HSB.out _ hm; (try dsimp only at hlt); omega))
    go_simp
    (try (first | with_reducible rfl | (apply And.intro <;> rfl)))
  simp only [Act.put, List.setIfInBounds_toArray, List.set_cons_zero, List.set_cons_succ]
  refine call_at (i := 3) (f := ?_) (args := ?_) rfl (by kernel_rfl) (by rfl) ?_ ?_
  rotate_left 2
  · go_simp
    (try (first | with_reducible rfl | (apply And.intro <;> rfl)))
  refine (HG0.out.call fun S1 k1 => int_any x.r HX.out.r.1 HX.out.r.2 _ S1 g _ k1 (by have h0 := HL.out; (try simp only [List.length_append, sgL, nmL] at *); omega)).mono ?_
  rintro e w1 ⟨rfl, hg1⟩
  have HG1 := Lib.hid hg1
  refine ⟨_, rfl, hg1.fr, fun hHeld => ?_⟩
  clear hg1 HG0
  simp only [Act.put, List.setIfInBounds_toArray, List.set_cons_zero, List.set_cons_succ]
  refine call_at (i := 6) (f := ?_) (args := ?_) rfl (by kernel_rfl) (by rfl) ?_ ?_
  rotate_left 2
  · go_simp
    (try (first | with_reducible rfl | (apply And.intro <;> rfl)))
  refine (HG1.out.call fun S1 k1 => putName_any x.c x.s HX.out.c HX.out.s _ S1 g _ k1 (by have h0 := HL.out; have b0 := encI_len x.r HX.out.r.2; (try simp only [List.length_append, sgL, nmL] at *); omega)).mono ?_
  rintro e w2 ⟨rfl, hg2⟩
  have HG2 := Lib.hid hg2
  refine ⟨_, rfl, hg2.fr, fun hHeld => ?_⟩
  clear hg2 HG1
  simp only [Act.put, List.setIfInBounds_toArray, List.set_cons_zero, List.set_cons_succ]
  refine call_at (i := 9) (f := ?_) (args := ?_) rfl (by kernel_rfl) (by rfl) ?_ ?_
  rotate_left 2
  · go_simp
    (try (first | with_reducible rfl | (apply And.intro <;> rfl)))
  refine (HG2.out.call fun S1 k1 => hash_any x.h HX.out.h _ S1 g _ k1 (by have h0 := HL.out; have b0 := encI_len x.r HX.out.r.2; have b1 := encI_len x.c HX.out.c.2; have b2 := encI_len x.s HX.out.s.2; (try simp only [List.length_append, sgL, nmL] at *); omega)).mono ?_
  rintro e w3 ⟨rfl, hg3⟩
  have HG3 := Lib.hid hg3
  refine ⟨_, rfl, hg3.fr, fun hHeld => ?_⟩
  clear hg3 HG2
  simp only [Act.put, List.setIfInBounds_toArray, List.set_cons_zero, List.set_cons_succ]
  refine call_at (i := 12) (f := ?_) (args := ?_) rfl (by kernel_rfl) (by rfl) ?_ ?_
  rotate_left 2
  · go_simp
    (try (first | with_reducible rfl | (apply And.intro <;> rfl)))
  refine (HG3.out.call fun S1 k1 => num_any x.t HX.out.t _ S1 g _ k1 (by have h0 := HL.out; have b0 := encI_len x.r HX.out.r.2; have b1 := encI_len x.c HX.out.c.2; have b2 := encI_len x.s HX.out.s.2; have b3 := HX.out.h; (try simp only [List.length_append, sgL, nmL] at *); omega)).mono ?_
  rintro e w4 ⟨rfl, hg4⟩
  have HG4 := Lib.hid hg4
  refine ⟨_, rfl, hg4.fr, fun hHeld => ?_⟩
  clear hg4 HG3
  simp only [Act.put, List.setIfInBounds_toArray, List.set_cons_zero, List.set_cons_succ]
  refine run_at (i := 13) (v := ?_) rfl (by kernel_rfl) (by rfl) (fun _ _ _ h => h) hHeld (fun w1 hw1 => ?_) ?_
  rotate_left 1
  · skip
    go_simp
    (try (first | with_reducible rfl | (apply And.intro <;> rfl)))
  simp only [Act.put, List.setIfInBounds_toArray, List.set_cons_zero, List.set_cons_succ]
  refine wpAnyH_done (by kernel_rfl) ?_ _
  go_wp2
  go_ret
  exact ⟨rfl, (HG4.out.from_ HF0.out).eq (by simp [Wst.bare, List.append_assoc])⟩
theorem stampFields_any' (x : Wst) (hx : x.Ok) (C : List Value) (hC : x.cells = C) (w : World) (S : List Nat) (g : Nat) (l : List UInt8) (hw : Wr w S g l) (hl : l.length + 100 ≤ 1073741000) :
    Calls Try.prog 59 #[.pointer (some ⟨g, 0, none⟩), .agg C.toArray] w fun e w' => e = .returned (.pointer (some ⟨g, 0, none⟩)) ∧ Gr w S g (l ++ x.bare) w' := by
  subst hC
  exact stampFields_any x hx w S g l hw hl
theorem Wst.bare_len {x : Wst} (hx : x.Ok) : x.bare.length ≤ 72 := by
  have b0 := encI_len x.r hx.r.2
  have b1 := encI_len x.c hx.c.2
  have b2 := encI_len x.s hx.s.2
  have b3 := hx.h
  have b4 := enc_ten hx.t
  simp only [Wst.bare, nmL, List.length_append]
  omega
def Wvt.bare (x : Wvt) : List UInt8 := encI x.k ++ encI x.e ++ encI x.r ++ encI x.p ++ x.h
def Wvt.full (x : Wvt) : List UInt8 := x.bare ++ sgL x.b x.m
theorem Wvt.bare_len {x : Wvt} (hx : x.Ok) : x.bare.length ≤ 72 := by
  have b0 := encI_len x.k hx.k.2
  have b1 := encI_len x.e hx.e.2
  have b2 := encI_len x.r hx.r.2
  have b3 := hx.h
  have b4 := encI_len x.p hx.p.2
  simp only [Wvt.bare, List.length_append]
  omega
def Wdn.bare (x : Wdn) : List UInt8 := encI x.r ++ encI x.i
def Wdn.full (x : Wdn) : List UInt8 := x.bare ++ sgL x.b x.m
theorem Wdn.bare_len {x : Wdn} (hx : x.Ok) : x.bare.length ≤ 72 := by
  have b0 := encI_len x.r hx.r.2
  have b1 := encI_len x.i hx.i.2
  simp only [Wdn.bare, List.length_append]
  omega
set_option maxHeartbeats 1000000 in
theorem wbegin_any (t : List UInt8) (ht : t.length ≤ 1000) (w : World) :
    Calls Try.prog 60 #[.string ⟨t.toArray⟩] w fun e w' => ∃ g, e = .returned (.pointer (some ⟨g, 0, none⟩)) ∧ NewWr w w' g (enc t.length ++ t) := by
  go_enter Try.func60, Try.ntmps60
  go_wp2_with fail
  refine (newWriter_any _).mono ?_
  rintro e w1 ⟨rfl, hw1, hf1⟩
  obtain ⟨w2, A, cc, hconv, hf2, hy2, hbk⟩ := conv_str w1 t
  have HW := Lib.hid (hw1.keep hf2 (by simp))
  have HY := Lib.hid hy2
  have HA : Hid (∀ k ∈ bk A, ¬ k ∈ [w.heap.size]) := Lib.hid (fun k hk => by have := (hbk k hk).1; have := hw1.lt _ (List.mem_singleton.2 rfl); simp only [List.mem_singleton]; omega)
  have HF := Lib.hid (hf1.and hf2 (by simp))
  generalize hgw : w.heap.size = g at *
  have HGW := Lib.hid hgw
  clear hw1 hf1 hf2 hy2 hbk hgw
  go_wp2_with fail
  refine (row_any A t.length cc t w2 HY.out (by omega) [g] HA.out g [] HW.out (by decide)).mono ?_
  rintro e w3 ⟨rfl, S3, hw3, hf3, hs3⟩
  have hn : NewWr w w3 g (enc t.length ++ t) := ⟨S3, by simpa using hw3, HF.out.go hf3 (by have := HGW.out; simp; omega), fun x hx => by
    have h1 := HGW.out
    have h2 := HF.out.size
    by_cases hl : x < w2.heap.size
    · have h := hs3 x hx hl
      simp at h
      omega
    · omega⟩
  have HN := Lib.hid hn
  clear hn hw3 hf3 hs3
  go_wp2
  go_ret
  exact ⟨g, rfl, HN.out⟩
def wWst : List UInt8 := [115, 116, 97, 109, 112]
def Wst.text (x : Wst) : List UInt8 := enc wWst.length ++ wWst ++ x.bare
theorem Wst.text_len {x : Wst} (hx : x.Ok) : x.text.length ≤ 100 := by
  have b0 := Wst.bare_len hx
  have b1 := enc_ten (m := wWst.length) (by decide)
  have b2 : wWst.length = 5 := rfl
  simp only [Wst.text, List.length_append]
  omega
set_option maxHeartbeats 1000000 in
theorem stampText_any (x : Wst) (hx : x.Ok) (w : World) :
    Calls Try.prog 46 #[x.val] w fun e w' => ∃ A c, e = .returned (.slice A x.text.length c) ∧ NewB w w' A x.text.length c x.text := by
  obtain ⟨wa, hwa⟩ : ∃ wa, wa = w.alloc (Obj.cells x.cells.toArray 45) := ⟨_, rfl⟩
  have hf0 : Fr [] w wa := by rw [hwa]; exact (Fr.refl [] w).alloc _
  have hb0 : Blk wa w.heap.size 45 x.cells.toArray := by rw [hwa]; exact Blk.new _ _ _
  have HALL := Lib.hid hb0.range
  have HLN : Hid (x.cells.length = 38) := Lib.hid (Wst.len hx.h)
  have HTL := Lib.hid (Wst.text_len hx)
  have HF0 := Lib.hid hf0
  have HWA := Lib.hid hwa
  have HX := Lib.hid hx
  clear hwa hf0 hb0 hx
  unfold Wst.val
  generalize hC : x.cells = C at *
  have HRC := Lib.hid hC
  clear hC
  go_enter Try.func46, Try.ntmps46
  go_wp2
  rw [← HWA.out]
  refine wp_region_held_drew (S := Fr [] wa) (by kernel_rfl) (Fr.drew (Fr.refl _ wa)) (fun hHeld => ?_)
  refine row_at (i := 1) rfl (by kernel_rfl) (by rfl) _ _ rfl _ _ rfl _ (fun w1 hw1 => hw1.range (HALL.out) (by first | (simp; done) | exact HNS.out | exact HNW.out | (intro hm; have hlt := HSB.out _ hm; (try dsimp only at hlt); omega))) (row_stamp.of HLN.out) (fun _ _ _ h => h) hHeld ?_
  simp only [Act.put, List.setIfInBounds_toArray, List.set_cons_zero, List.set_cons_succ]
  refine call_at (i := 0) (f := ?_) (args := ?_) rfl (by kernel_rfl) (by rfl) ?_ ?_
  rotate_left 2
  · go_simp
    (try (first | with_reducible rfl | (apply And.intro <;> rfl)))
  refine (wbegin_any wWst (by decide) _).mono ?_
  rintro e w1 ⟨g, rfl, hw1⟩
  have HW := Lib.hid (hw1.from_ (Fr.drew (Fr.refl [] wa)))
  refine ⟨_, rfl, HW.out.fr, fun hHeld => ?_⟩
  clear hw1
  simp only [Act.put, List.setIfInBounds_toArray, List.set_cons_zero, List.set_cons_succ]
  refine call_at (i := 2) (f := ?_) (args := ?_) rfl (by kernel_rfl) (by rfl) ?_ ?_
  rotate_left 2
  · go_simp
    (try (first | with_reducible rfl | (apply And.intro <;> rfl)))
  refine (HW.out.call fun S1 k1 => stampFields_any' x HX.out C HRC.out _ S1 g _ k1 (by have b1 := enc_ten (m := wWst.length) (by decide); have b2 : wWst.length = 5 := rfl; simp only [List.length_append]; omega)).mono ?_
  rintro e w2 ⟨rfl, hw2⟩
  have HW2 : Hid (NewWr wa w2 g x.text) := Lib.hid hw2
  refine ⟨_, rfl, hw2.fr, fun hHeld => ?_⟩
  clear hw2 HW
  simp only [Act.put, List.setIfInBounds_toArray, List.set_cons_zero, List.set_cons_succ]
  refine call_at (i := 3) (f := ?_) (args := ?_) rfl (by kernel_rfl) (by rfl) ?_ ?_
  rotate_left 2
  · go_simp
    (try (first | with_reducible rfl | (apply And.intro <;> rfl)))
  refine (bytes_head wa w2 g _ HW2.out (by have := HTL.out; omega)).mono ?_
  rintro e w3 ⟨A3, c3, rfl, hn3⟩
  have HN3 := Lib.hid hn3
  refine ⟨_, rfl, hn3.2.1, fun hHeld => ?_⟩
  clear hn3 HW2
  simp only [Act.put, List.setIfInBounds_toArray, List.set_cons_zero, List.set_cons_succ]
  refine run_at (i := 4) (v := ?_) rfl (by kernel_rfl) (by rfl) (fun _ _ _ h => h) hHeld (fun w1 hw1 => ?_) ?_
  rotate_left 1
  · skip
    go_simp
    (try (first | with_reducible rfl | (apply And.intro <;> rfl)))
  simp only [Act.put, List.setIfInBounds_toArray, List.set_cons_zero, List.set_cons_succ]
  refine wpAnyH_done (by kernel_rfl) ?_ _
  go_wp2
  go_ret
  exact ⟨A3, c3, rfl, HN3.out.1, HF0.out.and HN3.out.2.1 (by simp), fun k hk => Nat.le_trans HF0.out.size (HN3.out.2.2 k hk)⟩
def wWvt : List UInt8 := [118, 111, 116, 101]
def Wvt.text (x : Wvt) : List UInt8 := enc wWvt.length ++ wWvt ++ x.bare
theorem Wvt.text_len {x : Wvt} (hx : x.Ok) : x.text.length ≤ 100 := by
  have b0 := Wvt.bare_len hx
  have b1 := enc_ten (m := wWvt.length) (by decide)
  have b2 : wWvt.length = 4 := rfl
  simp only [Wvt.text, List.length_append]
  omega
def wWdn : List UInt8 := [100, 101, 110, 121]
def Wdn.text (x : Wdn) : List UInt8 := enc wWdn.length ++ wWdn ++ x.bare
theorem Wdn.text_len {x : Wdn} (hx : x.Ok) : x.text.length ≤ 100 := by
  have b0 := Wdn.bare_len hx
  have b1 := enc_ten (m := wWdn.length) (by decide)
  have b2 : wWdn.length = 4 := rfl
  simp only [Wdn.text, List.length_append]
  omega
end Go.Proofs.Ytlkhfhhaallhgaa

namespace Go.Proofs.Ytlkhfhhaallhgaa
open Go.RowKit
set_option maxRecDepth 100000

/-- whatever has come up, so has all that it waits for -/
def Cl (md : Region.Mode) (ops : Array Oper) (L : Array Bool) : Prop :=
  ∀ j oj, ops[j]? = some oj → L.getD j false = true → ∀ e ∈ oj.after, Region.binds md e = true → L.getD e.on false = true
/-- does k wait for i, straight or through others? -/
def awaits (md : Region.Mode) (ops : Array Oper) : Nat → Nat → Nat → Bool
  | 0, _, _ => false
  | f + 1, k, i => match ops[k]? with
    | none => false
    | some o => o.after.any fun e => Region.binds md e && (e.on == i || awaits md ops f e.on i)
theorem awaits_listed {md : Region.Mode} {ops : Array Oper} {L : Array Bool} (hc : Cl md ops L) : ∀ (f k i : Nat), awaits md ops f k i = true → L.getD k false = true → L.getD i false = true
  | 0, _, _, h, _ => by simp [awaits] at h
  | f + 1, k, i, h, hk => by
    unfold awaits at h
    cases ho : ops[k]? with
    | none => rw [ho] at h; simp at h
    | some o =>
      rw [ho] at h
      simp only [Array.any_eq_true] at h
      obtain ⟨n, hn, hb⟩ := h
      simp only [Bool.and_eq_true, Bool.or_eq_true, beq_iff_eq] at hb
      have hl := hc k o ho hk _ (Array.getElem_mem hn) hb.1
      rcases hb.2 with h2 | h2
      · rw [← h2]; exact hl
      · exact awaits_listed hc f _ _ h2 hl
theorem getD_two {L : Array Bool} {i : Nat} (h : L.getD i true = false) : L.getD i false = false := by
  rcases Nat.lt_or_ge i L.size with h' | h'
  · simpa [h'] using h
  · simp [Array.getElem?_eq_none h']
theorem pending {md : Region.Mode} {ops : Array Oper} {T i : Nat} (h : awaits md ops ops.size T i = true) (L : Array Bool) (hc : Cl md ops L) (hp : L.getD i true = false) : L.getD T false = false := by
  cases ht : L.getD T false with
  | false => rfl
  | true =>
    have h1 := awaits_listed hc _ _ _ h ht
    rw [getD_two hp] at h1
    cases h1
def wpTill (P : Program) (md : Region.Mode) (ops : Array Oper) (Q : Exit → Act → World → Prop) (T : Nat) (A B : World → Prop) : Nat → Array Bool → Act → World → Prop
  | 0, L, a, w => Region.ready md ops L = [] ∧ Q .normal a w
  | f + 1, L, a, w => (Region.ready md ops L = [] → Q .normal a w) ∧
    ∀ i ∈ Region.ready md ops L, wpOp P ops Q i (fun a' w' => (A w' ∧ ((L.setIfInBounds i true).getD T false = false → B w')) ∧ wpTill P md ops Q T A B f (L.setIfInBounds i true) a' w') a w
section
variable {P : Program} {ops : Array Oper} {Q : Exit → Act → World → Prop} {md : Region.Mode} {T : Nat} {A B : World → Prop}
theorem wpAny_of_till : ∀ (f : Nat) (L : Array Bool) (a : Act) (w : World), wpTill P md ops Q T A B f L a w → wpAny P md ops Q f L a w
  | 0, _, _, _, h => h
  | f + 1, _, _, _, h => ⟨h.1, fun i hi => wpOp_mono (fun a' w' h' => wpAny_of_till f _ a' w' h'.2) (h.2 i hi)⟩
theorem Cl.set {L : Array Bool} (hc : Cl md ops L) {i : Nat} (hi : i ∈ Region.ready md ops L) : Cl md ops (L.setIfInBounds i true) := by
  obtain ⟨_, oi, hoi, hall⟩ := mem_ready.1 hi
  intro j oj hj hl e he hb
  have up : ∀ k, L.getD k false = true → (L.setIfInBounds i true).getD k false = true := fun k hk => by
    by_cases hik : i = k
    · subst hik
      rcases Nat.lt_or_ge i L.size with h' | h'
      · simp [h']
      · simp [Array.getElem?_eq_none h'] at hk
    · rw [getD_set_ne false hik]; exact hk
  by_cases hij : i = j
  · subst hij
    have : oi = oj := Option.some.inj (hoi.symm.trans hj)
    subst this
    exact up _ (hall e he hb)
  · rw [getD_set_ne false hij] at hl
    exact up _ (hc j oj hj hl e he hb)
/-- an operation that yields the same wherever both conditions hold, and for which T waits, may be taken first -/
theorem till_take {i : Nat} {oi : Oper} {v : Value} (hi : ops[i]? = some oi) (hs : Region.noSelect ops = true) (hiT : i ≠ T) (hp : awaits md ops ops.size T i = true) (hQ : ∀ c a w, Q (.panic c) (a.put oi.dst v) w → Q (.panic c) a w) :
    ∀ (f : Nat) (L : Array Bool) (a : Act) (w : World), (∀ j oj, ops[j]? = some oj → j ≠ i → L.getD j true = false → (∀ e ∈ oj.after, Region.binds md e = true → e.on ≠ i) → oi.apart ops oj = true) →
      Cl md ops L → i ∈ Region.ready md ops L → YieldsIf P ops (fun w => A w ∧ B w) oi v a → A w → B w →
      wpTill P md ops Q T A B f (L.setIfInBounds i true) (a.put oi.dst v) w → wpTill P md ops Q T A B (f + 1) L a w := by
  have hsel := Region.noSelect_spec hs
  intro f
  induction f with
  | zero =>
    intro L a w _ _ hr hy hA hB H
    refine ⟨fun h => (by rw [h] at hr; cases hr), fun j hj => ?_⟩
    by_cases hji : j = i
    · subst hji; exact hy.wpOp hi ⟨hA, hB⟩ ⟨⟨hA, fun _ => hB⟩, H⟩
    · have h0 := ready_mono hj hji
      rw [H.1] at h0
      cases h0
  | succ f ih =>
    intro L a w hap hc hr hy hA hB H
    refine ⟨fun h => (by rw [h] at hr; cases hr), fun j hj => ?_⟩
    by_cases hji : j = i
    · subst hji; exact hy.wpOp hi ⟨hA, hB⟩ ⟨⟨hA, fun _ => hB⟩, H⟩
    · obtain ⟨hjun, oj, hoj, hall⟩ := mem_ready.1 hj
      have hiun := (mem_ready.1 hr).1
      have hno : ∀ e ∈ oj.after, Region.binds md e = true → e.on ≠ i := fun e he hb heq => by
        have h1 := hall e he hb
        rw [heq, getD_two hiun] at h1
        cases h1
      have h2 := wpOp_putIf hoj (hap j oj hoj hji hjun hno) (hsel i oi · · hi) (hsel j oj · · hoj) hQ hy (H.2 j (ready_mono hj hji))
      have hap' : ∀ k ok, ops[k]? = some ok → k ≠ i → (L.setIfInBounds j true).getD k true = false → (∀ e ∈ ok.after, Region.binds md e = true → e.on ≠ i) → oi.apart ops ok = true := fun k ok hk hki hun => by
        refine hap k ok hk hki ?_
        by_cases hjk : j = k
        · subst hjk; exact hjun
        · rwa [getD_set_ne true hjk] at hun
      have hr' := ready_mono hr (Ne.symm hji)
      have hc' := hc.set hj
      refine wpOp_mono (fun a' w' h3 => ?_) h2
      obtain ⟨hy', ⟨hA', hB'⟩, h4⟩ := h3
      rw [Array.setIfInBounds_comm _ _ (Ne.symm hji)] at h4 hB'
      have hT := pending hp _ hc' (mem_ready.1 hr').1
      have hB'' := hB' (by rw [getD_set_ne false hiT]; exact hT)
      exact ⟨⟨hA', fun _ => hB''⟩, ih (L.setIfInBounds j true) a' w' hap' hc' hr' hy' hA' hB'' h4⟩
/-- an operation that yields the same wherever the first condition holds may be taken first, whether T waits for it or not -/
theorem till_free {i : Nat} {oi : Oper} {v : Value} (hi : ops[i]? = some oi) (hs : Region.noSelect ops = true) (hiT : i ≠ T) (hQ : ∀ c a w, Q (.panic c) (a.put oi.dst v) w → Q (.panic c) a w) :
    ∀ (f : Nat) (L : Array Bool) (a : Act) (w : World), (∀ j oj, ops[j]? = some oj → j ≠ i → L.getD j true = false → (∀ e ∈ oj.after, Region.binds md e = true → e.on ≠ i) → oi.apart ops oj = true) →
      i ∈ Region.ready md ops L → YieldsIf P ops A oi v a → A w → (L.getD T false = false → B w) →
      wpTill P md ops Q T A B f (L.setIfInBounds i true) (a.put oi.dst v) w → wpTill P md ops Q T A B (f + 1) L a w := by
  have hsel := Region.noSelect_spec hs
  intro f
  induction f with
  | zero =>
    intro L a w _ hr hy hA hB H
    refine ⟨fun h => (by rw [h] at hr; cases hr), fun j hj => ?_⟩
    by_cases hji : j = i
    · subst hji; exact hy.wpOp hi hA ⟨⟨hA, fun h => hB (by rwa [getD_set_ne false hiT] at h)⟩, H⟩
    · have h0 := ready_mono hj hji
      rw [H.1] at h0
      cases h0
  | succ f ih =>
    intro L a w hap hr hy hA hB H
    refine ⟨fun h => (by rw [h] at hr; cases hr), fun j hj => ?_⟩
    by_cases hji : j = i
    · subst hji; exact hy.wpOp hi hA ⟨⟨hA, fun h => hB (by rwa [getD_set_ne false hiT] at h)⟩, H⟩
    · obtain ⟨hjun, oj, hoj, hall⟩ := mem_ready.1 hj
      have hiun := (mem_ready.1 hr).1
      have hno : ∀ e ∈ oj.after, Region.binds md e = true → e.on ≠ i := fun e he hb heq => by
        have h1 := hall e he hb
        rw [heq, getD_two hiun] at h1
        cases h1
      have h2 := wpOp_putIf hoj (hap j oj hoj hji hjun hno) (hsel i oi · · hi) (hsel j oj · · hoj) hQ hy (H.2 j (ready_mono hj hji))
      have hap' : ∀ k ok, ops[k]? = some ok → k ≠ i → (L.setIfInBounds j true).getD k true = false → (∀ e ∈ ok.after, Region.binds md e = true → e.on ≠ i) → oi.apart ops ok = true := fun k ok hk hki hun => by
        refine hap k ok hk hki ?_
        by_cases hjk : j = k
        · subst hjk; exact hjun
        · rwa [getD_set_ne true hjk] at hun
      refine wpOp_mono (fun a' w' h3 => ?_) h2
      obtain ⟨hy', ⟨hA', hB'⟩, h4⟩ := h3
      rw [Array.setIfInBounds_comm _ _ (Ne.symm hji)] at h4 hB'
      have hB'' : (L.setIfInBounds j true).getD T false = false → B w' := fun h => hB' (by rw [getD_set_ne false hiT]; exact h)
      exact ⟨⟨hA', hB''⟩, ih (L.setIfInBounds j true) a' w' hap' (ready_mono hr (Ne.symm hji)) hy' hA' hB'' h4⟩
end
/-- is what has come up closed? -/
def clB (md : Region.Mode) (ops : Array Oper) (L : Array Bool) : Bool :=
  (List.range ops.size).all fun j => !L.getD j false || match ops[j]? with
    | none => true
    | some o => o.after.all fun e => !Region.binds md e || L.getD e.on false
theorem Cl.of {md : Region.Mode} {ops : Array Oper} {L : Array Bool} (h : clB md ops L = true) : Cl md ops L := by
  intro j oj hj hl e he hb
  have h1 := List.all_eq_true.1 h j (List.mem_range.2 (Array.getElem?_eq_some_iff.1 hj).1)
  rw [hj, hl] at h1
  simp only [Bool.not_true, Bool.false_or] at h1
  have h2 := Array.all_eq_true_iff_forall_mem.1 h1 e he
  rw [hb] at h2
  simpa using h2
def tillOk (md : Region.Mode) (ops : Array Oper) (T : Nat) (L : Array Bool) (i : Nat) : Bool :=
  takeOk md ops L i && clB md ops L && awaits md ops ops.size T i && !(i == T)
section
variable {P : Program} {l : List Oper} {Q : Exit → Act → World → Prop} {md : Region.Mode} {T : Nat} {A B : World → Prop} {fuel : Nat} {L : Array Bool} {a : Act} {w : World}
theorem till_at {i : Nat} {oi : Oper} {v : Value} (hi : nthOp l i = some oi) (ht : tillOk md l.toArray T L i = true)
    (hQ : ∀ c a w, Q (.panic c) (a.put oi.dst v) w → Q (.panic c) a w) (hy : YieldsIf P l.toArray (fun w => A w ∧ B w) oi v a) (hA : A w) (hB : B w)
    (h : wpTill P md l.toArray Q T A B fuel (L.setIfInBounds i true) (a.put oi.dst v) w) : wpTill P md l.toArray Q T A B (fuel + 1) L a w := by
  unfold tillOk takeOk at ht
  simp only [Bool.and_eq_true, Bool.not_eq_true', beq_eq_false_iff_ne] at ht
  obtain ⟨⟨⟨⟨⟨h1, h2⟩, h3⟩, h4⟩, h5⟩, h6⟩ := ht
  have hi' : l.toArray[i]? = some oi := by rw [List.getElem?_toArray, nthOp_eq, hi]
  exact till_take hi' h1 h6 h5 hQ fuel L a w (Region.free_spec hi' h2) (Cl.of h4) (by simpa using h3) hy hA hB h
theorem till_skip {i : Nat} {oi : Oper} (hi : nthOp l i = some oi) (ht : tillOk md l.toArray T L i = true)
    (hQ : ∀ c a w, Q (.panic c) (a.put oi.dst undef) w → Q (.panic c) a w) (hw : Region.wanted oi (yielded l.toArray a.tmps) = false) (hA : A w) (hB : B w)
    (h : wpTill P md l.toArray Q T A B fuel (L.setIfInBounds i true) (a.put oi.dst undef) w) : wpTill P md l.toArray Q T A B (fuel + 1) L a w :=
  till_at hi ht hQ (.inr ⟨hw, rfl⟩) hA hB h
theorem till_run {i : Nat} {oi : Oper} (hi : nthOp l i = some oi) (ht : tillOk md l.toArray T L i = true) (hw : Region.wanted oi (yielded l.toArray a.tmps) = true) {v : Value}
    (hQ : ∀ c a w, Q (.panic c) (a.put oi.dst v) w → Q (.panic c) a w) (hA : A w) (hB : B w) (hy : ∀ w1, B w1 → (execOp a.eval oi).run P w1 = .ok (.value v) w1)
    (h : wpTill P md l.toArray Q T A B fuel (L.setIfInBounds i true) (a.put oi.dst v) w) : wpTill P md l.toArray Q T A B (fuel + 1) L a w :=
  till_at hi ht hQ (.inl ⟨hw, fun w1 h1 => hy w1 h1.2⟩) hA hB h
theorem till_row {i : Nat} {oi : Oper} (hi : nthOp l i = some oi) (ht : tillOk md l.toArray T L i = true) (hw : Region.wanted oi (yielded l.toArray a.tmps) = true)
    (ty : TypeId) (x : Operand) (ho : oi.op = .load ty x) (b o : Nat) (hx : a.eval x = .pointer (some ⟨b, o, none⟩)) (cs : List Value) (hc : ∀ w1, B w1 → w1.rangeAt b o cs) (hr : RowTy P ty cs.length)
    (hQ : ∀ c a w, Q (.panic c) (a.put oi.dst (.agg cs.toArray)) w → Q (.panic c) a w) (hA : A w) (hB : B w)
    (h : wpTill P md l.toArray Q T A B fuel (L.setIfInBounds i true) (a.put oi.dst (.agg cs.toArray)) w) : wpTill P md l.toArray Q T A B (fuel + 1) L a w := by
  obtain ⟨h1, h2⟩ := hr
  cases hu : P.underlying ty with
  | none => rw [hu] at h1; cases h1
  | some d =>
    rw [hu] at h1
    exact till_at hi ht hQ (yieldsIf_load_mid hw ty x ho b o hx cs d (fun w1 h1 => hc w1 h1.2) hu (by simpa using h1) h2) hA hB h
theorem till_build {i : Nat} {oi : Oper} (hi : nthOp l i = some oi) (ht : tillOk md l.toArray T L i = true) (hw : Region.wanted oi (yielded l.toArray a.tmps) = true)
    (t : TypeId) (parts : List (Nat × Operand)) (ho : oi.op = .build t parts.toArray) (vals : List (Nat × Value)) (cells : Array Value) (hb : P.built t vals = some cells) (hv : parts.map (fun p => (p.1, a.eval p.2)) = vals)
    (hQ : ∀ c a w, Q (.panic c) (a.put oi.dst (.agg cells)) w → Q (.panic c) a w) (hA : A w) (hB : B w)
    (h : wpTill P md l.toArray Q T A B fuel (L.setIfInBounds i true) (a.put oi.dst (.agg cells)) w) : wpTill P md l.toArray Q T A B (fuel + 1) L a w :=
  till_run hi ht hw hQ hA hB (fun _ _ => exec_build t parts.toArray ho cells (by
    have e : (parts.toArray.map fun (i, x) => (i, a.eval x)).toList = vals := by rw [← hv]; simp
    rw [e]; exact hb)) h
theorem till_freeAt {i : Nat} {oi : Oper} {v : Value} (hi : nthOp l i = some oi) (ht : takeOk md l.toArray L i = true) (hiT : i ≠ T) (hw : Region.wanted oi (yielded l.toArray a.tmps) = true)
    (hQ : ∀ c a w, Q (.panic c) (a.put oi.dst v) w → Q (.panic c) a w) (hA : A w) (hB : L.getD T false = false → B w) (hy : ∀ w1, A w1 → (execOp a.eval oi).run P w1 = .ok (.value v) w1)
    (h : wpTill P md l.toArray Q T A B fuel (L.setIfInBounds i true) (a.put oi.dst v) w) : wpTill P md l.toArray Q T A B (fuel + 1) L a w := by
  unfold takeOk at ht
  simp only [Bool.and_eq_true] at ht
  have hi' : l.toArray[i]? = some oi := by rw [List.getElem?_toArray, nthOp_eq, hi]
  exact till_free hi' ht.1.1 hiT hQ fuel L a w (Region.free_spec hi' ht.1.2) (by simpa using ht.2) (.inl ⟨hw, hy⟩) hA hB h
theorem till_fbuild {i : Nat} {oi : Oper} (hi : nthOp l i = some oi) (ht : takeOk md l.toArray L i = true) (hiT : i ≠ T) (hw : Region.wanted oi (yielded l.toArray a.tmps) = true)
    (t : TypeId) (parts : List (Nat × Operand)) (ho : oi.op = .build t parts.toArray) (vals : List (Nat × Value)) (cells : Array Value) (hb : P.built t vals = some cells) (hv : parts.map (fun p => (p.1, a.eval p.2)) = vals)
    (hQ : ∀ c a w, Q (.panic c) (a.put oi.dst (.agg cells)) w → Q (.panic c) a w) (hA : A w) (hB : L.getD T false = false → B w)
    (h : wpTill P md l.toArray Q T A B fuel (L.setIfInBounds i true) (a.put oi.dst (.agg cells)) w) : wpTill P md l.toArray Q T A B (fuel + 1) L a w :=
  till_freeAt hi ht hiT hw hQ hA hB (fun _ _ => exec_build t parts.toArray ho cells (by
    have e : (parts.toArray.map fun (i, x) => (i, a.eval x)).toList = vals := by rw [← hv]; simp
    rw [e]; exact hb)) h
theorem till_one {i : Nat} {o : Oper} (hi : nthOp l i = some o) (hr : Region.ready md l.toArray L = [i]) (hw : Region.wanted o (yielded l.toArray a.tmps) = true)
    (h : Oper.wp P o a w (fun a' w' => (A w' ∧ ((L.setIfInBounds i true).getD T false = false → B w')) ∧ wpTill P md l.toArray Q T A B fuel (L.setIfInBounds i true) a' w') Q) : wpTill P md l.toArray Q T A B (fuel + 1) L a w := by
  refine ⟨fun h0 => (by rw [hr] at h0; cases h0), fun j hj => ?_⟩
  rw [hr] at hj
  obtain rfl : j = i := by simpa using hj
  unfold wpOp
  rw [List.getElem?_toArray, nthOp_eq, hi]
  simp only [hw, if_true]
  exact .inl h
/-- a call, while T is to come -/
theorem till_call {i : Nat} {o : Oper} (hi : nthOp l i = some o) (hr : Region.ready md l.toArray L = [i]) (hw : Region.wanted o (yielded l.toArray a.tmps) = true)
    {f : FuncId} {args : Array Value} (he : (execOp a.eval o).run P w = .ok (.enter f args) w)
    (h : Calls P f args w fun e w' => ∃ v, e = .returned v ∧ (A w' ∧ B w') ∧ (B w' → wpTill P md l.toArray Q T A B fuel (L.setIfInBounds i true) (a.put o.dst v) w')) : wpTill P md l.toArray Q T A B (fuel + 1) L a w := by
  refine till_one hi hr hw (wp_call he (h.mono ?_))
  rintro e w' ⟨v, rfl, h1, h2⟩
  exact ⟨v, rfl, ⟨h1.1, fun _ => h1.2⟩, h2 h1.2⟩
/-- any operation once T has come up, or T itself -/
theorem till_step {i : Nat} {o : Oper} (hi : nthOp l i = some o) (hr : Region.ready md l.toArray L = [i]) (hT : (L.setIfInBounds i true).getD T false = true) (hw : Region.wanted o (yielded l.toArray a.tmps) = true)
    (h : ∀ K : Act → World → Prop, Shut (∀ a w, A w → (A w → wpTill P md l.toArray Q T A B fuel (L.setIfInBounds i true) a w) → K a w) → Oper.wp P o a w K Q) : wpTill P md l.toArray Q T A B (fuel + 1) L a w :=
  till_one hi hr hw (h _ (fun a w hA hW => ⟨⟨hA, fun h0 => (by rw [hT] at h0; cases h0)⟩, hW hA⟩))
theorem till_done (hr : Region.ready md l.toArray L = []) (h : Q .normal a w) : ∀ fuel, wpTill P md l.toArray Q T A B fuel L a w
  | 0 => ⟨hr, h⟩
  | _ + 1 => ⟨fun _ => h, by rw [hr]; simp⟩
theorem wp_region_till {id : Nat} (T : Nat) (A B : World → Prop) (hm : P.follows .mixedOrders = true) (hA : A w.drew) (hB : B w.drew)
    (h : A w.drew → B w.drew → wpTill P .any l.toArray Q T A B l.toArray.size (Array.replicate l.toArray.size false) a w.drew) : (Code.region id l.toArray true).wp P Q a w :=
  wp_region_any hm (wpAny_of_till _ _ _ _ (h hA hB))
end
end Go.Proofs.Ytlkhfhhaallhgaa

namespace Go.Proofs.Ytlkhfhhaallhgaa
open Go.RowKit
set_option maxRecDepth 100000
/-- a list of n things of k cells each, from A on -/
def Lst {α : Type} (k : Nat) (cells : α → List Value) (ok : World → α → Prop) (w : World) (A : Option Addr) (n : Nat) (l : List α) : Prop :=
  l.length = n ∧ (∀ v ∈ l, (cells v).length = k ∧ ok w v) ∧ (0 < n → ∃ ad, A = some ad ∧ ∀ i v, l[i]? = some v → ∀ j x, (cells v)[j]? = some x → w.cell? (ad.add (i * k + j)) = some x)
section
variable {α : Type} {k : Nat} {cells : α → List Value} {ok : World → α → Prop} {w w' : World} {A : Option Addr} {n : Nat} {l : List α} {S : List Nat}
theorem Lst.nil (A : Option Addr) : Lst k cells ok w A 0 [] := ⟨rfl, by simp, fun h => absurd h (by omega)⟩
theorem Lst.keep (h : Lst k cells ok w A n l) (hf : Fr S w w') (hA : ∀ a, A = some a → ¬ a.block ∈ S) (hok : ∀ v ∈ l, ok w v → ok w' v) : Lst k cells ok w' A n l :=
  ⟨h.1, fun v hv => ⟨(h.2.1 v hv).1, hok v hv (h.2.1 v hv).2⟩, fun hn => by
    obtain ⟨ad, e, hc⟩ := h.2.2 hn
    exact ⟨ad, e, fun i v hv j x hx => hf.cell (hc i v hv j x hx) (by rw [add_block]; exact hA ad e)⟩⟩
theorem Lst.at (h : Lst k cells ok w A n l) {i : Nat} (hi : i < n) : ∃ ad v, A = some ad ∧ l[i]? = some v ∧ (cells v).length = k ∧ ok w v ∧ ∀ j x, (cells v)[j]? = some x → w.cell? ((ad.add (i * k)).add j) = some x := by
  obtain ⟨ad, e, hc⟩ := h.2.2 (by omega)
  have hl : i < l.length := by rw [h.1]; exact hi
  have hv := List.getElem?_eq_getElem hl
  obtain ⟨h1, h2⟩ := h.2.1 _ (List.mem_of_getElem? hv)
  exact ⟨ad, l[i], e, hv, h1, h2, fun j x hx => by rw [add_add]; exact hc i _ hv j x hx⟩
theorem Lst.take (h : Lst k cells ok w A n l) {m : Nat} (hm : m ≤ n) : Lst k cells ok w A m (l.take m) :=
  ⟨by rw [List.length_take, h.1]; omega, fun v hv => h.2.1 v (List.mem_of_mem_take hv), fun h0 => by
    obtain ⟨ad, e, hc⟩ := h.2.2 (by omega)
    exact ⟨ad, e, fun i v hv j x hx => hc i v (by
      rw [List.getElem?_take] at hv
      split at hv
      · exact hv
      · cases hv) j x hx⟩⟩
/-- from a slice that the call owns -/
theorem flat_at {l : List α} (hk : ∀ v ∈ l, (cells v).length = k) : ∀ {i : Nat} {v : α} {j : Nat} {x : Value}, l[i]? = some v → (cells v)[j]? = some x → (l.flatMap cells)[i * k + j]? = some x := by
  induction l with
  | nil => intro i v j x hv; simp at hv
  | cons y ys ih =>
    intro i v j x hv hx
    have hy := hk y (by simp)
    rw [List.flatMap_cons]
    cases i with
    | zero =>
      simp at hv
      subst hv
      rw [Nat.zero_mul, Nat.zero_add, List.getElem?_append_left (List.getElem?_eq_some_iff.1 hx).1]
      exact hx
    | succ i =>
      rw [List.getElem?_append_right (by rw [hy, Nat.succ_mul]; omega), hy, show (i + 1) * k + j - k = i * k + j by rw [Nat.succ_mul]; omega]
      exact ih (fun v hv => hk v (by simp [hv])) (by simpa using hv) hx
theorem Lst.of_own {base : Nat} {e : TypeId} {c : Nat} (h : w.ownsRow base e k (.slice A n c) n (l.flatMap cells)) (hl : l.length = n) (hk : ∀ v ∈ l, (cells v).length = k ∧ ok w v) : Lst k cells ok w A n l := by
  refine ⟨hl, hk, fun hn => ?_⟩
  by_cases hk0 : k = 0
  · rcases h.2 with ⟨_, h0⟩ | ⟨g, cap, cur, hv, _⟩
    · omega
    · injection hv with hA
      exact ⟨_, hA, fun i v hv j x hx => by have := (hk v (List.mem_of_getElem? hv)).1; have := (List.getElem?_eq_some_iff.1 hx).1; omega⟩
  · obtain ⟨g, cap, hv, _, hlt⟩ := h.form hn
    have hA : A = some ⟨g, 0, none⟩ := by injection hv
    subst hA
    refine ⟨_, rfl, fun i v hv j x hx => ?_⟩
    exact h.cells (g := g) rfl _ _ (flat_at (fun v hv => (hk v hv).1) hv hx)
end
theorem lst_of_trod {α : Type} [Inhabited α] {H : Type} {enc : TypeId × Value → H} {w : World} {spare : Nat → Bool} {held : Bool} {k : Nat} {cells : α → List Value} {ok : World → α → Prop} {t e : TypeId} (ht : Try.prog.underlying t = some (.slice e)) (hc : Try.prog.cellsOf e = k)
    (hel : ∀ fuel cs (x : DataW H × List MemPlace), DataW.trod enc Try.prog w 0 spare held fuel e cs = some x → ∃ v : α, ok w v ∧ cs = cells v) {fuel : Nat} {A : Option Addr} {len cap : Nat} {x : DataW H × List MemPlace} (h : DataW.trod enc Try.prog w 0 spare held fuel t [.slice A len cap] = some x) :
    ∃ l : List α, Lst k cells ok w A len l ∧ len ≤ cap ∧ cap ≤ maxLen := by
  rcases Go.Deep.open_slice ht h with ⟨hcs, _⟩ | ⟨a, len', cap', m, n, D, Pl, hcs, _, hl, hm, hmm, _, hi⟩
  · simp at hcs
    obtain ⟨rfl, rfl, rfl⟩ := hcs
    exact ⟨[], Lst.nil _, Nat.le_refl _, Nat.zero_le _⟩
  · simp at hcs
    obtain ⟨rfl, rfl, rfl⟩ := hcs
    have hlm : len ≤ m := by rw [hmm]; split <;> omega
    have hv : ∀ i, i < len → ∃ v : α, (cells v).length = k ∧ ok w v ∧ ∀ j x, (cells v)[j]? = some x → w.cell? (a.add (i * k + j)) = some x := by
      intro i hil
      obtain ⟨cs', h1, h2⟩ := hi i (by omega)
      rw [hc] at h1
      obtain ⟨v, hv1, rfl⟩ := hel _ _ _ h2
      obtain ⟨_, hcl, hat⟩ := World.cells?_some h1
      refine ⟨v, hcl, hv1, fun j x hx => ?_⟩
      have hj : j < (cells v).length := (List.getElem?_eq_some_iff.1 hx).1
      have := hat j (by omega)
      rw [add_add] at this
      rw [this, hx]
    have hg : ∀ i v, ((List.range len).map (fun i => if hi : i < len then Classical.choose (hv i hi) else default))[i]? = some v → (cells v).length = k ∧ ok w v ∧ ∀ j x, (cells v)[j]? = some x → w.cell? (a.add (i * k + j)) = some x := by
      intro i v hiv
      simp only [List.getElem?_map, Option.map_eq_some_iff] at hiv
      obtain ⟨i', hk, rfl⟩ := hiv
      obtain ⟨hk1, hk2⟩ := List.getElem?_eq_some_iff.1 hk
      simp at hk1 hk2
      subst hk2
      rw [dif_pos hk1]
      exact Classical.choose_spec (hv i hk1)
    refine ⟨(List.range len).map (fun i => if hi : i < len then Classical.choose (hv i hi) else default), ⟨by simp, fun v hm => ?_, fun _ => ⟨a, rfl, fun i v hiv => (hg i v hiv).2.2⟩⟩, hl, hm⟩
    obtain ⟨i, hi⟩ := List.getElem?_of_mem hm
    exact ⟨(hg i v hi).1, (hg i v hi).2.1⟩
/-! ### loads from anywhere -/
section
variable {P : Program} {l : List Oper} {Q : Exit → Act → World → Prop} {md : Region.Mode} {S : World → Prop} {fuel : Nat} {listed : Array Bool} {a : Act} {w : World}
theorem exec_cells {ev : Operand → Value} {o : Oper} {w : World} (ty : TypeId) (x : Operand) (ho : o.op = .load ty x) (ad : Addr) (hx : ev x = .pointer (some ad)) (cs : List Value) (hr : RowTy P ty cs.length)
    (hc : ∀ j v, cs[j]? = some v → w.cell? (ad.add j) = some v) : (execOp ev o).run P w = .ok (.value (.agg cs.toArray)) w := by
  obtain ⟨h1, h2⟩ := hr
  cases hu : P.underlying ty with
  | none => rw [hu] at h1; cases h1
  | some d =>
    rw [hu] at h1
    unfold execOp
    simp only [ho, hx, Instr.loadAt, Instr.sureAddr, Sem.run_bind, Sem.run_pure, Result.andThen_ok, run_loadVar_cells w ad ty cs d hc hu (by cases d <;> simp_all [TypeDesc.isRow]) h2]
theorem cells_at {i : Nat} {oi : Oper} (hi : nthOp l i = some oi) (ht : takeOk md l.toArray listed i = true) (hw : Region.wanted oi (yielded l.toArray a.tmps) = true)
    (ty : TypeId) (x : Operand) (ho : oi.op = .load ty x) (ad : Addr) (hx : a.eval x = .pointer (some ad)) (cs : List Value) (hc : ∀ w1, S w1 → ∀ j v, cs[j]? = some v → w1.cell? (ad.add j) = some v) (hr : RowTy P ty cs.length)
    (hQ : ∀ c a w, Q (.panic c) (a.put oi.dst (.agg cs.toArray)) w → Q (.panic c) a w) (hS : S w)
    (h : wpAnyH P md l.toArray Q S fuel (listed.setIfInBounds i true) (a.put oi.dst (.agg cs.toArray)) w) : wpAnyH P md l.toArray Q S (fuel + 1) listed a w :=
  run_at hi ht hw hQ hS (fun w1 h1 => exec_cells ty x ho ad hx cs hr (hc w1 h1)) h
theorem wpList_cells {ops : Array Oper} {rest : List Oper} {op : Oper} (hw : Region.wanted op (yielded ops a.tmps) = true) (ty : TypeId) (x : Operand) (ho : op.op = .load ty x)
    (ad : Addr) (hx : a.eval x = .pointer (some ad)) (cs : List Value) (hc : ∀ j v, cs[j]? = some v → w.cell? (ad.add j) = some v) (hr : RowTy P ty cs.length)
    (h : wpList P ops Q rest (a.put op.dst (.agg cs.toArray)) w) : wpList P ops Q (op :: rest) a w :=
  BigFrame.wpList_want hw fun _ hK => wp_run (exec_cells ty x ho ad hx cs hr hc) (hK _ _ h)
end
end Go.Proofs.Ytlkhfhhaallhgaa

namespace Go.Proofs.Ytlkhfhhaallhgaa
open Go.RowKit
set_option maxRecDepth 100000

/-! ### a struct is built of parts -/
def splice (l : List Value) (o : Nat) (v : List Value) : List Value := l.take o ++ (v ++ l.drop (o + v.length))
theorem splice_foldl : ∀ (v : List Value) (k o : Nat) (cs : Array Value), o + k + v.length ≤ cs.size →
    (v.zipIdx k).foldl (fun cs (c, j) => cs.setIfInBounds (o + j) c) cs = (splice cs.toList (o + k) v).toArray
  | [], k, o, cs, _ => by
    simp [splice]
  | c :: r, k, o, cs, h => by
    simp only [List.length_cons] at h
    rw [List.zipIdx_cons, List.foldl_cons, splice_foldl r (k + 1) o _ (by simp; omega)]
    congr 1
    unfold splice
    simp only [Array.toList_setIfInBounds, List.length_cons]
    have h1 : o + k < cs.toList.length := by simp; omega
    rw [show o + (k + 1) = (o + k) + 1 by omega, List.take_add_one, List.take_set_of_le (Nat.le_refl _), List.getElem?_set_self h1, List.drop_set_of_lt (by omega)]
    simp [Nat.add_assoc, Nat.add_comm, Nat.add_left_comm]
theorem fill_step (place : Nat → Option (Nat × Nat)) (cells : Array Value) (i off size : Nat) (v : Value) (rest : List (Nat × Value)) (hp : place i = some (off, size)) (h1 : v.cells.size = size) (h2 : off + size ≤ cells.size) :
    Instr.fill place cells ((i, v) :: rest) = Instr.fill place (splice cells.toList off v.cells.toList).toArray rest := by
  rw [Instr.fill, hp]
  simp only [h1]
  rw [if_neg (by simp; omega)]
  congr 1
  have e := splice_foldl v.cells.toList 0 off cells (by simp [h1]; omega)
  rw [Nat.add_zero] at e
  rw [← e, ← Array.foldl_toList, Array.toList_zipIdx]

def zeroCm : Array Value := (Cm.cells ⟨0, 0, List.replicate 32 0, 0, 0, 0⟩).toArray
def places : List (Nat × Nat) := [(0, 2), (2, 32), (34, 1), (35, 2)]
theorem built_eq (parts : List (Nat × Value)) : Try.prog.built 39 parts = Instr.fill (places.toArray[·]?) zeroCm parts := by kernel_rfl
theorem built_commit (c s n : Int) (h : List UInt8) (hh : h.length = 32) :
    Try.prog.built 39 [(0, .agg #[.int .i64 c, .int .i64 s]), (1, .agg (h.map by8).toArray), (2, .int .i64 n)] = some (Cm.cells ⟨c, s, h, n, 0, 0⟩).toArray := by
  have hz : zeroCm.size = 37 := rfl
  rw [built_eq, fill_step _ _ 0 0 2 _ _ rfl rfl (by rw [hz]; omega), fill_step _ _ 1 2 32 _ _ rfl (by simp [Value.cells, hh]) (by simp [splice, zeroCm, Cm.cells, Value.cells]),
    fill_step _ _ 2 34 1 _ _ rfl rfl (by simp [splice, zeroCm, Cm.cells, Value.cells, hh]), Instr.fill]
  congr 2
  simp [splice, zeroCm, Cm.cells, Value.cells, hh, List.drop_append]

theorem cells_sig (c s n b m b' m' : Int) (h : List UInt8) (hh : h.length = 32) : (((Cm.cells ⟨c, s, h, n, b, m⟩).toArray.setIfInBounds 35 (.int .i64 b')).setIfInBounds 36 (.int .i64 m')) = (Cm.cells ⟨c, s, h, n, b', m'⟩).toArray := by
  simp [Cm.cells, List.set_append, hh]
theorem setCells_two (w : World) (g o : Nat) (x y : Value) : w.setCells g o [x, y] = (w.setCell ⟨g, o, none⟩ x).setCell ⟨g, o + 1, none⟩ y := rfl
theorem Blk.there {w : World} {g : Nat} {t : TypeId} {cs : Array Value} (h : Blk w g t cs) (o n : Nat) (hl : o + n ≤ cs.size) : w.there g o n := fun j hj => by
  refine ⟨?_, h.frozen _⟩
  rw [h.cell, Array.getElem?_eq_getElem (by omega)]
  rfl
/-- what Make makes, its signature aside -/
def made0 (c s : Int) (h b : List UInt8) : Cm := ⟨c, s, sumL (ofL c s h b), b.length, 0, 0⟩
def made (c s : Int) (h b : List UInt8) (l : List Ent) : Cm :=
  ⟨c, s, sumL (ofL c s h b), b.length, 1000 + c, mrk (sgn l (1000 + c, (made0 c s h b).text)) (1000 + c, (made0 c s h b).text)⟩
theorem made_text (c s : Int) (h b : List UInt8) (l : List Ent) : (made c s h b l).text = (made0 c s h b).text := rfl

end Go.Proofs.Ytlkhfhhaallhgaa

namespace Go.Proofs.Ytlkhfhhaallhgaa
open Go.RowKit
set_option maxRecDepth 100000
/-- what a type's table says of an element's size -/
def ElTy (P : Program) (e : TypeId) (k bytes : Nat) : Prop := ∃ i z, P.info? e = some i ∧ i.zero = some z ∧ z.cells.size = k ∧ i.size = k ∧ i.bytes = bytes
theorem ElTy.of {P : Program} {e : TypeId} {k bytes : Nat} (h : (P.info? e).map (fun i => (i.zero.map (·.cells.size), i.size, i.bytes)) = some (some k, k, bytes)) : ElTy P e k bytes := by
  cases hi : P.info? e with
  | none => rw [hi] at h; cases h
  | some i =>
    rw [hi] at h
    simp only [Option.map_some, Option.some.injEq, Prod.mk.injEq] at h
    cases hz : i.zero with
    | none => rw [hz] at h; simp at h
    | some z =>
      rw [hz] at h
      exact ⟨i, z, hi, hz, by simpa using h.1, h.2.1, h.2.2⟩
theorem wp_build_one {P : Program} {o : Oper} {a : Act} {w : World} {K : Act → World → Prop} {Q : Exit → Act → World → Prop} (t e : TypeId) (y : Operand) (ho : o.op = .buildSlice t 1 #[(0, y)]) (hu : P.underlying t = some (.slice e))
    (cs : List Value) (bytes : Nat) (he : ElTy P e cs.length bytes) (hy : a.eval y = .agg cs.toArray) (h0 : 0 < cs.length) (h1 : cs.length ≤ 1000)
    (h : K (a.put o.dst (.slice (some ⟨w.heap.size, 0, none⟩) 1 1)) (w.alloc (.cells cs.toArray e))) : o.wp P a w K Q := by
  obtain ⟨i, z, hi, hz, hzs, hs, _⟩ := he
  refine wp_buildSlice t e 1 _ ho cs.toArray i z hu hi hz (by rw [hs]; omega) (by rw [hs]; omega) ?_ h
  have hl : ((Array.range (1 * i.size)).map (z.cells[· % z.cells.size]!)).size = cs.length := by simp [hs]
  generalize (Array.range (1 * i.size)).map (z.cells[· % z.cells.size]!) = Z at *
  have e1 : (#[(0, y)].map fun (i, x) => (i, a.eval x)).toList = [(0, .agg cs.toArray)] := by simp [hy]
  rw [e1, fill_step _ _ 0 0 cs.length _ _ (by simp [hs]) (by simp [Value.cells]) (by omega), Instr.fill]
  congr 1
  have hd : Z.toList.drop cs.length = [] := List.drop_eq_nil_of_le (by simp [hl])
  simp [splice, Value.cells, hd]
theorem wpList_build_one {P : Program} {ops : Array Oper} {rest : List Oper} {o : Oper} {a : Act} {w : World} {Q : Exit → Act → World → Prop} (hg : o.guard = none) (t e : TypeId) (y : Operand) (ho : o.op = .buildSlice t 1 #[(0, y)]) (hu : P.underlying t = some (.slice e))
    (cs : List Value) (bytes : Nat) (he : ElTy P e cs.length bytes) (hy : a.eval y = .agg cs.toArray) (h0 : 0 < cs.length) (h1 : cs.length ≤ 1000)
    (h : wpList P ops Q rest (a.put o.dst (.slice (some ⟨w.heap.size, 0, none⟩) 1 1)) (w.alloc (.cells cs.toArray e))) : wpList P ops Q (o :: rest) a w :=
  wpList_plain hg fun _ hK => wp_build_one t e y ho hu cs bytes he hy h0 h1 (hK _ _ h)
/-- one more thing behind a slice that the call owns, out of the block that was made for it just now -/
theorem wpList_append_one {P : Program} {ops : Array Oper} {rest : List Oper} {o : Oper} {a : Act} {w : World} {Q : Exit → Act → World → Prop} (hg : o.guard = none) (s x : Operand) (t e : TypeId)
    (ho : o.op = .call { callee := .builtin .append, args := #[s, x], argTypes := #[t, t] }) (ht : P.underlying t = some (.slice e)) (k bytes : Nat) (he : ElTy P e k bytes) (hk : 0 < k)
    (base : Nat) (v : Value) (n : Nat) (xs cs : List Value) (hs : a.eval s = v) (hown : w.ownsRow base e k v n xs) (hbase : base ≤ w.heap.size) (hcl : cs.length = k) (h1 : ∀ u ∈ cs, u.oneCell' = true)
    (g : Nat) (t' : TypeId) (hx : a.eval x = .slice (some ⟨g, 0, none⟩) 1 1) (hb : Blk w g t' cs.toArray) (hn : n < 1000000) (hby : bytes ≤ 1000)
    (h : ∀ A c w', w'.ownsRow base e k (.slice A (n + 1) c) (n + 1) (xs ++ cs) → Fr v.ownBlock.toList w w' → wpList P ops Q rest (a.put o.dst (.slice A (n + 1) c)) w') : wpList P ops Q (o :: rest) a w := by
  obtain ⟨i, z, hi, hz, hzs, hsz, hbs⟩ := he
  refine wpList_append_lies w hg s x t ho base e i z k bytes ht hi hz hsz hbs hzs hk v n xs hs hown ⟨g, 0, none⟩ 1 1 cs hx (by omega) (fun j u hu => ?_) h1 (by omega) (by simp only [maxLen]; omega)
    (Nat.le_trans (Nat.mul_le_mul (show n + 1 ≤ 1000000 by omega) hby) (by decide)) hbase _ rfl (fun g' cap w' h2 h3 _ _ => ?_)
  · have hadd : (⟨g, 0, none⟩ : Addr).add j = ⟨g, j, none⟩ := by unfold Addr.add; split <;> simp_all
    rw [hadd, hb.cell j]
    simpa using hu
  · exact h _ _ w' h2 ((Fr.refl _ w).grown h3 (fun y hy _ => by simp [hy]))
end Go.Proofs.Ytlkhfhhaallhgaa

namespace Go.Proofs.Ytlkhfhhaallhgaa
open Go.RowKit
set_option maxRecDepth 100000

def fnV (f : FuncId) : Value := .func (.func f) #[] #[]
/-- a list's bytes: how many, then each -/
theorem flat_len {α : Type} {full : α → List UInt8} {N : Nat} : ∀ {l : List α} {k : Nat}, (∀ v ∈ l, (full v).length ≤ N) → l.length ≤ k → (l.flatMap full).length ≤ k * N
  | [], _, _, _ => by simp
  | v :: l, 0, _, h => by simp at h
  | v :: l, k + 1, hf, h => by
    rw [List.flatMap_cons, List.length_append, Nat.succ_mul]
    have h1 := hf v (by simp)
    have h2 := flat_len (l := l) (k := k) (fun u hu => hf u (by simp [hu])) (by simp at h; omega)
    omega
theorem Gr.calls {P : Program} {f : FuncId} {args : Array Value} {w w1 : World} {S : List Nat} {g : Nat} {l l' : List UInt8} {v : Value} (h : Gr w S g l w1)
    (hc : ∀ S1, Wr w1 S1 g l → Fr S w w1 → (∀ x ∈ S1, x < w.heap.size → x ∈ S) → Calls P f args w1 fun e w' => e = .returned v ∧ Gr w1 S1 g l' w') : Calls P f args w1 fun e w' => e = .returned v ∧ Gr w S g l' w' := by
  obtain ⟨S1, h1, h2, h3⟩ := h
  refine (hc S1 h1 h2 h3).mono ?_
  rintro e w' ⟨rfl, S2, k1, k2, k3⟩
  exact ⟨rfl, S2, k1, h2.trans k2 h3, fun x hx hl => h3 x (k3 x hx (Nat.lt_of_lt_of_le hl h2.size)) hl⟩
theorem Lst.keep' {α : Type} {k : Nat} {cells : α → List Value} {ok ok' : World → α → Prop} {w w' : World} {A : Option Addr} {n : Nat} {l : List α} {S : List Nat} (h : Lst k cells ok w A n l) (hf : Fr S w w') (hA : 0 < n → ∀ a, A = some a → ¬ a.block ∈ S) (hok : ∀ v ∈ l, ok w v → ok' w' v) : Lst k cells ok' w' A n l :=
  ⟨h.1, fun v hv => ⟨(h.2.1 v hv).1, hok v hv (h.2.1 v hv).2⟩, fun hn => by
    obtain ⟨ad, e, hc⟩ := h.2.2 hn
    exact ⟨ad, e, fun i v hv j x hx => hf.cell (hc i v hv j x hx) (by rw [add_block]; exact hA hn ad e)⟩⟩
theorem Lst.lt {α : Type} {k : Nat} {cells : α → List Value} {ok : World → α → Prop} {w : World} {A : Option Addr} {n : Nat} {l : List α} (h : Lst k cells ok w A n l) (hn : 0 < n) (hk : 0 < k) (hlen : ∀ v ∈ l, (cells v).length = k) (a : Addr) (ha : A = some a) : a.block < w.heap.size := by
  obtain ⟨ad, e, hc⟩ := h.2.2 hn
  have h1 : 0 < l.length := by rw [h.1]; exact hn
  have hv := List.getElem?_eq_getElem h1
  have h2 : 0 < (cells l[0]).length := by rw [hlen _ (List.mem_of_getElem? hv)]; exact hk
  have := hc 0 _ hv 0 _ (List.getElem?_eq_getElem h2)
  have h3 := World.block_lt_of_cell? _ _ this
  rw [add_block] at h3
  rw [ha] at e
  injection e with e
  rw [e]
  exact h3
def listL {α : Type} (full : α → List UInt8) (l : List α) : List UInt8 := encI (l.length : Int) ++ l.flatMap full

end Go.Proofs.Ytlkhfhhaallhgaa

namespace Go.Proofs.Ytlkhfhhaallhgaa
open Go.RowKit
set_option maxRecDepth 100000

/-- a commitment -/
structure Wcm where
  c : Int
  s : Int
  h : List UInt8
  n : Int
  b : Int
  m : Int
def Wcm.cells (x : Wcm) : List Value := [.int .i64 x.c, .int .i64 x.s] ++ (x.h.map by8 ++ [.int .i64 x.n, .int .i64 x.b, .int .i64 x.m])
def Wcm.val (x : Wcm) : Value := .agg x.cells.toArray
structure Wcm.Ok (x : Wcm) : Prop where
  c : i64In x.c
  s : i64In x.s
  h : x.h.length = 32
  n : i64In x.n
  b : i64In x.b
  m : i64In x.m
theorem Wcm.len {x : Wcm} (h : x.h.length = 32) : x.cells.length = 37 := by simp [Wcm.cells, h]
theorem Wcm.one (x : Wcm) : ∀ v ∈ x.cells, v.oneCell' = true := by
  intro v hv
  simp only [Wcm.cells, List.mem_cons, List.mem_append, List.not_mem_nil, or_false] at hv
  rcases hv with (rfl | rfl) | hv | rfl | rfl | rfl
  · rfl
  · rfl
  · exact by8_one x.h v hv
  · rfl
  · rfl
  · rfl
/-- its fields, where it lies from o on -/
structure Wcm.At (w : World) (g o : Nat) (x : Wcm) : Prop where
  all : w.rangeAt g o x.cells
  hash : w.rangeAt g (o + 2) (x.h.map by8)
  name : w.rangeAt g (o + 0) [.int .i64 x.c, .int .i64 x.s]
  sig : w.rangeAt g (o + 35) [.int .i64 x.b, .int .i64 x.m]
  c : w.cell? ⟨g, o + 0, none⟩ = some (.int .i64 x.c)
  s : w.cell? ⟨g, o + 1, none⟩ = some (.int .i64 x.s)
  n : w.cell? ⟨g, o + 34, none⟩ = some (.int .i64 x.n)
  b : w.cell? ⟨g, o + 35, none⟩ = some (.int .i64 x.b)
  m : w.cell? ⟨g, o + 36, none⟩ = some (.int .i64 x.m)
theorem Wcm.at_of {w : World} {g o : Nat} {x : Wcm} (hr : w.rangeAt g o x.cells) (hh : x.h.length = 32) : x.At w g o := by
  have hl : (x.h.map by8).length = 32 := by rw [List.length_map]; exact hh
  have c_c : w.cell? ⟨g, o + 0, none⟩ = some (.int .i64 x.c) := hr 0 _ rfl
  have c_s : w.cell? ⟨g, o + 1, none⟩ = some (.int .i64 x.s) := hr 1 _ rfl
  have c_n : w.cell? ⟨g, o + 34, none⟩ = some (.int .i64 x.n) := hr 34 _ (post_cell [.int .i64 x.c, .int .i64 x.s] (x.h.map by8) [.int .i64 x.n, .int .i64 x.b, .int .i64 x.m] hl 0 rfl)
  have c_b : w.cell? ⟨g, o + 35, none⟩ = some (.int .i64 x.b) := hr 35 _ (post_cell [.int .i64 x.c, .int .i64 x.s] (x.h.map by8) [.int .i64 x.n, .int .i64 x.b, .int .i64 x.m] hl 1 rfl)
  have c_m : w.cell? ⟨g, o + 36, none⟩ = some (.int .i64 x.m) := hr 36 _ (post_cell [.int .i64 x.c, .int .i64 x.s] (x.h.map by8) [.int .i64 x.n, .int .i64 x.b, .int .i64 x.m] hl 2 rfl)
  have r_name : w.rangeAt g (o + 0) [.int .i64 x.c, .int .i64 x.s] := by
    intro j v hv
    rcases j with _ | j
    · simp at hv; subst hv; exact c_c
    rcases j with _ | j
    · simp at hv; subst hv; exact c_s
    · simp at hv
  have r_sig : w.rangeAt g (o + 35) [.int .i64 x.b, .int .i64 x.m] := by
    intro j v hv
    rcases j with _ | j
    · simp at hv; subst hv; exact c_b
    rcases j with _ | j
    · simp at hv; subst hv; exact c_m
    · simp at hv
  have r_hash : w.rangeAt g (o + 2) (x.h.map by8) := rangeAt_sub (xs := [.int .i64 x.c, .int .i64 x.s]) (ys := x.h.map by8) (zs := [.int .i64 x.n, .int .i64 x.b, .int .i64 x.m]) hr
  exact ⟨hr, r_hash, r_name, r_sig, c_c, c_s, c_n, c_b, c_m⟩
theorem Wcm.At.keep {w w' : World} {g o : Nat} {x : Wcm} {S : List Nat} (h : x.At w g o) (hf : Fr S w w') (hn : ¬ g ∈ S) : x.At w' g o :=
  ⟨hf.range h.all hn, hf.range h.hash hn, hf.range h.name hn, hf.range h.sig hn, hf.cell h.c hn, hf.cell h.s hn, hf.cell h.n hn, hf.cell h.b hn, hf.cell h.m hn⟩
theorem row_cmt : RowTy Try.prog 39 37 := ⟨by kernel_rfl, by kernel_rfl⟩
theorem row_crt : RowTy Try.prog 48 38 := ⟨by kernel_rfl, by kernel_rfl⟩
def Wcm.full (x : Wcm) : List UInt8 := nmL x.c x.s ++ x.h ++ encI x.n ++ sgL x.b x.m
theorem Wcm.full_len {x : Wcm} (hx : x.Ok) : x.full.length ≤ 82 := by
  have b0 := encI_len x.c hx.c.2
  have b1 := encI_len x.s hx.s.2
  have b2 := hx.h
  have b3 := encI_len x.n hx.n.2
  have b4 := encI_len x.b hx.b.2
  have b5 := encI_len x.m hx.m.2
  simp only [Wcm.full, nmL, sgL, List.length_append]
  omega
/-- a certificate: its commitment, and where its stamps lie -/
structure Wce where
  k : Wcm
  A : Option Addr
  n : Nat
  d : Nat
  l : List Wst
def Wce.cells (x : Wce) : List Value := x.k.cells ++ [.slice x.A x.n x.d]
def Wce.val (x : Wce) : Value := .agg x.cells.toArray
/-- it lies in w, apart from S -/
structure Wce.Ok (w : World) (S : List Nat) (x : Wce) : Prop where
  k : x.k.Ok
  l : Lst 38 Wst.cells (fun _ v => v.Ok) w x.A x.n x.l
  n : x.n ≤ 5
  ap : 0 < x.n → ∀ a, x.A = some a → ¬ a.block ∈ S
theorem Wce.len {x : Wce} (h : x.k.h.length = 32) : x.cells.length = 38 := by simp [Wce.cells, Wcm.len h]
theorem Wce.one (x : Wce) : ∀ v ∈ x.cells, v.oneCell' = true := by
  intro v hv
  simp only [Wce.cells, List.mem_append, List.mem_singleton] at hv
  rcases hv with hv | rfl
  · exact Wcm.one x.k v hv
  · rfl
theorem Wce.Ok.keep {w W : World} {S S' : List Nat} {x : Wce} (h : x.Ok w S) (hf : Fr S w W) (hs : ∀ k ∈ S', k < w.heap.size → k ∈ S) : x.Ok W S' :=
  ⟨h.k, h.l.keep' hf h.ap (fun _ _ h => h), h.n, fun hn a ha hin => h.ap hn a ha (hs _ hin (h.l.lt hn (by decide) (fun v hv => Wst.len (h.l.2.1 v hv).2.h) a ha))⟩
def Wce.full (x : Wce) : List UInt8 := x.k.full ++ listL Wst.full x.l
theorem Wst.full_len {x : Wst} (hx : x.Ok) : x.full.length ≤ 100 := by
  have b0 := Wst.bare_len hx
  have b1 := encI_len x.b hx.b.2
  have b2 := encI_len x.m hx.m.2
  simp only [Wst.full, sgL, List.length_append]
  omega
theorem Wce.full_len {w : World} {S : List Nat} {x : Wce} (hx : x.Ok w S) : x.full.length ≤ 700 := by
  have b0 := Wcm.full_len hx.k
  have b1 := encI_len (x.l.length : Int) (by have := hx.n; have := hx.l.1; omega)
  have b2 : (x.l.flatMap Wst.full).length ≤ 5 * 100 := flat_len (fun v hv => Wst.full_len (hx.l.2.1 v hv).2) (by have := hx.n; have := hx.l.1; omega)
  simp only [Wce.full, listL, List.length_append]
  omega
end Go.Proofs.Ytlkhfhhaallhgaa

namespace Go.Proofs.Ytlkhfhhaallhgaa
open Go.RowKit
set_option maxRecDepth 100000

/-- a promise: its fields, and where its certificates lie -/
structure Wpr where
  r : Int
  e : Int
  t : Nat
  A : Option Addr
  n : Nat
  d : Nat
  l : List Wce
  b : Int
  m : Int
def Wpr.cells (x : Wpr) : List Value := [.int .i64 x.r, .int .i64 x.e, .int .u64 (x.t : Int), .slice x.A x.n x.d, .int .i64 x.b, .int .i64 x.m]
def Wpr.val (x : Wpr) : Value := .agg x.cells.toArray
/-- it lies in w, apart from S -/
structure Wpr.Ok (w : World) (S : List Nat) (x : Wpr) : Prop where
  r : i64In x.r
  e : i64In x.e
  t : x.t < 18446744073709551616
  l : Lst 38 Wce.cells (fun w v => v.Ok w S) w x.A x.n x.l
  n : x.n ≤ 3
  ap : 0 < x.n → ∀ a, x.A = some a → ¬ a.block ∈ S
  b : i64In x.b
  m : i64In x.m
theorem Wpr.one (x : Wpr) : ∀ v ∈ x.cells, v.oneCell' = true := by
  intro v hv
  simp only [Wpr.cells, List.mem_cons, List.not_mem_nil, or_false] at hv
  rcases hv with rfl | rfl | rfl | rfl | rfl | rfl <;> rfl
theorem Wpr.Ok.keep {w W : World} {S S' : List Nat} {x : Wpr} (h : x.Ok w S) (hf : Fr S w W) (hs : ∀ k ∈ S', k < w.heap.size → k ∈ S) : x.Ok W S' :=
  ⟨h.r, h.e, h.t, h.l.keep' hf h.ap (fun _ _ h => h.keep hf hs), h.n, fun hn a ha hin => h.ap hn a ha (hs _ hin (h.l.lt hn (by decide) (fun v hv => Wce.len (h.l.2.1 v hv).2.k.h) a ha)), h.b, h.m⟩
def Wpr.bare (x : Wpr) : List UInt8 := encI x.r ++ encI x.e ++ enc x.t ++ listL Wce.full x.l
def Wpr.full (x : Wpr) : List UInt8 := x.bare ++ sgL x.b x.m
theorem Wpr.bare_len {w : World} {S : List Nat} {x : Wpr} (hx : x.Ok w S) : x.bare.length ≤ 2200 := by
  have b0 := encI_len x.r hx.r.2
  have b1 := encI_len x.e hx.e.2
  have b2 := enc_ten hx.t
  have b3 := encI_len (x.l.length : Int) (by have := hx.n; have := hx.l.1; omega)
  have b4 : (x.l.flatMap Wce.full).length ≤ 3 * 700 := flat_len (fun v hv => Wce.full_len (hx.l.2.1 v hv).2) (by have := hx.n; have := hx.l.1; omega)
  simp only [Wpr.bare, listL, List.length_append]
  omega
theorem Wpr.full_len {w : World} {S : List Nat} {x : Wpr} (hx : x.Ok w S) : x.full.length ≤ 2300 := by
  have b0 := Wpr.bare_len hx
  have b1 := encI_len x.b hx.b.2
  have b2 := encI_len x.m hx.m.2
  simp only [Wpr.full, sgL, List.length_append]
  omega
theorem Wpr.len (x : Wpr) : x.cells.length = 6 := rfl
end Go.Proofs.Ytlkhfhhaallhgaa

namespace Go.Proofs.Ytlkhfhhaallhgaa
open Go.RowKit
set_option maxRecDepth 100000

/-- an opening: its index, where its payload lies, its nonce -/
structure Wop where
  i : Int
  A : Option Addr
  n : Nat
  d : Nat
  p : List UInt8
  h : List UInt8
def Wop.cells (x : Wop) : List Value := [.int .i64 x.i, .slice x.A x.n x.d] ++ (x.h.map by8 ++ [])
def Wop.val (x : Wop) : Value := .agg x.cells.toArray
structure Wop.Ok (w : World) (S : List Nat) (x : Wop) : Prop where
  i : i64In x.i
  p : By w x.A x.n x.p
  n : x.n ≤ 260
  ap : ∀ k ∈ bk x.A, ¬ k ∈ S
  lt : ∀ k ∈ bk x.A, k < w.heap.size
  h : x.h.length = 32
  d : x.n ≤ x.d
theorem Wop.len {x : Wop} (h : x.h.length = 32) : x.cells.length = 34 := by simp [Wop.cells, h]
theorem Wop.one (x : Wop) : ∀ v ∈ x.cells, v.oneCell' = true := by
  intro v hv
  simp only [Wop.cells, List.mem_cons, List.mem_append, List.not_mem_nil, or_false] at hv
  rcases hv with (rfl | rfl) | hv
  · rfl
  · rfl
  · exact by8_one x.h v hv
theorem Wop.Ok.keep {w W : World} {S S' : List Nat} {x : Wop} (h : x.Ok w S) (hf : Fr S w W) (hs : ∀ k ∈ S', k < w.heap.size → k ∈ S) : x.Ok W S' :=
  ⟨h.i, h.p.keep hf (fun a ha => h.ap _ (by rw [ha]; simp [bk])), h.n, fun k hk hin => h.ap k hk (hs k hin (h.lt k hk)), fun k hk => Nat.lt_of_lt_of_le (h.lt k hk) hf.size, h.h, h.d⟩
def Wop.full (x : Wop) : List UInt8 := encI x.i ++ (enc x.n ++ x.p) ++ x.h
theorem Wop.full_len {w : World} {S : List Nat} {x : Wop} (hx : x.Ok w S) : x.full.length ≤ 320 := by
  have b0 := encI_len x.i hx.i.2
  have b1 : (enc x.n).length ≤ 10 := enc_ten (by have := hx.n; omega)
  have b2 := hx.p.1
  have b3 := hx.n
  have b4 := hx.h
  simp only [Wop.full, List.length_append]
  omega
/-- a tombstone: its index, where its denials lie -/
structure Wtb where
  i : Int
  A : Option Addr
  n : Nat
  d : Nat
  l : List Wdn
def Wtb.cells (x : Wtb) : List Value := [.int .i64 x.i, .slice x.A x.n x.d]
def Wtb.val (x : Wtb) : Value := .agg x.cells.toArray
structure Wtb.Ok (w : World) (S : List Nat) (x : Wtb) : Prop where
  i : i64In x.i
  l : Lst 4 Wdn.cells (fun _ v => v.Ok) w x.A x.n x.l
  n : x.n ≤ 5
  ap : 0 < x.n → ∀ a, x.A = some a → ¬ a.block ∈ S
theorem Wtb.one (x : Wtb) : ∀ v ∈ x.cells, v.oneCell' = true := by
  intro v hv
  simp only [Wtb.cells, List.mem_cons, List.not_mem_nil, or_false] at hv
  rcases hv with rfl | rfl <;> rfl
theorem Wtb.Ok.keep {w W : World} {S S' : List Nat} {x : Wtb} (h : x.Ok w S) (hf : Fr S w W) (hs : ∀ k ∈ S', k < w.heap.size → k ∈ S) : x.Ok W S' :=
  ⟨h.i, h.l.keep' hf h.ap (fun _ _ h => h), h.n, fun hn a ha hin => h.ap hn a ha (hs _ hin (h.l.lt hn (by decide) (fun v hv => Wdn.len v) a ha))⟩
def Wtb.full (x : Wtb) : List UInt8 := encI x.i ++ listL Wdn.full x.l
theorem Wdn.full_len {x : Wdn} (hx : x.Ok) : x.full.length ≤ 100 := by
  have b0 := Wdn.bare_len hx
  have b1 := encI_len x.b hx.b.2
  have b2 := encI_len x.m hx.m.2
  simp only [Wdn.full, sgL, List.length_append]
  omega
theorem Wtb.full_len {w : World} {S : List Nat} {x : Wtb} (hx : x.Ok w S) : x.full.length ≤ 520 := by
  have b0 := encI_len x.i hx.i.2
  have b1 := encI_len (x.l.length : Int) (by have := hx.n; have := hx.l.1; omega)
  have b2 : (x.l.flatMap Wdn.full).length ≤ 5 * 100 := flat_len (fun v hv => Wdn.full_len (hx.l.2.1 v hv).2) (by have := hx.n; have := hx.l.1; omega)
  simp only [Wtb.full, listL, List.length_append]
  omega
end Go.Proofs.Ytlkhfhhaallhgaa

namespace Go.Proofs.Ytlkhfhhaallhgaa
open Go.RowKit
set_option maxRecDepth 100000
/-- a batch: its epoch, its time, where its promises, openings, tombstones lie -/
structure Wba where
  e : Int
  t : Nat
  A : Option Addr
  n : Nat
  d : Nat
  l : List Wpr
  A2 : Option Addr
  n2 : Nat
  d2 : Nat
  l2 : List Wop
  A3 : Option Addr
  n3 : Nat
  d3 : Nat
  l3 : List Wtb
def Wba.cells (x : Wba) : List Value := [.int .i64 x.e, .int .u64 (x.t : Int), .slice x.A x.n x.d, .slice x.A2 x.n2 x.d2, .slice x.A3 x.n3 x.d3]
def Wba.val (x : Wba) : Value := .agg x.cells.toArray
structure Wba.Ok (w : World) (S : List Nat) (x : Wba) : Prop where
  e : i64In x.e
  t : x.t < 18446744073709551616
  l : Lst 6 Wpr.cells (fun w v => v.Ok w S) w x.A x.n x.l
  n : x.n ≤ 4
  ap : 0 < x.n → ∀ a, x.A = some a → ¬ a.block ∈ S
  l2 : Lst 34 Wop.cells (fun w v => v.Ok w S) w x.A2 x.n2 x.l2
  n2 : x.n2 ≤ 5
  ap2 : 0 < x.n2 → ∀ a, x.A2 = some a → ¬ a.block ∈ S
  l3 : Lst 2 Wtb.cells (fun w v => v.Ok w S) w x.A3 x.n3 x.l3
  n3 : x.n3 ≤ 5
  ap3 : 0 < x.n3 → ∀ a, x.A3 = some a → ¬ a.block ∈ S
theorem Wba.one (x : Wba) : ∀ v ∈ x.cells, v.oneCell' = true := by
  intro v hv
  simp only [Wba.cells, List.mem_cons, List.not_mem_nil, or_false] at hv
  rcases hv with rfl | rfl | rfl | rfl | rfl <;> rfl
theorem Wba.len (x : Wba) : x.cells.length = 5 := rfl
theorem Wba.Ok.keep {w W : World} {S S' : List Nat} {x : Wba} (h : x.Ok w S) (hf : Fr S w W) (hs : ∀ k ∈ S', k < w.heap.size → k ∈ S) : x.Ok W S' :=
  ⟨h.e, h.t, h.l.keep' hf h.ap (fun _ _ h => h.keep hf hs), h.n, fun hn a ha hin => h.ap hn a ha (hs _ hin (h.l.lt hn (by decide) (fun _ _ => rfl) a ha)),
    h.l2.keep' hf h.ap2 (fun _ _ h => h.keep hf hs), h.n2, fun hn a ha hin => h.ap2 hn a ha (hs _ hin (h.l2.lt hn (by decide) (fun v hv => Wop.len (h.l2.2.1 v hv).2.h) a ha)),
    h.l3.keep' hf h.ap3 (fun _ _ h => h.keep hf hs), h.n3, fun hn a ha hin => h.ap3 hn a ha (hs _ hin (h.l3.lt hn (by decide) (fun _ _ => rfl) a ha))⟩
def Wba.full (x : Wba) : List UInt8 := encI x.e ++ enc x.t ++ listL Wpr.full x.l ++ listL Wop.full x.l2 ++ listL Wtb.full x.l3
theorem Wba.l_len {w : World} {S : List Nat} {x : Wba} (hx : x.Ok w S) : (listL Wpr.full x.l).length ≤ 9300 := by
  have b1 := encI_len (x.l.length : Int) (by have := hx.n; have := hx.l.1; omega)
  have b2 : (x.l.flatMap Wpr.full).length ≤ 4 * 2300 := flat_len (fun v hv => Wpr.full_len (hx.l.2.1 v hv).2) (by have := hx.n; have := hx.l.1; omega)
  simp only [listL, List.length_append]
  omega
theorem Wba.l2_len {w : World} {S : List Nat} {x : Wba} (hx : x.Ok w S) : (listL Wop.full x.l2).length ≤ 1700 := by
  have b1 := encI_len (x.l2.length : Int) (by have := hx.n2; have := hx.l2.1; omega)
  have b2 : (x.l2.flatMap Wop.full).length ≤ 5 * 320 := flat_len (fun v hv => Wop.full_len (hx.l2.2.1 v hv).2) (by have := hx.n2; have := hx.l2.1; omega)
  simp only [listL, List.length_append]
  omega
theorem Wba.l3_len {w : World} {S : List Nat} {x : Wba} (hx : x.Ok w S) : (listL Wtb.full x.l3).length ≤ 2700 := by
  have b1 := encI_len (x.l3.length : Int) (by have := hx.n3; have := hx.l3.1; omega)
  have b2 : (x.l3.flatMap Wtb.full).length ≤ 5 * 520 := flat_len (fun v hv => Wtb.full_len (hx.l3.2.1 v hv).2) (by have := hx.n3; have := hx.l3.1; omega)
  simp only [listL, List.length_append]
  omega
theorem Wba.full_len {w : World} {S : List Nat} {x : Wba} (hx : x.Ok w S) : x.full.length ≤ 14000 := by
  have b0 := encI_len x.e hx.e.2
  have b1 := enc_ten hx.t
  have b2 := Wba.l_len hx
  have b3 := Wba.l2_len hx
  have b4 := Wba.l3_len hx
  simp only [Wba.full, List.length_append]
  omega
end Go.Proofs.Ytlkhfhhaallhgaa

namespace Go.Proofs.Ytlkhfhhaallhgaa
open Go.RowKit
set_option maxRecDepth 100000
theorem NewWr.calls {P : Program} {f : FuncId} {args : Array Value} {w0 w : World} {g : Nat} {l l' : List UInt8} {v : Value} (h : NewWr w0 w g l)
    (hc : ∀ S, Wr w S g l → Fr [] w0 w → (∀ k ∈ S, w0.heap.size ≤ k) → Calls P f args w fun e w' => e = .returned v ∧ Gr w S g l' w') : Calls P f args w fun e w' => e = .returned v ∧ NewWr w0 w' g l' := by
  obtain ⟨S, k1, k2, k3⟩ := h
  refine (hc S k1 k2 k3).mono ?_
  rintro e w' ⟨rfl, hg⟩
  exact ⟨rfl, NewWr.add k2 k3 hg⟩
def wWpr : List UInt8 := [112, 114, 111, 109, 105, 115, 101]
def Wpr.text (x : Wpr) : List UInt8 := enc wWpr.length ++ wWpr ++ x.bare
theorem Wpr.text_len {w : World} {S : List Nat} {x : Wpr} (hx : x.Ok w S) : x.text.length ≤ 2300 := by
  have b0 := Wpr.bare_len hx
  have b1 := enc_ten (m := wWpr.length) (by decide)
  have b2 : wWpr.length = 7 := rfl
  simp only [Wpr.text, List.length_append]
  omega
/-- one more than z, below 0: 0 -/
def oneM (z : Int) : Nat := if z < 0 then 0 else z.toNat + 1
/-- a proposal -/
structure Wpo where
  e : Int
  r : Int
  v : Int
  p : Int
  k : Wba
  b : Int
  m : Int
def Wpo.cells (x : Wpo) : List Value := [.int .i64 x.e, .int .i64 x.r, .int .i64 x.v, .int .i64 x.p] ++ (x.k.cells ++ [.int .i64 x.b, .int .i64 x.m])
def Wpo.val (x : Wpo) : Value := .agg x.cells.toArray
structure Wpo.Ok (w : World) (x : Wpo) : Prop where
  e : i64In x.e
  r : i64In x.r
  v : i64In x.v
  p : i64In x.p
  k : x.k.Ok w []
  b : i64In x.b
  m : i64In x.m
theorem Wpo.len (x : Wpo) : x.cells.length = 11 := rfl
def wWpo : List UInt8 := [112, 114, 111, 112, 111, 115, 97, 108]
def Wpo.head (x : Wpo) : List UInt8 := encI x.e ++ encI x.r ++ enc (oneM x.v) ++ encI x.p
theorem Wpo.head_len {x : Wpo} (he : i64In x.e) (hr : i64In x.r) (hv : i64In x.v) (hp : i64In x.p) : x.head.length ≤ 40 := by
  have b0 := encI_len x.e he.2
  have b1 := encI_len x.r hr.2
  have b2 := encI_len x.p hp.2
  have b3 : oneM x.v < 18446744073709551616 := by have := hv.2; unfold oneM; split <;> omega
  have b4 := enc_ten b3
  simp only [Wpo.head, List.length_append]
  omega
def Wpo.text (x : Wpo) : List UInt8 := enc wWpo.length ++ wWpo ++ x.head ++ sumL x.k.full
end Go.Proofs.Ytlkhfhhaallhgaa

namespace Go.Proofs.Ytlkhfhhaallhgaa
open Go.RowKit
set_option maxRecDepth 100000

/-- a list in new memory that the call owns -/
def NewL {α : Type} (e : TypeId) (k : Nat) (cells : α → List Value) (w w' : World) (A : Option Addr) (n c : Nat) (l : List α) : Prop :=
  w'.ownsRow 0 e k (.slice A n c) n (l.flatMap cells) ∧ Fr [] w w' ∧ ∀ x ∈ bk A, w.heap.size ≤ x
theorem cells_one {α : Type} {cells : α → List Value} (hone : ∀ v, ∀ u ∈ cells v, u.oneCell' = true) (l : List α) : ∀ u ∈ l.flatMap cells, u.oneCell' = true := by
  intro u hu
  obtain ⟨v, _, hv⟩ := List.mem_flatMap.1 hu
  exact hone v u hv
theorem cells_flat_len {α : Type} {cells : α → List Value} {k : Nat} : ∀ {l : List α}, (∀ v ∈ l, (cells v).length = k) → (l.flatMap cells).length = l.length * k
  | [], _ => by simp
  | v :: l, h => by
    rw [List.flatMap_cons, List.length_append, h v (by simp), cells_flat_len (fun u hu => h u (by simp [hu])), List.length_cons, Nat.succ_mul]
    omega
theorem flat_back {α : Type} {cells : α → List Value} {k : Nat} (hk0 : 0 < k) : ∀ {l : List α}, (∀ v ∈ l, (cells v).length = k) → ∀ {j : Nat} {u : Value}, (l.flatMap cells)[j]? = some u → ∃ v, l[j / k]? = some v ∧ (cells v)[j % k]? = some u
  | [], _, j, u, hj => by simp at hj
  | v :: l, h, j, u, hj => by
    have hv := h v (by simp)
    rw [List.flatMap_cons] at hj
    by_cases hlt : j < k
    · rw [List.getElem?_append_left (by omega)] at hj
      exact ⟨v, by rw [Nat.div_eq_of_lt hlt]; rfl, by rw [Nat.mod_eq_of_lt hlt]; exact hj⟩
    · rw [List.getElem?_append_right (by omega), hv] at hj
      obtain ⟨v', h1, h2⟩ := flat_back hk0 (fun u hu => h u (by simp [hu])) hj
      refine ⟨v', ?_, by rw [Nat.mod_eq_sub_mod (show j ≥ k by omega)]; exact h2⟩
      rw [Nat.div_eq_sub_div hk0 (show k ≤ j by omega), List.getElem?_cons_succ]
      exact h1
theorem Lst.flat {α : Type} {k : Nat} {cells : α → List Value} {ok : World → α → Prop} {w : World} {ad : Addr} {n : Nat} {l : List α} (h : Lst k cells ok w (some ad) n l) (hk : 0 < k) : ∀ j u, (l.flatMap cells)[j]? = some u → w.cell? (ad.add j) = some u := by
  intro j u hj
  obtain ⟨v, h1, h2⟩ := flat_back hk (fun v hv => (h.2.1 v hv).1) hj
  have hn : 0 < n := by
    have h3 := (List.getElem?_eq_some_iff.1 h1).1
    rw [h.1] at h3
    exact Nat.lt_of_le_of_lt (Nat.zero_le _) h3
  obtain ⟨ad', e, hc⟩ := h.2.2 hn
  injection e with e
  subst e
  have := hc _ _ h1 _ _ h2
  rwa [Nat.div_add_mod' j k] at this
section
variable {P : Program} (w : World)
theorem run_append_lst {α : Type} {cells : α → List Value} {ok : World → α → Prop} (hone : ∀ v, ∀ u ∈ cells v, u.oneCell' = true) (t ty e : TypeId) (k bytes : Nat) (ht : P.underlying t = some (.slice e)) (he : ElTy P e k bytes) (hk : 0 < k) (hby : bytes ≤ 1000)
    (A : Option Addr) (m c : Nat) (l : List α) (hr : Lst k cells ok w A m l) (hm : m ≤ 1000000) :
    ∃ A' c' w', (Builtin.append_ #[t, t] ty #[.slice none 0 0, .slice A m c]).run P w = .ok (.slice A' m c') w' ∧ NewL e k cells w w' A' m c' l := by
  obtain ⟨i, z, hi, hz, hzs, hsz, hbs⟩ := he
  have hnil : w.ownsRow 0 e k (.slice none 0 0) 0 [] := ⟨by simp, .inl ⟨rfl, rfl⟩⟩
  suffices h : ∃ v' w', (Builtin.append_ #[t, t] ty #[.slice none 0 0, .slice A m c]).run P w = .ok v' w' ∧ w'.ownsRow 0 e k v' m (l.flatMap cells) ∧ w.grownBy w' none ∧ (v'.ownBlock = none ∨ v'.ownBlock = some w.heap.size) by
    obtain ⟨v', w', h1, h2, h3, h4⟩ := h
    obtain ⟨A', c', rfl⟩ := own_form h2
    refine ⟨A', c', w', h1, h2, (Fr.refl [] w).grown h3 (by simp), fun x hx => ?_⟩
    rw [← bk_own A' m c'] at hx
    rcases h4 with h4 | h4 <;> rw [h4] at hx <;> simp at hx <;> omega
  rcases A with _ | ad
  · have hm0 : m = 0 := by
      rcases Nat.eq_zero_or_pos m with h0 | h0
      · exact h0
      · obtain ⟨ad, h, _⟩ := hr.2.2 h0
        cases h
    subst hm0
    have hn : l = [] := List.eq_nil_of_length_eq_zero hr.1
    subst hn
    exact ⟨_, w, run_append_nothing w 0 t ty e i k ht hi _ 0 [] hnil c, by simpa using hnil, World.grownBy.refl w _, .inl rfl⟩
  · obtain ⟨v', w', hrun, h2, h3, _, h5⟩ := run_append_own_at (P := P) w 0 t ty e i z k bytes ht hi hz hsz hbs hzs hk _ 0 [] hnil ad m c (l.flatMap cells)
      (by rw [cells_flat_len (fun v hv => (hr.2.1 v hv).1), hr.1]) (hr.flat hk) (cells_one hone l) (by simp only [maxLen]; omega)
      (Nat.le_trans (Nat.mul_le_mul (show 0 + m ≤ 1000000 by omega) hby) (by decide)) (Nat.zero_le _)
    exact ⟨v', w', hrun, by simpa using h2, h3, by simpa [Value.ownBlock] using h5⟩
theorem wpList_append_lst {α : Type} {cells : α → List Value} {ok : World → α → Prop} {ops : Array Oper} {rest : List Oper} {o : Oper} {a : Act} {Q : Exit → Act → World → Prop} (hgd : o.guard = none) (s x : Operand) (t : TypeId)
    (ho : o.op = .call { callee := .builtin .append, args := #[s, x], argTypes := #[t, t] }) (e : TypeId) (k bytes : Nat) (ht : P.underlying t = some (.slice e)) (he : ElTy P e k bytes) (hk : 0 < k) (hby : bytes ≤ 1000)
    (hone : ∀ v, ∀ u ∈ cells v, u.oneCell' = true) (hs : a.eval s = .slice none 0 0) (A : Option Addr) (m c : Nat) (l : List α) (hx : a.eval x = .slice A m c) (hr : Lst k cells ok w A m l) (hm : m ≤ 1000000)
    (h : ∀ A' c' w', NewL e k cells w w' A' m c' l → wpList P ops Q rest (a.put o.dst (.slice A' m c')) w') : wpList P ops Q (o :: rest) a w := by
  refine wpList_plain hgd fun K hK => ?_
  obtain ⟨A', c', w', hrun, h2⟩ := run_append_lst (P := P) w hone t o.type e k bytes ht he hk hby A m c l hr hm
  unfold Oper.wp execOp
  simp only [ho, resolve, invoke, builtin, Sem.run_bind, Sem.run_pure, Result.andThen_ok, List.map_toArray, List.map_cons, List.map_nil, hs, hx, hrun]
  exact hK _ _ (h A' c' w' h2)
end
theorem el_stamp : ElTy Try.prog 45 38 80 := ElTy.of (by kernel_rfl)
theorem copyStamps_any (A : Option Addr) (n c : Nat) (l : List Wst) (w : World) (hr : Lst 38 Wst.cells (fun _ v => v.Ok) w A n l) (hn : n ≤ 1000000) :
    Calls Try.prog 16 #[.slice A n c] w fun e w' => ∃ A' c', e = .returned (.slice A' n c') ∧ NewL 45 38 Wst.cells w w' A' n c' l := by
  have HR := Lib.hid hr
  have HN := Lib.hid hn
  clear hr hn
  go_enter Try.func16, Try.ntmps16
  go_wp2_with (at_builtin; refine Stop.mk ?_)
  refine Stop.go ?_
  refine wpList_append_lst _ rfl (.const (.slice none 0 0)) (.tmp 3) _ rfl 45 38 80 Try.underlying42 el_stamp (by decide) (by decide) Wst.one rfl A n c l rfl HR.out HN.out ?_
  intro A1 c1 w1 ho1
  have HO := Lib.hid ho1
  clear ho1
  go_wp2
  go_ret
  exact ⟨A1, c1, rfl, HO.out⟩
end Go.Proofs.Ytlkhfhhaallhgaa

namespace Go.Proofs.Ytlkhfhhaallhgaa
open Go.RowKit
set_option maxRecDepth 100000

def zeroCe : Array Value := (Wce.cells ⟨⟨0, 0, List.replicate 32 0, 0, 0, 0⟩, none, 0, 0, []⟩).toArray
theorem set_last (K : List Value) (hK : K.length = 37) (u v : Value) : (K ++ [u]).toArray.setIfInBounds 37 v = (K ++ [v]).toArray := by
  rw [List.setIfInBounds_toArray, List.set_append_right _ _ (by omega), hK]
  rfl
theorem wpList_append_one2 {P : Program} {ops : Array Oper} {rest : List Oper} {o : Oper} {a : Act} {w : World} {Q : Exit → Act → World → Prop} (hg : o.guard = none) (s x : Operand) (t e : TypeId)
    (ho : o.op = .call { callee := .builtin .append, args := #[s, x], argTypes := #[t, t] }) (ht : P.underlying t = some (.slice e)) (k bytes : Nat) (he : ElTy P e k bytes) (hk : 0 < k)
    (base : Nat) (v : Value) (n : Nat) (xs cs : List Value) (hs : a.eval s = v) (hown : w.ownsRow base e k v n xs) (hbase : base ≤ w.heap.size) (hcl : cs.length = k) (h1 : ∀ u ∈ cs, u.oneCell' = true)
    (g : Nat) (t' : TypeId) (hx : a.eval x = .slice (some ⟨g, 0, none⟩) 1 1) (hb : Blk w g t' cs.toArray) (hn : n < 1000000) (hby : bytes ≤ 1000)
    (h : ∀ A c w', w'.ownsRow base e k (.slice A (n + 1) c) (n + 1) (xs ++ cs) → Fr v.ownBlock.toList w w' → ((Value.slice A (n + 1) c).ownBlock = v.ownBlock ∨ (Value.slice A (n + 1) c).ownBlock = some w.heap.size) → wpList P ops Q rest (a.put o.dst (.slice A (n + 1) c)) w') : wpList P ops Q (o :: rest) a w := by
  obtain ⟨i, z, hi, hz, hzs, hsz, hbs⟩ := he
  refine wpList_append_lies w hg s x t ho base e i z k bytes ht hi hz hsz hbs hzs hk v n xs hs hown ⟨g, 0, none⟩ 1 1 cs hx (by omega) (fun j u hu => ?_) h1 (by omega) (by simp only [maxLen]; omega)
    (Nat.le_trans (Nat.mul_le_mul (show n + 1 ≤ 1000000 by omega) hby) (by decide)) hbase _ rfl (fun g' cap w' h2 h3 h4 _ => ?_)
  · have hadd : (⟨g, 0, none⟩ : Addr).add j = ⟨g, j, none⟩ := by unfold Addr.add; split <;> simp_all
    rw [hadd, hb.cell j]
    simpa using hu
  · exact h _ _ w' h2 ((Fr.refl _ w).grown h3 (fun y hy _ => by simp [hy])) (h4.imp (fun e => e.symm) (fun e => by rw [e]; rfl))
theorem el_cert : ElTy Try.prog 48 38 96 := ElTy.of (by kernel_rfl)
/-- ys are xs, each with five stamps at most -/
def Small (ys xs : List Wce) : Prop := ys.map (fun y => (y.k, y.l)) = xs.map (fun x => (x.k, x.l.take 5))
def zeroPr : Array Value := (Wpr.cells ⟨0, 0, 0, none, 0, 0, [], 0, 0⟩).toArray
/-- a certificate that comes in: it lies in w, with any number of stamps -/
structure Wce.In (w : World) (x : Wce) : Prop where
  k : x.k.Ok
  l : Lst 38 Wst.cells (fun _ v => v.Ok) w x.A x.n x.l
  n : x.n ≤ maxLen
  d : x.n ≤ x.d
theorem Wce.In.keep {w w' : World} {x : Wce} (h : x.In w) (hf : Fr [] w w') : x.In w' := ⟨h.k, h.l.keep' hf (by simp) (fun _ _ h => h), h.n, h.d⟩
end Go.Proofs.Ytlkhfhhaallhgaa

namespace Go.Proofs.Ytlkhfhhaallhgaa
open Go.ChangeShapes Go.WideShapes Go.ChangeAt Go.RowKit
set_option maxRecDepth 100000
theorem lst_of_cells {α : Type} [Inhabited α] {H : Type} {enc : TypeId × Value → H} {w : World} {spare : Nat → Bool} {held : Bool} {k : Nat} {cells : α → List Value} {ok : World → α → Prop} {t e : TypeId} (ht : Try.prog.underlying t = some (.slice e)) (hc : Try.prog.cellsOf e = k)
    (hel : ∀ fuel cs (x : DataW H × List MemPlace), DataW.trod enc Try.prog w 0 spare held fuel e cs = some x → ∃ v : α, ok w v ∧ cs = cells v) {fuel : Nat} {cs : List Value} {x : DataW H × List MemPlace} (h : DataW.trod enc Try.prog w 0 spare held fuel t cs = some x) :
    ∃ A n d, ∃ l : List α, cs = [.slice A n d] ∧ Lst k cells ok w A n l ∧ n ≤ d ∧ d ≤ maxLen := by
  rcases Go.Deep.open_slice ht h with ⟨rfl, _⟩ | ⟨a, len', cap', m, n, D, Pl, rfl, _⟩
  · obtain ⟨l, h1, h2, h3⟩ := lst_of_trod ht hc hel h
    exact ⟨_, _, _, l, rfl, h1, h2, h3⟩
  · obtain ⟨l, h1, h2, h3⟩ := lst_of_trod ht hc hel h
    exact ⟨_, _, _, l, rfl, h1, h2, h3⟩
theorem stamp_of_trod {H : Type} {enc : TypeId × Value → H} {W : World} {sp : Nat → Bool} {held : Bool} {fuel : Nat} {cs : List Value} {x0 : DataW H × List MemPlace} (h : DataW.trod enc Try.prog W 0 sp held fuel 45 cs = some x0) :
    ∃ x : Wst, x.Ok ∧ cs = x.cells := by
  obtain ⟨xs, m, _, _, hlen, hxl, hat⟩ := DataW.trod_struct Try.underlying45 h
  rw [show Try.prog.cellsOf 45 = 38 by kernel_rfl] at hlen
  have hx : ∀ i (hi : i < 5), xs[i]? = some (xs[i]'(by rw [hxl]; exact hi)) := fun i hi => List.getElem?_eq_getElem _
  have f0 : DataW.trod enc Try.prog W 0 sp held m 3 ((cs.drop 0).take (Try.prog.cellsOf 3)) = _ := (hat 0 _ rfl).trans (hx 0 (by omega))
  rw [show Try.prog.cellsOf 3 = 1 by kernel_rfl] at f0
  obtain ⟨r, e0, _, w0⟩ := DataW.trod_int Try.underlying3 f0
  have f1 : DataW.trod enc Try.prog W 0 sp held m 23 ((cs.drop 1).take (Try.prog.cellsOf 23)) = _ := (hat 1 _ rfl).trans (hx 1 (by omega))
  rw [show Try.prog.cellsOf 23 = 2 by kernel_rfl] at f1
  obtain ⟨c, s, w1, w1', e1⟩ := pair_of_trod Try.underlying23 ⟨rfl, rfl⟩ ⟨rfl, rfl⟩ (by kernel_rfl) f1
  have f2 : DataW.trod enc Try.prog W 0 sp held m 35 ((cs.drop 3).take (Try.prog.cellsOf 35)) = _ := (hat 2 _ rfl).trans (hx 2 (by omega))
  rw [show Try.prog.cellsOf 35 = 32 by kernel_rfl] at f2
  obtain ⟨hh, w2, e2⟩ := hash_of_trod f2
  have f3 : DataW.trod enc Try.prog W 0 sp held m 43 ((cs.drop 35).take (Try.prog.cellsOf 43)) = _ := (hat 3 _ rfl).trans (hx 3 (by omega))
  rw [show Try.prog.cellsOf 43 = 1 by kernel_rfl] at f3
  obtain ⟨u3, e3, _, w3⟩ := DataW.trod_int Try.underlying43 f3
  obtain ⟨t, rfl, b3⟩ := u64_of w3
  have f4 : DataW.trod enc Try.prog W 0 sp held m 37 ((cs.drop 36).take (Try.prog.cellsOf 37)) = _ := (hat 4 _ rfl).trans (hx 4 (by omega))
  rw [show Try.prog.cellsOf 37 = 2 by kernel_rfl] at f4
  obtain ⟨b, mm, w4, w4', e4⟩ := pair_of_trod Try.underlying37 ⟨rfl, rfl⟩ ⟨rfl, rfl⟩ (by kernel_rfl) f4
  refine ⟨⟨r, c, s, hh, t, b, mm⟩, ⟨i64In_of w0, w1, w1', w2, b3, w4, w4'⟩, ?_⟩
  have z : cs.drop 38 = [] := List.drop_eq_nil_of_le (by omega)
  have s0 : cs = cs.drop 0 := rfl
  rw [s0, cut_at cs 0 1 1 rfl, e0, cut_at cs 1 2 3 rfl, e1, cut_at cs 3 32 35 rfl, e2, cut_at cs 35 1 36 rfl, e3, cut_at cs 36 2 38 rfl, e4, z]
  simp [Wst.cells]
theorem commit_of_trod {H : Type} {enc : TypeId × Value → H} {W : World} {sp : Nat → Bool} {held : Bool} {fuel : Nat} {cs : List Value} {x0 : DataW H × List MemPlace} (h : DataW.trod enc Try.prog W 0 sp held fuel 39 cs = some x0) :
    ∃ x : Wcm, x.Ok ∧ cs = x.cells := by
  obtain ⟨xs, m, _, _, hlen, hxl, hat⟩ := DataW.trod_struct Try.underlying39 h
  rw [show Try.prog.cellsOf 39 = 37 by kernel_rfl] at hlen
  have hx : ∀ i (hi : i < 4), xs[i]? = some (xs[i]'(by rw [hxl]; exact hi)) := fun i hi => List.getElem?_eq_getElem _
  have f0 : DataW.trod enc Try.prog W 0 sp held m 23 ((cs.drop 0).take (Try.prog.cellsOf 23)) = _ := (hat 0 _ rfl).trans (hx 0 (by omega))
  rw [show Try.prog.cellsOf 23 = 2 by kernel_rfl] at f0
  obtain ⟨c, s, w0, w0', e0⟩ := pair_of_trod Try.underlying23 ⟨rfl, rfl⟩ ⟨rfl, rfl⟩ (by kernel_rfl) f0
  have f1 : DataW.trod enc Try.prog W 0 sp held m 35 ((cs.drop 2).take (Try.prog.cellsOf 35)) = _ := (hat 1 _ rfl).trans (hx 1 (by omega))
  rw [show Try.prog.cellsOf 35 = 32 by kernel_rfl] at f1
  obtain ⟨hh, w1, e1⟩ := hash_of_trod f1
  have f2 : DataW.trod enc Try.prog W 0 sp held m 3 ((cs.drop 34).take (Try.prog.cellsOf 3)) = _ := (hat 2 _ rfl).trans (hx 2 (by omega))
  rw [show Try.prog.cellsOf 3 = 1 by kernel_rfl] at f2
  obtain ⟨n, e2, _, w2⟩ := DataW.trod_int Try.underlying3 f2
  have f3 : DataW.trod enc Try.prog W 0 sp held m 37 ((cs.drop 35).take (Try.prog.cellsOf 37)) = _ := (hat 3 _ rfl).trans (hx 3 (by omega))
  rw [show Try.prog.cellsOf 37 = 2 by kernel_rfl] at f3
  obtain ⟨b, mm, w3, w3', e3⟩ := pair_of_trod Try.underlying37 ⟨rfl, rfl⟩ ⟨rfl, rfl⟩ (by kernel_rfl) f3
  refine ⟨⟨c, s, hh, n, b, mm⟩, ⟨w0, w0', w1, i64In_of w2, w3, w3'⟩, ?_⟩
  have z : cs.drop 37 = [] := List.drop_eq_nil_of_le (by omega)
  have s0 : cs = cs.drop 0 := rfl
  rw [s0, cut_at cs 0 2 2 rfl, e0, cut_at cs 2 32 34 rfl, e1, cut_at cs 34 1 35 rfl, e2, cut_at cs 35 2 37 rfl, e3, z]
  simp [Wcm.cells]
instance : Inhabited Wst := ⟨⟨0, 0, 0, [], 0, 0, 0⟩⟩
instance : Inhabited Wdn := ⟨⟨0, 0, 0, 0⟩⟩
instance : Inhabited Wce := ⟨⟨⟨0, 0, [], 0, 0, 0⟩, none, 0, 0, []⟩⟩
theorem cert_of_trod {H : Type} {enc : TypeId × Value → H} {W : World} {sp : Nat → Bool} {held : Bool} {fuel : Nat} {cs : List Value} {x0 : DataW H × List MemPlace} (h : DataW.trod enc Try.prog W 0 sp held fuel 48 cs = some x0) :
    ∃ x : Wce, x.In W ∧ cs = x.cells := by
  obtain ⟨xs, m, _, _, hlen, hxl, hat⟩ := DataW.trod_struct Try.underlying48 h
  rw [show Try.prog.cellsOf 48 = 38 by kernel_rfl] at hlen
  have hx : ∀ i (hi : i < 2), xs[i]? = some (xs[i]'(by rw [hxl]; exact hi)) := fun i hi => List.getElem?_eq_getElem _
  have f0 : DataW.trod enc Try.prog W 0 sp held m 39 ((cs.drop 0).take (Try.prog.cellsOf 39)) = _ := (hat 0 _ rfl).trans (hx 0 (by omega))
  rw [show Try.prog.cellsOf 39 = 37 by kernel_rfl] at f0
  obtain ⟨k, w0, e0⟩ := commit_of_trod f0
  have f1 : DataW.trod enc Try.prog W 0 sp held m 42 ((cs.drop 37).take (Try.prog.cellsOf 42)) = _ := (hat 1 _ rfl).trans (hx 1 (by omega))
  rw [show Try.prog.cellsOf 42 = 1 by kernel_rfl] at f1
  obtain ⟨A, n, d, l, e1, w1, w1', w1''⟩ := lst_of_cells (cells := Wst.cells) (ok := fun _ v => v.Ok) (k := 38) Try.underlying42 (by kernel_rfl) (fun fuel cs x h => stamp_of_trod h) f1
  refine ⟨⟨k, A, n, d, l⟩, ⟨w0, w1, Nat.le_trans w1' w1'', w1'⟩, ?_⟩
  have z : cs.drop 38 = [] := List.drop_eq_nil_of_le (by omega)
  have s0 : cs = cs.drop 0 := rfl
  rw [s0, cut_at cs 0 37 37 rfl, e0, cut_at cs 37 1 38 rfl, e1, z]
  simp [Wce.cells]
/-- a promise that comes in -/
structure Wpr.In (w : World) (x : Wpr) : Prop where
  r : i64In x.r
  e : i64In x.e
  t : x.t < 18446744073709551616
  l : Lst 38 Wce.cells (fun w v => v.In w) w x.A x.n x.l
  n : x.n ≤ maxLen
  d : x.n ≤ x.d
  b : i64In x.b
  m : i64In x.m
end Go.Proofs.Ytlkhfhhaallhgaa

namespace Go.Proofs.Ytlkhfhhaallhgaa
open Go.ChangeShapes Go.WideShapes Go.ChangeAt Go.RowKit
set_option maxRecDepth 100000
theorem cert_open {H : Type} {enc : TypeId × Value → H} {W : World} {r : Reach} {base b0 : Nat} {v : Value} {d : DataW H} {p : List MemPlace} {sp : Nat → Bool} {held : Bool} (hv : Value.okWide Try.prog W r base 48 v) (h : DataW.Trod enc Try.prog W b0 sp held 48 v d p) (hb : b0 = 0) :
    ∃ x : Wce, x.In W ∧ v = x.val := by
  subst hb
  unfold Value.okWide at hv
  rw [Try.underlying48] at hv
  obtain ⟨cs, rfl, -⟩ := hv
  obtain ⟨fuel, hf⟩ := h
  obtain ⟨x, hx, e⟩ := cert_of_trod (show DataW.trod enc Try.prog W 0 sp held fuel 48 cs.toList = some (d, p) from hf)
  exact ⟨x, hx, by show Value.agg cs = Value.agg _; rw [← e, Array.toArray_toList]⟩
theorem sig_open {H : Type} {enc : TypeId × Value → H} {W : World} {r : Reach} {base b0 : Nat} {v : Value} {d : DataW H} {p : List MemPlace} {sp : Nat → Bool} {held : Bool} (hv : Value.okWide Try.prog W r base 37 v) (h : DataW.Trod enc Try.prog W b0 sp held 37 v d p) (hb : b0 = 0) :
    ∃ c s : Int, i64In c ∧ i64In s ∧ v = .agg #[.int .i64 c, .int .i64 s] := by
  subst hb
  unfold Value.okWide at hv
  rw [Try.underlying37] at hv
  obtain ⟨cs, rfl, -⟩ := hv
  obtain ⟨fuel, hf⟩ := h
  obtain ⟨c, s, h1, h2, e⟩ := pair_of_trod Try.underlying37 ⟨rfl, rfl⟩ ⟨rfl, rfl⟩ (by kernel_rfl) (show DataW.trod enc Try.prog W 0 sp held fuel 37 cs.toList = some (d, p) from hf)
  exact ⟨c, s, h1, h2, by rw [← Array.toArray_toList (xs := cs), e]⟩
end Go.Proofs.Ytlkhfhhaallhgaa

namespace Go.Proofs.Ytlkhfhhaallhgaa
set_option maxRecDepth 100000
open Go.RowKit Go.Sort

/-- the row of numbers d lies in block blk from off on, and may be stored into -/
def Hu (w : World) (blk off : Nat) (d : Array Int) : Prop := Go.Sort.Holds (Value.int .u64) w blk off d
section
variable {w w' : World} {blk off : Nat} {d : Array Int} {S : List Nat}
theorem Hu.cell (h : Hu w blk off d) {j : Nat} (hj : j < d.size) : w.cell? ⟨blk, off + j, none⟩ = some (.int .u64 d[j]!) := (h j hj).1
theorem Hu.frozen (h : Hu w blk off d) {j : Nat} (hj : j < d.size) : w.frozen? ⟨blk, off + j, none⟩ = false := (h j hj).2
theorem frozen_of_heap {a : Addr} (h : w'.heap[a.block]? = w.heap[a.block]?) : w'.frozen? a = w.frozen? a := by
  unfold World.frozen?
  rw [h]
theorem Hu.keep (h : Hu w blk off d) (hf : Fr S w w') (hn : ¬ blk ∈ S) : Hu w' blk off d := fun j hj =>
  ⟨hf.cell (h j hj).1 hn, by
    rw [frozen_of_heap (hf.block blk (World.block_lt_of_cell? w _ (h j hj).1) hn)]
    exact (h j hj).2⟩
theorem Hu.drewN (h : Hu w blk off d) (n : Nat) : Hu (w.drewN n) blk off d := h
theorem Hu.swap (h : Hu w blk off d) {i j : Nat} (hi : i < d.size) (hj : j < d.size) :
    Hu ((w.setCell ⟨blk, off + i, none⟩ (.int .u64 d[j]!)).setCell ⟨blk, off + j, none⟩ (.int .u64 d[i]!)) blk off (swp d i j) := by
  have e := putRow_swp (Value.int .u64) w blk off d i j hi hj
  rw [putRow_self _ _ _ _ _ h] at e
  unfold Hu
  rw [e]
  exact holds_putRow _ _ _ _ d _ h (size_swp d i j)
theorem Fr.swap (w : World) (blk i j : Nat) (u v : Value) : Fr [blk] w ((w.setCell ⟨blk, i, none⟩ u).setCell ⟨blk, j, none⟩ v) :=
  ((Fr.refl [blk] w).setCell _ (fun _ => by simp) u).setCell _ (fun _ => by simp) v
/-- a row that a call has turned into another of the same length -/
def Su (w : World) (blk off : Nat) (d : Array Int) (w' : World) (d' : Array Int) : Prop := Hu w' blk off d' ∧ d'.size = d.size ∧ Fr [blk] w w'
theorem Su.start (h : Hu w blk off d) : Su w blk off d w d := ⟨h, rfl, Fr.refl _ _⟩
theorem Su.quiet {d' : Array Int} {w2 : World} (h : Su w blk off d w' d') (hf : Fr [] w' w2) : Su w blk off d w2 d' :=
  ⟨h.1.keep hf (by simp), h.2.1, h.2.2.trans hf (by simp)⟩
theorem Su.swap {d' : Array Int} (h : Su w blk off d w' d') {i j : Nat} (hi : i < d.size) (hj : j < d.size) :
    Su w blk off d ((w'.setCell ⟨blk, off + i, none⟩ (.int .u64 d'[j]!)).setCell ⟨blk, off + j, none⟩ (.int .u64 d'[i]!)) (swp d' i j) :=
  ⟨h.1.swap (by rw [h.2.1]; exact hi) (by rw [h.2.1]; exact hj), by rw [size_swp, h.2.1], h.2.2.trans (Fr.swap _ _ _ _ _ _) (fun _ hx _ => hx)⟩
theorem Su.trans {d' d'' : Array Int} {w2 : World} (h : Su w blk off d w' d') (k : Su w' blk off d' w2 d'') : Su w blk off d w2 d'' :=
  ⟨k.1, k.2.1.trans h.2.1, h.2.2.trans k.2.2 (fun _ hx _ => hx)⟩
end

theorem isnan_u (x : Int) (w : World) : Calls Try.prog 96 #[.int .u64 x] w fun e w' => e = .returned (.bool false) ∧ w' = w := by
  have hne : (x != x) = false := by simp
  go_enter Try.func96, Try.ntmps96
  go_wp2
  go_ret
  exact ⟨rfl, rfl⟩
theorem less_u (x y : Int) (w : World) : Calls Try.prog 85 #[.int .u64 x, .int .u64 y] w fun e w' => e = .returned (.bool (ltInt x y)) ∧ w' = w := by
  unfold ltInt
  go_enter Try.func85, Try.ntmps85
  go_wp2_with (go_at_call 96; refine (isnan_u _ _).mono ?_; rintro e w' ⟨rfl, rfl⟩)
  go_ret
  exact ⟨rfl, rfl⟩
end Go.Proofs.Ytlkhfhhaallhgaa

namespace Go.Proofs.Ytlkhfhhaallhgaa
set_option maxRecDepth 100000
open Go.RowKit Go.Sort

/-- m is the middle one of l by size -/
structure IsMed (l : List Int) (m : Int) : Prop where
  mem : m ∈ l
  low : l.countP (fun x => decide (x < m)) ≤ l.length / 2
  high : l.length / 2 < l.countP (fun x => decide (x ≤ m))
theorem countP_mono {α : Type} {p q : α → Bool} {l : List α} (h : ∀ x ∈ l, p x = true → q x = true) : l.countP p ≤ l.countP q := List.countP_mono_left h
theorem IsMed.le {l : List Int} {m k : Int} (h : IsMed l m) (hk : IsMed l k) : m ≤ k := by
  rcases Int.lt_or_le k m with hlt | h2
  · have h1 := hk.high
    have h2 := h.low
    have h3 : l.countP (fun x => decide (x ≤ k)) ≤ l.countP (fun x => decide (x < m)) := countP_mono (fun x _ hx => by simp at hx ⊢; omega)
    omega
  · exact h2
theorem IsMed.one {l : List Int} {m k : Int} (h : IsMed l m) (hk : IsMed l k) : m = k := Int.le_antisymm (h.le hk) (hk.le h)
theorem IsMed.perm {l k : List Int} {m : Int} (h : IsMed l m) (hp : k.Perm l) : IsMed k m :=
  ⟨hp.mem_iff.2 h.mem, by rw [hp.countP_eq, hp.length_eq]; exact h.low, by rw [hp.countP_eq, hp.length_eq]; exact h.high⟩
/-- where times rise the median does not fall -/
theorem countP_rise {l k : List Int} (hlen : l.length = k.length) (h : ∀ (i : Nat) (x y : Int), l[i]? = some x → k[i]? = some y → x ≤ y) (m : Int) : k.countP (fun x => decide (x ≤ m)) ≤ l.countP (fun x => decide (x ≤ m)) := by
  induction l generalizing k with
  | nil => cases k <;> simp_all
  | cons a l ih =>
    rcases k with _ | ⟨b, k⟩
    · simp at hlen
    · have h0 := h 0 a b rfl rfl
      have h1 := ih (k := k) (by simpa using hlen) (fun i x y hx hy => h (i + 1) x y (by simpa using hx) (by simpa using hy))
      simp only [List.countP_cons]
      by_cases hb : b ≤ m
      · have ha : a ≤ m := by omega
        simp [hb, ha]; exact h1
      · simp only [hb, decide_false, Bool.false_eq_true, if_false]
        have : 0 ≤ (if decide (a ≤ m) = true then 1 else 0) := by split <;> omega
        omega
theorem IsMed.rise {l k : List Int} {m c : Int} (h : IsMed l m) (hk : IsMed k c) (hlen : l.length = k.length) (hr : ∀ (i : Nat) (x y : Int), l[i]? = some x → k[i]? = some y → x ≤ y) : m ≤ c := by
  rcases Int.lt_or_le c m with hlt | h2
  · have h1 := hk.high
    have h2 := h.low
    have h3 := countP_rise hlen hr c
    have h4 : l.countP (fun x => decide (x ≤ c)) ≤ l.countP (fun x => decide (x < m)) := countP_mono (fun x _ hx => by simp at hx ⊢; omega)
    omega
  · exact h2
/-- with at most half of the times made up the median is not below the least of the others, nor above the greatest -/
theorem IsMed.between {l k : List Int} {m lo hi : Int} (h : IsMed (l ++ k) m) (hlen : k.length < l.length) (hl : ∀ x ∈ l, lo ≤ x ∧ x ≤ hi) : lo ≤ m ∧ m ≤ hi := by
  have hlow := h.low
  have hhigh := h.high
  rw [List.countP_append, List.length_append] at hlow hhigh
  constructor
  · rcases Int.lt_or_le m lo with hlt | h2
    · have h3 : l.countP (fun x => decide (x ≤ m)) = 0 := List.countP_eq_zero.2 (fun x hx => by have := (hl x hx).1; simp; omega)
      have h4 := List.countP_le_length (p := fun x => decide (x ≤ m)) (l := k)
      omega
    · exact h2
  · rcases Int.lt_or_le hi m with hlt | h2
    · have h3 : l.countP (fun x => decide (x < m)) = l.length := List.countP_eq_length.2 (fun x hx => by have := (hl x hx).2; simp; omega)
      omega
    · exact h2
/-- the middle place of a row that is sorted holds the median -/
theorem isMed_sorted {d : Array Int} (h : SortedIn ltInt 0 d.size d) (h0 : 0 < d.size) : IsMed d.toList d[d.size / 2]! := by
  have hh : d.size / 2 < d.size := by omega
  have hle : ∀ i j, i ≤ j → j < d.size → d[i]! ≤ d[j]! := fun i j hij hj => by
    rcases Nat.lt_or_eq_of_le hij with h1 | h1
    · have := h i j (Nat.zero_le _) h1 hj
      unfold ltInt at this
      simp at this
      exact this
    · subst h1; exact Int.le_refl _
  have hge : ∀ i, i < d.size → d.toList[i]? = some d[i]! := fun i hi => by simp [hi]
  have hlen : d.toList.length = d.size := by simp
  refine ⟨?_, ?_, ?_⟩
  · exact List.mem_of_getElem? (hge _ hh)
  · rw [hlen]
    have e : d.toList = d.toList.take (d.size / 2) ++ d.toList.drop (d.size / 2) := (List.take_append_drop _ _).symm
    rw [e, List.countP_append]
    have h3 : (d.toList.drop (d.size / 2)).countP (fun x => decide (x < d[d.size / 2]!)) = 0 := List.countP_eq_zero.2 (fun x hx => by
      obtain ⟨i, hi⟩ := List.getElem?_of_mem hx
      rw [List.getElem?_drop] at hi
      have hil := (List.getElem?_eq_some_iff.1 hi).1
      rw [hlen] at hil
      rw [hge _ hil] at hi
      injection hi with hi
      have := hle (d.size / 2) (d.size / 2 + i) (by omega) hil
      simp
      omega)
    have h4 := List.countP_le_length (p := fun x => decide (x < d[d.size / 2]!)) (l := d.toList.take (d.size / 2))
    rw [List.length_take] at h4
    omega
  · rw [hlen]
    have e : d.toList = d.toList.take (d.size / 2 + 1) ++ d.toList.drop (d.size / 2 + 1) := (List.take_append_drop _ _).symm
    rw [e, List.countP_append]
    have h3 : (d.toList.take (d.size / 2 + 1)).countP (fun x => decide (x ≤ d[d.size / 2]!)) = (d.toList.take (d.size / 2 + 1)).length := List.countP_eq_length.2 (fun x hx => by
      obtain ⟨i, hi⟩ := List.getElem?_of_mem hx
      rw [List.getElem?_take] at hi
      split at hi
      · rename_i hlt
        have hil := (List.getElem?_eq_some_iff.1 hi).1
        rw [hlen] at hil
        rw [hge _ hil] at hi
        injection hi with hi
        have := hle i (d.size / 2) (by omega) hh
        simp
        omega
      · cases hi)
    rw [h3, List.length_take, hlen]
    omega
theorem extract_all (d : Array Int) : (d.extract 0 d.size).toList = d.toList := by simp
theorem isMed_of {d d' : Array Int} (hp : PermIn 0 d.size d d') (hs : SortedIn ltInt 0 d.size d') (h0 : 0 < d.size) : IsMed d.toList d'[d.size / 2]! := by
  have hsz := hp.1
  have h := isMed_sorted (d := d') (by rw [hsz]; exact hs) (by rw [hsz]; exact h0)
  rw [hsz] at h
  have hperm := hp.2.2
  rw [extract_all, ← hsz, extract_all] at hperm
  exact h.perm hperm.symm
/-- there is one -/
theorem isMed_ex (l : List Int) (h0 : 0 < l.length) : ∃ m, IsMed l m := by
  have h := insertionSort_holds (lt := ltInt) swo_ltInt l.toArray 0 l.toArray.size (Nat.zero_le _) (Nat.le_refl _)
  exact ⟨_, by simpa using isMed_of h.1 h.2 (by simpa using h0)⟩
end Go.Proofs.Ytlkhfhhaallhgaa

namespace Go.Proofs.Ytlkhfhhaallhgaa
open Go.RowKit Go.Sort
set_option maxRecDepth 100000

def uc (z : Int) : List Value := [.int .u64 z]
theorem uc_one (z : Int) : ∀ u ∈ uc z, u.oneCell' = true := by intro u hu; simp [uc] at hu; subst hu; rfl
def uok (_ : World) (z : Int) : Prop := (Lit.int .u64 z).wf = true
/-- numbers that lie from A on -/
def UL (w : World) (A : Option Addr) (n : Nat) (l : List Int) : Prop := Lst 1 uc uok w A n l
theorem uok_iff {w : World} {z : Int} (h : uok w z) : 0 ≤ z ∧ z < 18446744073709551616 := by
  obtain ⟨n, rfl, hn⟩ := u64_of h
  omega
theorem el_u64 : ElTy Try.prog 43 1 8 := ElTy.of (by kernel_rfl)
section
variable {w w' : World} {A : Option Addr} {n c : Nat} {l : List Int} {S : List Nat}
theorem UL.keep (h : UL w A n l) (hf : Fr S w w') (hA : ∀ a, A = some a → ¬ a.block ∈ S) : UL w' A n l := Lst.keep h hf hA (fun _ _ x => x)
theorem UL.range (h : UL w A n l) : ∀ z ∈ l, 0 ≤ z ∧ z < 18446744073709551616 := fun z hz => uok_iff (w := w) (h.2.1 z hz).2
theorem UL.take (h : UL w A n l) {m : Nat} (hm : m ≤ n) : UL w A m (l.take m) := Lst.take h hm
theorem UL.lt (h : UL w A n l) (hn : 0 < n) : ∀ a, A = some a → a.block < w.heap.size := by
  intro a ha
  obtain ⟨ad, v, e, hv, hl, _, hc⟩ := h.at (i := 0) hn
  rw [ha] at e
  injection e with e
  subst e
  have := World.block_lt_of_cell? w _ (hc 0 (.int .u64 v) rfl)
  rwa [add_block, add_block] at this
/-- one of them, where it lies -/
theorem UL.cell {b off : Nat} (h : UL w (some ⟨b, off, none⟩) n l) {j : Nat} {v : Int} (hv : l[j]? = some v) : w.cell? ⟨b, off + j, none⟩ = some (.int .u64 v) := by
  have hj : j < n := by have := (List.getElem?_eq_some_iff.1 hv).1; rw [h.1] at this; exact this
  obtain ⟨ad, e, hc⟩ := h.2.2 (by omega)
  injection e with e
  subst e
  have := hc j v hv 0 (.int .u64 v) rfl
  rw [Nat.mul_one, Nat.add_zero] at this
  unfold Addr.add at this
  split at this
  · subst j; simpa using this
  · simpa using this
theorem UL.own (h : w.ownsRow 0 43 1 (.slice A n c) n (l.flatMap uc)) (hl : l.length = n) (hk : ∀ z ∈ l, 0 ≤ z ∧ z < 18446744073709551616) : UL w A n l :=
  Lst.of_own h hl (fun v hv => ⟨rfl, by have := hk v hv; simp only [uok, Lit.wf, Bool.and_eq_true, decide_eq_true_eq]; exact ⟨by show (0 : Int) ≤ v; omega, by show v ≤ 18446744073709551615; omega⟩⟩)
/-- a row of its own may be sorted -/
theorem Hu.of_own (h : w.ownsRow 0 43 1 (.slice A n c) n (l.flatMap uc)) (hl : l.length = n) (hn : 0 < n) : ∃ g, A = some ⟨g, 0, none⟩ ∧ g < w.heap.size ∧ Hu w g 0 l.toArray := by
  obtain ⟨g, cap, hv, _, hlt⟩ := h.form hn
  have hA : A = some ⟨g, 0, none⟩ := by injection hv
  subst hA
  refine ⟨g, rfl, hlt, fun j hj => ?_⟩
  have hj' : j < l.length := by simpa using hj
  have hc := h.cells (g := g) rfl j (.int .u64 l[j]) (by
    have := flat_at (cells := uc) (k := 1) (fun _ _ => rfl) (List.getElem?_eq_getElem hj') (j := 0) (x := .int .u64 l[j]) rfl
    simpa using this)
  have hg : l.toArray[j]! = l[j] := by simp [hj']
  rw [hg, Nat.zero_add]
  refine ⟨by
    have e : (⟨g, 0, none⟩ : Addr).add j = ⟨g, j, none⟩ := by unfold Addr.add; split <;> simp_all
    rw [← e]; exact hc, ?_⟩
  rcases h.2 with ⟨_, h0⟩ | ⟨g', cap', cur, hv', _, hh, _⟩
  · omega
  · injection hv' with e1
    injection e1 with e1
    injection e1 with e1
    subst e1
    simp [World.frozen?, hh]
end
theorem wpList_append_one3 {P : Program} {ops : Array Oper} {rest : List Oper} {o : Oper} {a : Act} {w : World} {Q : Exit → Act → World → Prop} (hg : o.guard = none) (s x : Operand) (t e : TypeId)
    (ho : o.op = .call { callee := .builtin .append, args := #[s, x], argTypes := #[t, t] }) (ht : P.underlying t = some (.slice e)) (k bytes : Nat) (he : ElTy P e k bytes) (hk : 0 < k)
    (base : Nat) (v : Value) (n : Nat) (xs cs : List Value) (hs : a.eval s = v) (hown : w.ownsRow base e k v n xs) (hbase : base ≤ w.heap.size) (hcl : cs.length = k) (h1 : ∀ u ∈ cs, u.oneCell' = true)
    (g : Nat) (t' : TypeId) (hx : a.eval x = .slice (some ⟨g, 0, none⟩) 1 1) (hb : Blk w g t' cs.toArray) (hn : n < 1000000) (hby : bytes ≤ 1000)
    (h : ∀ A c w', w'.ownsRow base e k (.slice A (n + 1) c) (n + 1) (xs ++ cs) → Fr v.ownBlock.toList w w' → ((Value.slice A (n + 1) c).ownBlock = v.ownBlock ∨ (Value.slice A (n + 1) c).ownBlock = some w.heap.size) → wpList P ops Q rest (a.put o.dst (.slice A (n + 1) c)) w') : wpList P ops Q (o :: rest) a w := by
  obtain ⟨i, z, hi, hz, hzs, hsz, hbs⟩ := he
  refine wpList_append_lies w hg s x t ho base e i z k bytes ht hi hz hsz hbs hzs hk v n xs hs hown ⟨g, 0, none⟩ 1 1 cs hx (by omega) (fun j u hu => ?_) h1 (by omega) (by simp only [maxLen]; omega)
    (Nat.le_trans (Nat.mul_le_mul (show n + 1 ≤ 1000000 by omega) hby) (by decide)) hbase _ rfl (fun g' cap w' h2 h3 h4 _ => ?_)
  · have hadd : (⟨g, 0, none⟩ : Addr).add j = ⟨g, j, none⟩ := by unfold Addr.add; split <;> simp_all
    rw [hadd, hb.cell j]
    simpa using hu
  · exact h _ _ w' h2 ((Fr.refl _ w).grown h3 (fun y hy _ => by simp [hy])) (h4.imp (fun e => e.symm) (fun e => by rw [e]; rfl))
section
variable {P : Program} (w : World)
/-- a list behind a list of the call's own -/
theorem run_append_ownl {α : Type} {cells : α → List Value} {ok : World → α → Prop} (hone : ∀ v, ∀ u ∈ cells v, u.oneCell' = true) (t ty e : TypeId) (k bytes : Nat) (ht : P.underlying t = some (.slice e)) (he : ElTy P e k bytes) (hk : 0 < k) (hby : bytes ≤ 1000)
    (V : Option Addr) (n c0 : Nat) (xs : List α) (hown : w.ownsRow 0 e k (.slice V n c0) n (xs.flatMap cells)) (A : Option Addr) (m c : Nat) (l : List α) (hr : Lst k cells ok w A m l) (hm : n + m ≤ 1000000) :
    ∃ A' c' w', (Builtin.append_ #[t, t] ty #[.slice V n c0, .slice A m c]).run P w = .ok (.slice A' (n + m) c') w' ∧ w'.ownsRow 0 e k (.slice A' (n + m) c') (n + m) ((xs ++ l).flatMap cells) ∧ Fr (bk V) w w' ∧ ∀ x ∈ bk A', x ∈ bk V ∨ w.heap.size ≤ x := by
  obtain ⟨i, z, hi, hz, hzs, hsz, hbs⟩ := he
  rw [List.flatMap_append]
  suffices h : ∃ v' w', (Builtin.append_ #[t, t] ty #[.slice V n c0, .slice A m c]).run P w = .ok v' w' ∧ w'.ownsRow 0 e k v' (n + m) (xs.flatMap cells ++ l.flatMap cells) ∧ w.grownBy w' (Value.slice V n c0).ownBlock ∧ (v'.ownBlock = (Value.slice V n c0).ownBlock ∨ v'.ownBlock = some w.heap.size) by
    obtain ⟨v', w', h1, h2, h3, h4⟩ := h
    obtain ⟨A', c', rfl⟩ := own_form h2
    refine ⟨A', c', w', h1, h2, (Fr.refl _ w).grown h3 (fun y hy _ => by rw [← bk_own V n c0, hy]; simp), fun x hx => ?_⟩
    rw [← bk_own A' (n + m) c'] at hx
    rcases h4 with h4 | h4
    · rw [h4, bk_own V n c0] at hx; exact .inl hx
    · rw [h4] at hx; simp at hx; exact .inr (by omega)
  rcases A with _ | ad
  · have hm0 : m = 0 := by
      rcases Nat.eq_zero_or_pos m with h0 | h0
      · exact h0
      · obtain ⟨ad, h, _⟩ := hr.2.2 h0
        cases h
    subst hm0
    have hn : l = [] := List.eq_nil_of_length_eq_zero hr.1
    subst hn
    exact ⟨_, w, run_append_nothing w 0 t ty e i k ht hi _ n _ hown c, by simpa using hown, World.grownBy.refl w _, .inl rfl⟩
  · obtain ⟨v', w', hrun, h2, h3, _, h5⟩ := run_append_own_at (P := P) w 0 t ty e i z k bytes ht hi hz hsz hbs hzs hk _ n _ hown ad m c (l.flatMap cells)
      (by rw [cells_flat_len (fun v hv => (hr.2.1 v hv).1), hr.1]) (hr.flat hk) (cells_one hone l) (by simp only [maxLen]; omega)
      (Nat.le_trans (Nat.mul_le_mul hm hby) (by decide)) (Nat.zero_le _)
    exact ⟨v', w', hrun, h2, h3, h5⟩
theorem wp_append_ownl {α : Type} {cells : α → List Value} {ok : World → α → Prop} {o : Oper} {a : Act} {K : Act → World → Prop} {Q : Exit → Act → World → Prop} (s x : Operand) (t : TypeId)
    (ho : o.op = .call { callee := .builtin .append, args := #[s, x], argTypes := #[t, t] }) (e : TypeId) (k bytes : Nat) (ht : P.underlying t = some (.slice e)) (he : ElTy P e k bytes) (hk : 0 < k) (hby : bytes ≤ 1000)
    (hone : ∀ v, ∀ u ∈ cells v, u.oneCell' = true) (V : Option Addr) (n c0 : Nat) (xs : List α) (hs : a.eval s = .slice V n c0) (hown : w.ownsRow 0 e k (.slice V n c0) n (xs.flatMap cells)) (A : Option Addr) (m c : Nat) (l : List α) (hx : a.eval x = .slice A m c) (hr : Lst k cells ok w A m l) (hm : n + m ≤ 1000000)
    (h : ∀ A' c' w', w'.ownsRow 0 e k (.slice A' (n + m) c') (n + m) ((xs ++ l).flatMap cells) → Fr (bk V) w w' → (∀ x ∈ bk A', x ∈ bk V ∨ w.heap.size ≤ x) → K (a.put o.dst (.slice A' (n + m) c')) w') : Oper.wp P o a w K Q := by
  obtain ⟨A', c', w', hrun, h2, h3, h4⟩ := run_append_ownl (P := P) w hone t o.type e k bytes ht he hk hby V n c0 xs hown A m c l hr hm
  unfold Oper.wp execOp
  simp only [ho, resolve, invoke, builtin, Sem.run_bind, Sem.run_pure, Result.andThen_ok, List.map_toArray, List.map_cons, List.map_nil, hs, hx, hrun]
  exact h A' c' w' h2 h3 h4
theorem wpList_append_ownl {α : Type} {cells : α → List Value} {ok : World → α → Prop} {ops : Array Oper} {rest : List Oper} {o : Oper} {a : Act} {Q : Exit → Act → World → Prop} (hgd : o.guard = none) (s x : Operand) (t : TypeId)
    (ho : o.op = .call { callee := .builtin .append, args := #[s, x], argTypes := #[t, t] }) (e : TypeId) (k bytes : Nat) (ht : P.underlying t = some (.slice e)) (he : ElTy P e k bytes) (hk : 0 < k) (hby : bytes ≤ 1000)
    (hone : ∀ v, ∀ u ∈ cells v, u.oneCell' = true) (V : Option Addr) (n c0 : Nat) (xs : List α) (hs : a.eval s = .slice V n c0) (hown : w.ownsRow 0 e k (.slice V n c0) n (xs.flatMap cells)) (A : Option Addr) (m c : Nat) (l : List α) (hx : a.eval x = .slice A m c) (hr : Lst k cells ok w A m l) (hm : n + m ≤ 1000000)
    (h : ∀ A' c' w', w'.ownsRow 0 e k (.slice A' (n + m) c') (n + m) ((xs ++ l).flatMap cells) → Fr (bk V) w w' → (∀ x ∈ bk A', x ∈ bk V ∨ w.heap.size ≤ x) → wpList P ops Q rest (a.put o.dst (.slice A' (n + m) c')) w') : wpList P ops Q (o :: rest) a w := by
  refine wpList_plain hgd fun K hK => ?_
  obtain ⟨A', c', w', hrun, h2, h3, h4⟩ := run_append_ownl (P := P) w hone t o.type e k bytes ht he hk hby V n c0 xs hown A m c l hr hm
  unfold Oper.wp execOp
  simp only [ho, resolve, invoke, builtin, Sem.run_bind, Sem.run_pure, Result.andThen_ok, List.map_toArray, List.map_cons, List.map_nil, hs, hx, hrun]
  exact hK _ _ (h A' c' w' h2 h3 h4)
end
theorem UL.cut {w : World} {A : Option Addr} {n : Nat} {l : List Int} (h : UL w A n l) {k cap : Nat} (hk : k ≤ n) (hc : n ≤ cap) : UL w (if cap = k then A else A.map (·.add k)) (n - k) (l.drop k) := by
  refine ⟨by rw [List.length_drop, h.1], fun v hv => h.2.1 v (List.mem_of_mem_drop hv), fun hn => ?_⟩
  obtain ⟨ad, rfl, hcell⟩ := h.2.2 (by omega)
  rw [if_neg (by omega)]
  refine ⟨ad.add k, rfl, fun i v hv j x hx => ?_⟩
  rw [add_add]
  rw [List.getElem?_drop] at hv
  have := hcell (k + i) v hv j x hx
  rw [Nat.mul_one] at this
  rw [Nat.mul_one, show k + (i + j) = k + i + j by omega]
  exact this
theorem UL.get {w : World} {A : Option Addr} {n k : Nat} {l : List Int} (h : UL w A n l) (hk : k < n) : ∃ ad v, A = some ad ∧ l[k]? = some v ∧ 0 ≤ v ∧ v < 18446744073709551616 ∧ w.cell? (ad.add k) = some (.int .u64 v) := by
  obtain ⟨ad, v, e, hv, _, hok, hc⟩ := h.at hk
  have hr := uok_iff hok
  have := hc 0 (.int .u64 v) rfl
  rw [add_add, Nat.mul_one, Nat.add_zero] at this
  exact ⟨ad, v, e, hv, hr.1, hr.2, this⟩
theorem own_any {w : World} {b b' : Nat} {e : TypeId} {k n : Nat} {v : Value} {xs : List Value} (h : w.ownsRow b e k v n xs) (hb : b' ≤ b) : w.ownsRow b' e k v n xs := by
  refine ⟨h.1, ?_⟩
  rcases h.2 with h | ⟨g, cap, cur, h1, h2, h3⟩
  · exact .inl h
  · exact .inr ⟨g, cap, cur, h1, by omega, h3⟩
theorem own_ge {w : World} {b : Nat} {e : TypeId} {k n c : Nat} {A : Option Addr} {xs : List Value} (h : w.ownsRow b e k (.slice A n c) n xs) : ∀ x ∈ bk A, b ≤ x := by
  intro x hx
  rcases h.2 with ⟨h, _⟩ | ⟨g, cap, cur, h1, h2, h3⟩
  · injection h with h; subst h; simp [bk] at hx
  · injection h1 with h; subst h; simp [bk] at hx; omega
theorem own_capn {w : World} {b : Nat} {e : TypeId} {k n c : Nat} {A : Option Addr} {xs : List Value} (h : w.ownsRow b e k (.slice A n c) n xs) : n ≤ c := by
  rcases h.2 with ⟨h, h0⟩ | ⟨g, cap, cur, h1, h2, h3, h4, _⟩
  · omega
  · injection h1 with _ _ e; omega

set_option maxHeartbeats 1000000 in
theorem clone_u (A : Option Addr) (n c : Nat) (l : List Int) (w : World) (hr : UL w A n l) (h0 : 0 < n) (hn : n ≤ 1000000) :
    Calls Try.prog 47 #[.slice A n c] w fun e w' => ∃ A' c', e = .returned (.slice A' n c') ∧ NewL 43 1 uc w w' A' n c' l := by
  obtain ⟨ad, hA, _⟩ := hr.2.2 h0
  subst hA
  have HR := Lib.hid hr
  have HN := Lib.hid hn
  clear hr hn
  go_enter Try.func47, Try.ntmps47
  have hq := fun w => Go.run_eql_slice_nil (P := Try.prog) w 24 43 (some ad) n c Try.underlying24
  simp only [Option.isNone_some] at hq
  go_wp2_with (at_builtin; refine Stop.mk ?_)
  refine Stop.go ?_
  have hown : (w.alloc (Obj.cells #[] 43)).ownsRow 0 43 1 (.slice (some ⟨w.heap.size, 0, none⟩) 0 0) 0 (([] : List Int).flatMap uc) :=
    ⟨by simp, .inr ⟨w.heap.size, 0, #[], rfl, Nat.zero_le _, Blk.new w _ _, Nat.le_refl _, Nat.zero_le _, rfl, by simp⟩⟩
  refine wpList_append_ownl _ rfl (.tmp 5) (.tmp 6) _ rfl 43 1 8 Try.underlying24 el_u64 (by decide) (by decide) uc_one (some ⟨w.heap.size, 0, none⟩) 0 0 [] rfl hown (some ad) n c l rfl
    (HR.out.keep ((Fr.refl [] w).alloc _) (by simp)) (by have := HN.out; omega) ?_
  intro A1 c1 w1 ho hf hb
  rw [Nat.zero_add, List.nil_append] at ho
  have HO : Hid (NewL 43 1 uc w w1 A1 n c1 l) := Lib.hid ⟨ho, ((Fr.refl [] w).alloc _).and hf (by intro x hx; simp [bk] at hx; omega), fun x hx => by
    rcases hb x hx with h | h
    · simp [bk] at h; omega
    · simp at h; omega⟩
  clear ho hf hb hown
  simp only [Nat.zero_add]
  go_wp2
  go_ret
  exact ⟨A1, c1, rfl, HO.out⟩
end Go.Proofs.Ytlkhfhhaallhgaa

namespace Go.Proofs.Ytlkhfhhaallhgaa
set_option maxRecDepth 100000
open Go.RowKit Go.Sort

section
variable {w w' : World} {blk off : Nat} {d dk : Array Int}
/-- the row's cells as a family, under a name G -/
theorem Su.fam (h : Su w blk off d w' dk) : ∃ G : Nat → Int, (∀ t, G t = dk[t]!) ∧ (∀ t, t < d.size → w'.cell? ⟨blk, off + t, none⟩ = some (.int .u64 (G t))) ∧ (∀ t, t < d.size → w'.frozen? ⟨blk, off + t, none⟩ = false) :=
  ⟨fun t => dk[t]!, fun _ => rfl, fun t ht => h.1.cell (by rw [h.2.1]; exact ht), fun t ht => h.1.frozen (by rw [h.2.1]; exact ht)⟩
theorem Su.drewN (h : Su w blk off d w' dk) (n : Nat) : Su w blk off d (w'.drewN n) dk := h.quiet ((Fr.refl [] w').drewN n)
/-- the two stores of an exchange, as the walk writes them -/
theorem Su.swapG (h : Su w blk off d w' dk) {G : Nat → Int} (hG : ∀ t, G t = dk[t]!) {i j n : Nat} (hi : i < d.size) (hj : j < d.size) :
    Su w blk off d (((w'.drewN n).setCell ⟨blk, off + i, none⟩ (.int .u64 (G j))).setCell ⟨blk, off + j, none⟩ (.int .u64 (G i))) (swp dk i j) := by
  rw [hG, hG]
  exact (h.drewN n).swap hi hj
end

set_option maxHeartbeats 2000000 in
theorem ins_u (blk off cap a b : Nat) (d : Array Int) (w : World) (hH : Hu w blk off d) (hab : a ≤ b) (hb : b ≤ d.size) (hsz : d.size < 4611686018427387904) :
    Calls Try.prog 79 #[.slice (some ⟨blk, off, none⟩) d.size cap, .int .i64 a, .int .i64 b] w fun e w' => e = .returned (.tuple #[]) ∧ Su w blk off d w' (insertionSort ltInt d a b) := by
  have HH := Lib.hid hH
  clear hH
  go_enter Try.func79, Try.ntmps79
  go_wp2
  go_loopw [6] (fun i wr => ∃ (k : Nat) (dk : Array Int), i = .int .i64 k ∧ a < k ∧ k ≤ b + 1 ∧ Hid (Su w blk off d wr dk) ∧ Hid (insOuter ltInt a b k dk = insertionSort ltInt d a b)) (fun i _ => b + 1 - (intOf i).toNat)
  case atStart => exact ⟨a + 1, d, by go_num, by omega, by omega, Lib.hid (Su.start HH.out), Lib.hid rfl⟩
  case round =>
    obtain ⟨k, dk, rfl, hak, hkb, HS, HE⟩ := hrel
    rename World => wa
    go_wp2
    · go_loopw [7] (fun j wq => ∃ (m : Nat) (dj : Array Int), j = .int .i64 m ∧ a ≤ m ∧ m ≤ k ∧ Hid (Su w blk off d wq dj) ∧ Hid (insInner ltInt a m dj = insInner ltInt a k dk)) (fun j _ => (intOf j).toNat)
      case atStart => exact ⟨k, dk, rfl, by omega, Nat.le_refl _, HS, Lib.hid rfl⟩
      case round =>
        obtain ⟨m, dj, rfl, ham, hmk, HJ, HI⟩ := hrel
        rename World => wb
        have hkb' : k < b := by assumption
        obtain ⟨G, hG, hcw, hfw⟩ := HJ.out.fam
        have HG := Lib.hid hG
        clear hG
        have OUT : Hid ((m ≤ a ∨ ltInt dj[m]! dj[m - 1]! = false) → ∀ q, ∃ (k' : Nat) (dk' : Array Int), Value.int .i64 ((k : Int) + 1) = .int .i64 (k' : Nat) ∧ a < k' ∧ k' ≤ b + 1 ∧ Hid (Su w blk off d (wb.drewN q) dk') ∧ Hid (insOuter ltInt a b k' dk' = insertionSort ltInt d a b)) :=
          Lib.hid fun hs q => ⟨k + 1, dj, by go_num, by omega, by omega, Lib.hid (HJ.out.drewN q), Lib.hid (by rw [← HE.out, insOuter_go _ _ _ _ _ hkb', ← HI.out, insInner_stop _ _ _ _ hs])⟩
        go_wp2
        by_cases hma : a < m
        · go_quiet (first | (go_at_call 85; exact Calls.quiet_of_same (less_u _ _ _)))
          go_wp2
          · have hl : ltInt (G m) (G (m - 1)) = true := by assumption
            go_region
            all_goals go_wp2
            go_roundw
            case rel =>
              refine ⟨m - 1, swp dj m (m - 1), by congr 1; omega, by omega, by omega, Lib.hid ?_, Lib.hid ?_⟩
              · exact HJ.out.swapG HG.out (by omega) (by omega)
              · rw [← HI.out, insInner_go ltInt a m dj hma (by rw [← HG.out, ← HG.out]; exact hl)]
            case measure => simp [intOf]; omega
          · have hl : ltInt (G m) (G (m - 1)) = false := by assumption
            go_roundw
            case rel => exact OUT.out (Or.inr (by rw [← HG.out, ← HG.out]; exact hl)) nq
            case measure => simp [intOf]; omega
        · go_quiet (first | (go_at_call 85; exact Calls.quiet_of_same (less_u _ _ _)))
          go_wp2
          go_roundw
          case rel => exact OUT.out (Or.inl (by omega)) nq
          case measure => simp [intOf]; omega
    · have hge : ¬ k < b := by assumption
      go_end0
      exact ⟨rfl, by rw [← HE.out, insOuter_stop _ _ _ _ _ hge]; exact HS.out⟩
end Go.Proofs.Ytlkhfhhaallhgaa

namespace Go.Proofs.Ytlkhfhhaallhgaa
set_option maxRecDepth 100000
open Go.RowKit Go.Sort

set_option maxHeartbeats 2000000 in
theorem rev_u (blk off cap a b : Nat) (d : Array Int) (w : World) (hH : Hu w blk off d) (hab : a < b) (hb : b ≤ d.size) (hsz : d.size < 4611686018427387904) :
    Calls Try.prog 83 #[.slice (some ⟨blk, off, none⟩) d.size cap, .int .i64 a, .int .i64 b] w fun e w' => e = .returned (.tuple #[]) ∧ ∃ d', Su w blk off d w' d' ∧ PermIn a b d d' := by
  have HH := Lib.hid hH
  clear hH
  go_enter Try.func83, Try.ntmps83
  go_wp2
  go_loopw [6, 7] (fun i j wr => ∃ (k m : Nat) (dk : Array Int), i = .int .i64 k ∧ j = .int .i64 m ∧ a ≤ k ∧ k ≤ b ∧ m < b ∧ k ≤ m + 1 ∧ Hid (Su w blk off d wr dk) ∧ Hid (PermIn a b d dk)) (fun i _ _ => b + 1 - (intOf i).toNat)
  case atStart => exact ⟨a, b - 1, d, rfl, by congr 1; omega, Nat.le_refl _, by omega, by omega, by omega, Lib.hid (Su.start HH.out), Lib.hid (permIn_refl _ _ _)⟩
  case round =>
    obtain ⟨k, m, dk, rfl, rfl, hak, hkb, hmb, hkm, HS, HP⟩ := hrel
    rename World => wa
    obtain ⟨G, hG, hcw, hfw⟩ := HS.out.fam
    have HG := Lib.hid hG
    clear hG
    go_wp2
    · go_region
      all_goals go_wp2
      go_roundw
      case rel =>
        refine ⟨k + 1, m - 1, swp dk k m, by go_num, by congr 1; omega, by omega, by omega, by omega, by omega, Lib.hid ?_, Lib.hid ?_⟩
        · exact HS.out.swapG HG.out (by omega) (by omega)
        · exact permIn_trans _ _ _ _ _ HP.out (swp_permIn dk a b k m hak (by omega) (by omega) hmb (by rw [HP.out.1]; exact hb))
      case measure => simp [intOf]; omega
    · go_end0
      exact ⟨rfl, dk, HS.out, HP.out⟩

theorem sd_pick_r {lt : Int → Int → Bool} {d : Array Int} {F hi r c : Nat} (hc : c = 2 * r + 1) (h : c + 1 < hi) (hl : lt d[F + c]! d[F + c + 1]! = true) :
    (lt d[F + r]! d[F + (c + 1)]! = false → siftDown lt hi F r d = d) ∧ (lt d[F + r]! d[F + (c + 1)]! = true → siftDown lt hi F r d = siftDown lt hi F (c + 1) (swp d (F + r) (F + (c + 1)))) := by
  subst hc
  exact ⟨fun h3 => sd_right_stop lt d h hl h3, fun h3 => sd_right_go lt d h hl h3⟩
theorem sd_pick_l {lt : Int → Int → Bool} {d : Array Int} {F hi r c : Nat} (hc : c = 2 * r + 1) (h0 : c < hi) (hl : c + 1 < hi → lt d[F + c]! d[F + c + 1]! = false) :
    (lt d[F + r]! d[F + c]! = false → siftDown lt hi F r d = d) ∧ (lt d[F + r]! d[F + c]! = true → siftDown lt hi F r d = siftDown lt hi F c (swp d (F + r) (F + c))) := by
  subst hc
  exact ⟨fun h3 => sd_left_stop lt d h0 hl h3, fun h3 => sd_left_go lt d h0 hl h3⟩
set_option maxHeartbeats 4000000 in
theorem sift_u (blk off cap lo hi F : Nat) (d : Array Int) (n : Nat) (hn : d.size = n) (w : World) (hH : Hu w blk off d) (hlo : lo ≤ hi) (hb : F + hi ≤ n) (hsz : n < 4611686018427387904) :
    Calls Try.prog 93 #[.slice (some ⟨blk, off, none⟩) n cap, .int .i64 lo, .int .i64 hi, .int .i64 F] w fun e w' => e = .returned (.tuple #[]) ∧ Su w blk off d w' (siftDown ltInt hi F lo d) := by
  have HH := Lib.hid hH
  have HN := Lib.hid hn
  clear hH hn
  go_enter Try.func93, Try.ntmps93
  go_wp2
  go_loopw [8] (fun i wr => ∃ (r : Nat) (dk : Array Int), i = .int .i64 r ∧ r ≤ hi ∧ Hid (Su w blk off d wr dk) ∧ Hid (siftDown ltInt hi F r dk = siftDown ltInt hi F lo d)) (fun i _ => hi + 1 - (intOf i).toNat)
  case atStart => exact ⟨lo, d, rfl, hlo, Lib.hid (Su.start HH.out), Lib.hid rfl⟩
  case round =>
    obtain ⟨r, dk, rfl, hrh, HS, HE⟩ := hrel
    rename World => wa
    obtain ⟨G, hG, hcw, hfw⟩ := HS.out.fam
    rw [HN.out] at hcw hfw
    have HG := Lib.hid hG
    obtain ⟨c, hc⟩ : ∃ c, c = 2 * r + 1 := ⟨_, rfl⟩
    have e1 : (2 : Int) * (r : Int) + 1 = (c : Int) := by omega
    have HC := Lib.hid hc
    have hrc : r < c := by omega
    have hrc2 : c ≤ 2 * hi + 1 := by omega
    clear hG hc
    go_wp2
    · -- child at or past hi
      go_end0
      exact ⟨rfl, by have := HC.out; have e := sd_end (lt := ltInt) (hi := hi) (F := F) (root := r) dk (by omega); rw [← HE.out, e]; exact HS.out⟩
    · have hch : c < hi := by omega
      have hcc := Lib.hid HC.out
      clear HC
      by_cases h2 : (c : Int) + 1 < hi
      · have h2' : c + 1 < hi := by omega
        go_quiet (first | (go_at_call 85; exact Calls.quiet_of_same (less_u _ _ _)))
        have HS2 := Lib.hid (HS.out.drewN nq)
        go_upto_if 36 with (fail)
        go_cut [9] (fun s9 wx => ∃ e : Nat, s9 = .int .i64 e ∧ e < hi ∧ r < e ∧ Hid (Su w blk off d wx dk) ∧ Hid (ltInt dk[F + r]! dk[F + e]! = false → siftDown ltInt hi F r dk = dk) ∧ Hid (ltInt dk[F + r]! dk[F + e]! = true → siftDown ltInt hi F r dk = siftDown ltInt hi F e (swp dk (F + r) (F + e))))
        case first =>
          go_wp2_with fail
          · have hl : ltInt (G (F + c)) (G (F + c + 1)) = true := by assumption
            have hp := sd_pick_r (lt := ltInt) (d := dk) (F := F) hcc.out h2' (by rw [← HG.out, ← HG.out]; exact hl)
            go_meet
            exact ⟨c + 1, by go_num, h2', by omega, HS2, Lib.hid hp.1, Lib.hid hp.2⟩
          · have hl : ltInt (G (F + c)) (G (F + c + 1)) = false := by assumption
            have hp := sd_pick_l (lt := ltInt) (d := dk) (F := F) hcc.out hch (fun _ => by rw [← HG.out, ← HG.out]; exact hl)
            go_meet
            exact ⟨c, rfl, hch, by omega, HS2, Lib.hid hp.1, Lib.hid hp.2⟩
        case rest =>
          clear hcw hfw HG
          clear G
          obtain ⟨e, rfl, heh, hre, HS3, H1, H2⟩ := hcut
          rename World => wc
          obtain ⟨G, hG, hcw, hfw⟩ := HS3.out.fam
          rw [HN.out] at hcw hfw
          have HG := Lib.hid hG
          clear hG
          go_wp2_with fail
          go_quiet (first | (go_at_call 85; exact Calls.quiet_of_same (less_u _ _ _)))
          go_wp2_with fail
          · have hl : ltInt (G (F + r)) (G (F + e)) = false := by simpa using (show (!ltInt (G (F + r)) (G (F + e))) = true by assumption)
            refine bodyPost_ret (v := .tuple #[]) (results_none (by first | rfl | kernel_rfl) _ _ _) rfl ?_
            refine ⟨rfl, ?_⟩
            rw [← HE.out, H1.out (by rw [← HG.out, ← HG.out]; exact hl)]
            exact HS3.out.drewN nq
          · have hl : ltInt (G (F + r)) (G (F + e)) = true := by simpa using (show (!ltInt (G (F + r)) (G (F + e))) = false by assumption)
            go_region
            all_goals go_wp2
            go_roundw
            case rel =>
              refine ⟨e, swp dk (F + r) (F + e), rfl, by omega, Lib.hid ?_, Lib.hid ?_⟩
              · exact HS3.out.swapG (i := F + r) (j := F + e) HG.out (by rw [HN.out]; omega) (by rw [HN.out]; omega)
              · rw [← HE.out, H2.out (by rw [← HG.out, ← HG.out]; exact hl)]
            case measure => simp [intOf]; omega
      · go_quiet (first | (go_at_call 85; exact Calls.quiet_of_same (less_u _ _ _)))
        have HS2 := Lib.hid (HS.out.drewN nq)
        go_upto_if 36 with (fail)
        go_cut [9] (fun s9 wx => ∃ e : Nat, s9 = .int .i64 e ∧ e < hi ∧ r < e ∧ Hid (Su w blk off d wx dk) ∧ Hid (ltInt dk[F + r]! dk[F + e]! = false → siftDown ltInt hi F r dk = dk) ∧ Hid (ltInt dk[F + r]! dk[F + e]! = true → siftDown ltInt hi F r dk = siftDown ltInt hi F e (swp dk (F + r) (F + e))))
        case first =>
          have hp := sd_pick_l (lt := ltInt) (d := dk) (F := F) hcc.out hch (fun h => absurd h (by omega))
          go_wp2_with fail
          go_meet
          exact ⟨c, rfl, hch, by omega, HS2, Lib.hid hp.1, Lib.hid hp.2⟩
        case rest =>
          clear hcw hfw HG
          clear G
          obtain ⟨e, rfl, heh, hre, HS3, H1, H2⟩ := hcut
          rename World => wc
          obtain ⟨G, hG, hcw, hfw⟩ := HS3.out.fam
          rw [HN.out] at hcw hfw
          have HG := Lib.hid hG
          clear hG
          go_wp2_with fail
          go_quiet (first | (go_at_call 85; exact Calls.quiet_of_same (less_u _ _ _)))
          go_wp2_with fail
          · have hl : ltInt (G (F + r)) (G (F + e)) = false := by simpa using (show (!ltInt (G (F + r)) (G (F + e))) = true by assumption)
            refine bodyPost_ret (v := .tuple #[]) (results_none (by first | rfl | kernel_rfl) _ _ _) rfl ?_
            refine ⟨rfl, ?_⟩
            rw [← HE.out, H1.out (by rw [← HG.out, ← HG.out]; exact hl)]
            exact HS3.out.drewN nq
          · have hl : ltInt (G (F + r)) (G (F + e)) = true := by simpa using (show (!ltInt (G (F + r)) (G (F + e))) = false by assumption)
            go_region
            all_goals go_wp2
            go_roundw
            case rel =>
              refine ⟨e, swp dk (F + r) (F + e), rfl, by omega, Lib.hid ?_, Lib.hid ?_⟩
              · exact HS3.out.swapG (i := F + r) (j := F + e) HG.out (by rw [HN.out]; omega) (by rw [HN.out]; omega)
              · rw [← HE.out, H2.out (by rw [← HG.out, ← HG.out]; exact hl)]
            case measure => simp [intOf]; omega
end Go.Proofs.Ytlkhfhhaallhgaa

namespace Go.Proofs.Ytlkhfhhaallhgaa
set_option maxRecDepth 100000
open Go.RowKit Go.Sort

/-- behind one store into the row another place may be stored into, too -/
theorem Su.stored {w w' : World} {blk off : Nat} {d dk : Array Int} (h : Su w blk off d w' dk) {i j : Nat} {v : Int} (hi : i < d.size) (hj : j < d.size) :
    (w'.setCell ⟨blk, off + i, none⟩ (.int .u64 v)).cell? ⟨blk, off + j, none⟩ = some (.int .u64 (dk.setIfInBounds i v)[j]!) ∧ (w'.setCell ⟨blk, off + i, none⟩ (.int .u64 v)).frozen? ⟨blk, off + j, none⟩ = false := by
  have hi' : i < dk.size := by rw [h.2.1]; exact hi
  have hj' : j < dk.size := by rw [h.2.1]; exact hj
  have e := putRow_set (Value.int .u64) w' blk off dk i v hi'
  rw [putRow_self _ _ _ _ _ h.1] at e
  rw [e]
  exact holds_putRow _ _ _ _ dk _ h.1 (by simp) j (by simpa using hj')
set_option maxHeartbeats 4000000 in
theorem heap_u (blk off cap a b : Nat) (d : Array Int) (n : Nat) (hn : d.size = n) (w : World) (hH : Hu w blk off d) (hab : a ≤ b) (hb : b ≤ n) (hsz : n < 4611686018427387904) :
    Calls Try.prog 80 #[.slice (some ⟨blk, off, none⟩) n cap, .int .i64 a, .int .i64 b] w fun e w' => e = .returned (.tuple #[]) ∧ Su w blk off d w' (heapSort ltInt d a b) := by
  have HH := Lib.hid hH
  have HN := Lib.hid hn
  clear hH hn
  obtain ⟨h, hh⟩ : ∃ h, h = b - a := ⟨_, rfl⟩
  have e1 : (b : Int) - (a : Int) = (h : Int) := by omega
  obtain ⟨z, hz⟩ : ∃ z, z = (h - 1) / 2 + 1 := ⟨_, rfl⟩
  have e2 : ((h : Int) - 1).tdiv 2 = (z : Int) - 1 := by rw [← e1, half_start hab, hz, hh]
  have HE : Hid (heapSort ltInt d a b = heapPop ltInt a h (heapBuild ltInt h a z d)) := Lib.hid (by unfold heapSort; rw [hz, hh])
  have hah : a + h ≤ n := by omega
  have hzh : z ≤ h + 1 := by omega
  have hzz : Hid (z ≤ h ∨ h = 0) := Lib.hid (by omega)
  clear hz hh
  go_enter Try.func80, Try.ntmps80
  go_wp2
  go_loopw [9] (fun i wr => ∃ (k : Nat) (q : Int) (dk : Array Int), i = .int .i64 q ∧ Hid (q = (k : Int) - 1) ∧ k ≤ z ∧ Hid (Su w blk off d wr dk) ∧ Hid (heapBuild ltInt h a k dk = heapBuild ltInt h a z d)) (fun i _ => (intOf i + 1).toNat)
  case atStart => exact ⟨z, _, d, rfl, Lib.hid rfl, Nat.le_refl _, Lib.hid (Su.start HH.out), Lib.hid rfl⟩
  case round =>
    obtain ⟨k, q, dk, rfl, HK, hkz, HS, HB⟩ := hrel
    rename World => wa
    rcases k with _ | m
    · -- the heap is built
      have hq0 : q < 0 := by have := HK.out; omega
      clear HK
      go_wp2_with fail
      go_loopw [10] (fun i wr => ∃ (k : Nat) (dq : Array Int), i = .int .i64 ((k : Int) - 1) ∧ k ≤ h ∧ Hid (Su w blk off d wr dq) ∧ Hid (heapPop ltInt a k dq = heapSort ltInt d a b)) (fun i _ => (intOf i + 1).toNat)
      case atStart => exact ⟨h, dk, rfl, Nat.le_refl _, HS, Lib.hid (by rw [HE.out, ← HB.out]; rfl)⟩
      case round =>
        obtain ⟨k, dq, rfl, hkh, HQ, HP⟩ := hrel
        rename World => wb
        rcases k with _ | m
        · go_wp2_with fail
          go_end0
          exact ⟨rfl, by rw [← HP.out]; exact HQ.out⟩
        · have e3 : ((m + 1 : Nat) : Int) - 1 = (m : Int) := by omega
          rw [e3]
          obtain ⟨G, hG, hcw, hfw⟩ := HQ.out.fam
          rw [HN.out] at hcw hfw
          have HG := Lib.hid hG
          clear hG
          have hx := fun v => Su.stored HQ.out (i := a) (v := v) (by rw [HN.out]; omega) (show a + m < d.size by rw [HN.out]; omega)
          have hxc := fun v => (hx v).1
          have hxf := fun v => (hx v).2
          clear hx
          go_wp2_with fail
          go_region
          have hsw : Su w blk off d (((wb.setCell ⟨blk, off + a, none⟩ (.int .u64 (G (a + m)))).setCell ⟨blk, off + (a + m), none⟩ (.int .u64 (G a))).drew) (swp dq a (a + m)) := (HQ.out.swapG (n := 0) HG.out (by rw [HN.out]; omega) (by rw [HN.out]; omega)).drewN 1
          generalize (((wb.setCell ⟨blk, off + a, none⟩ (.int .u64 (G (a + m)))).setCell ⟨blk, off + (a + m), none⟩ (.int .u64 (G a))).drew) = wc at hsw ⊢
          have HSW := Lib.hid hsw
          have hc := sift_u blk off cap 0 m a (swp dq a (a + m)) n (by rw [hsw.2.1, HN.out]) wc hsw.1 (Nat.zero_le _) (by omega) hsz
          clear hsw hcw hfw hxc hxf
          go_wp2_with (go_at_call 93; refine hc.mono ?_; rintro e w2 ⟨rfl, hs2⟩)
          go_roundw
          case rel => exact ⟨m, _, rfl, by omega, Lib.hid (HSW.out.trans hs2), Lib.hid (by rw [← HP.out]; rfl)⟩
          case measure => simp [intOf]
    · have e3 : ((m + 1 : Nat) : Int) - 1 = (m : Int) := by omega
      have hqm : q = (m : Int) := by rw [HK.out, e3]
      subst hqm
      clear HK
      have hc := sift_u blk off cap m h a dk n (by rw [HS.out.2.1, HN.out]) wa HS.out.1 (by have := hzz.out; omega) hah hsz
      go_wp2_with (go_at_call 93; refine hc.mono ?_; rintro e w2 ⟨rfl, hs2⟩)
      go_roundw
      case rel => exact ⟨m, _, _, rfl, Lib.hid rfl, by omega, Lib.hid (HS.out.trans hs2), Lib.hid (by rw [← HB.out]; rfl)⟩
      case measure => simp [intOf]
end Go.Proofs.Ytlkhfhhaallhgaa

namespace Go.Proofs.Ytlkhfhhaallhgaa
set_option maxRecDepth 100000
open Go.RowKit Go.Sort

set_option maxHeartbeats 2000000 in
theorem ord2_u (blk off cap a b sb s : Nat) (d : Array Int) (n : Nat) (hn : d.size = n) (w : World) (hH : Hu w blk off d) (hS : Blk w sb 3 #[.int .i64 s]) (hs : s < 1000) (ha : a < n) (hb : b < n) (hsz : n < 4611686018427387904) :
    Calls Try.prog 98 #[.slice (some ⟨blk, off, none⟩) n cap, .int .i64 a, .int .i64 b, .pointer (some ⟨sb, 0, none⟩)] w fun e w' =>
      ∃ x y s' : Nat, e = .returned (.tuple #[.int .i64 x, .int .i64 y]) ∧ (x = a ∧ y = b ∨ x = b ∧ y = a) ∧ s' ≤ s + 1 ∧ Blk w' sb 3 #[.int .i64 s'] ∧ Fr [sb] w w' := by
  obtain ⟨G, hG, hcw, hfw⟩ := (Su.start hH).fam
  rw [hn] at hcw hfw
  have HS := Lib.hid hS
  have h0 := hS.cell 0
  have z0 := hS.frozen 0
  clear hH hn hG hS
  simp only [List.getElem?_toArray, List.getElem?_cons_zero] at h0
  go_enter Try.func98, Try.ntmps98
  go_wp2
  go_quiet (first | (go_at_call 85; exact Calls.quiet_of_same (less_u _ _ _)))
  go_wp2
  · go_ret2
    exact ⟨b, a, s + 1, rfl, Or.inr ⟨rfl, rfl⟩, Nat.le_refl _, (HS.out.drewN nq).set 0 _, ((Fr.refl _ w).drewN nq).setCell _ (fun _ => by simp) _⟩
  · go_ret2
    exact ⟨a, b, s, rfl, Or.inl ⟨rfl, rfl⟩, Nat.le_succ _, HS.out.drewN nq, (Fr.refl _ w).drewN nq⟩
set_option maxHeartbeats 2000000 in
theorem med_u (blk off cap a b c sb s : Nat) (d : Array Int) (n : Nat) (hn : d.size = n) (w : World) (hH : Hu w blk off d) (hS : Blk w sb 3 #[.int .i64 s]) (hne : sb ≠ blk) (hs : s < 900) (ha : a < n) (hb : b < n) (hc : c < n) (hsz : n < 4611686018427387904) :
    Calls Try.prog 95 #[.slice (some ⟨blk, off, none⟩) n cap, .int .i64 a, .int .i64 b, .int .i64 c, .pointer (some ⟨sb, 0, none⟩)] w fun e w' =>
      ∃ x s' : Nat, e = .returned (.int .i64 x) ∧ (x = a ∨ x = b ∨ x = c) ∧ s' ≤ s + 3 ∧ Blk w' sb 3 #[.int .i64 s'] ∧ Fr [sb] w w' := by
  have HH := Lib.hid hH
  have c1 := ord2_u blk off cap a b sb s d n hn w hH hS (by omega) ha hb hsz
  have HN := Lib.hid hn
  clear hH hS hn
  have hnb : ¬ blk ∈ [sb] := by simpa using Ne.symm hne
  go_enter Try.func95, Try.ntmps95
  go_wp2_with fail
  refine c1.mono ?_
  rintro e w1 ⟨x1, y1, s1, rfl, hxy1, hs1, hb1, hf1⟩
  have hx1 : x1 < n := by omega
  have hy1 : y1 < n := by omega
  have c2 := ord2_u blk off cap y1 c sb s1 d n HN.out w1 (HH.out.keep hf1 hnb) hb1 (by omega) hy1 hc hsz
  have HB1 := Lib.hid hb1
  have HF1 := Lib.hid hf1
  clear c1 hb1 hf1
  go_wp2_with fail
  refine c2.mono ?_
  rintro e w2 ⟨x2, y2, s2, rfl, hxy2, hs2, hb2, hf2⟩
  have HF2 := Lib.hid (HF1.out.trans hf2 (fun _ h _ => h))
  have hx2 : x2 < n := by omega
  have c3 := ord2_u blk off cap x1 x2 sb s2 d n HN.out w2 (HH.out.keep HF2.out hnb) hb2 (by omega) hx1 hx2 hsz
  clear c2 hb2 hf2
  go_wp2_with fail
  refine c3.mono ?_
  rintro e w3 ⟨x3, y3, s3, rfl, hxy3, hs3, hb3, hf3⟩
  have HB3 := Lib.hid hb3
  have HF3 := Lib.hid (HF2.out.trans hf3 (fun _ h _ => h))
  clear c3 hb3 hf3
  go_wp2_with fail
  go_ret
  exact ⟨y3, s3, rfl, by omega, by omega, HB3.out, HF3.out⟩
set_option maxHeartbeats 2000000 in
theorem piv_u (blk off cap a b : Nat) (d : Array Int) (n : Nat) (hn : d.size = n) (w : World) (hH : Hu w blk off d) (hlt : blk < w.heap.size) (hab : a < b) (hb : b ≤ n) (h50 : b - a < 50) (hsz : n < 4611686018427387904) :
    Calls Try.prog 82 #[.slice (some ⟨blk, off, none⟩) n cap, .int .i64 a, .int .i64 b] w fun e w' =>
      ∃ p h : Nat, e = .returned (.tuple #[.int .i64 p, .int .i64 h]) ∧ a ≤ p ∧ p < b ∧ h ≤ 2 ∧ Fr [] w w' := by
  have HH := Lib.hid hH
  have HN := Lib.hid hn
  have HL := Lib.hid hlt
  clear hH hn hlt
  obtain ⟨l, hl⟩ : ∃ l, l = b - a := ⟨_, rfl⟩
  have e1 : (b : Int) - (a : Int) = (l : Int) := by omega
  obtain ⟨q, hq⟩ : ∃ q, q = l / 4 := ⟨_, rfl⟩
  have e2 : (l : Int).tdiv 4 = (q : Int) := by rw [hq]; exact Int.ofNat_tdiv l 4
  have e2' : (l : Int) / 4 = (q : Int) := by rw [hq]; omega
  have hq4 : 4 * q ≤ l := by omega
  have hlb : a + l = b := by omega
  have hl50 : l < 50 := by omega
  have hl0 : 0 < l := by omega
  clear hl hq
  go_enter Try.func82, Try.ntmps82
  go_upto_region 6 with (fail)
  have hf0 : Fr [] w (w.alloc (Obj.cells #[Value.int IntKind.i64 0] 3)) := (Fr.refl [] w).alloc _
  have hb0 : Blk (w.alloc (Obj.cells #[Value.int IntKind.i64 0] 3)) w.heap.size 3 #[.int .i64 (0 : Nat)] := Blk.new w _ _
  generalize w.alloc (Obj.cells #[Value.int IntKind.i64 0] 3) = wa at *
  obtain ⟨sb, hsb⟩ : ∃ sb, sb = w.heap.size := ⟨_, rfl⟩
  rw [← hsb] at hb0 ⊢
  have HSB := Lib.hid hsb
  have HF0 := Lib.hid hf0
  have HB0 := Lib.hid hb0
  have z0 := hb0.frozen 0
  have h0 := hb0.cell 0
  simp only [List.getElem?_toArray, List.getElem?_cons_zero] at h0
  clear hsb hf0 hb0
  by_cases h8 : 8 ≤ l
  · have hc := med_u blk off cap (a + q) (a + q * 2) (a + q * 3) sb 0 d n HN.out wa (HH.out.keep HF0.out (by simp)) HB0.out (by have := HL.out; have := HSB.out; omega) (by decide) (by omega) (by omega) (by omega) hsz
    push_cast at hc
    clear h0 z0
    go_wp2_with fail
    refine hc.mono ?_
    rintro e w1 ⟨x, s1, rfl, hx, hs1, hb1, hf1⟩
    have HF1 : Hid (Fr [] w w1) := Lib.hid (HF0.out.and hf1 (by have := HSB.out; simp; omega))
    have h0 := hb1.cell 0
    simp only [List.getElem?_toArray, List.getElem?_cons_zero] at h0
    clear hb1 hf1 hc
    have hxa : a ≤ x ∧ x < b := by omega
    go_wp2_with fail
    all_goals go_ret2
    all_goals first
      | exact ⟨x, 1, rfl, hxa.1, hxa.2, by decide, HF1.out⟩
      | exact ⟨x, 2, rfl, hxa.1, hxa.2, by decide, HF1.out⟩
      | exact ⟨x, 0, rfl, hxa.1, hxa.2, by decide, HF1.out⟩
  · go_wp2_with fail
    go_ret2
    exact ⟨a + q * 2, 1, by go_num, by omega, by omega, by decide, HF0.out⟩
end Go.Proofs.Ytlkhfhhaallhgaa

namespace Go.Proofs.Ytlkhfhhaallhgaa
set_option maxRecDepth 100000
open Go.RowKit Go.Sort

/-- no step down among the first k places from a on -/
theorem sorted_steps {d : Array Int} {a b : Nat} (h : ∀ i, a < i → i < b → ltInt d[i]! d[i - 1]! = false) : SortedIn ltInt a b d := by
  have H : ∀ (k i : Nat), a ≤ i → i + k + 1 < b → ltInt d[i + k + 1]! d[i]! = false := by
    intro k
    induction k with
    | zero => intro i hi hb; have := h (i + 1) (by omega) (by omega); simpa using this
    | succ k ih =>
      intro i hi hb
      have h1 := ih i hi (by omega)
      have h2 := h (i + (k + 1) + 1) (by omega) hb
      exact swo_ltInt.ntrans _ _ _ h2 h1
  intro i j hi hij hj
  have := H (j - i - 1) i hi (by omega)
  rwa [show i + (j - i - 1) + 1 = j by omega] at this

set_option maxHeartbeats 2000000 in
theorem par_u (blk off cap a b : Nat) (d : Array Int) (n : Nat) (hn : d.size = n) (w : World) (hH : Hu w blk off d) (hab : a < b) (hb : b ≤ n) (h50 : b - a < 50) (hsz : n < 4611686018427387904) :
    Calls Try.prog 84 #[.slice (some ⟨blk, off, none⟩) n cap, .int .i64 a, .int .i64 b] w fun e w' =>
      ∃ r : Bool, e = .returned (.bool r) ∧ (r = true → SortedIn ltInt a b d) ∧ Fr [] w w' := by
  obtain ⟨G, hG, hcw, hfw⟩ := (Su.start hH).fam
  rw [hn] at hcw hfw
  have HC := Lib.hid hcw
  have HG := Lib.hid hG
  have e50 : (b : Int) - (a : Int) < 50 := by omega
  clear hH hn hG hcw hfw
  go_enter Try.func84, Try.ntmps84
  go_wp2
  go_loopw [7, 8] (fun i j wr => i = .int .i64 ((a : Int) + 1) ∧ j = .int .i64 0 ∧ Hid (wr = w)) (fun _ _ _ => 0)
  case atStart => exact ⟨rfl, rfl, Lib.hid rfl⟩
  case round =>
    obtain ⟨rfl, rfl, hww⟩ := hrel
    rename World => wz
    have hwz : w = wz := hww.out.symm
    subst hwz
    go_upto_block 2 with (fail)
    go_cut [7] (fun s7 wx => ∃ k : Nat, s7 = .int .i64 k ∧ a < k ∧ k ≤ b ∧ Hid (∀ i, a < i → i < k → ltInt d[i]! d[i - 1]! = false) ∧ Hid (Fr [] w wx))
    case first =>
      go_wp2
      go_loopw [7] (fun i wr => ∃ k : Nat, i = .int .i64 k ∧ a < k ∧ k ≤ b ∧ Hid (∀ i, a < i → i < k → ltInt d[i]! d[i - 1]! = false) ∧ Hid (Fr [] w wr)) (fun i _ => b + 1 - (intOf i).toNat)
      case atStart => exact ⟨a + 1, by go_num, by omega, by omega, Lib.hid (fun i h1 h2 => by omega), Lib.hid (Fr.refl _ _)⟩
      case round =>
        obtain ⟨k, rfl, hak, hkb, HA, HF⟩ := hrel
        rename World => wa
        have hcw : ∀ t, t < n → wa.cell? ⟨blk, off + t, none⟩ = some (.int .u64 (G t)) := fun t ht => HF.out.cell (HC.out t ht) (by simp)
        go_wp2
        by_cases hk : k < b
        · go_quiet (first | (go_at_call 85; exact Calls.quiet_of_same (less_u _ _ _)))
          have HFN := Lib.hid (HF.out.drewN nq)
          go_wp2_with fail
          · have hl : ltInt (G k) (G (k - 1)) = false := by simpa using (show (!ltInt (G k) (G (k - 1))) = true by assumption)
            go_roundw
            case rel => exact ⟨k + 1, by go_num, by omega, by omega, Lib.hid (fun i h1 h2 => by
              rcases Nat.lt_or_ge i k with h | h
              · exact HA.out i h1 h
              · have : i = k := by omega
                subst this
                rw [← HG.out, ← HG.out]
                exact hl), HFN⟩
            case measure => simp [intOf]; omega
          · go_meet
            exact ⟨k, rfl, hak, hkb, HA, HFN⟩
        · go_quiet (first | (go_at_call 85; exact Calls.quiet_of_same (less_u _ _ _)))
          have HFN := Lib.hid (HF.out.drewN nq)
          go_wp2_with fail
          go_meet
          exact ⟨k, rfl, hak, hkb, HA, HFN⟩
    case rest =>
      obtain ⟨k, rfl, hak, hkb, HA, HF⟩ := hcut
      by_cases hk : k = b
      · subst hk
        go_wp2_with fail
        go_ret
        exact Or.inr ⟨rfl, sorted_steps HA.out, HF.out⟩
      · go_wp2_with fail
        go_ret
        exact Or.inl ⟨rfl, HF.out⟩
end Go.Proofs.Ytlkhfhhaallhgaa

namespace Go.Proofs.Ytlkhfhhaallhgaa
set_option maxRecDepth 100000
open Go.RowKit Go.Sort

set_option maxHeartbeats 4000000 in
theorem peq_u (blk off cap a b pivot : Nat) (d : Array Int) (n : Nat) (hn : d.size = n) (w : World) (hH : Hu w blk off d) (hap : a ≤ pivot) (hpb : pivot < b) (hb : b ≤ n) (hsz : n < 4611686018427387904) :
    Calls Try.prog 86 #[.slice (some ⟨blk, off, none⟩) n cap, .int .i64 a, .int .i64 b, .int .i64 pivot] w fun e w' =>
      e = .returned (.int .i64 ((partitionEqual ltInt d a b pivot).1 : Nat)) ∧ Su w blk off d w' (partitionEqual ltInt d a b pivot).2 := by
  have HN := Lib.hid hn
  have HS0 := Lib.hid (Su.start hH)
  clear hH hn
  go_enter Try.func86, Try.ntmps86
  go_wp2
  obtain ⟨G, hG, hcw, hfw⟩ := HS0.out.fam
  have HG := Lib.hid hG
  clear hG
  rw [HN.out] at hcw hfw
  have hxc := fun v => (Su.stored HS0.out (i := a) (v := v) (show a < d.size by rw [HN.out]; omega) (show pivot < d.size by rw [HN.out]; omega)).1
  have hxf := fun v => (Su.stored HS0.out (i := a) (v := v) (show a < d.size by rw [HN.out]; omega) (show pivot < d.size by rw [HN.out]; omega)).2
  go_region
  have hsw : Su w blk off d (((w.setCell ⟨blk, off + a, none⟩ (.int .u64 (G pivot))).setCell ⟨blk, off + pivot, none⟩ (.int .u64 (G a))).drew) (swp d a pivot) := (HS0.out.swapG (n := 0) HG.out (by rw [HN.out]; omega) (by rw [HN.out]; omega)).drewN 1
  generalize (((w.setCell ⟨blk, off + a, none⟩ (.int .u64 (G pivot))).setCell ⟨blk, off + pivot, none⟩ (.int .u64 (G a))).drew) = w1 at hsw ⊢
  have HS1 := Lib.hid hsw
  clear hsw hxc hxf hcw hfw HG
  obtain ⟨d1, hd1⟩ : ∃ d1, d1 = swp d a pivot := ⟨_, rfl⟩
  rw [← hd1] at HS1
  have HD1 := Lib.hid hd1
  clear hd1
  have HE : Hid (partitionEqual ltInt d a b pivot = partEqLoop ltInt a (a + 1) (b - 1) d1) := Lib.hid (by rw [HD1.out]; rfl)
  go_wp2
  go_loopw [9, 10] (fun si sj wr => ∃ (i j : Nat) (dk : Array Int), si = .int .i64 i ∧ sj = .int .i64 j ∧ a < i ∧ i ≤ j + 1 ∧ j < b ∧ Hid (Su w blk off d wr dk) ∧ Hid (partEqLoop ltInt a i j dk = partitionEqual ltInt d a b pivot)) (fun si sj _ => ((intOf sj) + 1 - (intOf si)).toNat)
  case atStart => exact ⟨a + 1, b - 1, d1, by go_num, by congr 1; omega, by omega, by omega, by omega, HS1, Lib.hid HE.out.symm⟩
  case round =>
    obtain ⟨i, j, dk, rfl, rfl, hai, hij, hjb, HS, HL⟩ := hrel
    rename World => wl
    go_upto_block 2 with (fail)
    go_cut [9] (fun s wx => ∃ k : Nat, s = .int .i64 k ∧ i ≤ k ∧ k ≤ j + 1 ∧ Hid (scanUp (fun x => !ltInt dk[a]! x) dk j i = k) ∧ Hid (Su w blk off d wx dk))
    case first =>
      go_wp2
      go_loopw [9] (fun s wr => ∃ k : Nat, s = .int .i64 k ∧ i ≤ k ∧ k ≤ j + 1 ∧ Hid (scanUp (fun x => !ltInt dk[a]! x) dk j k = scanUp (fun x => !ltInt dk[a]! x) dk j i) ∧ Hid (Su w blk off d wr dk)) (fun s _ => j + 2 - (intOf s).toNat)
      case atStart => exact ⟨i, rfl, by omega, by omega, Lib.hid rfl, HS⟩
      case round =>
        obtain ⟨k, rfl, hk1, hk2, HU, HK⟩ := hrel
        rename World => wr1
        obtain ⟨G, hG, hcw, hfw⟩ := HK.out.fam
        have HG := Lib.hid hG
        clear hG
        rw [HN.out] at hcw hfw
        go_wp2
        by_cases hk : k ≤ j
        · go_quiet (first | (go_at_call 85; exact Calls.quiet_of_same (less_u _ _ _)))
          have HQ := Lib.hid (HK.out.drewN nq)
          go_wp2_with fail
          · have hp : (fun x => !ltInt dk[a]! x) dk[k]! = true := by
              show (!ltInt (dk[a]!) (dk[k]!)) = true
              rw [← HG.out, ← HG.out]
              assumption
            go_roundw
            case rel => exact ⟨k + 1, by go_num, by omega, by omega, Lib.hid (by rw [← HU.out, scanUp_go _ _ _ _ hk hp]), HQ⟩
            case measure => simp [intOf]; omega
          · have hp : (fun x => !ltInt dk[a]! x) dk[k]! = false := by
              show (!ltInt (dk[a]!) (dk[k]!)) = false
              rw [← HG.out, ← HG.out]
              assumption
            go_meet
            exact ⟨k, rfl, hk1, hk2, Lib.hid (by rw [← HU.out]; exact scanUp_end _ _ _ _ (Or.inr hp)), HQ⟩
        · go_quiet (first | (go_at_call 85; exact Calls.quiet_of_same (less_u _ _ _)))
          have HQ := Lib.hid (HK.out.drewN nq)
          go_wp2_with fail
          go_meet
          exact ⟨k, rfl, hk1, hk2, Lib.hid (by rw [← HU.out]; exact scanUp_end _ _ _ _ (Or.inl hk)), HQ⟩
    case rest =>
      obtain ⟨i2, rfl, i2a, i2b, HI2, HS2⟩ := hcut
      rename World => wi2
      go_upto_block 4 with (fail)
      go_cut [10] (fun s wx => ∃ k : Nat, s = .int .i64 k ∧ k ≤ j ∧ i2 ≤ k + 1 ∧ Hid (scanDown (fun x => ltInt dk[a]! x) dk i2 j = k) ∧ Hid (Su w blk off d wx dk))
      case first =>
        go_wp2
        go_loopw [10] (fun s wr => ∃ k : Nat, s = .int .i64 k ∧ k ≤ j ∧ i2 ≤ k + 1 ∧ Hid (scanDown (fun x => ltInt dk[a]! x) dk i2 k = scanDown (fun x => ltInt dk[a]! x) dk i2 j) ∧ Hid (Su w blk off d wr dk)) (fun s _ => (intOf s).toNat)
        case atStart => exact ⟨j, rfl, by omega, by omega, Lib.hid rfl, HS2⟩
        case round =>
          obtain ⟨k, rfl, hk1, hk2, HU, HK⟩ := hrel
          rename World => wr1
          obtain ⟨G, hG, hcw, hfw⟩ := HK.out.fam
          have HG := Lib.hid hG
          clear hG
          rw [HN.out] at hcw hfw
          go_wp2
          by_cases hk : i2 ≤ k
          · go_quiet (first | (go_at_call 85; exact Calls.quiet_of_same (less_u _ _ _)))
            have HQ := Lib.hid (HK.out.drewN nq)
            go_wp2_with fail
            · have hp : (fun x => ltInt dk[a]! x) dk[k]! = true := by
                show (ltInt (dk[a]!) (dk[k]!)) = true
                rw [← HG.out, ← HG.out]
                assumption
              go_roundw
              case rel => exact ⟨k - 1, by congr 1; omega, by omega, by omega, Lib.hid (by rw [← HU.out, scanDown_go _ _ _ _ hk (by omega) hp]), HQ⟩
              case measure => simp [intOf]; omega
            · have hp : (fun x => ltInt dk[a]! x) dk[k]! = false := by
                show (ltInt (dk[a]!) (dk[k]!)) = false
                rw [← HG.out, ← HG.out]
                assumption
              go_meet
              exact ⟨k, rfl, hk1, hk2, Lib.hid (by rw [← HU.out]; exact scanDown_end _ _ _ _ (Or.inr hp)), HQ⟩
          · go_quiet (first | (go_at_call 85; exact Calls.quiet_of_same (less_u _ _ _)))
            have HQ := Lib.hid (HK.out.drewN nq)
            go_wp2_with fail
            go_meet
            exact ⟨k, rfl, hk1, hk2, Lib.hid (by rw [← HU.out]; exact scanDown_end _ _ _ _ (Or.inl hk)), HQ⟩
      case rest =>
        obtain ⟨j2, rfl, j2a, j2b, HJ2, HS3⟩ := hcut
        rename World => wj2
        obtain ⟨G, hG, hcw, hfw⟩ := HS3.out.fam
        have HG := Lib.hid hG
        clear hG
        rw [HN.out] at hcw hfw
        by_cases hij2 : j2 < i2
        · go_wp2_with fail
          go_ret
          have e := partEq_break ltInt a i j dk HI2.out.symm HJ2.out.symm hij2
          rw [HL.out] at e
          exact ⟨by rw [e]; rfl, by rw [e]; exact HS3.out⟩
        · have hlt : i2 < j2 := scans_lt ltInt a i j dk (by omega) HI2.out.symm HJ2.out.symm (by omega)
          go_wp2_with fail
          go_region
          have hsw : Su w blk off d (((wj2.setCell ⟨blk, off + i2, none⟩ (.int .u64 (G j2))).setCell ⟨blk, off + j2, none⟩ (.int .u64 (G i2))).drew) (swp dk i2 j2) := (HS3.out.swapG (n := 0) HG.out (by rw [HN.out]; omega) (by rw [HN.out]; omega)).drewN 1
          generalize (((wj2.setCell ⟨blk, off + i2, none⟩ (.int .u64 (G j2))).setCell ⟨blk, off + j2, none⟩ (.int .u64 (G i2))).drew) = wn at hsw ⊢
          have HSN := Lib.hid hsw
          clear hsw hcw hfw HG
          go_wp2_with fail
          go_roundw
          case rel => exact ⟨i2 + 1, j2 - 1, _, by go_num, by congr 1; omega, by omega, by omega, by omega, HSN, Lib.hid (by rw [← HL.out, partEq_go ltInt a i j dk HI2.out.symm HJ2.out.symm (by omega)])⟩
          case measure => simp [intOf]; omega
end Go.Proofs.Ytlkhfhhaallhgaa

namespace Go.Proofs.Ytlkhfhhaallhgaa
set_option maxRecDepth 100000
open Go.RowKit Go.Sort

set_option maxHeartbeats 8000000 in
theorem prt_u (blk off cap a b pivot : Nat) (d : Array Int) (n : Nat) (hn : d.size = n) (w : World) (hH : Hu w blk off d) (hap : a ≤ pivot) (hpb : pivot < b) (hb : b ≤ n) (hsz : n < 4611686018427387904) :
    Calls Try.prog 87 #[.slice (some ⟨blk, off, none⟩) n cap, .int .i64 a, .int .i64 b, .int .i64 pivot] w fun e w' =>
      e = .returned (.tuple #[.int .i64 ((partition ltInt d a b pivot).1 : Nat), .bool (partition ltInt d a b pivot).2.1]) ∧ Su w blk off d w' (partition ltInt d a b pivot).2.2 := by
  have HN := Lib.hid hn
  have HS0 := Lib.hid (Su.start hH)
  clear hH hn
  go_enter Try.func87, Try.ntmps87
  go_wp2
  obtain ⟨G, hG, hcw, hfw⟩ := HS0.out.fam
  have HG := Lib.hid hG
  clear hG
  rw [HN.out] at hcw hfw
  have hxc := fun v => (Su.stored HS0.out (i := a) (v := v) (show a < d.size by rw [HN.out]; omega) (show pivot < d.size by rw [HN.out]; omega)).1
  have hxf := fun v => (Su.stored HS0.out (i := a) (v := v) (show a < d.size by rw [HN.out]; omega) (show pivot < d.size by rw [HN.out]; omega)).2
  go_region
  have hsw : Su w blk off d (((w.setCell ⟨blk, off + a, none⟩ (.int .u64 (G pivot))).setCell ⟨blk, off + pivot, none⟩ (.int .u64 (G a))).drew) (swp d a pivot) := (HS0.out.swapG (n := 0) HG.out (by rw [HN.out]; omega) (by rw [HN.out]; omega)).drewN 1
  generalize (((w.setCell ⟨blk, off + a, none⟩ (.int .u64 (G pivot))).setCell ⟨blk, off + pivot, none⟩ (.int .u64 (G a))).drew) = w1 at hsw ⊢
  have HS1 := Lib.hid hsw
  clear hsw hxc hxf hcw hfw HG
  obtain ⟨d1, hd1⟩ : ∃ d1, d1 = swp d a pivot := ⟨_, rfl⟩
  rw [← hd1] at HS1
  have HD1 := Lib.hid hd1
  clear hd1
  go_upto_block 0 with (fail)
  have e1 : (a : Int) + 1 = ((a + 1 : Nat) : Int) := by omega
  have e2 : (b : Int) - 1 = ((b - 1 : Nat) : Int) := by omega
  rw [e1, e2]
  go_cut [10] (fun s wx => ∃ k : Nat, s = .int .i64 k ∧ (a + 1) ≤ k ∧ k ≤ (b - 1) + 1 ∧ Hid (scanUp (fun x => ltInt x d1[a]!) d1 (b - 1) (a + 1) = k) ∧ Hid (Su w blk off d wx d1))
  case first =>
    go_wp2
    go_loopw [10] (fun s wr => ∃ k : Nat, s = .int .i64 k ∧ (a + 1) ≤ k ∧ k ≤ (b - 1) + 1 ∧ Hid (scanUp (fun x => ltInt x d1[a]!) d1 (b - 1) k = scanUp (fun x => ltInt x d1[a]!) d1 (b - 1) (a + 1)) ∧ Hid (Su w blk off d wr d1)) (fun s _ => (b - 1) + 2 - (intOf s).toNat)
    case atStart => exact ⟨(a + 1), rfl, by omega, by omega, Lib.hid rfl, HS1⟩
    case round =>
      obtain ⟨k, rfl, hk1, hk2, HU, HK⟩ := hrel
      rename World => wr1
      obtain ⟨G, hG, hcw, hfw⟩ := HK.out.fam
      have HG := Lib.hid hG
      clear hG
      rw [HN.out] at hcw hfw
      go_wp2
      by_cases hk : k ≤ (b - 1)
      · go_quiet (first | (go_at_call 85; exact Calls.quiet_of_same (less_u _ _ _)))
        have HQ := Lib.hid (HK.out.drewN nq)
        go_wp2_with fail
        · have hp : (fun x => ltInt x d1[a]!) d1[k]! = true := by
            show (ltInt (d1[k]!) (d1[a]!)) = true
            rw [← HG.out, ← HG.out]
            assumption
          go_roundw
          case rel => exact ⟨k + 1, by go_num, by omega, by omega, Lib.hid (by rw [← HU.out, scanUp_go _ _ _ _ hk hp]), HQ⟩
          case measure => simp [intOf]; omega
        · have hp : (fun x => ltInt x d1[a]!) d1[k]! = false := by
            show (ltInt (d1[k]!) (d1[a]!)) = false
            rw [← HG.out, ← HG.out]
            assumption
          go_meet
          exact ⟨k, rfl, hk1, hk2, Lib.hid (by rw [← HU.out]; exact scanUp_end _ _ _ _ (Or.inr hp)), HQ⟩
      · go_quiet (first | (go_at_call 85; exact Calls.quiet_of_same (less_u _ _ _)))
        have HQ := Lib.hid (HK.out.drewN nq)
        go_wp2_with fail
        go_meet
        exact ⟨k, rfl, hk1, hk2, Lib.hid (by rw [← HU.out]; exact scanUp_end _ _ _ _ (Or.inl hk)), HQ⟩
  case rest =>
    obtain ⟨i2, rfl, i2a, i2b, HI2, HS2⟩ := hcut
    rename World => wi2
    go_upto_block 2 with (fail)
    go_cut [11] (fun s wx => ∃ k : Nat, s = .int .i64 k ∧ k ≤ (b - 1) ∧ i2 ≤ k + 1 ∧ Hid (scanDown (fun x => !ltInt x d1[a]!) d1 i2 (b - 1) = k) ∧ Hid (Su w blk off d wx d1))
    case first =>
      go_wp2
      go_loopw [11] (fun s wr => ∃ k : Nat, s = .int .i64 k ∧ k ≤ (b - 1) ∧ i2 ≤ k + 1 ∧ Hid (scanDown (fun x => !ltInt x d1[a]!) d1 i2 k = scanDown (fun x => !ltInt x d1[a]!) d1 i2 (b - 1)) ∧ Hid (Su w blk off d wr d1)) (fun s _ => (intOf s).toNat)
      case atStart => exact ⟨(b - 1), rfl, by omega, by omega, Lib.hid rfl, HS2⟩
      case round =>
        obtain ⟨k, rfl, hk1, hk2, HU, HK⟩ := hrel
        rename World => wr1
        obtain ⟨G, hG, hcw, hfw⟩ := HK.out.fam
        have HG := Lib.hid hG
        clear hG
        rw [HN.out] at hcw hfw
        go_wp2
        by_cases hk : i2 ≤ k
        · go_quiet (first | (go_at_call 85; exact Calls.quiet_of_same (less_u _ _ _)))
          have HQ := Lib.hid (HK.out.drewN nq)
          go_wp2_with fail
          · have hp : (fun x => !ltInt x d1[a]!) d1[k]! = true := by
              show (!ltInt (d1[k]!) (d1[a]!)) = true
              rw [← HG.out, ← HG.out]
              assumption
            go_roundw
            case rel => exact ⟨k - 1, by congr 1; omega, by omega, by omega, Lib.hid (by rw [← HU.out, scanDown_go _ _ _ _ hk (by omega) hp]), HQ⟩
            case measure => simp [intOf]; omega
          · have hp : (fun x => !ltInt x d1[a]!) d1[k]! = false := by
              show (!ltInt (d1[k]!) (d1[a]!)) = false
              rw [← HG.out, ← HG.out]
              assumption
            go_meet
            exact ⟨k, rfl, hk1, hk2, Lib.hid (by rw [← HU.out]; exact scanDown_end _ _ _ _ (Or.inr hp)), HQ⟩
        · go_quiet (first | (go_at_call 85; exact Calls.quiet_of_same (less_u _ _ _)))
          have HQ := Lib.hid (HK.out.drewN nq)
          go_wp2_with fail
          go_meet
          exact ⟨k, rfl, hk1, hk2, Lib.hid (by rw [← HU.out]; exact scanDown_end _ _ _ _ (Or.inl hk)), HQ⟩
    case rest =>
      obtain ⟨j2, rfl, j2a, j2b, HJ2, HS3⟩ := hcut
      rename World => wj2
      obtain ⟨G, hG, hcw, hfw⟩ := HS3.out.fam
      have HG := Lib.hid hG
      clear hG
      rw [HN.out] at hcw hfw
      by_cases hij2 : j2 < i2
      · have e := part_first_break ltInt d a b pivot rfl rfl HD1.out HI2.out.symm HJ2.out.symm hij2
        have hxc := fun v => (Su.stored HS3.out (i := j2) (v := v) (show j2 < d.size by rw [HN.out]; omega) (show a < d.size by rw [HN.out]; omega)).1
        have hxf := fun v => (Su.stored HS3.out (i := j2) (v := v) (show j2 < d.size by rw [HN.out]; omega) (show a < d.size by rw [HN.out]; omega)).2
        go_wp2_with fail
        go_region
        have hsw : Su w blk off d (((wj2.setCell ⟨blk, off + j2, none⟩ (.int .u64 (G a))).setCell ⟨blk, off + a, none⟩ (.int .u64 (G j2))).drew) (swp d1 j2 a) := (HS3.out.swapG (n := 0) HG.out (by rw [HN.out]; omega) (by rw [HN.out]; omega)).drewN 1
        generalize (((wj2.setCell ⟨blk, off + j2, none⟩ (.int .u64 (G a))).setCell ⟨blk, off + a, none⟩ (.int .u64 (G j2))).drew) = wn at hsw ⊢
        have HSN := Lib.hid hsw
        clear hsw hxc hxf hcw hfw HG
        go_wp2_with fail
        go_ret2
        exact ⟨by rw [e]; rfl, by rw [e]; exact HSN.out⟩
      · have hlt : i2 < j2 := part_scans_lt ltInt a (a + 1) (b - 1) d1 (by omega) HI2.out.symm HJ2.out.symm (by omega)
        have HE := Lib.hid (part_first_go ltInt d a b pivot rfl rfl HD1.out HI2.out.symm HJ2.out.symm hij2)
        go_wp2_with fail
        go_region
        have hsw : Su w blk off d (((wj2.setCell ⟨blk, off + i2, none⟩ (.int .u64 (G j2))).setCell ⟨blk, off + j2, none⟩ (.int .u64 (G i2))).drew) (swp d1 i2 j2) := (HS3.out.swapG (n := 0) HG.out (by rw [HN.out]; omega) (by rw [HN.out]; omega)).drewN 1
        generalize (((wj2.setCell ⟨blk, off + i2, none⟩ (.int .u64 (G j2))).setCell ⟨blk, off + j2, none⟩ (.int .u64 (G i2))).drew) = wn at hsw ⊢
        have HSN := Lib.hid hsw
        clear hsw hcw hfw HG
        obtain ⟨d2, hd2⟩ : ∃ d2, d2 = swp d1 i2 j2 := ⟨_, rfl⟩
        rw [← hd2] at HSN HE
        clear hd2
        go_wp2_with fail
        go_loopw [10, 11] (fun si sj wr => ∃ (i j : Nat) (dk : Array Int), si = .int .i64 i ∧ sj = .int .i64 j ∧ a < i ∧ i ≤ j + 1 ∧ j < b ∧ Hid (Su w blk off d wr dk) ∧ Hid (partLoop ltInt a i j dk = partLoop ltInt a (i2 + 1) (j2 - 1) d2)) (fun si sj _ => ((intOf sj) + 1 - (intOf si)).toNat)
        case atStart => exact ⟨i2 + 1, j2 - 1, d2, by go_num, by congr 1; omega, by omega, by omega, by omega, HSN, Lib.hid rfl⟩
        case round =>
          obtain ⟨i, j, dk, rfl, rfl, hai, hij, hjb, HS, HL⟩ := hrel
          rename World => wl
          go_upto_block 6 with (fail)
          go_cut [10] (fun s wx => ∃ k : Nat, s = .int .i64 k ∧ i ≤ k ∧ k ≤ j + 1 ∧ Hid (scanUp (fun x => ltInt x dk[a]!) dk j i = k) ∧ Hid (Su w blk off d wx dk))
          case first =>
            go_wp2
            go_loopw [10] (fun s wr => ∃ k : Nat, s = .int .i64 k ∧ i ≤ k ∧ k ≤ j + 1 ∧ Hid (scanUp (fun x => ltInt x dk[a]!) dk j k = scanUp (fun x => ltInt x dk[a]!) dk j i) ∧ Hid (Su w blk off d wr dk)) (fun s _ => j + 2 - (intOf s).toNat)
            case atStart => exact ⟨i, rfl, by omega, by omega, Lib.hid rfl, HS⟩
            case round =>
              obtain ⟨k, rfl, hk1, hk2, HU, HK⟩ := hrel
              rename World => wr1
              obtain ⟨G, hG, hcw, hfw⟩ := HK.out.fam
              have HG := Lib.hid hG
              clear hG
              rw [HN.out] at hcw hfw
              go_wp2
              by_cases hk : k ≤ j
              · go_quiet (first | (go_at_call 85; exact Calls.quiet_of_same (less_u _ _ _)))
                have HQ := Lib.hid (HK.out.drewN nq)
                go_wp2_with fail
                · have hp : (fun x => ltInt x dk[a]!) dk[k]! = true := by
                    show (ltInt (dk[k]!) (dk[a]!)) = true
                    rw [← HG.out, ← HG.out]
                    assumption
                  go_roundw
                  case rel => exact ⟨k + 1, by go_num, by omega, by omega, Lib.hid (by rw [← HU.out, scanUp_go _ _ _ _ hk hp]), HQ⟩
                  case measure => simp [intOf]; omega
                · have hp : (fun x => ltInt x dk[a]!) dk[k]! = false := by
                    show (ltInt (dk[k]!) (dk[a]!)) = false
                    rw [← HG.out, ← HG.out]
                    assumption
                  go_meet
                  exact ⟨k, rfl, hk1, hk2, Lib.hid (by rw [← HU.out]; exact scanUp_end _ _ _ _ (Or.inr hp)), HQ⟩
              · go_quiet (first | (go_at_call 85; exact Calls.quiet_of_same (less_u _ _ _)))
                have HQ := Lib.hid (HK.out.drewN nq)
                go_wp2_with fail
                go_meet
                exact ⟨k, rfl, hk1, hk2, Lib.hid (by rw [← HU.out]; exact scanUp_end _ _ _ _ (Or.inl hk)), HQ⟩
          case rest =>
            obtain ⟨i3, rfl, i3a, i3b, HI3, HS4⟩ := hcut
            rename World => wi3
            go_upto_block 8 with (fail)
            go_cut [11] (fun s wx => ∃ k : Nat, s = .int .i64 k ∧ k ≤ j ∧ i3 ≤ k + 1 ∧ Hid (scanDown (fun x => !ltInt x dk[a]!) dk i3 j = k) ∧ Hid (Su w blk off d wx dk))
            case first =>
              go_wp2
              go_loopw [11] (fun s wr => ∃ k : Nat, s = .int .i64 k ∧ k ≤ j ∧ i3 ≤ k + 1 ∧ Hid (scanDown (fun x => !ltInt x dk[a]!) dk i3 k = scanDown (fun x => !ltInt x dk[a]!) dk i3 j) ∧ Hid (Su w blk off d wr dk)) (fun s _ => (intOf s).toNat)
              case atStart => exact ⟨j, rfl, by omega, by omega, Lib.hid rfl, HS4⟩
              case round =>
                obtain ⟨k, rfl, hk1, hk2, HU, HK⟩ := hrel
                rename World => wr1
                obtain ⟨G, hG, hcw, hfw⟩ := HK.out.fam
                have HG := Lib.hid hG
                clear hG
                rw [HN.out] at hcw hfw
                go_wp2
                by_cases hk : i3 ≤ k
                · go_quiet (first | (go_at_call 85; exact Calls.quiet_of_same (less_u _ _ _)))
                  have HQ := Lib.hid (HK.out.drewN nq)
                  go_wp2_with fail
                  · have hp : (fun x => !ltInt x dk[a]!) dk[k]! = true := by
                      show (!ltInt (dk[k]!) (dk[a]!)) = true
                      rw [← HG.out, ← HG.out]
                      assumption
                    go_roundw
                    case rel => exact ⟨k - 1, by congr 1; omega, by omega, by omega, Lib.hid (by rw [← HU.out, scanDown_go _ _ _ _ hk (by omega) hp]), HQ⟩
                    case measure => simp [intOf]; omega
                  · have hp : (fun x => !ltInt x dk[a]!) dk[k]! = false := by
                      show (!ltInt (dk[k]!) (dk[a]!)) = false
                      rw [← HG.out, ← HG.out]
                      assumption
                    go_meet
                    exact ⟨k, rfl, hk1, hk2, Lib.hid (by rw [← HU.out]; exact scanDown_end _ _ _ _ (Or.inr hp)), HQ⟩
                · go_quiet (first | (go_at_call 85; exact Calls.quiet_of_same (less_u _ _ _)))
                  have HQ := Lib.hid (HK.out.drewN nq)
                  go_wp2_with fail
                  go_meet
                  exact ⟨k, rfl, hk1, hk2, Lib.hid (by rw [← HU.out]; exact scanDown_end _ _ _ _ (Or.inl hk)), HQ⟩
            case rest =>
              obtain ⟨j3, rfl, j3a, j3b, HJ3, HS5⟩ := hcut
              rename World => wj3
              obtain ⟨G, hG, hcw, hfw⟩ := HS5.out.fam
              have HG := Lib.hid hG
              clear hG
              rw [HN.out] at hcw hfw
              by_cases hij3 : j3 < i3
              · have e := part_break ltInt a i j dk HI3.out.symm HJ3.out.symm hij3
                rw [HL.out] at e
                have E := HE.out
                rw [e] at E
                have hxc := fun v => (Su.stored HS5.out (i := j3) (v := v) (show j3 < d.size by rw [HN.out]; omega) (show a < d.size by rw [HN.out]; omega)).1
                have hxf := fun v => (Su.stored HS5.out (i := j3) (v := v) (show j3 < d.size by rw [HN.out]; omega) (show a < d.size by rw [HN.out]; omega)).2
                go_wp2_with fail
                go_region
                have hsw : Su w blk off d (((wj3.setCell ⟨blk, off + j3, none⟩ (.int .u64 (G a))).setCell ⟨blk, off + a, none⟩ (.int .u64 (G j3))).drew) (swp dk j3 a) := (HS5.out.swapG (n := 0) HG.out (by rw [HN.out]; omega) (by rw [HN.out]; omega)).drewN 1
                generalize (((wj3.setCell ⟨blk, off + j3, none⟩ (.int .u64 (G a))).setCell ⟨blk, off + a, none⟩ (.int .u64 (G j3))).drew) = wm at hsw ⊢
                have HSM := Lib.hid hsw
                clear hsw hxc hxf hcw hfw HG
                go_wp2_with fail
                go_ret2
                exact ⟨by rw [E]; rfl, by rw [E]; exact HSM.out⟩
              · have hlt3 : i3 < j3 := part_scans_lt ltInt a i j dk (by omega) HI3.out.symm HJ3.out.symm (by omega)
                go_wp2_with fail
                go_region
                have hsw : Su w blk off d (((wj3.setCell ⟨blk, off + i3, none⟩ (.int .u64 (G j3))).setCell ⟨blk, off + j3, none⟩ (.int .u64 (G i3))).drew) (swp dk i3 j3) := (HS5.out.swapG (n := 0) HG.out (by rw [HN.out]; omega) (by rw [HN.out]; omega)).drewN 1
                generalize (((wj3.setCell ⟨blk, off + i3, none⟩ (.int .u64 (G j3))).setCell ⟨blk, off + j3, none⟩ (.int .u64 (G i3))).drew) = wm at hsw ⊢
                have HSM := Lib.hid hsw
                clear hsw hcw hfw HG
                go_wp2_with fail
                go_roundw
                case rel => exact ⟨i3 + 1, j3 - 1, _, by go_num, by congr 1; omega, by omega, by omega, by omega, HSM, Lib.hid (by rw [← HL.out, part_go ltInt a i j dk HI3.out.symm HJ3.out.symm (by omega)])⟩
                case measure => simp [intOf]; omega
end Go.Proofs.Ytlkhfhhaallhgaa

namespace Go.Proofs.Ytlkhfhhaallhgaa
set_option maxRecDepth 100000
open Go.Shelf
def sortSt_ren : Ren := ⟨fun | 6 => 39 | 15 => 53 | 14 => 52 | 28 => 72 | 29 => 73 | 20 => 64 | 21 => 65 | 22 => 66 | 23 => 67 | 24 => 68 | 25 => 69 | 26 => 70 | 27 => 71 | 46 => 88 | 47 => 89 | 48 => 90 | 49 => 91 | 50 => 92 | 57 => 97 | n => n, fun | 22 => 42 | 24 => 45 | 25 => 96 | 3 => 3 | 39 => 108 | 0 => 0 | 53 => 118 | 55 => 43 | 4 => 4 | 46 => 125 | 45 => 124 | 50 => 85 | 5 => 5 | 9 => 9 | 66 => 144 | 70 => 148 | 76 => 153 | 77 => 154 | n => n, fun | n => n⟩
theorem sortSt_lays : SlLaysF0.n6 Try.prog sortSt_ren := {
  mixed := by kernel_rfl
  f6 := ⟨Try.f39.name, by decide, Try.func39.trans (congrArg some (by kernel_rfl))⟩
  f14 := ⟨Try.f52.name, by decide, Try.func52.trans (congrArg some (by kernel_rfl))⟩
  f15 := Try.func53.trans (congrArg some (by kernel_rfl))
  f20 := ⟨Try.f64.name, by decide, Try.func64.trans (congrArg some (by kernel_rfl))⟩
  f21 := ⟨Try.f65.name, by decide, Try.func65.trans (congrArg some (by kernel_rfl))⟩
  f22 := ⟨Try.f66.name, by decide, Try.func66.trans (congrArg some (by kernel_rfl))⟩
  f23 := ⟨Try.f67.name, by decide, Try.func67.trans (congrArg some (by kernel_rfl))⟩
  f24 := ⟨Try.f68.name, by decide, Try.func68.trans (congrArg some (by kernel_rfl))⟩
  f25 := ⟨Try.f69.name, by decide, Try.func69.trans (congrArg some (by kernel_rfl))⟩
  f26 := ⟨Try.f70.name, by decide, Try.func70.trans (congrArg some (by kernel_rfl))⟩
  f27 := ⟨Try.f71.name, by decide, Try.func71.trans (congrArg some (by kernel_rfl))⟩
  f28 := Try.func72.trans (congrArg some (by kernel_rfl))
  f29 := Try.func73.trans (congrArg some (by kernel_rfl))
  f46 := ⟨Try.f88.name, by decide, Try.func88.trans (congrArg some (by kernel_rfl))⟩
  f47 := Try.func89.trans (congrArg some (by kernel_rfl))
  f48 := Try.func90.trans (congrArg some (by kernel_rfl))
  f49 := ⟨Try.f91.name, by decide, Try.func91.trans (congrArg some (by kernel_rfl))⟩
  f50 := ⟨Try.f92.name, by decide, Try.func92.trans (congrArg some (by kernel_rfl))⟩
  f57 := ⟨Try.f97.name, by decide, Try.func97.trans (congrArg some (by kernel_rfl))⟩
  t0 := Try.underlying0
  a0 := Try.isAgg0
  z0 := Try.sizeOf0
  v0 := Try.zeroValue0
  t3 := Try.underlying3
  a3 := Try.isAgg3
  z3 := Try.sizeOf3
  v3 := Try.zeroValue3
  t4 := Try.underlying4
  a4 := Try.isAgg4
  z4 := Try.sizeOf4
  v4 := Try.zeroValue4
  t5 := Try.underlying5
  a5 := Try.isAgg5
  z5 := Try.sizeOf5
  v5 := Try.zeroValue5
  t9 := Try.underlying9
  a9 := Try.isAgg9
  z9 := Try.sizeOf9
  v9 := Try.zeroValue9
  t22 := Try.underlying42
  a22 := Try.isAgg42
  z22 := Try.sizeOf42
  v22 := Try.zeroValue42
  t25 := Try.underlying96
  a25 := Try.isAgg96
  z25 := Try.sizeOf96
  v25 := Try.zeroValue96
  t39 := Try.underlying108
  a39 := Try.isAgg108
  z39 := Try.sizeOf108
  v39 := Try.zeroValue108
  t45 := Try.underlying124
  a45 := Try.isAgg124
  z45 := Try.sizeOf124
  v45 := Try.zeroValue124
  t46 := Try.underlying125
  a46 := Try.isAgg125
  z46 := Try.sizeOf125
  v46 := Try.zeroValue125
  t50 := Try.underlying85
  a50 := Try.isAgg85
  z50 := Try.sizeOf85
  v50 := Try.zeroValue85
  t53 := Try.underlying118
  a53 := Try.isAgg118
  z53 := Try.sizeOf118
  v53 := Try.zeroValue118
  t55 := Try.underlying43
  a55 := Try.isAgg43
  z55 := Try.sizeOf43
  v55 := Try.zeroValue43
  t66 := Try.underlying144
  a66 := Try.isAgg144
  z66 := Try.sizeOf144
  v66 := Try.zeroValue144
  t70 := Try.underlying148
  a70 := Try.isAgg148
  z70 := Try.sizeOf148
  v70 := Try.zeroValue148
  t76 := Try.underlying153
  a76 := Try.isAgg153
  z76 := Try.sizeOf153
  v76 := Try.zeroValue153
  t77 := Try.underlying154
  a77 := Try.isAgg154
  z77 := Try.sizeOf154
  v77 := Try.zeroValue154 }
def bitsLen_ren : Ren := ⟨fun | 125 => 53 | 128 => 72 | 129 => 73 | n => n, fun | 46 => 108 | 3 => 3 | 51 => 118 | 53 => 43 | 4 => 4 | 5 => 5 | 9 => 9 | n => n, fun | n => n⟩
theorem bitsLen_lays : Lays.n125 Try.prog bitsLen_ren := {
  mixed := by kernel_rfl
  f125 := Try.func53.trans (congrArg some (by kernel_rfl))
  f128 := Try.func72.trans (congrArg some (by kernel_rfl))
  f129 := Try.func73.trans (congrArg some (by kernel_rfl))
  t3 := Try.underlying3
  a3 := Try.isAgg3
  z3 := Try.sizeOf3
  v3 := Try.zeroValue3
  t4 := Try.underlying4
  a4 := Try.isAgg4
  z4 := Try.sizeOf4
  v4 := Try.zeroValue4
  t5 := Try.underlying5
  a5 := Try.isAgg5
  z5 := Try.sizeOf5
  v5 := Try.zeroValue5
  t9 := Try.underlying9
  a9 := Try.isAgg9
  z9 := Try.sizeOf9
  v9 := Try.zeroValue9
  t46 := Try.underlying108
  a46 := Try.isAgg108
  z46 := Try.sizeOf108
  v46 := Try.zeroValue108
  t51 := Try.underlying118
  a51 := Try.isAgg118
  z51 := Try.sizeOf118
  v51 := Try.zeroValue118
  t53 := Try.underlying43
  a53 := Try.isAgg43
  z53 := Try.sizeOf43
  v53 := Try.zeroValue43 }
end Go.Proofs.Ytlkhfhhaallhgaa
